/- SparseSpace, walked. -/
import Derived.Test.YtmbnlhedbedcdaaGreatVC
namespace Go.Proofs.YtmbnlhedbedcdaaGreat.V
open Go.RowKit
open Go.Proofs.YtmbnlhedbedcdaaGreat.Q (IsQ OneQ RetQ below_on ql Qbx)

structure Big (n : Nat) (w : World) : Prop where
  le : n ≤ w.heap.size
theorem Big.below {n : Nat} {w w' : World} (h : Big n w) (hb : Below w.heap.size w w') : Big n w' := ⟨Nat.le_trans h.le hb.size⟩
theorem samevec_e {w : World} {A B : Option Addr} {n c m d p l L : Nat} {F G : Int → Rat} (hx : CF w A n c F) (hy : CF w B m d G) (hF : Fn p l L F) (hL : L ≤ 1000) (e : F = G) : Calls Tryz.prog 14 #[.slice A n c, .slice B m d] w (RetB w true) := by
  refine samevec_c hx hy ?_ true ⟨fun _ => e, fun _ => rfl⟩
  obtain ⟨ys, h1, h2, _⟩ := hx.ex
  have h3 := is_len h2 hF
  rw [vals_len] at h3
  rw [h1.en]
  omega
theorem CF.le {w : World} {A : Option Addr} {n c p l L : Nat} {F : Int → Rat} (hx : CF w A n c F) (hF : Fn p l L F) (hL : L ≤ 1000) : n ≤ 1000000 := by
  obtain ⟨ys, h1, h2, _⟩ := hx.ex
  have h3 := is_len h2 hF
  rw [vals_len] at h3
  rw [h1.en]
  omega
/-- A vector that came in, short. -/
theorem IsV.fn {w : World} {A : Option Addr} {n c k L : Nat} {ys : List (TV × Rat)} (h : IsV w A n c ys k) (hk : 1 ≤ k) (hL : ys.length ≤ L) (hL2 : L ≤ 1000) : Fn (k * L + 1) (k * L + k + 1) L (tot (vals ys)) :=
  (short_fn (fun x hx => by obtain ⟨y, hy, rfl⟩ := List.mem_map.1 hx; exact (h.tq y hy).1.ql hk) (by rw [vals_len]; exact hL) hL2).1
theorem IsV.vf {w : World} {A : Option Addr} {n c k L : Nat} {ys : List (TV × Rat)} (h : IsV w A n c ys k) (hk : 1 ≤ k) (hL : ys.length ≤ L) (hL2 : L ≤ 1000) (hs : k * L + k + 1 ≤ 700) (hb : ∀ a, A = some a → a.block < w.heap.size) : VF w A n c (tot (vals ys)) := by
  have hk2 : k ≤ 700 := by omega
  refine ⟨⟨ys, ⟨h.en, h.cap, h.row, fun y hy => ⟨(h.tq y hy).1.mono hk2, (h.tq y hy).2⟩⟩, (short_fn (fun x hx => by obtain ⟨y, hy, rfl⟩ := List.mem_map.1 hx; exact (h.tq y hy).1.ql hk) (by rw [vals_len]; exact hL) hL2).2 hs, rfl⟩, by rw [h.en]; omega, hb⟩
theorem iff_dec (p : Prop) : ∃ v : Bool, v = true ↔ p := by
  by_cases h : p
  · exact ⟨true, fun _ => h, fun _ => rfl⟩
  · exact ⟨false, fun h2 => (by cases h2), fun h2 => absurd h2 h⟩

set_option maxRecDepth 100000 in
set_option maxHeartbeats 8000000 in
theorem space_walk (w : World) (Ax Ay Az : Option Addr) (nx cx ny cy nz cz lx ly lz : Nat) (xs ys zs : List (TV × Rat)) (hx : IsV w Ax nx cx xs lx) (hy : IsV w Ay ny cy ys ly) (hz : IsV w Az nz cz zs lz) (bx : ∀ a, Ax = some a → a.block < w.heap.size) (by_ : ∀ a, Ay = some a → a.block < w.heap.size) (bz : ∀ a, Az = some a → a.block < w.heap.size)
    (sa : Bool) (Aa : Option Addr) (na ca : Nat) (ta : Bool) (Ba : Option Addr) (ma da la : Nat) (qa : Rat) (ha : IsQ w sa Aa na ca ta Ba ma da qa la) (sb : Bool) (Ab : Option Addr) (nb cb : Nat) (tb : Bool) (Bb : Option Addr) (mb db lb : Nat) (qb : Rat) (hb : IsQ w sb Ab nb cb tb Bb mb db qb lb) (p : Int) (hp : -9223372036854775808 ≤ p ∧ p ≤ 9223372036854775807) :
    Calls Tryz.prog 5 #[.slice Ax nx cx, .slice Ay ny cy, .slice Az nz cz, .agg #[.bool sa, .slice Aa na ca, .bool ta, .slice Ba ma da], .agg #[.bool sb, .slice Ab nb cb, .bool tb, .slice Bb mb db], .int .i64 p] w (RetB w true) := by
  obtain ⟨vx, hvx⟩ := iff_dec (ShortAll xs 20 4)
  obtain ⟨vy, hvy⟩ := iff_dec (ShortAll ys 20 4)
  obtain ⟨vz, hvz⟩ := iff_dec (ShortAll zs 20 4)
  obtain ⟨va, hva⟩ : ∃ v, decide (na ≤ 4 ∧ ma ≤ 4) = v := ⟨_, rfl⟩
  obtain ⟨vb, hvb⟩ : ∃ v, decide (nb ≤ 4 ∧ mb ≤ 4) = v := ⟨_, rfl⟩
  have HVX := Lib.hid hvx
  have HVY := Lib.hid hvy
  have HVZ := Lib.hid hvz
  have HVA := Lib.hid hva
  have HVB := Lib.hid hvb
  have HPR := Lib.hid hp
  obtain ⟨W1, hW1⟩ : ∃ V, w.alloc (.cells #[.bool sa, .slice Aa na ca, .bool ta, .slice Ba ma da] 27) = V := ⟨_, rfl⟩
  obtain ⟨W0, hW0⟩ : ∃ V, W1.alloc (.cells #[.bool sb, .slice Ab nb cb, .bool tb, .slice Bb mb db] 27) = V := ⟨_, rfl⟩
  have hs1 : W1.heap.size = w.heap.size + 1 := by rw [← hW1]; simp
  have ba : Qbx W1 w.heap.size sa Aa na ca ta Ba ma da := by rw [← hW1]; exact Qbx.new _ _ rfl
  have bb : Qbx W0 W1.heap.size sb Ab nb cb tb Bb mb db := by rw [← hW0]; exact Qbx.new _ _ rfl
  have b1 : Below w.heap.size w W1 := by rw [← hW1]; exact (Below.refl _ _).alloc (Nat.le_refl _) _
  have b2 : Below W1.heap.size W1 W0 := by rw [← hW0]; exact (Below.refl _ _).alloc (Nat.le_refl _) _
  have b0 := below_on b1 b2
  rw [hs1] at bb
  have HBA := Lib.hid (ba.below b2)
  have HBB := Lib.hid bb
  have HB := Lib.hid b0
  have HX0 := Lib.hid (hx.below b0)
  have HY0 := Lib.hid (hy.below b0)
  have HZ0 := Lib.hid (hz.below b0)
  have HA0 := Lib.hid (ha.below b0)
  have HB0 := Lib.hid (hb.below b0)
  have HKX : Hid (∀ a, Ax = some a → a.block < W0.heap.size) := fun a h => Nat.lt_of_lt_of_le (bx a h) b0.size
  have HKY : Hid (∀ a, Ay = some a → a.block < W0.heap.size) := fun a h => Nat.lt_of_lt_of_le (by_ a h) b0.size
  have HKZ : Hid (∀ a, Az = some a → a.block < W0.heap.size) := fun a h => Nat.lt_of_lt_of_le (bz a h) b0.size
  clear hx hy hz bx by_ bz ha hb hvx hvy hvz hva hvb hp ba bb b1 b2 b0
  go_enter Tryz.func5, Tryz.ntmps5
  go_upto_region 1 with fail
  clear hW0 hW1 hs1
  have HSZ : Hid (Big W0.heap.size W0) := ⟨Nat.le_refl _⟩
  go_wp2_with fail
  refine (shortvec_any HX0.out 20 4 (by omega) vx HVX.out).mono ?_
  rintro e w1 ⟨rfl, hbx⟩
  replace HB := Lib.hid (below_on HB.out hbx)
  replace HSZ := Lib.hid (HSZ.out.below hbx)
  replace HX0 := Lib.hid (HX0.out.below hbx)
  replace HY0 := Lib.hid (HY0.out.below hbx)
  replace HZ0 := Lib.hid (HZ0.out.below hbx)
  replace HA0 := Lib.hid (HA0.out.below hbx)
  replace HB0 := Lib.hid (HB0.out.below hbx)
  replace HBA := Lib.hid (HBA.out.below hbx)
  replace HBB := Lib.hid (HBB.out.below hbx)
  clear hbx
  cases vx with
  | false =>
    go_wp2_with fail
    refine (awake_v _).mono ?_
    rintro e w2 ⟨rfl, hbx⟩
    replace HB := Lib.hid (below_on HB.out hbx)
    clear hbx
    go_wp2_with fail
    go_ret
    exact ⟨rfl, HB.out⟩
  | true =>
    go_wp2_with fail
    refine (shortvec_any HY0.out 20 4 (by omega) vy HVY.out).mono ?_
    rintro e w3 ⟨rfl, hbx⟩
    replace HB := Lib.hid (below_on HB.out hbx)
    replace HSZ := Lib.hid (HSZ.out.below hbx)
    replace HX0 := Lib.hid (HX0.out.below hbx)
    replace HY0 := Lib.hid (HY0.out.below hbx)
    replace HZ0 := Lib.hid (HZ0.out.below hbx)
    replace HA0 := Lib.hid (HA0.out.below hbx)
    replace HB0 := Lib.hid (HB0.out.below hbx)
    replace HBA := Lib.hid (HBA.out.below hbx)
    replace HBB := Lib.hid (HBB.out.below hbx)
    clear hbx
    cases vy with
    | false =>
      go_wp2_with fail
      refine (awake_v _).mono ?_
      rintro e w4 ⟨rfl, hbx⟩
      replace HB := Lib.hid (below_on HB.out hbx)
      clear hbx
      go_wp2_with fail
      go_ret
      exact ⟨rfl, HB.out⟩
    | true =>
      go_wp2_with fail
      refine (shortvec_any HZ0.out 20 4 (by omega) vz HVZ.out).mono ?_
      rintro e w5 ⟨rfl, hbx⟩
      replace HB := Lib.hid (below_on HB.out hbx)
      replace HSZ := Lib.hid (HSZ.out.below hbx)
      replace HX0 := Lib.hid (HX0.out.below hbx)
      replace HY0 := Lib.hid (HY0.out.below hbx)
      replace HZ0 := Lib.hid (HZ0.out.below hbx)
      replace HA0 := Lib.hid (HA0.out.below hbx)
      replace HB0 := Lib.hid (HB0.out.below hbx)
      replace HBA := Lib.hid (HBA.out.below hbx)
      replace HBB := Lib.hid (HBB.out.below hbx)
      clear hbx
      cases vz with
      | false =>
        go_wp2_with fail
        refine (awake_v _).mono ?_
        rintro e w6 ⟨rfl, hbx⟩
        replace HB := Lib.hid (below_on HB.out hbx)
        clear hbx
        go_wp2_with fail
        go_ret
        exact ⟨rfl, HB.out⟩
      | true =>
        have eHBA0 := HBA.out.c0
        have eHBA1 := HBA.out.c1
        have eHBA2 := HBA.out.c2
        have eHBA3 := HBA.out.c3
        go_wp2_with fail
        clear eHBA0 eHBA1 eHBA2 eHBA3
        refine (Q.shortrat_j _ _ _ _ _ _ _ _ _ 4 va HVA.out).mono ?_
        rintro e w7 ⟨rfl, hbx⟩
        replace HB := Lib.hid (below_on HB.out hbx)
        replace HSZ := Lib.hid (HSZ.out.below hbx)
        replace HX0 := Lib.hid (HX0.out.below hbx)
        replace HY0 := Lib.hid (HY0.out.below hbx)
        replace HZ0 := Lib.hid (HZ0.out.below hbx)
        replace HA0 := Lib.hid (HA0.out.below hbx)
        replace HB0 := Lib.hid (HB0.out.below hbx)
        replace HBA := Lib.hid (HBA.out.below hbx)
        replace HBB := Lib.hid (HBB.out.below hbx)
        clear hbx
        cases va with
        | false =>
          go_wp2_with fail
          refine (awake_v _).mono ?_
          rintro e w8 ⟨rfl, hbx⟩
          replace HB := Lib.hid (below_on HB.out hbx)
          clear hbx
          go_wp2_with fail
          go_ret
          exact ⟨rfl, HB.out⟩
        | true =>
          have eHBB0 := HBB.out.c0
          have eHBB1 := HBB.out.c1
          have eHBB2 := HBB.out.c2
          have eHBB3 := HBB.out.c3
          go_wp2_with fail
          clear eHBB0 eHBB1 eHBB2 eHBB3
          refine (Q.shortrat_j _ _ _ _ _ _ _ _ _ 4 vb HVB.out).mono ?_
          rintro e w9 ⟨rfl, hbx⟩
          replace HB := Lib.hid (below_on HB.out hbx)
          replace HSZ := Lib.hid (HSZ.out.below hbx)
          replace HX0 := Lib.hid (HX0.out.below hbx)
          replace HY0 := Lib.hid (HY0.out.below hbx)
          replace HZ0 := Lib.hid (HZ0.out.below hbx)
          replace HA0 := Lib.hid (HA0.out.below hbx)
          replace HB0 := Lib.hid (HB0.out.below hbx)
          replace HBA := Lib.hid (HBA.out.below hbx)
          replace HBB := Lib.hid (HBB.out.below hbx)
          clear hbx
          cases vb with
          | false =>
            go_wp2_with fail
            refine (awake_v _).mono ?_
            rintro e w10 ⟨rfl, hbx⟩
            replace HB := Lib.hid (below_on HB.out hbx)
            clear hbx
            go_wp2_with fail
            go_ret
            exact ⟨rfl, HB.out⟩
          | true =>
            have HLE : Hid (W0.heap.size ≤ w9.heap.size) := HSZ.out.le
            have HKXX : Hid (∀ a, Ax = some a → a.block < w9.heap.size) := fun a h => Nat.lt_of_lt_of_le (HKX.out a h) HLE.out
            have HKYY : Hid (∀ a, Ay = some a → a.block < w9.heap.size) := fun a h => Nat.lt_of_lt_of_le (HKY.out a h) HLE.out
            have HKZZ : Hid (∀ a, Az = some a → a.block < w9.heap.size) := fun a h => Nat.lt_of_lt_of_le (HKZ.out a h) HLE.out
            have hsx := HVX.out.mp trivial
            have hsy := HVY.out.mp trivial
            have hsz := HVZ.out.mp trivial
            have hsa := of_decide_eq_true HVA.out
            have hsb := of_decide_eq_true HVB.out
            obtain ⟨X, hX⟩ : ∃ X, tot (vals xs) = X := ⟨_, rfl⟩
            obtain ⟨Y, hY⟩ : ∃ X, tot (vals ys) = X := ⟨_, rfl⟩
            obtain ⟨Z, hZ⟩ : ∃ X, tot (vals zs) = X := ⟨_, rfl⟩
            have FX : Hid (Fn 81 85 20 X) := by rw [← hX]; exact (HX0.out.short hsx).fn (by omega) hsx.1 (by omega)
            have FY : Hid (Fn 81 85 20 Y) := by rw [← hY]; exact (HY0.out.short hsy).fn (by omega) hsy.1 (by omega)
            have FZ : Hid (Fn 81 85 20 Z) := by rw [← hZ]; exact (HZ0.out.short hsz).fn (by omega) hsz.1 (by omega)
            have hsz0 := HB.out.size
            have HX : Hid (VF w9 Ax nx cx X) := by rw [← hX]; exact (HX0.out.short hsx).vf (by omega) hsx.1 (by omega) (by omega) (fun a h => HKXX.out a h)
            have HY : Hid (VF w9 Ay ny cy Y) := by rw [← hY]; exact (HY0.out.short hsy).vf (by omega) hsy.1 (by omega) (by omega) (fun a h => HKYY.out a h)
            have HZ : Hid (VF w9 Az nz cz Z) := by rw [← hZ]; exact (HZ0.out.short hsz).vf (by omega) hsz.1 (by omega) (by omega) (fun a h => HKZZ.out a h)
            have HQA : Hid (IsQ w9 sa Aa na ca ta Ba ma da qa 4) := ⟨HA0.out.ex, hsa.1, hsa.2, HA0.out.cap, HA0.out.cap2⟩
            have HQB : Hid (IsQ w9 sb Ab nb cb tb Bb mb db qb 4) := ⟨HB0.out.ex, hsb.1, hsb.2, HB0.out.cap, HB0.out.cap2⟩
            have NMA : Hid (Nm 4 4 qa) := Nm.of_ql (HQA.out.ql (by omega))
            have NMB : Hid (Nm 4 4 qb) := Nm.of_ql (HQB.out.ql (by omega))
            have HNM1 : Hid (Nm 1 1 (-1)) := Nm.of_ql (by
              show max (zl (-1 : Rat).num) (dig (-1 : Rat).den).length ≤ 1
              have e1 : zl (-1 : Rat).num ≤ 1 := zl_small (by decide +kernel) (by decide +kernel)
              have e2 : (dig (-1 : Rat).den).length ≤ 1 := dig_length_le (by rw [B64_eq]; decide +kernel)
              omega)
            clear HX0 HY0 HZ0 HA0 HB0 hsx hsy hsz hsa hsb hX hY hZ hsz0 HVX HVY HVZ HVA HVB HKX HKY HKZ HKXX HKYY HKZZ HSZ HLE
            have E1 : Hid (fadd X Y = fadd Y X) := by
              show _ = _
              funext a
              (try unfold fadd); (try unfold fmul)
              grind
            have E2 : Hid (fadd (fadd X Y) Z = fadd X (fadd Y Z)) := by
              show _ = _
              funext a
              (try unfold fadd); (try unfold fmul)
              grind
            have E4 : Hid (fadd (fadd X Y) (fmul (-1) Y) = X) := by
              show _ = _
              funext a
              (try unfold fadd); (try unfold fmul)
              grind
            have E3 : Hid (∀ a, fadd X (fmul (-1) X) a = 0) := by
              show ∀ a, _ = _
              intro a
              unfold fadd fmul
              grind
            have E5 : Hid (fmul qa (fadd X Y) = fadd (fmul qa X) (fmul qa Y)) := by
              show _ = _
              funext a
              (try unfold fadd); (try unfold fmul)
              grind
            have E6 : Hid (fmul (qa + qb) X = fadd (fmul qa X) (fmul qb X)) := by
              show _ = _
              funext a
              (try unfold fadd); (try unfold fmul)
              grind
            have E7 : Hid (fmul (qa * qb) X = fmul qa (fmul qb X)) := by
              show _ = _
              funext a
              (try unfold fadd); (try unfold fmul)
              grind
            have E9 : Hid (putAt (putAt X p qb) p (X p) = X) := by
              show _ = _
              funext a
              (try unfold fadd); (try unfold fmul)
              unfold putAt
              split
              · next e => rw [e]
              · rfl
            have E10 : Hid (putAt X p qb p = qb) := if_pos rfl
            go_upto_region 4 with fail
            go_wp2_with fail
            refine (add_c HX.out HY.out rfl (FX.out.add FY.out) (by omega) (by omega)).mono ?_
            rintro e w11 ⟨G11, n11, c11, rfl, hc, hbx⟩
            replace HB := Lib.hid (below_on HB.out hbx)
            replace HX := Lib.hid (HX.out.below hbx)
            replace HY := Lib.hid (HY.out.below hbx)
            replace HZ := Lib.hid (HZ.out.below hbx)
            replace HQA := Lib.hid (HQA.out.below hbx)
            replace HQB := Lib.hid (HQB.out.below hbx)
            replace HBA := Lib.hid (HBA.out.below hbx)
            replace HBB := Lib.hid (HBB.out.below hbx)
            have HC11 := Lib.hid hc
            clear hc hbx
            go_wp2_with fail
            refine (add_c HY.out HX.out rfl (FY.out.add FX.out) (by omega) (by omega)).mono ?_
            rintro e w12 ⟨G12, n12, c12, rfl, hc, hbx⟩
            replace HB := Lib.hid (below_on HB.out hbx)
            replace HX := Lib.hid (HX.out.below hbx)
            replace HY := Lib.hid (HY.out.below hbx)
            replace HZ := Lib.hid (HZ.out.below hbx)
            replace HQA := Lib.hid (HQA.out.below hbx)
            replace HQB := Lib.hid (HQB.out.below hbx)
            replace HBA := Lib.hid (HBA.out.below hbx)
            replace HBB := Lib.hid (HBB.out.below hbx)
            replace HC11 := Lib.hid (HC11.out.below hbx)
            have HC12 := Lib.hid hc
            clear hc hbx
            go_wp2_with fail
            refine (samevec_e HC11.out HC12.out (FX.out.add FY.out) (by omega) E1.out).mono ?_
            rintro e w13 ⟨rfl, hbx⟩
            replace HB := Lib.hid (below_on HB.out hbx)
            replace HX := Lib.hid (HX.out.below hbx)
            replace HY := Lib.hid (HY.out.below hbx)
            replace HZ := Lib.hid (HZ.out.below hbx)
            replace HQA := Lib.hid (HQA.out.below hbx)
            replace HQB := Lib.hid (HQB.out.below hbx)
            replace HBA := Lib.hid (HBA.out.below hbx)
            replace HBB := Lib.hid (HBB.out.below hbx)
            replace HC11 := Lib.hid (HC11.out.below hbx)
            replace HC12 := Lib.hid (HC12.out.below hbx)
            clear hbx
            clear HC11 HC12
            go_wp2_with fail
            refine (add_c HX.out HY.out rfl (FX.out.add FY.out) (by omega) (by omega)).mono ?_
            rintro e w14 ⟨G14, n14, c14, rfl, hc, hbx⟩
            replace HB := Lib.hid (below_on HB.out hbx)
            replace HX := Lib.hid (HX.out.below hbx)
            replace HY := Lib.hid (HY.out.below hbx)
            replace HZ := Lib.hid (HZ.out.below hbx)
            replace HQA := Lib.hid (HQA.out.below hbx)
            replace HQB := Lib.hid (HQB.out.below hbx)
            replace HBA := Lib.hid (HBA.out.below hbx)
            replace HBB := Lib.hid (HBB.out.below hbx)
            have HC14 := Lib.hid hc
            clear hc hbx
            go_wp2_with fail
            refine (add_c (HC14.out.vf (FX.out.add FY.out) (by omega) (by omega) (by omega)) HZ.out rfl ((FX.out.add FY.out).add FZ.out) (by omega) (by omega)).mono ?_
            rintro e w15 ⟨G15, n15, c15, rfl, hc, hbx⟩
            replace HB := Lib.hid (below_on HB.out hbx)
            replace HX := Lib.hid (HX.out.below hbx)
            replace HY := Lib.hid (HY.out.below hbx)
            replace HZ := Lib.hid (HZ.out.below hbx)
            replace HQA := Lib.hid (HQA.out.below hbx)
            replace HQB := Lib.hid (HQB.out.below hbx)
            replace HBA := Lib.hid (HBA.out.below hbx)
            replace HBB := Lib.hid (HBB.out.below hbx)
            replace HC14 := Lib.hid (HC14.out.below hbx)
            have HC15 := Lib.hid hc
            clear hc hbx
            go_wp2_with fail
            refine (add_c HY.out HZ.out rfl (FY.out.add FZ.out) (by omega) (by omega)).mono ?_
            rintro e w16 ⟨G16, n16, c16, rfl, hc, hbx⟩
            replace HB := Lib.hid (below_on HB.out hbx)
            replace HX := Lib.hid (HX.out.below hbx)
            replace HY := Lib.hid (HY.out.below hbx)
            replace HZ := Lib.hid (HZ.out.below hbx)
            replace HQA := Lib.hid (HQA.out.below hbx)
            replace HQB := Lib.hid (HQB.out.below hbx)
            replace HBA := Lib.hid (HBA.out.below hbx)
            replace HBB := Lib.hid (HBB.out.below hbx)
            replace HC14 := Lib.hid (HC14.out.below hbx)
            replace HC15 := Lib.hid (HC15.out.below hbx)
            have HC16 := Lib.hid hc
            clear hc hbx
            go_wp2_with fail
            refine (add_c HX.out (HC16.out.vf (FY.out.add FZ.out) (by omega) (by omega) (by omega)) rfl (FX.out.add (FY.out.add FZ.out)) (by omega) (by omega)).mono ?_
            rintro e w17 ⟨G17, n17, c17, rfl, hc, hbx⟩
            replace HB := Lib.hid (below_on HB.out hbx)
            replace HX := Lib.hid (HX.out.below hbx)
            replace HY := Lib.hid (HY.out.below hbx)
            replace HZ := Lib.hid (HZ.out.below hbx)
            replace HQA := Lib.hid (HQA.out.below hbx)
            replace HQB := Lib.hid (HQB.out.below hbx)
            replace HBA := Lib.hid (HBA.out.below hbx)
            replace HBB := Lib.hid (HBB.out.below hbx)
            replace HC14 := Lib.hid (HC14.out.below hbx)
            replace HC15 := Lib.hid (HC15.out.below hbx)
            replace HC16 := Lib.hid (HC16.out.below hbx)
            have HC17 := Lib.hid hc
            clear hc hbx
            go_wp2_with fail
            refine (samevec_e HC15.out HC17.out ((FX.out.add FY.out).add FZ.out) (by omega) E2.out).mono ?_
            rintro e w18 ⟨rfl, hbx⟩
            replace HB := Lib.hid (below_on HB.out hbx)
            replace HX := Lib.hid (HX.out.below hbx)
            replace HY := Lib.hid (HY.out.below hbx)
            replace HZ := Lib.hid (HZ.out.below hbx)
            replace HQA := Lib.hid (HQA.out.below hbx)
            replace HQB := Lib.hid (HQB.out.below hbx)
            replace HBA := Lib.hid (HBA.out.below hbx)
            replace HBB := Lib.hid (HBB.out.below hbx)
            replace HC14 := Lib.hid (HC14.out.below hbx)
            replace HC15 := Lib.hid (HC15.out.below hbx)
            replace HC16 := Lib.hid (HC16.out.below hbx)
            replace HC17 := Lib.hid (HC17.out.below hbx)
            clear hbx
            clear HC14 HC15 HC16 HC17
            go_wp2_with fail
            refine (Q.of_q _ (-1) (1) (by omega) (by omega) (by omega) (by omega) (-1) (by decide +kernel)).mono ?_
            rintro e w19 ⟨s19, A19, m19, c19, t19, B19, l19, d19, rfl, ho, hbx⟩
            replace HB := Lib.hid (below_on HB.out hbx)
            replace HX := Lib.hid (HX.out.below hbx)
            replace HY := Lib.hid (HY.out.below hbx)
            replace HZ := Lib.hid (HZ.out.below hbx)
            replace HQA := Lib.hid (HQA.out.below hbx)
            replace HQB := Lib.hid (HQB.out.below hbx)
            replace HBA := Lib.hid (HBA.out.below hbx)
            replace HBB := Lib.hid (HBB.out.below hbx)
            have HN19 := Lib.hid ho
            clear ho hbx
            go_wp2_with fail
            refine (axpy_c (HN19.out.isq (k := 700) (HNM1.out.ql (by omega) (by omega))) HX.out HX.out rfl (FX.out.add (Fn.mul HNM1.out FX.out)) (by omega) (by omega) (Fn.mul HNM1.out FX.out) (by omega) (by omega)).mono ?_
            rintro e w20 ⟨G20, n20, c20, rfl, hc, hbx⟩
            replace HB := Lib.hid (below_on HB.out hbx)
            replace HX := Lib.hid (HX.out.below hbx)
            replace HY := Lib.hid (HY.out.below hbx)
            replace HZ := Lib.hid (HZ.out.below hbx)
            replace HQA := Lib.hid (HQA.out.below hbx)
            replace HQB := Lib.hid (HQB.out.below hbx)
            replace HBA := Lib.hid (HBA.out.below hbx)
            replace HBB := Lib.hid (HBB.out.below hbx)
            replace HN19 := Lib.hid (HN19.out.below hbx)
            have HC20 := Lib.hid hc
            clear hc hbx
            have hzz : n20 = 0 := HC20.out.empty E3.out
            have hz0 : ((n20 : Int) == 0) = true := by rw [hzz]; rfl
            clear hzz
            clear HN19 HC20
            go_wp2_with fail
            refine (add_c HX.out HY.out rfl (FX.out.add FY.out) (by omega) (by omega)).mono ?_
            rintro e w21 ⟨G21, n21, c21, rfl, hc, hbx⟩
            replace HB := Lib.hid (below_on HB.out hbx)
            replace HX := Lib.hid (HX.out.below hbx)
            replace HY := Lib.hid (HY.out.below hbx)
            replace HZ := Lib.hid (HZ.out.below hbx)
            replace HQA := Lib.hid (HQA.out.below hbx)
            replace HQB := Lib.hid (HQB.out.below hbx)
            replace HBA := Lib.hid (HBA.out.below hbx)
            replace HBB := Lib.hid (HBB.out.below hbx)
            have HC21 := Lib.hid hc
            clear hc hbx
            clear hz0
            go_wp2_with fail
            refine (Q.of_q _ (-1) (1) (by omega) (by omega) (by omega) (by omega) (-1) (by decide +kernel)).mono ?_
            rintro e w22 ⟨s22, A22, m22, c22, t22, B22, l22, d22, rfl, ho, hbx⟩
            replace HB := Lib.hid (below_on HB.out hbx)
            replace HX := Lib.hid (HX.out.below hbx)
            replace HY := Lib.hid (HY.out.below hbx)
            replace HZ := Lib.hid (HZ.out.below hbx)
            replace HQA := Lib.hid (HQA.out.below hbx)
            replace HQB := Lib.hid (HQB.out.below hbx)
            replace HBA := Lib.hid (HBA.out.below hbx)
            replace HBB := Lib.hid (HBB.out.below hbx)
            replace HC21 := Lib.hid (HC21.out.below hbx)
            have HN22 := Lib.hid ho
            clear ho hbx
            go_wp2_with fail
            refine (axpy_c (HN22.out.isq (k := 700) (HNM1.out.ql (by omega) (by omega))) (HC21.out.vf (FX.out.add FY.out) (by omega) (by omega) (by omega)) HY.out rfl ((FX.out.add FY.out).add (Fn.mul HNM1.out FY.out)) (by omega) (by omega) (Fn.mul HNM1.out FY.out) (by omega) (by omega)).mono ?_
            rintro e w23 ⟨G23, n23, c23, rfl, hc, hbx⟩
            replace HB := Lib.hid (below_on HB.out hbx)
            replace HX := Lib.hid (HX.out.below hbx)
            replace HY := Lib.hid (HY.out.below hbx)
            replace HZ := Lib.hid (HZ.out.below hbx)
            replace HQA := Lib.hid (HQA.out.below hbx)
            replace HQB := Lib.hid (HQB.out.below hbx)
            replace HBA := Lib.hid (HBA.out.below hbx)
            replace HBB := Lib.hid (HBB.out.below hbx)
            replace HC21 := Lib.hid (HC21.out.below hbx)
            replace HN22 := Lib.hid (HN22.out.below hbx)
            have HC23 := Lib.hid hc
            clear hc hbx
            go_wp2_with fail
            refine (norm_c HX.out FX.out (by omega) (by omega)).mono ?_
            rintro e w24 ⟨G24, n24, c24, rfl, hc, hbx⟩
            replace HB := Lib.hid (below_on HB.out hbx)
            replace HX := Lib.hid (HX.out.below hbx)
            replace HY := Lib.hid (HY.out.below hbx)
            replace HZ := Lib.hid (HZ.out.below hbx)
            replace HQA := Lib.hid (HQA.out.below hbx)
            replace HQB := Lib.hid (HQB.out.below hbx)
            replace HBA := Lib.hid (HBA.out.below hbx)
            replace HBB := Lib.hid (HBB.out.below hbx)
            replace HC21 := Lib.hid (HC21.out.below hbx)
            replace HN22 := Lib.hid (HN22.out.below hbx)
            replace HC23 := Lib.hid (HC23.out.below hbx)
            have HC24 := Lib.hid hc
            clear hc hbx
            go_wp2_with fail
            refine (samevec_e HC23.out HC24.out ((FX.out.add FY.out).add (Fn.mul HNM1.out FY.out)) (by omega) E4.out).mono ?_
            rintro e w25 ⟨rfl, hbx⟩
            replace HB := Lib.hid (below_on HB.out hbx)
            replace HX := Lib.hid (HX.out.below hbx)
            replace HY := Lib.hid (HY.out.below hbx)
            replace HZ := Lib.hid (HZ.out.below hbx)
            replace HQA := Lib.hid (HQA.out.below hbx)
            replace HQB := Lib.hid (HQB.out.below hbx)
            replace HBA := Lib.hid (HBA.out.below hbx)
            replace HBB := Lib.hid (HBB.out.below hbx)
            replace HC21 := Lib.hid (HC21.out.below hbx)
            replace HN22 := Lib.hid (HN22.out.below hbx)
            replace HC23 := Lib.hid (HC23.out.below hbx)
            replace HC24 := Lib.hid (HC24.out.below hbx)
            clear hbx
            clear HC21 HN22 HC23 HC24
            go_upto_region 5 with fail
            as_aux_lemma =>
             replace HB := Lib.hid HB.out.drew
             replace HX := Lib.hid (HX.out.below (Below.refl _ _).drew)
             replace HY := Lib.hid (HY.out.below (Below.refl _ _).drew)
             replace HZ := Lib.hid (HZ.out.below (Below.refl _ _).drew)
             replace HQA := Lib.hid (HQA.out.below (Below.refl _ _).drew)
             replace HQB := Lib.hid (HQB.out.below (Below.refl _ _).drew)
             replace HBA := Lib.hid (HBA.out.below (Below.refl _ _).drew)
             replace HBB := Lib.hid (HBB.out.below (Below.refl _ _).drew)
             refine wp_region_held_drew (S := (fun V => V.cell? ⟨w.heap.size, 0, none⟩ = some (.bool sa) ∧ V.cell? ⟨w.heap.size, 1, none⟩ = some (.slice Aa na ca) ∧ V.cell? ⟨w.heap.size, 2, none⟩ = some (.bool ta) ∧ V.cell? ⟨w.heap.size, 3, none⟩ = some (.slice Ba ma da) ∧ V.cell? ⟨w.heap.size + 1, 0, none⟩ = some (.bool sb) ∧ V.cell? ⟨w.heap.size + 1, 1, none⟩ = some (.slice Ab nb cb) ∧ V.cell? ⟨w.heap.size + 1, 2, none⟩ = some (.bool tb) ∧ V.cell? ⟨w.heap.size + 1, 3, none⟩ = some (.slice Bb mb db))) (by kernel_rfl) (by with_reducible exact ⟨HBA.out.c0, HBA.out.c1, HBA.out.c2, HBA.out.c3, HBB.out.c0, HBB.out.c1, HBB.out.c2, HBB.out.c3⟩) (fun hHeld => ?_)
             refine' wpAnyH_take (i := 0) (v := _) rfl (by kernel_rfl) (by kernel_rfl) (by kernel_rfl) (fun _ _ _ h => h) (Or.inl ⟨by rfl, ?hy1⟩) (by assumption) ?rest1
             case hy1 => (intro w hSw; (try dsimp only at hSw); try simp only [List.getElem_toArray, List.getElem_cons_zero]; go_simp; (try with_reducible rfl))
             try simp only [List.getElem_toArray, List.getElem_cons_zero]
             try simp only [Act.put, List.setIfInBounds_toArray, List.set_cons_zero, List.set_cons_succ]
             refine' wpAnyH_take (i := 1) (v := _) rfl (by kernel_rfl) (by kernel_rfl) (by kernel_rfl) (fun _ _ _ h => h) (Or.inl ⟨by rfl, ?hy2⟩) (by assumption) ?rest2
             case hy2 => (intro w hSw; (try dsimp only at hSw); try simp only [List.getElem_toArray, List.getElem_cons_zero, List.getElem_cons_succ]; go_simp; (try with_reducible rfl))
             try simp only [List.getElem_toArray, List.getElem_cons_zero, List.getElem_cons_succ]
             try simp only [Act.put, List.setIfInBounds_toArray, List.set_cons_zero, List.set_cons_succ]
             refine' wpAnyH_take (i := 2) (v := _) rfl (by kernel_rfl) (by kernel_rfl) (by kernel_rfl) (fun _ _ _ h => h) (Or.inl ⟨by rfl, ?hy3⟩) (by assumption) ?rest3
             case hy3 => (intro w hSw; (try dsimp only at hSw); try simp only [List.getElem_toArray, List.getElem_cons_zero, List.getElem_cons_succ]; go_simp; (try with_reducible rfl))
             try simp only [List.getElem_toArray, List.getElem_cons_zero, List.getElem_cons_succ]
             try simp only [Act.put, List.setIfInBounds_toArray, List.set_cons_zero, List.set_cons_succ]
             refine' wpAnyH_take (i := 3) (v := _) rfl (by kernel_rfl) (by kernel_rfl) (by kernel_rfl) (fun _ _ _ h => h) (Or.inl ⟨by rfl, ?hy4⟩) (by assumption) ?rest4
             case hy4 => (intro w hSw; (try dsimp only at hSw); try simp only [List.getElem_toArray, List.getElem_cons_zero, List.getElem_cons_succ]; go_simp; (try with_reducible rfl))
             try simp only [List.getElem_toArray, List.getElem_cons_zero, List.getElem_cons_succ]
             try simp only [Act.put, List.setIfInBounds_toArray, List.set_cons_zero, List.set_cons_succ]
             refine' wpAnyH_take (i := 6) (v := _) rfl (by kernel_rfl) (by kernel_rfl) (by kernel_rfl) (fun _ _ _ h => h) (Or.inl ⟨by rfl, ?hy5⟩) (by assumption) ?rest5
             case hy5 => (intro w hSw; (try dsimp only at hSw); try simp only [List.getElem_toArray, List.getElem_cons_zero, List.getElem_cons_succ]; go_simp; (try with_reducible rfl))
             try simp only [List.getElem_toArray, List.getElem_cons_zero, List.getElem_cons_succ]
             try simp only [Act.put, List.setIfInBounds_toArray, List.set_cons_zero, List.set_cons_succ]
             refine' wpAnyH_take (i := 7) (v := _) rfl (by kernel_rfl) (by kernel_rfl) (by kernel_rfl) (fun _ _ _ h => h) (Or.inl ⟨by rfl, ?hy6⟩) (by assumption) ?rest6
             case hy6 => (intro w hSw; (try dsimp only at hSw); try simp only [List.getElem_toArray, List.getElem_cons_zero, List.getElem_cons_succ]; go_simp; (try with_reducible rfl))
             try simp only [List.getElem_toArray, List.getElem_cons_zero, List.getElem_cons_succ]
             try simp only [Act.put, List.setIfInBounds_toArray, List.set_cons_zero, List.set_cons_succ]
             refine' wpAnyH_take (i := 9) (v := _) rfl (by kernel_rfl) (by kernel_rfl) (by kernel_rfl) (fun _ _ _ h => h) (Or.inl ⟨by rfl, ?hy7⟩) (by assumption) ?rest7
             case hy7 => (intro w hSw; (try dsimp only at hSw); try simp only [List.getElem_toArray, List.getElem_cons_zero, List.getElem_cons_succ]; go_simp; (try with_reducible rfl))
             try simp only [List.getElem_toArray, List.getElem_cons_zero, List.getElem_cons_succ]
             try simp only [Act.put, List.setIfInBounds_toArray, List.set_cons_zero, List.set_cons_succ]
             refine' wpAnyH_take (i := 10) (v := _) rfl (by kernel_rfl) (by kernel_rfl) (by kernel_rfl) (fun _ _ _ h => h) (Or.inl ⟨by rfl, ?hy8⟩) (by assumption) ?rest8
             case hy8 => (intro w hSw; (try dsimp only at hSw); try simp only [List.getElem_toArray, List.getElem_cons_zero, List.getElem_cons_succ]; go_simp; (try with_reducible rfl))
             try simp only [List.getElem_toArray, List.getElem_cons_zero, List.getElem_cons_succ]
             try simp only [Act.put, List.setIfInBounds_toArray, List.set_cons_zero, List.set_cons_succ]
             refine wpAnyH_ready (rs := [4]) (by kernel_rfl) (by simp) ?_
             refine AllReadyH.cons rfl (fun K hK => ?_) AllReadyH.nil
             try simp only [List.getElem_toArray, List.getElem_cons_zero, List.getElem_cons_succ]
             go_simp
             with_reducible refine (add_c HX.out HY.out rfl (FX.out.add FY.out) (by omega) (by omega)).mono ?_
             rintro e w26 ⟨G26, n26, c26, rfl, hc, hbx⟩
             replace HB := Lib.hid (below_on HB.out hbx)
             replace HX := Lib.hid (HX.out.below hbx)
             replace HY := Lib.hid (HY.out.below hbx)
             replace HZ := Lib.hid (HZ.out.below hbx)
             replace HQA := Lib.hid (HQA.out.below hbx)
             replace HQB := Lib.hid (HQB.out.below hbx)
             replace HBA := Lib.hid (HBA.out.below hbx)
             replace HBB := Lib.hid (HBB.out.below hbx)
             refine hK.out _ _ (by with_reducible exact ⟨HBA.out.c0, HBA.out.c1, HBA.out.c2, HBA.out.c3, HBB.out.c0, HBB.out.c1, HBB.out.c2, HBB.out.c3⟩) (fun hHeld => ?_)
             clear hK K
             try simp only [Act.put, List.setIfInBounds_toArray, List.set_cons_zero, List.set_cons_succ]
             have HC26 := Lib.hid hc
             clear hc hbx
             refine wpAnyH_ready (rs := [5]) (by kernel_rfl) (by simp) ?_
             refine AllReadyH.cons rfl (fun K hK => ?_) AllReadyH.nil
             try simp only [List.getElem_toArray, List.getElem_cons_zero, List.getElem_cons_succ]
             go_simp
             with_reducible refine (scale_c (HQA.out.mono (l := 700) (by omega)) (HC26.out.vf (FX.out.add FY.out) (by omega) (by omega) (by omega)) rfl (Fn.mul NMA.out (FX.out.add FY.out)) (by omega) (by omega)).mono ?_
             rintro e w27 ⟨G27, n27, c27, rfl, hc, hbx⟩
             replace HB := Lib.hid (below_on HB.out hbx)
             replace HX := Lib.hid (HX.out.below hbx)
             replace HY := Lib.hid (HY.out.below hbx)
             replace HZ := Lib.hid (HZ.out.below hbx)
             replace HQA := Lib.hid (HQA.out.below hbx)
             replace HQB := Lib.hid (HQB.out.below hbx)
             replace HBA := Lib.hid (HBA.out.below hbx)
             replace HBB := Lib.hid (HBB.out.below hbx)
             replace HC26 := Lib.hid (HC26.out.below hbx)
             refine hK.out _ _ (by with_reducible exact ⟨HBA.out.c0, HBA.out.c1, HBA.out.c2, HBA.out.c3, HBB.out.c0, HBB.out.c1, HBB.out.c2, HBB.out.c3⟩) (fun hHeld => ?_)
             clear hK K
             try simp only [Act.put, List.setIfInBounds_toArray, List.set_cons_zero, List.set_cons_succ]
             have HC27 := Lib.hid hc
             clear hc hbx
             refine wpAnyH_ready (rs := [8]) (by kernel_rfl) (by simp) ?_
             refine AllReadyH.cons rfl (fun K hK => ?_) AllReadyH.nil
             try simp only [List.getElem_toArray, List.getElem_cons_zero, List.getElem_cons_succ]
             go_simp
             with_reducible refine (scale_c (HQA.out.mono (l := 700) (by omega)) HX.out rfl (Fn.mul NMA.out FX.out) (by omega) (by omega)).mono ?_
             rintro e w28 ⟨G28, n28, c28, rfl, hc, hbx⟩
             replace HB := Lib.hid (below_on HB.out hbx)
             replace HX := Lib.hid (HX.out.below hbx)
             replace HY := Lib.hid (HY.out.below hbx)
             replace HZ := Lib.hid (HZ.out.below hbx)
             replace HQA := Lib.hid (HQA.out.below hbx)
             replace HQB := Lib.hid (HQB.out.below hbx)
             replace HBA := Lib.hid (HBA.out.below hbx)
             replace HBB := Lib.hid (HBB.out.below hbx)
             replace HC26 := Lib.hid (HC26.out.below hbx)
             replace HC27 := Lib.hid (HC27.out.below hbx)
             refine hK.out _ _ (by with_reducible exact ⟨HBA.out.c0, HBA.out.c1, HBA.out.c2, HBA.out.c3, HBB.out.c0, HBB.out.c1, HBB.out.c2, HBB.out.c3⟩) (fun hHeld => ?_)
             clear hK K
             try simp only [Act.put, List.setIfInBounds_toArray, List.set_cons_zero, List.set_cons_succ]
             have HC28 := Lib.hid hc
             clear hc hbx
             refine wpAnyH_ready (rs := [11]) (by kernel_rfl) (by simp) ?_
             refine AllReadyH.cons rfl (fun K hK => ?_) AllReadyH.nil
             try simp only [List.getElem_toArray, List.getElem_cons_zero, List.getElem_cons_succ]
             go_simp
             with_reducible refine (scale_c (HQA.out.mono (l := 700) (by omega)) HY.out rfl (Fn.mul NMA.out FY.out) (by omega) (by omega)).mono ?_
             rintro e w29 ⟨G29, n29, c29, rfl, hc, hbx⟩
             replace HB := Lib.hid (below_on HB.out hbx)
             replace HX := Lib.hid (HX.out.below hbx)
             replace HY := Lib.hid (HY.out.below hbx)
             replace HZ := Lib.hid (HZ.out.below hbx)
             replace HQA := Lib.hid (HQA.out.below hbx)
             replace HQB := Lib.hid (HQB.out.below hbx)
             replace HBA := Lib.hid (HBA.out.below hbx)
             replace HBB := Lib.hid (HBB.out.below hbx)
             replace HC26 := Lib.hid (HC26.out.below hbx)
             replace HC27 := Lib.hid (HC27.out.below hbx)
             replace HC28 := Lib.hid (HC28.out.below hbx)
             refine hK.out _ _ (by with_reducible exact ⟨HBA.out.c0, HBA.out.c1, HBA.out.c2, HBA.out.c3, HBB.out.c0, HBB.out.c1, HBB.out.c2, HBB.out.c3⟩) (fun hHeld => ?_)
             clear hK K
             try simp only [Act.put, List.setIfInBounds_toArray, List.set_cons_zero, List.set_cons_succ]
             have HC29 := Lib.hid hc
             clear hc hbx
             refine wpAnyH_ready (rs := [12]) (by kernel_rfl) (by simp) ?_
             refine AllReadyH.cons rfl (fun K hK => ?_) AllReadyH.nil
             try simp only [List.getElem_toArray, List.getElem_cons_zero, List.getElem_cons_succ]
             go_simp
             with_reducible refine (add_c (HC28.out.vf (Fn.mul NMA.out FX.out) (by omega) (by omega) (by omega)) (HC29.out.vf (Fn.mul NMA.out FY.out) (by omega) (by omega) (by omega)) rfl ((Fn.mul NMA.out FX.out).add (Fn.mul NMA.out FY.out)) (by omega) (by omega)).mono ?_
             rintro e w30 ⟨G30, n30, c30, rfl, hc, hbx⟩
             replace HB := Lib.hid (below_on HB.out hbx)
             replace HX := Lib.hid (HX.out.below hbx)
             replace HY := Lib.hid (HY.out.below hbx)
             replace HZ := Lib.hid (HZ.out.below hbx)
             replace HQA := Lib.hid (HQA.out.below hbx)
             replace HQB := Lib.hid (HQB.out.below hbx)
             replace HBA := Lib.hid (HBA.out.below hbx)
             replace HBB := Lib.hid (HBB.out.below hbx)
             replace HC26 := Lib.hid (HC26.out.below hbx)
             replace HC27 := Lib.hid (HC27.out.below hbx)
             replace HC28 := Lib.hid (HC28.out.below hbx)
             replace HC29 := Lib.hid (HC29.out.below hbx)
             refine hK.out _ _ (by with_reducible exact ⟨HBA.out.c0, HBA.out.c1, HBA.out.c2, HBA.out.c3, HBB.out.c0, HBB.out.c1, HBB.out.c2, HBB.out.c3⟩) (fun hHeld => ?_)
             clear hK K
             try simp only [Act.put, List.setIfInBounds_toArray, List.set_cons_zero, List.set_cons_succ]
             have HC30 := Lib.hid hc
             clear hc hbx
             refine wpAnyH_ready (rs := [13]) (by kernel_rfl) (by simp) ?_
             refine AllReadyH.cons rfl (fun K hK => ?_) AllReadyH.nil
             try simp only [List.getElem_toArray, List.getElem_cons_zero, List.getElem_cons_succ]
             go_simp
             with_reducible refine (samevec_e HC27.out HC30.out (Fn.mul NMA.out (FX.out.add FY.out)) (by omega) E5.out).mono ?_
             rintro e w31 ⟨rfl, hbx⟩
             replace HB := Lib.hid (below_on HB.out hbx)
             replace HX := Lib.hid (HX.out.below hbx)
             replace HY := Lib.hid (HY.out.below hbx)
             replace HZ := Lib.hid (HZ.out.below hbx)
             replace HQA := Lib.hid (HQA.out.below hbx)
             replace HQB := Lib.hid (HQB.out.below hbx)
             replace HBA := Lib.hid (HBA.out.below hbx)
             replace HBB := Lib.hid (HBB.out.below hbx)
             replace HC26 := Lib.hid (HC26.out.below hbx)
             replace HC27 := Lib.hid (HC27.out.below hbx)
             replace HC28 := Lib.hid (HC28.out.below hbx)
             replace HC29 := Lib.hid (HC29.out.below hbx)
             replace HC30 := Lib.hid (HC30.out.below hbx)
             refine hK.out _ _ (by with_reducible exact ⟨HBA.out.c0, HBA.out.c1, HBA.out.c2, HBA.out.c3, HBB.out.c0, HBB.out.c1, HBB.out.c2, HBB.out.c3⟩) (fun hHeld => ?_)
             clear hK K
             try simp only [Act.put, List.setIfInBounds_toArray, List.set_cons_zero, List.set_cons_succ]
             clear hbx
             clear HC26 HC27 HC28 HC29 HC30
             refine' wpAnyH_take (i := 14) (v := _) rfl (by kernel_rfl) (by kernel_rfl) (by kernel_rfl) (fun _ _ _ h => h) (Or.inl ⟨by rfl, ?hy9⟩) (by assumption) ?rest9
             case hy9 => (intro w hSw; (try dsimp only at hSw); try simp only [List.getElem_toArray, List.getElem_cons_zero, List.getElem_cons_succ]; go_simp; (try with_reducible rfl))
             try simp only [List.getElem_toArray, List.getElem_cons_zero, List.getElem_cons_succ]
             try simp only [Act.put, List.setIfInBounds_toArray, List.set_cons_zero, List.set_cons_succ]
             refine' wpAnyH_take (i := 15) (v := _) rfl (by kernel_rfl) (by kernel_rfl) (by kernel_rfl) (fun _ _ _ h => h) (Or.inl ⟨by rfl, ?hy10⟩) (by assumption) ?rest10
             case hy10 => (intro w hSw; (try dsimp only at hSw); try simp only [List.getElem_toArray, List.getElem_cons_zero, List.getElem_cons_succ]; go_simp; (try with_reducible rfl))
             try simp only [List.getElem_toArray, List.getElem_cons_zero, List.getElem_cons_succ]
             try simp only [Act.put, List.setIfInBounds_toArray, List.set_cons_zero, List.set_cons_succ]
             refine' wpAnyH_take (i := 16) (v := _) rfl (by kernel_rfl) (by kernel_rfl) (by kernel_rfl) (fun _ _ _ h => h) (Or.inl ⟨by rfl, ?hy11⟩) (by assumption) ?rest11
             case hy11 => (intro w hSw; (try dsimp only at hSw); try simp only [List.getElem_toArray, List.getElem_cons_zero, List.getElem_cons_succ]; go_simp; (try with_reducible rfl))
             try simp only [List.getElem_toArray, List.getElem_cons_zero, List.getElem_cons_succ]
             try simp only [Act.put, List.setIfInBounds_toArray, List.set_cons_zero, List.set_cons_succ]
             refine' wpAnyH_take (i := 17) (v := _) rfl (by kernel_rfl) (by kernel_rfl) (by kernel_rfl) (fun _ _ _ h => h) (Or.inl ⟨by rfl, ?hy12⟩) (by assumption) ?rest12
             case hy12 => (intro w hSw; (try dsimp only at hSw); try simp only [List.getElem_toArray, List.getElem_cons_zero, List.getElem_cons_succ]; go_simp; (try with_reducible rfl))
             try simp only [List.getElem_toArray, List.getElem_cons_zero, List.getElem_cons_succ]
             try simp only [Act.put, List.setIfInBounds_toArray, List.set_cons_zero, List.set_cons_succ]
             refine' wpAnyH_take (i := 19) (v := _) rfl (by kernel_rfl) (by kernel_rfl) (by kernel_rfl) (fun _ _ _ h => h) (Or.inl ⟨by rfl, ?hy13⟩) (by assumption) ?rest13
             case hy13 => (intro w hSw; (try dsimp only at hSw); try simp only [List.getElem_toArray, List.getElem_cons_zero, List.getElem_cons_succ]; go_simp; (try with_reducible rfl))
             try simp only [List.getElem_toArray, List.getElem_cons_zero, List.getElem_cons_succ]
             try simp only [Act.put, List.setIfInBounds_toArray, List.set_cons_zero, List.set_cons_succ]
             refine' wpAnyH_take (i := 21) (v := _) rfl (by kernel_rfl) (by kernel_rfl) (by kernel_rfl) (fun _ _ _ h => h) (Or.inl ⟨by rfl, ?hy14⟩) (by assumption) ?rest14
             case hy14 => (intro w hSw; (try dsimp only at hSw); try simp only [List.getElem_toArray, List.getElem_cons_zero, List.getElem_cons_succ]; go_simp; (try with_reducible rfl))
             try simp only [List.getElem_toArray, List.getElem_cons_zero, List.getElem_cons_succ]
             try simp only [Act.put, List.setIfInBounds_toArray, List.set_cons_zero, List.set_cons_succ]
             refine' wpAnyH_take (i := 22) (v := _) rfl (by kernel_rfl) (by kernel_rfl) (by kernel_rfl) (fun _ _ _ h => h) (Or.inl ⟨by rfl, ?hy15⟩) (by assumption) ?rest15
             case hy15 => (intro w hSw; (try dsimp only at hSw); try simp only [List.getElem_toArray, List.getElem_cons_zero, List.getElem_cons_succ]; go_simp; (try with_reducible rfl))
             try simp only [List.getElem_toArray, List.getElem_cons_zero, List.getElem_cons_succ]
             try simp only [Act.put, List.setIfInBounds_toArray, List.set_cons_zero, List.set_cons_succ]
             refine' wpAnyH_take (i := 24) (v := _) rfl (by kernel_rfl) (by kernel_rfl) (by kernel_rfl) (fun _ _ _ h => h) (Or.inl ⟨by rfl, ?hy16⟩) (by assumption) ?rest16
             case hy16 => (intro w hSw; (try dsimp only at hSw); try simp only [List.getElem_toArray, List.getElem_cons_zero, List.getElem_cons_succ]; go_simp; (try with_reducible rfl))
             try simp only [List.getElem_toArray, List.getElem_cons_zero, List.getElem_cons_succ]
             try simp only [Act.put, List.setIfInBounds_toArray, List.set_cons_zero, List.set_cons_succ]
             refine' wpAnyH_take (i := 25) (v := _) rfl (by kernel_rfl) (by kernel_rfl) (by kernel_rfl) (fun _ _ _ h => h) (Or.inl ⟨by rfl, ?hy17⟩) (by assumption) ?rest17
             case hy17 => (intro w hSw; (try dsimp only at hSw); try simp only [List.getElem_toArray, List.getElem_cons_zero, List.getElem_cons_succ]; go_simp; (try with_reducible rfl))
             try simp only [List.getElem_toArray, List.getElem_cons_zero, List.getElem_cons_succ]
             try simp only [Act.put, List.setIfInBounds_toArray, List.set_cons_zero, List.set_cons_succ]
             refine wpAnyH_ready (rs := [18]) (by kernel_rfl) (by simp) ?_
             refine AllReadyH.cons rfl (fun K hK => ?_) AllReadyH.nil
             try simp only [List.getElem_toArray, List.getElem_cons_zero, List.getElem_cons_succ]
             go_simp
             with_reducible refine (Q.add_q (HQA.out.mono (l := 700) (by omega)) (HQB.out.mono (l := 700) (by omega)) (by omega) (by omega) _ rfl).mono ?_
             rintro e w32 ⟨s32, A32, m32, c32, t32, B32, l32, d32, rfl, ho, hbx⟩
             replace HB := Lib.hid (below_on HB.out hbx)
             replace HX := Lib.hid (HX.out.below hbx)
             replace HY := Lib.hid (HY.out.below hbx)
             replace HZ := Lib.hid (HZ.out.below hbx)
             replace HQA := Lib.hid (HQA.out.below hbx)
             replace HQB := Lib.hid (HQB.out.below hbx)
             replace HBA := Lib.hid (HBA.out.below hbx)
             replace HBB := Lib.hid (HBB.out.below hbx)
             refine hK.out _ _ (by with_reducible exact ⟨HBA.out.c0, HBA.out.c1, HBA.out.c2, HBA.out.c3, HBB.out.c0, HBB.out.c1, HBB.out.c2, HBB.out.c3⟩) (fun hHeld => ?_)
             clear hK K
             try simp only [Act.put, List.setIfInBounds_toArray, List.set_cons_zero, List.set_cons_succ]
             have HN32 := Lib.hid ho
             clear ho hbx
             refine wpAnyH_ready (rs := [20]) (by kernel_rfl) (by simp) ?_
             refine AllReadyH.cons rfl (fun K hK => ?_) AllReadyH.nil
             try simp only [List.getElem_toArray, List.getElem_cons_zero, List.getElem_cons_succ]
             go_simp
             with_reducible refine (scale_c (HN32.out.isq (k := 700) ((NMA.out.add NMB.out).ql (by omega) (by omega))) HX.out rfl (Fn.mul (NMA.out.add NMB.out) FX.out) (by omega) (by omega)).mono ?_
             rintro e w33 ⟨G33, n33, c33, rfl, hc, hbx⟩
             replace HB := Lib.hid (below_on HB.out hbx)
             replace HX := Lib.hid (HX.out.below hbx)
             replace HY := Lib.hid (HY.out.below hbx)
             replace HZ := Lib.hid (HZ.out.below hbx)
             replace HQA := Lib.hid (HQA.out.below hbx)
             replace HQB := Lib.hid (HQB.out.below hbx)
             replace HBA := Lib.hid (HBA.out.below hbx)
             replace HBB := Lib.hid (HBB.out.below hbx)
             replace HN32 := Lib.hid (HN32.out.below hbx)
             refine hK.out _ _ (by with_reducible exact ⟨HBA.out.c0, HBA.out.c1, HBA.out.c2, HBA.out.c3, HBB.out.c0, HBB.out.c1, HBB.out.c2, HBB.out.c3⟩) (fun hHeld => ?_)
             clear hK K
             try simp only [Act.put, List.setIfInBounds_toArray, List.set_cons_zero, List.set_cons_succ]
             have HC33 := Lib.hid hc
             clear hc hbx
             refine wpAnyH_ready (rs := [23]) (by kernel_rfl) (by simp) ?_
             refine AllReadyH.cons rfl (fun K hK => ?_) AllReadyH.nil
             try simp only [List.getElem_toArray, List.getElem_cons_zero, List.getElem_cons_succ]
             go_simp
             with_reducible refine (scale_c (HQA.out.mono (l := 700) (by omega)) HX.out rfl (Fn.mul NMA.out FX.out) (by omega) (by omega)).mono ?_
             rintro e w34 ⟨G34, n34, c34, rfl, hc, hbx⟩
             replace HB := Lib.hid (below_on HB.out hbx)
             replace HX := Lib.hid (HX.out.below hbx)
             replace HY := Lib.hid (HY.out.below hbx)
             replace HZ := Lib.hid (HZ.out.below hbx)
             replace HQA := Lib.hid (HQA.out.below hbx)
             replace HQB := Lib.hid (HQB.out.below hbx)
             replace HBA := Lib.hid (HBA.out.below hbx)
             replace HBB := Lib.hid (HBB.out.below hbx)
             replace HN32 := Lib.hid (HN32.out.below hbx)
             replace HC33 := Lib.hid (HC33.out.below hbx)
             refine hK.out _ _ (by with_reducible exact ⟨HBA.out.c0, HBA.out.c1, HBA.out.c2, HBA.out.c3, HBB.out.c0, HBB.out.c1, HBB.out.c2, HBB.out.c3⟩) (fun hHeld => ?_)
             clear hK K
             try simp only [Act.put, List.setIfInBounds_toArray, List.set_cons_zero, List.set_cons_succ]
             have HC34 := Lib.hid hc
             clear hc hbx
             refine wpAnyH_ready (rs := [26]) (by kernel_rfl) (by simp) ?_
             refine AllReadyH.cons rfl (fun K hK => ?_) AllReadyH.nil
             try simp only [List.getElem_toArray, List.getElem_cons_zero, List.getElem_cons_succ]
             go_simp
             with_reducible refine (scale_c (HQB.out.mono (l := 700) (by omega)) HX.out rfl (Fn.mul NMB.out FX.out) (by omega) (by omega)).mono ?_
             rintro e w35 ⟨G35, n35, c35, rfl, hc, hbx⟩
             replace HB := Lib.hid (below_on HB.out hbx)
             replace HX := Lib.hid (HX.out.below hbx)
             replace HY := Lib.hid (HY.out.below hbx)
             replace HZ := Lib.hid (HZ.out.below hbx)
             replace HQA := Lib.hid (HQA.out.below hbx)
             replace HQB := Lib.hid (HQB.out.below hbx)
             replace HBA := Lib.hid (HBA.out.below hbx)
             replace HBB := Lib.hid (HBB.out.below hbx)
             replace HN32 := Lib.hid (HN32.out.below hbx)
             replace HC33 := Lib.hid (HC33.out.below hbx)
             replace HC34 := Lib.hid (HC34.out.below hbx)
             refine hK.out _ _ (by with_reducible exact ⟨HBA.out.c0, HBA.out.c1, HBA.out.c2, HBA.out.c3, HBB.out.c0, HBB.out.c1, HBB.out.c2, HBB.out.c3⟩) (fun hHeld => ?_)
             clear hK K
             try simp only [Act.put, List.setIfInBounds_toArray, List.set_cons_zero, List.set_cons_succ]
             have HC35 := Lib.hid hc
             clear hc hbx
             refine wpAnyH_ready (rs := [27]) (by kernel_rfl) (by simp) ?_
             refine AllReadyH.cons rfl (fun K hK => ?_) AllReadyH.nil
             try simp only [List.getElem_toArray, List.getElem_cons_zero, List.getElem_cons_succ]
             go_simp
             with_reducible refine (add_c (HC34.out.vf (Fn.mul NMA.out FX.out) (by omega) (by omega) (by omega)) (HC35.out.vf (Fn.mul NMB.out FX.out) (by omega) (by omega) (by omega)) rfl ((Fn.mul NMA.out FX.out).add (Fn.mul NMB.out FX.out)) (by omega) (by omega)).mono ?_
             rintro e w36 ⟨G36, n36, c36, rfl, hc, hbx⟩
             replace HB := Lib.hid (below_on HB.out hbx)
             replace HX := Lib.hid (HX.out.below hbx)
             replace HY := Lib.hid (HY.out.below hbx)
             replace HZ := Lib.hid (HZ.out.below hbx)
             replace HQA := Lib.hid (HQA.out.below hbx)
             replace HQB := Lib.hid (HQB.out.below hbx)
             replace HBA := Lib.hid (HBA.out.below hbx)
             replace HBB := Lib.hid (HBB.out.below hbx)
             replace HN32 := Lib.hid (HN32.out.below hbx)
             replace HC33 := Lib.hid (HC33.out.below hbx)
             replace HC34 := Lib.hid (HC34.out.below hbx)
             replace HC35 := Lib.hid (HC35.out.below hbx)
             refine hK.out _ _ (by with_reducible exact ⟨HBA.out.c0, HBA.out.c1, HBA.out.c2, HBA.out.c3, HBB.out.c0, HBB.out.c1, HBB.out.c2, HBB.out.c3⟩) (fun hHeld => ?_)
             clear hK K
             try simp only [Act.put, List.setIfInBounds_toArray, List.set_cons_zero, List.set_cons_succ]
             have HC36 := Lib.hid hc
             clear hc hbx
             refine wpAnyH_ready (rs := [28]) (by kernel_rfl) (by simp) ?_
             refine AllReadyH.cons rfl (fun K hK => ?_) AllReadyH.nil
             try simp only [List.getElem_toArray, List.getElem_cons_zero, List.getElem_cons_succ]
             go_simp
             with_reducible refine (samevec_e HC33.out HC36.out (Fn.mul (NMA.out.add NMB.out) FX.out) (by omega) E6.out).mono ?_
             rintro e w37 ⟨rfl, hbx⟩
             replace HB := Lib.hid (below_on HB.out hbx)
             replace HX := Lib.hid (HX.out.below hbx)
             replace HY := Lib.hid (HY.out.below hbx)
             replace HZ := Lib.hid (HZ.out.below hbx)
             replace HQA := Lib.hid (HQA.out.below hbx)
             replace HQB := Lib.hid (HQB.out.below hbx)
             replace HBA := Lib.hid (HBA.out.below hbx)
             replace HBB := Lib.hid (HBB.out.below hbx)
             replace HN32 := Lib.hid (HN32.out.below hbx)
             replace HC33 := Lib.hid (HC33.out.below hbx)
             replace HC34 := Lib.hid (HC34.out.below hbx)
             replace HC35 := Lib.hid (HC35.out.below hbx)
             replace HC36 := Lib.hid (HC36.out.below hbx)
             refine hK.out _ _ (by with_reducible exact ⟨HBA.out.c0, HBA.out.c1, HBA.out.c2, HBA.out.c3, HBB.out.c0, HBB.out.c1, HBB.out.c2, HBB.out.c3⟩) (fun hHeld => ?_)
             clear hK K
             try simp only [Act.put, List.setIfInBounds_toArray, List.set_cons_zero, List.set_cons_succ]
             clear hbx
             clear HN32 HC33 HC34 HC35 HC36
             refine' wpAnyH_take (i := 29) (v := _) rfl (by kernel_rfl) (by kernel_rfl) (by kernel_rfl) (fun _ _ _ h => h) (Or.inl ⟨by rfl, ?hy18⟩) (by assumption) ?rest18
             case hy18 => (intro w hSw; (try dsimp only at hSw); try simp only [List.getElem_toArray, List.getElem_cons_zero, List.getElem_cons_succ]; go_simp; (try with_reducible rfl))
             try simp only [List.getElem_toArray, List.getElem_cons_zero, List.getElem_cons_succ]
             try simp only [Act.put, List.setIfInBounds_toArray, List.set_cons_zero, List.set_cons_succ]
             refine' wpAnyH_take (i := 30) (v := _) rfl (by kernel_rfl) (by kernel_rfl) (by kernel_rfl) (fun _ _ _ h => h) (Or.inl ⟨by rfl, ?hy19⟩) (by assumption) ?rest19
             case hy19 => (intro w hSw; (try dsimp only at hSw); try simp only [List.getElem_toArray, List.getElem_cons_zero, List.getElem_cons_succ]; go_simp; (try with_reducible rfl))
             try simp only [List.getElem_toArray, List.getElem_cons_zero, List.getElem_cons_succ]
             try simp only [Act.put, List.setIfInBounds_toArray, List.set_cons_zero, List.set_cons_succ]
             refine' wpAnyH_take (i := 31) (v := _) rfl (by kernel_rfl) (by kernel_rfl) (by kernel_rfl) (fun _ _ _ h => h) (Or.inl ⟨by rfl, ?hy20⟩) (by assumption) ?rest20
             case hy20 => (intro w hSw; (try dsimp only at hSw); try simp only [List.getElem_toArray, List.getElem_cons_zero, List.getElem_cons_succ]; go_simp; (try with_reducible rfl))
             try simp only [List.getElem_toArray, List.getElem_cons_zero, List.getElem_cons_succ]
             try simp only [Act.put, List.setIfInBounds_toArray, List.set_cons_zero, List.set_cons_succ]
             refine' wpAnyH_take (i := 32) (v := _) rfl (by kernel_rfl) (by kernel_rfl) (by kernel_rfl) (fun _ _ _ h => h) (Or.inl ⟨by rfl, ?hy21⟩) (by assumption) ?rest21
             case hy21 => (intro w hSw; (try dsimp only at hSw); try simp only [List.getElem_toArray, List.getElem_cons_zero, List.getElem_cons_succ]; go_simp; (try with_reducible rfl))
             try simp only [List.getElem_toArray, List.getElem_cons_zero, List.getElem_cons_succ]
             try simp only [Act.put, List.setIfInBounds_toArray, List.set_cons_zero, List.set_cons_succ]
             refine' wpAnyH_take (i := 33) (v := _) rfl (by kernel_rfl) (by kernel_rfl) (by kernel_rfl) (fun _ _ _ h => h) (Or.inl ⟨by rfl, ?hy22⟩) (by assumption) ?rest22
             case hy22 => (intro w hSw; (try dsimp only at hSw); try simp only [List.getElem_toArray, List.getElem_cons_zero, List.getElem_cons_succ]; go_simp; (try with_reducible rfl))
             try simp only [List.getElem_toArray, List.getElem_cons_zero, List.getElem_cons_succ]
             try simp only [Act.put, List.setIfInBounds_toArray, List.set_cons_zero, List.set_cons_succ]
             refine' wpAnyH_take (i := 35) (v := _) rfl (by kernel_rfl) (by kernel_rfl) (by kernel_rfl) (fun _ _ _ h => h) (Or.inl ⟨by rfl, ?hy23⟩) (by assumption) ?rest23
             case hy23 => (intro w hSw; (try dsimp only at hSw); try simp only [List.getElem_toArray, List.getElem_cons_zero, List.getElem_cons_succ]; go_simp; (try with_reducible rfl))
             try simp only [List.getElem_toArray, List.getElem_cons_zero, List.getElem_cons_succ]
             try simp only [Act.put, List.setIfInBounds_toArray, List.set_cons_zero, List.set_cons_succ]
             refine' wpAnyH_take (i := 37) (v := _) rfl (by kernel_rfl) (by kernel_rfl) (by kernel_rfl) (fun _ _ _ h => h) (Or.inl ⟨by rfl, ?hy24⟩) (by assumption) ?rest24
             case hy24 => (intro w hSw; (try dsimp only at hSw); try simp only [List.getElem_toArray, List.getElem_cons_zero, List.getElem_cons_succ]; go_simp; (try with_reducible rfl))
             try simp only [List.getElem_toArray, List.getElem_cons_zero, List.getElem_cons_succ]
             try simp only [Act.put, List.setIfInBounds_toArray, List.set_cons_zero, List.set_cons_succ]
             refine' wpAnyH_take (i := 38) (v := _) rfl (by kernel_rfl) (by kernel_rfl) (by kernel_rfl) (fun _ _ _ h => h) (Or.inl ⟨by rfl, ?hy25⟩) (by assumption) ?rest25
             case hy25 => (intro w hSw; (try dsimp only at hSw); try simp only [List.getElem_toArray, List.getElem_cons_zero, List.getElem_cons_succ]; go_simp; (try with_reducible rfl))
             try simp only [List.getElem_toArray, List.getElem_cons_zero, List.getElem_cons_succ]
             try simp only [Act.put, List.setIfInBounds_toArray, List.set_cons_zero, List.set_cons_succ]
             refine' wpAnyH_take (i := 39) (v := _) rfl (by kernel_rfl) (by kernel_rfl) (by kernel_rfl) (fun _ _ _ h => h) (Or.inl ⟨by rfl, ?hy26⟩) (by assumption) ?rest26
             case hy26 => (intro w hSw; (try dsimp only at hSw); try simp only [List.getElem_toArray, List.getElem_cons_zero, List.getElem_cons_succ]; go_simp; (try with_reducible rfl))
             try simp only [List.getElem_toArray, List.getElem_cons_zero, List.getElem_cons_succ]
             try simp only [Act.put, List.setIfInBounds_toArray, List.set_cons_zero, List.set_cons_succ]
             refine wpAnyH_ready (rs := [34]) (by kernel_rfl) (by simp) ?_
             refine AllReadyH.cons rfl (fun K hK => ?_) AllReadyH.nil
             try simp only [List.getElem_toArray, List.getElem_cons_zero, List.getElem_cons_succ]
             go_simp
             with_reducible refine (Q.mul_q (HQA.out.mono (l := 700) (by omega)) (HQB.out.mono (l := 700) (by omega)) (by omega) (by omega) _ rfl).mono ?_
             rintro e w38 ⟨s38, A38, m38, c38, t38, B38, l38, d38, rfl, ho, hbx⟩
             replace HB := Lib.hid (below_on HB.out hbx)
             replace HX := Lib.hid (HX.out.below hbx)
             replace HY := Lib.hid (HY.out.below hbx)
             replace HZ := Lib.hid (HZ.out.below hbx)
             replace HQA := Lib.hid (HQA.out.below hbx)
             replace HQB := Lib.hid (HQB.out.below hbx)
             replace HBA := Lib.hid (HBA.out.below hbx)
             replace HBB := Lib.hid (HBB.out.below hbx)
             refine hK.out _ _ (by with_reducible exact ⟨HBA.out.c0, HBA.out.c1, HBA.out.c2, HBA.out.c3, HBB.out.c0, HBB.out.c1, HBB.out.c2, HBB.out.c3⟩) (fun hHeld => ?_)
             clear hK K
             try simp only [Act.put, List.setIfInBounds_toArray, List.set_cons_zero, List.set_cons_succ]
             have HN38 := Lib.hid ho
             clear ho hbx
             refine wpAnyH_ready (rs := [36]) (by kernel_rfl) (by simp) ?_
             refine AllReadyH.cons rfl (fun K hK => ?_) AllReadyH.nil
             try simp only [List.getElem_toArray, List.getElem_cons_zero, List.getElem_cons_succ]
             go_simp
             with_reducible refine (scale_c (HN38.out.isq (k := 700) ((NMA.out.mul NMB.out).ql (by omega) (by omega))) HX.out rfl (Fn.mul (NMA.out.mul NMB.out) FX.out) (by omega) (by omega)).mono ?_
             rintro e w39 ⟨G39, n39, c39, rfl, hc, hbx⟩
             replace HB := Lib.hid (below_on HB.out hbx)
             replace HX := Lib.hid (HX.out.below hbx)
             replace HY := Lib.hid (HY.out.below hbx)
             replace HZ := Lib.hid (HZ.out.below hbx)
             replace HQA := Lib.hid (HQA.out.below hbx)
             replace HQB := Lib.hid (HQB.out.below hbx)
             replace HBA := Lib.hid (HBA.out.below hbx)
             replace HBB := Lib.hid (HBB.out.below hbx)
             replace HN38 := Lib.hid (HN38.out.below hbx)
             refine hK.out _ _ (by with_reducible exact ⟨HBA.out.c0, HBA.out.c1, HBA.out.c2, HBA.out.c3, HBB.out.c0, HBB.out.c1, HBB.out.c2, HBB.out.c3⟩) (fun hHeld => ?_)
             clear hK K
             try simp only [Act.put, List.setIfInBounds_toArray, List.set_cons_zero, List.set_cons_succ]
             have HC39 := Lib.hid hc
             clear hc hbx
             refine wpAnyH_ready (rs := [40]) (by kernel_rfl) (by simp) ?_
             refine AllReadyH.cons rfl (fun K hK => ?_) AllReadyH.nil
             try simp only [List.getElem_toArray, List.getElem_cons_zero, List.getElem_cons_succ]
             go_simp
             with_reducible refine (scale_c (HQB.out.mono (l := 700) (by omega)) HX.out rfl (Fn.mul NMB.out FX.out) (by omega) (by omega)).mono ?_
             rintro e w40 ⟨G40, n40, c40, rfl, hc, hbx⟩
             replace HB := Lib.hid (below_on HB.out hbx)
             replace HX := Lib.hid (HX.out.below hbx)
             replace HY := Lib.hid (HY.out.below hbx)
             replace HZ := Lib.hid (HZ.out.below hbx)
             replace HQA := Lib.hid (HQA.out.below hbx)
             replace HQB := Lib.hid (HQB.out.below hbx)
             replace HBA := Lib.hid (HBA.out.below hbx)
             replace HBB := Lib.hid (HBB.out.below hbx)
             replace HN38 := Lib.hid (HN38.out.below hbx)
             replace HC39 := Lib.hid (HC39.out.below hbx)
             refine hK.out _ _ (by with_reducible exact ⟨HBA.out.c0, HBA.out.c1, HBA.out.c2, HBA.out.c3, HBB.out.c0, HBB.out.c1, HBB.out.c2, HBB.out.c3⟩) (fun hHeld => ?_)
             clear hK K
             try simp only [Act.put, List.setIfInBounds_toArray, List.set_cons_zero, List.set_cons_succ]
             have HC40 := Lib.hid hc
             clear hc hbx
             refine wpAnyH_ready (rs := [41]) (by kernel_rfl) (by simp) ?_
             refine AllReadyH.cons rfl (fun K hK => ?_) AllReadyH.nil
             try simp only [List.getElem_toArray, List.getElem_cons_zero, List.getElem_cons_succ]
             go_simp
             with_reducible refine (scale_c (HQA.out.mono (l := 700) (by omega)) (HC40.out.vf (Fn.mul NMB.out FX.out) (by omega) (by omega) (by omega)) rfl (Fn.mul NMA.out (Fn.mul NMB.out FX.out)) (by omega) (by omega)).mono ?_
             rintro e w41 ⟨G41, n41, c41, rfl, hc, hbx⟩
             replace HB := Lib.hid (below_on HB.out hbx)
             replace HX := Lib.hid (HX.out.below hbx)
             replace HY := Lib.hid (HY.out.below hbx)
             replace HZ := Lib.hid (HZ.out.below hbx)
             replace HQA := Lib.hid (HQA.out.below hbx)
             replace HQB := Lib.hid (HQB.out.below hbx)
             replace HBA := Lib.hid (HBA.out.below hbx)
             replace HBB := Lib.hid (HBB.out.below hbx)
             replace HN38 := Lib.hid (HN38.out.below hbx)
             replace HC39 := Lib.hid (HC39.out.below hbx)
             replace HC40 := Lib.hid (HC40.out.below hbx)
             refine hK.out _ _ (by with_reducible exact ⟨HBA.out.c0, HBA.out.c1, HBA.out.c2, HBA.out.c3, HBB.out.c0, HBB.out.c1, HBB.out.c2, HBB.out.c3⟩) (fun hHeld => ?_)
             clear hK K
             try simp only [Act.put, List.setIfInBounds_toArray, List.set_cons_zero, List.set_cons_succ]
             have HC41 := Lib.hid hc
             clear hc hbx
             refine wpAnyH_ready (rs := [42]) (by kernel_rfl) (by simp) ?_
             refine AllReadyH.cons rfl (fun K hK => ?_) AllReadyH.nil
             try simp only [List.getElem_toArray, List.getElem_cons_zero, List.getElem_cons_succ]
             go_simp
             with_reducible refine (samevec_e HC39.out HC41.out (Fn.mul (NMA.out.mul NMB.out) FX.out) (by omega) E7.out).mono ?_
             rintro e w42 ⟨rfl, hbx⟩
             replace HB := Lib.hid (below_on HB.out hbx)
             replace HX := Lib.hid (HX.out.below hbx)
             replace HY := Lib.hid (HY.out.below hbx)
             replace HZ := Lib.hid (HZ.out.below hbx)
             replace HQA := Lib.hid (HQA.out.below hbx)
             replace HQB := Lib.hid (HQB.out.below hbx)
             replace HBA := Lib.hid (HBA.out.below hbx)
             replace HBB := Lib.hid (HBB.out.below hbx)
             replace HN38 := Lib.hid (HN38.out.below hbx)
             replace HC39 := Lib.hid (HC39.out.below hbx)
             replace HC40 := Lib.hid (HC40.out.below hbx)
             replace HC41 := Lib.hid (HC41.out.below hbx)
             refine hK.out _ _ (by with_reducible exact ⟨HBA.out.c0, HBA.out.c1, HBA.out.c2, HBA.out.c3, HBB.out.c0, HBB.out.c1, HBB.out.c2, HBB.out.c3⟩) (fun hHeld => ?_)
             clear hK K
             try simp only [Act.put, List.setIfInBounds_toArray, List.set_cons_zero, List.set_cons_succ]
             clear hbx
             clear HN38 HC39 HC40 HC41
             refine' wpAnyH_take (i := 43) (v := _) rfl (by kernel_rfl) (by kernel_rfl) (by kernel_rfl) (fun _ _ _ h => h) (Or.inl ⟨by rfl, ?hy27⟩) (by assumption) ?rest27
             case hy27 => (intro w hSw; (try dsimp only at hSw); try simp only [List.getElem_toArray, List.getElem_cons_zero, List.getElem_cons_succ]; go_simp; (try with_reducible rfl))
             try simp only [List.getElem_toArray, List.getElem_cons_zero, List.getElem_cons_succ]
             try simp only [Act.put, List.setIfInBounds_toArray, List.set_cons_zero, List.set_cons_succ]
             refine' wpAnyH_take (i := 44) (v := _) rfl (by kernel_rfl) (by kernel_rfl) (by kernel_rfl) (fun _ _ _ h => h) (Or.inl ⟨by rfl, ?hy28⟩) (by assumption) ?rest28
             case hy28 => (intro w hSw; (try dsimp only at hSw); try simp only [List.getElem_toArray, List.getElem_cons_zero, List.getElem_cons_succ]; go_simp; (try with_reducible rfl))
             try simp only [List.getElem_toArray, List.getElem_cons_zero, List.getElem_cons_succ]
             try simp only [Act.put, List.setIfInBounds_toArray, List.set_cons_zero, List.set_cons_succ]
             refine' wpAnyH_take (i := 45) (v := _) rfl (by kernel_rfl) (by kernel_rfl) (by kernel_rfl) (fun _ _ _ h => h) (Or.inl ⟨by rfl, ?hy29⟩) (by assumption) ?rest29
             case hy29 => (intro w hSw; (try dsimp only at hSw); try simp only [List.getElem_toArray, List.getElem_cons_zero, List.getElem_cons_succ]; go_simp; (try with_reducible rfl))
             try simp only [List.getElem_toArray, List.getElem_cons_zero, List.getElem_cons_succ]
             try simp only [Act.put, List.setIfInBounds_toArray, List.set_cons_zero, List.set_cons_succ]
             refine' wpAnyH_take (i := 46) (v := _) rfl (by kernel_rfl) (by kernel_rfl) (by kernel_rfl) (fun _ _ _ h => h) (Or.inl ⟨by rfl, ?hy30⟩) (by assumption) ?rest30
             case hy30 => (intro w hSw; (try dsimp only at hSw); try simp only [List.getElem_toArray, List.getElem_cons_zero, List.getElem_cons_succ]; go_simp; (try with_reducible rfl))
             try simp only [List.getElem_toArray, List.getElem_cons_zero, List.getElem_cons_succ]
             try simp only [Act.put, List.setIfInBounds_toArray, List.set_cons_zero, List.set_cons_succ]
             refine' wpAnyH_take (i := 47) (v := _) rfl (by kernel_rfl) (by kernel_rfl) (by kernel_rfl) (fun _ _ _ h => h) (Or.inl ⟨by rfl, ?hy31⟩) (by assumption) ?rest31
             case hy31 => (intro w hSw; (try dsimp only at hSw); try simp only [List.getElem_toArray, List.getElem_cons_zero, List.getElem_cons_succ]; go_simp; (try with_reducible rfl))
             try simp only [List.getElem_toArray, List.getElem_cons_zero, List.getElem_cons_succ]
             try simp only [Act.put, List.setIfInBounds_toArray, List.set_cons_zero, List.set_cons_succ]
             refine' wpAnyH_take (i := 48) (v := _) rfl (by kernel_rfl) (by kernel_rfl) (by kernel_rfl) (fun _ _ _ h => h) (Or.inl ⟨by rfl, ?hy32⟩) (by assumption) ?rest32
             case hy32 => (intro w hSw; (try dsimp only at hSw); try simp only [List.getElem_toArray, List.getElem_cons_zero, List.getElem_cons_succ]; go_simp; (try with_reducible rfl))
             try simp only [List.getElem_toArray, List.getElem_cons_zero, List.getElem_cons_succ]
             try simp only [Act.put, List.setIfInBounds_toArray, List.set_cons_zero, List.set_cons_succ]
             refine' wpAnyH_take (i := 50) (v := _) rfl (by kernel_rfl) (by kernel_rfl) (by kernel_rfl) (fun _ _ _ h => h) (Or.inl ⟨by rfl, ?hy33⟩) (by assumption) ?rest33
             case hy33 => (intro w hSw; (try dsimp only at hSw); try simp only [List.getElem_toArray, List.getElem_cons_zero, List.getElem_cons_succ]; go_simp; (try with_reducible rfl))
             try simp only [List.getElem_toArray, List.getElem_cons_zero, List.getElem_cons_succ]
             try simp only [Act.put, List.setIfInBounds_toArray, List.set_cons_zero, List.set_cons_succ]
             refine' wpAnyH_take (i := 51) (v := _) rfl (by kernel_rfl) (by kernel_rfl) (by kernel_rfl) (fun _ _ _ h => h) (Or.inl ⟨by rfl, ?hy34⟩) (by assumption) ?rest34
             case hy34 => (intro w hSw; (try dsimp only at hSw); try simp only [List.getElem_toArray, List.getElem_cons_zero, List.getElem_cons_succ]; go_simp; (try with_reducible rfl))
             try simp only [List.getElem_toArray, List.getElem_cons_zero, List.getElem_cons_succ]
             try simp only [Act.put, List.setIfInBounds_toArray, List.set_cons_zero, List.set_cons_succ]
             refine' wpAnyH_take (i := 52) (v := _) rfl (by kernel_rfl) (by kernel_rfl) (by kernel_rfl) (fun _ _ _ h => h) (Or.inl ⟨by rfl, ?hy35⟩) (by assumption) ?rest35
             case hy35 => (intro w hSw; (try dsimp only at hSw); try simp only [List.getElem_toArray, List.getElem_cons_zero, List.getElem_cons_succ]; go_simp; (try with_reducible rfl))
             try simp only [List.getElem_toArray, List.getElem_cons_zero, List.getElem_cons_succ]
             try simp only [Act.put, List.setIfInBounds_toArray, List.set_cons_zero, List.set_cons_succ]
             refine wpAnyH_ready (rs := [49]) (by kernel_rfl) (by simp) ?_
             refine AllReadyH.cons rfl (fun K hK => ?_) AllReadyH.nil
             try simp only [List.getElem_toArray, List.getElem_cons_zero, List.getElem_cons_succ]
             go_simp
             with_reducible refine (axpy_c (HQA.out.mono (l := 700) (by omega)) HY.out HX.out rfl (FY.out.add (Fn.mul NMA.out FX.out)) (by omega) (by omega) (Fn.mul NMA.out FX.out) (by omega) (by omega)).mono ?_
             rintro e w43 ⟨G43, n43, c43, rfl, hc, hbx⟩
             replace HB := Lib.hid (below_on HB.out hbx)
             replace HX := Lib.hid (HX.out.below hbx)
             replace HY := Lib.hid (HY.out.below hbx)
             replace HZ := Lib.hid (HZ.out.below hbx)
             replace HQA := Lib.hid (HQA.out.below hbx)
             replace HQB := Lib.hid (HQB.out.below hbx)
             replace HBA := Lib.hid (HBA.out.below hbx)
             replace HBB := Lib.hid (HBB.out.below hbx)
             refine hK.out _ _ (by with_reducible exact ⟨HBA.out.c0, HBA.out.c1, HBA.out.c2, HBA.out.c3, HBB.out.c0, HBB.out.c1, HBB.out.c2, HBB.out.c3⟩) (fun hHeld => ?_)
             clear hK K
             try simp only [Act.put, List.setIfInBounds_toArray, List.set_cons_zero, List.set_cons_succ]
             have HC43 := Lib.hid hc
             clear hc hbx
             refine wpAnyH_ready (rs := [53]) (by kernel_rfl) (by simp) ?_
             refine AllReadyH.cons rfl (fun K hK => ?_) AllReadyH.nil
             try simp only [List.getElem_toArray, List.getElem_cons_zero, List.getElem_cons_succ]
             go_simp
             with_reducible refine (scale_c (HQA.out.mono (l := 700) (by omega)) HX.out rfl (Fn.mul NMA.out FX.out) (by omega) (by omega)).mono ?_
             rintro e w44 ⟨G44, n44, c44, rfl, hc, hbx⟩
             replace HB := Lib.hid (below_on HB.out hbx)
             replace HX := Lib.hid (HX.out.below hbx)
             replace HY := Lib.hid (HY.out.below hbx)
             replace HZ := Lib.hid (HZ.out.below hbx)
             replace HQA := Lib.hid (HQA.out.below hbx)
             replace HQB := Lib.hid (HQB.out.below hbx)
             replace HBA := Lib.hid (HBA.out.below hbx)
             replace HBB := Lib.hid (HBB.out.below hbx)
             replace HC43 := Lib.hid (HC43.out.below hbx)
             refine hK.out _ _ (by with_reducible exact ⟨HBA.out.c0, HBA.out.c1, HBA.out.c2, HBA.out.c3, HBB.out.c0, HBB.out.c1, HBB.out.c2, HBB.out.c3⟩) (fun hHeld => ?_)
             clear hK K
             try simp only [Act.put, List.setIfInBounds_toArray, List.set_cons_zero, List.set_cons_succ]
             have HC44 := Lib.hid hc
             clear hc hbx
             refine wpAnyH_ready (rs := [54]) (by kernel_rfl) (by simp) ?_
             refine AllReadyH.cons rfl (fun K hK => ?_) AllReadyH.nil
             try simp only [List.getElem_toArray, List.getElem_cons_zero, List.getElem_cons_succ]
             go_simp
             with_reducible refine (add_c HY.out (HC44.out.vf (Fn.mul NMA.out FX.out) (by omega) (by omega) (by omega)) rfl (FY.out.add (Fn.mul NMA.out FX.out)) (by omega) (by omega)).mono ?_
             rintro e w45 ⟨G45, n45, c45, rfl, hc, hbx⟩
             replace HB := Lib.hid (below_on HB.out hbx)
             replace HX := Lib.hid (HX.out.below hbx)
             replace HY := Lib.hid (HY.out.below hbx)
             replace HZ := Lib.hid (HZ.out.below hbx)
             replace HQA := Lib.hid (HQA.out.below hbx)
             replace HQB := Lib.hid (HQB.out.below hbx)
             replace HBA := Lib.hid (HBA.out.below hbx)
             replace HBB := Lib.hid (HBB.out.below hbx)
             replace HC43 := Lib.hid (HC43.out.below hbx)
             replace HC44 := Lib.hid (HC44.out.below hbx)
             refine hK.out _ _ (by with_reducible exact ⟨HBA.out.c0, HBA.out.c1, HBA.out.c2, HBA.out.c3, HBB.out.c0, HBB.out.c1, HBB.out.c2, HBB.out.c3⟩) (fun hHeld => ?_)
             clear hK K
             try simp only [Act.put, List.setIfInBounds_toArray, List.set_cons_zero, List.set_cons_succ]
             have HC45 := Lib.hid hc
             clear hc hbx
             refine wpAnyH_ready (rs := [55]) (by kernel_rfl) (by simp) ?_
             refine AllReadyH.cons rfl (fun K hK => ?_) AllReadyH.nil
             try simp only [List.getElem_toArray, List.getElem_cons_zero, List.getElem_cons_succ]
             go_simp
             with_reducible refine (samevec_e HC43.out HC45.out (FY.out.add (Fn.mul NMA.out FX.out)) (by omega) rfl).mono ?_
             rintro e w46 ⟨rfl, hbx⟩
             replace HB := Lib.hid (below_on HB.out hbx)
             replace HX := Lib.hid (HX.out.below hbx)
             replace HY := Lib.hid (HY.out.below hbx)
             replace HZ := Lib.hid (HZ.out.below hbx)
             replace HQA := Lib.hid (HQA.out.below hbx)
             replace HQB := Lib.hid (HQB.out.below hbx)
             replace HBA := Lib.hid (HBA.out.below hbx)
             replace HBB := Lib.hid (HBB.out.below hbx)
             replace HC43 := Lib.hid (HC43.out.below hbx)
             replace HC44 := Lib.hid (HC44.out.below hbx)
             replace HC45 := Lib.hid (HC45.out.below hbx)
             refine hK.out _ _ (by with_reducible exact ⟨HBA.out.c0, HBA.out.c1, HBA.out.c2, HBA.out.c3, HBB.out.c0, HBB.out.c1, HBB.out.c2, HBB.out.c3⟩) (fun hHeld => ?_)
             clear hK K
             try simp only [Act.put, List.setIfInBounds_toArray, List.set_cons_zero, List.set_cons_succ]
             clear hbx
             clear HC43 HC44 HC45
             refine' wpAnyH_take (i := 56) (v := _) rfl (by kernel_rfl) (by kernel_rfl) (by kernel_rfl) (fun _ _ _ h => h) (Or.inl ⟨by rfl, ?hy36⟩) (by assumption) ?rest36
             case hy36 => (intro w hSw; (try dsimp only at hSw); try simp only [List.getElem_toArray, List.getElem_cons_zero, List.getElem_cons_succ]; go_simp; (try with_reducible rfl))
             try simp only [List.getElem_toArray, List.getElem_cons_zero, List.getElem_cons_succ]
             try simp only [Act.put, List.setIfInBounds_toArray, List.set_cons_zero, List.set_cons_succ]
             refine' wpAnyH_take (i := 57) (v := _) rfl (by kernel_rfl) (by kernel_rfl) (by kernel_rfl) (fun _ _ _ h => h) (Or.inl ⟨by rfl, ?hy37⟩) (by assumption) ?rest37
             case hy37 => (intro w hSw; (try dsimp only at hSw); try simp only [List.getElem_toArray, List.getElem_cons_zero, List.getElem_cons_succ]; go_simp; (try with_reducible rfl))
             try simp only [List.getElem_toArray, List.getElem_cons_zero, List.getElem_cons_succ]
             try simp only [Act.put, List.setIfInBounds_toArray, List.set_cons_zero, List.set_cons_succ]
             refine wpAnyH_done (by kernel_rfl) ?_ _
             go_upto_region 6 with fail
             as_aux_lemma =>
              replace HB := Lib.hid HB.out.drew
              replace HX := Lib.hid (HX.out.below (Below.refl _ _).drew)
              replace HY := Lib.hid (HY.out.below (Below.refl _ _).drew)
              replace HZ := Lib.hid (HZ.out.below (Below.refl _ _).drew)
              replace HQA := Lib.hid (HQA.out.below (Below.refl _ _).drew)
              replace HQB := Lib.hid (HQB.out.below (Below.refl _ _).drew)
              replace HBA := Lib.hid (HBA.out.below (Below.refl _ _).drew)
              replace HBB := Lib.hid (HBB.out.below (Below.refl _ _).drew)
              refine wp_region_held_drew (S := (fun V => V.cell? ⟨w.heap.size, 0, none⟩ = some (.bool sa) ∧ V.cell? ⟨w.heap.size, 1, none⟩ = some (.slice Aa na ca) ∧ V.cell? ⟨w.heap.size, 2, none⟩ = some (.bool ta) ∧ V.cell? ⟨w.heap.size, 3, none⟩ = some (.slice Ba ma da) ∧ V.cell? ⟨w.heap.size + 1, 0, none⟩ = some (.bool sb) ∧ V.cell? ⟨w.heap.size + 1, 1, none⟩ = some (.slice Ab nb cb) ∧ V.cell? ⟨w.heap.size + 1, 2, none⟩ = some (.bool tb) ∧ V.cell? ⟨w.heap.size + 1, 3, none⟩ = some (.slice Bb mb db))) (by kernel_rfl) (by with_reducible exact ⟨HBA.out.c0, HBA.out.c1, HBA.out.c2, HBA.out.c3, HBB.out.c0, HBB.out.c1, HBB.out.c2, HBB.out.c3⟩) (fun hHeld => ?_)
              refine' wpAnyH_take (i := 0) (v := _) rfl (by kernel_rfl) (by kernel_rfl) (by kernel_rfl) (fun _ _ _ h => h) (Or.inl ⟨by rfl, ?hy38⟩) (by assumption) ?rest38
              case hy38 => (intro w hSw; (try dsimp only at hSw); try simp only [List.getElem_toArray, List.getElem_cons_zero]; go_simp; (try with_reducible rfl))
              try simp only [List.getElem_toArray, List.getElem_cons_zero]
              try simp only [Act.put, List.setIfInBounds_toArray, List.set_cons_zero, List.set_cons_succ]
              refine' wpAnyH_take (i := 1) (v := _) rfl (by kernel_rfl) (by kernel_rfl) (by kernel_rfl) (fun _ _ _ h => h) (Or.inl ⟨by rfl, ?hy39⟩) (by assumption) ?rest39
              case hy39 => (intro w hSw; (try dsimp only at hSw); try simp only [List.getElem_toArray, List.getElem_cons_zero, List.getElem_cons_succ]; go_simp; (try with_reducible rfl))
              try simp only [List.getElem_toArray, List.getElem_cons_zero, List.getElem_cons_succ]
              try simp only [Act.put, List.setIfInBounds_toArray, List.set_cons_zero, List.set_cons_succ]
              refine' wpAnyH_take (i := 3) (v := _) rfl (by kernel_rfl) (by kernel_rfl) (by kernel_rfl) (fun _ _ _ h => h) (Or.inl ⟨by rfl, ?hy40⟩) (by assumption) ?rest40
              case hy40 => (intro w hSw; (try dsimp only at hSw); try simp only [List.getElem_toArray, List.getElem_cons_zero, List.getElem_cons_succ]; go_simp; (try with_reducible rfl))
              try simp only [List.getElem_toArray, List.getElem_cons_zero, List.getElem_cons_succ]
              try simp only [Act.put, List.setIfInBounds_toArray, List.set_cons_zero, List.set_cons_succ]
              refine' wpAnyH_take (i := 4) (v := _) rfl (by kernel_rfl) (by kernel_rfl) (by kernel_rfl) (fun _ _ _ h => h) (Or.inl ⟨by rfl, ?hy41⟩) (by assumption) ?rest41
              case hy41 => (intro w hSw; (try dsimp only at hSw); try simp only [List.getElem_toArray, List.getElem_cons_zero, List.getElem_cons_succ]; go_simp; (try with_reducible rfl))
              try simp only [List.getElem_toArray, List.getElem_cons_zero, List.getElem_cons_succ]
              try simp only [Act.put, List.setIfInBounds_toArray, List.set_cons_zero, List.set_cons_succ]
              refine wpAnyH_ready (rs := [2]) (by kernel_rfl) (by simp) ?_
              refine AllReadyH.cons rfl (fun K hK => ?_) AllReadyH.nil
              try simp only [List.getElem_toArray, List.getElem_cons_zero, List.getElem_cons_succ]
              go_simp
              with_reducible refine (dot_c HX.out HY.out FX.out FY.out (by omega) (by omega) (by omega)).mono ?_
              rintro e w47 ⟨q47, hd, hql, s47, A47, m47, c47, t47, B47, l47, d47, rfl, ho, hbx⟩
              replace HB := Lib.hid (below_on HB.out hbx)
              replace HX := Lib.hid (HX.out.below hbx)
              replace HY := Lib.hid (HY.out.below hbx)
              replace HZ := Lib.hid (HZ.out.below hbx)
              replace HQA := Lib.hid (HQA.out.below hbx)
              replace HQB := Lib.hid (HQB.out.below hbx)
              replace HBA := Lib.hid (HBA.out.below hbx)
              replace HBB := Lib.hid (HBB.out.below hbx)
              refine hK.out _ _ (by with_reducible exact ⟨HBA.out.c0, HBA.out.c1, HBA.out.c2, HBA.out.c3, HBB.out.c0, HBB.out.c1, HBB.out.c2, HBB.out.c3⟩) (fun hHeld => ?_)
              clear hK K
              try simp only [Act.put, List.setIfInBounds_toArray, List.set_cons_zero, List.set_cons_succ]
              have HN47 := Lib.hid ho
              have HD47 := Lib.hid hd
              clear ho hd hql hbx
              refine wpAnyH_ready (rs := [5]) (by kernel_rfl) (by simp) ?_
              refine AllReadyH.cons rfl (fun K hK => ?_) AllReadyH.nil
              try simp only [List.getElem_toArray, List.getElem_cons_zero, List.getElem_cons_succ]
              go_simp
              with_reducible refine (dot_c HY.out HX.out FY.out FX.out (by omega) (by omega) (by omega)).mono ?_
              rintro e w48 ⟨q48, hd, hql, s48, A48, m48, c48, t48, B48, l48, d48, rfl, ho, hbx⟩
              replace HB := Lib.hid (below_on HB.out hbx)
              replace HX := Lib.hid (HX.out.below hbx)
              replace HY := Lib.hid (HY.out.below hbx)
              replace HZ := Lib.hid (HZ.out.below hbx)
              replace HQA := Lib.hid (HQA.out.below hbx)
              replace HQB := Lib.hid (HQB.out.below hbx)
              replace HBA := Lib.hid (HBA.out.below hbx)
              replace HBB := Lib.hid (HBB.out.below hbx)
              replace HN47 := Lib.hid (HN47.out.below hbx)
              refine hK.out _ _ (by with_reducible exact ⟨HBA.out.c0, HBA.out.c1, HBA.out.c2, HBA.out.c3, HBB.out.c0, HBB.out.c1, HBB.out.c2, HBB.out.c3⟩) (fun hHeld => ?_)
              clear hK K
              try simp only [Act.put, List.setIfInBounds_toArray, List.set_cons_zero, List.set_cons_succ]
              have HN48 := Lib.hid ho
              have HD48 := Lib.hid hd
              clear ho hd hql hbx
              refine wpAnyH_ready (rs := [6]) (by kernel_rfl) (by simp) ?_
              refine AllReadyH.cons rfl (fun K hK => ?_) AllReadyH.nil
              try simp only [List.getElem_toArray, List.getElem_cons_zero, List.getElem_cons_succ]
              go_simp
              with_reducible refine (Q.same_q (HN47.out.isq (k := 700) ((DotF.nm HD47.out FX.out FY.out (by omega)).ql (by omega) (by omega))) (HN48.out.isq (k := 700) ((DotF.nm HD48.out FY.out FX.out (by omega)).ql (by omega) (by omega))) (by omega) (by omega) true (decide_eq_true (dotf_comm FX.out HD47.out HD48.out))).mono ?_
              rintro e w49 ⟨rfl, hbx⟩
              replace HB := Lib.hid (below_on HB.out hbx)
              replace HX := Lib.hid (HX.out.below hbx)
              replace HY := Lib.hid (HY.out.below hbx)
              replace HZ := Lib.hid (HZ.out.below hbx)
              replace HQA := Lib.hid (HQA.out.below hbx)
              replace HQB := Lib.hid (HQB.out.below hbx)
              replace HBA := Lib.hid (HBA.out.below hbx)
              replace HBB := Lib.hid (HBB.out.below hbx)
              replace HN47 := Lib.hid (HN47.out.below hbx)
              replace HN48 := Lib.hid (HN48.out.below hbx)
              refine hK.out _ _ (by with_reducible exact ⟨HBA.out.c0, HBA.out.c1, HBA.out.c2, HBA.out.c3, HBB.out.c0, HBB.out.c1, HBB.out.c2, HBB.out.c3⟩) (fun hHeld => ?_)
              clear hK K
              try simp only [Act.put, List.setIfInBounds_toArray, List.set_cons_zero, List.set_cons_succ]
              clear hbx
              clear HN47 HN48
              refine' wpAnyH_take (i := 7) (v := _) rfl (by kernel_rfl) (by kernel_rfl) (by kernel_rfl) (fun _ _ _ h => h) (Or.inl ⟨by rfl, ?hy42⟩) (by assumption) ?rest42
              case hy42 => (intro w hSw; (try dsimp only at hSw); try simp only [List.getElem_toArray, List.getElem_cons_zero, List.getElem_cons_succ]; go_simp; (try with_reducible rfl))
              try simp only [List.getElem_toArray, List.getElem_cons_zero, List.getElem_cons_succ]
              try simp only [Act.put, List.setIfInBounds_toArray, List.set_cons_zero, List.set_cons_succ]
              refine' wpAnyH_take (i := 8) (v := _) rfl (by kernel_rfl) (by kernel_rfl) (by kernel_rfl) (fun _ _ _ h => h) (Or.inl ⟨by rfl, ?hy43⟩) (by assumption) ?rest43
              case hy43 => (intro w hSw; (try dsimp only at hSw); try simp only [List.getElem_toArray, List.getElem_cons_zero, List.getElem_cons_succ]; go_simp; (try with_reducible rfl))
              try simp only [List.getElem_toArray, List.getElem_cons_zero, List.getElem_cons_succ]
              try simp only [Act.put, List.setIfInBounds_toArray, List.set_cons_zero, List.set_cons_succ]
              refine' wpAnyH_take (i := 9) (v := _) rfl (by kernel_rfl) (by kernel_rfl) (by kernel_rfl) (fun _ _ _ h => h) (Or.inl ⟨by rfl, ?hy44⟩) (by assumption) ?rest44
              case hy44 => (intro w hSw; (try dsimp only at hSw); try simp only [List.getElem_toArray, List.getElem_cons_zero, List.getElem_cons_succ]; go_simp; (try with_reducible rfl))
              try simp only [List.getElem_toArray, List.getElem_cons_zero, List.getElem_cons_succ]
              try simp only [Act.put, List.setIfInBounds_toArray, List.set_cons_zero, List.set_cons_succ]
              refine' wpAnyH_take (i := 10) (v := _) rfl (by kernel_rfl) (by kernel_rfl) (by kernel_rfl) (fun _ _ _ h => h) (Or.inl ⟨by rfl, ?hy45⟩) (by assumption) ?rest45
              case hy45 => (intro w hSw; (try dsimp only at hSw); try simp only [List.getElem_toArray, List.getElem_cons_zero, List.getElem_cons_succ]; go_simp; (try with_reducible rfl))
              try simp only [List.getElem_toArray, List.getElem_cons_zero, List.getElem_cons_succ]
              try simp only [Act.put, List.setIfInBounds_toArray, List.set_cons_zero, List.set_cons_succ]
              refine' wpAnyH_take (i := 12) (v := _) rfl (by kernel_rfl) (by kernel_rfl) (by kernel_rfl) (fun _ _ _ h => h) (Or.inl ⟨by rfl, ?hy46⟩) (by assumption) ?rest46
              case hy46 => (intro w hSw; (try dsimp only at hSw); try simp only [List.getElem_toArray, List.getElem_cons_zero, List.getElem_cons_succ]; go_simp; (try with_reducible rfl))
              try simp only [List.getElem_toArray, List.getElem_cons_zero, List.getElem_cons_succ]
              try simp only [Act.put, List.setIfInBounds_toArray, List.set_cons_zero, List.set_cons_succ]
              refine' wpAnyH_take (i := 14) (v := _) rfl (by kernel_rfl) (by kernel_rfl) (by kernel_rfl) (fun _ _ _ h => h) (Or.inl ⟨by rfl, ?hy47⟩) (by assumption) ?rest47
              case hy47 => (intro w hSw; (try dsimp only at hSw); try simp only [List.getElem_toArray, List.getElem_cons_zero, List.getElem_cons_succ]; go_simp; (try with_reducible rfl))
              try simp only [List.getElem_toArray, List.getElem_cons_zero, List.getElem_cons_succ]
              try simp only [Act.put, List.setIfInBounds_toArray, List.set_cons_zero, List.set_cons_succ]
              refine' wpAnyH_take (i := 15) (v := _) rfl (by kernel_rfl) (by kernel_rfl) (by kernel_rfl) (fun _ _ _ h => h) (Or.inl ⟨by rfl, ?hy48⟩) (by assumption) ?rest48
              case hy48 => (intro w hSw; (try dsimp only at hSw); try simp only [List.getElem_toArray, List.getElem_cons_zero, List.getElem_cons_succ]; go_simp; (try with_reducible rfl))
              try simp only [List.getElem_toArray, List.getElem_cons_zero, List.getElem_cons_succ]
              try simp only [Act.put, List.setIfInBounds_toArray, List.set_cons_zero, List.set_cons_succ]
              refine' wpAnyH_take (i := 17) (v := _) rfl (by kernel_rfl) (by kernel_rfl) (by kernel_rfl) (fun _ _ _ h => h) (Or.inl ⟨by rfl, ?hy49⟩) (by assumption) ?rest49
              case hy49 => (intro w hSw; (try dsimp only at hSw); try simp only [List.getElem_toArray, List.getElem_cons_zero, List.getElem_cons_succ]; go_simp; (try with_reducible rfl))
              try simp only [List.getElem_toArray, List.getElem_cons_zero, List.getElem_cons_succ]
              try simp only [Act.put, List.setIfInBounds_toArray, List.set_cons_zero, List.set_cons_succ]
              refine' wpAnyH_take (i := 18) (v := _) rfl (by kernel_rfl) (by kernel_rfl) (by kernel_rfl) (fun _ _ _ h => h) (Or.inl ⟨by rfl, ?hy50⟩) (by assumption) ?rest50
              case hy50 => (intro w hSw; (try dsimp only at hSw); try simp only [List.getElem_toArray, List.getElem_cons_zero, List.getElem_cons_succ]; go_simp; (try with_reducible rfl))
              try simp only [List.getElem_toArray, List.getElem_cons_zero, List.getElem_cons_succ]
              try simp only [Act.put, List.setIfInBounds_toArray, List.set_cons_zero, List.set_cons_succ]
              refine' wpAnyH_take (i := 19) (v := _) rfl (by kernel_rfl) (by kernel_rfl) (by kernel_rfl) (fun _ _ _ h => h) (Or.inl ⟨by rfl, ?hy51⟩) (by assumption) ?rest51
              case hy51 => (intro w hSw; (try dsimp only at hSw); try simp only [List.getElem_toArray, List.getElem_cons_zero, List.getElem_cons_succ]; go_simp; (try with_reducible rfl))
              try simp only [List.getElem_toArray, List.getElem_cons_zero, List.getElem_cons_succ]
              try simp only [Act.put, List.setIfInBounds_toArray, List.set_cons_zero, List.set_cons_succ]
              refine wpAnyH_ready (rs := [11]) (by kernel_rfl) (by simp) ?_
              refine AllReadyH.cons rfl (fun K hK => ?_) AllReadyH.nil
              try simp only [List.getElem_toArray, List.getElem_cons_zero, List.getElem_cons_succ]
              go_simp
              with_reducible refine (axpy_c (HQA.out.mono (l := 700) (by omega)) HY.out HX.out rfl (FY.out.add (Fn.mul NMA.out FX.out)) (by omega) (by omega) (Fn.mul NMA.out FX.out) (by omega) (by omega)).mono ?_
              rintro e w50 ⟨G50, n50, c50, rfl, hc, hbx⟩
              replace HB := Lib.hid (below_on HB.out hbx)
              replace HX := Lib.hid (HX.out.below hbx)
              replace HY := Lib.hid (HY.out.below hbx)
              replace HZ := Lib.hid (HZ.out.below hbx)
              replace HQA := Lib.hid (HQA.out.below hbx)
              replace HQB := Lib.hid (HQB.out.below hbx)
              replace HBA := Lib.hid (HBA.out.below hbx)
              replace HBB := Lib.hid (HBB.out.below hbx)
              refine hK.out _ _ (by with_reducible exact ⟨HBA.out.c0, HBA.out.c1, HBA.out.c2, HBA.out.c3, HBB.out.c0, HBB.out.c1, HBB.out.c2, HBB.out.c3⟩) (fun hHeld => ?_)
              clear hK K
              try simp only [Act.put, List.setIfInBounds_toArray, List.set_cons_zero, List.set_cons_succ]
              have HC50 := Lib.hid hc
              clear hc hbx
              refine wpAnyH_ready (rs := [13]) (by kernel_rfl) (by simp) ?_
              refine AllReadyH.cons rfl (fun K hK => ?_) AllReadyH.nil
              try simp only [List.getElem_toArray, List.getElem_cons_zero, List.getElem_cons_succ]
              go_simp
              with_reducible refine (dot_c (HC50.out.vf (FY.out.add (Fn.mul NMA.out FX.out)) (by omega) (by omega) (by omega)) HZ.out (FY.out.add (Fn.mul NMA.out FX.out)) FZ.out (by omega) (by omega) (by omega)).mono ?_
              rintro e w51 ⟨q51, hd, hql, s51, A51, m51, c51, t51, B51, l51, d51, rfl, ho, hbx⟩
              replace HB := Lib.hid (below_on HB.out hbx)
              replace HX := Lib.hid (HX.out.below hbx)
              replace HY := Lib.hid (HY.out.below hbx)
              replace HZ := Lib.hid (HZ.out.below hbx)
              replace HQA := Lib.hid (HQA.out.below hbx)
              replace HQB := Lib.hid (HQB.out.below hbx)
              replace HBA := Lib.hid (HBA.out.below hbx)
              replace HBB := Lib.hid (HBB.out.below hbx)
              replace HC50 := Lib.hid (HC50.out.below hbx)
              refine hK.out _ _ (by with_reducible exact ⟨HBA.out.c0, HBA.out.c1, HBA.out.c2, HBA.out.c3, HBB.out.c0, HBB.out.c1, HBB.out.c2, HBB.out.c3⟩) (fun hHeld => ?_)
              clear hK K
              try simp only [Act.put, List.setIfInBounds_toArray, List.set_cons_zero, List.set_cons_succ]
              have HN51 := Lib.hid ho
              have HD51 := Lib.hid hd
              clear ho hd hql hbx
              refine wpAnyH_ready (rs := [16]) (by kernel_rfl) (by simp) ?_
              refine AllReadyH.cons rfl (fun K hK => ?_) AllReadyH.nil
              try simp only [List.getElem_toArray, List.getElem_cons_zero, List.getElem_cons_succ]
              go_simp
              with_reducible refine (dot_c HY.out HZ.out FY.out FZ.out (by omega) (by omega) (by omega)).mono ?_
              rintro e w52 ⟨q52, hd, hql, s52, A52, m52, c52, t52, B52, l52, d52, rfl, ho, hbx⟩
              replace HB := Lib.hid (below_on HB.out hbx)
              replace HX := Lib.hid (HX.out.below hbx)
              replace HY := Lib.hid (HY.out.below hbx)
              replace HZ := Lib.hid (HZ.out.below hbx)
              replace HQA := Lib.hid (HQA.out.below hbx)
              replace HQB := Lib.hid (HQB.out.below hbx)
              replace HBA := Lib.hid (HBA.out.below hbx)
              replace HBB := Lib.hid (HBB.out.below hbx)
              replace HC50 := Lib.hid (HC50.out.below hbx)
              replace HN51 := Lib.hid (HN51.out.below hbx)
              refine hK.out _ _ (by with_reducible exact ⟨HBA.out.c0, HBA.out.c1, HBA.out.c2, HBA.out.c3, HBB.out.c0, HBB.out.c1, HBB.out.c2, HBB.out.c3⟩) (fun hHeld => ?_)
              clear hK K
              try simp only [Act.put, List.setIfInBounds_toArray, List.set_cons_zero, List.set_cons_succ]
              have HN52 := Lib.hid ho
              have HD52 := Lib.hid hd
              clear ho hd hql hbx
              refine wpAnyH_ready (rs := [20]) (by kernel_rfl) (by simp) ?_
              refine AllReadyH.cons rfl (fun K hK => ?_) AllReadyH.nil
              try simp only [List.getElem_toArray, List.getElem_cons_zero, List.getElem_cons_succ]
              go_simp
              with_reducible refine (dot_c HX.out HZ.out FX.out FZ.out (by omega) (by omega) (by omega)).mono ?_
              rintro e w53 ⟨q53, hd, hql, s53, A53, m53, c53, t53, B53, l53, d53, rfl, ho, hbx⟩
              replace HB := Lib.hid (below_on HB.out hbx)
              replace HX := Lib.hid (HX.out.below hbx)
              replace HY := Lib.hid (HY.out.below hbx)
              replace HZ := Lib.hid (HZ.out.below hbx)
              replace HQA := Lib.hid (HQA.out.below hbx)
              replace HQB := Lib.hid (HQB.out.below hbx)
              replace HBA := Lib.hid (HBA.out.below hbx)
              replace HBB := Lib.hid (HBB.out.below hbx)
              replace HC50 := Lib.hid (HC50.out.below hbx)
              replace HN51 := Lib.hid (HN51.out.below hbx)
              replace HN52 := Lib.hid (HN52.out.below hbx)
              refine hK.out _ _ (by with_reducible exact ⟨HBA.out.c0, HBA.out.c1, HBA.out.c2, HBA.out.c3, HBB.out.c0, HBB.out.c1, HBB.out.c2, HBB.out.c3⟩) (fun hHeld => ?_)
              clear hK K
              try simp only [Act.put, List.setIfInBounds_toArray, List.set_cons_zero, List.set_cons_succ]
              have HN53 := Lib.hid ho
              have HD53 := Lib.hid hd
              clear ho hd hql hbx
              refine wpAnyH_ready (rs := [21]) (by kernel_rfl) (by simp) ?_
              refine AllReadyH.cons rfl (fun K hK => ?_) AllReadyH.nil
              try simp only [List.getElem_toArray, List.getElem_cons_zero, List.getElem_cons_succ]
              go_simp
              with_reducible refine (Q.mul_q (HQA.out.mono (l := 700) (by omega)) (HN53.out.isq (k := 700) ((DotF.nm HD53.out FX.out FZ.out (by omega)).ql (by omega) (by omega))) (by omega) (by omega) _ rfl).mono ?_
              rintro e w54 ⟨s54, A54, m54, c54, t54, B54, l54, d54, rfl, ho, hbx⟩
              replace HB := Lib.hid (below_on HB.out hbx)
              replace HX := Lib.hid (HX.out.below hbx)
              replace HY := Lib.hid (HY.out.below hbx)
              replace HZ := Lib.hid (HZ.out.below hbx)
              replace HQA := Lib.hid (HQA.out.below hbx)
              replace HQB := Lib.hid (HQB.out.below hbx)
              replace HBA := Lib.hid (HBA.out.below hbx)
              replace HBB := Lib.hid (HBB.out.below hbx)
              replace HC50 := Lib.hid (HC50.out.below hbx)
              replace HN51 := Lib.hid (HN51.out.below hbx)
              replace HN52 := Lib.hid (HN52.out.below hbx)
              replace HN53 := Lib.hid (HN53.out.below hbx)
              refine hK.out _ _ (by with_reducible exact ⟨HBA.out.c0, HBA.out.c1, HBA.out.c2, HBA.out.c3, HBB.out.c0, HBB.out.c1, HBB.out.c2, HBB.out.c3⟩) (fun hHeld => ?_)
              clear hK K
              try simp only [Act.put, List.setIfInBounds_toArray, List.set_cons_zero, List.set_cons_succ]
              have HN54 := Lib.hid ho
              clear ho hbx
              refine wpAnyH_ready (rs := [22]) (by kernel_rfl) (by simp) ?_
              refine AllReadyH.cons rfl (fun K hK => ?_) AllReadyH.nil
              try simp only [List.getElem_toArray, List.getElem_cons_zero, List.getElem_cons_succ]
              go_simp
              with_reducible refine (Q.add_q (HN52.out.isq (k := 700) ((DotF.nm HD52.out FY.out FZ.out (by omega)).ql (by omega) (by omega))) (HN54.out.isq (k := 700) ((NMA.out.mul (DotF.nm HD53.out FX.out FZ.out (by omega))).ql (by omega) (by omega))) (by omega) (by omega) _ rfl).mono ?_
              rintro e w55 ⟨s55, A55, m55, c55, t55, B55, l55, d55, rfl, ho, hbx⟩
              replace HB := Lib.hid (below_on HB.out hbx)
              replace HX := Lib.hid (HX.out.below hbx)
              replace HY := Lib.hid (HY.out.below hbx)
              replace HZ := Lib.hid (HZ.out.below hbx)
              replace HQA := Lib.hid (HQA.out.below hbx)
              replace HQB := Lib.hid (HQB.out.below hbx)
              replace HBA := Lib.hid (HBA.out.below hbx)
              replace HBB := Lib.hid (HBB.out.below hbx)
              replace HC50 := Lib.hid (HC50.out.below hbx)
              replace HN51 := Lib.hid (HN51.out.below hbx)
              replace HN52 := Lib.hid (HN52.out.below hbx)
              replace HN53 := Lib.hid (HN53.out.below hbx)
              replace HN54 := Lib.hid (HN54.out.below hbx)
              refine hK.out _ _ (by with_reducible exact ⟨HBA.out.c0, HBA.out.c1, HBA.out.c2, HBA.out.c3, HBB.out.c0, HBB.out.c1, HBB.out.c2, HBB.out.c3⟩) (fun hHeld => ?_)
              clear hK K
              try simp only [Act.put, List.setIfInBounds_toArray, List.set_cons_zero, List.set_cons_succ]
              have HN55 := Lib.hid ho
              clear ho hbx
              refine wpAnyH_ready (rs := [23]) (by kernel_rfl) (by simp) ?_
              refine AllReadyH.cons rfl (fun K hK => ?_) AllReadyH.nil
              try simp only [List.getElem_toArray, List.getElem_cons_zero, List.getElem_cons_succ]
              go_simp
              with_reducible refine (Q.same_q (HN51.out.isq (k := 700) ((DotF.nm HD51.out (FY.out.add (Fn.mul NMA.out FX.out)) FZ.out (by omega)).ql (by omega) (by omega))) (HN55.out.isq (k := 700) (((DotF.nm HD52.out FY.out FZ.out (by omega)).add (NMA.out.mul (DotF.nm HD53.out FX.out FZ.out (by omega)))).ql (by omega) (by omega))) (by omega) (by omega) true (decide_eq_true (dotf_lin FZ.out HD51.out HD52.out HD53.out))).mono ?_
              rintro e w56 ⟨rfl, hbx⟩
              replace HB := Lib.hid (below_on HB.out hbx)
              replace HX := Lib.hid (HX.out.below hbx)
              replace HY := Lib.hid (HY.out.below hbx)
              replace HZ := Lib.hid (HZ.out.below hbx)
              replace HQA := Lib.hid (HQA.out.below hbx)
              replace HQB := Lib.hid (HQB.out.below hbx)
              replace HBA := Lib.hid (HBA.out.below hbx)
              replace HBB := Lib.hid (HBB.out.below hbx)
              replace HC50 := Lib.hid (HC50.out.below hbx)
              replace HN51 := Lib.hid (HN51.out.below hbx)
              replace HN52 := Lib.hid (HN52.out.below hbx)
              replace HN53 := Lib.hid (HN53.out.below hbx)
              replace HN54 := Lib.hid (HN54.out.below hbx)
              replace HN55 := Lib.hid (HN55.out.below hbx)
              refine hK.out _ _ (by with_reducible exact ⟨HBA.out.c0, HBA.out.c1, HBA.out.c2, HBA.out.c3, HBB.out.c0, HBB.out.c1, HBB.out.c2, HBB.out.c3⟩) (fun hHeld => ?_)
              clear hK K
              try simp only [Act.put, List.setIfInBounds_toArray, List.set_cons_zero, List.set_cons_succ]
              clear hbx
              clear HC50 HN51 HN52 HN53 HN54 HN55
              refine' wpAnyH_take (i := 24) (v := _) rfl (by kernel_rfl) (by kernel_rfl) (by kernel_rfl) (fun _ _ _ h => h) (Or.inl ⟨by rfl, ?hy52⟩) (by assumption) ?rest52
              case hy52 => (intro w hSw; (try dsimp only at hSw); try simp only [List.getElem_toArray, List.getElem_cons_zero, List.getElem_cons_succ]; go_simp; (try with_reducible rfl))
              try simp only [List.getElem_toArray, List.getElem_cons_zero, List.getElem_cons_succ]
              try simp only [Act.put, List.setIfInBounds_toArray, List.set_cons_zero, List.set_cons_succ]
              refine' wpAnyH_take (i := 25) (v := _) rfl (by kernel_rfl) (by kernel_rfl) (by kernel_rfl) (fun _ _ _ h => h) (Or.inl ⟨by rfl, ?hy53⟩) (by assumption) ?rest53
              case hy53 => (intro w hSw; (try dsimp only at hSw); try simp only [List.getElem_toArray, List.getElem_cons_zero, List.getElem_cons_succ]; go_simp; (try with_reducible rfl))
              try simp only [List.getElem_toArray, List.getElem_cons_zero, List.getElem_cons_succ]
              try simp only [Act.put, List.setIfInBounds_toArray, List.set_cons_zero, List.set_cons_succ]
              refine wpAnyH_done (by kernel_rfl) ?_ _
              go_upto_region 7 with fail
              as_aux_lemma =>
               replace HB := Lib.hid HB.out.drew
               replace HX := Lib.hid (HX.out.below (Below.refl _ _).drew)
               replace HY := Lib.hid (HY.out.below (Below.refl _ _).drew)
               replace HZ := Lib.hid (HZ.out.below (Below.refl _ _).drew)
               replace HQA := Lib.hid (HQA.out.below (Below.refl _ _).drew)
               replace HQB := Lib.hid (HQB.out.below (Below.refl _ _).drew)
               replace HBA := Lib.hid (HBA.out.below (Below.refl _ _).drew)
               replace HBB := Lib.hid (HBB.out.below (Below.refl _ _).drew)
               refine wp_region_held_drew (S := (fun V => V.cell? ⟨w.heap.size, 0, none⟩ = some (.bool sa) ∧ V.cell? ⟨w.heap.size, 1, none⟩ = some (.slice Aa na ca) ∧ V.cell? ⟨w.heap.size, 2, none⟩ = some (.bool ta) ∧ V.cell? ⟨w.heap.size, 3, none⟩ = some (.slice Ba ma da) ∧ V.cell? ⟨w.heap.size + 1, 0, none⟩ = some (.bool sb) ∧ V.cell? ⟨w.heap.size + 1, 1, none⟩ = some (.slice Ab nb cb) ∧ V.cell? ⟨w.heap.size + 1, 2, none⟩ = some (.bool tb) ∧ V.cell? ⟨w.heap.size + 1, 3, none⟩ = some (.slice Bb mb db))) (by kernel_rfl) (by with_reducible exact ⟨HBA.out.c0, HBA.out.c1, HBA.out.c2, HBA.out.c3, HBB.out.c0, HBB.out.c1, HBB.out.c2, HBB.out.c3⟩) (fun hHeld => ?_)
               refine' wpAnyH_take (i := 0) (v := _) rfl (by kernel_rfl) (by kernel_rfl) (by kernel_rfl) (fun _ _ _ h => h) (Or.inl ⟨by rfl, ?hy54⟩) (by assumption) ?rest54
               case hy54 => (intro w hSw; (try dsimp only at hSw); try simp only [List.getElem_toArray, List.getElem_cons_zero]; go_simp; (try with_reducible rfl))
               try simp only [List.getElem_toArray, List.getElem_cons_zero]
               try simp only [Act.put, List.setIfInBounds_toArray, List.set_cons_zero, List.set_cons_succ]
               refine' wpAnyH_take (i := 1) (v := _) rfl (by kernel_rfl) (by kernel_rfl) (by kernel_rfl) (fun _ _ _ h => h) (Or.inl ⟨by rfl, ?hy55⟩) (by assumption) ?rest55
               case hy55 => (intro w hSw; (try dsimp only at hSw); try simp only [List.getElem_toArray, List.getElem_cons_zero, List.getElem_cons_succ]; go_simp; (try with_reducible rfl))
               try simp only [List.getElem_toArray, List.getElem_cons_zero, List.getElem_cons_succ]
               try simp only [Act.put, List.setIfInBounds_toArray, List.set_cons_zero, List.set_cons_succ]
               refine' wpAnyH_take (i := 2) (v := _) rfl (by kernel_rfl) (by kernel_rfl) (by kernel_rfl) (fun _ _ _ h => h) (Or.inl ⟨by rfl, ?hy56⟩) (by assumption) ?rest56
               case hy56 => (intro w hSw; (try dsimp only at hSw); try simp only [List.getElem_toArray, List.getElem_cons_zero, List.getElem_cons_succ]; go_simp; (try with_reducible rfl))
               try simp only [List.getElem_toArray, List.getElem_cons_zero, List.getElem_cons_succ]
               try simp only [Act.put, List.setIfInBounds_toArray, List.set_cons_zero, List.set_cons_succ]
               refine' wpAnyH_take (i := 4) (v := _) rfl (by kernel_rfl) (by kernel_rfl) (by kernel_rfl) (fun _ _ _ h => h) (Or.inl ⟨by rfl, ?hy57⟩) (by assumption) ?rest57
               case hy57 => (intro w hSw; (try dsimp only at hSw); try simp only [List.getElem_toArray, List.getElem_cons_zero, List.getElem_cons_succ]; go_simp; (try with_reducible rfl))
               try simp only [List.getElem_toArray, List.getElem_cons_zero, List.getElem_cons_succ]
               try simp only [Act.put, List.setIfInBounds_toArray, List.set_cons_zero, List.set_cons_succ]
               refine' wpAnyH_take (i := 6) (v := _) rfl (by kernel_rfl) (by kernel_rfl) (by kernel_rfl) (fun _ _ _ h => h) (Or.inl ⟨by rfl, ?hy58⟩) (by assumption) ?rest58
               case hy58 => (intro w hSw; (try dsimp only at hSw); try simp only [List.getElem_toArray, List.getElem_cons_zero, List.getElem_cons_succ]; go_simp; (try with_reducible rfl))
               try simp only [List.getElem_toArray, List.getElem_cons_zero, List.getElem_cons_succ]
               try simp only [Act.put, List.setIfInBounds_toArray, List.set_cons_zero, List.set_cons_succ]
               refine' wpAnyH_take (i := 7) (v := _) rfl (by kernel_rfl) (by kernel_rfl) (by kernel_rfl) (fun _ _ _ h => h) (Or.inl ⟨by rfl, ?hy59⟩) (by assumption) ?rest59
               case hy59 => (intro w hSw; (try dsimp only at hSw); try simp only [List.getElem_toArray, List.getElem_cons_zero, List.getElem_cons_succ]; go_simp; (try with_reducible rfl))
               try simp only [List.getElem_toArray, List.getElem_cons_zero, List.getElem_cons_succ]
               try simp only [Act.put, List.setIfInBounds_toArray, List.set_cons_zero, List.set_cons_succ]
               refine' wpAnyH_take (i := 9) (v := _) rfl (by kernel_rfl) (by kernel_rfl) (by kernel_rfl) (fun _ _ _ h => h) (Or.inl ⟨by rfl, ?hy60⟩) (by assumption) ?rest60
               case hy60 => (intro w hSw; (try dsimp only at hSw); try simp only [List.getElem_toArray, List.getElem_cons_zero, List.getElem_cons_succ]; go_simp; (try with_reducible rfl))
               try simp only [List.getElem_toArray, List.getElem_cons_zero, List.getElem_cons_succ]
               try simp only [Act.put, List.setIfInBounds_toArray, List.set_cons_zero, List.set_cons_succ]
               refine' wpAnyH_take (i := 10) (v := _) rfl (by kernel_rfl) (by kernel_rfl) (by kernel_rfl) (fun _ _ _ h => h) (Or.inl ⟨by rfl, ?hy61⟩) (by assumption) ?rest61
               case hy61 => (intro w hSw; (try dsimp only at hSw); try simp only [List.getElem_toArray, List.getElem_cons_zero, List.getElem_cons_succ]; go_simp; (try with_reducible rfl))
               try simp only [List.getElem_toArray, List.getElem_cons_zero, List.getElem_cons_succ]
               try simp only [Act.put, List.setIfInBounds_toArray, List.set_cons_zero, List.set_cons_succ]
               refine' wpAnyH_take (i := 11) (v := _) rfl (by kernel_rfl) (by kernel_rfl) (by kernel_rfl) (fun _ _ _ h => h) (Or.inl ⟨by rfl, ?hy62⟩) (by assumption) ?rest62
               case hy62 => (intro w hSw; (try dsimp only at hSw); try simp only [List.getElem_toArray, List.getElem_cons_zero, List.getElem_cons_succ]; go_simp; (try with_reducible rfl))
               try simp only [List.getElem_toArray, List.getElem_cons_zero, List.getElem_cons_succ]
               try simp only [Act.put, List.setIfInBounds_toArray, List.set_cons_zero, List.set_cons_succ]
               refine wpAnyH_ready (rs := [3]) (by kernel_rfl) (by simp) ?_
               refine AllReadyH.cons rfl (fun K hK => ?_) AllReadyH.nil
               try simp only [List.getElem_toArray, List.getElem_cons_zero, List.getElem_cons_succ]
               go_simp
               with_reducible refine (axpy_c (HQA.out.mono (l := 700) (by omega)) HY.out HX.out rfl (FY.out.add (Fn.mul NMA.out FX.out)) (by omega) (by omega) (Fn.mul NMA.out FX.out) (by omega) (by omega)).mono ?_
               rintro e w57 ⟨G57, n57, c57, rfl, hc, hbx⟩
               replace HB := Lib.hid (below_on HB.out hbx)
               replace HX := Lib.hid (HX.out.below hbx)
               replace HY := Lib.hid (HY.out.below hbx)
               replace HZ := Lib.hid (HZ.out.below hbx)
               replace HQA := Lib.hid (HQA.out.below hbx)
               replace HQB := Lib.hid (HQB.out.below hbx)
               replace HBA := Lib.hid (HBA.out.below hbx)
               replace HBB := Lib.hid (HBB.out.below hbx)
               refine hK.out _ _ (by with_reducible exact ⟨HBA.out.c0, HBA.out.c1, HBA.out.c2, HBA.out.c3, HBB.out.c0, HBB.out.c1, HBB.out.c2, HBB.out.c3⟩) (fun hHeld => ?_)
               clear hK K
               try simp only [Act.put, List.setIfInBounds_toArray, List.set_cons_zero, List.set_cons_succ]
               have HC57 := Lib.hid hc
               clear hc hbx
               refine wpAnyH_ready (rs := [5]) (by kernel_rfl) (by simp) ?_
               refine AllReadyH.cons rfl (fun K hK => ?_) AllReadyH.nil
               try simp only [List.getElem_toArray, List.getElem_cons_zero, List.getElem_cons_succ]
               go_simp
               with_reducible refine (get_c (HC57.out.vf (FY.out.add (Fn.mul NMA.out FX.out)) (by omega) (by omega) (by omega)) p _ rfl).mono ?_
               rintro e w58 ⟨s58, A58, m58, c58, t58, B58, l58, d58, rfl, ho, hbx⟩
               replace HB := Lib.hid (below_on HB.out hbx)
               replace HX := Lib.hid (HX.out.below hbx)
               replace HY := Lib.hid (HY.out.below hbx)
               replace HZ := Lib.hid (HZ.out.below hbx)
               replace HQA := Lib.hid (HQA.out.below hbx)
               replace HQB := Lib.hid (HQB.out.below hbx)
               replace HBA := Lib.hid (HBA.out.below hbx)
               replace HBB := Lib.hid (HBB.out.below hbx)
               replace HC57 := Lib.hid (HC57.out.below hbx)
               refine hK.out _ _ (by with_reducible exact ⟨HBA.out.c0, HBA.out.c1, HBA.out.c2, HBA.out.c3, HBB.out.c0, HBB.out.c1, HBB.out.c2, HBB.out.c3⟩) (fun hHeld => ?_)
               clear hK K
               try simp only [Act.put, List.setIfInBounds_toArray, List.set_cons_zero, List.set_cons_succ]
               have HN58 := Lib.hid ho
               clear ho hbx
               refine wpAnyH_ready (rs := [8]) (by kernel_rfl) (by simp) ?_
               refine AllReadyH.cons rfl (fun K hK => ?_) AllReadyH.nil
               try simp only [List.getElem_toArray, List.getElem_cons_zero, List.getElem_cons_succ]
               go_simp
               with_reducible refine (get_c HY.out p _ rfl).mono ?_
               rintro e w59 ⟨s59, A59, m59, c59, t59, B59, l59, d59, rfl, ho, hbx⟩
               replace HB := Lib.hid (below_on HB.out hbx)
               replace HX := Lib.hid (HX.out.below hbx)
               replace HY := Lib.hid (HY.out.below hbx)
               replace HZ := Lib.hid (HZ.out.below hbx)
               replace HQA := Lib.hid (HQA.out.below hbx)
               replace HQB := Lib.hid (HQB.out.below hbx)
               replace HBA := Lib.hid (HBA.out.below hbx)
               replace HBB := Lib.hid (HBB.out.below hbx)
               replace HC57 := Lib.hid (HC57.out.below hbx)
               replace HN58 := Lib.hid (HN58.out.below hbx)
               refine hK.out _ _ (by with_reducible exact ⟨HBA.out.c0, HBA.out.c1, HBA.out.c2, HBA.out.c3, HBB.out.c0, HBB.out.c1, HBB.out.c2, HBB.out.c3⟩) (fun hHeld => ?_)
               clear hK K
               try simp only [Act.put, List.setIfInBounds_toArray, List.set_cons_zero, List.set_cons_succ]
               have HN59 := Lib.hid ho
               clear ho hbx
               refine wpAnyH_ready (rs := [12]) (by kernel_rfl) (by simp) ?_
               refine AllReadyH.cons rfl (fun K hK => ?_) AllReadyH.nil
               try simp only [List.getElem_toArray, List.getElem_cons_zero, List.getElem_cons_succ]
               go_simp
               with_reducible refine (get_c HX.out p _ rfl).mono ?_
               rintro e w60 ⟨s60, A60, m60, c60, t60, B60, l60, d60, rfl, ho, hbx⟩
               replace HB := Lib.hid (below_on HB.out hbx)
               replace HX := Lib.hid (HX.out.below hbx)
               replace HY := Lib.hid (HY.out.below hbx)
               replace HZ := Lib.hid (HZ.out.below hbx)
               replace HQA := Lib.hid (HQA.out.below hbx)
               replace HQB := Lib.hid (HQB.out.below hbx)
               replace HBA := Lib.hid (HBA.out.below hbx)
               replace HBB := Lib.hid (HBB.out.below hbx)
               replace HC57 := Lib.hid (HC57.out.below hbx)
               replace HN58 := Lib.hid (HN58.out.below hbx)
               replace HN59 := Lib.hid (HN59.out.below hbx)
               refine hK.out _ _ (by with_reducible exact ⟨HBA.out.c0, HBA.out.c1, HBA.out.c2, HBA.out.c3, HBB.out.c0, HBB.out.c1, HBB.out.c2, HBB.out.c3⟩) (fun hHeld => ?_)
               clear hK K
               try simp only [Act.put, List.setIfInBounds_toArray, List.set_cons_zero, List.set_cons_succ]
               have HN60 := Lib.hid ho
               clear ho hbx
               refine wpAnyH_ready (rs := [13]) (by kernel_rfl) (by simp) ?_
               refine AllReadyH.cons rfl (fun K hK => ?_) AllReadyH.nil
               try simp only [List.getElem_toArray, List.getElem_cons_zero, List.getElem_cons_succ]
               go_simp
               with_reducible refine (Q.mul_q (HQA.out.mono (l := 700) (by omega)) (HN60.out.isq (k := 700) ((FX.out.nm p).ql (by omega) (by omega))) (by omega) (by omega) _ rfl).mono ?_
               rintro e w61 ⟨s61, A61, m61, c61, t61, B61, l61, d61, rfl, ho, hbx⟩
               replace HB := Lib.hid (below_on HB.out hbx)
               replace HX := Lib.hid (HX.out.below hbx)
               replace HY := Lib.hid (HY.out.below hbx)
               replace HZ := Lib.hid (HZ.out.below hbx)
               replace HQA := Lib.hid (HQA.out.below hbx)
               replace HQB := Lib.hid (HQB.out.below hbx)
               replace HBA := Lib.hid (HBA.out.below hbx)
               replace HBB := Lib.hid (HBB.out.below hbx)
               replace HC57 := Lib.hid (HC57.out.below hbx)
               replace HN58 := Lib.hid (HN58.out.below hbx)
               replace HN59 := Lib.hid (HN59.out.below hbx)
               replace HN60 := Lib.hid (HN60.out.below hbx)
               refine hK.out _ _ (by with_reducible exact ⟨HBA.out.c0, HBA.out.c1, HBA.out.c2, HBA.out.c3, HBB.out.c0, HBB.out.c1, HBB.out.c2, HBB.out.c3⟩) (fun hHeld => ?_)
               clear hK K
               try simp only [Act.put, List.setIfInBounds_toArray, List.set_cons_zero, List.set_cons_succ]
               have HN61 := Lib.hid ho
               clear ho hbx
               refine wpAnyH_ready (rs := [14]) (by kernel_rfl) (by simp) ?_
               refine AllReadyH.cons rfl (fun K hK => ?_) AllReadyH.nil
               try simp only [List.getElem_toArray, List.getElem_cons_zero, List.getElem_cons_succ]
               go_simp
               with_reducible refine (Q.add_q (HN59.out.isq (k := 700) ((FY.out.nm p).ql (by omega) (by omega))) (HN61.out.isq (k := 700) ((NMA.out.mul (FX.out.nm p)).ql (by omega) (by omega))) (by omega) (by omega) _ rfl).mono ?_
               rintro e w62 ⟨s62, A62, m62, c62, t62, B62, l62, d62, rfl, ho, hbx⟩
               replace HB := Lib.hid (below_on HB.out hbx)
               replace HX := Lib.hid (HX.out.below hbx)
               replace HY := Lib.hid (HY.out.below hbx)
               replace HZ := Lib.hid (HZ.out.below hbx)
               replace HQA := Lib.hid (HQA.out.below hbx)
               replace HQB := Lib.hid (HQB.out.below hbx)
               replace HBA := Lib.hid (HBA.out.below hbx)
               replace HBB := Lib.hid (HBB.out.below hbx)
               replace HC57 := Lib.hid (HC57.out.below hbx)
               replace HN58 := Lib.hid (HN58.out.below hbx)
               replace HN59 := Lib.hid (HN59.out.below hbx)
               replace HN60 := Lib.hid (HN60.out.below hbx)
               replace HN61 := Lib.hid (HN61.out.below hbx)
               refine hK.out _ _ (by with_reducible exact ⟨HBA.out.c0, HBA.out.c1, HBA.out.c2, HBA.out.c3, HBB.out.c0, HBB.out.c1, HBB.out.c2, HBB.out.c3⟩) (fun hHeld => ?_)
               clear hK K
               try simp only [Act.put, List.setIfInBounds_toArray, List.set_cons_zero, List.set_cons_succ]
               have HN62 := Lib.hid ho
               clear ho hbx
               refine wpAnyH_ready (rs := [15]) (by kernel_rfl) (by simp) ?_
               refine AllReadyH.cons rfl (fun K hK => ?_) AllReadyH.nil
               try simp only [List.getElem_toArray, List.getElem_cons_zero, List.getElem_cons_succ]
               go_simp
               with_reducible refine (Q.same_q (HN58.out.isq (k := 700) (((FY.out.add (Fn.mul NMA.out FX.out)).nm p).ql (by omega) (by omega))) (HN62.out.isq (k := 700) (((FY.out.nm p).add (NMA.out.mul (FX.out.nm p))).ql (by omega) (by omega))) (by omega) (by omega) true (decide_eq_true rfl)).mono ?_
               rintro e w63 ⟨rfl, hbx⟩
               replace HB := Lib.hid (below_on HB.out hbx)
               replace HX := Lib.hid (HX.out.below hbx)
               replace HY := Lib.hid (HY.out.below hbx)
               replace HZ := Lib.hid (HZ.out.below hbx)
               replace HQA := Lib.hid (HQA.out.below hbx)
               replace HQB := Lib.hid (HQB.out.below hbx)
               replace HBA := Lib.hid (HBA.out.below hbx)
               replace HBB := Lib.hid (HBB.out.below hbx)
               replace HC57 := Lib.hid (HC57.out.below hbx)
               replace HN58 := Lib.hid (HN58.out.below hbx)
               replace HN59 := Lib.hid (HN59.out.below hbx)
               replace HN60 := Lib.hid (HN60.out.below hbx)
               replace HN61 := Lib.hid (HN61.out.below hbx)
               replace HN62 := Lib.hid (HN62.out.below hbx)
               refine hK.out _ _ (by with_reducible exact ⟨HBA.out.c0, HBA.out.c1, HBA.out.c2, HBA.out.c3, HBB.out.c0, HBB.out.c1, HBB.out.c2, HBB.out.c3⟩) (fun hHeld => ?_)
               clear hK K
               try simp only [Act.put, List.setIfInBounds_toArray, List.set_cons_zero, List.set_cons_succ]
               clear hbx
               clear HC57 HN58 HN59 HN60 HN61 HN62
               refine' wpAnyH_take (i := 16) (v := _) rfl (by kernel_rfl) (by kernel_rfl) (by kernel_rfl) (fun _ _ _ h => h) (Or.inl ⟨by rfl, ?hy63⟩) (by assumption) ?rest63
               case hy63 => (intro w hSw; (try dsimp only at hSw); try simp only [List.getElem_toArray, List.getElem_cons_zero, List.getElem_cons_succ]; go_simp; (try with_reducible rfl))
               try simp only [List.getElem_toArray, List.getElem_cons_zero, List.getElem_cons_succ]
               try simp only [Act.put, List.setIfInBounds_toArray, List.set_cons_zero, List.set_cons_succ]
               refine' wpAnyH_take (i := 17) (v := _) rfl (by kernel_rfl) (by kernel_rfl) (by kernel_rfl) (fun _ _ _ h => h) (Or.inl ⟨by rfl, ?hy64⟩) (by assumption) ?rest64
               case hy64 => (intro w hSw; (try dsimp only at hSw); try simp only [List.getElem_toArray, List.getElem_cons_zero, List.getElem_cons_succ]; go_simp; (try with_reducible rfl))
               try simp only [List.getElem_toArray, List.getElem_cons_zero, List.getElem_cons_succ]
               try simp only [Act.put, List.setIfInBounds_toArray, List.set_cons_zero, List.set_cons_succ]
               refine' wpAnyH_take (i := 18) (v := _) rfl (by kernel_rfl) (by kernel_rfl) (by kernel_rfl) (fun _ _ _ h => h) (Or.inl ⟨by rfl, ?hy65⟩) (by assumption) ?rest65
               case hy65 => (intro w hSw; (try dsimp only at hSw); try simp only [List.getElem_toArray, List.getElem_cons_zero, List.getElem_cons_succ]; go_simp; (try with_reducible rfl))
               try simp only [List.getElem_toArray, List.getElem_cons_zero, List.getElem_cons_succ]
               try simp only [Act.put, List.setIfInBounds_toArray, List.set_cons_zero, List.set_cons_succ]
               refine' wpAnyH_take (i := 19) (v := _) rfl (by kernel_rfl) (by kernel_rfl) (by kernel_rfl) (fun _ _ _ h => h) (Or.inl ⟨by rfl, ?hy66⟩) (by assumption) ?rest66
               case hy66 => (intro w hSw; (try dsimp only at hSw); try simp only [List.getElem_toArray, List.getElem_cons_zero, List.getElem_cons_succ]; go_simp; (try with_reducible rfl))
               try simp only [List.getElem_toArray, List.getElem_cons_zero, List.getElem_cons_succ]
               try simp only [Act.put, List.setIfInBounds_toArray, List.set_cons_zero, List.set_cons_succ]
               refine' wpAnyH_take (i := 21) (v := _) rfl (by kernel_rfl) (by kernel_rfl) (by kernel_rfl) (fun _ _ _ h => h) (Or.inl ⟨by rfl, ?hy67⟩) (by assumption) ?rest67
               case hy67 => (intro w hSw; (try dsimp only at hSw); try simp only [List.getElem_toArray, List.getElem_cons_zero, List.getElem_cons_succ]; go_simp; (try with_reducible rfl))
               try simp only [List.getElem_toArray, List.getElem_cons_zero, List.getElem_cons_succ]
               try simp only [Act.put, List.setIfInBounds_toArray, List.set_cons_zero, List.set_cons_succ]
               refine' wpAnyH_take (i := 23) (v := _) rfl (by kernel_rfl) (by kernel_rfl) (by kernel_rfl) (fun _ _ _ h => h) (Or.inl ⟨by rfl, ?hy68⟩) (by assumption) ?rest68
               case hy68 => (intro w hSw; (try dsimp only at hSw); try simp only [List.getElem_toArray, List.getElem_cons_zero, List.getElem_cons_succ]; go_simp; (try with_reducible rfl))
               try simp only [List.getElem_toArray, List.getElem_cons_zero, List.getElem_cons_succ]
               try simp only [Act.put, List.setIfInBounds_toArray, List.set_cons_zero, List.set_cons_succ]
               refine wpAnyH_ready (rs := [20]) (by kernel_rfl) (by simp) ?_
               refine AllReadyH.cons rfl (fun K hK => ?_) AllReadyH.nil
               try simp only [List.getElem_toArray, List.getElem_cons_zero, List.getElem_cons_succ]
               go_simp
               with_reducible refine (put_c (HQB.out.mono (l := 700) (by omega)) (NMB.out.ql (by omega) (by omega)) HX.out p HPR.out rfl (FX.out.put NMB.out p) (by omega) (by omega)).mono ?_
               rintro e w64 ⟨G64, n64, c64, rfl, hc, hbx⟩
               replace HB := Lib.hid (below_on HB.out hbx)
               replace HX := Lib.hid (HX.out.below hbx)
               replace HY := Lib.hid (HY.out.below hbx)
               replace HZ := Lib.hid (HZ.out.below hbx)
               replace HQA := Lib.hid (HQA.out.below hbx)
               replace HQB := Lib.hid (HQB.out.below hbx)
               replace HBA := Lib.hid (HBA.out.below hbx)
               replace HBB := Lib.hid (HBB.out.below hbx)
               refine hK.out _ _ (by with_reducible exact ⟨HBA.out.c0, HBA.out.c1, HBA.out.c2, HBA.out.c3, HBB.out.c0, HBB.out.c1, HBB.out.c2, HBB.out.c3⟩) (fun hHeld => ?_)
               clear hK K
               try simp only [Act.put, List.setIfInBounds_toArray, List.set_cons_zero, List.set_cons_succ]
               have HC64 := Lib.hid hc
               clear hc hbx
               refine wpAnyH_ready (rs := [22]) (by kernel_rfl) (by simp) ?_
               refine AllReadyH.cons rfl (fun K hK => ?_) AllReadyH.nil
               try simp only [List.getElem_toArray, List.getElem_cons_zero, List.getElem_cons_succ]
               go_simp
               with_reducible refine (get_c (HC64.out.vf (FX.out.put NMB.out p) (by omega) (by omega) (by omega)) p _ rfl).mono ?_
               rintro e w65 ⟨s65, A65, m65, c65, t65, B65, l65, d65, rfl, ho, hbx⟩
               replace HB := Lib.hid (below_on HB.out hbx)
               replace HX := Lib.hid (HX.out.below hbx)
               replace HY := Lib.hid (HY.out.below hbx)
               replace HZ := Lib.hid (HZ.out.below hbx)
               replace HQA := Lib.hid (HQA.out.below hbx)
               replace HQB := Lib.hid (HQB.out.below hbx)
               replace HBA := Lib.hid (HBA.out.below hbx)
               replace HBB := Lib.hid (HBB.out.below hbx)
               replace HC64 := Lib.hid (HC64.out.below hbx)
               refine hK.out _ _ (by with_reducible exact ⟨HBA.out.c0, HBA.out.c1, HBA.out.c2, HBA.out.c3, HBB.out.c0, HBB.out.c1, HBB.out.c2, HBB.out.c3⟩) (fun hHeld => ?_)
               clear hK K
               try simp only [Act.put, List.setIfInBounds_toArray, List.set_cons_zero, List.set_cons_succ]
               have HN65 := Lib.hid ho
               clear ho hbx
               refine wpAnyH_ready (rs := [24]) (by kernel_rfl) (by simp) ?_
               refine AllReadyH.cons rfl (fun K hK => ?_) AllReadyH.nil
               try simp only [List.getElem_toArray, List.getElem_cons_zero, List.getElem_cons_succ]
               go_simp
               with_reducible refine (Q.same_q (HN65.out.isq (k := 700) (((FX.out.put NMB.out p).nm p).ql (by omega) (by omega))) (HQB.out.mono (l := 700) (by omega)) (by omega) (by omega) true (decide_eq_true E10.out)).mono ?_
               rintro e w66 ⟨rfl, hbx⟩
               replace HB := Lib.hid (below_on HB.out hbx)
               replace HX := Lib.hid (HX.out.below hbx)
               replace HY := Lib.hid (HY.out.below hbx)
               replace HZ := Lib.hid (HZ.out.below hbx)
               replace HQA := Lib.hid (HQA.out.below hbx)
               replace HQB := Lib.hid (HQB.out.below hbx)
               replace HBA := Lib.hid (HBA.out.below hbx)
               replace HBB := Lib.hid (HBB.out.below hbx)
               replace HC64 := Lib.hid (HC64.out.below hbx)
               replace HN65 := Lib.hid (HN65.out.below hbx)
               refine hK.out _ _ (by with_reducible exact ⟨HBA.out.c0, HBA.out.c1, HBA.out.c2, HBA.out.c3, HBB.out.c0, HBB.out.c1, HBB.out.c2, HBB.out.c3⟩) (fun hHeld => ?_)
               clear hK K
               try simp only [Act.put, List.setIfInBounds_toArray, List.set_cons_zero, List.set_cons_succ]
               clear hbx
               clear HC64 HN65
               refine' wpAnyH_take (i := 25) (v := _) rfl (by kernel_rfl) (by kernel_rfl) (by kernel_rfl) (fun _ _ _ h => h) (Or.inl ⟨by rfl, ?hy69⟩) (by assumption) ?rest69
               case hy69 => (intro w hSw; (try dsimp only at hSw); try simp only [List.getElem_toArray, List.getElem_cons_zero, List.getElem_cons_succ]; go_simp; (try with_reducible rfl))
               try simp only [List.getElem_toArray, List.getElem_cons_zero, List.getElem_cons_succ]
               try simp only [Act.put, List.setIfInBounds_toArray, List.set_cons_zero, List.set_cons_succ]
               refine' wpAnyH_take (i := 26) (v := _) rfl (by kernel_rfl) (by kernel_rfl) (by kernel_rfl) (fun _ _ _ h => h) (Or.inl ⟨by rfl, ?hy70⟩) (by assumption) ?rest70
               case hy70 => (intro w hSw; (try dsimp only at hSw); try simp only [List.getElem_toArray, List.getElem_cons_zero, List.getElem_cons_succ]; go_simp; (try with_reducible rfl))
               try simp only [List.getElem_toArray, List.getElem_cons_zero, List.getElem_cons_succ]
               try simp only [Act.put, List.setIfInBounds_toArray, List.set_cons_zero, List.set_cons_succ]
               refine' wpAnyH_take (i := 27) (v := _) rfl (by kernel_rfl) (by kernel_rfl) (by kernel_rfl) (fun _ _ _ h => h) (Or.inl ⟨by rfl, ?hy71⟩) (by assumption) ?rest71
               case hy71 => (intro w hSw; (try dsimp only at hSw); try simp only [List.getElem_toArray, List.getElem_cons_zero, List.getElem_cons_succ]; go_simp; (try with_reducible rfl))
               try simp only [List.getElem_toArray, List.getElem_cons_zero, List.getElem_cons_succ]
               try simp only [Act.put, List.setIfInBounds_toArray, List.set_cons_zero, List.set_cons_succ]
               refine' wpAnyH_take (i := 28) (v := _) rfl (by kernel_rfl) (by kernel_rfl) (by kernel_rfl) (fun _ _ _ h => h) (Or.inl ⟨by rfl, ?hy72⟩) (by assumption) ?rest72
               case hy72 => (intro w hSw; (try dsimp only at hSw); try simp only [List.getElem_toArray, List.getElem_cons_zero, List.getElem_cons_succ]; go_simp; (try with_reducible rfl))
               try simp only [List.getElem_toArray, List.getElem_cons_zero, List.getElem_cons_succ]
               try simp only [Act.put, List.setIfInBounds_toArray, List.set_cons_zero, List.set_cons_succ]
               refine' wpAnyH_take (i := 29) (v := _) rfl (by kernel_rfl) (by kernel_rfl) (by kernel_rfl) (fun _ _ _ h => h) (Or.inl ⟨by rfl, ?hy73⟩) (by assumption) ?rest73
               case hy73 => (intro w hSw; (try dsimp only at hSw); try simp only [List.getElem_toArray, List.getElem_cons_zero, List.getElem_cons_succ]; go_simp; (try with_reducible rfl))
               try simp only [List.getElem_toArray, List.getElem_cons_zero, List.getElem_cons_succ]
               try simp only [Act.put, List.setIfInBounds_toArray, List.set_cons_zero, List.set_cons_succ]
               refine' wpAnyH_take (i := 30) (v := _) rfl (by kernel_rfl) (by kernel_rfl) (by kernel_rfl) (fun _ _ _ h => h) (Or.inl ⟨by rfl, ?hy74⟩) (by assumption) ?rest74
               case hy74 => (intro w hSw; (try dsimp only at hSw); try simp only [List.getElem_toArray, List.getElem_cons_zero, List.getElem_cons_succ]; go_simp; (try with_reducible rfl))
               try simp only [List.getElem_toArray, List.getElem_cons_zero, List.getElem_cons_succ]
               try simp only [Act.put, List.setIfInBounds_toArray, List.set_cons_zero, List.set_cons_succ]
               refine' wpAnyH_take (i := 32) (v := _) rfl (by kernel_rfl) (by kernel_rfl) (by kernel_rfl) (fun _ _ _ h => h) (Or.inl ⟨by rfl, ?hy75⟩) (by assumption) ?rest75
               case hy75 => (intro w hSw; (try dsimp only at hSw); try simp only [List.getElem_toArray, List.getElem_cons_zero, List.getElem_cons_succ]; go_simp; (try with_reducible rfl))
               try simp only [List.getElem_toArray, List.getElem_cons_zero, List.getElem_cons_succ]
               try simp only [Act.put, List.setIfInBounds_toArray, List.set_cons_zero, List.set_cons_succ]
               refine' wpAnyH_take (i := 33) (v := _) rfl (by kernel_rfl) (by kernel_rfl) (by kernel_rfl) (fun _ _ _ h => h) (Or.inl ⟨by rfl, ?hy76⟩) (by assumption) ?rest76
               case hy76 => (intro w hSw; (try dsimp only at hSw); try simp only [List.getElem_toArray, List.getElem_cons_zero, List.getElem_cons_succ]; go_simp; (try with_reducible rfl))
               try simp only [List.getElem_toArray, List.getElem_cons_zero, List.getElem_cons_succ]
               try simp only [Act.put, List.setIfInBounds_toArray, List.set_cons_zero, List.set_cons_succ]
               refine' wpAnyH_take (i := 34) (v := _) rfl (by kernel_rfl) (by kernel_rfl) (by kernel_rfl) (fun _ _ _ h => h) (Or.inl ⟨by rfl, ?hy77⟩) (by assumption) ?rest77
               case hy77 => (intro w hSw; (try dsimp only at hSw); try simp only [List.getElem_toArray, List.getElem_cons_zero, List.getElem_cons_succ]; go_simp; (try with_reducible rfl))
               try simp only [List.getElem_toArray, List.getElem_cons_zero, List.getElem_cons_succ]
               try simp only [Act.put, List.setIfInBounds_toArray, List.set_cons_zero, List.set_cons_succ]
               refine' wpAnyH_take (i := 37) (v := _) rfl (by kernel_rfl) (by kernel_rfl) (by kernel_rfl) (fun _ _ _ h => h) (Or.inl ⟨by rfl, ?hy78⟩) (by assumption) ?rest78
               case hy78 => (intro w hSw; (try dsimp only at hSw); try simp only [List.getElem_toArray, List.getElem_cons_zero, List.getElem_cons_succ]; go_simp; (try with_reducible rfl))
               try simp only [List.getElem_toArray, List.getElem_cons_zero, List.getElem_cons_succ]
               try simp only [Act.put, List.setIfInBounds_toArray, List.set_cons_zero, List.set_cons_succ]
               refine wpAnyH_ready (rs := [31]) (by kernel_rfl) (by simp) ?_
               refine AllReadyH.cons rfl (fun K hK => ?_) AllReadyH.nil
               try simp only [List.getElem_toArray, List.getElem_cons_zero, List.getElem_cons_succ]
               go_simp
               with_reducible refine (put_c (HQB.out.mono (l := 700) (by omega)) (NMB.out.ql (by omega) (by omega)) HX.out p HPR.out rfl (FX.out.put NMB.out p) (by omega) (by omega)).mono ?_
               rintro e w67 ⟨G67, n67, c67, rfl, hc, hbx⟩
               replace HB := Lib.hid (below_on HB.out hbx)
               replace HX := Lib.hid (HX.out.below hbx)
               replace HY := Lib.hid (HY.out.below hbx)
               replace HZ := Lib.hid (HZ.out.below hbx)
               replace HQA := Lib.hid (HQA.out.below hbx)
               replace HQB := Lib.hid (HQB.out.below hbx)
               replace HBA := Lib.hid (HBA.out.below hbx)
               replace HBB := Lib.hid (HBB.out.below hbx)
               refine hK.out _ _ (by with_reducible exact ⟨HBA.out.c0, HBA.out.c1, HBA.out.c2, HBA.out.c3, HBB.out.c0, HBB.out.c1, HBB.out.c2, HBB.out.c3⟩) (fun hHeld => ?_)
               clear hK K
               try simp only [Act.put, List.setIfInBounds_toArray, List.set_cons_zero, List.set_cons_succ]
               have HC67 := Lib.hid hc
               clear hc hbx
               refine wpAnyH_ready (rs := [35]) (by kernel_rfl) (by simp) ?_
               refine AllReadyH.cons rfl (fun K hK => ?_) AllReadyH.nil
               try simp only [List.getElem_toArray, List.getElem_cons_zero, List.getElem_cons_succ]
               go_simp
               with_reducible refine (get_c HX.out p _ rfl).mono ?_
               rintro e w68 ⟨s68, A68, m68, c68, t68, B68, l68, d68, rfl, ho, hbx⟩
               replace HB := Lib.hid (below_on HB.out hbx)
               replace HX := Lib.hid (HX.out.below hbx)
               replace HY := Lib.hid (HY.out.below hbx)
               replace HZ := Lib.hid (HZ.out.below hbx)
               replace HQA := Lib.hid (HQA.out.below hbx)
               replace HQB := Lib.hid (HQB.out.below hbx)
               replace HBA := Lib.hid (HBA.out.below hbx)
               replace HBB := Lib.hid (HBB.out.below hbx)
               replace HC67 := Lib.hid (HC67.out.below hbx)
               refine hK.out _ _ (by with_reducible exact ⟨HBA.out.c0, HBA.out.c1, HBA.out.c2, HBA.out.c3, HBB.out.c0, HBB.out.c1, HBB.out.c2, HBB.out.c3⟩) (fun hHeld => ?_)
               clear hK K
               try simp only [Act.put, List.setIfInBounds_toArray, List.set_cons_zero, List.set_cons_succ]
               have HN68 := Lib.hid ho
               clear ho hbx
               refine wpAnyH_ready (rs := [36]) (by kernel_rfl) (by simp) ?_
               refine AllReadyH.cons rfl (fun K hK => ?_) AllReadyH.nil
               try simp only [List.getElem_toArray, List.getElem_cons_zero, List.getElem_cons_succ]
               go_simp
               with_reducible refine (put_c (HN68.out.isq (k := 700) ((FX.out.nm p).ql (by omega) (by omega))) ((FX.out.nm p).ql (by omega) (by omega)) (HC67.out.vf (FX.out.put NMB.out p) (by omega) (by omega) (by omega)) p HPR.out rfl ((FX.out.put NMB.out p).put (FX.out.nm p) p) (by omega) (by omega)).mono ?_
               rintro e w69 ⟨G69, n69, c69, rfl, hc, hbx⟩
               replace HB := Lib.hid (below_on HB.out hbx)
               replace HX := Lib.hid (HX.out.below hbx)
               replace HY := Lib.hid (HY.out.below hbx)
               replace HZ := Lib.hid (HZ.out.below hbx)
               replace HQA := Lib.hid (HQA.out.below hbx)
               replace HQB := Lib.hid (HQB.out.below hbx)
               replace HBA := Lib.hid (HBA.out.below hbx)
               replace HBB := Lib.hid (HBB.out.below hbx)
               replace HC67 := Lib.hid (HC67.out.below hbx)
               replace HN68 := Lib.hid (HN68.out.below hbx)
               refine hK.out _ _ (by with_reducible exact ⟨HBA.out.c0, HBA.out.c1, HBA.out.c2, HBA.out.c3, HBB.out.c0, HBB.out.c1, HBB.out.c2, HBB.out.c3⟩) (fun hHeld => ?_)
               clear hK K
               try simp only [Act.put, List.setIfInBounds_toArray, List.set_cons_zero, List.set_cons_succ]
               have HC69 := Lib.hid hc
               clear hc hbx
               refine wpAnyH_ready (rs := [38]) (by kernel_rfl) (by simp) ?_
               refine AllReadyH.cons rfl (fun K hK => ?_) AllReadyH.nil
               try simp only [List.getElem_toArray, List.getElem_cons_zero, List.getElem_cons_succ]
               go_simp
               with_reducible refine (norm_c HX.out FX.out (by omega) (by omega)).mono ?_
               rintro e w70 ⟨G70, n70, c70, rfl, hc, hbx⟩
               replace HB := Lib.hid (below_on HB.out hbx)
               replace HX := Lib.hid (HX.out.below hbx)
               replace HY := Lib.hid (HY.out.below hbx)
               replace HZ := Lib.hid (HZ.out.below hbx)
               replace HQA := Lib.hid (HQA.out.below hbx)
               replace HQB := Lib.hid (HQB.out.below hbx)
               replace HBA := Lib.hid (HBA.out.below hbx)
               replace HBB := Lib.hid (HBB.out.below hbx)
               replace HC67 := Lib.hid (HC67.out.below hbx)
               replace HN68 := Lib.hid (HN68.out.below hbx)
               replace HC69 := Lib.hid (HC69.out.below hbx)
               refine hK.out _ _ (by with_reducible exact ⟨HBA.out.c0, HBA.out.c1, HBA.out.c2, HBA.out.c3, HBB.out.c0, HBB.out.c1, HBB.out.c2, HBB.out.c3⟩) (fun hHeld => ?_)
               clear hK K
               try simp only [Act.put, List.setIfInBounds_toArray, List.set_cons_zero, List.set_cons_succ]
               have HC70 := Lib.hid hc
               clear hc hbx
               refine wpAnyH_ready (rs := [39]) (by kernel_rfl) (by simp) ?_
               refine AllReadyH.cons rfl (fun K hK => ?_) AllReadyH.nil
               try simp only [List.getElem_toArray, List.getElem_cons_zero, List.getElem_cons_succ]
               go_simp
               with_reducible refine (samevec_e HC69.out HC70.out ((FX.out.put NMB.out p).put (FX.out.nm p) p) (by omega) E9.out).mono ?_
               rintro e w71 ⟨rfl, hbx⟩
               replace HB := Lib.hid (below_on HB.out hbx)
               replace HX := Lib.hid (HX.out.below hbx)
               replace HY := Lib.hid (HY.out.below hbx)
               replace HZ := Lib.hid (HZ.out.below hbx)
               replace HQA := Lib.hid (HQA.out.below hbx)
               replace HQB := Lib.hid (HQB.out.below hbx)
               replace HBA := Lib.hid (HBA.out.below hbx)
               replace HBB := Lib.hid (HBB.out.below hbx)
               replace HC67 := Lib.hid (HC67.out.below hbx)
               replace HN68 := Lib.hid (HN68.out.below hbx)
               replace HC69 := Lib.hid (HC69.out.below hbx)
               replace HC70 := Lib.hid (HC70.out.below hbx)
               refine hK.out _ _ (by with_reducible exact ⟨HBA.out.c0, HBA.out.c1, HBA.out.c2, HBA.out.c3, HBB.out.c0, HBB.out.c1, HBB.out.c2, HBB.out.c3⟩) (fun hHeld => ?_)
               clear hK K
               try simp only [Act.put, List.setIfInBounds_toArray, List.set_cons_zero, List.set_cons_succ]
               clear hbx
               clear HC67 HN68 HC69 HC70
               refine' wpAnyH_take (i := 40) (v := _) rfl (by kernel_rfl) (by kernel_rfl) (by kernel_rfl) (fun _ _ _ h => h) (Or.inl ⟨by rfl, ?hy79⟩) (by assumption) ?rest79
               case hy79 => (intro w hSw; (try dsimp only at hSw); try simp only [List.getElem_toArray, List.getElem_cons_zero, List.getElem_cons_succ]; go_simp; (try with_reducible rfl))
               try simp only [List.getElem_toArray, List.getElem_cons_zero, List.getElem_cons_succ]
               try simp only [Act.put, List.setIfInBounds_toArray, List.set_cons_zero, List.set_cons_succ]
               refine' wpAnyH_take (i := 41) (v := _) rfl (by kernel_rfl) (by kernel_rfl) (by kernel_rfl) (fun _ _ _ h => h) (Or.inl ⟨by rfl, ?hy80⟩) (by assumption) ?rest80
               case hy80 => (intro w hSw; (try dsimp only at hSw); try simp only [List.getElem_toArray, List.getElem_cons_zero, List.getElem_cons_succ]; go_simp; (try with_reducible rfl))
               try simp only [List.getElem_toArray, List.getElem_cons_zero, List.getElem_cons_succ]
               try simp only [Act.put, List.setIfInBounds_toArray, List.set_cons_zero, List.set_cons_succ]
               refine wpAnyH_done (by kernel_rfl) ?_ _
               go_upto_region 8 with fail
               as_aux_lemma =>
                go_wp2_with fail
                refine (same_c HX.out HY.out).mono ?_
                rintro e w72 ⟨bs, rfl, hbs, hbx⟩
                replace HB := Lib.hid (below_on HB.out hbx)
                replace HX := Lib.hid (HX.out.below hbx)
                replace HY := Lib.hid (HY.out.below hbx)
                replace HZ := Lib.hid (HZ.out.below hbx)
                replace HQA := Lib.hid (HQA.out.below hbx)
                replace HQB := Lib.hid (HQB.out.below hbx)
                replace HBA := Lib.hid (HBA.out.below hbx)
                replace HBB := Lib.hid (HBB.out.below hbx)
                have HBS := Lib.hid hbs
                clear hbs hbx
                go_wp2_with fail
                refine (norm_c HX.out FX.out (by omega) (by omega)).mono ?_
                rintro e w73 ⟨G73, n73, c73, rfl, hc, hbx⟩
                replace HB := Lib.hid (below_on HB.out hbx)
                replace HX := Lib.hid (HX.out.below hbx)
                replace HY := Lib.hid (HY.out.below hbx)
                replace HZ := Lib.hid (HZ.out.below hbx)
                replace HQA := Lib.hid (HQA.out.below hbx)
                replace HQB := Lib.hid (HQB.out.below hbx)
                replace HBA := Lib.hid (HBA.out.below hbx)
                replace HBB := Lib.hid (HBB.out.below hbx)
                have HC73 := Lib.hid hc
                clear hc hbx
                go_wp2_with fail
                refine (norm_c HY.out FY.out (by omega) (by omega)).mono ?_
                rintro e w74 ⟨G74, n74, c74, rfl, hc, hbx⟩
                replace HB := Lib.hid (below_on HB.out hbx)
                replace HX := Lib.hid (HX.out.below hbx)
                replace HY := Lib.hid (HY.out.below hbx)
                replace HZ := Lib.hid (HZ.out.below hbx)
                replace HQA := Lib.hid (HQA.out.below hbx)
                replace HQB := Lib.hid (HQB.out.below hbx)
                replace HBA := Lib.hid (HBA.out.below hbx)
                replace HBB := Lib.hid (HBB.out.below hbx)
                replace HC73 := Lib.hid (HC73.out.below hbx)
                have HC74 := Lib.hid hc
                clear hc hbx
                go_wp2_with fail
                refine (samevec_c HC73.out HC74.out (CF.le HC73.out FX.out (by omega)) bs HBS.out).mono ?_
                rintro e w75 ⟨rfl, hbx⟩
                replace HB := Lib.hid (below_on HB.out hbx)
                replace HX := Lib.hid (HX.out.below hbx)
                replace HY := Lib.hid (HY.out.below hbx)
                replace HZ := Lib.hid (HZ.out.below hbx)
                replace HQA := Lib.hid (HQA.out.below hbx)
                replace HQB := Lib.hid (HQB.out.below hbx)
                replace HBA := Lib.hid (HBA.out.below hbx)
                replace HBB := Lib.hid (HBB.out.below hbx)
                replace HC73 := Lib.hid (HC73.out.below hbx)
                replace HC74 := Lib.hid (HC74.out.below hbx)
                clear hbx
                clear HC73 HC74
                have hbe : (bs == bs) = true := beq_self_eq_true bs
                go_wp2_with fail
                refine (awake_v w75).mono ?_
                rintro e w76 ⟨rfl, hbx⟩
                replace HB := Lib.hid (below_on HB.out hbx)
                replace HX := Lib.hid (HX.out.below hbx)
                replace HY := Lib.hid (HY.out.below hbx)
                replace HZ := Lib.hid (HZ.out.below hbx)
                replace HQA := Lib.hid (HQA.out.below hbx)
                replace HQB := Lib.hid (HQB.out.below hbx)
                replace HBA := Lib.hid (HBA.out.below hbx)
                replace HBB := Lib.hid (HBB.out.below hbx)
                go_wp2_with fail
                go_ret
                exact ⟨rfl, HB.out⟩
end Go.Proofs.YtmbnlhedbedcdaaGreat.V