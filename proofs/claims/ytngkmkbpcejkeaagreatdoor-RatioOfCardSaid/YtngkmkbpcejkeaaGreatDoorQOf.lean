/- QOf: several texts in one. -/
import Derived.Test.YtngkmkbpcejkeaaGreatDoorWTop
import Derived.Test.YtngkmkbpcejkeaaGreatDoorQLow
import Derived.Test.YtngkmkbpcejkeaaGreatDoorRAwake
/- The document's answer for ratio: whole's calls over letters; Lowest, Make, Of, walked. -/
namespace Go.Proofs.YtngkmkbpcejkeaaGreatDoor.Q.P
open Go.RowKit


section
variable {w : World} {s t : Bool} {A B : Option Addr} {n c m d k : Nat} {y z : Int}

theorem add_j (h1 : IsZ w s A n c y k) (h2 : IsZ w t B m d z k) (hk : k ≤ 3000) (r : Int) (hr : y + z = r) : Calls Tryz.prog 83 #[.agg #[.bool s, .slice A n c], .agg #[.bool t, .slice B m d]] w (RetJ w r) := by
  obtain ⟨xs, rfl, ha, hx⟩ := h1.ex
  obtain ⟨ys, rfl, hb, hy⟩ := h2.ex
  exact (wadd_z w s t A B c d xs ys y z ha hb hx hy (by have := h1.le; omega) (by have := h2.le; omega) h1.cap h2.cap r hr).mono fun _ _ => retj_of
theorem mul_j (h1 : IsZ w s A n c y k) (h2 : IsZ w t B m d z k) (hk : k ≤ 3000) (r : Int) (hr : y * z = r) : Calls Tryz.prog 84 #[.agg #[.bool s, .slice A n c], .agg #[.bool t, .slice B m d]] w (RetJ w r) := by
  obtain ⟨xs, rfl, ha, hx⟩ := h1.ex
  obtain ⟨ys, rfl, hb, hy⟩ := h2.ex
  exact (wmul_z w s t A B c d xs ys y z ha hb hx hy (by have := h1.le; omega) (by have := h2.le; omega) h1.cap h2.cap r hr).mono fun _ _ => retj_of
theorem gcd_j (h1 : IsZ w s A n c y k) (h2 : IsZ w t B m d z k) (hk : k ≤ 3000) (r : Int) (hr : ((Nat.gcd y.natAbs z.natAbs : Nat) : Int) = r) : Calls Tryz.prog 117 #[.agg #[.bool s, .slice A n c], .agg #[.bool t, .slice B m d]] w (RetJ w r) := by
  obtain ⟨xs, rfl, ha, hx⟩ := h1.ex
  obtain ⟨ys, rfl, hb, hy⟩ := h2.ex
  exact (wgcd_z w s t A B c d xs ys y z ha hb hx hy (by have := h1.le; omega) (by have := h2.le; omega) h1.cap h2.cap r hr).mono fun _ _ => retj_of
theorem cmp_j (h1 : IsZ w s A n c y k) (h2 : IsZ w t B m d z k) (hk : k ≤ 3000) (r : Int) (hr : zcmp y z = r) : Calls Tryz.prog 89 #[.agg #[.bool s, .slice A n c], .agg #[.bool t, .slice B m d]] w (RetI w r) := by
  obtain ⟨xs, rfl, ha, hx⟩ := h1.ex
  obtain ⟨ys, rfl, hb, hy⟩ := h2.ex
  exact wcmp_z w s t A B c d xs ys y z ha hb hx hy (by have := h1.le; omega) (by have := h2.le; omega) h1.cap h2.cap r hr
theorem divmod_j (h1 : IsZ w s A n c y k) (h2 : IsZ w t B m d z k) (hk : k ≤ 3000) (q r : Int) (hq : y / z = q) (hr : zrem y z = r) : Calls Tryz.prog 90 #[.agg #[.bool s, .slice A n c], .agg #[.bool t, .slice B m d]] w (RetJJ w q r) := by
  obtain ⟨xs, rfl, ha, hx⟩ := h1.ex
  obtain ⟨ys, rfl, hb, hy⟩ := h2.ex
  refine (wdivmod_z w s t A B c d xs ys y z ha hb hx hy (by have := h1.le; omega) (by have := h2.le; omega) h1.cap h2.cap q r hq hr).mono ?_
  rintro e w' ⟨A1, c1, B1, d1, rfl, hc, hd, h3, h4, h5⟩
  exact ⟨_, _, _, _, _, _, _, _, rfl, ⟨rfl, rfl, h3, hc⟩, ⟨rfl, rfl, h4, hd⟩, h5⟩
theorem norm_j (h1 : IsZ w s A n c y k) (hk : k ≤ 3000) : Calls Tryz.prog 116 #[.agg #[.bool s, .slice A n c]] w (RetJ w y) := by
  obtain ⟨xs, rfl, ha, hx⟩ := h1.ex
  exact (wnorm_z w s A c xs y ha hx (by have := h1.le; omega) h1.cap _ rfl).mono fun _ _ => retj_of
theorem neg_j (h1 : IsZ w s A n c y k) (hk : k ≤ 3000) (r : Int) (hr : -y = r) : Calls Tryz.prog 88 #[.agg #[.bool s, .slice A n c]] w (RetJ w r) := by
  obtain ⟨xs, rfl, ha, hx⟩ := h1.ex
  exact (wneg_z w s A c xs y ha hx (by have := h1.le; omega) h1.cap r hr).mono fun _ _ => retj_of
theorem sign_j (h1 : IsZ w s A n c y k) (hk : k ≤ 3000) (r : Int) (hr : y.sign = r) : Calls Tryz.prog 87 #[.agg #[.bool s, .slice A n c]] w (RetI w r) := by
  obtain ⟨xs, rfl, ha, hx⟩ := h1.ex
  exact wsign_z w s A c xs y ha hx (by have := h1.le; omega) h1.cap _ hr
end
theorem of_j (w : World) (z r : Int) (hr : z = r) (h1 : -9223372036854775808 ≤ r) (h2 : r ≤ 9223372036854775807) : Calls Tryz.prog 91 #[.int .i64 z] w (RetJ w r) := (wof_z w z r hr h1 h2).mono fun _ _ => retj_of

set_option maxRecDepth 100000 in
set_option maxHeartbeats 2000000 in
theorem lowest_q {w : World} {s t : Bool} {A B : Option Addr} {n c m d k : Nat} {y z : Int} {q : Rat} (h1 : IsZ w s A n c y k) (h2 : IsZ w t B m d z k) (hk : 1 ≤ k) (hk2 : k ≤ 3000) (hzp : 0 < z) (hq : Rat.divInt y z = q) :
    Calls Tryz.prog 82 #[.agg #[.bool s, .slice A n c], .agg #[.bool t, .slice B m d]] w (RetQ w q) := by
  have HS := Lib.hid (SQ.start w s A n c t B m d)
  have HA := Lib.hid (((h1.alloc (.cells #[.bool s, .slice A n c] 25)).alloc (.cells #[.bool t, .slice B m d] 25)).alloc (.cells #[.bool false, .slice none 0 0, .bool false, .slice none 0 0] 28))
  have HB := Lib.hid (((h2.alloc (.cells #[.bool s, .slice A n c] 25)).alloc (.cells #[.bool t, .slice B m d] 25)).alloc (.cells #[.bool false, .slice none 0 0, .bool false, .slice none 0 0] 28))
  have hly := h1.zl
  have hlz := h2.zl
  have hlow := low (n := y) hzp
  have hgl : zl (((Nat.gcd y.natAbs z.natAbs : Nat) : Int)) ≤ k := by
    refine Nat.le_trans ?_ hlz
    unfold zl
    rw [Int.natAbs_natCast]
    exact dl_le (Nat.gcd_le_right _ (by omega))
  obtain ⟨g, hg⟩ : ∃ g : Int, ((Nat.gcd y.natAbs z.natAbs : Nat) : Int) = g := ⟨_, rfl⟩
  rw [hq, hg] at hlow
  rw [hg] at hgl
  have hle := low_le (n := y) hzp
  rw [hq] at hle
  have HDL : Hid (zl (q.den : Int) ≤ k) := by show _ ≤ _; rw [den_zl]; exact Nat.le_trans (dl_le hle.2) hlz
  obtain ⟨one, hone⟩ : ∃ one : Int, (1 : Int) = one := ⟨_, rfl⟩
  have HOB : Hid (one = 1) := hone.symm
  have HOL : Hid (zl one ≤ k) := by show _ ≤ _; rw [← hone]; exact Nat.le_trans (zl_small (by omega) (by omega)) hk
  have HONE := Lib.hid hone
  have HG := Lib.hid hg
  have HGL := Lib.hid hgl
  have HN := Lib.hid hlow.1
  have HD := Lib.hid hlow.2
  clear h1 h2 hly hlz hlow hgl hg hle hq hone
  go_enter Tryz.func82, Tryz.ntmps82
  go_wp2_with fail
  refine (gcd_j HA.out HB.out hk2 g HG.out).mono ?_
  rintro e w1 ⟨sg, Ag, ng, cg, rfl, h1, hb1⟩
  have HS1 := Lib.hid (HS.out.below hb1)
  have HA1 := Lib.hid (HA.out.below hb1)
  have HB1 := Lib.hid (HB.out.below hb1)
  have H1 := Lib.hid (h1.isz HGL.out)
  have HLW : Hid (w.heap.size + 1 + 1 < w1.heap.size) := HS1.out.o.lt
  clear h1 hb1 HS HA HB
  obtain ⟨W, hW⟩ : ∃ W, w1.alloc (.cells #[.bool sg, .slice Ag ng cg] 25) = W := ⟨_, rfl⟩
  have HG2 : Hid (Ibx W w1.heap.size sg Ag ng cg) := by rw [← hW]; exact Ibx.new' _ _ _ _ _ _ rfl
  have HS2 : Hid (SQ w W s A n c t B m d) := by rw [← hW]; exact HS1.out.alloc _
  have HA2 : Hid (IsZ W s A n c y k) := by rw [← hW]; exact HA1.out.alloc _
  have HB2 : Hid (IsZ W t B m d z k) := by rw [← hW]; exact HB1.out.alloc _
  have HO2 : Hid (IsZ W sg Ag ng cg g k) := by rw [← hW]; exact H1.out.alloc _
  clear HS1 HA1 HB1 H1
  have k0 := HS2.out.i1.c0
  have k1 := HS2.out.i1.c1
  have g0 := HG2.out.c0
  have g1 := HG2.out.c1
  go_wp2_with fail
  refine (divmod_j HA2.out HO2.out hk2 q.num _ HN.out rfl).mono ?_
  rintro e w3 ⟨s3, A3, n3, c3, sr, Ar, nr, cr, rfl, h3, hr3, hb3⟩
  clear hW k0 k1 g0 g1
  have HS3 := Lib.hid (HS2.out.below hb3)
  have HG3 := Lib.hid (HG2.out.below hb3)
  have HB3 := Lib.hid (HB2.out.below hb3)
  have HO3 := Lib.hid (HO2.out.below hb3)
  have HN3 := Lib.hid h3
  clear h3 hr3 hb3 HS2 HG2 HA2 HB2 HO2
  obtain ⟨V, hV⟩ : ∃ V, (w3.setCell ⟨w.heap.size, 0, none⟩ (.bool s3)).setCell ⟨w.heap.size, 1, none⟩ (.slice A3 n3 c3) = V := ⟨_, rfl⟩
  have HS4 : Hid (SQ w V s3 A3 n3 c3 t B m d) := by rw [← hV]; exact HS3.out.fst
  have HG4 : Hid (Ibx V w1.heap.size sg Ag ng cg) := by rw [← hV]; exact HG3.out.put_far (by have := HLW.out; omega)
  have HB4 : Hid (IsZ V t B m d z k) := by rw [← hV]; exact HB3.out.on2 HS3.out.i1.bx
  have HO4 : Hid (IsZ V sg Ag ng cg g k) := by rw [← hV]; exact HO3.out.on2 HS3.out.i1.bx
  have HN4 : Hid (OneZ V s3 A3 n3 c3 q.num) := by rw [← hV]; exact HN3.out.on2 HS3.out.i1.bx
  have j0 := HS3.out.i1.c0
  have j1 := HS3.out.i1.c1
  have f0 := HS3.out.i1.f 0
  have f1 := HS3.out.i1.f 1
  have k0 := HS4.out.i2.c0
  have k1 := HS4.out.i2.c1
  have g0 := HG4.out.c0
  have g1 := HG4.out.c1
  go_wp2_with fail
  refine (divmod_j HB4.out HO4.out hk2 (q.den : Int) _ HD.out rfl).mono ?_
  rintro e w5 ⟨s5, A5, n5, c5, sr, Ar, nr, cr, rfl, h5, hr5, hb5⟩
  clear hV j0 j1 f0 f1 k0 k1 g0 g1
  have HS5 := Lib.hid (HS4.out.below hb5)
  have HN5 := Lib.hid (HN4.out.below hb5)
  have HD5 := Lib.hid h5
  clear h5 hr5 hb5 HS3 HG3 HB3 HO3 HN3 HS4 HG4 HB4 HO4 HN4
  obtain ⟨U, hU⟩ : ∃ U, (w5.setCell ⟨w.heap.size + 1, 0, none⟩ (.bool s5)).setCell ⟨w.heap.size + 1, 1, none⟩ (.slice A5 n5 c5) = U := ⟨_, rfl⟩
  have HS6 : Hid (SQ w U s3 A3 n3 c3 s5 A5 n5 c5) := by rw [← hU]; exact HS5.out.snd
  have HN6 : Hid (OneZ U s3 A3 n3 c3 q.num) := by rw [← hU]; exact HN5.out.on2 HS5.out.i2.bx
  have HD6 : Hid (OneZ U s5 A5 n5 c5 (q.den : Int)) := by rw [← hU]; exact HD5.out.on2 HS5.out.i2.bx
  have j0 := HS5.out.i2.c0
  have j1 := HS5.out.i2.c1
  have f0 := HS5.out.i2.f 0
  have f1 := HS5.out.i2.f 1
  obtain ⟨kc, hkc⟩ : ∃ kc, zcmp (q.den : Int) one = kc := ⟨_, rfl⟩
  have HKC := Lib.hid hkc
  go_upto_region 4 with fail
  clear hU HS5 HN5 HD5 j0 j1 f0 f1
  have hdn := q.den_nz
  by_cases hd1 : q.den = 1
  · have b1 : (kc == 0) = true := by rw [← hkc, hd1, HOB.out]; rfl
    clear hkc hdn
    go_region_held3 (fun V => V.cell? ⟨w.heap.size + 1, 0, none⟩ = some (.bool s5) ∧ V.cell? ⟨w.heap.size + 1, 1, none⟩ = some (.slice A5 n5 c5))
     (first | (with_reducible exact ⟨HS8.out.i2.c0, HS8.out.i2.c1⟩) | (with_reducible exact ⟨HS7.out.i2.c0, HS7.out.i2.c1⟩) | (with_reducible exact ⟨HS6.out.drew.i2.c0, HS6.out.drew.i2.c1⟩))
     (first
      | (go_at_call 89; (with_reducible refine (cmp_j (HD7.out.isz HDL.out) (HO7.out.isz HOL.out) hk2 kc HKC.out).mono ?_); rintro e w8 ⟨rfl, hb8⟩; have HS8 := Lib.hid (HS7.out.below hb8); have HN8 := Lib.hid (HN7.out.below hb8); have HD8 := Lib.hid (HD7.out.below hb8))
      | (go_at_call 91; (with_reducible refine (of_j _ 1 one HONE.out (by have := HOB.out; omega) (by have := HOB.out; omega)).mono ?_); rintro e w7 ⟨s7, A7, n7, c7, rfl, h7, hb7⟩; have HS7 := Lib.hid (HS6.out.drew.below hb7); have HN7 := Lib.hid (HN6.out.drew.below hb7); have HD7 := Lib.hid (HD6.out.drew.below hb7); have HO7 := Lib.hid h7))
    all_goals
      have k0 := HS8.out.i1.c0
      have k1 := HS8.out.i1.c1
      have k2 := HS8.out.i2.c0
      have k3 := HS8.out.i2.c1
      have f0 := HS8.out.i2.f 0
      have f1 := HS8.out.i2.f 1
      have o0 := HS8.out.o.c0
      have o1 := HS8.out.o.c1
      have o2 := HS8.out.o.c2
      have o3 := HS8.out.o.c3
      have p0 := HS8.out.o.f 0
      have p1 := HS8.out.o.f 1
      have p2 := HS8.out.o.f 2
      have p3 := HS8.out.o.f 3
      go_wp2_with fail
      refine bodyPost_ret (v := .agg #[.bool s3, .slice A3 n3 c3, .bool false, .slice none 0 0]) (by simp [results, Tryz.results82, go_sem, o0, o1, o2, o3]) rfl ?_
      exact retq_put (oneq_one (HN8.out.on2 HS8.out.i2.bx) hd1 0) HS8.out.snd.o (by omega) HS8.out.snd.bel
  · have b1 : (kc == 0) = false := by
      rw [beq_eq_false_iff_ne, ← hkc, HOB.out]
      unfold zcmp
      split
      · omega
      · split <;> omega
    clear hkc hdn
    go_region_held3 (fun V => V.cell? ⟨w.heap.size + 1, 0, none⟩ = some (.bool s5) ∧ V.cell? ⟨w.heap.size + 1, 1, none⟩ = some (.slice A5 n5 c5))
     (first | (with_reducible exact ⟨HS8.out.i2.c0, HS8.out.i2.c1⟩) | (with_reducible exact ⟨HS7.out.i2.c0, HS7.out.i2.c1⟩) | (with_reducible exact ⟨HS6.out.drew.i2.c0, HS6.out.drew.i2.c1⟩))
     (first
      | (go_at_call 89; (with_reducible refine (cmp_j (HD7.out.isz HDL.out) (HO7.out.isz HOL.out) hk2 kc HKC.out).mono ?_); rintro e w8 ⟨rfl, hb8⟩; have HS8 := Lib.hid (HS7.out.below hb8); have HN8 := Lib.hid (HN7.out.below hb8); have HD8 := Lib.hid (HD7.out.below hb8))
      | (go_at_call 91; (with_reducible refine (of_j _ 1 one HONE.out (by have := HOB.out; omega) (by have := HOB.out; omega)).mono ?_); rintro e w7 ⟨s7, A7, n7, c7, rfl, h7, hb7⟩; have HS7 := Lib.hid (HS6.out.drew.below hb7); have HN7 := Lib.hid (HN6.out.drew.below hb7); have HD7 := Lib.hid (HD6.out.drew.below hb7); have HO7 := Lib.hid h7))
    all_goals
      have k0 := HS8.out.i1.c0
      have k1 := HS8.out.i1.c1
      have k2 := HS8.out.i2.c0
      have k3 := HS8.out.i2.c1
      have o0 := HS8.out.o.c0
      have o1 := HS8.out.o.c1
      have o2 := HS8.out.o.c2
      have o3 := HS8.out.o.c3
      have p0 := HS8.out.o.f 0
      have p1 := HS8.out.o.f 1
      have p2 := HS8.out.o.f 2
      have p3 := HS8.out.o.f 3
      go_wp2_with fail
      refine bodyPost_ret (v := .agg #[.bool s3, .slice A3 n3 c3, .bool s5, .slice A5 n5 c5]) (by simp [results, Tryz.results82, go_sem, o0, o1, o2, o3]) rfl ?_
      exact retq_put (oneq_of HN8.out HD8.out hd1) HS8.out.o (by omega) HS8.out.bel

end Go.Proofs.YtngkmkbpcejkeaaGreatDoor.Q.P

/- The document's answer for ratio: Make, Of, walked. -/
namespace Go.Proofs.YtngkmkbpcejkeaaGreatDoor.Q.P
open Go.RowKit

set_option maxRecDepth 100000 in
set_option maxHeartbeats 2000000 in
theorem make_q {w : World} {s t : Bool} {A B : Option Addr} {n c m d k : Nat} {y z : Int} (h1 : IsZ w s A n c y k) (h2 : IsZ w t B m d z k) (hk : 1 ≤ k) (hk2 : k ≤ 3000) (q : Rat) (hq : Rat.divInt y z = q) :
    Calls Tryz.prog 42 #[.agg #[.bool s, .slice A n c], .agg #[.bool t, .slice B m d]] w (RetQ w q) := by
  have HS := Lib.hid (SQ.start w s A n c t B m d)
  have HA := Lib.hid (((h1.alloc (.cells #[.bool s, .slice A n c] 25)).alloc (.cells #[.bool t, .slice B m d] 25)).alloc (.cells #[.bool false, .slice none 0 0, .bool false, .slice none 0 0] 28))
  have HB := Lib.hid (((h2.alloc (.cells #[.bool s, .slice A n c] 25)).alloc (.cells #[.bool t, .slice B m d] 25)).alloc (.cells #[.bool false, .slice none 0 0, .bool false, .slice none 0 0] 28))
  obtain ⟨sg, hsg⟩ : ∃ sg, z.sign = sg := ⟨_, rfl⟩
  have HSG := Lib.hid hsg
  rcases Int.lt_trichotomy z 0 with hz | hz | hz
  · have hs1 : (sg == 0) = false := by rw [← hsg, Int.sign_eq_neg_one_of_neg hz]; rfl
    have hs2 : sg < 0 := by rw [← hsg, Int.sign_eq_neg_one_of_neg hz]; omega
    obtain ⟨y', hy'⟩ : ∃ y', -y = y' := ⟨_, rfl⟩
    obtain ⟨z', hz'⟩ : ∃ z', -z = z' := ⟨_, rfl⟩
    have hzp : 0 < z' := by omega
    have HQ : Hid (Rat.divInt y' z' = q) := by show _ = _; rw [← hq, ← hy', ← hz', Rat.neg_divInt_neg]
    have HYL : Hid (zl y' ≤ k) := by show _ ≤ _; rw [← hy', zl_neg]; exact h1.zl
    have HZL : Hid (zl z' ≤ k) := by show _ ≤ _; rw [← hz', zl_neg]; exact h2.zl
    have HY := Lib.hid hy'
    have HZ := Lib.hid hz'
    clear h1 h2 hq hsg hz hy' hz'
    go_enter Tryz.func42, Tryz.ntmps42
    go_wp2_with fail
    refine (sign_j HB.out hk2 sg HSG.out).mono ?_
    rintro e w1 ⟨rfl, hb1⟩
    have HS1 := Lib.hid (HS.out.below hb1)
    have HA1 := Lib.hid (HA.out.below hb1)
    have HB1 := Lib.hid (HB.out.below hb1)
    clear hb1
    have k0 := HS1.out.i1.c0
    have k1 := HS1.out.i1.c1
    go_wp2_with fail
    refine (neg_j HA1.out hk2 y' HY.out).mono ?_
    rintro e w2 ⟨s2, A2, n2, c2, rfl, h2, hb2⟩
    have HS2 := Lib.hid (HS1.out.below hb2)
    have HB2 := Lib.hid (HB1.out.below hb2)
    have HN2 := Lib.hid (h2.isz HYL.out)
    clear h2 hb2 k0 k1
    obtain ⟨V, hV⟩ : ∃ V, (w2.setCell ⟨w.heap.size, 0, none⟩ (.bool s2)).setCell ⟨w.heap.size, 1, none⟩ (.slice A2 n2 c2) = V := ⟨_, rfl⟩
    have HS3 : Hid (SQ w V s2 A2 n2 c2 t B m d) := by rw [← hV]; exact HS2.out.fst
    have HB3 : Hid (IsZ V t B m d z k) := by rw [← hV]; exact HB2.out.on2 HS2.out.i1.bx
    have HN3 : Hid (IsZ V s2 A2 n2 c2 y' k) := by rw [← hV]; exact HN2.out.on2 HS2.out.i1.bx
    have j0 := HS2.out.i1.c0
    have j1 := HS2.out.i1.c1
    have f0 := HS2.out.i1.f 0
    have f1 := HS2.out.i1.f 1
    have k0 := HS3.out.i2.c0
    have k1 := HS3.out.i2.c1
    go_wp2_with fail
    refine (neg_j HB3.out hk2 z' HZ.out).mono ?_
    rintro e w4 ⟨s4, A4, n4, c4, rfl, h4, hb4⟩
    clear hV j0 j1 f0 f1 k0 k1
    have HS4 := Lib.hid (HS3.out.below hb4)
    have HN4 := Lib.hid (HN3.out.below hb4)
    have HD4 := Lib.hid (h4.isz HZL.out)
    clear h4 hb4
    obtain ⟨U, hU⟩ : ∃ U, (w4.setCell ⟨w.heap.size + 1, 0, none⟩ (.bool s4)).setCell ⟨w.heap.size + 1, 1, none⟩ (.slice A4 n4 c4) = U := ⟨_, rfl⟩
    have HS5 : Hid (SQ w U s2 A2 n2 c2 s4 A4 n4 c4) := by rw [← hU]; exact HS4.out.snd
    have HN5 : Hid (IsZ U s2 A2 n2 c2 y' k) := by rw [← hU]; exact HN4.out.on2 HS4.out.i2.bx
    have HD5 : Hid (IsZ U s4 A4 n4 c4 z' k) := by rw [← hU]; exact HD4.out.on2 HS4.out.i2.bx
    have j0 := HS4.out.i2.c0
    have j1 := HS4.out.i2.c1
    have f0 := HS4.out.i2.f 0
    have f1 := HS4.out.i2.f 1
    have k0 := HS5.out.i1.c0
    have k1 := HS5.out.i1.c1
    have k2 := HS5.out.i2.c0
    have k3 := HS5.out.i2.c1
    go_wp2_with fail
    refine (lowest_q HN5.out HD5.out hk hk2 hzp HQ.out).mono ?_
    rintro e w8 ⟨s8, A8, n8, c8, t8, B8, m8, d8, rfl, h8, hb8⟩
    clear hU j0 j1 f0 f1 k0 k1 k2 k3
    have HS8 := Lib.hid (HS5.out.below hb8)
    have HR8 := Lib.hid h8
    clear h8 hb8
    have o0 := HS8.out.o.c0
    have o1 := HS8.out.o.c1
    have o2 := HS8.out.o.c2
    have o3 := HS8.out.o.c3
    have f0 := HS8.out.o.f 0
    have f1 := HS8.out.o.f 1
    have f2 := HS8.out.o.f 2
    have f3 := HS8.out.o.f 3
    go_wp2_with fail
    refine bodyPost_ret (v := .agg #[.bool s8, .slice A8 n8 c8, .bool t8, .slice B8 m8 d8]) (by simp [results, Tryz.results42, go_sem, o0, o1, o2, o3]) rfl ?_
    exact retq_put HR8.out HS8.out.o (by omega) HS8.out.bel
  · have hs1 : (sg == 0) = true := by rw [← hsg, hz]; rfl
    have HQ : Hid (q = 0) := by show _ = _; rw [← hq, hz, Rat.divInt_zero]
    clear h1 h2 hq hsg hz
    go_enter Tryz.func42, Tryz.ntmps42
    go_wp2_with fail
    refine (sign_j HB.out hk2 sg HSG.out).mono ?_
    rintro e w1 ⟨rfl, hb1⟩
    have HS1 := Lib.hid (HS.out.below hb1)
    clear hb1
    have o0 := HS1.out.o.c0
    have o1 := HS1.out.o.c1
    have o2 := HS1.out.o.c2
    have o3 := HS1.out.o.c3
    have f0 := HS1.out.o.f 0
    have f1 := HS1.out.o.f 1
    have f2 := HS1.out.o.f 2
    have f3 := HS1.out.o.f 3
    go_wp2_with fail
    refine bodyPost_ret (v := .agg #[.bool false, .slice none 0 0, .bool false, .slice none 0 0]) (by simp [results, Tryz.results42, go_sem, o0, o1, o2, o3]) rfl ?_
    exact (by rw [HQ.out]; exact retq_put (oneq_zero _ 0 0) HS1.out.o (by omega) HS1.out.bel)
  · have hs1 : (sg == 0) = false := by rw [← hsg, Int.sign_eq_one_of_pos hz]; rfl
    have hs2 : ¬ sg < 0 := by rw [← hsg, Int.sign_eq_one_of_pos hz]; omega
    have HQ := Lib.hid hq
    clear h1 h2 hq hsg
    go_enter Tryz.func42, Tryz.ntmps42
    go_wp2_with fail
    refine (sign_j HB.out hk2 sg HSG.out).mono ?_
    rintro e w1 ⟨rfl, hb1⟩
    have HS1 := Lib.hid (HS.out.below hb1)
    have HA1 := Lib.hid (HA.out.below hb1)
    have HB1 := Lib.hid (HB.out.below hb1)
    clear hb1
    have k0 := HS1.out.i1.c0
    have k1 := HS1.out.i1.c1
    have k2 := HS1.out.i2.c0
    have k3 := HS1.out.i2.c1
    go_wp2_with fail
    refine (lowest_q HA1.out HB1.out hk hk2 hz HQ.out).mono ?_
    rintro e w8 ⟨s8, A8, n8, c8, t8, B8, m8, d8, rfl, h8, hb8⟩
    have HS8 := Lib.hid (HS1.out.below hb8)
    have HR8 := Lib.hid h8
    clear h8 hb8 k0 k1 k2 k3
    have o0 := HS8.out.o.c0
    have o1 := HS8.out.o.c1
    have o2 := HS8.out.o.c2
    have o3 := HS8.out.o.c3
    have f0 := HS8.out.o.f 0
    have f1 := HS8.out.o.f 1
    have f2 := HS8.out.o.f 2
    have f3 := HS8.out.o.f 3
    go_wp2_with fail
    refine bodyPost_ret (v := .agg #[.bool s8, .slice A8 n8 c8, .bool t8, .slice B8 m8 d8]) (by simp [results, Tryz.results42, go_sem, o0, o1, o2, o3]) rfl ?_
    exact retq_put HR8.out HS8.out.o (by omega) HS8.out.bel

set_option maxRecDepth 100000 in
set_option maxHeartbeats 2000000 in
theorem of_q (w : World) (y z : Int) (h1 : -9223372036854775808 ≤ y) (h2 : y ≤ 9223372036854775807) (h3 : -9223372036854775808 ≤ z) (h4 : z ≤ 9223372036854775807) (q : Rat) (hq : Rat.divInt y z = q) :
    Calls Tryz.prog 53 #[.int .i64 y, .int .i64 z] w (RetQ w q) := by
  have HS := Lib.hid (S0.start w)
  have HY : Hid (zl y ≤ 1) := zl_small h1 h2
  have HZ : Hid (zl z ≤ 1) := zl_small h3 h4
  have HO1 := Lib.hid (fun W => of_j W y y rfl h1 h2)
  have HO2 := Lib.hid (fun W => of_j W z z rfl h3 h4)
  have HQ := Lib.hid hq
  clear h1 h2 h3 h4 hq
  go_enter Tryz.func53, Tryz.ntmps53
  go_wp2_with fail
  refine (HO1.out _).mono ?_
  rintro e w1 ⟨s1, A1, n1, c1, rfl, h1, hb1⟩
  have HS1 := Lib.hid (HS.out.below hb1)
  have HN1 := Lib.hid h1
  clear h1 hb1
  go_wp2_with fail
  refine (HO2.out _).mono ?_
  rintro e w2 ⟨s2, A2, n2, c2, rfl, h2, hb2⟩
  have HS2 := Lib.hid (HS1.out.below hb2)
  have HN2 := Lib.hid (HN1.out.below hb2)
  have HD2 := Lib.hid h2
  clear h2 hb2
  go_wp2_with fail
  refine (make_q (HN2.out.isz HY.out) (HD2.out.isz HZ.out) (by omega) (by omega) q HQ.out).mono ?_
  rintro e w8 ⟨s8, A8, n8, c8, t8, B8, m8, d8, rfl, h8, hb8⟩
  have HS8 := Lib.hid (HS2.out.below hb8)
  have HR8 := Lib.hid h8
  clear h8 hb8
  have o0 := HS8.out.o.c0
  have o1 := HS8.out.o.c1
  have o2 := HS8.out.o.c2
  have o3 := HS8.out.o.c3
  have f0 := HS8.out.o.f 0
  have f1 := HS8.out.o.f 1
  have f2 := HS8.out.o.f 2
  have f3 := HS8.out.o.f 3
  go_wp2_with fail
  refine bodyPost_ret (v := .agg #[.bool s8, .slice A8 n8 c8, .bool t8, .slice B8 m8 d8]) (by simp [results, Tryz.results53, go_sem, o0, o1, o2, o3]) rfl ?_
  exact retq_put HR8.out HS8.out.o (by omega) HS8.out.bel

end Go.Proofs.YtngkmkbpcejkeaaGreatDoor.Q.P

/- RatioOf, walked. -/
namespace Go.Proofs.YtngkmkbpcejkeaaGreatDoor.Q
open Go.RowKit
open Go.Proofs.YtngkmkbpcejkeaaGreatDoor.D (Tab)

set_option maxRecDepth 100000 in
set_option maxHeartbeats 2000000 in
theorem of_walk (w : World) (y z : Int) (h1 : -9223372036854775808 ≤ y) (h2 : y ≤ 9223372036854775807) (h3 : -9223372036854775808 ≤ z) (h4 : z ≤ 9223372036854775807) (htab : Tab w) :
    Calls Tryz.prog 5 #[.int .i64 y, .int .i64 z] w (RetB w true) := by
  have HT := Lib.hid htab
  obtain ⟨q, hq⟩ : ∃ q, Rat.divInt y z = q := ⟨_, rfl⟩
  have HQ := Lib.hid hq
  have HL : Hid (ql q ≤ 1) := by show _ ≤ _; rw [← hq]; exact ql_of h1 h2 h3 h4
  have HO1 := Lib.hid (fun W => of_q W y z h1 h2 h3 h4 q hq)
  have HO2 := Lib.hid (fun W => P.of_q W y z h1 h2 h3 h4 q hq)
  clear htab hq h1 h2 h3 h4
  go_enter Tryz.func5, Tryz.ntmps5
  go_wp2_with fail
  refine (HO1.out _).mono ?_
  rintro e w1 ⟨s1, A1, n1, c1, t1, B1, m1, d1, rfl, hr1, hb1⟩
  have HB1 := Lib.hid hb1
  have HR1 := Lib.hid hr1
  clear hr1 hb1
  go_wp2_with fail
  refine (HO2.out _).mono ?_
  rintro e w2 ⟨s2, A2, n2, c2, t2, B2, m2, d2, rfl, hr2, hb2⟩
  have HB2 := Lib.hid (below_on HB1.out hb2)
  have HR2 := Lib.hid (HR1.out.below hb2)
  have HP2 := Lib.hid hr2
  clear hr2 hb2
  go_wp2_with fail
  refine (rat_t HR2.out HP2.out (Nat.le_trans HL.out (by omega)) rfl).mono ?_
  rintro e w3 ⟨rfl, hb3⟩
  have HB3 := Lib.hid (below_on HB2.out hb3)
  clear hb3
  go_wp2_with fail
  refine (awake_q _ (HT.out.below HB3.out)).mono ?_
  rintro e w4 ⟨rfl, hb4⟩
  have HB4 := Lib.hid (below_on HB3.out hb4)
  clear hb4
  go_wp2_with fail
  go_ret
  exact ⟨rfl, HB4.out⟩
end Go.Proofs.YtngkmkbpcejkeaaGreatDoor.Q
