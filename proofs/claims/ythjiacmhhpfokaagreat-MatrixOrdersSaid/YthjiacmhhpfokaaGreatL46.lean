/- Part 46 of the proof: MxOpen, MxOrdMath, MxOrders. -/
import Derived.Test.YthjiacmhhpfokaaGreatL45
namespace Go.Proofs.YthjiacmhhpfokaaGreat
open List renaming getElem?_eq_getElem → gE, length_take → lK
open Option.some renaming inj → oI
namespace V
set_option maxRecDepth 100000
open Go.ChangeShapes Go.WideShapes Go.ChangeAt Go.RowKit Go.Joins
theorem open_ints1 {H : Type} {enc : TypeId × Value → H} {W : World} {r : Reach} {b0 : Nat} {t : TypeId} {v : Value} {d : DataW H} {p : List MemPlace} (ht : Tryz.prog.underlying t = some (.slice 3)) (hv : Value.okWide Tryz.prog W r b0 t v) (h : DataW.Trod enc Tryz.prog W 0 (fun _ => true) true t v d p) :
  ∃ A n c xs, v = .slice A n c ∧ (RowI W A xs ∧ n = xs.length ∧ ∀ x ∈ xs, -9223372036854775808 ≤ x ∧ x ≤ 9223372036854775807) ∧ ∀ a, A = some a → a.block < W.heap.size := by
 obtain ⟨a0, len0, cap0, rfl⟩ := Go.WideShapes.okWide_slice ht hv
 obtain ⟨fuel, hf⟩ := h
 rcases Go.Deep.open_slice ht hf with ⟨e, _⟩ | ⟨a, len, cap, m, n, D, Pl, e, _, hl, hm, hmm, _, hx⟩
 ·obtain ⟨rfl, rfl, rfl⟩ : a0 = none ∧ len0 = 0 ∧ cap0 = 0 := by simpa [Value.cells] using e
  exact ⟨none, 0, 0, [], rfl, ⟨fun h => absurd rfl h, rfl, fun _ h => by cases h⟩, fun _ h => by cases h⟩
 ·obtain ⟨rfl, rfl, rfl⟩ : a0 = some a ∧ len0 = len ∧ cap0 = cap := by simpa [Value.cells] using e
  obtain ⟨b, off, rfl, hlt⟩ := slice_in ht hv
  simp only [if_pos] at hmm
  have one : ∀ i, i < len0 → ∃ x : Int, W.cell? ⟨b, off + i, none⟩ = some (.int .i64 x) ∧ -9223372036854775808 ≤ x ∧ x ≤ 9223372036854775807 := by
   intro i hi
   obtain ⟨cs, h1, h2⟩ := hx i (by omega)
   rw [cellsN] at h1
   obtain ⟨_, hl4, hc⟩ := World.cells?_some h1
   match cs, hl4 with
   | [c0], _ =>
    obtain ⟨n, e0, -, hw⟩ := DataW.trod_int Tryz.underlying3 h2
    obtain rfl : c0 = .int .i64 n := by simpa using e0
    have hb := bounds_i64 hw
    have h5 := hc 0 (by omega)
    rw [Addr.add_add, add_flat, Nat.mul_one, Nat.add_zero] at h5
    exact ⟨n, h5, hb.1, by omega⟩
  obtain ⟨xs, h1, h2⟩ := list_of len0 one
  refine ⟨_, _, _, xs, rfl, ⟨fun _ => ⟨b, off, rfl, hlt, fun j x hj => (h2 j x hj).1⟩, h1.symm, fun x hx => ?_⟩, fun a ha => by obtain rfl := oI ha; exact hlt⟩
  obtain ⟨j, hj⟩ := List.getElem?_of_mem hx
  exact (h2 j x hj).2
set_option maxHeartbeats 4000000 in
theorem pick_any {w : World} (x : Int) (n : Nat) (h0 : 0 < n) (hn : n ≤ 1000000) : Calls Tryz.prog 62 #[.int .i64 x, .int .i64 (n : Int)] w (fun e w' => ∃ k : Nat, e = .returned (.int .i64 (k : Int)) ∧ k < n ∧ w' = w) := by
 have hn0 : ¬ (n : Int) ≤ 0 := by omega
 have hnz : ¬ (n : Int) = 0 := by omega
 have hlt := Int.tmod_lt_of_pos x (show (0 : Int) < n by omega)
 have hgt : -(n : Int) < x.tmod n := by have h := Int.lt_tmod_of_pos x (show (0 : Int) < n by omega); omega
 obtain ⟨r, hr⟩ : ∃ r, x.tmod (n : Int) = r := ⟨_, rfl⟩
 rw [hr] at hlt hgt
 have hw : IntKind.i64.wrap r = r := by rw [IntKind.wrap_i64]; omega
 have hwn : IntKind.i64.wrap (r + (n : Int)) = r + (n : Int) := by rw [IntKind.wrap_i64]; omega
 have HL := Lib.hid hlt
 have HG := Lib.hid hgt
 clear hlt hgt
 by_cases hneg : r < 0
 ·go_enter Tryz.func62, Tryz.ntmps62
  go_wp2_with fail
  exact ⟨rfl, .int .i64 (r + (n : Int)), by simp [results, Tryz.results62, go_sem], (r + (n : Int)).toNat, by rw [Int.toNat_of_nonneg (by have := HG.out; omega)], by have := HG.out; omega, rfl⟩
 ·go_enter Tryz.func62, Tryz.ntmps62
  go_wp2_with fail
  exact ⟨rfl, .int .i64 r, by simp [results, Tryz.results62, go_sem], r.toNat, by rw [Int.toNat_of_nonneg (by omega)], by have := HL.out; omega, rfl⟩
end V

namespace V
open Go.RowKit
theorem ord_nil : Ord [] := ⟨fun _ h => (by cases h), List.nodup_nil⟩
theorem inv_ord {xs : List Int} (h : Ord xs) : Ord (inv xs) := by
 refine ⟨fun x hx => ?_, ?_⟩
 ·obtain ⟨a, ha⟩ := List.getElem?_of_mem hx
  have hl := (List.getElem?_eq_some_iff.1 ha).1
  rw [inv_len] at hl
  obtain ⟨j, h1, h2, _⟩ := inv_at h hl
  obtain rfl := oI (ha.symm.trans h1)
  rw [inv_len]; omega
 ·refine List.pairwise_iff_getElem.2 (fun i j hi hj hij e => ?_)
  rw [inv_len] at hi hj
  obtain ⟨a, a1, _, a3⟩ := inv_at h hi
  obtain ⟨b, b1, _, b3⟩ := inv_at h hj
  have ea := (List.getElem?_eq_some_iff.1 a1).2
  have eb := (List.getElem?_eq_some_iff.1 b1).2
  rw [ea, eb] at e
  have e2 : a = b := by omega
  subst e2
  have := oI (a3.symm.trans b3)
  omega
theorem inv_inv {xs : List Int} (h : Ord xs) : inv (inv xs) = xs := by
 apply List.ext_getElem?
 intro a
 by_cases ha : a < xs.length
 ·obtain ⟨j, h1, h2, h3⟩ := inv_at (inv_ord h) (a := a) (by rw [inv_len]; exact ha)
  rw [inv_len] at h2
  obtain ⟨i, g1, g2, g3⟩ := inv_at h h2
  have e := oI (h3.symm.trans g1)
  obtain rfl : a = i := by omega
  rw [h1, g3]
 ·rw [List.getElem?_eq_none (by rw [inv_len, inv_len]; omega), List.getElem?_eq_none (by omega)]
theorem inv_idx {xs : List Int} (h : Ord xs) {b : Int} (hb : 0 ≤ b ∧ b < (xs.length : Int)) : 0 ≤ (((inv xs).idxOf b : Nat) : Int) ∧ (inv xs).idxOf b < xs.length ∧ ((xs.idxOf (((inv xs).idxOf b : Nat) : Int) : Nat) : Int) = b := by
 have hm : b ∈ inv xs := (inv_ord h).mem (by rw [inv_len]; exact hb)
 have hl := List.idxOf_lt_length_of_mem hm
 have hg : (inv xs)[(inv xs).idxOf b]? = some b := by rw [gE hl, List.getElem_idxOf]
 rw [inv_len] at hl
 obtain ⟨j, h1, h2, h3⟩ := inv_at h hl
 have e := oI (hg.symm.trans h1)
 refine ⟨by omega, hl, ?_⟩
 have hm2 : (((inv xs).idxOf b : Nat) : Int) ∈ xs := List.mem_of_getElem? h3
 have hl2 := List.idxOf_lt_length_of_mem hm2
 have hg2 : xs[xs.idxOf (((inv xs).idxOf b : Nat) : Int)]? = some (((inv xs).idxOf b : Nat) : Int) := by rw [gE hl2, List.getElem_idxOf]
 have := nodup_at h.2 hg2 h3
 omega
theorem mv_inv {xs : List Int} {X : Int → Rat} (h : Fits xs X) : mv (inv xs) (mv xs X) = X := by
 funext b
 unfold mv
 rw [inv_len]
 by_cases hb : 0 ≤ b ∧ b < (xs.length : Int)
 ·obtain ⟨h1, h2, h3⟩ := inv_idx h.1 hb
  rw [if_pos hb, if_pos ⟨h1, by omega⟩, h3]
 ·rw [if_neg hb]
  by_cases h0 : X b = 0
  ·exact h0.symm
  ·exact absurd (h.2 b h0) hb
theorem fits_mv {xs : List Int} {X : Int → Rat} (h : Ord xs) : Fits (inv xs) (mv xs X) := ⟨inv_ord h, fun a ha => by
 rw [inv_len]
 by_cases hb : 0 ≤ a ∧ a < (xs.length : Int)
 ·exact hb
 ·exact absurd (by unfold mv; rw [if_neg hb]) ha⟩
theorem over_map (f : Int → Rat) (g : Int → Int) : ∀ l : List Int, over f (l.map g) = over (fun b => f (g b)) l
 | [] => rfl
 | b :: l => by show f (g b) + over f (l.map g) = f (g b) + over (fun b => f (g b)) l; rw [over_map f g l]
theorem dot_mv {xs : List Int} {X Y : Int → Rat} {q r : Rat} (h : Ord xs) (hX : ∀ a, X a ≠ 0 → 0 ≤ a ∧ a < (xs.length : Int)) (hq : DotF (mv xs X) (mv xs Y) q) (hr : DotF X Y r) : q = r := by
 have e1 := hq (upto xs.length) (upto_nodup _) (fun a ha => by
  rw [mem_upto] at ha
  unfold mv
  rw [if_neg ha, Rat.zero_mul])
 have hn : ((upto xs.length).map (fun b => ((xs.idxOf b : Nat) : Int))).Nodup := by
  refine List.pairwise_map.2 ((upto_nodup xs.length).imp_of_mem (fun {a b} ha hb hab e => hab ?_))
  have h1 := h.mem (mem_upto.1 ha)
  have h2 := h.mem (mem_upto.1 hb)
  have h3 := List.getElem_idxOf (List.idxOf_lt_length_of_mem h1)
  have h4 := List.getElem_idxOf (List.idxOf_lt_length_of_mem h2)
  have e2 : xs.idxOf a = xs.idxOf b := by omega
  rw [← h3, ← h4]
  simp only [e2]
 have e2 := hr _ hn (fun a ha => by
  by_cases h0 : X a = 0
  ·rw [h0, Rat.zero_mul]
  ·exfalso
   apply ha
   have h1 := hX a h0
   obtain ⟨n, rfl⟩ := Int.eq_ofNat_of_zero_le h1.1
   have hl : n < xs.length := by omega
   have h2 := h.1 xs[n] (List.getElem_mem hl)
   exact List.mem_map.2 ⟨xs[n], mem_upto.2 h2, by rw [h.2.idxOf_getElem n hl]⟩)
 rw [e1, e2, over_map]
 refine over_congr (fun b hb => ?_)
 rw [mem_upto] at hb
 unfold mv
 rw [if_pos hb, if_pos hb]
end V

namespace V
open Lib renaming hid → lh
open Go.RowKit
open Q (IsQ OneQ RetQ below_on ql Qbx)
theorem ord_ins {qs : List Int} {q : Nat} (h : Ord qs) (_ : q ≤ qs.length) : Ord (qs.take q ++ (qs.length : Int) :: qs.drop q) := by
 have hp : (qs.take q ++ (qs.length : Int) :: qs.drop q).Perm ((qs.length : Int) :: qs) := by
  have h1 := List.perm_middle (a := (qs.length : Int)) (l₁ := qs.take q) (l₂ := qs.drop q)
  rwa [List.take_append_drop] at h1
 refine ⟨fun x hx => ?_, hp.nodup_iff.2 (List.nodup_cons.2 ⟨fun hm => ?_, h.2⟩)⟩
 ·rw [hp.length_eq, List.length_cons]
  rcases List.mem_cons.1 (hp.mem_iff.1 hx) with rfl | hx
  ·omega
  ·have := h.1 x hx; omega
 ·have := h.1 _ hm; omega
set_option maxRecDepth 100000 in
set_option maxHeartbeats 8000000 in
theorem orders_walk (w : World) (Ap Ax Ay : Option Addr) (np cp nx cx ny cy lx ly : Nat) (ps : List Int) (xs ys : List (TV × Rat)) (hp : RowI w Ap ps ∧ np = ps.length ∧ ∀ x ∈ ps, -9223372036854775808 ≤ x ∧ x ≤ 9223372036854775807) (hx : IsV w Ax nx cx xs lx) (hy : IsV w Ay ny cy ys ly) (bx : ∀ a, Ax = some a → a.block < w.heap.size) (by_ : ∀ a, Ay = some a → a.block < w.heap.size) :
  Calls Tryz.prog 7 #[.slice Ap np cp, .slice Ax nx cx, .slice Ay ny cy] w (RetB w true) := by
 obtain ⟨vx, hvx⟩ := iff_dec (ShortAll xs 12 2)
 obtain ⟨vy, hvy⟩ := iff_dec (ShortAll ys 12 2)
 have HVX := lh hvx
 have HVY := lh hvy
 have HP := lh hp
 have HX0 := lh hx
 have HY0 := lh hy
 have HKX := lh bx
 have HKY := lh by_
 have HB := lh (Below.refl w.heap.size w)
 clear hx hy bx by_ hvx hvy hp
 go_enter Tryz.func7, Tryz.ntmps7
 go_upto_region 1 with fail
 go_cut [33] from 21 to 33 (fun s33 wx => ∃ (cb : Bool) (WA : World), s33 = .bool cb ∧ Hid (WA = wx) ∧ Hid (cb = false → vx = true ∧ vy = true ∧ np ≤ 20) ∧ Hid (Below w.heap.size w wx))
 case first =>
  by_cases hn : (20 : Int) < (np : Int)
  ·skip
   go_wp2_with fail
   go_meet
   exact ⟨true, _, rfl, rfl, (fun h => by cases h), HB.out⟩
  ·skip
   go_wp2_with fail
   refine (shortvec_any HX0.out 12 2 (by omega) vx HVX.out).mono ?_
   rintro e w1 ⟨rfl, hbx⟩
   replace HB := lh (below_on HB.out hbx)
   replace HX0 := lh (HX0.out.below hbx)
   replace HY0 := lh (HY0.out.below hbx)
   clear hbx
   cases vx with
   | false =>
    go_wp2_with fail
    go_meet
    exact ⟨true, _, rfl, rfl, (fun h => by cases h), HB.out⟩
   | true =>
    go_wp2_with fail
    refine (shortvec_any HY0.out 12 2 (by omega) vy HVY.out).mono ?_
    rintro e w2 ⟨rfl, hbx⟩
    replace HB := lh (below_on HB.out hbx)
    replace HX0 := lh (HX0.out.below hbx)
    replace HY0 := lh (HY0.out.below hbx)
    clear hbx
    cases vy with
    | false =>
     go_wp2_with fail
     go_meet
     exact ⟨true, _, rfl, rfl, (fun h => by cases h), HB.out⟩
    | true =>
     go_wp2_with fail
     go_meet
     exact ⟨false, _, rfl, rfl, (fun _ => ⟨trivial, trivial, by omega⟩), HB.out⟩
 case rest =>
  obtain ⟨cb, WA, rfl, hwa, HT, HBC⟩ := hcut
  have hwb := hwa.out
  subst hwb
  clear HB hwa
  replace HX0 := lh (HX0.out.below HBC.out)
  replace HY0 := lh (HY0.out.below HBC.out)
  cases cb with
  | true =>
   go_wp2_with fail
   refine (awake6 _).mono ?_
   rintro e w99 ⟨rfl, hbx⟩
   replace HBC := lh (below_on HBC.out hbx)
   clear hbx
   go_wp2_with fail
   go_ret
   exact ⟨rfl, HBC.out⟩
  | false =>
   obtain ⟨rfl, rfl, hn20⟩ := HT.out rfl
   have HN20 : Hid (np ≤ 20) := hn20
   have HEN : Hid (np = ps.length) := HP.out.2.1
   clear HT hn20
   obtain ⟨i0, hi0, hz0, hz1, hz2⟩ := info_parts E.info_u64
   have HP0 : Hid (OwnP WA WA (.slice none 0 0) []) := ⟨Below.refl _ _, rfl, .inl ⟨rfl, rfl⟩⟩
   go_upto_region 5 with fail
   go_loopw [7, 8] (fun pv iv wr => ∃ (i : Nat) (qs : List Int) (A1 : Option Addr) (c1 : Nat), i ≤ np ∧ pv = .slice A1 qs.length c1 ∧ iv = .int .i64 (i : Int) ∧ Hid (OwnP WA wr (.slice A1 qs.length c1) qs) ∧ Hid (Ord qs) ∧ Hid (qs.length = i)) (fun _ iv _ => np - (intOf iv).toNat)
   case atStart => exact ⟨0, [], none, 0, Nat.zero_le _, rfl, rfl, HP0, ord_nil, rfl⟩
   case round =>
    clear HP0
    obtain ⟨i, qs, A1, c1, hi, rfl, rfl, HO, HORD, HQL⟩ := hrel
    have hql := HQL.out
    subst hql
    by_cases hlt : qs.length < np
    ·have hi1 : (qs.length : Int) < (np : Int) := by omega
     have hi0' : (0 : Int) ≤ (qs.length : Int) := by omega
     have hwi : IntKind.i64.wrap ((qs.length : Int) + 1) = (qs.length : Int) + 1 := by have := HN20.out; rw [IntKind.wrap_i64]; omega
     obtain ⟨x, hx⟩ : ∃ x, ps[qs.length]? = some x := ⟨ps[qs.length]'(by have := HEN.out; omega), gE (by have := HEN.out; omega)⟩
     obtain ⟨b1, off, hA, hk1⟩ := rowi_at HP.out.1 hx
     have c0 := hk1 _ (below_on HBC.out HO.out.bel)
     have HPK := lh (pick_any (w := wr) x (qs.length + 1) (by omega) (by have := HN20.out; omega))
     rw [show ((qs.length + 1 : Nat) : Int) = (qs.length : Int) + 1 by omega] at HPK
     subst hA
     clear hx hk1
     go_wp2_with fail
     clear c0
     refine HPK.out.mono ?_
     rintro e w2 ⟨q, rfl, hq, rfl⟩
     have HQQ : Hid (q ≤ qs.length) := by show _ ≤ _; omega
     have HQX : Hid (qs.length ≤ 20) := by have := HN20.out; show _ ≤ _; omega
     clear hq HPK
     go_upto_region 8 with fail
     have hpl : qs.length ≤ 200000 := by have := HQX.out; omega
     have hsz := HO.out.bel.size
     have HOWN := lh HO.out.own
     have HBEL := lh HO.out.bel
     clear HO
     go_wp2_with ((at_builtin; refine wpList_append_own _ rfl (.tmp 48) (.tmp 49) 61 rfl WA.heap.size 3 i0 (.int .i64 0) 1 8 E.under_u64s hi0 hz0 hz1 hz2 rfl (by decide) _ _ _ rfl (HOWN.out.alloc _) ⟨w2.heap.size, 0, none⟩ 1 1 [.int .i64 0] rfl rfl (E.app_cell _ _ _) (E.app_one _ _) (by unfold maxLen; omega) (by omega) (by simp; omega) ?_); intro v' w3 hown' hgrow hnil; obtain ⟨g, c3, m1, rfl, hwj, h39⟩ := app_split HBEL.out HOWN.out hown' hgrow hpl; have H39 := lh h39; clear hown' hgrow hnil h39)
     obtain ⟨hm2, hint, hg, hbel3⟩ := H39.out
     have HIN := lh hint
     have HB3 := lh hbel3
     have HG := lh hg
     have HM := lh hm2
     clear hint hbel3 hg hm2 H39 hsz
     go_loopw [10] (fun jv wr4 => ∃ (j : Nat) (z : Int), q ≤ j ∧ j ≤ qs.length ∧ jv = .int .i64 (j : Int) ∧ Hid (Ints wr4 g (shift qs j z) c3) ∧ Hid (Below WA.heap.size WA wr4)) (fun jv _ => (intOf jv).toNat)
     case atStart => exact ⟨qs.length, 0, HQQ.out, Nat.le_refl _, rfl, HIN, HB3⟩
     case round =>
      clear HIN HB3
      obtain ⟨j, z, hj1, hj2, rfl, HIN, HB3⟩ := hrel
      by_cases hjq : q < j
      ·obtain ⟨j', rfl⟩ : ∃ j', j = j' + 1 := ⟨j - 1, by omega⟩
       have hjg : (q : Int) < ((j' + 1 : Nat) : Int) := by omega
       have hja : (0 : Int) ≤ ((j' + 1 : Nat) : Int) := by omega
       have hjb : ((j' + 1 : Nat) : Int) < (m1 : Int) := by have := HM.out; omega
       have hjc : IntKind.i64.wrap (((j' + 1 : Nat) : Int) - 1) = (j' : Int) := by have := HQX.out; rw [IntKind.wrap_i64]; omega
       have hjd : (0 : Int) ≤ (j' : Int) := by omega
       have hje : (j' : Int) < (m1 : Int) := by have := HM.out; omega
       obtain ⟨x, hx⟩ : ∃ x, qs[j']? = some x := ⟨_, gE (by omega)⟩
       have hc1 := HIN.out.at_ (shift_at hj2 hx)
       have hc2 := HIN.out.at_ (i := j' + 1) (x := z) (by unfold shift; rw [List.getElem?_append_right (by rw [lK]; omega), lK, show j' + 1 - min (j' + 1) qs.length = 0 by omega]; rfl)
       have hf2 := HIN.out.frz (j' + 1)
       have HST : Hid (Ints (wr.setCell ⟨g, j' + 1, none⟩ (.int .i64 x)) g (shift qs j' x) c3) := by
        have h9 := HIN.out.set (j' + 1) x
        rw [shift_step hj2 hx] at h9
        exact h9
       have HBT : Hid (Below WA.heap.size WA (wr.setCell ⟨g, j' + 1, none⟩ (.int .i64 x))) := below_set HB3.out HG.out _ _
       have hq1 : q ≤ j' := by omega
       have hq2 : j' ≤ qs.length := by omega
       clear hx HIN HB3 hj1 hj2 hjq
       obtain ⟨jj, hjj⟩ : ∃ jj : Nat, j' + 1 = jj := ⟨_, rfl⟩
       have HJJ := lh hjj
       rw [hjj] at hjg hja hjb hjc hc2 hf2 HST HBT ⊢
       clear hjj
       go_wp2_with fail
       go_roundw
       case rel => exact ⟨j', x, hq1, hq2, by go_num, HST, HBT⟩
       case measure => (simp [intOf]; have := HJJ.out; omega)
      ·obtain rfl : j = q := by omega
       have hjg : ¬ (j : Int) < (j : Int) := by omega
       have hja : (0 : Int) ≤ (j : Int) := by omega
       have hjb : (j : Int) < (m1 : Int) := by have := HM.out; omega
       have hc2 := HIN.out.at_ (i := j) (x := z) (by unfold shift; rw [List.getElem?_append_right (by rw [lK]; omega), lK, show j - min j qs.length = 0 by omega]; rfl)
       have hf2 := HIN.out.frz j
       have HST : Hid (Ints (wr.setCell ⟨g, j, none⟩ (.int .i64 (qs.length : Int))) g (qs.take j ++ (qs.length : Int) :: qs.drop j) c3) := by
        have h9 := HIN.out.set j (qs.length : Int)
        rw [shift_end hj2] at h9
        exact h9
       have HBT : Hid (Below WA.heap.size WA (wr.setCell ⟨g, j, none⟩ (.int .i64 (qs.length : Int)))) := below_set HB3.out HG.out _ _
       have HLN : Hid ((qs.take j ++ (qs.length : Int) :: qs.drop j).length = qs.length + 1) := by
        have h9 := shift_len (z := (qs.length : Int)) hj2
        unfold shift at h9
        exact h9
       have HM1 : Hid (m1 = (qs.take j ++ (qs.length : Int) :: qs.drop j).length) := by show _ = _; rw [HLN.out]; exact HM.out
       have hop : OwnP WA (wr.setCell ⟨g, j, none⟩ (.int .i64 (qs.length : Int))) (.slice (some ⟨g, 0, none⟩) (qs.take j ++ (qs.length : Int) :: qs.drop j).length c3) (qs.take j ++ (qs.length : Int) :: qs.drop j) := OwnP.of HBT.out HG.out HST.out
       have HOP := lh hop
       have HOR2 := lh (ord_ins HORD.out hj2)
       clear hop HIN HB3 hj1 hj2 hjq HST HBT
       go_wp2_with fail
       go_roundw
       case rel => exact ⟨qs.length + 1, _, _, _, by omega, by rw [HM1.out], by go_num, HOP, HOR2, HLN⟩
       case measure => (simp [intOf]; omega)
    ·have hi1 : ¬ (qs.length : Int) < (np : Int) := by omega
     have hqn : qs.length = np := by omega
     have HB := lh (below_on HBC.out HO.out.bel)
     have HRP := lh (HO.out.ri (by have := HN20.out; omega) (fun x hx => by have := HORD.out.1 x hx; have := HN20.out; omega)).2
     have HQN : Hid (qs.length ≤ 20) := by have := HN20.out; show _ ≤ _; omega
     replace HX0 := lh (HX0.out.below HO.out.bel)
     replace HY0 := lh (HY0.out.below HO.out.bel)
     have HLE : Hid (w.heap.size ≤ wr.heap.size) := HB.out.size
     have hsx := HVX.out.mp trivial
     have hsy := HVY.out.mp trivial
     obtain ⟨X, hX⟩ : ∃ X, tot (vals xs) = X := ⟨_, rfl⟩
     obtain ⟨Y, hY⟩ : ∃ X, tot (vals ys) = X := ⟨_, rfl⟩
     have HXV := lh (HX0.out.short hsx)
     have HYV := lh (HY0.out.short hsy)
     have FX : Hid (Fn 25 27 12 X) := by rw [← hX]; exact HXV.out.fn (by omega) hsx.1 (by omega)
     have FY : Hid (Fn 25 27 12 Y) := by rw [← hY]; exact HYV.out.fn (by omega) hsy.1 (by omega)
     have HX : Hid (VF wr Ax nx cx X) := by rw [← hX]; exact HXV.out.vf (by omega) hsx.1 (by omega) (by omega) (fun a h => Nat.lt_of_lt_of_le (HKX.out a h) HLE.out)
     have HY : Hid (VF wr Ay ny cy Y) := by rw [← hY]; exact HYV.out.vf (by omega) hsy.1 (by omega) (by omega) (fun a h => Nat.lt_of_lt_of_le (HKY.out a h) HLE.out)
     obtain ⟨vX, hvX⟩ := iff_dec (Fits qs X)
     obtain ⟨vY, hvY⟩ := iff_dec (Fits qs Y)
     have HFX := lh hvX
     have HFY := lh hvY
     clear HX0 HY0 hsx hsy hX hY HVX HVY HKX HKY HLE hvX hvY HXV HYV HO HBC hqn HP HEN HN20
     go_wp2_with fail
     refine (inv_any HRP.out true ⟨fun _ => HORD.out, fun _ => rfl⟩).mono ?_
     rintro e w3 ⟨hbx, ⟨h, _⟩ | ⟨_, Gq, cq, rfl, hc⟩⟩
     ·cases h
     replace HB := lh (below_on HB.out hbx)
     replace HRP := lh (HRP.out.below hbx)
     replace HX := lh (HX.out.below hbx)
     replace HY := lh (HY.out.below hbx)
     have HRQ := lh hc
     clear hc hbx
     have HOI := lh (inv_ord HORD.out)
     have HII := lh (inv_inv HORD.out)
     go_upto_region 15 with fail
     go_wp2_with fail
     refine (inv_any HRQ.out true ⟨fun _ => HOI.out, fun _ => rfl⟩).mono ?_
     rintro e w4 ⟨hbx, ⟨h, _⟩ | ⟨_, Gr, cr, rfl, hc⟩⟩
     ·cases h
     replace HB := lh (below_on HB.out hbx)
     replace HRP := lh (HRP.out.below hbx)
     replace HX := lh (HX.out.below hbx)
     replace HY := lh (HY.out.below hbx)
     replace HRQ := lh (HRQ.out.below hbx)
     rw [HII.out] at hc
     have HRR := lh hc
     clear hc hbx
     go_upto_region 16 with fail
     go_wp2_with fail
     refine (perm_any HRP.out true ⟨fun _ => HORD.out, fun _ => rfl⟩).mono ?_
     rintro e w5 ⟨rfl, hbx⟩
     replace HB := lh (below_on HB.out hbx)
     replace HRP := lh (HRP.out.below hbx)
     replace HX := lh (HX.out.below hbx)
     replace HY := lh (HY.out.below hbx)
     replace HRQ := lh (HRQ.out.below hbx)
     replace HRR := lh (HRR.out.below hbx)
     clear hbx
     go_wp2_with fail
     refine (sameints_any HRR.out.row HRP.out.row rfl rfl (by have := HQN.out; omega) true ⟨fun _ => rfl, fun _ => rfl⟩).mono ?_
     rintro e w6 ⟨rfl, hbx⟩
     replace HB := lh (below_on HB.out hbx)
     replace HRP := lh (HRP.out.below hbx)
     replace HX := lh (HX.out.below hbx)
     replace HY := lh (HY.out.below hbx)
     replace HRQ := lh (HRQ.out.below hbx)
     replace HRR := lh (HRR.out.below hbx)
     clear hbx HRR
     go_upto_region 18 with fail
     go_wp2_with fail
     refine (move_c HRP.out HX.out FX.out (by omega) (by omega) (by omega) vX HFX.out).mono ?_
     rintro e w7 ⟨hbx, hor⟩
     replace HB := lh (below_on HB.out hbx)
     replace HRP := lh (HRP.out.below hbx)
     replace HX := lh (HX.out.below hbx)
     replace HY := lh (HY.out.below hbx)
     replace HRQ := lh (HRQ.out.below hbx)
     clear hbx
     rcases hor with ⟨hv, rfl⟩ | ⟨hv, Gu, nu, cu, rfl, hc⟩
     ·clear hv
      go_upto_region 19 with fail
      go_wp2_with fail
      refine (move_c HRP.out HY.out FY.out (by omega) (by omega) (by omega) vY HFY.out).mono ?_
      rintro e w8 ⟨hbx, hor⟩
      replace HB := lh (below_on HB.out hbx)
      replace HRP := lh (HRP.out.below hbx)
      replace HX := lh (HX.out.below hbx)
      replace HY := lh (HY.out.below hbx)
      replace HRQ := lh (HRQ.out.below hbx)
      clear hbx
      rcases hor with ⟨hv, rfl⟩ | ⟨hv, Gv, nv, cv, rfl, hc⟩
      ·clear hv
       go_upto_region 21 with fail
       go_wp2_with fail
       refine (awake6 _).mono ?_
       rintro e w9 ⟨rfl, hbx⟩
       replace HB := lh (below_on HB.out hbx)
       replace HRP := lh (HRP.out.below hbx)
       replace HX := lh (HX.out.below hbx)
       replace HY := lh (HY.out.below hbx)
       replace HRQ := lh (HRQ.out.below hbx)
       clear hbx
       go_wp2_with fail
       go_ret
       exact ⟨rfl, HB.out⟩
      ·clear hv hc
       go_upto_region 21 with fail
       go_wp2_with fail
       refine (awake6 _).mono ?_
       rintro e w10 ⟨rfl, hbx⟩
       replace HB := lh (below_on HB.out hbx)
       replace HRP := lh (HRP.out.below hbx)
       replace HX := lh (HX.out.below hbx)
       replace HY := lh (HY.out.below hbx)
       replace HRQ := lh (HRQ.out.below hbx)
       clear hbx
       go_wp2_with fail
       go_ret
       exact ⟨rfl, HB.out⟩
     ·have HCU := lh hc
      have HFU : Hid (Fits qs X) := HFX.out.1 hv
      clear hc hv
      go_upto_region 19 with fail
      go_wp2_with fail
      refine (move_c HRP.out HY.out FY.out (by omega) (by omega) (by omega) vY HFY.out).mono ?_
      rintro e w11 ⟨hbx, hor⟩
      replace HB := lh (below_on HB.out hbx)
      replace HRP := lh (HRP.out.below hbx)
      replace HX := lh (HX.out.below hbx)
      replace HY := lh (HY.out.below hbx)
      replace HRQ := lh (HRQ.out.below hbx)
      replace HCU := lh (HCU.out.below hbx)
      clear hbx
      rcases hor with ⟨hv, rfl⟩ | ⟨hv, Gv, nv, cv, rfl, hc⟩
      ·clear hv
       go_upto_region 21 with fail
       go_wp2_with fail
       refine (awake6 _).mono ?_
       rintro e w12 ⟨rfl, hbx⟩
       replace HB := lh (below_on HB.out hbx)
       replace HRP := lh (HRP.out.below hbx)
       replace HX := lh (HX.out.below hbx)
       replace HY := lh (HY.out.below hbx)
       replace HRQ := lh (HRQ.out.below hbx)
       replace HCU := lh (HCU.out.below hbx)
       clear hbx
       go_wp2_with fail
       go_ret
       exact ⟨rfl, HB.out⟩
      ·have HCV := lh hc
       have HFV : Hid (Fits qs Y) := HFY.out.1 hv
       clear hc hv
       have FU := lh (mv_fn HORD.out FX.out)
       have FV := lh (mv_fn HORD.out FY.out)
       have HMI := lh (mv_inv HFU.out)
       have HFM := lh (fits_mv (X := X) HORD.out)
       go_upto_region 22 with fail
       go_wp2_with fail
       refine (move_c HRQ.out (HCU.out.vf FU.out (by omega) (by omega) (by omega)) FU.out (by omega) (by omega) (by omega) true ⟨fun _ => HFM.out, fun _ => rfl⟩).mono ?_
       rintro e w13 ⟨hbx, ⟨h, _⟩ | ⟨_, Gb, nb, cb, rfl, hc⟩⟩
       ·cases h
       replace HB := lh (below_on HB.out hbx)
       replace HRP := lh (HRP.out.below hbx)
       replace HX := lh (HX.out.below hbx)
       replace HY := lh (HY.out.below hbx)
       replace HRQ := lh (HRQ.out.below hbx)
       replace HCU := lh (HCU.out.below hbx)
       replace HCV := lh (HCV.out.below hbx)
       rw [HMI.out] at hc
       have HCB := lh hc
       clear hc hbx
       go_upto_region 23 with fail
       go_wp2_with fail
       refine (norm_c HX.out FX.out (by omega) (by omega)).mono ?_
       rintro e w14 ⟨Gn, nn, cn, rfl, hc, hbx⟩
       replace HB := lh (below_on HB.out hbx)
       replace HRP := lh (HRP.out.below hbx)
       replace HX := lh (HX.out.below hbx)
       replace HY := lh (HY.out.below hbx)
       replace HRQ := lh (HRQ.out.below hbx)
       replace HCU := lh (HCU.out.below hbx)
       replace HCV := lh (HCV.out.below hbx)
       replace HCB := lh (HCB.out.below hbx)
       have HCN := lh hc
       clear hc hbx
       go_wp2_with fail
       refine (samevec_e HCB.out HCN.out FX.out (by omega) rfl).mono ?_
       rintro e w15 ⟨rfl, hbx⟩
       replace HB := lh (below_on HB.out hbx)
       replace HRP := lh (HRP.out.below hbx)
       replace HX := lh (HX.out.below hbx)
       replace HY := lh (HY.out.below hbx)
       replace HRQ := lh (HRQ.out.below hbx)
       replace HCU := lh (HCU.out.below hbx)
       replace HCV := lh (HCV.out.below hbx)
       replace HCB := lh (HCB.out.below hbx)
       replace HCN := lh (HCN.out.below hbx)
       clear hbx HCB HCN
       go_wp2_with fail
       refine (dot_c (HCU.out.vf FU.out (by omega) (by omega) (by omega)) (HCV.out.vf FV.out (by omega) (by omega) (by omega)) FU.out FV.out (by omega) (by omega) (by omega)).mono ?_
       rintro e w16 ⟨q1, hd, hql, s1, A4, m1, c4, t1, B1, l1, d1, rfl, ho, hbx⟩
       replace HB := lh (below_on HB.out hbx)
       replace HRP := lh (HRP.out.below hbx)
       replace HX := lh (HX.out.below hbx)
       replace HY := lh (HY.out.below hbx)
       replace HRQ := lh (HRQ.out.below hbx)
       replace HCU := lh (HCU.out.below hbx)
       replace HCV := lh (HCV.out.below hbx)
       have HN1 := lh ho
       have HD1 := lh hd
       have HL1 := lh hql
       clear ho hd hql hbx
       go_wp2_with fail
       refine (dot_c HX.out HY.out FX.out FY.out (by omega) (by omega) (by omega)).mono ?_
       rintro e w17 ⟨q2, hd, hql, s2, A5, m2, c5, t2, B2, l2, d2, rfl, ho, hbx⟩
       replace HB := lh (below_on HB.out hbx)
       replace HRP := lh (HRP.out.below hbx)
       replace HX := lh (HX.out.below hbx)
       replace HY := lh (HY.out.below hbx)
       replace HRQ := lh (HRQ.out.below hbx)
       replace HCU := lh (HCU.out.below hbx)
       replace HCV := lh (HCV.out.below hbx)
       replace HN1 := lh (HN1.out.below hbx)
       have HN2 := lh ho
       have HD2 := lh hd
       have HL2 := lh hql
       clear ho hd hql hbx
       have HEQ : Hid (q1 = q2) := dot_mv HORD.out HFU.out.2 HD1.out HD2.out
       go_wp2_with fail
       refine (Q.same_q (HN1.out.isq HL1.out) (HN2.out.isq HL2.out) (by omega) (by omega) true (decide_eq_true HEQ.out)).mono ?_
       rintro e w18 ⟨rfl, hbx⟩
       replace HB := lh (below_on HB.out hbx)
       replace HRP := lh (HRP.out.below hbx)
       replace HX := lh (HX.out.below hbx)
       replace HY := lh (HY.out.below hbx)
       replace HRQ := lh (HRQ.out.below hbx)
       replace HCU := lh (HCU.out.below hbx)
       replace HCV := lh (HCV.out.below hbx)
       replace HN1 := lh (HN1.out.below hbx)
       replace HN2 := lh (HN2.out.below hbx)
       clear hbx
       go_wp2_with fail
       refine (awake6 _).mono ?_
       rintro e w19 ⟨rfl, hbx⟩
       replace HB := lh (below_on HB.out hbx)
       replace HRP := lh (HRP.out.below hbx)
       replace HX := lh (HX.out.below hbx)
       replace HY := lh (HY.out.below hbx)
       replace HRQ := lh (HRQ.out.below hbx)
       replace HCU := lh (HCU.out.below hbx)
       replace HCV := lh (HCV.out.below hbx)
       replace HN1 := lh (HN1.out.below hbx)
       replace HN2 := lh (HN2.out.below hbx)
       clear hbx
       go_wp2_with fail
       go_ret
       exact ⟨rfl, HB.out⟩
