/- Part 43 of the proof: MxLeft. -/
import Derived.Test.YthjiacmhhpfokaaGreatL42
namespace Go.Proofs.YthjiacmhhpfokaaGreat
open Nat renaming le_refl → lR
open Go.RowKit.Below renaming refl → bR
open List renaming getElem?_eq_getElem → gE, getElem?_map → gM
namespace V
open Lib renaming hid → lh
set_option maxRecDepth 100000
set_option maxHeartbeats 4000000
open Go.RowKit
open Q (IsQ OneQ RetQ below_on ql Qbx)
theorem PartsZ.one {w w3 w4 : World} {v v' : Value} {P N ln : Nat} {F : Int → Rat} {zs : List (TV × Rat)} (h : PartsZ w w3 v P N ln F zs) (y : TV × Rat) (hy : TQ w3 y.1 y.2 700) (ho : Over P N y.2) (h4 : OwnU w4 w.heap.size v' (zs.map Prod.fst ++ [y.1])) (hg : w3.grownBy w4 v.ownBlock) (hbk : v'.ownBlock = v.ownBlock ∨ v'.ownBlock = some w3.heap.size) :
  Parts w w4 v' P N (ln + 1) (fun a => F a + (if y.1.at_ = a then y.2 else 0)) := by
 have hzl := h.len
 refine ⟨zs ++ [y], ⟨h.own.app y hy h4 hg, h.nw.step (Near.of_grown hg) (hbk.imp id (fun h => ⟨_, h, lR _⟩)), fun z hz => ?_, by rw [List.length_append, List.length_singleton]; omega, fun a => ?_⟩⟩
 ·rcases List.mem_append.1 hz with hz | hz
  ·exact h.ov z hz
  ·obtain rfl := List.mem_singleton.1 hz; exact ho
 ·rw [vals_app, tot_append, h.tot a]
  show F a + ((if y.1.at_ = a then y.2 else 0) + 0) = _
  grind
structure LS (C : Cols) (Y : Int → Rat) (p m L p2 m2 L2 : Nat) : Prop where
 mr : MR p m L C
 fy : Fn p2 m2 L2 Y
 hp : p2 + p ≤ 700
 hm : m2 + m + 2 ≤ 700
 kl : C.length * L ≤ 1000
 l1 : L ≤ 1000
 l2 : L2 ≤ 1000
theorem LS.one {C : Cols} {Y : Int → Rat} {p m L p2 m2 L2 : Nat} (h : LS C Y p m L p2 m2 L2) : ∃ P N, P ≠ 0 ∧ P < B64 ^ (p2 + p) ∧ C.length * L * N < B64 ^ (m2 + m + 1) ∧ ∀ c ∈ C, (∀ a, ∀ x ∈ c, Over P N (Y a * x.2)) ∧ Over P (L * N) (dotl Y c) := by
 obtain ⟨P, N, h0, h1, h2, h3⟩ := h.mr.over
 obtain ⟨Q, M, g0, g1, g2, g3⟩ := h.fy.over
 refine ⟨Q * P, M * N, Nat.mul_ne_zero g0 h0, mul_pow g1 h1, mul_small (n := C.length * L) (by have := h.kl; omega) (mul_pow g2 h2), fun c hc => ⟨fun a x hx => (g3 a).mul (h3 c hc x hx), ?_⟩⟩
 exact (Over.dotl g3 (h3 c hc)).mono (Nat.mul_le_mul_right _ (h.mr.len c hc))
def lf (Y : Int → Rat) (C : Cols) (k : Nat) (a : Int) : Rat := if 0 ≤ a ∧ a < (k : Int) then mleft Y C a else 0
theorem lf_succ (Y : Int → Rat) (C : Cols) (k : Nat) (a : Int) : lf Y C (k + 1) a = lf Y C k a + (if (k : Int) = a then dotl Y (C.getD k []) else 0) := by
 unfold lf
 by_cases e : (k : Int) = a
 ·subst e
  rw [if_pos (show 0 ≤ (k : Int) ∧ (k : Int) < ((k + 1 : Nat) : Int) by omega), if_neg (show ¬ (0 ≤ (k : Int) ∧ (k : Int) < (k : Int)) by omega), if_pos rfl, mleft_at]; grind
 ·rw [if_neg e]
  by_cases h : 0 ≤ a ∧ a < (k : Int)
  ·rw [if_pos h, if_pos (by omega)]; grind
  ·rw [if_neg h, if_neg (by omega)]; grind
theorem lf_all (Y : Int → Rat) (C : Cols) (a : Int) : lf Y C C.length a = mleft Y C a := by
 unfold lf
 by_cases h : 0 ≤ a ∧ a < (C.length : Int)
 ·rw [if_pos h]
 ·rw [if_neg h, mleft_far (by omega)]
def BPt (zs : List (TV × Rat)) (i : Nat) (M : Int → Option Value) : Prop := (∀ a, (∀ j z, j < i → zs[j]? = some z → z.1.at_ ≠ a) → M a = none) ∧ ∀ j z, j < i → zs[j]? = some z → M z.1.at_ = some z.1.rat
theorem BPt.zero (zs : List (TV × Rat)) : BPt zs 0 (fun _ => none) := ⟨fun _ _ => rfl, fun j _ hj => absurd hj (Nat.not_lt_zero j)⟩
theorem BPt.succ {zs : List (TV × Rat)} {i : Nat} {M : Int → Option Value} {z : TV × Rat} (h : BPt zs i M) (hc : Canon (vals zs)) (hz : zs[i]? = some z) : BPt zs (i + 1) (fun x => if x = z.1.at_ then some z.1.rat else M x) := by
 refine ⟨fun a ha => ?_, fun j y hj hy => ?_⟩
 ·show (if a = _ then _ else _) = _
  rw [if_neg (fun e => ha i z (by omega) hz e.symm)]
  exact h.1 a (fun j y hj hy => ha j y (by omega) hy)
 ·show (if _ = _ then _ else _) = _
  by_cases e : j = i
  ·subst e
   obtain rfl := Option.some.inj (hy.symm.trans hz)
   rw [if_pos rfl]
  ·have hji : j < i := by omega
   have h1 : y.1.at_ < z.1.at_ := by
    have hj1 := (List.getElem?_eq_some_iff.1 hy)
    have hi1 := (List.getElem?_eq_some_iff.1 hz)
    obtain ⟨h2, h3⟩ := hj1
    obtain ⟨h4, h5⟩ := hi1
    have := (List.pairwise_iff_getElem.1 hc.up) j i (by rw [vals_len]; exact h2) (by rw [vals_len]; exact h4) hji
    simpa [vals, h3, h5] using this
   rw [if_neg (by omega)]
   exact h.2 j y hji hy
structure YM (w : World) (b : Nat) (Y : Int → Rat) : Prop where
 ex : ∃ nn M, IMap w b nn M ∧ ∀ a, (Y a = 0 → M a = none) ∧ (Y a ≠ 0 → ∃ z : TV, M a = some z.rat ∧ IsQ w z.s z.A z.n z.c z.t z.B z.m z.d (Y a) 700)
theorem YM.below {w w' : World} {b : Nat} {Y : Int → Rat} (h : YM w b Y) (hb : Below w.heap.size w w') : YM w' b Y := by
 obtain ⟨nn, M, h1, h2⟩ := h.ex
 refine ⟨nn, M, h1.below hb, fun a => ⟨(h2 a).1, fun ha => ?_⟩⟩
 obtain ⟨z, h3, h4⟩ := (h2 a).2 ha
 exact ⟨z, h3, h4.below hb⟩
def RetYM (w : World) (Y : Int → Rat) (e : Ending) (w' : World) : Prop := ∃ b, e = .returned (.map (some b)) ∧ YM w' b Y ∧ Below w.heap.size w w'
theorem byplace_c {w : World} {B : Option Addr} {k d p2 m2 L2 : Nat} {Y : Int → Rat} (hx : VF w B k d Y) (hF : Fn p2 m2 L2 Y) (hp : p2 ≤ 700) (hm : m2 ≤ 700) (hL : L2 ≤ 1000) : Calls Tryz.prog 106 #[.slice B k d] w (RetYM w Y) := by
 have HX := lh hx
 have HF := lh hF
 have HS : Hid (p2 ≤ 700 ∧ m2 ≤ 700) := ⟨hp, hm⟩
 have HL2 := lh hL
 clear hx hF hp hm hL
 go_enter Tryz.func106, Tryz.ntmps106
 go_wp2_with fail
 refine (norm_c HX.out HF.out HS.out.1 HS.out.2).mono ?_
 rintro e w1 ⟨G, gn, gc, rfl, hc, hb⟩
 obtain ⟨zs, z1, z2, z3⟩ := hc.ex
 have HB1 := lh hb
 have HZ := lh z1
 have HZI := lh z2
 have HZL := lh z1.en
 have HGN : Hid (gn ≤ 1000) := by show _ ≤ _; rw [z1.en]; have h9 := is_len z2 HF.out; rw [vals_len] at h9; have := HL2.out; omega
 have hmm := run_makeMap_hint (P := Tryz.prog) 122 3 27 .i64 (gn : Int) Tryz.underlying122 w1
 obtain ⟨W, hW⟩ : ∃ V, w1.alloc (.map #[] 0) = V := ⟨_, rfl⟩
 have HM0 : Hid (IMap W w1.heap.size 0 (fun _ => none)) := by rw [← hW]; exact IMap.made w1
 have HB0 : Hid (Below w1.heap.size w1 W) := by rw [← hW]; exact (bR _ _).alloc (lR _) _
 rw [hW] at hmm
 obtain ⟨b, hbk⟩ : ∃ b, w1.heap.size = b := ⟨_, rfl⟩
 have HBK : Hid (b = w1.heap.size) := hbk.symm
 rw [hbk] at hmm HM0
 clear hc hb z1 z2 z3 hbk
 go_wp2_with fail
 clear hmm hW
 go_loopw [14] (fun iv wr => ∃ (i : Nat) (M : Int → Option Value), i ≤ gn ∧ iv = .int .i64 (i : Int) ∧ Hid (IMap wr b i M) ∧ Hid (BPt zs i M) ∧ Hid (Below w1.heap.size w1 wr)) (fun iv _ => gn - (intOf iv).toNat)
 case atStart => exact ⟨0, _, Nat.zero_le _, rfl, HM0, BPt.zero zs, HB0⟩
 case round =>
  clear HM0 HB0
  obtain ⟨i, M, hi, rfl, HM, HP, HB⟩ := hrel
  by_cases hlt : i < gn
  ·have hi1 : (i : Int) < (gn : Int) := by omega
   have hi0 : (0 : Int) ≤ (i : Int) := by omega
   have hwi : IntKind.i64.wrap ((i : Int) + 1) = (i : Int) + 1 := by have := HGN.out; rw [IntKind.wrap_i64]; omega
   obtain ⟨z, hz⟩ : ∃ z, zs[i]? = some z := ⟨zs[i]'(by have := HZL.out; omega), gE (by have := HZL.out; omega)⟩
   obtain ⟨b1, off1, hA1, hk1⟩ := row_at2 HZ.out.row (j := i) (x := z.1) (by rw [gM, hz]; rfl)
   obtain ⟨d0, d1, d2, d3, d4⟩ := hk1 _ HB.out
   subst hA1
   have HPS := lh (HP.out.succ HZI.out.1 hz)
   have HZR : Hid (-9223372036854775808 ≤ z.1.at_ ∧ z.1.at_ ≤ 9223372036854775807) := (HZ.out.tq z (List.mem_of_getElem? hz)).2
   obtain ⟨⟨pat, ps, pA, pn, pc, pt, pB, pm, pd⟩, pq⟩ := z
   simp only at d0 d1 d2 d3 d4 HPS HZR
   clear hz hk1
   obtain ⟨V, hV⟩ : ∃ V, wr.alloc (.cells #[.int .i64 pat, .bool ps, .slice pA pn pc, .bool pt, .slice pB pm pd] 67) = V := ⟨_, rfl⟩
   have hvb : Below wr.heap.size wr V := by rw [← hV]; exact (bR _ _).alloc (lR _) _
   have hbx : V.heap[wr.heap.size]? = some (.cells #[.int .i64 pat, .bool ps, .slice pA pn pc, .bool pt, .slice pB pm pd] 67 (0, 0)) := by rw [← hV]; exact heap_alloc_new wr _
   have e0 : V.cell? ⟨wr.heap.size, 0, none⟩ = some (.int .i64 pat) := by rw [cell_of_row V wr.heap.size 0 _ _ _ hbx]; rfl
   have e1 : V.cell? ⟨wr.heap.size, 1, none⟩ = some (.bool ps) := by rw [cell_of_row V wr.heap.size 1 _ _ _ hbx]; rfl
   have e2 : V.cell? ⟨wr.heap.size, 2, none⟩ = some (.slice pA pn pc) := by rw [cell_of_row V wr.heap.size 2 _ _ _ hbx]; rfl
   have e3 : V.cell? ⟨wr.heap.size, 3, none⟩ = some (.bool pt) := by rw [cell_of_row V wr.heap.size 3 _ _ _ hbx]; rfl
   have e4 : V.cell? ⟨wr.heap.size, 4, none⟩ = some (.slice pB pm pd) := by rw [cell_of_row V wr.heap.size 4 _ _ _ hbx]; rfl
   have HMV := lh (HM.out.below hvb)
   have HBV := lh (below_on HB.out hvb)
   obtain ⟨w3, hput, hM3, hg3⟩ := HMV.out.put Tryz.underlying122 (by have := HGN.out; omega) pat HZR.out (.agg #[.bool ps, .slice pA pn pc, .bool pt, .slice pB pm pd])
   have HM3 := lh hM3
   have HB3 : Hid (Below w1.heap.size w1 w3) := HBV.out.grown hg3 HBV.out.size (fun j hj => by cases hj; have := HBK.out; omega)
   clear hM3 hg3 hvb hbx
   go_wp2_with fail
   go_roundw
   case rel => exact ⟨i + 1, _, by omega, by go_num, HM3, HPS, HB3⟩
   case measure => (simp [intOf]; omega)
  ·have hi1 : ¬ (i : Int) < (gn : Int) := by omega
   have HYM : Hid (YM wr b Y) := by
    refine ⟨i, M, HM.out, fun a => ⟨fun ha => HP.out.1 a (fun j y _ hy e => ?_), fun ha => ?_⟩⟩
    ·have hmem : (y.1.at_, y.2) ∈ vals zs := List.mem_map.2 ⟨y, List.mem_of_getElem? hy, rfl⟩
     have h1 := canon_mem HZI.out.1 hmem
     have h2 := HZI.out.1.nz _ hmem
     rw [HZI.out.2] at h1
     exact h2 (by rw [← h1, show (y.1.at_, y.2).1 = a from e]; exact ha)
    ·rw [← HZI.out.2 a] at ha
     obtain ⟨x, hx, hxa⟩ := tot_in ha
     obtain ⟨y, hy, rfl⟩ := List.mem_map.1 hx
     obtain ⟨j, hj⟩ := List.getElem?_of_mem hy
     have h1 := canon_mem HZI.out.1 hx
     rw [HZI.out.2] at h1
     have hjl : j < i := by have := (List.getElem?_eq_some_iff.1 hj).1; have := HZL.out; omega
     have e1 : y.1.at_ = a := hxa
     have e2 : Y a = y.2 := by rw [← e1]; exact h1
     refine ⟨y.1, by rw [← e1]; exact HP.out.2 j y hjl hj, ?_⟩
     rw [e2]
     exact ((HZ.out.tq y hy).1).below HB.out
   have HBE := lh (below_on HB1.out HB.out)
   clear HM HP
   go_wp2_with fail
   exact ⟨rfl, .map (some b), by simp [results, Tryz.results106, go_sem], b, rfl, HYM.out, HBE.out⟩
theorem dig_lim {n m k : Nat} (h : n < B64 ^ m) (hm : m ≤ k) : (dig n).length ≤ k := Nat.le_trans (dig_length_le h) hm
def lf2 (Y : Int → Rat) (C : Cols) (l : List (Int × Rat)) (k i : Nat) (a : Int) : Rat := lf Y C k a + (if (k : Int) = a then dotl Y (l.take i) else 0)
theorem lf2_succ {Y : Int → Rat} {C : Cols} {l : List (Int × Rat)} {k i : Nat} {p : Int} {q : Rat} (h : l[i]? = some (p, q)) (a : Int) : lf2 Y C l k (i + 1) a = lf2 Y C l k i a + (if (k : Int) = a then Y p * q else 0) := by
 unfold lf2
 have e : l.take (i + 1) = l.take i ++ [(p, q)] := by rw [List.take_add_one, h]; rfl
 rw [e, dotl_snoc]
 by_cases h2 : (k : Int) = a
 ·rw [if_pos h2, if_pos h2, if_pos h2]; grind
 ·rw [if_neg h2, if_neg h2, if_neg h2]; grind
theorem left_c {w : World} {A B : Option Addr} {n c k d p m L p2 m2 L2 : Nat} {vs : List SV} {Y : Int → Rat} (hm : MX w A n c vs) (hx : VF w B k d Y) (hs : LS (colsOf vs) Y p m L p2 m2 L2) :
  Calls Tryz.prog 58 #[.slice B k d, .slice A n c] w (RetC w (mleft Y (colsOf vs))) := by
 obtain ⟨P, N, o1, o2, o3, o4⟩ := hs.one
 have HO : Hid (P ≠ 0 ∧ P < B64 ^ (p2 + p) ∧ (colsOf vs).length * L * N < B64 ^ (m2 + m + 1) ∧ ∀ c ∈ colsOf vs, (∀ a, ∀ x ∈ c, Over P N (Y a * x.2)) ∧ Over P (L * N) (dotl Y c)) := ⟨o1, o2, o3, o4⟩
 have HM := lh hm
 have HX := lh hx
 have HS := lh hs
 have HEN := lh hm.en
 have HCL : Hid ((colsOf vs).length = n) := (colsOf_len vs).trans hm.en.symm
 have HLE : Hid (n ≤ 1000) := hm.le
 clear hm hx hs o1 o2 o3 o4
 go_enter Tryz.func58, Tryz.ntmps58
 go_wp2_with fail
 refine (byplace_c HX.out HS.out.fy (by have := HS.out.hp; omega) (by have := HS.out.hm; omega) HS.out.l2).mono ?_
 rintro e w1 ⟨bm, rfl, hym, hb⟩
 have HB1 := lh hb
 have HYM := lh hym
 have HM1 := lh (HM.out.below hb)
 have HP0 : Hid (Parts w1 w1 (.slice none 0 0) P N (0 * L) (lf Y (colsOf vs) 0)) := (Parts.nil w1 P N (0 * L)).congr (lR _) (fun a => by unfold lf; rw [if_neg (by omega)])
 clear hym hb
 go_wp2_with fail
 go_loopw [6, 17] (fun vv kv wr => ∃ (k : Nat) (A1 : Option Addr) (n1 c1 : Nat), k ≤ n ∧ kv = .int .i64 (k : Int) ∧ vv = .slice A1 n1 c1 ∧ Hid (Parts w1 wr (.slice A1 n1 c1) P N (k * L) (lf Y (colsOf vs) k))) (fun _ kv _ => n - (intOf kv).toNat)
 case atStart => exact ⟨0, none, 0, 0, Nat.zero_le _, rfl, rfl, HP0⟩
 case round =>
  clear HP0
  obtain ⟨j, A1, n1, c1, hj, rfl, rfl, HC⟩ := hrel
  by_cases hlt : j < n
  ·have hi1 : (j : Int) < (n : Int) := by omega
   have hi0 : (0 : Int) ≤ (j : Int) := by omega
   have hwi : IntKind.i64.wrap ((j : Int) + 1) = (j : Int) + 1 := by have := HLE.out; rw [IntKind.wrap_i64]; omega
   obtain ⟨u, hu⟩ : ∃ u, vs[j]? = some u := ⟨vs[j]'(by have := HEN.out; omega), gE (by have := HEN.out; omega)⟩
   obtain ⟨b1, off, hA, hk1⟩ := rows_at HM1.out.row hu
   have c0 := hk1 _ HC.out.bel
   subst hA
   have HIV : Hid (IsV w1 u.A u.n u.c u.ys 700) := (HM1.out.isv u (List.mem_of_getElem? hu)).1
   have HUN : Hid (u.n ≤ 1000) := (HM1.out.isv u (List.mem_of_getElem? hu)).2.2.1
   have HCA : Hid ((colsOf vs).getD j [] = vals u.ys) := colsOf_at hu
   have HCM : Hid ((colsOf vs).getD j [] ∈ colsOf vs) := getD_mem (by have := HCL.out; omega)
   have HUL : Hid (u.ys.length ≤ L) := by
    have h9 := HS.out.mr.len _ HCM.out
    rw [HCA.out, vals_len] at h9; exact h9
   have HUE := lh HIV.out.en
   have HC0 : Hid (Parts w1 wr (.slice A1 n1 c1) P N (j * L + 0) (lf2 Y (colsOf vs) (vals u.ys) j 0)) := HC.out.congr (lR _) (fun a => by unfold lf2; rw [List.take_zero]; show _ = _ + (if (j : Int) = a then (0 : Rat) else 0); split <;> grind)
   clear hu hk1 HC
   go_wp2_with fail
   clear c0
   go_loopw [6, 24] (fun vv iv wr => ∃ (i : Nat) (A1 : Option Addr) (n1 c1 : Nat), i ≤ u.n ∧ iv = .int .i64 (i : Int) ∧ vv = .slice A1 n1 c1 ∧ Hid (Parts w1 wr (.slice A1 n1 c1) P N (j * L + i) (lf2 Y (colsOf vs) (vals u.ys) j i))) (fun _ iv _ => u.n - (intOf iv).toNat)
   case atStart => exact ⟨0, A1, n1, c1, Nat.zero_le _, rfl, rfl, HC0⟩
   case round =>
    clear HC0
    obtain ⟨i, A2, n2, c2, hi, rfl, rfl, HC⟩ := hrel
    by_cases hli : i < u.n
    ·have hj1 : (i : Int) < (u.n : Int) := by omega
     have hj0 : (0 : Int) ≤ (i : Int) := by omega
     have hwj : IntKind.i64.wrap ((i : Int) + 1) = (i : Int) + 1 := by have := HUN.out; rw [IntKind.wrap_i64]; omega
     obtain ⟨z, hz⟩ : ∃ z, u.ys[i]? = some z := ⟨u.ys[i]'(by have := HUE.out; omega), gE (by have := HUE.out; omega)⟩
     obtain ⟨b2, off2, hA2, hk2⟩ := row_at2 HIV.out.row (j := i) (x := z.1) (by rw [gM, hz]; rfl)
     obtain ⟨d0, d1, d2, d3, d4⟩ := hk2 _ HC.out.bel
     have HVA : Hid ((vals u.ys)[i]? = some (z.1.at_, z.2)) := by show _ = _; unfold vals; rw [gM, hz]; rfl
     have HZQ := lh (HIV.out.tq z (List.mem_of_getElem? hz))
     have HOV : Hid (Over P N (Y z.1.at_ * z.2)) := (HO.out.2.2.2 _ HCM.out).1 _ (z.1.at_, z.2) (by rw [HCA.out]; exact List.mem_of_getElem? HVA.out)
     have HUM : Hid (i < 1000) := by have := HUN.out; show _ < _; omega
     have HNB : Hid ((dig N).length ≤ 700) := by
      refine dig_lim (Nat.lt_of_le_of_lt ?_ HO.out.2.2.1) (by have := HS.out.hm; omega)
      exact Nat.le_mul_of_pos_left N (Nat.mul_pos (by have := HCL.out; omega) (by have := HUL.out; have := HUE.out; omega))
     obtain ⟨uA, un, uc, uys⟩ := u
     simp only at hA2 hli hj1 hi
     subst hA2
     obtain ⟨⟨pat, ps, pA, pn, pc, pt, pB, pm, pd⟩, pq⟩ := z
     simp only at d0 d1 d2 d3 d4 HVA HZQ HOV
     clear hz hk2
     obtain ⟨V, hV⟩ : ∃ V, wr.alloc (.cells #[.int .i64 pat, .bool ps, .slice pA pn pc, .bool pt, .slice pB pm pd] 67) = V := ⟨_, rfl⟩
     have hvb : Below wr.heap.size wr V := by rw [← hV]; exact (bR _ _).alloc (lR _) _
     have hbx : V.heap[wr.heap.size]? = some (.cells #[.int .i64 pat, .bool ps, .slice pA pn pc, .bool pt, .slice pB pm pd] 67 (0, 0)) := by rw [← hV]; exact heap_alloc_new wr _
     have HBX := lh hbx
     have e0 : V.cell? ⟨wr.heap.size, 0, none⟩ = some (.int .i64 pat) := by rw [cell_of_row V wr.heap.size 0 _ _ _ hbx]; rfl
     have e1 : V.cell? ⟨wr.heap.size, 1, none⟩ = some (.bool ps) := by rw [cell_of_row V wr.heap.size 1 _ _ _ hbx]; rfl
     have e2 : V.cell? ⟨wr.heap.size, 2, none⟩ = some (.slice pA pn pc) := by rw [cell_of_row V wr.heap.size 2 _ _ _ hbx]; rfl
     have e3 : V.cell? ⟨wr.heap.size, 3, none⟩ = some (.bool pt) := by rw [cell_of_row V wr.heap.size 3 _ _ _ hbx]; rfl
     have e4 : V.cell? ⟨wr.heap.size, 4, none⟩ = some (.slice pB pm pd) := by rw [cell_of_row V wr.heap.size 4 _ _ _ hbx]; rfl
     have HBV := lh (below_on HC.out.bel hvb)
     have HCV := lh (HC.out.below hvb)
     obtain ⟨nn, M, hm1, hm2⟩ := (HYM.out.below HBV.out).ex
     have hlk := hm1.look Tryz.underlying122 (zeroRat V) pat HZQ.out.2
     by_cases hY : Y pat = 0
     ·have HC5 : Hid (Parts w1 V (.slice A2 n2 c2) P N (j * L + (i + 1)) (lf2 Y (colsOf vs) (vals uys) j (i + 1))) := HCV.out.congr (by omega) (fun a => by rw [lf2_succ HVA.out, hY]; split <;> grind)
      rw [(hm2 pat).1 hY] at hlk
      simp only [Option.getD_none, Option.isSome_none] at hlk
      have HC6 : Hid (Parts w1 (V.alloc (.cells #[.bool false, .slice none 0 0, .bool false, .slice none 0 0] 27)) (.slice A2 n2 c2) P N (j * L + (i + 1)) (lf2 Y (colsOf vs) (vals uys) j (i + 1))) := HC5.out.below ((bR _ _).alloc (lR _) _)
      clear hbx hvb hm1 hm2 hY HC5
      go_wp2_with fail
      go_roundw
      case rel => exact ⟨i + 1, A2, n2, c2, by omega, by go_num, rfl, HC6⟩
      case measure => (simp [intOf]; omega)
     ·obtain ⟨⟨zat, ys_, yA, yn, yc, yt, yB, ym, yd⟩, hz1, hz2⟩ := (hm2 pat).2 hY
      rw [hz1] at hlk
      simp only [Option.getD_some, Option.isSome_some, TV.rat] at hlk
      simp only at hz2
      obtain ⟨V2, hV2⟩ : ∃ X, V.alloc (.cells #[.bool ys_, .slice yA yn yc, .bool yt, .slice yB ym yd] 27) = X := ⟨_, rfl⟩
      have hb2 : Below V.heap.size V V2 := by rw [← hV2]; exact (bR _ _).alloc (lR _) _
      have hx2 : V2.heap[V.heap.size]? = some (.cells #[.bool ys_, .slice yA yn yc, .bool yt, .slice yB ym yd] 27 (0, 0)) := by rw [← hV2]; exact heap_alloc_new V _
      have f0 : V2.cell? ⟨V.heap.size, 0, none⟩ = some (.bool ys_) := by rw [cell_of_row V2 V.heap.size 0 _ _ _ hx2]; rfl
      have f1 : V2.cell? ⟨V.heap.size, 1, none⟩ = some (.slice yA yn yc) := by rw [cell_of_row V2 V.heap.size 1 _ _ _ hx2]; rfl
      have f2 : V2.cell? ⟨V.heap.size, 2, none⟩ = some (.bool yt) := by rw [cell_of_row V2 V.heap.size 2 _ _ _ hx2]; rfl
      have f3 : V2.cell? ⟨V.heap.size, 3, none⟩ = some (.slice yB ym yd) := by rw [cell_of_row V2 V.heap.size 3 _ _ _ hx2]; rfl
      have g0 : V2.cell? ⟨wr.heap.size, 0, none⟩ = some (.int .i64 pat) := by rw [cell_of_row V2 wr.heap.size 0 _ _ _ ((hb2.block _ (lt_of_block HBX.out)).trans HBX.out)]; rfl
      have g1 : V2.cell? ⟨wr.heap.size, 1, none⟩ = some (.bool ps) := by rw [cell_of_row V2 wr.heap.size 1 _ _ _ ((hb2.block _ (lt_of_block HBX.out)).trans HBX.out)]; rfl
      have g2 : V2.cell? ⟨wr.heap.size, 2, none⟩ = some (.slice pA pn pc) := by rw [cell_of_row V2 wr.heap.size 2 _ _ _ ((hb2.block _ (lt_of_block HBX.out)).trans HBX.out)]; rfl
      have g3 : V2.cell? ⟨wr.heap.size, 3, none⟩ = some (.bool pt) := by rw [cell_of_row V2 wr.heap.size 3 _ _ _ ((hb2.block _ (lt_of_block HBX.out)).trans HBX.out)]; rfl
      have g4 : V2.cell? ⟨wr.heap.size, 4, none⟩ = some (.slice pB pm pd) := by rw [cell_of_row V2 wr.heap.size 4 _ _ _ ((hb2.block _ (lt_of_block HBX.out)).trans HBX.out)]; rfl
      have HQ1 := lh ((hz2.below hb2))
      have HQ2 := lh ((HZQ.out.1.below HBV.out).below hb2)
      have HC2 := lh (HCV.out.below hb2)
      clear hbx hvb hm1 hm2 hY hz1 hz2 hb2 hx2
      go_wp2_with fail
      clear hV hV2 hlk d0 d1 d2 d3 d4 e0 e1 e2 e3 e4 f0 f1 f2 f3 g0 g1 g2 g3 g4
      refine (Q.mul_q HQ1.out HQ2.out (by omega) (by omega) _ rfl).mono ?_
      rintro e w2 ⟨s8, A8, n8, c8, t8, B8, m8, d8, rfl, ho, hbx⟩
      have HO8 := lh ho
      have HC3 := lh (HC2.out.below hbx)
      clear ho hbx
      obtain ⟨W3, hW3⟩ : ∃ V, w2.alloc (.cells #[.int .i64 (j : Int), .bool s8, .slice A8 n8 c8, .bool t8, .slice B8 m8 d8] 67) = V := ⟨_, rfl⟩
      have hb3 : Below w2.heap.size w2 W3 := by rw [← hW3]; exact (bR _ _).alloc (lR _) _
      have hr3 : W3.heap[w2.heap.size]? = some (.cells #[.int .i64 (j : Int), .bool s8, .slice A8 n8 c8, .bool t8, .slice B8 m8 d8] 67 (0, 0)) := by rw [← hW3]; exact heap_alloc_new w2 _
      obtain ⟨zs, hzs⟩ := HC3.out.below hb3
      have HZ3 := lh hzs
      have HQL : Hid (ql (Y pat * pq) ≤ 700) := HOV.out.ql_le HO.out.1 (Nat.le_trans (dig_length_le HO.out.2.1) HS.out.hp) HNB.out
      have HZL : Hid (zs.length ≤ 10000) := by
       have h7 := HZ3.out.len
       have h8 : j * L ≤ (colsOf vs).length * L := Nat.mul_le_mul_right _ (by have := HCL.out; omega)
       have h9 := HS.out.kl
       have h6 := HUM.out
       show _ ≤ _; omega
      have HT3 : Hid (TQ W3 (⟨(j : Int), s8, A8, n8, c8, t8, B8, m8, d8⟩ : TV) (Y pat * pq) 700) := ⟨(HO8.out.below hb3).isq HQL.out, by show _ ≤ (j : Int); omega, by show (j : Int) ≤ _; have := HLE.out; omega⟩
      have HR3 : Hid (∀ j' u', (⟨(j : Int), s8, A8, n8, c8, t8, B8, m8, d8⟩ : TV).enc[j']? = some u' → W3.cell? ((⟨w2.heap.size, 0, none⟩ : Addr).add j') = some u') := by
       intro j' u' hj'
       rw [add_flat, Nat.zero_add, cell_of_row _ _ j' _ _ _ hr3]
       simpa [TV.enc] using hj'
      clear hb3 hr3 hzs
      go_wp2_with (at_builtin; refine wpList_appS rfl (.tmp 36) (.tmp 43) rfl w1.heap.size (.slice A2 n2 c2) (zs.map Prod.fst) ⟨(j : Int), s8, A8, n8, c8, t8, B8, m8, d8⟩ ⟨w2.heap.size, 0, none⟩ rfl rfl HZ3.out.own.own HR3.out (by rw [List.length_map]; have := HZL.out; omega) HZ3.out.nw.bel.size ?_)
      rintro v' w4 h4 hg hbk
      obtain ⟨A', n', c', rfl⟩ := h4.some_
      have HC4 : Hid (Parts w1 w4 (.slice A' n' c') P N (j * L + (i + 1)) (lf2 Y (colsOf vs) (vals uys) j (i + 1))) := (HZ3.out.one (⟨(j : Int), s8, A8, n8, c8, t8, B8, m8, d8⟩, Y pat * pq) HT3.out HOV.out h4 hg hbk).congr (lR _) (fun a => by rw [lf2_succ HVA.out])
      clear h4 hg hbk hW3
      go_wp2_with fail
      go_roundw
      case rel => exact ⟨i + 1, A', n', c', by omega, by go_num, rfl, HC4⟩
      case measure => (simp [intOf]; omega)
    ·have hj1 : ¬ (i : Int) < (u.n : Int) := by omega
     have HC5 : Hid (Parts w1 wr (.slice A2 n2 c2) P N ((j + 1) * L) (lf Y (colsOf vs) (j + 1))) := HC.out.congr (by rw [Nat.succ_mul]; have := HUL.out; have := HUE.out; omega) (fun a => by
      rw [lf_succ, HCA.out]
      unfold lf2
      rw [List.take_of_length_le (by rw [vals_len]; have := HUE.out; omega)])
     clear HC
     go_wp2_with fail
     go_roundw
     case rel => exact ⟨j + 1, A2, n2, c2, by omega, by go_num, rfl, HC5⟩
     case measure => (simp [intOf]; omega)
  ·have hi1 : ¬ (j : Int) < (n : Int) := by omega
   have HE : Hid (j = (colsOf vs).length) := by show _ = _; have := HCL.out; omega
   have HV : Hid (VF wr A1 n1 c1 (mleft Y (colsOf vs))) := by
    have h9 := HC.out
    rw [HE.out] at h9
    exact (h9.congr (lR _) (lf_all Y (colsOf vs))).vf HO.out.1 HO.out.2.1 HS.out.hp HO.out.2.2.1 (by have := HS.out.hm; omega) HS.out.kl
   have HB := lh HC.out.bel
   have HFO := lh (HS.out.mr.left HS.out.fy HS.out.l1)
   clear HC hi1
   go_wp2_with fail
   refine (norm_c HV.out HFO.out HS.out.hp (by have := HS.out.hm; omega)).mono ?_
   rintro e w5 ⟨A5, n5, c5, rfl, hc, hb⟩
   have HR : Hid (RetC w (mleft Y (colsOf vs)) (.returned (.slice A5 n5 c5)) w5) := ⟨A5, n5, c5, rfl, hc, below_on (below_on HB1.out HB.out) hb⟩
   clear hc hb
   go_wp2_with fail
   exact ⟨rfl, .slice A5 n5 c5, by simp [results, Tryz.results58, go_sem], HR.out⟩
