/- Part 40 of the proof: MxTimes. -/
import Derived.Test.YthjiacmhhpfokaaGreatL38
namespace Go.Proofs.YthjiacmhhpfokaaGreat
open Act renaming put → aP
open Nat renaming le_trans → lT
open Go.RowKit.Below renaming refl → bR
namespace V
open List renaming getElem_toArray → gY, getElem_cons_zero → gZ, getElem_cons_succ → gJ, setIfInBounds_toArray → sT, set_cons_zero → sZ, set_cons_succ → sS
open Lib renaming hid → lh
open Go.RowKit
open Q (IsQ OneQ RetQ below_on ql Qbx)
theorem within_any (w : World) (a n : Int) (v : Bool) (hv : decide (0 ≤ a ∧ a < n) = v) : Calls Tryz.prog 102 #[.int .i64 a, .int .i64 n] w (RetB w v) := by
 by_cases h1 : 0 ≤ a
 ·by_cases h2 : a < n
  ·have HE : Hid (true = v) := by show _ = _; rw [← hv]; exact (decide_eq_true ⟨h1, h2⟩).symm
   clear hv
   go_enter Tryz.func102, Tryz.ntmps102
   go_wp2_with fail
   go_ret
   rw [← HE.out]
   exact ⟨rfl, bR _ _⟩
  ·have HE : Hid (false = v) := by show _ = _; rw [← hv]; exact (decide_eq_false (fun h => h2 h.2)).symm
   clear hv
   go_enter Tryz.func102, Tryz.ntmps102
   go_wp2_with fail
   go_ret
   rw [← HE.out]
   exact ⟨rfl, bR _ _⟩
 ·have HE : Hid (false = v) := by show _ = _; rw [← hv]; exact (decide_eq_false (fun h => h1 h.1)).symm
  have h3 : a < 0 := by omega
  clear hv
  go_enter Tryz.func102, Tryz.ntmps102
  go_wp2_with fail
  go_ret
  rw [← HE.out]
  exact ⟨rfl, bR _ _⟩
structure PartsZ (w wr : World) (v : Value) (P N ln : Nat) (F : Int → Rat) (zs : List (TV × Rat)) : Prop where
 own : OwnK wr w.heap.size v zs 700
 nw : New w wr v
 ov : ∀ y ∈ zs, Over P N y.2
 len : zs.length ≤ ln
 tot : ∀ a, V.tot (vals zs) a = F a
def Parts (w wr : World) (v : Value) (P N ln : Nat) (F : Int → Rat) : Prop := ∃ zs, PartsZ w wr v P N ln F zs
theorem Parts.nil (w : World) (P N ln : Nat) : Parts w w (.slice none 0 0) P N ln (fun _ => 0) :=
 ⟨[], ⟨⟨OwnU.nil _ _, (fun _ h => by cases h)⟩, ⟨bR _ _, (fun _ h => by cases h)⟩, (fun _ h => by cases h), Nat.zero_le _, fun _ => rfl⟩⟩
theorem Parts.below {w wr wx : World} {v : Value} {P N ln : Nat} {F : Int → Rat} (h : Parts w wr v P N ln F) (hb : Below wr.heap.size wr wx) : Parts w wx v P N ln F := by
 obtain ⟨zs, h1, h2, h3, h4, h5⟩ := h
 exact ⟨zs, ⟨h1.below hb, ⟨below_on h2.bel hb, h2.new⟩, h3, h4, h5⟩⟩
theorem Parts.bel {w wr : World} {v : Value} {P N ln : Nat} {F : Int → Rat} (h : Parts w wr v P N ln F) : Below w.heap.size w wr := by
 obtain ⟨zs, h⟩ := h; exact h.nw.bel
theorem Parts.lt {w wr : World} {v : Value} {P N ln : Nat} {F : Int → Rat} (h : Parts w wr v P N ln F) : ∀ g, v.ownBlock = some g → g < wr.heap.size := by
 obtain ⟨zs, h⟩ := h; exact fun g hg => h.own.own.lt hg
theorem Parts.congr {w wr : World} {v : Value} {P N ln ln2 : Nat} {F G : Int → Rat} (h : Parts w wr v P N ln F) (hl : ln ≤ ln2) (e : ∀ a, F a = G a) : Parts w wr v P N ln2 G := by
 obtain ⟨zs, h⟩ := h
 exact ⟨zs, ⟨h.own, h.nw, h.ov, lT h.len hl, fun a => (h.tot a).trans (e a)⟩⟩
theorem vals_app (xs ys : List (TV × Rat)) : vals (xs ++ ys) = vals xs ++ vals ys := by unfold vals; rw [List.map_append]
theorem Parts.add {w wr : World} {v : Value} {P N ln L p m : Nat} {F G : Int → Rat} {B : Option Addr} {n c : Nat} (h : Parts w wr v P N ln F) (hc : CF wr B n c G) (hG : ∀ a, Over P N (G a)) (hF : Fn p m L G) (hl : ln + L ≤ 10000) (ty : TypeId) :
  ∃ A2 n2 c2 w4, (Builtin.append_ #[22, 33] ty #[v, .slice B n c]).run Tryz.prog wr = .ok (.slice A2 n2 c2) w4 ∧ Parts w w4 (.slice A2 n2 c2) P N (ln + L) (fadd F G) ∧ wr.grownBy w4 v.ownBlock := by
 obtain ⟨zs, h⟩ := h
 obtain ⟨ys, y1, y2, y3⟩ := hc.ex
 have hyl : ys.length ≤ L := by have := is_len y2 hF; rwa [vals_len] at this
 have hzl := h.len
 obtain ⟨v', w4, hr, g1, g2, g3⟩ := appW_at wr w.heap.size ty v (zs.map Prod.fst) (ys.map Prod.fst) B n c h.own.own y1.row (by rw [List.length_map]; exact y1.en) (by rw [List.length_map, List.length_map]; omega) h.nw.bel.size
 obtain ⟨A2, n2, c2, rfl⟩ := g1.some_
 refine ⟨A2, n2, c2, w4, hr, ⟨zs ++ ys, ⟨h.own.apps y1.tq g1 g2, h.nw.step (Near.of_grown g2) (g3.imp id (fun h => ⟨_, h, Nat.le_refl _⟩)), fun y hy => ?_, by rw [List.length_append]; omega, fun a => ?_⟩⟩, g2⟩
 ·rcases List.mem_append.1 hy with hy | hy
  ·exact h.ov y hy
  ·have e : V.tot (vals ys) y.1.at_ = y.2 := canon_mem y2.1 (x := (y.1.at_, y.2)) (List.mem_map.2 ⟨y, hy, rfl⟩)
   rw [← e, y2.2]
   exact hG _
 ·rw [vals_app, tot_append, h.tot a, y2.2 a]; rfl
theorem Parts.vf {w wr : World} {A : Option Addr} {n c P N ln p m : Nat} {F : Int → Rat} (h : Parts w wr (.slice A n c) P N ln F) (h0 : P ≠ 0) (hP : P < B64 ^ p) (hp : p ≤ 700) (hN : ln * N < B64 ^ m) (hm : m ≤ 700) (hl : ln ≤ 1000) : VF wr A n c F := by
 obtain ⟨zs, h⟩ := h
 have hz := h.own.isv
 have hzl := h.len
 refine ⟨⟨zs, hz.1, fun l' hl' hm' => ?_, funext h.tot⟩, by have := hz.1.en; omega, hz.2⟩
 have ho : ∀ x ∈ l', Over P N x.2 := fun x hx => by
  obtain ⟨y, hy, rfl⟩ := List.mem_map.1 (hm' x hx)
  exact h.ov y hy
 rw [vals_len] at hl'
 exact ((Over.all ho).mono (Nat.mul_le_mul_right _ (lT hl' hzl))).ql_le h0 (lT (dig_length_le hP) hp) (lT (dig_length_le hN) hm)
structure TS (C : Cols) (X : Int → Rat) (p m L p2 m2 L2 : Nat) : Prop where
 mr : MR p m L C
 fx : Fn p2 m2 L2 X
 hp : p2 + p ≤ 700
 hm : m2 + m + 3 ≤ 700
 kl : C.length * L ≤ 1000
 l1 : L ≤ 1000
 l2 : L2 ≤ 1000
theorem TS.out {C : Cols} {X : Int → Rat} {p m L p2 m2 L2 : Nat} (h : TS C X p m L p2 m2 L2) (hC : C.length ≤ 1000) : Fn (p2 + p) (m2 + m + 2) (C.length * L) (mtimes C X) := h.mr.times h.fx h.l1 hC
theorem TS.one {C : Cols} {X : Int → Rat} {p m L p2 m2 L2 : Nat} (h : TS C X p m L p2 m2 L2) : ∃ P N, P ≠ 0 ∧ P < B64 ^ (p2 + p) ∧ C.length * L * N < B64 ^ (m2 + m + 2) ∧ ∀ a k b, Over P N (X a * col C k b) := by
 obtain ⟨P, N, h0, h1, h2, h3⟩ := h.mr.over
 obtain ⟨Q, M, g0, g1, g2, g3⟩ := h.fx.over
 refine ⟨Q * P, M * (L * N), Nat.mul_ne_zero g0 h0, mul_pow g1 h1, ?_, fun a k b => (g3 a).mul ?_⟩
 ·have e1 : M * (L * N) < B64 ^ (m2 + (m + 1)) := mul_pow g2 (mul_small (by have := h.l1; omega) h2)
  have e2 := mul_small (n := C.length * L) (by have := h.kl; omega) e1
  rwa [show m2 + (m + 1) + 1 = m2 + m + 2 by omega] at e2
 ·by_cases hk : k < C.length
  ·have hm := getD_mem hk
   exact (Over.tot (h3 _ hm) b).mono (Nat.mul_le_mul_right _ (h.mr.len _ hm))
  ·have e : col C k b = 0 := by unfold col; rw [getD_out (by omega)]; rfl
   rw [e]; exact Over.zero _ _
def rk (n : Nat) (l : List (Int × Rat)) : Nat := (l.filter (fun x => decide (0 ≤ x.1 ∧ x.1 < (n : Int)))).length
theorem rk_le {n : Nat} {l : List (Int × Rat)} (h : l.Pairwise (fun s t => s.1 < t.1)) : rk n l ≤ n := by
 have := up_len (n : Int) (l.filter (fun x => decide (0 ≤ x.1 ∧ x.1 < (n : Int)))) 0 (h.sublist List.filter_sublist) (fun x hx => by simpa using (List.mem_filter.1 hx).2)
 unfold rk
 omega
theorem rk_snoc (n : Nat) (l : List (Int × Rat)) (p : Int) (q : Rat) : rk n (l ++ [(p, q)]) = rk n l + (if 0 ≤ p ∧ p < (n : Int) then 1 else 0) := by
 unfold rk
 rw [List.filter_append, List.length_append]
 by_cases h : 0 ≤ p ∧ p < (n : Int)
 ·rw [if_pos h, List.filter_cons_of_pos (by simpa using h)]; rfl
 ·rw [if_neg h, List.filter_cons_of_neg (by simpa using h)]; rfl
set_option maxRecDepth 100000 in
set_option maxHeartbeats 4000000 in
theorem times_c {w : World} {A B : Option Addr} {n c k d p m L p2 m2 L2 : Nat} {vs : List SV} {X : Int → Rat} (hm : MX w A n c vs) (hx : VF w B k d X) (hs : TS (colsOf vs) X p m L p2 m2 L2) :
  Calls Tryz.prog 47 #[.slice A n c, .slice B k d] w (RetC w (mtimes (colsOf vs) X)) := by
 obtain ⟨P, N, o1, o2, o3, o4⟩ := hs.one
 have HO : Hid (P ≠ 0 ∧ P < B64 ^ (p2 + p) ∧ (colsOf vs).length * L * N < B64 ^ (m2 + m + 2) ∧ ∀ a k b, Over P N (X a * col (colsOf vs) k b)) := ⟨o1, o2, o3, o4⟩
 have HM := lh hm
 have HX := lh hx
 have HS := lh hs
 have HEN := lh hm.en
 have HCL : Hid ((colsOf vs).length = n) := (colsOf_len vs).trans hm.en.symm
 have HLE : Hid (n ≤ 1000) := hm.le
 clear hm hx hs o1 o2 o3 o4
 go_enter Tryz.func47, Tryz.ntmps47
 go_wp2_with fail
 refine (norm_c HX.out HS.out.fx (by have := HS.out.hp; omega) (by have := HS.out.hm; omega)).mono ?_
 rintro e w1 ⟨G, gn, gc, rfl, hc, hb⟩
 obtain ⟨zs, z1, z2, z3⟩ := hc.ex
 have HB1 := lh hb
 have HZ := lh z1
 have HZI := lh z2
 have HZL := lh z1.en
 have HGN : Hid (gn ≤ 1000000) := by show _ ≤ _; rw [z1.en]; have h9 := is_len z2 HS.out.fx; rw [vals_len] at h9; have := HS.out.l2; omega
 have HP0 : Hid (Parts w1 w1 (.slice none 0 0) P N (rk n ((vals zs).take 0) * L) (tsum (colsOf vs) ((vals zs).take 0))) := Parts.nil w1 P N _
 have HM1 := lh (HM.out.below hb)
 clear hc hb z1 z2 z3
 go_wp2_with fail
 go_loopw [5, 11] (fun vv iv wr => ∃ (i : Nat) (A1 : Option Addr) (n1 c1 : Nat), i ≤ gn ∧ iv = .int .i64 (i : Int) ∧ vv = .slice A1 n1 c1 ∧ Hid (Parts w1 wr (.slice A1 n1 c1) P N (rk n ((vals zs).take i) * L) (tsum (colsOf vs) ((vals zs).take i)))) (fun _ iv _ => gn - (intOf iv).toNat)
 case atStart => exact ⟨0, none, 0, 0, Nat.zero_le _, rfl, rfl, HP0⟩
 case round =>
  clear HP0
  obtain ⟨i, A1, n1, c1, hi, rfl, rfl, HC⟩ := hrel
  by_cases hlt : i < gn
  ·have hi1 : (i : Int) < (gn : Int) := by omega
   have hi0 : (0 : Int) ≤ (i : Int) := by omega
   have hwi : IntKind.i64.wrap ((i : Int) + 1) = (i : Int) + 1 := by have := HGN.out; rw [IntKind.wrap_i64]; omega
   obtain ⟨z, hz⟩ : ∃ z, zs[i]? = some z := ⟨zs[i]'(by have := HZL.out; omega), List.getElem?_eq_getElem (by have := HZL.out; omega)⟩
   obtain ⟨b1, off1, hA1, hk1⟩ := row_at2 HZ.out.row (j := i) (x := z.1) (by rw [List.getElem?_map, hz]; rfl)
   obtain ⟨d0, d1, d2, d3, d4⟩ := hk1 _ HC.out.bel
   subst hA1
   have HSN : Hid ((vals zs).take (i + 1) = (vals zs).take i ++ [(z.1.at_, z.2)]) := by
    show _ = _
    rw [List.take_add_one]
    unfold vals
    rw [List.getElem?_map, hz]; rfl
   have HZQ : Hid (IsQ w1 z.1.s z.1.A z.1.n z.1.c z.1.t z.1.B z.1.m z.1.d z.2 700) := (HZ.out.tq z (List.mem_of_getElem? hz)).1
   have HXF : Hid (X z.1.at_ = z.2) := by
    show _ = _
    rw [← HZI.out.2]
    exact canon_mem HZI.out.1 (x := (z.1.at_, z.2)) (List.mem_map.2 ⟨z, List.mem_of_getElem? hz, rfl⟩)
   have HRK : Hid (rk n ((vals zs).take i ++ [(z.1.at_, z.2)]) ≤ n) := by
    show _ ≤ _
    rw [← HSN.out]
    exact rk_le (HZI.out.1.up.sublist (List.take_sublist _ _))
   obtain ⟨⟨pat, ps, pA, pn, pc, pt, pB, pm, pd⟩, pq⟩ := z
   simp only at d0 d1 d2 d3 d4 HSN HZQ HXF HRK
   clear hz hk1
   obtain ⟨V, hV⟩ : ∃ V, wr.alloc (.cells #[.int .i64 pat, .bool ps, .slice pA pn pc, .bool pt, .slice pB pm pd] 67) = V := ⟨_, rfl⟩
   have HVB : Hid (Below wr.heap.size wr V) := by rw [← hV]; exact (bR _ _).alloc (Nat.le_refl _) _
   have HBX : Hid (V.heap[wr.heap.size]? = some (.cells #[.int .i64 pat, .bool ps, .slice pA pn pc, .bool pt, .slice pB pm pd] 67 (0, 0))) := by rw [← hV]; exact heap_alloc_new wr _
   have HTB : Hid (∀ W, Below V.heap.size V W → W.cell? ⟨wr.heap.size, 0, none⟩ = some (.int .i64 pat) ∧ W.cell? ⟨wr.heap.size, 1, none⟩ = some (.bool ps) ∧ W.cell? ⟨wr.heap.size, 2, none⟩ = some (.slice pA pn pc) ∧ W.cell? ⟨wr.heap.size, 3, none⟩ = some (.bool pt) ∧ W.cell? ⟨wr.heap.size, 4, none⟩ = some (.slice pB pm pd)) := fun W hb => by
    have hx := (hb.block wr.heap.size (lt_of_block HBX.out)).trans HBX.out
    exact ⟨by rw [cell_of_row W wr.heap.size 0 _ _ _ hx]; rfl, by rw [cell_of_row W wr.heap.size 1 _ _ _ hx]; rfl, by rw [cell_of_row W wr.heap.size 2 _ _ _ hx]; rfl, by rw [cell_of_row W wr.heap.size 3 _ _ _ hx]; rfl, by rw [cell_of_row W wr.heap.size 4 _ _ _ hx]; rfl⟩
   have HCV := lh (HC.out.below HVB.out)
   have HLT : Hid (∀ g, (Value.slice A1 n1 c1).ownBlock = some g → g < wr.heap.size) := HC.out.lt
   have HBS : Hid (wr.heap.size < V.heap.size) := lt_of_block HBX.out
   have e0 := (HTB.out V (bR _ _)).1
   have e1 := (HTB.out V (bR _ _)).2.1
   have e2 := (HTB.out V (bR _ _)).2.2.1
   have e3 := (HTB.out V (bR _ _)).2.2.2.1
   have e4 := (HTB.out V (bR _ _)).2.2.2.2
   by_cases hr : 0 ≤ pat ∧ pat < (n : Int)
   ·obtain ⟨hr0, hr1⟩ := hr
    obtain ⟨q, rfl⟩ := Int.eq_ofNat_of_zero_le hr0
    obtain ⟨u, hu⟩ : ∃ u, vs[q]? = some u := ⟨vs[q]'(by have := HEN.out; omega), List.getElem?_eq_getElem (by have := HEN.out; omega)⟩
    obtain ⟨b3, off3, hA3, hk3⟩ := rows_at HM1.out.row hu
    have HUV := lh ((HM1.out.below HCV.out.bel).vf hu)
    subst hA3
    have HK : Hid (∀ W, Below w1.heap.size w1 W → W.cell? ⟨b3, off3 + q, none⟩ = some (.slice u.A u.n u.c)) := fun W hW => hk3 W hW
    have HWI : Hid (decide (0 ≤ (q : Int) ∧ (q : Int) < (n : Int)) = true) := decide_eq_true ⟨hr0, hr1⟩
    clear hk3 hu
    go_wp2_with fail
    clear hV d0 d1 d2 d3 d4
    refine (within_any _ _ _ true HWI.out).mono ?_
    rintro e w2 ⟨rfl, hbx⟩
    have HT2 : Hid (∀ W, Below w2.heap.size w2 W → W.cell? ⟨wr.heap.size, 0, none⟩ = some (.int .i64 (q : Int)) ∧ W.cell? ⟨wr.heap.size, 1, none⟩ = some (.bool ps) ∧ W.cell? ⟨wr.heap.size, 2, none⟩ = some (.slice pA pn pc) ∧ W.cell? ⟨wr.heap.size, 3, none⟩ = some (.bool pt) ∧ W.cell? ⟨wr.heap.size, 4, none⟩ = some (.slice pB pm pd)) := fun W hb => HTB.out W (below_on hbx hb)
    replace HCV := lh (HCV.out.below hbx)
    replace HUV := lh (HUV.out.below hbx)
    clear e0 e1 e2 e3 e4 HTB HVB HBX
    have HB := lh HCV.out.bel
    have HAF : Hid (Aft w2 w2) := ⟨bR _ _⟩
    have HVS : Hid (Aft V w2) := ⟨hbx⟩
    clear hbx
    go_upto_region 6 with fail
    replace HB := lh HB.out.drew
    replace HCV := lh (HCV.out.below (bR _ _).drew)
    replace HUV := lh (HUV.out.below (bR _ _).drew)
    replace HAF := lh (HAF.out.below (bR _ _).drew)
    replace HVS := lh (HVS.out.below (bR _ _).drew)
    refine wp_region_held_drew (S := (fun W => (W.cell? ⟨wr.heap.size, 0, none⟩ = some (.int .i64 (q : Int)) ∧ W.cell? ⟨wr.heap.size, 1, none⟩ = some (.bool ps) ∧ W.cell? ⟨wr.heap.size, 2, none⟩ = some (.slice pA pn pc) ∧ W.cell? ⟨wr.heap.size, 3, none⟩ = some (.bool pt) ∧ W.cell? ⟨wr.heap.size, 4, none⟩ = some (.slice pB pm pd)) ∧ W.cell? ⟨b3, off3 + q, none⟩ = some (.slice u.A u.n u.c))) (by kernel_rfl) (by with_reducible exact ⟨HT2.out _ HAF.out.bel, HK.out _ HB.out⟩) (fun hHeld => ?_)
    refine' tK 0 ?_
    try simp only [gY, gZ, aP, sT, sZ, sS]
    refine' tK 1 ?_
    try simp only [gY, gZ, gJ, aP, sT, sZ, sS]
    refine' tK 2 ?_
    try simp only [gY, gZ, gJ, aP, sT, sZ, sS]
    refine' tK 3 ?_
    try simp only [gY, gZ, gJ, aP, sT, sZ, sS]
    refine' tK 4 ?_
    try simp only [gY, gZ, gJ, aP, sT, sZ, sS]
    refine' tK 5 ?_
    try simp only [gY, gZ, gJ, aP, sT, sZ, sS]
    refine' tK 6 ?_
    try simp only [gY, gZ, gJ, aP, sT, sZ, sS]
    refine' tK 7 ?_
    try simp only [gY, gZ, gJ, aP, sT, sZ, sS]
    refine rQ 8 (fun K hK => ?_)
    try simp only [gY, gZ, gJ]
    go_simp
    with_reducible refine (scale_c (HZQ.out.below HB.out) HUV.out rfl (HXF.out ▸ Fn.mul (HS.out.fx.nm _) (HS.out.mr.col HS.out.l1 q)) (by have := HS.out.hp; omega) (by have := HS.out.hm; omega)).mono ?_
    rintro e w3 ⟨A8, n8, c8, rfl, h8, hbx⟩
    replace HB := lh (below_on HB.out hbx)
    replace HCV := lh (HCV.out.below hbx)
    replace HUV := lh (HUV.out.below hbx)
    replace HAF := lh (HAF.out.below hbx)
    replace HVS := lh (HVS.out.below hbx)
    refine hK.out _ _ (by with_reducible exact ⟨HT2.out _ HAF.out.bel, HK.out _ HB.out⟩) (fun hHeld => ?_)
    clear hK K
    try simp only [aP, sT, sZ, sS]
    have HCS := lh h8
    clear h8 hbx
    have hrk := HRK.out
    rw [rk_snoc, if_pos ⟨hr0, hr1⟩] at hrk
    have hkl : (rk n ((vals zs).take i) + 1) * L ≤ (colsOf vs).length * L := Nat.mul_le_mul_right _ (by have := HCL.out; omega)
    rw [Nat.succ_mul] at hkl
    obtain ⟨A2, n2, c2, w4, hr, hp, hgr⟩ := Parts.add (L := L) HCV.out HCS.out (fun a => by rw [← HXF.out]; exact HO.out.2.2.2 _ q a) (HXF.out ▸ Fn.mul (HS.out.fx.nm _) (HS.out.mr.col HS.out.l1 q)) (by have := HS.out.kl; omega) 22
    clear hrk hkl
    have HC4 := lh hp
    have HB4 := lh hp.bel
    clear hp
    have hx4 : w4.heap[wr.heap.size]? = w3.heap[wr.heap.size]? := hgr.block _ (Nat.lt_of_lt_of_le HBS.out HVS.out.bel.size) (fun e => Nat.lt_irrefl _ (HLT.out _ e.symm))
    have HT4 : w4.cell? ⟨wr.heap.size, 0, none⟩ = some (.int .i64 (q : Int)) ∧ w4.cell? ⟨wr.heap.size, 1, none⟩ = some (.bool ps) ∧ w4.cell? ⟨wr.heap.size, 2, none⟩ = some (.slice pA pn pc) ∧ w4.cell? ⟨wr.heap.size, 3, none⟩ = some (.bool pt) ∧ w4.cell? ⟨wr.heap.size, 4, none⟩ = some (.slice pB pm pd) := by
     have h := HT2.out _ HAF.out.bel
     exact ⟨(World.cell?_of_block (a := ⟨wr.heap.size, 0, none⟩) hx4).trans h.1, (World.cell?_of_block (a := ⟨wr.heap.size, 1, none⟩) hx4).trans h.2.1, (World.cell?_of_block (a := ⟨wr.heap.size, 2, none⟩) hx4).trans h.2.2.1, (World.cell?_of_block (a := ⟨wr.heap.size, 3, none⟩) hx4).trans h.2.2.2.1, (World.cell?_of_block (a := ⟨wr.heap.size, 4, none⟩) hx4).trans h.2.2.2.2⟩
    clear hgr hx4
    refine rQ 9 (fun K hK => ?_)
    try simp only [gY, gZ, gJ]
    rw [if_pos (by rfl)]
    unfold Oper.wp
    simp [execOp, resolve, invoke, builtin, Act.eval, hr, Result.andThen]
    refine hK.out _ _ (by with_reducible exact ⟨HT4, HK.out _ HB4.out⟩) (fun hHeld => ?_)
    clear hK K hr HT4
    try simp only [aP, sT, sZ, sS]
    refine' tK 10 ?_
    try simp only [gY, gZ, gJ, aP, sT, sZ, sS]
    refine wpAnyH_done (by kernel_rfl) ?_ _
    have HC5 : Hid (Parts w1 w4 (.slice A2 n2 c2) P N (rk n ((vals zs).take (i + 1)) * L) (tsum (colsOf vs) ((vals zs).take (i + 1)))) := HC4.out.congr (by rw [HSN.out, rk_snoc, if_pos ⟨hr0, hr1⟩, Nat.succ_mul]; exact Nat.le_refl _) (fun a => by rw [HSN.out, tsum_snoc, if_pos (by rw [HCL.out]; exact ⟨hr0, hr1⟩)]; rfl)
    go_wp2_with fail
    go_roundw
    case rel => exact ⟨i + 1, A2, n2, c2, by omega, by go_num, rfl, HC5⟩
    case measure => (simp [intOf]; omega)
   ·have HWI : Hid (decide (0 ≤ pat ∧ pat < (n : Int)) = false) := decide_eq_false hr
    have HC5 : Hid (Parts w1 V (.slice A1 n1 c1) P N (rk n ((vals zs).take (i + 1)) * L) (tsum (colsOf vs) ((vals zs).take (i + 1)))) := HCV.out.congr (by rw [HSN.out, rk_snoc, if_neg hr]; exact Nat.le_refl _) (fun a => by rw [HSN.out, tsum_snoc, if_neg (by rw [HCL.out]; exact hr)]; grind)
    go_wp2_with fail
    clear hV d0 d1 d2 d3 d4
    refine (within_any _ _ _ false HWI.out).mono ?_
    rintro e w2 ⟨rfl, hbx⟩
    have HC6 := lh (HC5.out.below hbx)
    clear hbx e0 e1 e2 e3 e4
    go_wp2_with fail
    go_roundw
    case rel => exact ⟨i + 1, A1, n1, c1, by omega, by go_num, rfl, HC6⟩
    case measure => (simp [intOf]; omega)
  ·have hi1 : ¬ (i : Int) < (gn : Int) := by omega
   have HE : Hid (∀ a, tsum (colsOf vs) ((vals zs).take i) a = mtimes (colsOf vs) X a) := fun a => by
    rw [List.take_of_length_le (by rw [vals_len]; have := HZL.out; omega), tsum_eq]
    congr 1
    exact funext HZI.out.2
   have HV : Hid (VF wr A1 n1 c1 (mtimes (colsOf vs) X)) := by
    have h9 := HC.out.congr (ln2 := (colsOf vs).length * L) (Nat.mul_le_mul_right _ (by rw [HCL.out]; exact rk_le (HZI.out.1.up.sublist (List.take_sublist _ _)))) HE.out
    exact h9.vf HO.out.1 HO.out.2.1 HS.out.hp HO.out.2.2.1 (by have := HS.out.hm; omega) HS.out.kl
   have HB := lh HC.out.bel
   have HFO := lh (HS.out.out (by have := HCL.out; have := HLE.out; omega))
   clear HC
   go_wp2_with fail
   refine (norm_c HV.out HFO.out HS.out.hp (by have := HS.out.hm; omega)).mono ?_
   rintro e w5 ⟨A5, n5, c5, rfl, hc, hb⟩
   have HR : Hid (RetC w (mtimes (colsOf vs) X) (.returned (.slice A5 n5 c5)) w5) := ⟨A5, n5, c5, rfl, hc, below_on (below_on HB1.out HB.out) hb⟩
   clear hc hb
   go_wp2_with fail
   exact ⟨rfl, .slice A5 n5 c5, by simp [results, Tryz.results47, go_sem], HR.out⟩
