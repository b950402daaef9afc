/- Part 22 of the proof: VAwake, ENum. -/
import Derived.Test.YthjiacmhhpfokaaGreatK21
import Derived.Great.BuildSlice
namespace Go.Proofs.YthjiacmhhpfokaaGreat
open Act renaming put → aP
open Nat renaming le_refl → lR
open Go.RowKit.Below renaming refl → bR
open List renaming getElem?_eq_getElem → gE, length_take → lK, length_cons → lC
namespace V
open List renaming getElem_toArray → gY, getElem_cons_zero → gZ, getElem_cons_succ → gJ, setIfInBounds_toArray → sT, set_cons_zero → sZ, set_cons_succ → sS
open Lib renaming hid → lh
open Go.RowKit
open Q (IsQ OneQ RetQ below_on ql Qbx)
def AllOne (w : World) (zs : List (TV × Rat)) : Prop := ∀ y ∈ zs, (OneQ w y.1.s y.1.A y.1.n y.1.c y.1.t y.1.B y.1.m y.1.d y.2 ∧ -9223372036854775808 ≤ y.1.at_ ∧ y.1.at_ ≤ 9223372036854775807) ∧ ql y.2 ≤ 1
theorem all_nil {w : World} : AllOne w [] := fun _ h => by cases h
theorem all_cons {w : World} {zs : List (TV × Rat)} {a : Int} {s : Bool} {A : Option Addr} {n c : Nat} {t : Bool} {B : Option Addr} {m d : Nat} {q : Rat} (h : OneQ w s A n c t B m d q) (ha : -9223372036854775808 ≤ a ∧ a ≤ 9223372036854775807) (hq : decide (q.num.natAbs < 18446744073709551616 ∧ q.den < 18446744073709551616) = true) (hz : AllOne w zs) : AllOne w (((⟨a, s, A, n, c, t, B, m, d⟩ : TV), q) :: zs) := by
 intro y hy
 rcases List.mem_cons.1 hy with rfl | hy
 ·refine ⟨⟨h, ha⟩, ?_⟩
  obtain ⟨h1, h2⟩ := of_decide_eq_true hq
  have e1 : (dig q.num.natAbs).length ≤ 1 := dig_length_le (by rw [B64_eq]; omega)
  have e2 : (dig q.den).length ≤ 1 := dig_length_le (by rw [B64_eq]; omega)
  have e3 : zl q.num ≤ 1 := e1
  show max (zl q.num) (dig q.den).length ≤ 1
  omega
 ·exact hz y hy
structure Lit (w : World) (g : Nat) (zs : List (TV × Rat)) : Prop where
 row : w.heap[g]? = some (.cells (flat (zs.map Prod.fst)).toArray 67 (0, 0))
 one : AllOne w zs
theorem Lit.below {w w' : World} {g : Nat} {zs : List (TV × Rat)} (h : Lit w g zs) (hb : Below w.heap.size w w') : Lit w' g zs :=
 ⟨(hb.block g (lt_of_block h.row)).trans h.row, fun y hy => ⟨⟨(h.one y hy).1.1.below hb, (h.one y hy).1.2⟩, (h.one y hy).2⟩⟩
theorem Lit.ql {w : World} {g : Nat} {zs : List (TV × Rat)} (h : Lit w g zs) : ∀ x ∈ vals zs, Q.ql x.2 ≤ 1 := by
 intro x hx
 obtain ⟨y, hy, rfl⟩ := List.mem_map.1 hx
 exact (h.one y hy).2
theorem Lit.fn {w : World} {g : Nat} {zs : List (TV × Rat)} (h : Lit w g zs) (hl : zs.length ≤ 10) : Fn 11 12 10 (tot (vals zs)) := (short_fn (k := 1) (L := 10) h.ql (by rw [vals_len]; exact hl) (by omega)).1
theorem Lit.vf {w : World} {g : Nat} {zs : List (TV × Rat)} (h : Lit w g zs) (hl : zs.length ≤ 10) : VF w (some ⟨g, 0, none⟩) zs.length zs.length (tot (vals zs)) :=
 ⟨⟨zs, lit_isv h.row (fun y hy => (h.one y hy).1) (fun y hy => Nat.le_trans (h.one y hy).2 (by omega)), (short_fn (k := 1) (L := 10) h.ql (by rw [vals_len]; exact hl) (by omega)).2 (by omega), rfl⟩, by omega, fun a ha => by obtain rfl := Option.some.inj ha; exact lt_of_block h.row⟩
theorem Lit.cf {w : World} {g : Nat} {zs : List (TV × Rat)} (h : Lit w g zs) (hc : Canon (vals zs)) : CF w (some ⟨g, 0, none⟩) zs.length zs.length (tot (vals zs)) :=
 ⟨⟨zs, lit_isv h.row (fun y hy => (h.one y hy).1) (fun y hy => Nat.le_trans (h.one y hy).2 (by omega)), ⟨hc, fun _ => rfl⟩, fun y hy => (h.one y hy).1.1⟩, fun a ha => by obtain rfl := Option.some.inj ha; exact lt_of_block h.row⟩
theorem canon_one {a : Int} {q : Rat} (h : q ≠ 0) : Canon [(a, q)] := ⟨List.pairwise_singleton _ _, fun x hx => by obtain rfl := List.mem_singleton.1 hx; exact h⟩
theorem canon_two {a b : Int} {q r : Rat} (hab : a < b) (h : q ≠ 0) (h2 : r ≠ 0) : Canon [(a, q), (b, r)] := by
 refine ⟨List.pairwise_cons.2 ⟨fun x hx => by obtain rfl := List.mem_singleton.1 hx; exact hab, List.pairwise_singleton _ _⟩, fun x hx => ?_⟩
 rcases List.mem_cons.1 hx with rfl | hx
 ·exact h
 ·obtain rfl := List.mem_singleton.1 hx; exact h2
theorem cf_le {w : World} {A : Option Addr} {n c p l L : Nat} {F : Int → Rat} (hx : CF w A n c F) (hF : Fn p l L F) (hL : L ≤ 1000) : n ≤ 1000000 := by
 obtain ⟨ys, h1, h2, _⟩ := hx.ex
 have h3 := is_len h2 hF
 rw [vals_len] at h3
 rw [h1.en]
 omega
theorem wp_row {o : Oper} {a : Act} {w : World} {K : Act → World → Prop} {Q : Exit → Act → World → Prop} (t : TypeId) (len : Nat) (parts : Array (Nat × Operand)) (ho : o.op = .buildSlice t len parts) (cells : Array Value)
  (hu : Tryz.prog.underlying t = some (.slice 67)) (hl : 0 < len ∧ len ≤ 1000) (hf : Instr.fill (fun i => some (i * 5, 5)) ((Array.range (len * 5)).map (zeroT.cells[· % zeroT.cells.size]!)) (parts.map fun (i, x) => (i, a.eval x)).toList = some cells)
  (h : K (a.put o.dst (.slice (some ⟨w.heap.size, 0, none⟩) len len)) (w.alloc (.cells cells 67))) : o.wp Tryz.prog a w K Q := by
 obtain ⟨i, hi, hz, hs, hb⟩ := info_parts info_t
 exact wp_buildSlice t _ len parts ho cells i zeroT hu hi hz (by rw [hs]; omega) (by rw [hs]; omega) (by rw [hs]; exact hf) h
section
variable {o : Oper} {a : Act} {w : World} {K : Act → World → Prop} {Q : Exit → Act → World → Prop} {c0 c1 c2 c3 c4 d0 d1 d2 d3 d4 : Value}
theorem wp_row1 (t : TypeId) (x : Operand) (ho : o.op = .buildSlice t 1 #[(0, x)]) (hx : a.eval x = .agg #[c0, c1, c2, c3, c4]) (hu : Tryz.prog.underlying t = some (.slice 67))
  (h : K (a.put o.dst (.slice (some ⟨w.heap.size, 0, none⟩) 1 1)) (w.alloc (.cells #[c0, c1, c2, c3, c4] 67))) : o.wp Tryz.prog a w K Q := by
 refine wp_row t 1 _ ho _ hu (by omega) ?_ h
 simp only [List.map_toArray, List.map_cons, List.map_nil, hx]
 kernel_rfl
theorem wp_row2 (t : TypeId) (x y : Operand) (ho : o.op = .buildSlice t 2 #[(0, x), (1, y)]) (hx : a.eval x = .agg #[c0, c1, c2, c3, c4]) (hy : a.eval y = .agg #[d0, d1, d2, d3, d4]) (hu : Tryz.prog.underlying t = some (.slice 67))
  (h : K (a.put o.dst (.slice (some ⟨w.heap.size, 0, none⟩) 2 2)) (w.alloc (.cells #[c0, c1, c2, c3, c4, d0, d1, d2, d3, d4] 67))) : o.wp Tryz.prog a w K Q := by
 refine wp_row t 2 _ ho _ hu (by omega) ?_ h
 simp only [List.map_toArray, List.map_cons, List.map_nil, hx, hy]
 kernel_rfl
end
set_option maxRecDepth 100000 in
set_option maxHeartbeats 8000000 in
theorem awake_v (w : World) : Calls Tryz.prog 15 #[] w (RetB w true) := by
 have HB := lh (bR w.heap.size w)
 go_enter Tryz.func15, Tryz.ntmps15
 go_wp2_with fail
 refine (term_any w (2) (1) (1) (by omega) (by omega) (by omega) (by omega) (1) (by decide +kernel)).mono ?_
 rintro e w1 ⟨s1, A1, n1, c1, t1, B1, m1, d1, rfl, ho, hbx⟩
 replace HB := lh (below_on HB.out hbx)
 have HO1 := lh ho
 clear ho hbx
 go_wp2_with fail
 refine (term_any w1 (0) (1) (2) (by omega) (by omega) (by omega) (by omega) (1/2) (by decide +kernel)).mono ?_
 rintro e w2 ⟨s2, A2, n2, c2, t2, B2, m2, d2, rfl, ho, hbx⟩
 replace HB := lh (below_on HB.out hbx)
 replace HO1 := lh (HO1.out.below hbx)
 have HO2 := lh ho
 clear ho hbx
 go_wp2_with fail
 refine (term_any w2 (2) (-1) (1) (by omega) (by omega) (by omega) (by omega) (-1) (by decide +kernel)).mono ?_
 rintro e w3 ⟨s3, A3, n3, c3, t3, B3, m3, d3, rfl, ho, hbx⟩
 replace HB := lh (below_on HB.out hbx)
 replace HO1 := lh (HO1.out.below hbx)
 replace HO2 := lh (HO2.out.below hbx)
 have HO3 := lh ho
 clear ho hbx
 obtain ⟨w4, hX⟩ : ∃ V, w3.alloc (.cells #[.int .i64 2, .bool s1, .slice A1 n1 c1, .bool t1, .slice B1 m1 d1, .int .i64 0, .bool s2, .slice A2 n2 c2, .bool t2, .slice B2 m2 d2, .int .i64 2, .bool s3, .slice A3 n3 c3, .bool t3, .slice B3 m3 d3] 67) = V := ⟨_, rfl⟩
 have hbx : Below w3.heap.size w3 w4 := by rw [← hX]; exact (bR _ _).alloc (lR _) _
 have hrx : w4.heap[w3.heap.size]? = some (.cells #[.int .i64 2, .bool s1, .slice A1 n1 c1, .bool t1, .slice B1 m1 d1, .int .i64 0, .bool s2, .slice A2 n2 c2, .bool t2, .slice B2 m2 d2, .int .i64 2, .bool s3, .slice A3 n3 c3, .bool t3, .slice B3 m3 d3] 67 (0, 0)) := by rw [← hX]; exact heap_alloc_new w3 _
 replace HB := lh (below_on HB.out hbx)
 replace HO1 := lh (HO1.out.below hbx)
 replace HO2 := lh (HO2.out.below hbx)
 replace HO3 := lh (HO3.out.below hbx)
 have HL4 : Hid (Lit w4 w3.heap.size [((⟨2, s1, A1, n1, c1, t1, B1, m1, d1⟩ : TV), 1), ((⟨0, s2, A2, n2, c2, t2, B2, m2, d2⟩ : TV), 1/2), ((⟨2, s3, A3, n3, c3, t3, B3, m3, d3⟩ : TV), -1)]) := ⟨hrx, (all_cons HO1.out (by omega) (by decide +kernel) (all_cons HO2.out (by omega) (by decide +kernel) (all_cons HO3.out (by omega) (by decide +kernel) all_nil)))⟩
 clear hrx hbx HO1 HO2 HO3
 go_wp2_with fail
 clear hX
 refine (norm_c (HL4.out.vf (by simp)) (HL4.out.fn (by simp)) (by omega) (by omega)).mono ?_
 rintro e w5 ⟨Ga, na, ca, rfl, hc, hbx⟩
 replace HB := lh (below_on HB.out hbx)
 replace HL4 := lh (HL4.out.below hbx)
 have HCa := lh hc
 have HLA : Hid (na ≤ 1000000) := cf_le hc (HL4.out.fn (by simp)) (by omega)
 clear hc hbx
 clear HL4
 go_upto_region 2 with fail
 go_wp2_with fail
 refine (term_any w5 (0) (1) (1) (by omega) (by omega) (by omega) (by omega) (1) (by decide +kernel)).mono ?_
 rintro e w6 ⟨s6, A6, n6, c6, t6, B6, m6, d6, rfl, ho, hbx⟩
 replace HB := lh (below_on HB.out hbx)
 replace HCa := lh (HCa.out.below hbx)
 have HO6 := lh ho
 clear ho hbx
 go_wp2_with fail
 refine (term_any w6 (3) (2) (1) (by omega) (by omega) (by omega) (by omega) (2) (by decide +kernel)).mono ?_
 rintro e w7 ⟨s7, A7, n7, c7, t7, B7, m7, d7, rfl, ho, hbx⟩
 replace HB := lh (below_on HB.out hbx)
 replace HCa := lh (HCa.out.below hbx)
 replace HO6 := lh (HO6.out.below hbx)
 have HO7 := lh ho
 clear ho hbx
 obtain ⟨w8, hX⟩ : ∃ V, w7.alloc (.cells #[.int .i64 0, .bool s6, .slice A6 n6 c6, .bool t6, .slice B6 m6 d6, .int .i64 3, .bool s7, .slice A7 n7 c7, .bool t7, .slice B7 m7 d7] 67) = V := ⟨_, rfl⟩
 have hbx : Below w7.heap.size w7 w8 := by rw [← hX]; exact (bR _ _).alloc (lR _) _
 have hrx : w8.heap[w7.heap.size]? = some (.cells #[.int .i64 0, .bool s6, .slice A6 n6 c6, .bool t6, .slice B6 m6 d6, .int .i64 3, .bool s7, .slice A7 n7 c7, .bool t7, .slice B7 m7 d7] 67 (0, 0)) := by rw [← hX]; exact heap_alloc_new w7 _
 replace HB := lh (below_on HB.out hbx)
 replace HCa := lh (HCa.out.below hbx)
 replace HO6 := lh (HO6.out.below hbx)
 replace HO7 := lh (HO7.out.below hbx)
 have HL8 : Hid (Lit w8 w7.heap.size [((⟨0, s6, A6, n6, c6, t6, B6, m6, d6⟩ : TV), 1), ((⟨3, s7, A7, n7, c7, t7, B7, m7, d7⟩ : TV), 2)]) := ⟨hrx, (all_cons HO6.out (by omega) (by decide +kernel) (all_cons HO7.out (by omega) (by decide +kernel) all_nil))⟩
 clear hrx hbx HO6 HO7
 go_wp2_with fail
 clear hX
 refine (term_any w8 (3) (-2) (1) (by omega) (by omega) (by omega) (by omega) (-2) (by decide +kernel)).mono ?_
 rintro e w9 ⟨s9, A9, n9, c9, t9, B9, m9, d9, rfl, ho, hbx⟩
 replace HB := lh (below_on HB.out hbx)
 replace HCa := lh (HCa.out.below hbx)
 replace HL8 := lh (HL8.out.below hbx)
 have HO9 := lh ho
 clear ho hbx
 go_wp2_with fail
 refine (term_any w9 (4) (1) (1) (by omega) (by omega) (by omega) (by omega) (1) (by decide +kernel)).mono ?_
 rintro e w10 ⟨s10, A10, n10, c10, t10, B10, m10, d10, rfl, ho, hbx⟩
 replace HB := lh (below_on HB.out hbx)
 replace HCa := lh (HCa.out.below hbx)
 replace HL8 := lh (HL8.out.below hbx)
 replace HO9 := lh (HO9.out.below hbx)
 have HO10 := lh ho
 clear ho hbx
 obtain ⟨w11, hX⟩ : ∃ V, w10.alloc (.cells #[.int .i64 3, .bool s9, .slice A9 n9 c9, .bool t9, .slice B9 m9 d9, .int .i64 4, .bool s10, .slice A10 n10 c10, .bool t10, .slice B10 m10 d10] 67) = V := ⟨_, rfl⟩
 have hbx : Below w10.heap.size w10 w11 := by rw [← hX]; exact (bR _ _).alloc (lR _) _
 have hrx : w11.heap[w10.heap.size]? = some (.cells #[.int .i64 3, .bool s9, .slice A9 n9 c9, .bool t9, .slice B9 m9 d9, .int .i64 4, .bool s10, .slice A10 n10 c10, .bool t10, .slice B10 m10 d10] 67 (0, 0)) := by rw [← hX]; exact heap_alloc_new w10 _
 replace HB := lh (below_on HB.out hbx)
 replace HCa := lh (HCa.out.below hbx)
 replace HL8 := lh (HL8.out.below hbx)
 replace HO9 := lh (HO9.out.below hbx)
 replace HO10 := lh (HO10.out.below hbx)
 have HL11 : Hid (Lit w11 w10.heap.size [((⟨3, s9, A9, n9, c9, t9, B9, m9, d9⟩ : TV), -2), ((⟨4, s10, A10, n10, c10, t10, B10, m10, d10⟩ : TV), 1)]) := ⟨hrx, (all_cons HO9.out (by omega) (by decide +kernel) (all_cons HO10.out (by omega) (by decide +kernel) all_nil))⟩
 clear hrx hbx HO9 HO10
 go_wp2_with fail
 clear hX
 refine (add_c (HL8.out.vf (by simp)) (HL11.out.vf (by simp)) rfl ((HL8.out.fn (by simp)).add (HL11.out.fn (by simp))) (by omega) (by omega)).mono ?_
 rintro e w12 ⟨Gb, nb, cb, rfl, hc, hbx⟩
 replace HB := lh (below_on HB.out hbx)
 replace HCa := lh (HCa.out.below hbx)
 replace HL8 := lh (HL8.out.below hbx)
 replace HL11 := lh (HL11.out.below hbx)
 have HCb := lh hc
 have HLB : Hid (nb ≤ 1000000) := cf_le hc ((HL8.out.fn (by simp)).add (HL11.out.fn (by simp))) (by omega)
 clear hc hbx
 clear HL8 HL11
 go_upto_region 3 with fail
 go_wp2_with fail
 refine (term_any w12 (0) (1) (1) (by omega) (by omega) (by omega) (by omega) (1) (by decide +kernel)).mono ?_
 rintro e w13 ⟨s13, A13, n13, c13, t13, B13, m13, d13, rfl, ho, hbx⟩
 replace HB := lh (below_on HB.out hbx)
 replace HCa := lh (HCa.out.below hbx)
 replace HCb := lh (HCb.out.below hbx)
 have HO13 := lh ho
 clear ho hbx
 obtain ⟨w14, hX⟩ : ∃ V, w13.alloc (.cells #[.int .i64 0, .bool s13, .slice A13 n13 c13, .bool t13, .slice B13 m13 d13] 67) = V := ⟨_, rfl⟩
 have hbx : Below w13.heap.size w13 w14 := by rw [← hX]; exact (bR _ _).alloc (lR _) _
 have hrx : w14.heap[w13.heap.size]? = some (.cells #[.int .i64 0, .bool s13, .slice A13 n13 c13, .bool t13, .slice B13 m13 d13] 67 (0, 0)) := by rw [← hX]; exact heap_alloc_new w13 _
 replace HB := lh (below_on HB.out hbx)
 replace HCa := lh (HCa.out.below hbx)
 replace HCb := lh (HCb.out.below hbx)
 replace HO13 := lh (HO13.out.below hbx)
 have HL14 : Hid (Lit w14 w13.heap.size [((⟨0, s13, A13, n13, c13, t13, B13, m13, d13⟩ : TV), 1)]) := ⟨hrx, (all_cons HO13.out (by omega) (by decide +kernel) all_nil)⟩
 clear hrx hbx HO13
 go_wp2_with fail
 clear hX
 refine (Q.of_q w14 (-2) 1 (by omega) (by omega) (by omega) (by omega) (-2) (by decide +kernel)).mono ?_
 rintro e w15 ⟨sq, Aq, nq, cq, tq, Bq, mq, dq, rfl, ho, hbx⟩
 replace HB := lh (below_on HB.out hbx)
 replace HCa := lh (HCa.out.below hbx)
 replace HCb := lh (HCb.out.below hbx)
 replace HL14 := lh (HL14.out.below hbx)
 have HQ := lh ho
 clear ho hbx
 go_wp2_with fail
 refine (term_any w15 (0) (1) (2) (by omega) (by omega) (by omega) (by omega) (1/2) (by decide +kernel)).mono ?_
 rintro e w16 ⟨s16, A16, n16, c16, t16, B16, m16, d16, rfl, ho, hbx⟩
 replace HB := lh (below_on HB.out hbx)
 replace HCa := lh (HCa.out.below hbx)
 replace HCb := lh (HCb.out.below hbx)
 replace HL14 := lh (HL14.out.below hbx)
 replace HQ := lh (HQ.out.below hbx)
 have HO16 := lh ho
 clear ho hbx
 go_wp2_with fail
 refine (term_any w16 (1) (1) (1) (by omega) (by omega) (by omega) (by omega) (1) (by decide +kernel)).mono ?_
 rintro e w17 ⟨s17, A17, n17, c17, t17, B17, m17, d17, rfl, ho, hbx⟩
 replace HB := lh (below_on HB.out hbx)
 replace HCa := lh (HCa.out.below hbx)
 replace HCb := lh (HCb.out.below hbx)
 replace HL14 := lh (HL14.out.below hbx)
 replace HQ := lh (HQ.out.below hbx)
 replace HO16 := lh (HO16.out.below hbx)
 have HO17 := lh ho
 clear ho hbx
 obtain ⟨w18, hX⟩ : ∃ V, w17.alloc (.cells #[.int .i64 0, .bool s16, .slice A16 n16 c16, .bool t16, .slice B16 m16 d16, .int .i64 1, .bool s17, .slice A17 n17 c17, .bool t17, .slice B17 m17 d17] 67) = V := ⟨_, rfl⟩
 have hbx : Below w17.heap.size w17 w18 := by rw [← hX]; exact (bR _ _).alloc (lR _) _
 have hrx : w18.heap[w17.heap.size]? = some (.cells #[.int .i64 0, .bool s16, .slice A16 n16 c16, .bool t16, .slice B16 m16 d16, .int .i64 1, .bool s17, .slice A17 n17 c17, .bool t17, .slice B17 m17 d17] 67 (0, 0)) := by rw [← hX]; exact heap_alloc_new w17 _
 replace HB := lh (below_on HB.out hbx)
 replace HCa := lh (HCa.out.below hbx)
 replace HCb := lh (HCb.out.below hbx)
 replace HL14 := lh (HL14.out.below hbx)
 replace HQ := lh (HQ.out.below hbx)
 replace HO16 := lh (HO16.out.below hbx)
 replace HO17 := lh (HO17.out.below hbx)
 have HL18 : Hid (Lit w18 w17.heap.size [((⟨0, s16, A16, n16, c16, t16, B16, m16, d16⟩ : TV), 1/2), ((⟨1, s17, A17, n17, c17, t17, B17, m17, d17⟩ : TV), 1)]) := ⟨hrx, (all_cons HO16.out (by omega) (by decide +kernel) (all_cons HO17.out (by omega) (by decide +kernel) all_nil))⟩
 clear hrx hbx HO16 HO17
 have HNQ : Hid (Nm 1 1 (-2)) := Nm.of_ql (by show max (zl (-2 : Rat).num) (dig (-2 : Rat).den).length ≤ 1; have e1 : zl (-2 : Rat).num ≤ 1 := zl_small (by decide +kernel) (by decide +kernel); have e2 : (dig (-2 : Rat).den).length ≤ 1 := dig_length_le (by rw [B64_eq]; decide +kernel); omega)
 go_wp2_with fail
 clear hX
 refine (axpy_c (HQ.out.isq (HNQ.out.ql (by omega) (by omega))) (HL14.out.vf (by simp)) (HL18.out.vf (by simp)) rfl ((HL14.out.fn (by simp)).add (Fn.mul HNQ.out (HL18.out.fn (by simp)))) (by omega) (by omega) (Fn.mul HNQ.out (HL18.out.fn (by simp))) (by omega) (by omega)).mono ?_
 rintro e w19 ⟨Gc, nc, cc, rfl, hc, hbx⟩
 replace HB := lh (below_on HB.out hbx)
 replace HCa := lh (HCa.out.below hbx)
 replace HCb := lh (HCb.out.below hbx)
 replace HL14 := lh (HL14.out.below hbx)
 replace HQ := lh (HQ.out.below hbx)
 replace HL18 := lh (HL18.out.below hbx)
 have HCc := lh hc
 have HLC : Hid (nc ≤ 1000000) := cf_le hc ((HL14.out.fn (by simp)).add (Fn.mul HNQ.out (HL18.out.fn (by simp)))) (by omega)
 clear hc hbx
 clear HL14 HL18 HQ
 go_upto_region 4 with fail
 go_wp2_with fail
 refine (term_any w19 (0) (1) (1) (by omega) (by omega) (by omega) (by omega) (1) (by decide +kernel)).mono ?_
 rintro e w20 ⟨s20, A20, n20, c20, t20, B20, m20, d20, rfl, ho, hbx⟩
 replace HB := lh (below_on HB.out hbx)
 replace HCa := lh (HCa.out.below hbx)
 replace HCb := lh (HCb.out.below hbx)
 replace HCc := lh (HCc.out.below hbx)
 have HO20 := lh ho
 clear ho hbx
 go_wp2_with fail
 refine (term_any w20 (2) (3) (1) (by omega) (by omega) (by omega) (by omega) (3) (by decide +kernel)).mono ?_
 rintro e w21 ⟨s21, A21, n21, c21, t21, B21, m21, d21, rfl, ho, hbx⟩
 replace HB := lh (below_on HB.out hbx)
 replace HCa := lh (HCa.out.below hbx)
 replace HCb := lh (HCb.out.below hbx)
 replace HCc := lh (HCc.out.below hbx)
 replace HO20 := lh (HO20.out.below hbx)
 have HO21 := lh ho
 clear ho hbx
 obtain ⟨w22, hX⟩ : ∃ V, w21.alloc (.cells #[.int .i64 0, .bool s20, .slice A20 n20 c20, .bool t20, .slice B20 m20 d20, .int .i64 2, .bool s21, .slice A21 n21 c21, .bool t21, .slice B21 m21 d21] 67) = V := ⟨_, rfl⟩
 have hbx : Below w21.heap.size w21 w22 := by rw [← hX]; exact (bR _ _).alloc (lR _) _
 have hrx : w22.heap[w21.heap.size]? = some (.cells #[.int .i64 0, .bool s20, .slice A20 n20 c20, .bool t20, .slice B20 m20 d20, .int .i64 2, .bool s21, .slice A21 n21 c21, .bool t21, .slice B21 m21 d21] 67 (0, 0)) := by rw [← hX]; exact heap_alloc_new w21 _
 replace HB := lh (below_on HB.out hbx)
 replace HCa := lh (HCa.out.below hbx)
 replace HCb := lh (HCb.out.below hbx)
 replace HCc := lh (HCc.out.below hbx)
 replace HO20 := lh (HO20.out.below hbx)
 replace HO21 := lh (HO21.out.below hbx)
 have HL22 : Hid (Lit w22 w21.heap.size [((⟨0, s20, A20, n20, c20, t20, B20, m20, d20⟩ : TV), 1), ((⟨2, s21, A21, n21, c21, t21, B21, m21, d21⟩ : TV), 3)]) := ⟨hrx, (all_cons HO20.out (by omega) (by decide +kernel) (all_cons HO21.out (by omega) (by decide +kernel) all_nil))⟩
 clear hrx hbx HO20 HO21
 go_wp2_with fail
 clear hX
 refine (term_any w22 (2) (1) (3) (by omega) (by omega) (by omega) (by omega) (1/3) (by decide +kernel)).mono ?_
 rintro e w23 ⟨s23, A23, n23, c23, t23, B23, m23, d23, rfl, ho, hbx⟩
 replace HB := lh (below_on HB.out hbx)
 replace HCa := lh (HCa.out.below hbx)
 replace HCb := lh (HCb.out.below hbx)
 replace HCc := lh (HCc.out.below hbx)
 replace HL22 := lh (HL22.out.below hbx)
 have HO23 := lh ho
 clear ho hbx
 go_wp2_with fail
 refine (term_any w23 (5) (9) (1) (by omega) (by omega) (by omega) (by omega) (9) (by decide +kernel)).mono ?_
 rintro e w24 ⟨s24, A24, n24, c24, t24, B24, m24, d24, rfl, ho, hbx⟩
 replace HB := lh (below_on HB.out hbx)
 replace HCa := lh (HCa.out.below hbx)
 replace HCb := lh (HCb.out.below hbx)
 replace HCc := lh (HCc.out.below hbx)
 replace HL22 := lh (HL22.out.below hbx)
 replace HO23 := lh (HO23.out.below hbx)
 have HO24 := lh ho
 clear ho hbx
 obtain ⟨w25, hX⟩ : ∃ V, w24.alloc (.cells #[.int .i64 2, .bool s23, .slice A23 n23 c23, .bool t23, .slice B23 m23 d23, .int .i64 5, .bool s24, .slice A24 n24 c24, .bool t24, .slice B24 m24 d24] 67) = V := ⟨_, rfl⟩
 have hbx : Below w24.heap.size w24 w25 := by rw [← hX]; exact (bR _ _).alloc (lR _) _
 have hrx : w25.heap[w24.heap.size]? = some (.cells #[.int .i64 2, .bool s23, .slice A23 n23 c23, .bool t23, .slice B23 m23 d23, .int .i64 5, .bool s24, .slice A24 n24 c24, .bool t24, .slice B24 m24 d24] 67 (0, 0)) := by rw [← hX]; exact heap_alloc_new w24 _
 replace HB := lh (below_on HB.out hbx)
 replace HCa := lh (HCa.out.below hbx)
 replace HCb := lh (HCb.out.below hbx)
 replace HCc := lh (HCc.out.below hbx)
 replace HL22 := lh (HL22.out.below hbx)
 replace HO23 := lh (HO23.out.below hbx)
 replace HO24 := lh (HO24.out.below hbx)
 have HL25 : Hid (Lit w25 w24.heap.size [((⟨2, s23, A23, n23, c23, t23, B23, m23, d23⟩ : TV), 1/3), ((⟨5, s24, A24, n24, c24, t24, B24, m24, d24⟩ : TV), 9)]) := ⟨hrx, (all_cons HO23.out (by omega) (by decide +kernel) (all_cons HO24.out (by omega) (by decide +kernel) all_nil))⟩
 clear hrx hbx HO23 HO24
 go_wp2_with fail
 clear hX
 refine (dot_c (HL22.out.vf (by simp)) (HL25.out.vf (by simp)) (HL22.out.fn (by simp)) (HL25.out.fn (by simp)) (by omega) (by omega) (by omega)).mono ?_
 rintro e w26 ⟨qd, hd, hql, sd, Ad, nd, cd, td, Bd, md, dd, rfl, ho, hbx⟩
 replace HB := lh (below_on HB.out hbx)
 replace HCa := lh (HCa.out.below hbx)
 replace HCb := lh (HCb.out.below hbx)
 replace HCc := lh (HCc.out.below hbx)
 replace HL22 := lh (HL22.out.below hbx)
 replace HL25 := lh (HL25.out.below hbx)
 have HQD : Hid (qd = 1) := by
  show _ = _
  rw [hd [0, 2, 5] (by decide) (fun a ha => ?_)]
  ·show tot [(0, 1), (2, 3)] 0 * tot [(2, 1/3), (5, 9)] 0 + (tot [(0, 1), (2, 3)] 2 * tot [(2, 1/3), (5, 9)] 2 + (tot [(0, 1), (2, 3)] 5 * tot [(2, 1/3), (5, 9)] 5 + 0)) = 1
   decide +kernel
  ·have h0 : a ≠ 0 := fun e => ha (by rw [e]; decide)
   have h2 : a ≠ 2 := fun e => ha (by rw [e]; decide)
   show tot [(0, 1), (2, 3)] a * _ = 0
   rw [tot_cons, tot_cons, tot_nil, if_neg (fun e => h0 e.symm), if_neg (fun e => h2 e.symm)]
   grind
 have hql : ql qd ≤ 100000 := by omega
 have HQL := lh hql
 have HO := lh ho
 clear hd ho hql hbx
 clear HL22 HL25
 have EA : Hid (tot [(2, 1), (0, 1/2), (2, -1)] = tot [(0, 1/2)]) := by
  show _ = _
  funext a
  by_cases h0 : a = 0
  ·subst h0; decide +kernel
  by_cases h2 : a = 2
  ·subst h2; decide +kernel
  (try unfold fadd); (try unfold fmul)
  simp only [tot_cons, tot_nil, if_neg (fun e : (0 : Int) = a => h0 e.symm), if_neg (fun e : (2 : Int) = a => h2 e.symm)]
  grind
 have EB : Hid (fadd (tot [(0, 1), (3, 2)]) (tot [(3, -2), (4, 1)]) = tot [(0, 1), (4, 1)]) := by
  show _ = _
  funext a
  by_cases h0 : a = 0
  ·subst h0; decide +kernel
  by_cases h3 : a = 3
  ·subst h3; decide +kernel
  by_cases h4 : a = 4
  ·subst h4; decide +kernel
  (try unfold fadd); (try unfold fmul)
  simp only [tot_cons, tot_nil, if_neg (fun e : (0 : Int) = a => h0 e.symm), if_neg (fun e : (3 : Int) = a => h3 e.symm), if_neg (fun e : (4 : Int) = a => h4 e.symm)]
  grind
 have EC : Hid (fadd (tot [(0, 1)]) (fmul (-2) (tot [(0, 1/2), (1, 1)])) = tot [(1, -2)]) := by
  show _ = _
  funext a
  by_cases h0 : a = 0
  ·subst h0; decide +kernel
  by_cases h1 : a = 1
  ·subst h1; decide +kernel
  (try unfold fadd); (try unfold fmul)
  simp only [tot_cons, tot_nil, if_neg (fun e : (0 : Int) = a => h0 e.symm), if_neg (fun e : (1 : Int) = a => h1 e.symm)]
  grind
 go_upto_region 6 with fail
 obtain ⟨w27, hD⟩ : ∃ V, w26.alloc (.cells #[.bool sd, .slice Ad nd cd, .bool td, .slice Bd md dd] 27) = V := ⟨_, rfl⟩
 have hbx : Below w26.heap.size w26 w27 := by rw [← hD]; exact (bR _ _).alloc (lR _) _
 have hbd : Qbx w27 w26.heap.size sd Ad nd cd td Bd md dd := by rw [← hD]; exact Qbx.new _ _ rfl
 rw [hD]
 clear hD
 replace HB := lh (below_on HB.out hbx)
 replace HCa := lh (HCa.out.below hbx)
 replace HCb := lh (HCb.out.below hbx)
 replace HCc := lh (HCc.out.below hbx)
 replace HO := lh (HO.out.below hbx)
 have HBD := lh hbd
 clear hbx hbd
 as_aux_lemma =>
  replace HB := lh HB.out.drew
  replace HCa := lh (HCa.out.below (bR _ _).drew)
  replace HCb := lh (HCb.out.below (bR _ _).drew)
  replace HCc := lh (HCc.out.below (bR _ _).drew)
  replace HO := lh (HO.out.below (bR _ _).drew)
  replace HBD := lh (HBD.out.below (bR _ _).drew)
  refine wp_region_held_drew (S := (fun V => V.cell? ⟨w26.heap.size, 0, none⟩ = some (.bool sd) ∧ V.cell? ⟨w26.heap.size, 1, none⟩ = some (.slice Ad nd cd) ∧ V.cell? ⟨w26.heap.size, 2, none⟩ = some (.bool td) ∧ V.cell? ⟨w26.heap.size, 3, none⟩ = some (.slice Bd md dd))) (by kernel_rfl) (by with_reducible exact ⟨HBD.out.c0, HBD.out.c1, HBD.out.c2, HBD.out.c3⟩) (fun hHeld => ?_)
  refine' tK 0 ?_
  try simp only [gY, gZ, aP, sT, sZ, sS]
  refine' tK 1 ?_
  try simp only [gY, gZ, gJ, aP, sT, sZ, sS]
  refine rQ 2 (fun K hK => ?_)
  try simp only [gY, gZ, gJ]
  go_simp
  with_reducible refine (term_any _ (0) (1) (2) (by omega) (by omega) (by omega) (by omega) (1/2) (by decide +kernel)).mono ?_
  rintro e w28 ⟨s28, A28, n28, c28, t28, B28, m28, d28, rfl, ho, hbx⟩
  replace HB := lh (below_on HB.out hbx)
  replace HCa := lh (HCa.out.below hbx)
  replace HCb := lh (HCb.out.below hbx)
  replace HCc := lh (HCc.out.below hbx)
  replace HO := lh (HO.out.below hbx)
  replace HBD := lh (HBD.out.below hbx)
  refine hK.out _ _ (by with_reducible exact ⟨HBD.out.c0, HBD.out.c1, HBD.out.c2, HBD.out.c3⟩) (fun hHeld => ?_)
  clear hK K
  try simp only [aP, sT, sZ, sS]
  have HO28 := lh ho
  clear ho hbx
  refine rQ 3 (fun K hK => ?_)
  try simp only [gY, gZ, gJ]
  rw [if_pos (by rfl)]
  refine wp_row1 _ _ rfl (by rfl) (by kernel_rfl) ?_
  try simp only [aP, sT, sZ, sS]
  obtain ⟨w29, hX⟩ : ∃ V, w28.alloc (.cells #[.int .i64 0, .bool s28, .slice A28 n28 c28, .bool t28, .slice B28 m28 d28] 67) = V := ⟨_, rfl⟩
  have hbx : Below w28.heap.size w28 w29 := by rw [← hX]; exact (bR _ _).alloc (lR _) _
  have hrx : w29.heap[w28.heap.size]? = some (.cells #[.int .i64 0, .bool s28, .slice A28 n28 c28, .bool t28, .slice B28 m28 d28] 67 (0, 0)) := by rw [← hX]; exact heap_alloc_new w28 _
  rw [hX]
  clear hX
  replace HB := lh (below_on HB.out hbx)
  replace HCa := lh (HCa.out.below hbx)
  replace HCb := lh (HCb.out.below hbx)
  replace HCc := lh (HCc.out.below hbx)
  replace HO := lh (HO.out.below hbx)
  replace HBD := lh (HBD.out.below hbx)
  replace HO28 := lh (HO28.out.below hbx)
  have HL29 : Hid (Lit w29 w28.heap.size [((⟨0, s28, A28, n28, c28, t28, B28, m28, d28⟩ : TV), 1/2)]) := ⟨hrx, (all_cons HO28.out (by omega) (by decide +kernel) all_nil)⟩
  clear hrx hbx HO28
  refine hK.out _ _ (by with_reducible exact ⟨HBD.out.c0, HBD.out.c1, HBD.out.c2, HBD.out.c3⟩) (fun hHeld => ?_)
  clear hK K
  try simp only [aP, sT, sZ, sS]
  have hca : CF _ Ga na ca (tot [(2, 1), (0, 1/2), (2, -1)]) := HCa.out
  rw [EA.out] at hca
  have HCA := lh hca
  have hcf : CF _ _ 1 1 (tot [(0, 1/2)]) := HL29.out.cf (canon_one (a := 0) (q := 1/2) (by decide +kernel))
  have HCF := lh hcf
  clear hca hcf
  refine rQ 4 (fun K hK => ?_)
  try simp only [gY, gZ, gJ]
  go_simp
  with_reducible refine (samevec_c HCA.out HCF.out HLA.out true ⟨fun _ => rfl, fun _ => rfl⟩).mono ?_
  rintro e w30 ⟨rfl, hbx⟩
  replace HB := lh (below_on HB.out hbx)
  replace HCa := lh (HCa.out.below hbx)
  replace HCb := lh (HCb.out.below hbx)
  replace HCc := lh (HCc.out.below hbx)
  replace HO := lh (HO.out.below hbx)
  replace HBD := lh (HBD.out.below hbx)
  replace HL29 := lh (HL29.out.below hbx)
  refine hK.out _ _ (by with_reducible exact ⟨HBD.out.c0, HBD.out.c1, HBD.out.c2, HBD.out.c3⟩) (fun hHeld => ?_)
  clear hK K
  try simp only [aP, sT, sZ, sS]
  clear hbx HCA HCF
  clear HCa HL29
  refine' tK 5 ?_
  try simp only [gY, gZ, gJ, aP, sT, sZ, sS]
  refine' tK 6 ?_
  try simp only [gY, gZ, gJ, aP, sT, sZ, sS]
  refine' tK 7 ?_
  try simp only [gY, gZ, gJ, aP, sT, sZ, sS]
  refine rQ 8 (fun K hK => ?_)
  try simp only [gY, gZ, gJ]
  go_simp
  with_reducible refine (term_any _ (0) (1) (1) (by omega) (by omega) (by omega) (by omega) (1) (by decide +kernel)).mono ?_
  rintro e w31 ⟨s31, A31, n31, c31, t31, B31, m31, d31, rfl, ho, hbx⟩
  replace HB := lh (below_on HB.out hbx)
  replace HCb := lh (HCb.out.below hbx)
  replace HCc := lh (HCc.out.below hbx)
  replace HO := lh (HO.out.below hbx)
  replace HBD := lh (HBD.out.below hbx)
  refine hK.out _ _ (by with_reducible exact ⟨HBD.out.c0, HBD.out.c1, HBD.out.c2, HBD.out.c3⟩) (fun hHeld => ?_)
  clear hK K
  try simp only [aP, sT, sZ, sS]
  have HO31 := lh ho
  clear ho hbx
  refine rQ 9 (fun K hK => ?_)
  try simp only [gY, gZ, gJ]
  go_simp
  with_reducible refine (term_any _ (4) (1) (1) (by omega) (by omega) (by omega) (by omega) (1) (by decide +kernel)).mono ?_
  rintro e w32 ⟨s32, A32, n32, c32, t32, B32, m32, d32, rfl, ho, hbx⟩
  replace HB := lh (below_on HB.out hbx)
  replace HCb := lh (HCb.out.below hbx)
  replace HCc := lh (HCc.out.below hbx)
  replace HO := lh (HO.out.below hbx)
  replace HBD := lh (HBD.out.below hbx)
  replace HO31 := lh (HO31.out.below hbx)
  refine hK.out _ _ (by with_reducible exact ⟨HBD.out.c0, HBD.out.c1, HBD.out.c2, HBD.out.c3⟩) (fun hHeld => ?_)
  clear hK K
  try simp only [aP, sT, sZ, sS]
  have HO32 := lh ho
  clear ho hbx
  refine rQ 10 (fun K hK => ?_)
  try simp only [gY, gZ, gJ]
  rw [if_pos (by rfl)]
  refine wp_row2 _ _ _ rfl (by rfl) (by rfl) (by kernel_rfl) ?_
  try simp only [aP, sT, sZ, sS]
  obtain ⟨w33, hX⟩ : ∃ V, w32.alloc (.cells #[.int .i64 0, .bool s31, .slice A31 n31 c31, .bool t31, .slice B31 m31 d31, .int .i64 4, .bool s32, .slice A32 n32 c32, .bool t32, .slice B32 m32 d32] 67) = V := ⟨_, rfl⟩
  have hbx : Below w32.heap.size w32 w33 := by rw [← hX]; exact (bR _ _).alloc (lR _) _
  have hrx : w33.heap[w32.heap.size]? = some (.cells #[.int .i64 0, .bool s31, .slice A31 n31 c31, .bool t31, .slice B31 m31 d31, .int .i64 4, .bool s32, .slice A32 n32 c32, .bool t32, .slice B32 m32 d32] 67 (0, 0)) := by rw [← hX]; exact heap_alloc_new w32 _
  rw [hX]
  clear hX
  replace HB := lh (below_on HB.out hbx)
  replace HCb := lh (HCb.out.below hbx)
  replace HCc := lh (HCc.out.below hbx)
  replace HO := lh (HO.out.below hbx)
  replace HBD := lh (HBD.out.below hbx)
  replace HO31 := lh (HO31.out.below hbx)
  replace HO32 := lh (HO32.out.below hbx)
  have HL33 : Hid (Lit w33 w32.heap.size [((⟨0, s31, A31, n31, c31, t31, B31, m31, d31⟩ : TV), 1), ((⟨4, s32, A32, n32, c32, t32, B32, m32, d32⟩ : TV), 1)]) := ⟨hrx, (all_cons HO31.out (by omega) (by decide +kernel) (all_cons HO32.out (by omega) (by decide +kernel) all_nil))⟩
  clear hrx hbx HO31 HO32
  refine hK.out _ _ (by with_reducible exact ⟨HBD.out.c0, HBD.out.c1, HBD.out.c2, HBD.out.c3⟩) (fun hHeld => ?_)
  clear hK K
  try simp only [aP, sT, sZ, sS]
  have hca : CF _ Gb nb cb (fadd (tot [(0, 1), (3, 2)]) (tot [(3, -2), (4, 1)])) := HCb.out
  rw [EB.out] at hca
  have HCA := lh hca
  have hcf : CF _ _ 2 2 (tot [(0, 1), (4, 1)]) := HL33.out.cf (canon_two (a := 0) (b := 4) (q := 1) (r := 1) (by omega) (by decide +kernel) (by decide +kernel))
  have HCF := lh hcf
  clear hca hcf
  refine rQ 11 (fun K hK => ?_)
  try simp only [gY, gZ, gJ]
  go_simp
  with_reducible refine (samevec_c HCA.out HCF.out HLB.out true ⟨fun _ => rfl, fun _ => rfl⟩).mono ?_
  rintro e w34 ⟨rfl, hbx⟩
  replace HB := lh (below_on HB.out hbx)
  replace HCb := lh (HCb.out.below hbx)
  replace HCc := lh (HCc.out.below hbx)
  replace HO := lh (HO.out.below hbx)
  replace HBD := lh (HBD.out.below hbx)
  replace HL33 := lh (HL33.out.below hbx)
  refine hK.out _ _ (by with_reducible exact ⟨HBD.out.c0, HBD.out.c1, HBD.out.c2, HBD.out.c3⟩) (fun hHeld => ?_)
  clear hK K
  try simp only [aP, sT, sZ, sS]
  clear hbx HCA HCF
  clear HCb HL33
  refine' tK 12 ?_
  try simp only [gY, gZ, gJ, aP, sT, sZ, sS]
  refine' tK 13 ?_
  try simp only [gY, gZ, gJ, aP, sT, sZ, sS]
  refine' tK 14 ?_
  try simp only [gY, gZ, gJ, aP, sT, sZ, sS]
  refine' tK 15 ?_
  try simp only [gY, gZ, gJ, aP, sT, sZ, sS]
  refine rQ 16 (fun K hK => ?_)
  try simp only [gY, gZ, gJ]
  go_simp
  with_reducible refine (term_any _ (1) (-2) (1) (by omega) (by omega) (by omega) (by omega) (-2) (by decide +kernel)).mono ?_
  rintro e w35 ⟨s35, A35, n35, c35, t35, B35, m35, d35, rfl, ho, hbx⟩
  replace HB := lh (below_on HB.out hbx)
  replace HCc := lh (HCc.out.below hbx)
  replace HO := lh (HO.out.below hbx)
  replace HBD := lh (HBD.out.below hbx)
  refine hK.out _ _ (by with_reducible exact ⟨HBD.out.c0, HBD.out.c1, HBD.out.c2, HBD.out.c3⟩) (fun hHeld => ?_)
  clear hK K
  try simp only [aP, sT, sZ, sS]
  have HO35 := lh ho
  clear ho hbx
  refine rQ 17 (fun K hK => ?_)
  try simp only [gY, gZ, gJ]
  rw [if_pos (by rfl)]
  refine wp_row1 _ _ rfl (by rfl) (by kernel_rfl) ?_
  try simp only [aP, sT, sZ, sS]
  obtain ⟨w36, hX⟩ : ∃ V, w35.alloc (.cells #[.int .i64 1, .bool s35, .slice A35 n35 c35, .bool t35, .slice B35 m35 d35] 67) = V := ⟨_, rfl⟩
  have hbx : Below w35.heap.size w35 w36 := by rw [← hX]; exact (bR _ _).alloc (lR _) _
  have hrx : w36.heap[w35.heap.size]? = some (.cells #[.int .i64 1, .bool s35, .slice A35 n35 c35, .bool t35, .slice B35 m35 d35] 67 (0, 0)) := by rw [← hX]; exact heap_alloc_new w35 _
  rw [hX]
  clear hX
  replace HB := lh (below_on HB.out hbx)
  replace HCc := lh (HCc.out.below hbx)
  replace HO := lh (HO.out.below hbx)
  replace HBD := lh (HBD.out.below hbx)
  replace HO35 := lh (HO35.out.below hbx)
  have HL36 : Hid (Lit w36 w35.heap.size [((⟨1, s35, A35, n35, c35, t35, B35, m35, d35⟩ : TV), -2)]) := ⟨hrx, (all_cons HO35.out (by omega) (by decide +kernel) all_nil)⟩
  clear hrx hbx HO35
  refine hK.out _ _ (by with_reducible exact ⟨HBD.out.c0, HBD.out.c1, HBD.out.c2, HBD.out.c3⟩) (fun hHeld => ?_)
  clear hK K
  try simp only [aP, sT, sZ, sS]
  have hca : CF _ Gc nc cc (fadd (tot [(0, 1)]) (fmul (-2) (tot [(0, 1/2), (1, 1)]))) := HCc.out
  rw [EC.out] at hca
  have HCA := lh hca
  have hcf : CF _ _ 1 1 (tot [(1, -2)]) := HL36.out.cf (canon_one (a := 1) (q := -2) (by decide +kernel))
  have HCF := lh hcf
  clear hca hcf
  refine rQ 18 (fun K hK => ?_)
  try simp only [gY, gZ, gJ]
  go_simp
  with_reducible refine (samevec_c HCA.out HCF.out HLC.out true ⟨fun _ => rfl, fun _ => rfl⟩).mono ?_
  rintro e w37 ⟨rfl, hbx⟩
  replace HB := lh (below_on HB.out hbx)
  replace HCc := lh (HCc.out.below hbx)
  replace HO := lh (HO.out.below hbx)
  replace HBD := lh (HBD.out.below hbx)
  replace HL36 := lh (HL36.out.below hbx)
  refine hK.out _ _ (by with_reducible exact ⟨HBD.out.c0, HBD.out.c1, HBD.out.c2, HBD.out.c3⟩) (fun hHeld => ?_)
  clear hK K
  try simp only [aP, sT, sZ, sS]
  clear hbx HCA HCF
  clear HCc HL36
  refine' tK 19 ?_
  try simp only [gY, gZ, gJ, aP, sT, sZ, sS]
  refine' tK 20 ?_
  try simp only [gY, gZ, gJ, aP, sT, sZ, sS]
  refine' tK 21 ?_
  try simp only [gY, gZ, gJ, aP, sT, sZ, sS]
  refine rQ 22 (fun K hK => ?_)
  try simp only [gY, gZ, gJ]
  go_simp
  with_reducible refine (Q.of_q _ 1 1 (by omega) (by omega) (by omega) (by omega) 1 (by decide +kernel)).mono ?_
  rintro e w38 ⟨sq, Aq, nq, cq, tq, Bq, mq, dq, rfl, ho, hbx⟩
  replace HB := lh (below_on HB.out hbx)
  replace HO := lh (HO.out.below hbx)
  replace HBD := lh (HBD.out.below hbx)
  refine hK.out _ _ (by with_reducible exact ⟨HBD.out.c0, HBD.out.c1, HBD.out.c2, HBD.out.c3⟩) (fun hHeld => ?_)
  clear hK K
  try simp only [aP, sT, sZ, sS]
  have HQ := lh ho
  clear ho hbx
  refine rQ 23 (fun K hK => ?_)
  try simp only [gY, gZ, gJ]
  go_simp
  with_reducible refine (Q.rat_t HO.out HQ.out HQL.out HQD.out).mono ?_
  rintro e w39 ⟨rfl, hbx⟩
  replace HB := lh (below_on HB.out hbx)
  replace HO := lh (HO.out.below hbx)
  replace HBD := lh (HBD.out.below hbx)
  replace HQ := lh (HQ.out.below hbx)
  refine hK.out _ _ (by with_reducible exact ⟨HBD.out.c0, HBD.out.c1, HBD.out.c2, HBD.out.c3⟩) (fun hHeld => ?_)
  clear hK K
  try simp only [aP, sT, sZ, sS]
  clear hbx
  refine' tK 24 ?_
  try simp only [gY, gZ, gJ, aP, sT, sZ, sS]
  refine' tK 25 ?_
  try simp only [gY, gZ, gJ, aP, sT, sZ]
  refine wpAnyH_done (by kernel_rfl) ?_ _
  go_wp2_with fail
  go_ret
  exact ⟨rfl, HB.out⟩
end V

namespace E
def B64 : Nat := 256
theorem B64_eq : B64 = 256 := rfl
theorem B64_pos : 0 < B64 := by rw [B64_eq]; omega
def val : List Nat → Nat
 | [] => 0
 | x :: r => x + B64 * val r
def Digs (xs : List Nat) : Prop := ∀ x ∈ xs, x < B64
def dig (n : Nat) : List Nat := if n = 0 then [] else n % B64 :: dig (n / B64)
termination_by n
decreasing_by exact Nat.div_lt_self (by omega) (by rw [B64_eq]; omega)
theorem dig_zero : dig 0 = [] := by rw [dig]; simp
theorem dig_pos {n : Nat} (h : n ≠ 0) : dig n = n % B64 :: dig (n / B64) := by rw [dig]; simp [h]
theorem val_nil : val [] = 0 := rfl
theorem val_cons (x : Nat) (r : List Nat) : val (x :: r) = x + B64 * val r := rfl
theorem Digs.nil : Digs [] := fun _ h => by cases h
theorem Digs.cons {x : Nat} {r : List Nat} (hx : x < B64) (hr : Digs r) : Digs (x :: r) := by
 intro y hy
 rcases List.mem_cons.1 hy with rfl | h
 ·exact hx
 ·exact hr y h
theorem Digs.head {x : Nat} {r : List Nat} (h : Digs (x :: r)) : x < B64 := h x (by simp)
theorem Digs.tail {x : Nat} {r : List Nat} (h : Digs (x :: r)) : Digs r := fun y hy => h y (by simp [hy])
theorem Digs.append {xs ys : List Nat} (h : Digs xs) (k : Digs ys) : Digs (xs ++ ys) := by
 intro y hy
 rcases List.mem_append.1 hy with h1 | h1
 ·exact h y h1
 ·exact k y h1
theorem Digs.left {xs ys : List Nat} (h : Digs (xs ++ ys)) : Digs xs := fun y hy => h y (by simp [hy])
theorem Digs.right {xs ys : List Nat} (h : Digs (xs ++ ys)) : Digs ys := fun y hy => h y (by simp [hy])
theorem Digs.take {xs : List Nat} (h : Digs xs) (n : Nat) : Digs (xs.take n) := fun y hy => h y (List.mem_of_mem_take hy)
theorem Digs.drop {xs : List Nat} (h : Digs xs) (n : Nat) : Digs (xs.drop n) := fun y hy => h y (List.mem_of_mem_drop hy)
theorem Digs.get {xs : List Nat} (h : Digs xs) {i : Nat} (hi : i < xs.length) : xs[i] < B64 := h _ (List.getElem_mem hi)
theorem Digs.getD {xs : List Nat} (h : Digs xs) (i : Nat) : xs.getD i 0 < B64 := by
 by_cases hi : i < xs.length
 ·rw [List.getD_eq_getElem?_getD, gE hi]; exact h.get hi
 ·rw [List.getD_eq_getElem?_getD, List.getElem?_eq_none (by omega)]; exact B64_pos
theorem Digs.rep (n : Nat) : Digs (List.replicate n 0) := by
 intro y hy
 rw [List.mem_replicate] at hy
 rw [hy.2]; exact B64_pos
theorem dig_digs (n : Nat) : Digs (dig n) := by
 induction n using Nat.strongRecOn with
 | _ n ih =>
  by_cases h : n = 0
  ·rw [h, dig_zero]; exact Digs.nil
  ·rw [dig_pos h]
   exact Digs.cons (Nat.mod_lt _ B64_pos) (ih _ (Nat.div_lt_self (by omega) (by rw [B64_eq]; omega)))
theorem val_dig (n : Nat) : val (dig n) = n := by
 induction n using Nat.strongRecOn with
 | _ n ih =>
  by_cases h : n = 0
  ·rw [h, dig_zero]; rfl
  ·rw [dig_pos h, val_cons, ih _ (Nat.div_lt_self (by omega) (by rw [B64_eq]; omega))]
   exact Nat.mod_add_div n B64
theorem dig_inj {m n : Nat} (h : dig m = dig n) : m = n := by rw [← val_dig m, h, val_dig]
theorem val_append (xs ys : List Nat) : val (xs ++ ys) = val xs + B64 ^ xs.length * val ys := by
 induction xs with
 | nil => simp [val_nil]
 | cons x r ih =>
  rw [List.cons_append, val_cons, val_cons, ih, lC, Nat.pow_succ, Nat.mul_add]
  have : B64 * (B64 ^ r.length * val ys) = B64 ^ r.length * B64 * val ys := by
   rw [Nat.mul_comm (B64 ^ r.length) B64, Nat.mul_assoc]
  omega
theorem val_rep (n : Nat) : val (List.replicate n 0) = 0 := by
 induction n with
 | zero => rfl
 | succ n ih => rw [List.replicate_succ, val_cons, ih]; simp
theorem val_lt {xs : List Nat} (h : Digs xs) : val xs < B64 ^ xs.length := by
 induction xs with
 | nil => simp [val_nil]
 | cons x r ih =>
  have h1 := ih h.tail
  have h2 := h.head
  rw [val_cons, lC, Nat.pow_succ]
  have h3 : B64 * val r + B64 ≤ B64 ^ r.length * B64 := by
   rw [Nat.mul_comm (B64 ^ r.length) B64, ← Nat.mul_succ]
   exact Nat.mul_le_mul_left _ h1
  omega
theorem dig_val_snoc {xs : List Nat} (h : Digs xs) (x : Nat) (hx : x < B64) (hx0 : x ≠ 0) : dig (val (xs ++ [x])) = xs ++ [x] := by
 induction xs with
 | nil =>
  rw [List.nil_append, val_cons, val_nil, Nat.mul_zero, Nat.add_zero, dig_pos hx0, Nat.mod_eq_of_lt hx, Nat.div_eq_of_lt hx, dig_zero]
 | cons y r ih =>
  have hy := h.head
  rw [List.cons_append, val_cons]
  have hv : val (r ++ [x]) ≠ 0 := by
   intro e
   have := ih h.tail
   rw [e, dig_zero] at this
   cases r <;> simp at this
  have h0 : y + B64 * val (r ++ [x]) ≠ 0 := by
   have := Nat.mul_pos B64_pos (Nat.pos_of_ne_zero hv)
   omega
  rw [dig_pos h0, Nat.add_mul_mod_self_left, Nat.mod_eq_of_lt hy, Nat.add_mul_div_left _ _ B64_pos, Nat.div_eq_of_lt hy, Nat.zero_add, ih h.tail]
theorem dig_of_top {xs : List Nat} (h : Digs xs) (hl : xs.getLast? ≠ some 0) : dig (val xs) = xs := by
 rcases List.eq_nil_or_concat xs with rfl | ⟨r, x, rfl⟩
 ·rw [val_nil, dig_zero]
 ·rw [List.concat_eq_append] at h hl ⊢
  refine dig_val_snoc h.left x (h.right x (by simp)) ?_
  rintro rfl
  exact hl (by simp)
theorem dig_top (n : Nat) : (dig n).getLast? ≠ some 0 := by
 induction n using Nat.strongRecOn with
 | _ n ih =>
  by_cases h : n = 0
  ·rw [h, dig_zero]; simp
  ·rw [dig_pos h]
   have h1 := ih (n / B64) (Nat.div_lt_self (by omega) (by rw [B64_eq]; omega))
   by_cases h2 : n / B64 = 0
   ·rw [h2, dig_zero]
    simp only [List.getLast?_singleton]
    intro e
    injection e with e
    have := Nat.mod_add_div n B64
    rw [e, h2] at this
    omega
   ·rw [dig_pos h2] at h1 ⊢
    rw [List.getLast?_cons_cons]
    exact h1
theorem dig_length_le {n k : Nat} (h : n < B64 ^ k) : (dig n).length ≤ k := by
 induction k generalizing n with
 | zero =>
  have : n = 0 := by simpa using h
  rw [this, dig_zero]; simp
 | succ k ih =>
  by_cases h0 : n = 0
  ·rw [h0, dig_zero]; simp
  ·rw [dig_pos h0, lC]
   have : n / B64 < B64 ^ k := by
    rw [Nat.div_lt_iff_lt_mul B64_pos, ← Nat.pow_succ]; exact h
   have := ih this
   omega
theorem dig_length_val {xs : List Nat} (h : Digs xs) : (dig (val xs)).length ≤ xs.length := dig_length_le (val_lt h)
theorem pow_le_of_dig {n k : Nat} (h : k < (dig n).length) : B64 ^ k ≤ n := by
 rcases Nat.lt_or_ge n (B64 ^ k) with h1 | h1
 ·have := dig_length_le h1
  omega
 ·exact h1
theorem lt_of_dig_length_lt {m n : Nat} (h : (dig m).length < (dig n).length) : m < n := by
 have h1 := pow_le_of_dig h
 have h2 := val_lt (dig_digs m)
 rw [val_dig] at h2
 exact Nat.lt_of_lt_of_le h2 h1
theorem dig_length_mono {m n : Nat} (h : m ≤ n) : (dig m).length ≤ (dig n).length := by
 rcases Nat.lt_or_ge (dig n).length (dig m).length with h1 | h1
 ·have := lt_of_dig_length_lt h1
  omega
 ·exact h1
theorem dig_nil_iff {n : Nat} : (dig n).length = 0 ↔ n = 0 := by
 constructor
 ·intro h
  have : dig n = [] := List.eq_nil_of_length_eq_zero h
  rw [← val_dig n, this]; rfl
 ·rintro rfl; rw [dig_zero]; rfl
theorem val_take_add (xs : List Nat) (k : Nat) : val xs = val (xs.take k) + B64 ^ (min k xs.length) * val (xs.drop k) := by
 conv => lhs; rw [← List.take_append_drop k xs, val_append, lK]
theorem val_take_succ (xs : List Nat) (k : Nat) (h : k < xs.length) : val (xs.take (k + 1)) = val (xs.take k) + B64 ^ k * xs[k] := by
 rw [List.take_succ_eq_append_getElem h, val_append, lK, Nat.min_eq_left (by omega), val_cons, val_nil]
 simp
theorem val_take_succ_getD (xs : List Nat) (k : Nat) : val (xs.take (k + 1)) = val (xs.take k) + B64 ^ k * xs.getD k 0 := by
 by_cases h : k < xs.length
 ·rw [val_take_succ xs k h, List.getD_eq_getElem?_getD, gE h]; rfl
 ·rw [List.take_of_length_le (by omega), List.take_of_length_le (by omega), List.getD_eq_getElem?_getD, List.getElem?_eq_none (by omega)]
  simp
def dg (xs : List Nat) (i : Nat) : Nat := xs.getD i 0
theorem dg_lt {xs : List Nat} (h : Digs xs) (i : Nat) : dg xs i < B64 := h.getD i
theorem dg_of_lt {xs : List Nat} {i : Nat} (h : i < xs.length) : dg xs i = xs[i] := by
 unfold dg; rw [List.getD_eq_getElem?_getD, gE h]; rfl
theorem dg_of_ge {xs : List Nat} {i : Nat} (h : xs.length ≤ i) : dg xs i = 0 := by
 unfold dg; rw [List.getD_eq_getElem?_getD, List.getElem?_eq_none h]; rfl
theorem val_take_dg (xs : List Nat) (k : Nat) : val (xs.take (k + 1)) = val (xs.take k) + B64 ^ k * dg xs k := val_take_succ_getD xs k
theorem dg_take {xs : List Nat} {k i : Nat} (h : i < k) : dg (xs.take k) i = dg xs i := by
 unfold dg; rw [List.getD_eq_getElem?_getD, List.getD_eq_getElem?_getD, List.getElem?_take_of_lt h]
theorem dg_drop (xs : List Nat) (k i : Nat) : dg (xs.drop k) i = dg xs (k + i) := by
 unfold dg; rw [List.getD_eq_getElem?_getD, List.getD_eq_getElem?_getD, List.getElem?_drop]
theorem val_take_pred {xs : List Nat} {k : Nat} (hk : k ≠ 0) (h : dg xs (k - 1) = 0) : val (xs.take (k - 1)) = val (xs.take k) := by
 have := val_take_dg xs (k - 1)
 rw [show k - 1 + 1 = k by omega, h] at this
 omega
theorem dig_take_of {xs : List Nat} (hd : Digs xs) {k : Nat} (hk : k ≤ xs.length) (hv : val (xs.take k) = val xs) (ht : k = 0 ∨ dg xs (k - 1) ≠ 0) : dig (val xs) = xs.take k := by
 rw [← hv]
 refine dig_of_top (hd.take k) ?_
 rcases Nat.eq_zero_or_pos k with h0 | h0
 ·subst h0; simp
 ·rcases ht with ht | ht
  ·omega
  ·rw [List.getLast?_eq_getElem?, lK, Nat.min_eq_left hk]
   intro e
   rw [List.getElem?_take_of_lt (by omega)] at e
   apply ht
   unfold dg
   rw [List.getD_eq_getElem?_getD, e]; rfl
theorem drop_pred {xs : List Nat} {i : Nat} (h : i < xs.length) : xs.drop i = dg xs i :: xs.drop (i + 1) := by
 rw [List.drop_eq_getElem_cons h, dg_of_lt h]
theorem val_lt_of_part {xs ys : List Nat} (hx : Digs xs) (hl : xs.length = ys.length) {i : Nat} (hi : i < xs.length) (hd : xs.drop (i + 1) = ys.drop (i + 1)) (hlt : dg xs i < dg ys i) : val xs < val ys := by
 have h1 := val_take_add xs i
 have h2 := val_take_add ys i
 rw [Nat.min_eq_left (by omega), drop_pred hi, val_cons] at h1
 rw [Nat.min_eq_left (by omega), drop_pred (by omega), val_cons, ← hd] at h2
 have h3 := val_lt (hx.take i)
 rw [lK, Nat.min_eq_left (by omega)] at h3
 generalize val (xs.drop (i + 1)) = v at *
 have h4 : B64 ^ i * (dg xs i + B64 * v) + B64 ^ i ≤ B64 ^ i * (dg ys i + B64 * v) := by
  rw [← Nat.mul_succ]
  exact Nat.mul_le_mul_left _ (by omega)
 omega
theorem val_snoc (ys : List Nat) (x : Nat) : val (ys ++ [x]) = val ys + B64 ^ ys.length * x := by rw [val_append, val_cons, val_nil]; simp
theorem Digs.snoc {ys : List Nat} (h : Digs ys) {x : Nat} (hx : x < B64) : Digs (ys ++ [x]) := h.append (Digs.cons hx Digs.nil)
