/- sparse's law SparseNumbers, walked: under way. -/
import Derived.Test.YtmbnlhedbedcdaaGreatDoorVB
import Derived.Test.YtmbnlhedbedcdaaGreatDoorRAwake
import Derived.Test.YtmbnlhedbedcdaaGreatDoorVC
namespace Go.Proofs.YtmbnlhedbedcdaaGreatDoor.V
open Go.RowKit
open Go.Proofs.YtmbnlhedbedcdaaGreatDoor.Q (IsQ OneQ RetQ below_on ql Qbx qsign qtext)
open Go.Proofs.YtmbnlhedbedcdaaGreatDoor.D (textOf parseV Tab RetS)

theorem ql_small {y z : Int} (h1 : -9223372036854775808 ≤ y) (h2 : y ≤ 9223372036854775807) (h3 : -9223372036854775808 ≤ z) (h4 : z ≤ 9223372036854775807) : ql (Rat.divInt y z) ≤ 1 := by
  rcases Int.lt_trichotomy z 0 with h | h | h
  · rw [← Rat.neg_divInt_neg]
    have h5 := Q.ql_div (n := -y) (d := -z) (by omega)
    have h6 : zl (-y) ≤ 1 := by show (dig (-y).natAbs).length ≤ 1; rw [Int.natAbs_neg]; exact zl_small h1 h2
    have h7 : zl (-z) ≤ 1 := by show (dig (-z).natAbs).length ≤ 1; rw [Int.natAbs_neg]; exact zl_small h3 h4
    omega
  · rw [h, Rat.divInt_zero]; exact ql_zero1
  · have h5 := Q.ql_div (n := y) (d := z) h
    have h6 := zl_small h1 h2
    have h7 := zl_small h3 h4
    omega
theorem one_isv {w : World} {g k : Nat} {a : Int} {s t : Bool} {A B : Option Addr} {n c m d : Nat} {q : Rat} (h : w.heap[g]? = some (.cells #[.int .i64 a, .bool s, .slice A n c, .bool t, .slice B m d] 28 (0, 0))) (h1 : OneQ w s A n c t B m d q) (ha : -9223372036854775808 ≤ a ∧ a ≤ 9223372036854775807) (hk : ql q ≤ k) : IsV w (some ⟨g, 0, none⟩) 1 1 [((⟨a, s, A, n, c, t, B, m, d⟩ : TV), q)] k :=
  lit_isv (zs := [((⟨a, s, A, n, c, t, B, m, d⟩ : TV), q)]) h (fun y hy => by obtain rfl := List.mem_singleton.1 hy; exact ⟨h1, ha⟩) (fun y hy => by obtain rfl := List.mem_singleton.1 hy; exact hk)
theorem two_isv {w : World} {g k : Nat} {a a' : Int} {s t s' t' : Bool} {A B A' B' : Option Addr} {n c m d n' c' m' d' : Nat} {q q' : Rat} (h : w.heap[g]? = some (.cells #[.int .i64 a, .bool s, .slice A n c, .bool t, .slice B m d, .int .i64 a', .bool s', .slice A' n' c', .bool t', .slice B' m' d'] 28 (0, 0))) (h1 : OneQ w s A n c t B m d q) (h2 : OneQ w s' A' n' c' t' B' m' d' q') (ha : -9223372036854775808 ≤ a ∧ a ≤ 9223372036854775807) (ha' : -9223372036854775808 ≤ a' ∧ a' ≤ 9223372036854775807) (hk : ql q ≤ k) (hk' : ql q' ≤ k) : IsV w (some ⟨g, 0, none⟩) 2 2 [((⟨a, s, A, n, c, t, B, m, d⟩ : TV), q), ((⟨a', s', A', n', c', t', B', m', d'⟩ : TV), q')] k :=
  lit_isv (zs := [((⟨a, s, A, n, c, t, B, m, d⟩ : TV), q), ((⟨a', s', A', n', c', t', B', m', d'⟩ : TV), q')]) h (fun y hy => by
    rcases List.mem_cons.1 hy with rfl | hy
    · exact ⟨h1, ha⟩
    · obtain rfl := List.mem_singleton.1 hy; exact ⟨h2, ha'⟩) (fun y hy => by
    rcases List.mem_cons.1 hy with rfl | hy
    · exact hk
    · obtain rfl := List.mem_singleton.1 hy; exact hk')
theorem right_two_no {w : World} {N a a' : Int} {s t s' t' : Bool} {A B A' B' : Option Addr} {n c m d n' c' m' d' : Nat} {q q' : Rat} (h : a' ≤ a) : false = true ↔ RightV w N [((⟨a, s, A, n, c, t, B, m, d⟩ : TV), q), ((⟨a', s', A', n', c', t', B', m', d'⟩ : TV), q')] := ⟨fun h2 => (by cases h2), fun h2 => absurd h2 (rightv_two_no h)⟩
theorem raw_isv {w : World} {g k : Nat} {a : Int} {s t : Bool} {A B : Option Addr} {n c m d : Nat} {q : Rat} (h : w.heap[g]? = some (.cells #[.int .i64 a, .bool s, .slice A n c, .bool t, .slice B m d] 28 (0, 0))) (h1 : IsQ w s A n c t B m d q k) (ha : -9223372036854775808 ≤ a ∧ a ≤ 9223372036854775807) : IsV w (some ⟨g, 0, none⟩) 1 1 [((⟨a, s, A, n, c, t, B, m, d⟩ : TV), q)] k := by
  refine ⟨rfl, Nat.le_refl _, row_cells (lt_of_block h) ?_, fun y hy => by obtain rfl := List.mem_singleton.1 hy; exact ⟨h1, ha⟩⟩
  intro j u hj
  rw [Nat.zero_add, cell_of_row w g j _ _ _ h, ← hj]
  show (#[Value.int .i64 a, .bool s, .slice A n c, .bool t, .slice B m d] : Array Value)[j]? = (flat [(⟨a, s, A, n, c, t, B, m, d⟩ : TV)])[j]?
  rw [flat_one]
  show (#[Value.int .i64 a, .bool s, .slice A n c, .bool t, .slice B m d] : Array Value)[j]? = [Value.int .i64 a, .bool s, .slice A n c, .bool t, .slice B m d][j]?
  simp
theorem ql_dec {q : Rat} (h : decide (q.num.natAbs < 18446744073709551616 ∧ q.den < 18446744073709551616) = true) : ql q ≤ 1 := by
  obtain ⟨h1, h2⟩ := of_decide_eq_true h
  have e1 : (dig q.num.natAbs).length ≤ 1 := dig_length_le (by rw [B64_eq]; omega)
  have e2 : (dig q.den).length ≤ 1 := dig_length_le (by rw [B64_eq]; omega)
  have e3 : zl q.num ≤ 1 := e1
  show max (zl q.num) (dig q.den).length ≤ 1
  omega
theorem three_isv {w : World} {g : Nat} {x y z : TV} {p q r : Rat} (h : w.heap[g]? = some (.cells (flat [x, y, z]).toArray 28 (0, 0))) (hx : TQ w x p 700) (hy : TQ w y q 700) (hz : TQ w z r 700) : IsV w (some ⟨g, 0, none⟩) 3 3 [(x, p), (y, q), (z, r)] 700 := by
  refine ⟨rfl, Nat.le_refl _, row_cells (lt_of_block h) ?_, fun u hu => ?_⟩
  · intro j u hj
    rw [Nat.zero_add, cell_of_row w g j _ _ _ h, ← hj]
    simp
  · simp only [List.mem_cons, List.not_mem_nil, or_false] at hu
    rcases hu with rfl | rfl | rfl
    · exact hx
    · exact hy
    · exact hz
theorem wp_row3 {o : Oper} {a : Act} {w : World} {K : Act → World → Prop} {Q : Exit → Act → World → Prop} {c0 c1 c2 c3 c4 d0 d1 d2 d3 d4 e0 e1 e2 e3 e4 : Value} (t : TypeId) (x y z : Operand) (ho : o.op = .buildSlice t 3 #[(0, x), (1, y), (2, z)]) (hx : a.eval x = .agg #[c0, c1, c2, c3, c4]) (hy : a.eval y = .agg #[d0, d1, d2, d3, d4]) (hz : a.eval z = .agg #[e0, e1, e2, e3, e4]) (hu : Tryz.prog.underlying t = some (.slice 28))
    (h : K (a.put o.dst (.slice (some ⟨w.heap.size, 0, none⟩) 3 3)) (w.alloc (.cells #[c0, c1, c2, c3, c4, d0, d1, d2, d3, d4, e0, e1, e2, e3, e4] 28))) : o.wp Tryz.prog a w K Q := by
  refine wp_row t 3 _ ho _ hu (by omega) ?_ h
  simp only [List.map_toArray, List.map_cons, List.map_nil, hx, hy, hz]
  kernel_rfl
theorem wpList_row2 {ops : Array Oper} {rest : List Oper} {o : Oper} {a : Act} {w : World} {Q : Exit → Act → World → Prop} {c0 c1 c2 c3 c4 d0 d1 d2 d3 d4 : Value} (hw : Region.wanted o (yielded ops a.tmps) = true) (t : TypeId) (x y : Operand) (ho : o.op = .buildSlice t 2 #[(0, x), (1, y)]) (hx : a.eval x = .agg #[c0, c1, c2, c3, c4]) (hy : a.eval y = .agg #[d0, d1, d2, d3, d4]) (hu : Tryz.prog.underlying t = some (.slice 28))
    (h : wpList Tryz.prog ops Q rest (a.put o.dst (.slice (some ⟨w.heap.size, 0, none⟩) 2 2)) (w.alloc (.cells #[c0, c1, c2, c3, c4, d0, d1, d2, d3, d4] 28))) : wpList Tryz.prog ops Q (o :: rest) a w :=
  wpList_step fun K hK => by
    rw [if_pos hw]
    exact wp_row2 t x y ho hx hy hu (hK _ _ h)
section
variable {w : World} {N a : Int} {s t : Bool} {A B : Option Addr} {n c m d : Nat} {q : Rat}
theorem right_yes (h1 : 0 ≤ a) (h2 : a < N) (h3 : q ≠ 0) (ho : OneQ w s A n c t B m d q) : true = true ↔ RightV w N [((⟨a, s, A, n, c, t, B, m, d⟩ : TV), q)] := ⟨fun _ => rightv_one.2 ⟨h1, h2, h3, ho⟩, fun _ => rfl⟩
theorem right_no (h : a < 0 ∨ N ≤ a ∨ q = 0 ∨ ¬ OneQ w s A n c t B m d q) : false = true ↔ RightV w N [((⟨a, s, A, n, c, t, B, m, d⟩ : TV), q)] := ⟨fun h2 => (by cases h2), fun h2 => by
  have h3 := rightv_one.1 h2
  obtain ⟨g1, g2, g3, g4⟩ := h3
  rcases h with h | h | h | h
  · have : 0 ≤ a := g1
    omega
  · have : a < N := g2
    omega
  · exact absurd h g3
  · exact absurd g4 h⟩
end
set_option maxRecDepth 100000 in
set_option maxHeartbeats 8000000 in
theorem numbers_walk (w : World) (htab : Tab w) : Calls Tryz.prog 3 #[] w (RetB w true) := by
  have HT := Lib.hid htab
  clear htab
  obtain ⟨q5, h5⟩ : ∃ q, Rat.divInt 5 1 = q := ⟨_, rfl⟩
  have H5 := Lib.hid h5
  have HL5 : Hid (ql q5 ≤ 1) := by show _ ≤ _; rw [← h5]; exact ql_small (by omega) (by omega) (by omega) (by omega)
  clear h5
  go_enter Tryz.func3, Tryz.ntmps3
  go_wp2_with fail
  refine (term_any w 1 5 1 (by omega) (by omega) (by omega) (by omega) q5 H5.out).mono ?_
  rintro e w1 ⟨s1, A1, n1, c1, t1, B1, m1, d1, rfl, h1, hb1⟩
  obtain ⟨V1, hV1⟩ : ∃ V, w1.alloc (.cells #[.int .i64 1, .bool s1, .slice A1 n1 c1, .bool t1, .slice B1 m1 d1] 28) = V := ⟨_, rfl⟩
  have hv1 : Below w1.heap.size w1 V1 := by rw [← hV1]; exact (Below.refl _ _).alloc (Nat.le_refl _) _
  have hr1 : V1.heap[w1.heap.size]? = some (.cells #[.int .i64 1, .bool s1, .slice A1 n1 c1, .bool t1, .slice B1 m1 d1] 28 (0, 0)) := by rw [← hV1]; exact heap_alloc_new w1 _
  have HV1 : Hid (IsV V1 (some ⟨w1.heap.size, 0, none⟩) 1 1 [((⟨1, s1, A1, n1, c1, t1, B1, m1, d1⟩ : TV), q5)] 700) := one_isv hr1 (h1.below hv1) (by omega) (Nat.le_trans HL5.out (by omega))
  have HB1 := Lib.hid (below_on hb1 hv1)
  have HG1 : Hid (w1.heap.size < V1.heap.size) := lt_of_block hr1
  clear h1 hb1 hv1 hr1
  go_upto_region 2 with fail
  clear hV1
  go_wp2_with fail
  refine (dense_v HV1.out (by omega) (by omega) (Short.one (Nat.le_trans HL5.out (by omega))) 3 3 rfl).mono ?_
  rintro e w2 ⟨r2, rfl, hr2, hd2, hb2⟩
  have HB2 := Lib.hid (below_on HB1.out hb2)
  have HD2 := Lib.hid hd2
  have HV2 := Lib.hid (HV1.out.below hb2)
  clear hr2 hd2 hb2
  obtain ⟨cur, r1, _, r3⟩ := HD2.out
  obtain ⟨sa, Aa, na, ca, ta, Ba, ma, da, a0, a1, a2, a3, ho0⟩ := r3 0 (by omega)
  obtain ⟨sb, Ab, nb, cb, tb, Bb, mb, db, b0, b1, b2, b3, ho1⟩ := r3 1 (by omega)
  have e0 : (tot (vals [((⟨1, s1, A1, n1, c1, t1, B1, m1, d1⟩ : TV), q5)]) ((0 : Nat) : Int)) = 0 := by show (if (1 : Int) = ((0 : Nat) : Int) then q5 else 0) + 0 = 0; rw [if_neg (by omega)]; grind
  have e1 : (tot (vals [((⟨1, s1, A1, n1, c1, t1, B1, m1, d1⟩ : TV), q5)]) ((1 : Nat) : Int)) = q5 := by show (if (1 : Int) = ((1 : Nat) : Int) then q5 else 0) + 0 = q5; rw [if_pos (by omega)]; grind
  have H0 : Hid (OneQ w2 sa Aa na ca ta Ba ma da 0) := by
    show OneQ w2 sa Aa na ca ta Ba ma da 0
    rw [← e0]; exact ho0
  have H1 : Hid (OneQ w2 sb Ab nb cb tb Bb mb db q5) := by
    show OneQ w2 sb Ab nb cb tb Bb mb db q5
    rw [← e1]; exact ho1
  have x0 : w2.cell? ⟨r2, 0, none⟩ = some (.bool sa) := (cell_of_row _ _ _ _ _ _ r1).trans a0
  have x1 : w2.cell? ⟨r2, 1, none⟩ = some (.slice Aa na ca) := (cell_of_row _ _ _ _ _ _ r1).trans a1
  have x2 : w2.cell? ⟨r2, 2, none⟩ = some (.bool ta) := (cell_of_row _ _ _ _ _ _ r1).trans a2
  have x3 : w2.cell? ⟨r2, 3, none⟩ = some (.slice Ba ma da) := (cell_of_row _ _ _ _ _ _ r1).trans a3
  have y0 : w2.cell? ⟨r2, 4, none⟩ = some (.bool sb) := (cell_of_row _ _ _ _ _ _ r1).trans b0
  have y1 : w2.cell? ⟨r2, 5, none⟩ = some (.slice Ab nb cb) := (cell_of_row _ _ _ _ _ _ r1).trans b1
  have y2 : w2.cell? ⟨r2, 6, none⟩ = some (.bool tb) := (cell_of_row _ _ _ _ _ _ r1).trans b2
  have y3 : w2.cell? ⟨r2, 7, none⟩ = some (.slice Bb mb db) := (cell_of_row _ _ _ _ _ _ r1).trans b3
  have HR2 : Hid (r2 < w2.heap.size) := lt_of_block r1
  clear r1 r3 a0 a1 a2 a3 b0 b1 b2 b3 ho0 ho1 e0 e1
  have TX5 : Hid (qtext q5 = [53]) := by
    show _ = _
    exact Q.tx_whole 5 [53] (by rw [← H5.out]; kernel_rfl) (by rw [← H5.out]; kernel_rfl) (by kernel_rfl)
  go_upto_region 3 with fail
  go_wp2_with fail
  refine (Q.text_q (H1.out.isq (k := 700) (Nat.le_trans HL5.out (by omega))) (by omega) (by omega) (HT.out.below HB2.out) [53] TX5.out).mono ?_
  rintro e w3 ⟨rfl, hb3⟩
  have x0 := (hb3.cell (p := ⟨r2, 0, none⟩) HR2.out).trans x0
  have x1 := (hb3.cell (p := ⟨r2, 1, none⟩) HR2.out).trans x1
  have x2 := (hb3.cell (p := ⟨r2, 2, none⟩) HR2.out).trans x2
  have x3 := (hb3.cell (p := ⟨r2, 3, none⟩) HR2.out).trans x3
  have HB3 := Lib.hid (below_on HB2.out hb3)
  have HV3 := Lib.hid (HV2.out.below hb3)
  have H03 := Lib.hid (H0.out.below hb3)
  clear hb3 y0 y1 y2 y3 H0 H1 HV2
  go_wp2_with fail
  refine (Q.sign_q (H03.out.isq (k := 700) (Nat.le_trans ql_zero1 (by omega))) (by omega) 0 rfl).mono ?_
  rintro e w4 ⟨rfl, hb4⟩
  have HB4 := Lib.hid (below_on HB3.out hb4)
  have HV4 := Lib.hid (HV3.out.below hb4)
  clear hb4 x0 x1 x2 x3 H03 HV3
  go_wp2_with fail
  refine (dense_v HV4.out (by omega) (by omega) (Short.one (Nat.le_trans HL5.out (by omega))) 0 0 rfl).mono ?_
  rintro e w5 ⟨_, rfl, _, _, hb5⟩
  have HB5 := Lib.hid (below_on HB4.out hb5)
  have HV5 := Lib.hid (HV4.out.below hb5)
  clear hb5 HV4
  go_wp2_with fail
  refine (dense_v HV5.out (by omega) (by omega) (Short.one (Nat.le_trans HL5.out (by omega))) (-1) 0 rfl).mono ?_
  rintro e w6 ⟨_, rfl, _, _, hb6⟩
  have HB6 := Lib.hid (below_on HB5.out hb6)
  have HV6 := Lib.hid (HV5.out.below hb6)
  clear hb6 HV5
  go_wp2_with fail
  refine (dense_v HV6.out (by omega) (by omega) (Short.one (Nat.le_trans HL5.out (by omega))) 1 1 rfl).mono ?_
  rintro e w7 ⟨_, rfl, _, _, hb7⟩
  have HB7 := Lib.hid (below_on HB6.out hb7)
  have HV7 := Lib.hid (HV6.out.below hb7)
  clear hb7 HV6
  go_wp2_with fail
  refine (dense_v HV7.out (by omega) (by omega) (Short.one (Nat.le_trans HL5.out (by omega))) 1048576 65536 rfl).mono ?_
  rintro e w8 ⟨_, rfl, _, _, hb8⟩
  have HB8 := Lib.hid (below_on HB7.out hb8)
  have HV8 := Lib.hid (HV7.out.below hb8)
  clear hb8 HV7
  go_upto_region 4 with fail
  obtain ⟨W1, hW1⟩ : ∃ V, w8.alloc (.cells #[.int .u64 2] 36) = V := ⟨_, rfl⟩
  have a1 : W1.heap[w8.heap.size]? = some (.cells #[.int .u64 2] 36 (0, 0)) := by rw [← hW1]; exact heap_alloc_new w8 _
  have l1 : Below w8.heap.size w8 W1 := by rw [← hW1]; exact (Below.refl _ _).alloc (Nat.le_refl _) _
  obtain ⟨W2, hW2⟩ : ∃ V, W1.alloc (.cells #[.int .u64 4] 36) = V := ⟨_, rfl⟩
  have a2 : W2.heap[W1.heap.size]? = some (.cells #[.int .u64 4] 36 (0, 0)) := by rw [← hW2]; exact heap_alloc_new W1 _
  have l2 : Below W1.heap.size W1 W2 := by rw [← hW2]; exact (Below.refl _ _).alloc (Nat.le_refl _) _
  obtain ⟨W3, hW3⟩ : ∃ V, W2.alloc (.cells #[.bool false, .slice (some ⟨w8.heap.size, 0, none⟩) 1 1, .bool false, .slice (some ⟨W1.heap.size, 0, none⟩) 1 1] 26) = V := ⟨_, rfl⟩
  have a3 : Qbx W3 W2.heap.size false (some ⟨w8.heap.size, 0, none⟩) 1 1 false (some ⟨W1.heap.size, 0, none⟩) 1 1 := by rw [← hW3]; exact Qbx.new _ _ rfl
  have l3 : Below W2.heap.size W2 W3 := by rw [← hW3]; exact (Below.refl _ _).alloc (Nat.le_refl _) _
  have n1' : Num W3 (some ⟨w8.heap.size, 0, none⟩) [2] := by
    refine ⟨by intro x hx; obtain rfl := List.mem_singleton.1 hx; unfold B64; omega, fun _ => ⟨_, _, rfl, Nat.lt_of_lt_of_le (lt_of_block a1) (Nat.le_trans l2.size l3.size), fun i hi => ?_⟩⟩
    obtain rfl : i = 0 := by simpa using hi
    rw [cell_of_row _ _ _ _ _ _ ((l3.block _ (Nat.lt_of_lt_of_le (lt_of_block a1) l2.size)).trans ((l2.block _ (lt_of_block a1)).trans a1))]
    rfl
  have n2' : Num W3 (some ⟨W1.heap.size, 0, none⟩) [4] := by
    refine ⟨by intro x hx; obtain rfl := List.mem_singleton.1 hx; unfold B64; omega, fun _ => ⟨_, _, rfl, Nat.lt_of_lt_of_le (lt_of_block a2) l3.size, fun i hi => ?_⟩⟩
    obtain rfl : i = 0 := by simpa using hi
    rw [cell_of_row _ _ _ _ _ _ ((l3.block _ (lt_of_block a2)).trans a2)]
    rfl
  obtain ⟨q24, h24⟩ : ∃ q, Rat.divInt 2 4 = q := ⟨_, rfl⟩
  have HQ24 : Hid (IsQ W3 false (some ⟨w8.heap.size, 0, none⟩) 1 1 false (some ⟨W1.heap.size, 0, none⟩) 1 1 q24 700) := ⟨⟨[2], [4], rfl, rfl, n1', n2', by rw [← h24]; rfl⟩, by omega, by omega, by omega, by omega⟩
  have HN24 := Lib.hid n1'
  have HE24 := Lib.hid h24
  have HA3 := Lib.hid a3
  have HB8' := Lib.hid (below_on HB8.out (below_on l1 (below_on l2 l3)))
  have HV9 := Lib.hid (HV8.out.below (below_on l1 (below_on l2 l3)))
  clear a1 a2 a3 l1 l2 l3 n1' n2' h24 HV8
  go_upto_region 5 with fail
  clear hW1 hW2 hW3
  obtain ⟨p1, hp1⟩ : ∃ q, Rat.divInt (1) (1) = q := ⟨_, rfl⟩
  have HP1 := Lib.hid hp1
  have HPL1 : Hid (ql p1 ≤ 1) := by show _ ≤ _; rw [← hp1]; exact ql_small (by omega) (by omega) (by omega) (by omega)
  clear hp1
  go_wp2_with fail
  refine (term_any W3 (0) (1) (1) (by omega) (by omega) (by omega) (by omega) p1 HP1.out).mono ?_
  rintro e X1 ⟨u1, U1, f1, g1, v1, V1', i1, j1, rfl, hone1, hbb1⟩
  have HBX1 := Lib.hid (below_on HB8'.out hbb1)
  have HVx1 := Lib.hid (HV9.out.below hbb1)
  clear HV9
  have HQx1 := Lib.hid (HQ24.out.below hbb1)
  clear HQ24
  have HNx1 := Lib.hid (HN24.out.below hbb1)
  clear HN24
  have HAx1 := Lib.hid (HA3.out.below hbb1)
  clear HA3
  have hbc1 := hbb1
  have HO1 := Lib.hid hone1
  clear hone1 hbb1
  obtain ⟨X2, hX2⟩ : ∃ V, X1.alloc (.cells #[.int .i64 (0), .bool u1, .slice U1 f1 g1, .bool v1, .slice V1' i1 j1] 28) = V := ⟨_, rfl⟩
  have hbb2 : Below X1.heap.size X1 X2 := by rw [← hX2]; exact (Below.refl _ _).alloc (Nat.le_refl _) _
  have hrr2 : X2.heap[X1.heap.size]? = some (.cells #[.int .i64 (0), .bool u1, .slice U1 f1 g1, .bool v1, .slice V1' i1 j1] 28 (0, 0)) := by rw [← hX2]; exact heap_alloc_new X1 _
  have HI2 : Hid (IsV X2 (some ⟨X1.heap.size, 0, none⟩) 1 1 [((⟨(0), u1, U1, f1, g1, v1, V1', i1, j1⟩ : TV), p1)] 700) := one_isv hrr2 (HO1.out.below hbb2) (by omega) (Nat.le_trans HPL1.out (by omega))
  have HOO2 := Lib.hid (HO1.out.below hbb2)
  have HBX2 := Lib.hid (below_on HBX1.out hbb2)
  have HVx2 := Lib.hid (HVx1.out.below hbb2)
  clear HVx1
  have HQx2 := Lib.hid (HQx1.out.below hbb2)
  clear HQx1
  have HNx2 := Lib.hid (HNx1.out.below hbb2)
  clear HNx1
  have HAx2 := Lib.hid (HAx1.out.below hbb2)
  clear HAx1
  clear hrr2 hbb2
  have hX2' := hX2
  clear hX2'
  go_wp2_with fail
  refine (right_any HI2.out (by omega) (by omega) (by omega) 1).mono ?_
  rintro e X3 hh3
  obtain ⟨rfl, hbb3⟩ := retr_is (b := true) hh3 (right_yes (by omega) (by omega) (by rw [← HP1.out]; decide) HOO2.out)
  have HBX3 := Lib.hid (below_on HBX2.out hbb3)
  have HVx3 := Lib.hid (HVx2.out.below hbb3)
  clear HVx2
  have HQx3 := Lib.hid (HQx2.out.below hbb3)
  clear HQx2
  have HNx3 := Lib.hid (HNx2.out.below hbb3)
  clear HNx2
  have HAx3 := Lib.hid (HAx2.out.below hbb3)
  clear HAx2
  clear hh3 hbb3
  go_wp2_with fail
  refine (right_any HVx3.out (by omega) (by omega) (by omega) 1).mono ?_
  rintro e X4 hh4
  obtain ⟨rfl, hbb4⟩ := retr_is (b := false) hh4 (right_no (.inr (.inl (by omega))))
  have HBX4 := Lib.hid (below_on HBX3.out hbb4)
  have HVx4 := Lib.hid (HVx3.out.below hbb4)
  clear HVx3
  have HQx4 := Lib.hid (HQx3.out.below hbb4)
  clear HQx3
  have HNx4 := Lib.hid (HNx3.out.below hbb4)
  clear HNx3
  have HAx4 := Lib.hid (HAx3.out.below hbb4)
  clear HAx3
  clear hh4 hbb4
  obtain ⟨p5, hp5⟩ : ∃ q, Rat.divInt (0) (1) = q := ⟨_, rfl⟩
  have HP5 := Lib.hid hp5
  have HPL5 : Hid (ql p5 ≤ 1) := by show _ ≤ _; rw [← hp5]; exact ql_small (by omega) (by omega) (by omega) (by omega)
  clear hp5
  go_wp2_with fail
  refine (term_any X4 (0) (0) (1) (by omega) (by omega) (by omega) (by omega) p5 HP5.out).mono ?_
  rintro e X5 ⟨u5, U5, f5, g5, v5, V5', i5, j5, rfl, hone5, hbb5⟩
  have HBX5 := Lib.hid (below_on HBX4.out hbb5)
  have HVx5 := Lib.hid (HVx4.out.below hbb5)
  clear HVx4
  have HQx5 := Lib.hid (HQx4.out.below hbb5)
  clear HQx4
  have HNx5 := Lib.hid (HNx4.out.below hbb5)
  clear HNx4
  have HAx5 := Lib.hid (HAx4.out.below hbb5)
  clear HAx4
  have hbc5 := hbb5
  have HO5 := Lib.hid hone5
  clear hone5 hbb5
  obtain ⟨X6, hX6⟩ : ∃ V, X5.alloc (.cells #[.int .i64 (0), .bool u5, .slice U5 f5 g5, .bool v5, .slice V5' i5 j5] 28) = V := ⟨_, rfl⟩
  have hbb6 : Below X5.heap.size X5 X6 := by rw [← hX6]; exact (Below.refl _ _).alloc (Nat.le_refl _) _
  have hrr6 : X6.heap[X5.heap.size]? = some (.cells #[.int .i64 (0), .bool u5, .slice U5 f5 g5, .bool v5, .slice V5' i5 j5] 28 (0, 0)) := by rw [← hX6]; exact heap_alloc_new X5 _
  have HI6 : Hid (IsV X6 (some ⟨X5.heap.size, 0, none⟩) 1 1 [((⟨(0), u5, U5, f5, g5, v5, V5', i5, j5⟩ : TV), p5)] 700) := one_isv hrr6 (HO5.out.below hbb6) (by omega) (Nat.le_trans HPL5.out (by omega))
  have HOO6 := Lib.hid (HO5.out.below hbb6)
  have HBX6 := Lib.hid (below_on HBX5.out hbb6)
  have HVx6 := Lib.hid (HVx5.out.below hbb6)
  clear HVx5
  have HQx6 := Lib.hid (HQx5.out.below hbb6)
  clear HQx5
  have HNx6 := Lib.hid (HNx5.out.below hbb6)
  clear HNx5
  have HAx6 := Lib.hid (HAx5.out.below hbb6)
  clear HAx5
  clear hrr6 hbb6
  have hX6' := hX6
  clear hX6'
  go_wp2_with fail
  refine (right_any HI6.out (by omega) (by omega) (by omega) 1).mono ?_
  rintro e X7 hh7
  obtain ⟨rfl, hbb7⟩ := retr_is (b := false) hh7 (right_no (.inr (.inr (.inl (by rw [← HP5.out]; exact Rat.zero_divInt 1)))))
  have HBX7 := Lib.hid (below_on HBX6.out hbb7)
  have HVx7 := Lib.hid (HVx6.out.below hbb7)
  clear HVx6
  have HQx7 := Lib.hid (HQx6.out.below hbb7)
  clear HQx6
  have HNx7 := Lib.hid (HNx6.out.below hbb7)
  clear HNx6
  have HAx7 := Lib.hid (HAx6.out.below hbb7)
  clear HAx6
  clear hh7 hbb7
  have c0' := HAx7.out.c0
  have c1' := HAx7.out.c1
  have c2' := HAx7.out.c2
  have c3' := HAx7.out.c3
  obtain ⟨X8, hX8⟩ : ∃ V, X7.alloc (.cells #[.int .i64 0, .bool false, .slice (some ⟨w8.heap.size, 0, none⟩) 1 1, .bool false, .slice (some ⟨W1.heap.size, 0, none⟩) 1 1] 28) = V := ⟨_, rfl⟩
  have hbb8 : Below X7.heap.size X7 X8 := by rw [← hX8]; exact (Below.refl _ _).alloc (Nat.le_refl _) _
  have hrr8 : X8.heap[X7.heap.size]? = some (.cells #[.int .i64 0, .bool false, .slice (some ⟨w8.heap.size, 0, none⟩) 1 1, .bool false, .slice (some ⟨W1.heap.size, 0, none⟩) 1 1] 28 (0, 0)) := by rw [← hX8]; exact heap_alloc_new X7 _
  have HI8 : Hid (IsV X8 (some ⟨X7.heap.size, 0, none⟩) 1 1 [((⟨0, false, (some ⟨w8.heap.size, 0, none⟩), 1, 1, false, (some ⟨W1.heap.size, 0, none⟩), 1, 1⟩ : TV), q24)] 700) := raw_isv hrr8 (HQx7.out.below hbb8) (by omega)
  have HNO8 : Hid (¬ OneQ X8 false (some ⟨w8.heap.size, 0, none⟩) 1 1 false (some ⟨W1.heap.size, 0, none⟩) 1 1 q24) := fun o => by
    have h9 := num_same (HNx7.out.below hbb8) o.num o.en
    rw [show q24.num = 1 by rw [← HE24.out]; kernel_rfl] at h9
    exact absurd h9 (by decide +kernel)
  have HBX8 := Lib.hid (below_on HBX7.out hbb8)
  have HVx8 := Lib.hid (HVx7.out.below hbb8)
  clear HVx7
  have HQx8 := Lib.hid (HQx7.out.below hbb8)
  clear HQx7
  have HNx8 := Lib.hid (HNx7.out.below hbb8)
  clear HNx7
  have HAx8 := Lib.hid (HAx7.out.below hbb8)
  clear HAx7
  clear hrr8 hbb8
  go_wp2_with fail
  refine (right_any HI8.out (by omega) (by omega) (by omega) 1).mono ?_
  rintro e X9 hh9
  obtain ⟨rfl, hbb9⟩ := retr_is (b := false) hh9 (right_no (.inr (.inr (.inr HNO8.out))))
  have HBX9 := Lib.hid (below_on HBX8.out hbb9)
  have HVx9 := Lib.hid (HVx8.out.below hbb9)
  clear HVx8
  have HQx9 := Lib.hid (HQx8.out.below hbb9)
  clear HQx8
  have HNx9 := Lib.hid (HNx8.out.below hbb9)
  clear HNx8
  have HAx9 := Lib.hid (HAx8.out.below hbb9)
  clear HAx8
  clear hh9 hbb9
  obtain ⟨p10, hp10⟩ : ∃ q, Rat.divInt (1) (1) = q := ⟨_, rfl⟩
  have HP10 := Lib.hid hp10
  have HPL10 : Hid (ql p10 ≤ 1) := by show _ ≤ _; rw [← hp10]; exact ql_small (by omega) (by omega) (by omega) (by omega)
  clear hp10
  go_wp2_with fail
  refine (term_any X9 (-1) (1) (1) (by omega) (by omega) (by omega) (by omega) p10 HP10.out).mono ?_
  rintro e X10 ⟨u10, U10, f10, g10, v10, V10', i10, j10, rfl, hone10, hbb10⟩
  have HBX10 := Lib.hid (below_on HBX9.out hbb10)
  have HVx10 := Lib.hid (HVx9.out.below hbb10)
  clear HVx9
  have HQx10 := Lib.hid (HQx9.out.below hbb10)
  clear HQx9
  have HNx10 := Lib.hid (HNx9.out.below hbb10)
  clear HNx9
  have HAx10 := Lib.hid (HAx9.out.below hbb10)
  clear HAx9
  have hbc10 := hbb10
  have HO10 := Lib.hid hone10
  clear hone10 hbb10
  obtain ⟨X11, hX11⟩ : ∃ V, X10.alloc (.cells #[.int .i64 (-1), .bool u10, .slice U10 f10 g10, .bool v10, .slice V10' i10 j10] 28) = V := ⟨_, rfl⟩
  have hbb11 : Below X10.heap.size X10 X11 := by rw [← hX11]; exact (Below.refl _ _).alloc (Nat.le_refl _) _
  have hrr11 : X11.heap[X10.heap.size]? = some (.cells #[.int .i64 (-1), .bool u10, .slice U10 f10 g10, .bool v10, .slice V10' i10 j10] 28 (0, 0)) := by rw [← hX11]; exact heap_alloc_new X10 _
  have HI11 : Hid (IsV X11 (some ⟨X10.heap.size, 0, none⟩) 1 1 [((⟨(-1), u10, U10, f10, g10, v10, V10', i10, j10⟩ : TV), p10)] 700) := one_isv hrr11 (HO10.out.below hbb11) (by omega) (Nat.le_trans HPL10.out (by omega))
  have HOO11 := Lib.hid (HO10.out.below hbb11)
  have HBX11 := Lib.hid (below_on HBX10.out hbb11)
  have HVx11 := Lib.hid (HVx10.out.below hbb11)
  clear HVx10
  have HQx11 := Lib.hid (HQx10.out.below hbb11)
  clear HQx10
  have HNx11 := Lib.hid (HNx10.out.below hbb11)
  clear HNx10
  have HAx11 := Lib.hid (HAx10.out.below hbb11)
  clear HAx10
  clear hrr11 hbb11
  have hX11' := hX11
  clear hX11'
  go_wp2_with fail
  refine (right_any HI11.out (by omega) (by omega) (by omega) 1).mono ?_
  rintro e X12 hh12
  obtain ⟨rfl, hbb12⟩ := retr_is (b := false) hh12 (right_no (.inl (by omega)))
  have HBX12 := Lib.hid (below_on HBX11.out hbb12)
  have HVx12 := Lib.hid (HVx11.out.below hbb12)
  clear HVx11
  have HQx12 := Lib.hid (HQx11.out.below hbb12)
  clear HQx11
  have HNx12 := Lib.hid (HNx11.out.below hbb12)
  clear HNx11
  have HAx12 := Lib.hid (HAx11.out.below hbb12)
  clear HAx11
  clear hh12 hbb12
  obtain ⟨p13, hp13⟩ : ∃ q, Rat.divInt (1) (1) = q := ⟨_, rfl⟩
  have HP13 := Lib.hid hp13
  have HPL13 : Hid (ql p13 ≤ 1) := by show _ ≤ _; rw [← hp13]; exact ql_small (by omega) (by omega) (by omega) (by omega)
  clear hp13
  go_wp2_with fail
  refine (term_any X12 (1) (1) (1) (by omega) (by omega) (by omega) (by omega) p13 HP13.out).mono ?_
  rintro e X13 ⟨u13, U13, f13, g13, v13, V13', i13, j13, rfl, hone13, hbb13⟩
  have HBX13 := Lib.hid (below_on HBX12.out hbb13)
  have HVx13 := Lib.hid (HVx12.out.below hbb13)
  clear HVx12
  have HQx13 := Lib.hid (HQx12.out.below hbb13)
  clear HQx12
  have HNx13 := Lib.hid (HNx12.out.below hbb13)
  clear HNx12
  have HAx13 := Lib.hid (HAx12.out.below hbb13)
  clear HAx12
  have hbc13 := hbb13
  have HO13 := Lib.hid hone13
  clear hone13 hbb13
  obtain ⟨p14, hp14⟩ : ∃ q, Rat.divInt (1) (1) = q := ⟨_, rfl⟩
  have HP14 := Lib.hid hp14
  have HPL14 : Hid (ql p14 ≤ 1) := by show _ ≤ _; rw [← hp14]; exact ql_small (by omega) (by omega) (by omega) (by omega)
  clear hp14
  go_wp2_with fail
  refine (term_any X13 (1) (1) (1) (by omega) (by omega) (by omega) (by omega) p14 HP14.out).mono ?_
  rintro e X14 ⟨u14, U14, f14, g14, v14, V14', i14, j14, rfl, hone14, hbb14⟩
  have HBX14 := Lib.hid (below_on HBX13.out hbb14)
  have HVx14 := Lib.hid (HVx13.out.below hbb14)
  clear HVx13
  have HQx14 := Lib.hid (HQx13.out.below hbb14)
  clear HQx13
  have HNx14 := Lib.hid (HNx13.out.below hbb14)
  clear HNx13
  have HAx14 := Lib.hid (HAx13.out.below hbb14)
  clear HAx13
  have hbc14 := hbb14
  have HO14 := Lib.hid hone14
  clear hone14 hbb14
  have HO13b := Lib.hid (HO13.out.below hbc14)
  obtain ⟨X15, hX15⟩ : ∃ V, X14.alloc (.cells #[.int .i64 (1), .bool u13, .slice U13 f13 g13, .bool v13, .slice V13' i13 j13, .int .i64 (1), .bool u14, .slice U14 f14 g14, .bool v14, .slice V14' i14 j14] 28) = V := ⟨_, rfl⟩
  have hbb15 : Below X14.heap.size X14 X15 := by rw [← hX15]; exact (Below.refl _ _).alloc (Nat.le_refl _) _
  have hrr15 : X15.heap[X14.heap.size]? = some (.cells #[.int .i64 (1), .bool u13, .slice U13 f13 g13, .bool v13, .slice V13' i13 j13, .int .i64 (1), .bool u14, .slice U14 f14 g14, .bool v14, .slice V14' i14 j14] 28 (0, 0)) := by rw [← hX15]; exact heap_alloc_new X14 _
  have HI15 : Hid (IsV X15 (some ⟨X14.heap.size, 0, none⟩) 2 2 [((⟨(1), u13, U13, f13, g13, v13, V13', i13, j13⟩ : TV), p13), ((⟨(1), u14, U14, f14, g14, v14, V14', i14, j14⟩ : TV), p14)] 700) := two_isv hrr15 (HO13b.out.below hbb15) (HO14.out.below hbb15) (by omega) (by omega) (Nat.le_trans HPL13.out (by omega)) (Nat.le_trans HPL14.out (by omega))
  have HBX15 := Lib.hid (below_on HBX14.out hbb15)
  have HVx15 := Lib.hid (HVx14.out.below hbb15)
  clear HVx14
  have HQx15 := Lib.hid (HQx14.out.below hbb15)
  clear HQx14
  have HNx15 := Lib.hid (HNx14.out.below hbb15)
  clear HNx14
  have HAx15 := Lib.hid (HAx14.out.below hbb15)
  clear HAx14
  clear hrr15 hbb15 hbc14
  go_wp2_with fail
  refine (right_any HI15.out (by omega) (by omega) (by omega) 5).mono ?_
  rintro e X16 hh16
  obtain ⟨rfl, hbb16⟩ := retr_is (b := false) hh16 (right_two_no (by omega))
  have HBX16 := Lib.hid (below_on HBX15.out hbb16)
  have HVx16 := Lib.hid (HVx15.out.below hbb16)
  clear HVx15
  have HQx16 := Lib.hid (HQx15.out.below hbb16)
  clear HQx15
  have HNx16 := Lib.hid (HNx15.out.below hbb16)
  clear HNx15
  have HAx16 := Lib.hid (HAx15.out.below hbb16)
  clear HAx15
  clear hh16 hbb16
  obtain ⟨p17, hp17⟩ : ∃ q, Rat.divInt (1) (1) = q := ⟨_, rfl⟩
  have HP17 := Lib.hid hp17
  have HPL17 : Hid (ql p17 ≤ 1) := by show _ ≤ _; rw [← hp17]; exact ql_small (by omega) (by omega) (by omega) (by omega)
  clear hp17
  go_wp2_with fail
  refine (term_any X16 (2) (1) (1) (by omega) (by omega) (by omega) (by omega) p17 HP17.out).mono ?_
  rintro e X17 ⟨u17, U17, f17, g17, v17, V17', i17, j17, rfl, hone17, hbb17⟩
  have HBX17 := Lib.hid (below_on HBX16.out hbb17)
  have HVx17 := Lib.hid (HVx16.out.below hbb17)
  clear HVx16
  have HQx17 := Lib.hid (HQx16.out.below hbb17)
  clear HQx16
  have HNx17 := Lib.hid (HNx16.out.below hbb17)
  clear HNx16
  have HAx17 := Lib.hid (HAx16.out.below hbb17)
  clear HAx16
  have hbc17 := hbb17
  have HO17 := Lib.hid hone17
  clear hone17 hbb17
  obtain ⟨p18, hp18⟩ : ∃ q, Rat.divInt (1) (1) = q := ⟨_, rfl⟩
  have HP18 := Lib.hid hp18
  have HPL18 : Hid (ql p18 ≤ 1) := by show _ ≤ _; rw [← hp18]; exact ql_small (by omega) (by omega) (by omega) (by omega)
  clear hp18
  go_wp2_with fail
  refine (term_any X17 (1) (1) (1) (by omega) (by omega) (by omega) (by omega) p18 HP18.out).mono ?_
  rintro e X18 ⟨u18, U18, f18, g18, v18, V18', i18, j18, rfl, hone18, hbb18⟩
  have HBX18 := Lib.hid (below_on HBX17.out hbb18)
  have HVx18 := Lib.hid (HVx17.out.below hbb18)
  clear HVx17
  have HQx18 := Lib.hid (HQx17.out.below hbb18)
  clear HQx17
  have HNx18 := Lib.hid (HNx17.out.below hbb18)
  clear HNx17
  have HAx18 := Lib.hid (HAx17.out.below hbb18)
  clear HAx17
  have hbc18 := hbb18
  have HO18 := Lib.hid hone18
  clear hone18 hbb18
  have HO17b := Lib.hid (HO17.out.below hbc18)
  obtain ⟨X19, hX19⟩ : ∃ V, X18.alloc (.cells #[.int .i64 (2), .bool u17, .slice U17 f17 g17, .bool v17, .slice V17' i17 j17, .int .i64 (1), .bool u18, .slice U18 f18 g18, .bool v18, .slice V18' i18 j18] 28) = V := ⟨_, rfl⟩
  have hbb19 : Below X18.heap.size X18 X19 := by rw [← hX19]; exact (Below.refl _ _).alloc (Nat.le_refl _) _
  have hrr19 : X19.heap[X18.heap.size]? = some (.cells #[.int .i64 (2), .bool u17, .slice U17 f17 g17, .bool v17, .slice V17' i17 j17, .int .i64 (1), .bool u18, .slice U18 f18 g18, .bool v18, .slice V18' i18 j18] 28 (0, 0)) := by rw [← hX19]; exact heap_alloc_new X18 _
  have HI19 : Hid (IsV X19 (some ⟨X18.heap.size, 0, none⟩) 2 2 [((⟨(2), u17, U17, f17, g17, v17, V17', i17, j17⟩ : TV), p17), ((⟨(1), u18, U18, f18, g18, v18, V18', i18, j18⟩ : TV), p18)] 700) := two_isv hrr19 (HO17b.out.below hbb19) (HO18.out.below hbb19) (by omega) (by omega) (Nat.le_trans HPL17.out (by omega)) (Nat.le_trans HPL18.out (by omega))
  have HBX19 := Lib.hid (below_on HBX18.out hbb19)
  have HVx19 := Lib.hid (HVx18.out.below hbb19)
  clear HVx18
  have HQx19 := Lib.hid (HQx18.out.below hbb19)
  clear HQx18
  have HNx19 := Lib.hid (HNx18.out.below hbb19)
  clear HNx18
  have HAx19 := Lib.hid (HAx18.out.below hbb19)
  clear HAx18
  clear hrr19 hbb19 hbc18
  go_wp2_with fail
  refine (right_any HI19.out (by omega) (by omega) (by omega) 5).mono ?_
  rintro e X20 hh20
  obtain ⟨rfl, hbb20⟩ := retr_is (b := false) hh20 (right_two_no (by omega))
  have HBX20 := Lib.hid (below_on HBX19.out hbb20)
  have HVx20 := Lib.hid (HVx19.out.below hbb20)
  clear HVx19
  have HQx20 := Lib.hid (HQx19.out.below hbb20)
  clear HQx19
  have HNx20 := Lib.hid (HNx19.out.below hbb20)
  clear HNx19
  have HAx20 := Lib.hid (HAx19.out.below hbb20)
  clear HAx19
  clear hh20 hbb20
  go_wp2_with fail
  refine (right_any (IsV.nil X20 none 0 700) (by omega) (by omega) (by omega) 0).mono ?_
  rintro e X21 hh21
  obtain ⟨rfl, hbb21⟩ := retr_is (b := true) hh21 ⟨fun _ => rightv_nil _ _, fun _ => rfl⟩
  have HBX21 := Lib.hid (below_on HBX20.out hbb21)
  have HVx21 := Lib.hid (HVx20.out.below hbb21)
  clear HVx20
  have HQx21 := Lib.hid (HQx20.out.below hbb21)
  clear HQx20
  have HNx21 := Lib.hid (HNx20.out.below hbb21)
  clear HNx20
  have HAx21 := Lib.hid (HAx20.out.below hbb21)
  clear HAx20
  clear hh21 hbb21
  go_wp2_with fail
  refine (right_any (IsV.nil X21 none 0 700) (by omega) (by omega) (by omega) (-5)).mono ?_
  rintro e X22 hh22
  obtain ⟨rfl, hbb22⟩ := retr_is (b := true) hh22 ⟨fun _ => rightv_nil _ _, fun _ => rfl⟩
  have HBX22 := Lib.hid (below_on HBX21.out hbb22)
  have HVx22 := Lib.hid (HVx21.out.below hbb22)
  clear HVx21
  have HQx22 := Lib.hid (HQx21.out.below hbb22)
  clear HQx21
  have HNx22 := Lib.hid (HNx21.out.below hbb22)
  clear HNx21
  have HAx22 := Lib.hid (HAx21.out.below hbb22)
  clear HAx21
  clear hh22 hbb22
  have HB := HBX22
  have HV := HVx22
  have HQR := HQx22
  have HAR := HAx22
  clear HVx22 HQx22 HNx22 HAx22
  have hq5 : q5 = 5 := by rw [← H5.out]; kernel_rfl
  have hq24 : q24 = 1/2 := by rw [← HE24.out]; kernel_rfl
  subst hq5 hq24
  obtain ⟨F5, hF5⟩ : ∃ F, tot [(1, 5)] = F := ⟨_, rfl⟩
  have FN5 : Hid (Fn 11 12 10 F5) := fn10 ⟨[(1, 5)], by simp, (fun x hx => by obtain rfl := List.mem_singleton.1 hx; exact HL5.out), hF5⟩
  have HVF : Hid (VF X22 _ 1 1 F5) := ⟨⟨_, HV.out, Short.one (Nat.le_trans HL5.out (by omega)), hF5⟩, by omega, fun a ha => by
    obtain ⟨b, off, e, hlt, _⟩ := HV.out.row (by simp)
    rw [ha] at e
    obtain rfl := Option.some.inj e
    exact hlt⟩
  have HF5 := Lib.hid hF5
  clear HV hF5
  go_upto_region 6 with fail
  as_aux_lemma =>
   replace HB := Lib.hid HB.out.drew
   replace HVF := Lib.hid (HVF.out.below (Below.refl _ _).drew)
   replace HQR := Lib.hid (HQR.out.below (Below.refl _ _).drew)
   replace HAR := Lib.hid (HAR.out.below (Below.refl _ _).drew)
   refine wp_region_held_drew (S := (fun V => V.cell? ⟨W2.heap.size, 0, none⟩ = some (.bool false) ∧ V.cell? ⟨W2.heap.size, 1, none⟩ = some (.slice (some ⟨w8.heap.size, 0, none⟩) 1 1) ∧ V.cell? ⟨W2.heap.size, 2, none⟩ = some (.bool false) ∧ V.cell? ⟨W2.heap.size, 3, none⟩ = some (.slice (some ⟨W1.heap.size, 0, none⟩) 1 1))) (by kernel_rfl) (by with_reducible exact ⟨HAR.out.c0, HAR.out.c1, HAR.out.c2, HAR.out.c3⟩) (fun hHeld => ?_)
   refine' wpAnyH_take (i := 2) (v := _) rfl (by kernel_rfl) (by kernel_rfl) (by kernel_rfl) (fun _ _ _ h => h) (Or.inl ⟨by rfl, ?hy1⟩) (by assumption) ?rest1
   case hy1 => (intro w hSw; (try dsimp only at hSw); try simp only [List.getElem_toArray, List.getElem_cons_zero, List.getElem_cons_succ]; go_simp; (try with_reducible rfl))
   try simp only [List.getElem_toArray, List.getElem_cons_zero, List.getElem_cons_succ]
   try simp only [Act.put, List.setIfInBounds_toArray, List.set_cons_zero, List.set_cons_succ]
   refine' wpAnyH_take (i := 3) (v := _) rfl (by kernel_rfl) (by kernel_rfl) (by kernel_rfl) (fun _ _ _ h => h) (Or.inl ⟨by rfl, ?hy2⟩) (by assumption) ?rest2
   case hy2 => (intro w hSw; (try dsimp only at hSw); try simp only [List.getElem_toArray, List.getElem_cons_zero, List.getElem_cons_succ]; go_simp; (try with_reducible rfl))
   try simp only [List.getElem_toArray, List.getElem_cons_zero, List.getElem_cons_succ]
   try simp only [Act.put, List.setIfInBounds_toArray, List.set_cons_zero, List.set_cons_succ]
   refine wpAnyH_ready (rs := [0]) (by kernel_rfl) (by simp) ?_
   refine AllReadyH.cons rfl (fun K hK => ?_) AllReadyH.nil
   try simp only [List.getElem_toArray, List.getElem_cons_zero]
   go_simp
   with_reducible refine (term_any _ (4611686018427387904) (1) (1) (by omega) (by omega) (by omega) (by omega) (1) (by decide +kernel)).mono ?_
   rintro e w901 ⟨s901, A901, n901, c901, t901, B901, m901, d901, rfl, ho, hbx⟩
   replace HB := Lib.hid (below_on HB.out hbx)
   replace HVF := Lib.hid (HVF.out.below hbx)
   replace HQR := Lib.hid (HQR.out.below hbx)
   replace HAR := Lib.hid (HAR.out.below hbx)
   refine hK.out _ _ (by with_reducible exact ⟨HAR.out.c0, HAR.out.c1, HAR.out.c2, HAR.out.c3⟩) (fun hHeld => ?_)
   clear hK K
   try simp only [Act.put, List.setIfInBounds_toArray, List.set_cons_zero, List.set_cons_succ]
   have HO901 := Lib.hid ho
   clear ho hbx
   refine wpAnyH_ready (rs := [1]) (by kernel_rfl) (by simp) ?_
   refine AllReadyH.cons rfl (fun K hK => ?_) AllReadyH.nil
   try simp only [List.getElem_toArray, List.getElem_cons_zero, List.getElem_cons_succ]
   go_simp
   with_reducible refine (term_any _ (-9223372036854775808) (2) (1) (by omega) (by omega) (by omega) (by omega) (2) (by decide +kernel)).mono ?_
   rintro e w902 ⟨s902, A902, n902, c902, t902, B902, m902, d902, rfl, ho, hbx⟩
   replace HB := Lib.hid (below_on HB.out hbx)
   replace HVF := Lib.hid (HVF.out.below hbx)
   replace HQR := Lib.hid (HQR.out.below hbx)
   replace HAR := Lib.hid (HAR.out.below hbx)
   replace HO901 := Lib.hid (HO901.out.below hbx)
   refine hK.out _ _ (by with_reducible exact ⟨HAR.out.c0, HAR.out.c1, HAR.out.c2, HAR.out.c3⟩) (fun hHeld => ?_)
   clear hK K
   try simp only [Act.put, List.setIfInBounds_toArray, List.set_cons_zero, List.set_cons_succ]
   have HO902 := Lib.hid ho
   clear ho hbx
   refine wpAnyH_ready (rs := [4]) (by kernel_rfl) (by simp) ?_
   refine AllReadyH.cons rfl (fun K hK => ?_) AllReadyH.nil
   try simp only [List.getElem_toArray, List.getElem_cons_zero, List.getElem_cons_succ]
   rw [if_pos (by rfl)]
   refine wp_row3 _ _ _ _ rfl (by rfl) (by rfl) (by rfl) (by kernel_rfl) ?_
   try simp only [Act.put, List.setIfInBounds_toArray, List.set_cons_zero, List.set_cons_succ]
   obtain ⟨w903, hX⟩ : ∃ V, w902.alloc (.cells #[.int .i64 4611686018427387904, .bool s901, .slice A901 n901 c901, .bool t901, .slice B901 m901 d901, .int .i64 (-9223372036854775808), .bool s902, .slice A902 n902 c902, .bool t902, .slice B902 m902 d902, .int .i64 0, .bool false, .slice (some ⟨w8.heap.size, 0, none⟩) 1 1, .bool false, .slice (some ⟨W1.heap.size, 0, none⟩) 1 1] 28) = V := ⟨_, rfl⟩
   have hbx : Below w902.heap.size w902 w903 := by rw [← hX]; exact (Below.refl _ _).alloc (Nat.le_refl _) _
   have hrx : w903.heap[w902.heap.size]? = some (.cells #[.int .i64 4611686018427387904, .bool s901, .slice A901 n901 c901, .bool t901, .slice B901 m901 d901, .int .i64 (-9223372036854775808), .bool s902, .slice A902 n902 c902, .bool t902, .slice B902 m902 d902, .int .i64 0, .bool false, .slice (some ⟨w8.heap.size, 0, none⟩) 1 1, .bool false, .slice (some ⟨W1.heap.size, 0, none⟩) 1 1] 28 (0, 0)) := by rw [← hX]; exact heap_alloc_new w902 _
   rw [hX]
   clear hX
   replace HB := Lib.hid (below_on HB.out hbx)
   replace HVF := Lib.hid (HVF.out.below hbx)
   replace HQR := Lib.hid (HQR.out.below hbx)
   replace HAR := Lib.hid (HAR.out.below hbx)
   replace HO901 := Lib.hid (HO901.out.below hbx)
   replace HO902 := Lib.hid (HO902.out.below hbx)
   have hq1 : ql (1 : Rat) ≤ 1 := ql_dec (by decide +kernel)
   have hq2 : ql (2 : Rat) ≤ 1 := ql_dec (by decide +kernel)
   have hq3 : ql (1/2 : Rat) ≤ 1 := ql_dec (by decide +kernel)
   have hsl : ∀ x ∈ ([(4611686018427387904, 1), (-9223372036854775808, 2), (0, 1/2)] : List (Int × Rat)), ql x.2 ≤ 1 := by
     intro x hx
     simp only [List.mem_cons, List.not_mem_nil, or_false] at hx
     rcases hx with rfl | rfl | rfl
     · exact hq1
     · exact hq2
     · exact hq3
   have HI : Hid (IsV w903 (some ⟨w902.heap.size, 0, none⟩) 3 3 [((⟨4611686018427387904, s901, A901, n901, c901, t901, B901, m901, d901⟩ : TV), 1), ((⟨-9223372036854775808, s902, A902, n902, c902, t902, B902, m902, d902⟩ : TV), 2), ((⟨0, false, (some ⟨w8.heap.size, 0, none⟩), 1, 1, false, (some ⟨W1.heap.size, 0, none⟩), 1, 1⟩ : TV), 1/2)] 700) := three_isv hrx ⟨HO901.out.isq (Nat.le_trans hq1 (by omega)), show (-9223372036854775808 : Int) ≤ 4611686018427387904 by omega, show (4611686018427387904 : Int) ≤ 9223372036854775807 by omega⟩ ⟨HO902.out.isq (Nat.le_trans hq2 (by omega)), show (-9223372036854775808 : Int) ≤ -9223372036854775808 by omega, show (-9223372036854775808 : Int) ≤ 9223372036854775807 by omega⟩ ⟨HQR.out, show (-9223372036854775808 : Int) ≤ 0 by omega, show (0 : Int) ≤ 9223372036854775807 by omega⟩
   have HSS : Hid (Short (vals [((⟨4611686018427387904, s901, A901, n901, c901, t901, B901, m901, d901⟩ : TV), 1), ((⟨-9223372036854775808, s902, A902, n902, c902, t902, B902, m902, d902⟩ : TV), 2), ((⟨0, false, (some ⟨w8.heap.size, 0, none⟩), 1, 1, false, (some ⟨W1.heap.size, 0, none⟩), 1, 1⟩ : TV), 1/2)])) := (short_fn (k := 1) (L := 10) hsl (by simp) (by omega)).2 (by omega)
   obtain ⟨F3, hF3⟩ : ∃ F, tot [(4611686018427387904, 1), (-9223372036854775808, 2), (0, 1/2)] = F := ⟨_, rfl⟩
   have FN3 : Hid (Fn 11 12 10 F3) := by rw [← hF3]; exact (short_fn (k := 1) (L := 10) hsl (by simp) (by omega)).1
   have HF3 := Lib.hid hF3
   have HG : Hid (w902.heap.size < w903.heap.size) := lt_of_block hrx
   clear hq1 hq2 hq3 hsl hF3 hrx hbx HO901 HO902
   refine hK.out _ _ (by with_reducible exact ⟨HAR.out.c0, HAR.out.c1, HAR.out.c2, HAR.out.c3⟩) (fun hHeld => ?_)
   clear hK K
   try simp only [Act.put, List.setIfInBounds_toArray, List.set_cons_zero, List.set_cons_succ]
   refine wpAnyH_ready (rs := [5]) (by kernel_rfl) (by simp) ?_
   refine AllReadyH.cons rfl (fun K hK => ?_) AllReadyH.nil
   try simp only [List.getElem_toArray, List.getElem_cons_zero, List.getElem_cons_succ]
   go_simp
   with_reducible refine (norm_v HI.out (by omega) (by omega) HSS.out (fun a ha => by obtain rfl := Option.some.inj ha; exact HG.out)).mono ?_
   rintro e w950 ⟨g6, n6, c6, zs6, rfl, ho6, hg6, hp6, h46, hbx⟩
   replace HB := Lib.hid (below_on HB.out hbx)
   replace HVF := Lib.hid (HVF.out.below hbx)
   replace HQR := Lib.hid (HQR.out.below hbx)
   replace HAR := Lib.hid (HAR.out.below hbx)
   refine hK.out _ _ (by with_reducible exact ⟨HAR.out.c0, HAR.out.c1, HAR.out.c2, HAR.out.c3⟩) (fun hHeld => ?_)
   clear hK K
   try simp only [Act.put, List.setIfInBounds_toArray, List.set_cons_zero, List.set_cons_succ]
   have hp6 : Is F3 (vals zs6) := by rw [← HF3.out]; exact hp6
   have hk6 : ∀ y ∈ zs6, ql y.2 ≤ 700 := fun y hy => is_ql hp6 FN3.out (by omega) (by omega) (y.1.at_, y.2) (List.mem_map.2 ⟨y, hy, rfl⟩)
   have hv6 : vals zs6 = [(-9223372036854775808, 2), (0, 1/2), (4611686018427387904, 1)] := by
     refine hp6.1.ext ⟨by simp, by intro x hx; simp only [List.mem_cons, List.not_mem_nil, or_false] at hx; rcases hx with rfl | rfl | rfl <;> decide +kernel⟩ (fun a => ?_)
     rw [hp6.2, ← HF3.out]
     exact tot_perm (by decide +kernel) a
   have hi6 := own_isv ho6 h46 hk6
   have HC6 : Hid (IsV w950 (some ⟨g6, 0, none⟩) n6 c6 zs6 700) := hi6
   have HN6 : Hid (n6 = 3) := by show _ = _; rw [hi6.en, ← vals_len, hv6]; rfl
   have HVF6 : Hid (VF w950 (some ⟨g6, 0, none⟩) n6 c6 F3) := ⟨⟨zs6, hi6, is_short hp6 FN3.out (by omega) (by omega) (by omega), funext hp6.2⟩, by rw [HN6.out]; omega, fun a ha => by
     obtain rfl := Option.some.inj ha
     obtain ⟨b, off, e, hlt, _⟩ := hi6.row (by intro e; have := hi6.en; rw [List.map_eq_nil_iff] at e; rw [e] at hv6; cases hv6)
     obtain ⟨rfl, rfl⟩ : g6 = b ∧ 0 = off := by simpa using e
     exact hlt⟩
   obtain ⟨y0, y1, y2, hz6⟩ : ∃ y0 y1 y2, zs6 = [y0, y1, y2] := by
     have h9 : zs6.length = 3 := by rw [← vals_len, hv6]; rfl
     match zs6, h9 with
     | [y0, y1, y2], _ => exact ⟨_, _, _, rfl⟩
   subst hz6
   obtain ⟨e60, e61, e62⟩ : (y0.1.at_, y0.2) = (-9223372036854775808, 2) ∧ (y1.1.at_, y1.2) = (0, 1/2) ∧ (y2.1.at_, y2.2) = (4611686018427387904, 1) := by simpa [vals] using hv6
   have HO6 : Hid (OneQ w950 y1.1.s y1.1.A y1.1.n y1.1.c y1.1.t y1.1.B y1.1.m y1.1.d (1/2)) := by
     have h9 := (h46 y1 (by simp)).1
     rw [(Prod.mk.inj e61).2] at h9
     exact h9
   have hk0 : ∀ V, Below w950.heap.size w950 V → V.cell? ⟨g6, 0, none⟩ = some (.int .i64 (-9223372036854775808)) := by
     obtain ⟨b, off, e, hk⟩ := row_at2 hi6.row (j := 0) (x := y0.1) rfl
     obtain ⟨rfl, rfl⟩ : g6 = b ∧ 0 = off := by simpa using e
     intro V hV
     have h9 := (hk V hV).1
     rw [(Prod.mk.inj e60).1] at h9
     exact h9
   have hk1 : ∀ V, Below w950.heap.size w950 V → V.cell? ⟨g6, 6, none⟩ = some (.bool y1.1.s) ∧ V.cell? ⟨g6, 7, none⟩ = some (.slice y1.1.A y1.1.n y1.1.c) ∧ V.cell? ⟨g6, 8, none⟩ = some (.bool y1.1.t) ∧ V.cell? ⟨g6, 9, none⟩ = some (.slice y1.1.B y1.1.m y1.1.d) := by
     obtain ⟨b, off, e, hk⟩ := row_at2 hi6.row (j := 1) (x := y1.1) rfl
     obtain ⟨rfl, rfl⟩ : g6 = b ∧ 0 = off := by simpa using e
     intro V hV
     exact ⟨(hk V hV).2.1, (hk V hV).2.2.1, (hk V hV).2.2.2.1, (hk V hV).2.2.2.2⟩
   have HK0 := Lib.hid hk0
   have HK1 := Lib.hid hk1
   have hn6 := HN6.out
   subst hn6
   clear ho6 hg6 hp6 h46 hbx hk6 hv6 hi6 e60 e61 e62 hk0 hk1 HI HSS HC6
   refine' wpAnyH_take (i := 6) (v := _) rfl (by kernel_rfl) (by kernel_rfl) (by kernel_rfl) (fun _ _ _ h => h) (Or.inl ⟨by rfl, ?hy3⟩) (by assumption) ?rest3
   case hy3 => (intro w hSw; (try dsimp only at hSw); try simp only [List.getElem_toArray, List.getElem_cons_zero, List.getElem_cons_succ]; go_simp; (try with_reducible rfl))
   try simp only [List.getElem_toArray, List.getElem_cons_zero, List.getElem_cons_succ]
   try simp only [Act.put, List.setIfInBounds_toArray, List.set_cons_zero, List.set_cons_succ]
   refine wpAnyH_done (by kernel_rfl) ?_ _
   clear HQR HAR
   have TX12 : Hid (Q.qtext (1/2 : Rat) = [49, 47, 50]) := by
     show _ = _
     exact Q.tx_part 1 2 [49] [50] (by kernel_rfl) (by decide) (by kernel_rfl) (by kernel_rfl) (by kernel_rfl)
   have TX1 : Hid (Q.qtext (1 : Rat) = [49]) := by
     show _ = _
     exact Q.tx_whole 1 [49] (by kernel_rfl) (by kernel_rfl) (by kernel_rfl)
   have c60 := HK0.out _ (Below.refl _ _)
   obtain ⟨c61, c62, c63, c64⟩ := HK1.out _ (Below.refl _ _)
   have HTB := Lib.hid HB
   go_upto_region 7 with fail
   as_aux_lemma =>
    go_wp2_with fail
    refine (Q.text_q (HO6.out.isq (k := 700) (Nat.le_trans (ql_dec (by decide +kernel)) (by omega))) (by omega) (by omega) (HT.out.below HB.out) [49, 47, 50] TX12.out).mono ?_
    rintro e w951 ⟨rfl, hbx⟩
    replace HB := Lib.hid (below_on HB.out hbx)
    replace HVF := Lib.hid (HVF.out.below hbx)
    replace HVF6 := Lib.hid (HVF6.out.below hbx)
    clear hbx c60 c61 c62 c63 c64
    go_wp2_with fail
    refine (get_c HVF6.out 4611686018427387904 1 (by rw [← HF3.out]; decide +kernel)).mono ?_
    rintro e w952 ⟨s52, A52, n52, c52, t52, B52, m52, d52, rfl, ho, hbx⟩
    replace HB := Lib.hid (below_on HB.out hbx)
    replace HVF := Lib.hid (HVF.out.below hbx)
    replace HVF6 := Lib.hid (HVF6.out.below hbx)
    have HO52 := Lib.hid ho
    clear ho hbx
    go_wp2_with fail
    refine (Q.text_q (HO52.out.isq (k := 700) (Nat.le_trans (ql_dec (by decide +kernel)) (by omega))) (by omega) (by omega) (HT.out.below HB.out) [49] TX1.out).mono ?_
    rintro e w953 ⟨rfl, hbx⟩
    replace HB := Lib.hid (below_on HB.out hbx)
    replace HVF := Lib.hid (HVF.out.below hbx)
    replace HVF6 := Lib.hid (HVF6.out.below hbx)
    replace HO52 := Lib.hid (HO52.out.below hbx)
    clear hbx HO52
    go_wp2_with fail
    refine (put_c ((Q.oneq_zero _ 0 0).isq (Nat.le_trans ql_zero1 (by omega))) (Nat.le_trans ql_zero1 (by omega)) HVF.out 1 (by omega) rfl (FN5.out.put (Nm.of_ql (Nat.le_trans ql_zero1 (by omega) : ql 0 ≤ 1)) 1) (by omega) (by omega)).mono ?_
    rintro e w954 ⟨A54, n54, c54, rfl, hc, hbx⟩
    replace HB := Lib.hid (below_on HB.out hbx)
    replace HVF := Lib.hid (HVF.out.below hbx)
    replace HVF6 := Lib.hid (HVF6.out.below hbx)
    have hz54 : n54 = 0 := hc.empty (fun a => by
      rw [← HF5.out]
      unfold putAt
      split
      · rfl
      · next h => show (if (1 : Int) = a then (5 : Rat) else 0) + 0 = 0; rw [if_neg (fun e => h e.symm)]; grind)
    subst hz54
    clear hc hbx
    go_wp2_with fail
    refine (Q.of_q _ 1 1 (by omega) (by omega) (by omega) (by omega) 1 (by decide +kernel)).mono ?_
    rintro e w955 ⟨s55, A55, n55, c55, t55, B55, m55, d55, rfl, ho, hbx⟩
    replace HB := Lib.hid (below_on HB.out hbx)
    replace HVF := Lib.hid (HVF.out.below hbx)
    replace HVF6 := Lib.hid (HVF6.out.below hbx)
    have HO55 := Lib.hid ho
    clear ho hbx
    go_wp2_with fail
    refine (put_c (HO55.out.isq (Nat.le_trans (ql_dec (by decide +kernel)) (by omega))) (Nat.le_trans (ql_dec (by decide +kernel)) (by omega)) HVF.out 0 (by omega) rfl (FN5.out.put (Nm.of_ql (ql_dec (by decide +kernel) : ql 1 ≤ 1)) 0) (by omega) (by omega)).mono ?_
    rintro e w956 ⟨A56, n56, c56, rfl, hc, hbx⟩
    replace HB := Lib.hid (below_on HB.out hbx)
    replace HVF := Lib.hid (HVF.out.below hbx)
    replace HVF6 := Lib.hid (HVF6.out.below hbx)
    replace HO55 := Lib.hid (HO55.out.below hbx)
    have hz56 : n56 = 2 := by
      obtain ⟨zs, z1, z2, _⟩ := hc.ex
      have e : vals zs = [(0, 1), (1, 5)] := by
        refine z2.1.ext (canon_two (by omega) (by decide +kernel) (by decide +kernel)) (fun a => ?_)
        rw [z2.2, ← HF5.out]
        unfold putAt
        simp only [tot_cons, tot_nil]
        by_cases h0 : a = 0
        · subst h0; decide +kernel
        · rw [if_neg h0, if_neg (fun e : (0 : Int) = a => h0 e.symm)]; grind
      rw [z1.en, ← vals_len, e]
      rfl
    subst hz56
    clear hc hbx HO55
    go_wp2_with fail
    refine (scale_c ((Q.oneq_zero _ 0 0).isq (Nat.le_trans ql_zero1 (by omega))) HVF.out rfl (Fn.mul (Nm.of_ql (Nat.le_trans ql_zero1 (by omega) : ql 0 ≤ 1)) FN5.out) (by omega) (by omega)).mono ?_
    rintro e w957 ⟨A57, n57, c57, rfl, hc, hbx⟩
    replace HB := Lib.hid (below_on HB.out hbx)
    replace HVF := Lib.hid (HVF.out.below hbx)
    replace HVF6 := Lib.hid (HVF6.out.below hbx)
    have hz57 : n57 = 0 := hc.empty (fun a => by show 0 * F5 a = 0; exact Rat.zero_mul _)
    subst hz57
    clear hc hbx
    go_wp2_with fail
    refine (term_any w957 (3) (1) (1) (by omega) (by omega) (by omega) (by omega) (1) (by decide +kernel)).mono ?_
    rintro e w961 ⟨s961, A961, n961, c961, t961, B961, m961, d961, rfl, ho, hbx⟩
    replace HB := Lib.hid (below_on HB.out hbx)
    replace HVF := Lib.hid (HVF.out.below hbx)
    replace HVF6 := Lib.hid (HVF6.out.below hbx)
    have HO961 := Lib.hid ho
    clear ho hbx
    go_wp2_with fail
    refine (term_any w961 (3) (-1) (1) (by omega) (by omega) (by omega) (by omega) (-1) (by decide +kernel)).mono ?_
    rintro e w962 ⟨s962, A962, n962, c962, t962, B962, m962, d962, rfl, ho, hbx⟩
    replace HB := Lib.hid (below_on HB.out hbx)
    replace HVF := Lib.hid (HVF.out.below hbx)
    replace HVF6 := Lib.hid (HVF6.out.below hbx)
    replace HO961 := Lib.hid (HO961.out.below hbx)
    have HO962 := Lib.hid ho
    clear ho hbx
    obtain ⟨w963, hX⟩ : ∃ V, w962.alloc (.cells #[.int .i64 3, .bool s961, .slice A961 n961 c961, .bool t961, .slice B961 m961 d961, .int .i64 3, .bool s962, .slice A962 n962 c962, .bool t962, .slice B962 m962 d962] 28) = V := ⟨_, rfl⟩
    have hbx : Below w962.heap.size w962 w963 := by rw [← hX]; exact (Below.refl _ _).alloc (Nat.le_refl _) _
    have hrx : w963.heap[w962.heap.size]? = some (.cells #[.int .i64 3, .bool s961, .slice A961 n961 c961, .bool t961, .slice B961 m961 d961, .int .i64 3, .bool s962, .slice A962 n962 c962, .bool t962, .slice B962 m962 d962] 28 (0, 0)) := by rw [← hX]; exact heap_alloc_new w962 _
    replace HB := Lib.hid (below_on HB.out hbx)
    replace HVF := Lib.hid (HVF.out.below hbx)
    replace HVF6 := Lib.hid (HVF6.out.below hbx)
    replace HO961 := Lib.hid (HO961.out.below hbx)
    replace HO962 := Lib.hid (HO962.out.below hbx)
    have HL963 : Hid (Lit w963 w962.heap.size [((⟨3, s961, A961, n961, c961, t961, B961, m961, d961⟩ : TV), 1), ((⟨3, s962, A962, n962, c962, t962, B962, m962, d962⟩ : TV), -1)]) := ⟨hrx, (all_cons HO961.out (by omega) (by decide +kernel) (all_cons HO962.out (by omega) (by decide +kernel) all_nil))⟩
    clear hrx hbx HO961 HO962
    go_wp2_with (refine wpList_row2 (by rfl) _ _ _ rfl (by rfl) (by rfl) (by kernel_rfl) ?_)
    go_wp2_with fail
    clear hX
    refine (same_c (HL963.out.vf (by simp)) (VF.nil _ none 0 (fun _ h => by cases h))).mono ?_
    rintro e w970 ⟨bs, rfl, hbs, hbx⟩
    replace HB := Lib.hid (below_on HB.out hbx)
    replace HVF := Lib.hid (HVF.out.below hbx)
    replace HVF6 := Lib.hid (HVF6.out.below hbx)
    replace HL963 := Lib.hid (HL963.out.below hbx)
    have hb1 : bs = true := hbs.2 (by
      funext a
      show (if (3 : Int) = a then (1 : Rat) else 0) + ((if (3 : Int) = a then (-1 : Rat) else 0) + 0) = 0
      split <;> grind)
    subst hb1
    clear hbs hbx
    go_upto_region 8 with fail
    go_wp2_with fail
    refine (awake_v _).mono ?_
    rintro e w971 ⟨rfl, hbx⟩
    replace HB := Lib.hid (below_on HB.out hbx)
    replace HVF := Lib.hid (HVF.out.below hbx)
    replace HVF6 := Lib.hid (HVF6.out.below hbx)
    replace HL963 := Lib.hid (HL963.out.below hbx)
    clear hbx
    go_wp2_with fail
    go_ret
    exact ⟨rfl, HB.out⟩
end Go.Proofs.YtmbnlhedbedcdaaGreatDoor.V
