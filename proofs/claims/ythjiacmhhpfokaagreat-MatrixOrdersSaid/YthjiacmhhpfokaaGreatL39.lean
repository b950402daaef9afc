/- Part 39 of the proof: MxTerm. -/
import Derived.Test.YthjiacmhhpfokaaGreatL38
namespace Go.Proofs.YthjiacmhhpfokaaGreat
open Nat renaming le_refl → lR
open Go.RowKit.Below renaming refl → bR
open Option.some renaming inj → oI
namespace V
open Lib renaming hid → lh
set_option maxRecDepth 100000
set_option maxHeartbeats 4000000
open Go.RowKit
open Q (IsQ OneQ RetQ below_on ql Qbx Box)
theorem term6_any (w : World) (a y : Int) (h1 : -9223372036854775808 ≤ y) (h2 : y ≤ 9223372036854775807) (q : Rat) (hq : Rat.divInt y 1 = q) :
  Calls Tryz.prog 44 #[.int .i64 a, .int .i64 y] w (RetT w a q) := by
 obtain ⟨W0, hW0⟩ : ∃ V, w.alloc (.cells #[.int .i64 0, .bool false, .slice none 0 0, .bool false, .slice none 0 0] 67) = V := ⟨_, rfl⟩
 have HB0 : Hid (Below w.heap.size w W0) := by rw [← hW0]; exact (bR _ _).alloc (lR _) _
 have HC0 : Hid (W0.heap[w.heap.size]? = some (.cells #[.int .i64 0, .bool false, .slice none 0 0, .bool false, .slice none 0 0] 67 (0, 0))) := by rw [← hW0]; exact heap_alloc_new w _
 have HJ := lh (Q.of_q W0 y 1 h1 h2 (by omega) (by omega) q hq)
 clear h1 h2 hq
 go_enter Tryz.func44, Tryz.ntmps44
 go_upto_region 1 with fail
 clear hW0
 go_wp2_with fail
 refine HJ.out.mono ?_
 rintro e w1 ⟨s8, A8, n8, c8, t8, B8, m8, d8, rfl, h8, hb8⟩
 have hc := (hb8.block w.heap.size (lt_of_block HC0.out)).trans HC0.out
 have HC := lh hc
 have H8 := lh h8
 have HB := lh (below_on HB0.out hb8)
 have e0 : w1.cell? ⟨w.heap.size, 0, none⟩ = some (.int .i64 0) := by rw [cell_of_row w1 _ 0 _ _ _ hc]; rfl
 have f0 : w1.frozen? ⟨w.heap.size, 0, none⟩ = false := frozen_of_row w1 _ 0 _ _ hc
 have e1 : w1.cell? ⟨w.heap.size, 1, none⟩ = some (.bool false) := by rw [cell_of_row w1 _ 1 _ _ _ hc]; rfl
 have f1 : w1.frozen? ⟨w.heap.size, 1, none⟩ = false := frozen_of_row w1 _ 1 _ _ hc
 have e2 : w1.cell? ⟨w.heap.size, 2, none⟩ = some (.slice none 0 0) := by rw [cell_of_row w1 _ 2 _ _ _ hc]; rfl
 have f2 : w1.frozen? ⟨w.heap.size, 2, none⟩ = false := frozen_of_row w1 _ 2 _ _ hc
 have e3 : w1.cell? ⟨w.heap.size, 3, none⟩ = some (.bool false) := by rw [cell_of_row w1 _ 3 _ _ _ hc]; rfl
 have f3 : w1.frozen? ⟨w.heap.size, 3, none⟩ = false := frozen_of_row w1 _ 3 _ _ hc
 have e4 : w1.cell? ⟨w.heap.size, 4, none⟩ = some (.slice none 0 0) := by rw [cell_of_row w1 _ 4 _ _ _ hc]; rfl
 have f4 : w1.frozen? ⟨w.heap.size, 4, none⟩ = false := frozen_of_row w1 _ 4 _ _ hc
 clear hc h8 hb8 HJ HC0 HB0
 go_wp2_with fail
 have hd : NoDig w1 (fun b => b = w.heap.size) := by
  intro b hb i v hv z
  rw [hb, cell_of_row _ _ i _ _ _ HC.out] at hv
  match i with
  | 0 => obtain rfl := oI hv; intro h; cases h
  | 1 => obtain rfl := oI hv; intro h; cases h
  | 2 => obtain rfl := oI hv; intro h; cases h
  | 3 => obtain rfl := oI hv; intro h; cases h
  | 4 => obtain rfl := oI hv; intro h; cases h
  | i + 5 => simp at hv
 have hnear := (((((Near.refl (fun b => b = w.heap.size) w1).setCell w.heap.size 0 (.int .i64 a) rfl).setCell w.heap.size 1 (.bool s8) rfl).setCell w.heap.size 2 (.slice A8 n8 c8) rfl).setCell w.heap.size 3 (.bool t8) rfl).setCell w.heap.size 4 (.slice B8 m8 d8) rfl
 have hrow : ((((((w1).setCell ⟨w.heap.size, 0, none⟩ (.int .i64 a)).setCell ⟨w.heap.size, 1, none⟩ (.bool s8)).setCell ⟨w.heap.size, 2, none⟩ (.slice A8 n8 c8)).setCell ⟨w.heap.size, 3, none⟩ (.bool t8)).setCell ⟨w.heap.size, 4, none⟩ (.slice B8 m8 d8)).heap[w.heap.size]? = some (.cells _ 67 (0, 0)) := heap_setCell_same _ w.heap.size 4 _ _ _ (heap_setCell_same _ w.heap.size 3 _ _ _ (heap_setCell_same _ w.heap.size 2 _ _ _ (heap_setCell_same _ w.heap.size 1 _ _ _ (heap_setCell_same w1 w.heap.size 0 _ _ _ HC.out))))
 have p0 := cell_of_row _ w.heap.size 0 _ _ _ hrow
 have p1 := cell_of_row _ w.heap.size 1 _ _ _ hrow
 have p2 := cell_of_row _ w.heap.size 2 _ _ _ hrow
 have p3 := cell_of_row _ w.heap.size 3 _ _ _ hrow
 have p4 := cell_of_row _ w.heap.size 4 _ _ _ hrow
 have ho := H8.out
 have HO : Hid (OneQ ((((((w1).setCell ⟨w.heap.size, 0, none⟩ (.int .i64 a)).setCell ⟨w.heap.size, 1, none⟩ (.bool s8)).setCell ⟨w.heap.size, 2, none⟩ (.slice A8 n8 c8)).setCell ⟨w.heap.size, 3, none⟩ (.bool t8)).setCell ⟨w.heap.size, 4, none⟩ (.slice B8 m8 d8)) s8 A8 n8 c8 t8 B8 m8 d8 q) := ⟨ho.es, ho.en, ho.et, ho.em, num_near ho.num hd hnear, num_near ho.den hd hnear, ho.cap, ho.cap2⟩
 have HBL : Hid (Below w.heap.size w ((((((w1).setCell ⟨w.heap.size, 0, none⟩ (.int .i64 a)).setCell ⟨w.heap.size, 1, none⟩ (.bool s8)).setCell ⟨w.heap.size, 2, none⟩ (.slice A8 n8 c8)).setCell ⟨w.heap.size, 3, none⟩ (.bool t8)).setCell ⟨w.heap.size, 4, none⟩ (.slice B8 m8 d8))) := ((((HB.out.setCell (lR _) _).setCell (lR _) _).setCell (lR _) _).setCell (lR _) _).setCell (lR _) _
 clear hd hnear hrow ho e0 e1 e2 e3 e4 f0 f1 f2 f3 f4
 simp only [List.setIfInBounds_toArray, List.set_cons_zero, List.set_cons_succ, List.getElem?_toArray, List.getElem?_cons_zero, List.getElem?_cons_succ] at p0 p1 p2 p3 p4
 refine bodyPost_ret (v := .agg #[.int .i64 a, .bool s8, .slice A8 n8 c8, .bool t8, .slice B8 m8 d8]) (by simp [results, Tryz.results44, go_sem, p0, p1, p2, p3, p4]) rfl ?_
 exact ⟨s8, A8, n8, c8, t8, B8, m8, d8, rfl, HO.out, HBL.out⟩
structure LitV (w : World) (g : Nat) (vs : List SV) : Prop where
 row : w.heap[g]? = some (.cells (vs.map (fun v => Value.slice v.A v.n v.c)).toArray 33 (0, 0))
 all : ∀ v ∈ vs, ∃ b, v.A = some ⟨b, 0, none⟩ ∧ v.n = v.ys.length ∧ v.c = v.ys.length ∧ Lit w b v.ys
theorem LitV.below {w w' : World} {g : Nat} {vs : List SV} (h : LitV w g vs) (hb : Below w.heap.size w w') : LitV w' g vs :=
 ⟨(hb.block g (lt_of_block h.row)).trans h.row, fun v hv => by obtain ⟨b, h1, h2, h3, h4⟩ := h.all v hv; exact ⟨b, h1, h2, h3, h4.below hb⟩⟩
theorem litv_all {w : World} {g1 g2 n1 n2 : Nat} {xs ys : List (TV × Rat)} (h1 : Lit w g1 xs) (h2 : Lit w g2 ys) (e1 : n1 = xs.length := by rfl) (e2 : n2 = ys.length := by rfl) : ∀ v ∈ ([⟨some ⟨g1, 0, none⟩, n1, n1, xs⟩, ⟨some ⟨g2, 0, none⟩, n2, n2, ys⟩] : List SV), ∃ b, v.A = some ⟨b, 0, none⟩ ∧ v.n = v.ys.length ∧ v.c = v.ys.length ∧ Lit w b v.ys := by
 intro v hv
 rcases List.mem_cons.1 hv with rfl | hv
 ·exact ⟨g1, rfl, e1, e1, h1⟩
 ·obtain rfl := List.mem_singleton.1 hv
  exact ⟨g2, rfl, e2, e2, h2⟩
theorem LitV.rows {w : World} {g : Nat} {vs : List SV} (h : LitV w g vs) : RowS w (some ⟨g, 0, none⟩) vs := fun _ => ⟨g, 0, rfl, lt_of_block h.row, fun j v hv => by
 rw [Nat.zero_add, cell_of_row w g j _ _ _ h.row]; simp [hv]⟩
theorem LitV.mx {w : World} {g : Nat} {vs : List SV} (h : LitV w g vs) (hn : vs.length ≤ 10) (hl : ∀ v ∈ vs, v.ys.length ≤ 10) : MX w (some ⟨g, 0, none⟩) vs.length vs.length vs := by
 refine ⟨h.rows, rfl, lR _, by omega, fun v hv => ?_⟩
 obtain ⟨b, h1, h2, h3, h4⟩ := h.all v hv
 have h5 := h4.vf (hl v hv)
 have hv10 := hl v hv
 rw [h1, h2, h3]
 exact ⟨lit_isv h4.row (fun y hy => (h4.one y hy).1) (fun y hy => Nat.le_trans (h4.one y hy).2 (by omega)), (short_fn (k := 1) (L := 10) h4.ql (by rw [vals_len]; exact hl v hv) (by omega)).2 (by omega), by omega, fun a ha => h5.blk a ha⟩
section
variable {o : Oper} {a : Act} {w : World} {K : Act → World → Prop} {Q : Exit → Act → World → Prop} {c0 c1 : Value}
theorem wp_rowv2 (t : TypeId) (x y : Operand) (ho : o.op = .buildSlice t 2 #[(0, x), (1, y)]) {A B : Option Addr} {n c m d : Nat} (hx : a.eval x = .slice A n c) (hy : a.eval y = .slice B m d) (hu : Tryz.prog.underlying t = some (.slice 33))
  (h : K (a.put o.dst (.slice (some ⟨w.heap.size, 0, none⟩) 2 2)) (w.alloc (.cells #[.slice A n c, .slice B m d] 33))) : o.wp Tryz.prog a w K Q := by
 obtain ⟨i, hi, hz, hs, hb⟩ := info_parts info_v
 refine wp_buildSlice t _ 2 _ ho _ i zeroV hu hi hz (by rw [hs]; omega) (by rw [hs]; omega) ?_ h
 rw [hs]
 simp only [List.map_toArray, List.map_cons, List.map_nil, hx, hy]
 kernel_rfl
theorem info_i : (Tryz.prog.info? 3).map (fun i => (i.zero, i.size, i.bytes)) = some (some (.int .i64 0), 1, 8) := by kernel_rfl
theorem wp_rowi3 (t : TypeId) (x y z : Int) (ho : o.op = .buildSlice t 3 #[(0, .const (.int .i64 x)), (1, .const (.int .i64 y)), (2, .const (.int .i64 z))]) (hu : Tryz.prog.underlying t = some (.slice 3))
  (h : K (a.put o.dst (.slice (some ⟨w.heap.size, 0, none⟩) 3 3)) (w.alloc (.cells #[.int .i64 x, .int .i64 y, .int .i64 z] 3))) : o.wp Tryz.prog a w K Q := by
 obtain ⟨i, hi, hz, hs, hb⟩ := info_parts info_i
 refine wp_buildSlice t _ 3 _ ho _ i (.int .i64 0) hu hi hz (by rw [hs]; omega) (by rw [hs]; omega) ?_ h
 rw [hs]
 kernel_rfl
end
def C0 : Cols := [[(0, 1), (1, 2)], [(1, 3)]]
def RetC0 (w : World) (e : Ending) (w' : World) : Prop := ∃ (g : Nat) (vs : List SV), e = .returned (.slice (some ⟨g, 0, none⟩) 2 2) ∧ LitV w' g vs ∧ colsOf vs = C0 ∧ MX w' (some ⟨g, 0, none⟩) 2 2 vs ∧ Below w.heap.size w w'
theorem cols_any (w : World) : Calls Tryz.prog 41 #[] w (RetC0 w) := by
 have HB := lh (bR w.heap.size w)
 go_enter Tryz.func41, Tryz.ntmps41
 go_wp2_with fail
 refine (term6_any w (0) (1) (by omega) (by omega) (1) (by decide +kernel)).mono ?_
 rintro e w1 ⟨s1, A1, n1, c1, t1, B1, m1, d1, rfl, ho, hbx⟩
 replace HB := lh (below_on HB.out hbx)
 have HO1 := lh ho
 clear ho hbx
 go_wp2_with fail
 refine (term6_any w1 (1) (2) (by omega) (by omega) (2) (by decide +kernel)).mono ?_
 rintro e w2 ⟨s2, A2, n2, c2, t2, B2, m2, d2, rfl, ho, hbx⟩
 replace HB := lh (below_on HB.out hbx)
 replace HO1 := lh (HO1.out.below hbx)
 have HO2 := lh ho
 clear ho hbx
 obtain ⟨w3, hX⟩ : ∃ V, w2.alloc (.cells #[.int .i64 0, .bool s1, .slice A1 n1 c1, .bool t1, .slice B1 m1 d1, .int .i64 1, .bool s2, .slice A2 n2 c2, .bool t2, .slice B2 m2 d2] 67) = V := ⟨_, rfl⟩
 have hbx : Below w2.heap.size w2 w3 := by rw [← hX]; exact (bR _ _).alloc (lR _) _
 have hrx : w3.heap[w2.heap.size]? = some (.cells #[.int .i64 0, .bool s1, .slice A1 n1 c1, .bool t1, .slice B1 m1 d1, .int .i64 1, .bool s2, .slice A2 n2 c2, .bool t2, .slice B2 m2 d2] 67 (0, 0)) := by rw [← hX]; exact heap_alloc_new w2 _
 replace HB := lh (below_on HB.out hbx)
 replace HO1 := lh (HO1.out.below hbx)
 replace HO2 := lh (HO2.out.below hbx)
 have HL3 : Hid (Lit w3 w2.heap.size [((⟨0, s1, A1, n1, c1, t1, B1, m1, d1⟩ : TV), 1), ((⟨1, s2, A2, n2, c2, t2, B2, m2, d2⟩ : TV), 2)]) := ⟨hrx, (all_cons HO1.out (by omega) (by decide +kernel) (all_cons HO2.out (by omega) (by decide +kernel) all_nil))⟩
 clear hrx hbx HO1 HO2
 go_wp2_with fail
 clear hX
 refine (term6_any w3 (1) (3) (by omega) (by omega) (3) (by decide +kernel)).mono ?_
 rintro e w4 ⟨s4, A4, n4, c4, t4, B4, m4, d4, rfl, ho, hbx⟩
 replace HB := lh (below_on HB.out hbx)
 replace HL3 := lh (HL3.out.below hbx)
 have HO4 := lh ho
 clear ho hbx
 obtain ⟨w5, hX⟩ : ∃ V, w4.alloc (.cells #[.int .i64 1, .bool s4, .slice A4 n4 c4, .bool t4, .slice B4 m4 d4] 67) = V := ⟨_, rfl⟩
 have hbx : Below w4.heap.size w4 w5 := by rw [← hX]; exact (bR _ _).alloc (lR _) _
 have hrx : w5.heap[w4.heap.size]? = some (.cells #[.int .i64 1, .bool s4, .slice A4 n4 c4, .bool t4, .slice B4 m4 d4] 67 (0, 0)) := by rw [← hX]; exact heap_alloc_new w4 _
 replace HB := lh (below_on HB.out hbx)
 replace HL3 := lh (HL3.out.below hbx)
 replace HO4 := lh (HO4.out.below hbx)
 have HL5 : Hid (Lit w5 w4.heap.size [((⟨1, s4, A4, n4, c4, t4, B4, m4, d4⟩ : TV), 3)]) := ⟨hrx, (all_cons HO4.out (by omega) (by decide +kernel) all_nil)⟩
 clear hrx hbx HO4
 obtain ⟨w6, hX⟩ : ∃ V, w5.alloc (.cells #[.slice (some ⟨w2.heap.size, 0, none⟩) 2 2, .slice (some ⟨w4.heap.size, 0, none⟩) 1 1] 33) = V := ⟨_, rfl⟩
 have hbx : Below w5.heap.size w5 w6 := by rw [← hX]; exact (bR _ _).alloc (lR _) _
 have hrx : w6.heap[w5.heap.size]? = some (.cells #[.slice (some ⟨w2.heap.size, 0, none⟩) 2 2, .slice (some ⟨w4.heap.size, 0, none⟩) 1 1] 33 (0, 0)) := by rw [← hX]; exact heap_alloc_new w5 _
 replace HB := lh (below_on HB.out hbx)
 replace HL3 := lh (HL3.out.below hbx)
 replace HL5 := lh (HL5.out.below hbx)
 have HLV : Hid (LitV w6 w5.heap.size [⟨some ⟨w2.heap.size, 0, none⟩, 2, 2, [((⟨0, s1, A1, n1, c1, t1, B1, m1, d1⟩ : TV), 1), ((⟨1, s2, A2, n2, c2, t2, B2, m2, d2⟩ : TV), 2)]⟩, ⟨some ⟨w4.heap.size, 0, none⟩, 1, 1, [((⟨1, s4, A4, n4, c4, t4, B4, m4, d4⟩ : TV), 3)]⟩]) := ⟨hrx, litv_all HL3.out HL5.out⟩
 clear hrx hbx HL3 HL5
 go_wp2_with fail
 clear hX
 exact ⟨rfl, .slice (some ⟨w5.heap.size, 0, none⟩) 2 2, by simp [results, Tryz.results41, go_sem], _, _, rfl, HLV.out, rfl, HLV.out.mx (by simp) (by simp), HB.out⟩
