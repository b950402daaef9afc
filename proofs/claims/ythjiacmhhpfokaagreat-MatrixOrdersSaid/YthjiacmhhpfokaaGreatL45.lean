/- Part 45 of the proof: MxAwake. -/
import Derived.Test.YthjiacmhhpfokaaGreatL39
import Derived.Test.YthjiacmhhpfokaaGreatL41
import Derived.Test.YthjiacmhhpfokaaGreatL44
namespace Go.Proofs.YthjiacmhhpfokaaGreat
open Go.Proofs.Tryz renaming prog → tz
open Nat renaming le_refl → lR
open Go.RowKit.Below renaming refl → bR
open Option.some renaming inj → oI
namespace V
open Lib renaming hid → lh
open Go.RowKit
open Q (IsQ OneQ RetQ below_on ql Qbx Box)
section
variable {ops : Array Oper} {rest : List Oper} {o : Oper} {a : Act} {w : World} {Q : Exit → Act → World → Prop} {c0 c1 c2 c3 c4 d0 d1 d2 d3 d4 : Value}
theorem wpList_r1 (hw : Region.wanted o (yielded ops a.tmps) = true) (t : TypeId) (x : Operand) (ho : o.op = .buildSlice t 1 #[(0, x)]) (hx : a.eval x = .agg #[c0, c1, c2, c3, c4]) (hu : Tryz.prog.underlying t = some (.slice 67))
  (h : wpList tz ops Q rest (a.put o.dst (.slice (some ⟨w.heap.size, 0, none⟩) 1 1)) (w.alloc (.cells #[c0, c1, c2, c3, c4] 67))) : wpList tz ops Q (o :: rest) a w :=
 wpList_step fun K hK => by rw [if_pos hw]; exact wp_row1 t x ho hx hu (hK _ _ h)
theorem wpList_r2 (hw : Region.wanted o (yielded ops a.tmps) = true) (t : TypeId) (x y : Operand) (ho : o.op = .buildSlice t 2 #[(0, x), (1, y)]) (hx : a.eval x = .agg #[c0, c1, c2, c3, c4]) (hy : a.eval y = .agg #[d0, d1, d2, d3, d4]) (hu : Tryz.prog.underlying t = some (.slice 67))
  (h : wpList tz ops Q rest (a.put o.dst (.slice (some ⟨w.heap.size, 0, none⟩) 2 2)) (w.alloc (.cells #[c0, c1, c2, c3, c4, d0, d1, d2, d3, d4] 67))) : wpList tz ops Q (o :: rest) a w :=
 wpList_step fun K hK => by rw [if_pos hw]; exact wp_row2 t x y ho hx hy hu (hK _ _ h)
theorem wpList_rv2 (hw : Region.wanted o (yielded ops a.tmps) = true) (t : TypeId) (x y : Operand) (ho : o.op = .buildSlice t 2 #[(0, x), (1, y)]) {A B : Option Addr} {n c m d : Nat} (hx : a.eval x = .slice A n c) (hy : a.eval y = .slice B m d) (hu : Tryz.prog.underlying t = some (.slice 33))
  (h : wpList tz ops Q rest (a.put o.dst (.slice (some ⟨w.heap.size, 0, none⟩) 2 2)) (w.alloc (.cells #[.slice A n c, .slice B m d] 33))) : wpList tz ops Q (o :: rest) a w :=
 wpList_step fun K hK => by rw [if_pos hw]; exact wp_rowv2 t x y ho hx hy hu (hK _ _ h)
theorem wpList_ri3 (hw : Region.wanted o (yielded ops a.tmps) = true) (t : TypeId) (x y z : Int) (ho : o.op = .buildSlice t 3 #[(0, .const (.int .i64 x)), (1, .const (.int .i64 y)), (2, .const (.int .i64 z))]) (hu : Tryz.prog.underlying t = some (.slice 3))
  (h : wpList tz ops Q rest (a.put o.dst (.slice (some ⟨w.heap.size, 0, none⟩) 3 3)) (w.alloc (.cells #[.int .i64 x, .int .i64 y, .int .i64 z] 3))) : wpList tz ops Q (o :: rest) a w :=
 wpList_step fun K hK => by rw [if_pos hw]; exact wp_rowi3 t x y z ho hu (hK _ _ h)
end
theorem mr_c0 : MR 1 1 2 C0 := by
 have hx : ∀ c ∈ C0, ∀ x ∈ c, Over 1 3 x.2 := by
  intro c hc x hx
  have hm : x.2 = 1 ∨ x.2 = 2 ∨ x.2 = 3 := by
   rcases List.mem_cons.1 hc with rfl | hc
   ·rcases List.mem_cons.1 hx with rfl | hx
    ·exact .inl rfl
    ·obtain rfl := List.mem_singleton.1 hx; exact .inr (.inl rfl)
   ·obtain rfl := List.mem_singleton.1 hc
    obtain rfl := List.mem_singleton.1 hx; exact .inr (.inr rfl)
  rcases hm with h | h | h <;> rw [h]
  ·exact ⟨1, by decide +kernel, by decide⟩
  ·exact ⟨2, by decide +kernel, by decide⟩
  ·exact ⟨3, by decide +kernel, by decide⟩
 exact ⟨⟨1, 3, by omega, by rw [B64_eq]; omega, by rw [B64_eq]; omega, hx⟩, fun c hc => by
  rcases List.mem_cons.1 hc with rfl | hc
  ·simp
  ·obtain rfl := List.mem_singleton.1 hc; simp⟩
theorem ts_c0 {X : Int → Rat} (h : Fn 11 12 10 X) : TS C0 X 1 1 2 11 12 10 := ⟨mr_c0, h, by omega, by omega, by decide, by omega, by omega⟩
theorem ls_c0 {X : Int → Rat} (h : Fn 11 12 10 X) : LS C0 X 1 1 2 11 12 10 := ⟨mr_c0, h, by omega, by omega, by decide, by omega, by omega⟩
theorem times_c0 (a : Int) : mtimes C0 (tot [(0, 1), (1, 1)]) a = tot [(0, 1), (1, 5)] a := by
 show 0 + tot [(0, 1), (1, 1)] 0 * tot [(0, 1), (1, 2)] a + tot [(0, 1), (1, 1)] 1 * tot [(1, 3)] a = _
 by_cases h0 : a = 0
 ·subst h0; decide +kernel
 ·by_cases h1 : a = 1
  ·subst h1; decide +kernel
  ·simp only [tot_cons, tot_nil, if_neg (fun e : (0 : Int) = a => h0 e.symm), if_neg (fun e : (1 : Int) = a => h1 e.symm)]
   grind
theorem left_c0 (a : Int) : mleft (tot [(1, 1)]) C0 a = tot [(0, 2), (1, 3)] a := by
 by_cases h0 : a = 0
 ·subst h0; decide +kernel
 ·by_cases h1 : a = 1
  ·subst h1; decide +kernel
  ·rw [mleft_far (by show _ ∨ ((2 : Nat) : Int) ≤ a; omega)]
   simp only [tot_cons, tot_nil, if_neg (fun e : (0 : Int) = a => h0 e.symm), if_neg (fun e : (1 : Int) = a => h1 e.symm)]
   grind
theorem row0_c0 (a : Int) : rowf C0 0 a = tot [(0, 1)] a := by
 by_cases h0 : a = 0
 ·subst h0; decide +kernel
 ·by_cases h1 : a = 1
  ·subst h1; decide +kernel
  ·unfold rowf
   rw [if_neg (by show ¬ (0 ≤ a ∧ a < ((2 : Nat) : Int)); omega)]
   simp only [tot_cons, tot_nil, if_neg (fun e : (0 : Int) = a => h0 e.symm)]
   grind
theorem row1_c0 (a : Int) : rowf C0 1 a = tot [(0, 2), (1, 3)] a := by
 by_cases h0 : a = 0
 ·subst h0; decide +kernel
 ·by_cases h1 : a = 1
  ·subst h1; decide +kernel
  ·unfold rowf
   rw [if_neg (by show ¬ (0 ≤ a ∧ a < ((2 : Nat) : Int)); omega)]
   simp only [tot_cons, tot_nil, if_neg (fun e : (0 : Int) = a => h0 e.symm), if_neg (fun e : (1 : Int) = a => h1 e.symm)]
   grind
theorem ord_201 : Ord [2, 0, 1] := ⟨by decide, by decide⟩
theorem fits_201 : Fits [2, 0, 1] (tot [(0, 5)]) := ⟨ord_201, fun a ha => by
 by_cases h0 : a = 0
 ·subst h0; decide
 ·exact absurd (by simp only [tot_cons, tot_nil, if_neg (fun e : (0 : Int) = a => h0 e.symm)]; grind) ha⟩
theorem mv_201 (a : Int) : mv [2, 0, 1] (tot [(0, 5)]) a = tot [(2, 5)] a := by
 by_cases h0 : a = 0
 ·subst h0; decide +kernel
 ·by_cases h1 : a = 1
  ·subst h1; decide +kernel
  ·by_cases h2 : a = 2
   ·subst h2; decide +kernel
   ·unfold mv
    rw [if_neg (by show ¬ (0 ≤ a ∧ a < ((3 : Nat) : Int)); omega)]
    simp only [tot_cons, tot_nil, if_neg (fun e : (2 : Int) = a => h2 e.symm)]
    grind
theorem RI.lit {w : World} {g : Nat} {x y z : Int} (h : w.heap[g]? = some (.cells #[.int .i64 x, .int .i64 y, .int .i64 z] 3 (0, 0))) (hr : ∀ v ∈ [x, y, z], -9223372036854775808 ≤ v ∧ v ≤ 9223372036854775807) : RI w (some ⟨g, 0, none⟩) 3 [x, y, z] :=
 ⟨fun _ => ⟨g, 0, rfl, lt_of_block h, fun j v hv => by
  rw [Nat.zero_add, cell_of_row w g j _ _ _ h]
  match j with
  | 0 => obtain rfl := oI hv; rfl
  | 1 => obtain rfl := oI hv; rfl
  | 2 => obtain rfl := oI hv; rfl
  | j + 3 => simp at hv⟩, rfl, by omega, hr⟩
theorem inv_201 : inv [2, 0, 1] = [1, 2, 0] := by decide
theorem samevecs_lit {w : World} {A : Option Addr} {n c g : Nat} {F : Nat → Int → Rat} {vs : List SV} (hx : RowsF w A n c F) (hy : LitV w g vs) (hn : n = vs.length) (hn10 : n ≤ 10) (hl : ∀ v ∈ vs, v.ys.length ≤ 10) (hF : ∀ (j : Nat) (v : SV), vs[j]? = some v → Canon (vals v.ys) ∧ F j = tot (vals v.ys)) :
  Calls tz 55 #[.slice A n c, .slice (some ⟨g, 0, none⟩) n n] w (RetB w true) := by
 obtain ⟨us, h1, h2, h3, h4⟩ := hx
 refine samevecs_any h1 hy.rows h2 hn (by omega) (fun _ => true) (fun j x y W hx hy2 hW => ?_) true ⟨fun _ => ⟨rfl, fun j x y _ _ => rfl⟩, fun _ => rfl⟩
 obtain ⟨b, e1, e2, e3, e4⟩ := hy.all y (List.mem_of_getElem? hy2)
 obtain ⟨f1, f2⟩ := hF j y hy2
 have hc := (h4 j x hx).below hW
 rw [f2] at hc
 have hy3 := (e4.below hW).cf f1
 rw [e1, e2, e3]
 exact samevec_e hc hy3 (e4.fn (hl y (List.mem_of_getElem? hy2))) (by omega) rfl
set_option maxRecDepth 100000 in
set_option maxHeartbeats 8000000 in
theorem awake6 (w : World) : Calls tz 48 #[] w (RetB w true) := by
 have HB := lh (bR w.heap.size w)
 go_enter Tryz.func48, Tryz.ntmps48
 go_wp2_with fail
 refine (cols_any w).mono ?_
 rintro e w1 ⟨ga, vsa, rfl, hlv, hcs, hmx, hbx⟩
 replace HB := lh (below_on HB.out hbx)
 have HMa := lh hmx
 have HCa := lh hcs
 clear hlv hmx hcs hbx
 go_wp2_with fail
 refine (term6_any w1 (0) (1) (by omega) (by omega) (1) (by decide +kernel)).mono ?_
 rintro e w2 ⟨s2, A2, n2, c2, t2, B2, m2, d2, rfl, ho, hbx⟩
 replace HB := lh (below_on HB.out hbx)
 replace HMa := lh (HMa.out.below hbx)
 have HO2 := lh ho
 clear ho hbx
 go_wp2_with fail
 refine (term6_any w2 (1) (1) (by omega) (by omega) (1) (by decide +kernel)).mono ?_
 rintro e w3 ⟨s3, A3, n3, c3, t3, B3, m3, d3, rfl, ho, hbx⟩
 replace HB := lh (below_on HB.out hbx)
 replace HMa := lh (HMa.out.below hbx)
 replace HO2 := lh (HO2.out.below hbx)
 have HO3 := lh ho
 clear ho hbx
 obtain ⟨w4, hX⟩ : ∃ V, w3.alloc (.cells #[.int .i64 0, .bool s2, .slice A2 n2 c2, .bool t2, .slice B2 m2 d2, .int .i64 1, .bool s3, .slice A3 n3 c3, .bool t3, .slice B3 m3 d3] 67) = V := ⟨_, rfl⟩
 have hbx : Below w3.heap.size w3 w4 := by rw [← hX]; exact (bR _ _).alloc (lR _) _
 have hrx : w4.heap[w3.heap.size]? = some (.cells #[.int .i64 0, .bool s2, .slice A2 n2 c2, .bool t2, .slice B2 m2 d2, .int .i64 1, .bool s3, .slice A3 n3 c3, .bool t3, .slice B3 m3 d3] 67 (0, 0)) := by rw [← hX]; exact heap_alloc_new w3 _
 replace HB := lh (below_on HB.out hbx)
 replace HMa := lh (HMa.out.below hbx)
 replace HO2 := lh (HO2.out.below hbx)
 replace HO3 := lh (HO3.out.below hbx)
 have HL4 : Hid (Lit w4 w3.heap.size [((⟨0, s2, A2, n2, c2, t2, B2, m2, d2⟩ : TV), 1), ((⟨1, s3, A3, n3, c3, t3, B3, m3, d3⟩ : TV), 1)]) := ⟨hrx, (all_cons HO2.out (by omega) (by decide +kernel) (all_cons HO3.out (by omega) (by decide +kernel) all_nil))⟩
 clear hrx hbx HO2 HO3
 go_wp2_with fail
 clear hX
 refine (times_c HMa.out (HL4.out.vf (by simp)) (by rw [HCa.out]; exact ts_c0 (HL4.out.fn (by simp)))).mono ?_
 rintro e w5 ⟨Ga, na, ca, rfl, hc, hbx⟩
 replace HB := lh (below_on HB.out hbx)
 replace HMa := lh (HMa.out.below hbx)
 replace HL4 := lh (HL4.out.below hbx)
 rw [HCa.out] at hc
 have hc : CF _ Ga na ca (mtimes C0 (tot [(0, 1), (1, 1)])) := hc
 rw [funext times_c0] at hc
 have HRa := lh hc
 clear hc hbx
 clear HMa HL4
 go_upto_region 2 with fail
 go_wp2_with fail
 refine (term6_any w5 (1) (1) (by omega) (by omega) (1) (by decide +kernel)).mono ?_
 rintro e w6 ⟨s6, A6, n6, c6, t6, B6, m6, d6, rfl, ho, hbx⟩
 replace HB := lh (below_on HB.out hbx)
 replace HRa := lh (HRa.out.below hbx)
 have HO6 := lh ho
 clear ho hbx
 obtain ⟨w7, hX⟩ : ∃ V, w6.alloc (.cells #[.int .i64 1, .bool s6, .slice A6 n6 c6, .bool t6, .slice B6 m6 d6] 67) = V := ⟨_, rfl⟩
 have hbx : Below w6.heap.size w6 w7 := by rw [← hX]; exact (bR _ _).alloc (lR _) _
 have hrx : w7.heap[w6.heap.size]? = some (.cells #[.int .i64 1, .bool s6, .slice A6 n6 c6, .bool t6, .slice B6 m6 d6] 67 (0, 0)) := by rw [← hX]; exact heap_alloc_new w6 _
 replace HB := lh (below_on HB.out hbx)
 replace HRa := lh (HRa.out.below hbx)
 replace HO6 := lh (HO6.out.below hbx)
 have HL7 : Hid (Lit w7 w6.heap.size [((⟨1, s6, A6, n6, c6, t6, B6, m6, d6⟩ : TV), 1)]) := ⟨hrx, (all_cons HO6.out (by omega) (by decide +kernel) all_nil)⟩
 clear hrx hbx HO6
 go_wp2_with fail
 clear hX
 refine (cols_any w7).mono ?_
 rintro e w8 ⟨gb, vsb, rfl, hlv, hcs, hmx, hbx⟩
 replace HB := lh (below_on HB.out hbx)
 replace HRa := lh (HRa.out.below hbx)
 replace HL7 := lh (HL7.out.below hbx)
 have HMb := lh hmx
 have HCb := lh hcs
 clear hlv hmx hcs hbx
 go_wp2_with fail
 refine (left_c HMb.out (HL7.out.vf (by simp)) (by rw [HCb.out]; exact ls_c0 (HL7.out.fn (by simp)))).mono ?_
 rintro e w9 ⟨Gb, nb, cb, rfl, hc, hbx⟩
 replace HB := lh (below_on HB.out hbx)
 replace HRa := lh (HRa.out.below hbx)
 replace HL7 := lh (HL7.out.below hbx)
 replace HMb := lh (HMb.out.below hbx)
 rw [HCb.out] at hc
 have hc : CF _ Gb nb cb (mleft (tot [(1, 1)]) C0) := hc
 rw [funext left_c0] at hc
 have HRb := lh hc
 clear hc hbx
 clear HMb HL7
 go_upto_region 3 with fail
 go_wp2_with fail
 refine (cols_any w9).mono ?_
 rintro e w10 ⟨gc, vsc, rfl, hlv, hcs, hmx, hbx⟩
 replace HB := lh (below_on HB.out hbx)
 replace HRa := lh (HRa.out.below hbx)
 replace HRb := lh (HRb.out.below hbx)
 have HMc := lh hmx
 have HCc := lh hcs
 clear hlv hmx hcs hbx
 go_wp2_with fail
 refine (turn_c (M := 2) HMc.out (by rw [HCc.out]; exact mr_c0) (by omega) (by omega) (by omega) true ⟨fun _ => by omega, fun _ => rfl⟩).mono ?_
 rintro e w11 ⟨hbx, ⟨h, _⟩ | ⟨_, Gc, cc, rfl, hc⟩⟩
 ·cases h
 replace HB := lh (below_on HB.out hbx)
 replace HRa := lh (HRa.out.below hbx)
 replace HRb := lh (HRb.out.below hbx)
 replace HMc := lh (HMc.out.below hbx)
 rw [HCc.out] at hc
 have hc : RowsF _ Gc 2 cc (rowf C0) := hc
 have HRc := lh hc
 clear hc hbx
 clear HMc
 go_upto_region 4 with fail
 obtain ⟨w12, hX⟩ : ∃ V, w11.alloc (.cells #[.int .i64 2, .int .i64 0, .int .i64 1] 3) = V := ⟨_, rfl⟩
 have hbx : Below w11.heap.size w11 w12 := by rw [← hX]; exact (bR _ _).alloc (lR _) _
 have hrx : w12.heap[w11.heap.size]? = some (.cells #[.int .i64 2, .int .i64 0, .int .i64 1] 3 (0, 0)) := by rw [← hX]; exact heap_alloc_new w11 _
 replace HB := lh (below_on HB.out hbx)
 replace HRa := lh (HRa.out.below hbx)
 replace HRb := lh (HRb.out.below hbx)
 replace HRc := lh (HRc.out.below hbx)
 have HId : Hid (RI w12 (some ⟨w11.heap.size, 0, none⟩) 3 [2, 0, 1]) := RI.lit hrx (by decide)
 clear hrx hbx 
 go_wp2_with (first | (refine wpList_r1 (by rfl) _ _ rfl (by rfl) (by kernel_rfl) ?_) | (refine wpList_r2 (by rfl) _ _ _ rfl (by rfl) (by rfl) (by kernel_rfl) ?_) | (refine wpList_rv2 (by rfl) _ _ _ rfl (by rfl) (by rfl) (by kernel_rfl) ?_) | (refine wpList_ri3 (by rfl) _ _ _ _ rfl (by kernel_rfl) ?_))
 clear hX
 refine (inv_any HId.out true ⟨fun _ => ord_201, fun _ => rfl⟩).mono ?_
 rintro e w13 ⟨hbx, ⟨h, _⟩ | ⟨_, Gd, cd, rfl, hc⟩⟩
 ·cases h
 replace HB := lh (below_on HB.out hbx)
 replace HRa := lh (HRa.out.below hbx)
 replace HRb := lh (HRb.out.below hbx)
 replace HRc := lh (HRc.out.below hbx)
 replace HId := lh (HId.out.below hbx)
 rw [inv_201] at hc
 have HRd := lh hc
 clear hc hbx
 clear HId
 go_upto_region 5 with fail
 obtain ⟨w14, hX⟩ : ∃ V, w13.alloc (.cells #[.int .i64 2, .int .i64 0, .int .i64 1] 3) = V := ⟨_, rfl⟩
 have hbx : Below w13.heap.size w13 w14 := by rw [← hX]; exact (bR _ _).alloc (lR _) _
 have hrx : w14.heap[w13.heap.size]? = some (.cells #[.int .i64 2, .int .i64 0, .int .i64 1] 3 (0, 0)) := by rw [← hX]; exact heap_alloc_new w13 _
 replace HB := lh (below_on HB.out hbx)
 replace HRa := lh (HRa.out.below hbx)
 replace HRb := lh (HRb.out.below hbx)
 replace HRc := lh (HRc.out.below hbx)
 replace HRd := lh (HRd.out.below hbx)
 have HIe : Hid (RI w14 (some ⟨w13.heap.size, 0, none⟩) 3 [2, 0, 1]) := RI.lit hrx (by decide)
 clear hrx hbx 
 go_wp2_with (first | (refine wpList_r1 (by rfl) _ _ rfl (by rfl) (by kernel_rfl) ?_) | (refine wpList_r2 (by rfl) _ _ _ rfl (by rfl) (by rfl) (by kernel_rfl) ?_) | (refine wpList_rv2 (by rfl) _ _ _ rfl (by rfl) (by rfl) (by kernel_rfl) ?_) | (refine wpList_ri3 (by rfl) _ _ _ _ rfl (by kernel_rfl) ?_))
 clear hX
 refine (term6_any w14 (0) (5) (by omega) (by omega) (5) (by decide +kernel)).mono ?_
 rintro e w15 ⟨s15, A15, n15, c15, t15, B15, m15, d15, rfl, ho, hbx⟩
 replace HB := lh (below_on HB.out hbx)
 replace HRa := lh (HRa.out.below hbx)
 replace HRb := lh (HRb.out.below hbx)
 replace HRc := lh (HRc.out.below hbx)
 replace HRd := lh (HRd.out.below hbx)
 replace HIe := lh (HIe.out.below hbx)
 have HO15 := lh ho
 clear ho hbx
 obtain ⟨w16, hX⟩ : ∃ V, w15.alloc (.cells #[.int .i64 0, .bool s15, .slice A15 n15 c15, .bool t15, .slice B15 m15 d15] 67) = V := ⟨_, rfl⟩
 have hbx : Below w15.heap.size w15 w16 := by rw [← hX]; exact (bR _ _).alloc (lR _) _
 have hrx : w16.heap[w15.heap.size]? = some (.cells #[.int .i64 0, .bool s15, .slice A15 n15 c15, .bool t15, .slice B15 m15 d15] 67 (0, 0)) := by rw [← hX]; exact heap_alloc_new w15 _
 replace HB := lh (below_on HB.out hbx)
 replace HRa := lh (HRa.out.below hbx)
 replace HRb := lh (HRb.out.below hbx)
 replace HRc := lh (HRc.out.below hbx)
 replace HRd := lh (HRd.out.below hbx)
 replace HIe := lh (HIe.out.below hbx)
 replace HO15 := lh (HO15.out.below hbx)
 have HL16 : Hid (Lit w16 w15.heap.size [((⟨0, s15, A15, n15, c15, t15, B15, m15, d15⟩ : TV), 5)]) := ⟨hrx, (all_cons HO15.out (by omega) (by decide +kernel) all_nil)⟩
 clear hrx hbx HO15
 go_wp2_with (first | (refine wpList_r1 (by rfl) _ _ rfl (by rfl) (by kernel_rfl) ?_) | (refine wpList_r2 (by rfl) _ _ _ rfl (by rfl) (by rfl) (by kernel_rfl) ?_) | (refine wpList_rv2 (by rfl) _ _ _ rfl (by rfl) (by rfl) (by kernel_rfl) ?_) | (refine wpList_ri3 (by rfl) _ _ _ _ rfl (by kernel_rfl) ?_))
 clear hX
 refine (move_c HIe.out (HL16.out.vf (by simp)) (HL16.out.fn (by simp)) (by omega) (by omega) (by omega) true ⟨fun _ => fits_201, fun _ => rfl⟩).mono ?_
 rintro e w17 ⟨hbx, ⟨h, _⟩ | ⟨_, Ge, ne, ce, rfl, hc⟩⟩
 ·cases h
 replace HB := lh (below_on HB.out hbx)
 replace HRa := lh (HRa.out.below hbx)
 replace HRb := lh (HRb.out.below hbx)
 replace HRc := lh (HRc.out.below hbx)
 replace HRd := lh (HRd.out.below hbx)
 replace HIe := lh (HIe.out.below hbx)
 replace HL16 := lh (HL16.out.below hbx)
 have hc : CF _ Ge ne ce (mv [2, 0, 1] (tot [(0, 5)])) := hc
 rw [funext mv_201] at hc
 have HRe := lh hc
 clear hc hbx
 clear HIe HL16
 go_upto_region 7 with fail
 go_wp2_with (first | (refine wpList_r1 (by rfl) _ _ rfl (by rfl) (by kernel_rfl) ?_) | (refine wpList_r2 (by rfl) _ _ _ rfl (by rfl) (by rfl) (by kernel_rfl) ?_) | (refine wpList_rv2 (by rfl) _ _ _ rfl (by rfl) (by rfl) (by kernel_rfl) ?_) | (refine wpList_ri3 (by rfl) _ _ _ _ rfl (by kernel_rfl) ?_))
 refine (term6_any w17 (0) (1) (by omega) (by omega) (1) (by decide +kernel)).mono ?_
 rintro e w18 ⟨s18, A18, n18, c18, t18, B18, m18, d18, rfl, ho, hbx⟩
 replace HB := lh (below_on HB.out hbx)
 replace HRa := lh (HRa.out.below hbx)
 replace HRb := lh (HRb.out.below hbx)
 replace HRc := lh (HRc.out.below hbx)
 replace HRd := lh (HRd.out.below hbx)
 replace HRe := lh (HRe.out.below hbx)
 have HO18 := lh ho
 clear ho hbx
 go_wp2_with (first | (refine wpList_r1 (by rfl) _ _ rfl (by rfl) (by kernel_rfl) ?_) | (refine wpList_r2 (by rfl) _ _ _ rfl (by rfl) (by rfl) (by kernel_rfl) ?_) | (refine wpList_rv2 (by rfl) _ _ _ rfl (by rfl) (by rfl) (by kernel_rfl) ?_) | (refine wpList_ri3 (by rfl) _ _ _ _ rfl (by kernel_rfl) ?_))
 refine (term6_any w18 (1) (5) (by omega) (by omega) (5) (by decide +kernel)).mono ?_
 rintro e w19 ⟨s19, A19, n19, c19, t19, B19, m19, d19, rfl, ho, hbx⟩
 replace HB := lh (below_on HB.out hbx)
 replace HRa := lh (HRa.out.below hbx)
 replace HRb := lh (HRb.out.below hbx)
 replace HRc := lh (HRc.out.below hbx)
 replace HRd := lh (HRd.out.below hbx)
 replace HRe := lh (HRe.out.below hbx)
 replace HO18 := lh (HO18.out.below hbx)
 have HO19 := lh ho
 clear ho hbx
 obtain ⟨w20, hX⟩ : ∃ V, w19.alloc (.cells #[.int .i64 0, .bool s18, .slice A18 n18 c18, .bool t18, .slice B18 m18 d18, .int .i64 1, .bool s19, .slice A19 n19 c19, .bool t19, .slice B19 m19 d19] 67) = V := ⟨_, rfl⟩
 have hbx : Below w19.heap.size w19 w20 := by rw [← hX]; exact (bR _ _).alloc (lR _) _
 have hrx : w20.heap[w19.heap.size]? = some (.cells #[.int .i64 0, .bool s18, .slice A18 n18 c18, .bool t18, .slice B18 m18 d18, .int .i64 1, .bool s19, .slice A19 n19 c19, .bool t19, .slice B19 m19 d19] 67 (0, 0)) := by rw [← hX]; exact heap_alloc_new w19 _
 replace HB := lh (below_on HB.out hbx)
 replace HRa := lh (HRa.out.below hbx)
 replace HRb := lh (HRb.out.below hbx)
 replace HRc := lh (HRc.out.below hbx)
 replace HRd := lh (HRd.out.below hbx)
 replace HRe := lh (HRe.out.below hbx)
 replace HO18 := lh (HO18.out.below hbx)
 replace HO19 := lh (HO19.out.below hbx)
 have HL20 : Hid (Lit w20 w19.heap.size [((⟨0, s18, A18, n18, c18, t18, B18, m18, d18⟩ : TV), 1), ((⟨1, s19, A19, n19, c19, t19, B19, m19, d19⟩ : TV), 5)]) := ⟨hrx, (all_cons HO18.out (by omega) (by decide +kernel) (all_cons HO19.out (by omega) (by decide +kernel) all_nil))⟩
 clear hrx hbx HO18 HO19
 go_wp2_with (first | (refine wpList_r1 (by rfl) _ _ rfl (by rfl) (by kernel_rfl) ?_) | (refine wpList_r2 (by rfl) _ _ _ rfl (by rfl) (by rfl) (by kernel_rfl) ?_) | (refine wpList_rv2 (by rfl) _ _ _ rfl (by rfl) (by rfl) (by kernel_rfl) ?_) | (refine wpList_ri3 (by rfl) _ _ _ _ rfl (by kernel_rfl) ?_))
 clear hX
 refine (samevec_e HRa.out (HL20.out.cf (canon_two (a := 0) (b := 1) (q := 1) (r := 5) (by omega) (by decide +kernel) (by decide +kernel))) (HL20.out.fn (by simp)) (by omega) rfl).mono ?_
 rintro e w21 ⟨rfl, hbx⟩
 replace HB := lh (below_on HB.out hbx)
 replace HRa := lh (HRa.out.below hbx)
 replace HRb := lh (HRb.out.below hbx)
 replace HRc := lh (HRc.out.below hbx)
 replace HRd := lh (HRd.out.below hbx)
 replace HRe := lh (HRe.out.below hbx)
 replace HL20 := lh (HL20.out.below hbx)
 clear hbx
 clear HRa HL20
 go_wp2_with (first | (refine wpList_r1 (by rfl) _ _ rfl (by rfl) (by kernel_rfl) ?_) | (refine wpList_r2 (by rfl) _ _ _ rfl (by rfl) (by rfl) (by kernel_rfl) ?_) | (refine wpList_rv2 (by rfl) _ _ _ rfl (by rfl) (by rfl) (by kernel_rfl) ?_) | (refine wpList_ri3 (by rfl) _ _ _ _ rfl (by kernel_rfl) ?_))
 refine (term6_any w21 (0) (2) (by omega) (by omega) (2) (by decide +kernel)).mono ?_
 rintro e w22 ⟨s22, A22, n22, c22, t22, B22, m22, d22, rfl, ho, hbx⟩
 replace HB := lh (below_on HB.out hbx)
 replace HRb := lh (HRb.out.below hbx)
 replace HRc := lh (HRc.out.below hbx)
 replace HRd := lh (HRd.out.below hbx)
 replace HRe := lh (HRe.out.below hbx)
 have HO22 := lh ho
 clear ho hbx
 go_wp2_with (first | (refine wpList_r1 (by rfl) _ _ rfl (by rfl) (by kernel_rfl) ?_) | (refine wpList_r2 (by rfl) _ _ _ rfl (by rfl) (by rfl) (by kernel_rfl) ?_) | (refine wpList_rv2 (by rfl) _ _ _ rfl (by rfl) (by rfl) (by kernel_rfl) ?_) | (refine wpList_ri3 (by rfl) _ _ _ _ rfl (by kernel_rfl) ?_))
 refine (term6_any w22 (1) (3) (by omega) (by omega) (3) (by decide +kernel)).mono ?_
 rintro e w23 ⟨s23, A23, n23, c23, t23, B23, m23, d23, rfl, ho, hbx⟩
 replace HB := lh (below_on HB.out hbx)
 replace HRb := lh (HRb.out.below hbx)
 replace HRc := lh (HRc.out.below hbx)
 replace HRd := lh (HRd.out.below hbx)
 replace HRe := lh (HRe.out.below hbx)
 replace HO22 := lh (HO22.out.below hbx)
 have HO23 := lh ho
 clear ho hbx
 obtain ⟨w24, hX⟩ : ∃ V, w23.alloc (.cells #[.int .i64 0, .bool s22, .slice A22 n22 c22, .bool t22, .slice B22 m22 d22, .int .i64 1, .bool s23, .slice A23 n23 c23, .bool t23, .slice B23 m23 d23] 67) = V := ⟨_, rfl⟩
 have hbx : Below w23.heap.size w23 w24 := by rw [← hX]; exact (bR _ _).alloc (lR _) _
 have hrx : w24.heap[w23.heap.size]? = some (.cells #[.int .i64 0, .bool s22, .slice A22 n22 c22, .bool t22, .slice B22 m22 d22, .int .i64 1, .bool s23, .slice A23 n23 c23, .bool t23, .slice B23 m23 d23] 67 (0, 0)) := by rw [← hX]; exact heap_alloc_new w23 _
 replace HB := lh (below_on HB.out hbx)
 replace HRb := lh (HRb.out.below hbx)
 replace HRc := lh (HRc.out.below hbx)
 replace HRd := lh (HRd.out.below hbx)
 replace HRe := lh (HRe.out.below hbx)
 replace HO22 := lh (HO22.out.below hbx)
 replace HO23 := lh (HO23.out.below hbx)
 have HL24 : Hid (Lit w24 w23.heap.size [((⟨0, s22, A22, n22, c22, t22, B22, m22, d22⟩ : TV), 2), ((⟨1, s23, A23, n23, c23, t23, B23, m23, d23⟩ : TV), 3)]) := ⟨hrx, (all_cons HO22.out (by omega) (by decide +kernel) (all_cons HO23.out (by omega) (by decide +kernel) all_nil))⟩
 clear hrx hbx HO22 HO23
 go_wp2_with (first | (refine wpList_r1 (by rfl) _ _ rfl (by rfl) (by kernel_rfl) ?_) | (refine wpList_r2 (by rfl) _ _ _ rfl (by rfl) (by rfl) (by kernel_rfl) ?_) | (refine wpList_rv2 (by rfl) _ _ _ rfl (by rfl) (by rfl) (by kernel_rfl) ?_) | (refine wpList_ri3 (by rfl) _ _ _ _ rfl (by kernel_rfl) ?_))
 clear hX
 refine (samevec_e HRb.out (HL24.out.cf (canon_two (a := 0) (b := 1) (q := 2) (r := 3) (by omega) (by decide +kernel) (by decide +kernel))) (HL24.out.fn (by simp)) (by omega) rfl).mono ?_
 rintro e w25 ⟨rfl, hbx⟩
 replace HB := lh (below_on HB.out hbx)
 replace HRb := lh (HRb.out.below hbx)
 replace HRc := lh (HRc.out.below hbx)
 replace HRd := lh (HRd.out.below hbx)
 replace HRe := lh (HRe.out.below hbx)
 replace HL24 := lh (HL24.out.below hbx)
 clear hbx
 clear HRb HL24
 go_wp2_with (first | (refine wpList_r1 (by rfl) _ _ rfl (by rfl) (by kernel_rfl) ?_) | (refine wpList_r2 (by rfl) _ _ _ rfl (by rfl) (by rfl) (by kernel_rfl) ?_) | (refine wpList_rv2 (by rfl) _ _ _ rfl (by rfl) (by rfl) (by kernel_rfl) ?_) | (refine wpList_ri3 (by rfl) _ _ _ _ rfl (by kernel_rfl) ?_))
 refine (term6_any w25 (0) (1) (by omega) (by omega) (1) (by decide +kernel)).mono ?_
 rintro e w26 ⟨s26, A26, n26, c26, t26, B26, m26, d26, rfl, ho, hbx⟩
 replace HB := lh (below_on HB.out hbx)
 replace HRc := lh (HRc.out.below hbx)
 replace HRd := lh (HRd.out.below hbx)
 replace HRe := lh (HRe.out.below hbx)
 have HO26 := lh ho
 clear ho hbx
 obtain ⟨w27, hX⟩ : ∃ V, w26.alloc (.cells #[.int .i64 0, .bool s26, .slice A26 n26 c26, .bool t26, .slice B26 m26 d26] 67) = V := ⟨_, rfl⟩
 have hbx : Below w26.heap.size w26 w27 := by rw [← hX]; exact (bR _ _).alloc (lR _) _
 have hrx : w27.heap[w26.heap.size]? = some (.cells #[.int .i64 0, .bool s26, .slice A26 n26 c26, .bool t26, .slice B26 m26 d26] 67 (0, 0)) := by rw [← hX]; exact heap_alloc_new w26 _
 replace HB := lh (below_on HB.out hbx)
 replace HRc := lh (HRc.out.below hbx)
 replace HRd := lh (HRd.out.below hbx)
 replace HRe := lh (HRe.out.below hbx)
 replace HO26 := lh (HO26.out.below hbx)
 have HL27 : Hid (Lit w27 w26.heap.size [((⟨0, s26, A26, n26, c26, t26, B26, m26, d26⟩ : TV), 1)]) := ⟨hrx, (all_cons HO26.out (by omega) (by decide +kernel) all_nil)⟩
 clear hrx hbx HO26
 go_wp2_with (first | (refine wpList_r1 (by rfl) _ _ rfl (by rfl) (by kernel_rfl) ?_) | (refine wpList_r2 (by rfl) _ _ _ rfl (by rfl) (by rfl) (by kernel_rfl) ?_) | (refine wpList_rv2 (by rfl) _ _ _ rfl (by rfl) (by rfl) (by kernel_rfl) ?_) | (refine wpList_ri3 (by rfl) _ _ _ _ rfl (by kernel_rfl) ?_))
 clear hX
 refine (term6_any w27 (0) (2) (by omega) (by omega) (2) (by decide +kernel)).mono ?_
 rintro e w28 ⟨s28, A28, n28, c28, t28, B28, m28, d28, rfl, ho, hbx⟩
 replace HB := lh (below_on HB.out hbx)
 replace HRc := lh (HRc.out.below hbx)
 replace HRd := lh (HRd.out.below hbx)
 replace HRe := lh (HRe.out.below hbx)
 replace HL27 := lh (HL27.out.below hbx)
 have HO28 := lh ho
 clear ho hbx
 go_wp2_with (first | (refine wpList_r1 (by rfl) _ _ rfl (by rfl) (by kernel_rfl) ?_) | (refine wpList_r2 (by rfl) _ _ _ rfl (by rfl) (by rfl) (by kernel_rfl) ?_) | (refine wpList_rv2 (by rfl) _ _ _ rfl (by rfl) (by rfl) (by kernel_rfl) ?_) | (refine wpList_ri3 (by rfl) _ _ _ _ rfl (by kernel_rfl) ?_))
 refine (term6_any w28 (1) (3) (by omega) (by omega) (3) (by decide +kernel)).mono ?_
 rintro e w29 ⟨s29, A29, n29, c29, t29, B29, m29, d29, rfl, ho, hbx⟩
 replace HB := lh (below_on HB.out hbx)
 replace HRc := lh (HRc.out.below hbx)
 replace HRd := lh (HRd.out.below hbx)
 replace HRe := lh (HRe.out.below hbx)
 replace HL27 := lh (HL27.out.below hbx)
 replace HO28 := lh (HO28.out.below hbx)
 have HO29 := lh ho
 clear ho hbx
 obtain ⟨w30, hX⟩ : ∃ V, w29.alloc (.cells #[.int .i64 0, .bool s28, .slice A28 n28 c28, .bool t28, .slice B28 m28 d28, .int .i64 1, .bool s29, .slice A29 n29 c29, .bool t29, .slice B29 m29 d29] 67) = V := ⟨_, rfl⟩
 have hbx : Below w29.heap.size w29 w30 := by rw [← hX]; exact (bR _ _).alloc (lR _) _
 have hrx : w30.heap[w29.heap.size]? = some (.cells #[.int .i64 0, .bool s28, .slice A28 n28 c28, .bool t28, .slice B28 m28 d28, .int .i64 1, .bool s29, .slice A29 n29 c29, .bool t29, .slice B29 m29 d29] 67 (0, 0)) := by rw [← hX]; exact heap_alloc_new w29 _
 replace HB := lh (below_on HB.out hbx)
 replace HRc := lh (HRc.out.below hbx)
 replace HRd := lh (HRd.out.below hbx)
 replace HRe := lh (HRe.out.below hbx)
 replace HL27 := lh (HL27.out.below hbx)
 replace HO28 := lh (HO28.out.below hbx)
 replace HO29 := lh (HO29.out.below hbx)
 have HL30 : Hid (Lit w30 w29.heap.size [((⟨0, s28, A28, n28, c28, t28, B28, m28, d28⟩ : TV), 2), ((⟨1, s29, A29, n29, c29, t29, B29, m29, d29⟩ : TV), 3)]) := ⟨hrx, (all_cons HO28.out (by omega) (by decide +kernel) (all_cons HO29.out (by omega) (by decide +kernel) all_nil))⟩
 clear hrx hbx HO28 HO29
 obtain ⟨w31, hX⟩ : ∃ V, w30.alloc (.cells #[.slice (some ⟨w26.heap.size, 0, none⟩) 1 1, .slice (some ⟨w29.heap.size, 0, none⟩) 2 2] 33) = V := ⟨_, rfl⟩
 have hbx : Below w30.heap.size w30 w31 := by rw [← hX]; exact (bR _ _).alloc (lR _) _
 have hrx : w31.heap[w30.heap.size]? = some (.cells #[.slice (some ⟨w26.heap.size, 0, none⟩) 1 1, .slice (some ⟨w29.heap.size, 0, none⟩) 2 2] 33 (0, 0)) := by rw [← hX]; exact heap_alloc_new w30 _
 replace HB := lh (below_on HB.out hbx)
 replace HRc := lh (HRc.out.below hbx)
 replace HRd := lh (HRd.out.below hbx)
 replace HRe := lh (HRe.out.below hbx)
 replace HL27 := lh (HL27.out.below hbx)
 replace HL30 := lh (HL30.out.below hbx)
 have HLV : Hid (LitV w31 w30.heap.size [⟨some ⟨w26.heap.size, 0, none⟩, 1, 1, [((⟨0, s26, A26, n26, c26, t26, B26, m26, d26⟩ : TV), 1)]⟩, ⟨some ⟨w29.heap.size, 0, none⟩, 2, 2, [((⟨0, s28, A28, n28, c28, t28, B28, m28, d28⟩ : TV), 2), ((⟨1, s29, A29, n29, c29, t29, B29, m29, d29⟩ : TV), 3)]⟩]) := ⟨hrx, litv_all HL27.out HL30.out⟩
 clear hrx hbx HL27 HL30
 go_wp2_with (first | (refine wpList_r1 (by rfl) _ _ rfl (by rfl) (by kernel_rfl) ?_) | (refine wpList_r2 (by rfl) _ _ _ rfl (by rfl) (by rfl) (by kernel_rfl) ?_) | (refine wpList_rv2 (by rfl) _ _ _ rfl (by rfl) (by rfl) (by kernel_rfl) ?_) | (refine wpList_ri3 (by rfl) _ _ _ _ rfl (by kernel_rfl) ?_))
 clear hX
 refine (samevecs_lit HRc.out HLV.out rfl (by omega) (by simp) (fun j v hv => by
   match j with
   | 0 => obtain rfl := oI hv; exact ⟨canon_one (a := 0) (q := 1) (by decide +kernel), funext row0_c0⟩
   | 1 => obtain rfl := oI hv; exact ⟨canon_two (a := 0) (b := 1) (q := 2) (r := 3) (by omega) (by decide +kernel) (by decide +kernel), funext row1_c0⟩
   | j + 2 => simp at hv)).mono ?_
 rintro e w32 ⟨rfl, hbx⟩
 replace HB := lh (below_on HB.out hbx)
 replace HRc := lh (HRc.out.below hbx)
 replace HRd := lh (HRd.out.below hbx)
 replace HRe := lh (HRe.out.below hbx)
 replace HLV := lh (HLV.out.below hbx)
 clear hbx
 clear HRc HLV
 obtain ⟨w33, hX⟩ : ∃ V, w32.alloc (.cells #[.int .i64 1, .int .i64 2, .int .i64 0] 3) = V := ⟨_, rfl⟩
 have hbx : Below w32.heap.size w32 w33 := by rw [← hX]; exact (bR _ _).alloc (lR _) _
 have hrx : w33.heap[w32.heap.size]? = some (.cells #[.int .i64 1, .int .i64 2, .int .i64 0] 3 (0, 0)) := by rw [← hX]; exact heap_alloc_new w32 _
 replace HB := lh (below_on HB.out hbx)
 replace HRd := lh (HRd.out.below hbx)
 replace HRe := lh (HRe.out.below hbx)
 have HIf : Hid (RI w33 (some ⟨w32.heap.size, 0, none⟩) 3 [1, 2, 0]) := RI.lit hrx (by decide)
 clear hrx hbx 
 go_wp2_with (first | (refine wpList_r1 (by rfl) _ _ rfl (by rfl) (by kernel_rfl) ?_) | (refine wpList_r2 (by rfl) _ _ _ rfl (by rfl) (by rfl) (by kernel_rfl) ?_) | (refine wpList_rv2 (by rfl) _ _ _ rfl (by rfl) (by rfl) (by kernel_rfl) ?_) | (refine wpList_ri3 (by rfl) _ _ _ _ rfl (by kernel_rfl) ?_))
 clear hX
 refine (sameints_any HRd.out.row HIf.out.row HRd.out.en HIf.out.en (by omega) true ⟨fun _ => rfl, fun _ => rfl⟩).mono ?_
 rintro e w34 ⟨rfl, hbx⟩
 replace HB := lh (below_on HB.out hbx)
 replace HRd := lh (HRd.out.below hbx)
 replace HRe := lh (HRe.out.below hbx)
 replace HIf := lh (HIf.out.below hbx)
 clear hbx
 clear HRd HIf
 go_wp2_with (first | (refine wpList_r1 (by rfl) _ _ rfl (by rfl) (by kernel_rfl) ?_) | (refine wpList_r2 (by rfl) _ _ _ rfl (by rfl) (by rfl) (by kernel_rfl) ?_) | (refine wpList_rv2 (by rfl) _ _ _ rfl (by rfl) (by rfl) (by kernel_rfl) ?_) | (refine wpList_ri3 (by rfl) _ _ _ _ rfl (by kernel_rfl) ?_))
 refine (term6_any w34 (2) (5) (by omega) (by omega) (5) (by decide +kernel)).mono ?_
 rintro e w35 ⟨s35, A35, n35, c35, t35, B35, m35, d35, rfl, ho, hbx⟩
 replace HB := lh (below_on HB.out hbx)
 replace HRe := lh (HRe.out.below hbx)
 have HO35 := lh ho
 clear ho hbx
 obtain ⟨w36, hX⟩ : ∃ V, w35.alloc (.cells #[.int .i64 2, .bool s35, .slice A35 n35 c35, .bool t35, .slice B35 m35 d35] 67) = V := ⟨_, rfl⟩
 have hbx : Below w35.heap.size w35 w36 := by rw [← hX]; exact (bR _ _).alloc (lR _) _
 have hrx : w36.heap[w35.heap.size]? = some (.cells #[.int .i64 2, .bool s35, .slice A35 n35 c35, .bool t35, .slice B35 m35 d35] 67 (0, 0)) := by rw [← hX]; exact heap_alloc_new w35 _
 replace HB := lh (below_on HB.out hbx)
 replace HRe := lh (HRe.out.below hbx)
 replace HO35 := lh (HO35.out.below hbx)
 have HL36 : Hid (Lit w36 w35.heap.size [((⟨2, s35, A35, n35, c35, t35, B35, m35, d35⟩ : TV), 5)]) := ⟨hrx, (all_cons HO35.out (by omega) (by decide +kernel) all_nil)⟩
 clear hrx hbx HO35
 go_wp2_with (first | (refine wpList_r1 (by rfl) _ _ rfl (by rfl) (by kernel_rfl) ?_) | (refine wpList_r2 (by rfl) _ _ _ rfl (by rfl) (by rfl) (by kernel_rfl) ?_) | (refine wpList_rv2 (by rfl) _ _ _ rfl (by rfl) (by rfl) (by kernel_rfl) ?_) | (refine wpList_ri3 (by rfl) _ _ _ _ rfl (by kernel_rfl) ?_))
 clear hX
 refine (samevec_e HRe.out (HL36.out.cf (canon_one (a := 2) (q := 5) (by decide +kernel))) (HL36.out.fn (by simp)) (by omega) rfl).mono ?_
 rintro e w37 ⟨rfl, hbx⟩
 replace HB := lh (below_on HB.out hbx)
 replace HRe := lh (HRe.out.below hbx)
 replace HL36 := lh (HL36.out.below hbx)
 clear hbx
 clear HRe HL36
 go_wp2_with fail
 go_ret
 exact ⟨rfl, HB.out⟩
