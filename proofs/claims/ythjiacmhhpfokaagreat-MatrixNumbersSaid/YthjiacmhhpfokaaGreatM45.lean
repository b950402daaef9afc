/- Part 45 of the proof: MxNumbers. -/
import Derived.Test.YthjiacmhhpfokaaGreatM43
import Derived.Test.YthjiacmhhpfokaaGreatM44
namespace Go.Proofs.YthjiacmhhpfokaaGreat
open Go.Proofs.Tryz renaming prog → tz
open Nat renaming le_refl → lR
open Go.RowKit.Below renaming refl → bR
open List renaming getElem?_eq_getElem → gE, getElem?_map → gM
namespace V
open Lib renaming hid → lh
open Go.RowKit
open Q (IsQ OneQ RetQ below_on ql Qbx Box)
section
variable {ops : Array Oper} {rest : List Oper} {o : Oper} {a : Act} {w : World} {Q : Exit → Act → World → Prop} {c0 c1 c2 c3 c4 d0 d1 d2 d3 d4 e0 e1 e2 e3 e4 : Value}
theorem wpList_r3 (hw : Region.wanted o (yielded ops a.tmps) = true) (t : TypeId) (x y z : Operand) (ho : o.op = .buildSlice t 3 #[(0, x), (1, y), (2, z)]) (hx : a.eval x = .agg #[c0, c1, c2, c3, c4]) (hy : a.eval y = .agg #[d0, d1, d2, d3, d4]) (hz : a.eval z = .agg #[e0, e1, e2, e3, e4]) (hu : Tryz.prog.underlying t = some (.slice 67))
  (h : wpList tz ops Q rest (a.put o.dst (.slice (some ⟨w.heap.size, 0, none⟩) 3 3)) (w.alloc (.cells #[c0, c1, c2, c3, c4, d0, d1, d2, d3, d4, e0, e1, e2, e3, e4] 67))) : wpList tz ops Q (o :: rest) a w :=
 wpList_step fun K hK => by
  rw [if_pos hw]
  refine wp_row t 3 _ ho _ hu (by omega) ?_ (hK _ _ h)
  simp only [List.map_toArray, List.map_cons, List.map_nil, hx, hy, hz]
  kernel_rfl
theorem wpList_ri2 (hw : Region.wanted o (yielded ops a.tmps) = true) (t : TypeId) (x y : Int) (ho : o.op = .buildSlice t 2 #[(0, .const (.int .i64 x)), (1, .const (.int .i64 y))]) (hu : Tryz.prog.underlying t = some (.slice 3))
  (h : wpList tz ops Q rest (a.put o.dst (.slice (some ⟨w.heap.size, 0, none⟩) 2 2)) (w.alloc (.cells #[.int .i64 x, .int .i64 y] 3))) : wpList tz ops Q (o :: rest) a w :=
 wpList_step fun K hK => by
  rw [if_pos hw]
  obtain ⟨i, hi, hz, hs, hb⟩ := info_parts info_i
  refine wp_buildSlice t _ 2 _ ho _ i (.int .i64 0) hu hi hz (by rw [hs]; omega) (by rw [hs]; omega) ?_ (hK _ _ h)
  rw [hs]
  kernel_rfl
theorem wpList_ri1 (hw : Region.wanted o (yielded ops a.tmps) = true) (t : TypeId) (x : Int) (ho : o.op = .buildSlice t 1 #[(0, .const (.int .i64 x))]) (hu : Tryz.prog.underlying t = some (.slice 3))
  (h : wpList tz ops Q rest (a.put o.dst (.slice (some ⟨w.heap.size, 0, none⟩) 1 1)) (w.alloc (.cells #[.int .i64 x] 3))) : wpList tz ops Q (o :: rest) a w :=
 wpList_step fun K hK => by
  rw [if_pos hw]
  obtain ⟨i, hi, hz, hs, hb⟩ := info_parts info_i
  refine wp_buildSlice t _ 1 _ ho _ i (.int .i64 0) hu hi hz (by rw [hs]; omega) (by rw [hs]; omega) ?_ (hK _ _ h)
  rw [hs]
  kernel_rfl
end
theorem RI.lits {w : World} {g : Nat} {xs : List Int} (h : w.heap[g]? = some (.cells (xs.map (Value.int .i64)).toArray 3 (0, 0))) (hl : xs.length ≤ 10) (hr : ∀ v ∈ xs, -9223372036854775808 ≤ v ∧ v ≤ 9223372036854775807) : RI w (some ⟨g, 0, none⟩) xs.length xs :=
 ⟨fun _ => ⟨g, 0, rfl, lt_of_block h, fun j v hv => by rw [Nat.zero_add, cell_of_row w g j _ _ _ h]; simp [hv]⟩, rfl, by omega, hr⟩
theorem RI.nil (w : World) : RI w none 0 [] := ⟨fun h => absurd rfl h, rfl, by omega, fun _ h => by cases h⟩
theorem MX.nil (w : World) : MX w none 0 0 [] := ⟨fun h => absurd rfl h, rfl, lR _, by omega, fun _ h => by cases h⟩
theorem mr_nil : MR 1 1 2 (colsOf []) := ⟨⟨1, 3, by omega, by rw [B64_eq]; omega, by rw [B64_eq]; omega, fun _ h => by cases h⟩, fun _ h => by cases h⟩
theorem rightv_of {w : World} {N : Int} {ys : List (TV × Rat)} (hc : Canon (vals ys)) (hp : ∀ x ∈ vals ys, 0 ≤ x.1 ∧ x.1 < N) (ho : ∀ y ∈ ys, OneQ w y.1.s y.1.A y.1.n y.1.c y.1.t y.1.B y.1.m y.1.d y.2) : RightV w N ys := by
 intro j y hy
 have hm : (y.1.at_, y.2) ∈ vals ys := List.mem_map.2 ⟨y, List.mem_of_getElem? hy, rfl⟩
 refine ⟨(hp _ hm).1, (hp _ hm).2, fun z hj hz => ?_, hc.nz _ hm, ho _ (List.mem_of_getElem? hy)⟩
 have h1 : (vals ys)[j - 1]? = some (z.1.at_, z.2) := by unfold vals; rw [gM, hz]; rfl
 have h2 : (vals ys)[j]? = some (y.1.at_, y.2) := by unfold vals; rw [gM, hy]; rfl
 have h3 := (List.pairwise_iff_getElem.1 hc.up) (j - 1) j (List.getElem?_eq_some_iff.1 h1).1 (List.getElem?_eq_some_iff.1 h2).1 (by omega)
 rw [(List.getElem?_eq_some_iff.1 h1).2, (List.getElem?_eq_some_iff.1 h2).2] at h3
 exact h3
theorem vals_c0 {vs : List SV} (hc : colsOf vs = C0) : ∀ u ∈ vs, vals u.ys = [(0, 1), (1, 2)] ∨ vals u.ys = [(1, 3)] := by
 intro u hu
 have h : vals u.ys ∈ C0 := by rw [← hc]; exact List.mem_map.2 ⟨u, hu, rfl⟩
 rcases List.mem_cons.1 h with h | h
 ·exact .inl h
 ·exact .inr (List.mem_singleton.1 h)
theorem right_c0 {w : World} {g : Nat} {vs : List SV} (hl : LitV w g vs) (hc : colsOf vs = C0) : RightM w 2 vs := ⟨by omega, fun u hu => by
 obtain ⟨b, _, _, _, h4⟩ := hl.all u hu
 refine rightv_of ?_ ?_ (fun y hy => (h4.one y hy).1.1)
 ·rcases vals_c0 hc u hu with e | e <;> rw [e]
  ·exact canon_two (by omega) (by decide +kernel) (by decide +kernel)
  ·exact canon_one (by decide +kernel)
 ·rcases vals_c0 hc u hu with e | e <;> rw [e]
  ·intro x hx
   rcases List.mem_cons.1 hx with rfl | hx
   ·exact ⟨by decide, by decide⟩
   ·obtain rfl := List.mem_singleton.1 hx; exact ⟨by decide, by decide⟩
  ·intro x hx
   obtain rfl := List.mem_singleton.1 hx; exact ⟨by decide, by decide⟩⟩
theorem right1_c0 {w : World} {vs : List SV} (hc : colsOf vs = C0) : ¬ RightM w 1 vs := fun h => by
 have h1 : [((1 : Int), (3 : Rat))] ∈ colsOf vs := by rw [hc]; exact List.mem_cons_of_mem _ List.mem_cons_self
 obtain ⟨u, hu, hv⟩ := List.mem_map.1 h1
 have hlen : u.ys.length = 1 := by rw [← vals_len, hv]; rfl
 obtain ⟨y, hy⟩ : ∃ y, u.ys[0]? = some y := ⟨u.ys[0]'(by omega), gE (by omega)⟩
 have h2 := h.2 u hu 0 y hy
 have h3 : (vals u.ys)[0]? = some (y.1.at_, y.2) := by unfold vals; rw [gM, hy]; rfl
 rw [hv] at h3
 have h4 := congrArg Prod.fst (Option.some.inj h3)
 have h5 := h2.2.1
 have h6 : (1 : Int) = y.1.at_ := h4
 omega
theorem cf_list {w : World} {A : Option Addr} {n c : Nat} {l : List (Int × Rat)} (h : CF w A n c (tot l)) (hl : Canon l) : n = l.length ∧ ∃ zs, IsV w A n c zs 700 ∧ vals zs = l := by
 obtain ⟨zs, z1, z2, _⟩ := h.ex
 have e : vals zs = l := z2.1.ext hl (fun a => by rw [z2.2])
 exact ⟨by rw [z1.en, ← vals_len, e], zs, z1, e⟩
theorem no_fit1 : ¬ Fits [0, 1] (tot [(2, 1)]) := fun h => by have := h.2 2 (by decide +kernel); revert this; decide
theorem no_fit2 : ¬ Fits [0, 1] (tot [(-1, 1)]) := fun h => by have := h.2 (-1) (by decide +kernel); revert this; decide
theorem tot_994 (a : Int) : tot [(9, 1), (9, -1), (0, 4)] a = tot [(0, 4)] a := by
 by_cases h0 : a = 0
 ·subst h0; decide +kernel
 ·by_cases h9 : a = 9
  ·subst h9; decide +kernel
  ·simp only [tot_cons, tot_nil, if_neg (fun e : (0 : Int) = a => h0 e.symm), if_neg (fun e : (9 : Int) = a => h9 e.symm)]
   grind
theorem ord_10 : Ord [1, 0] := ⟨by decide, by decide⟩
theorem fits_10 : Fits [1, 0] (tot [(9, 1), (9, -1), (0, 4)]) := by
 rw [funext tot_994]
 refine ⟨ord_10, fun a ha => ?_⟩
 by_cases h0 : a = 0
 ·subst h0; decide
 ·exact absurd (by simp only [tot_cons, tot_nil, if_neg (fun e : (0 : Int) = a => h0 e.symm)]; grind) ha
theorem mv_10 (a : Int) : mv [1, 0] (tot [(9, 1), (9, -1), (0, 4)]) a = tot [(1, 4)] a := by
 rw [funext tot_994]
 by_cases h0 : a = 0
 ·subst h0; decide +kernel
 ·by_cases h1 : a = 1
  ·subst h1; decide +kernel
  ·unfold mv
   rw [if_neg (by show ¬ (0 ≤ a ∧ a < ((2 : Nat) : Int)); omega)]
   simp only [tot_cons, tot_nil, if_neg (fun e : (1 : Int) = a => h1 e.symm)]
   grind
theorem times0_c0 (a : Int) : mtimes C0 (tot [(2, 1), (-1, 1)]) a = 0 := by
 show 0 + tot [(2, 1), (-1, 1)] 0 * tot [(0, 1), (1, 2)] a + tot [(2, 1), (-1, 1)] 1 * tot [(1, 3)] a = 0
 have e0 : tot [((2 : Int), (1 : Rat)), (-1, 1)] 0 = 0 := by decide +kernel
 have e1 : tot [((2 : Int), (1 : Rat)), (-1, 1)] 1 = 0 := by decide +kernel
 rw [e0, e1]
 grind
set_option maxRecDepth 100000 in
set_option maxHeartbeats 8000000 in
theorem numbers6 (w : World) : Calls tz 4 #[] w (RetB w true) := by
 have HB := lh (bR w.heap.size w)
 go_enter Tryz.func4, Tryz.ntmps4
 go_wp2_with (first | (refine wpList_r1 (by rfl) _ _ rfl (by rfl) (by kernel_rfl) ?_) | (refine wpList_r2 (by rfl) _ _ _ rfl (by rfl) (by rfl) (by kernel_rfl) ?_) | (refine wpList_rv2 (by rfl) _ _ _ rfl (by rfl) (by rfl) (by kernel_rfl) ?_) | (refine wpList_ri3 (by rfl) _ _ _ _ rfl (by kernel_rfl) ?_) | (refine wpList_r3 (by rfl) _ _ _ _ rfl (by rfl) (by rfl) (by rfl) (by kernel_rfl) ?_) | (refine wpList_ri2 (by rfl) _ _ _ rfl (by kernel_rfl) ?_) | (refine wpList_ri1 (by rfl) _ _ rfl (by kernel_rfl) ?_))
 refine (cols_any w).mono ?_
 rintro e w1 ⟨ga, vsa, rfl, hlv, hcs, hmx, hbx⟩
 replace HB := lh (below_on HB.out hbx)
 have HMa := lh hmx
 have HVa := lh hlv
 have HCa := lh hcs
 clear hlv hmx hcs hbx
 go_wp2_with (first | (refine wpList_r1 (by rfl) _ _ rfl (by rfl) (by kernel_rfl) ?_) | (refine wpList_r2 (by rfl) _ _ _ rfl (by rfl) (by rfl) (by kernel_rfl) ?_) | (refine wpList_rv2 (by rfl) _ _ _ rfl (by rfl) (by rfl) (by kernel_rfl) ?_) | (refine wpList_ri3 (by rfl) _ _ _ _ rfl (by kernel_rfl) ?_) | (refine wpList_r3 (by rfl) _ _ _ _ rfl (by rfl) (by rfl) (by rfl) (by kernel_rfl) ?_) | (refine wpList_ri2 (by rfl) _ _ _ rfl (by kernel_rfl) ?_) | (refine wpList_ri1 (by rfl) _ _ rfl (by kernel_rfl) ?_))
 refine (turn_c (M := -1) HMa.out (by rw [HCa.out]; exact mr_c0) (by omega) (by omega) (by omega) false ⟨fun h => (by cases h), fun h => (by omega)⟩).mono ?_
 rintro e w2 ⟨hbx, ⟨_, rfl⟩ | ⟨h, _⟩⟩
 rotate_left
 ·cases h
 replace HB := lh (below_on HB.out hbx)
 replace HMa := lh (HMa.out.below hbx)
 replace HVa := lh (HVa.out.below hbx)
 clear hbx
 clear HMa HVa
 go_upto_region 2 with fail
 go_wp2_with (first | (refine wpList_r1 (by rfl) _ _ rfl (by rfl) (by kernel_rfl) ?_) | (refine wpList_r2 (by rfl) _ _ _ rfl (by rfl) (by rfl) (by kernel_rfl) ?_) | (refine wpList_rv2 (by rfl) _ _ _ rfl (by rfl) (by rfl) (by kernel_rfl) ?_) | (refine wpList_ri3 (by rfl) _ _ _ _ rfl (by kernel_rfl) ?_) | (refine wpList_r3 (by rfl) _ _ _ _ rfl (by rfl) (by rfl) (by rfl) (by kernel_rfl) ?_) | (refine wpList_ri2 (by rfl) _ _ _ rfl (by kernel_rfl) ?_) | (refine wpList_ri1 (by rfl) _ _ rfl (by kernel_rfl) ?_))
 refine (cols_any w2).mono ?_
 rintro e w3 ⟨gb, vsb, rfl, hlv, hcs, hmx, hbx⟩
 replace HB := lh (below_on HB.out hbx)
 have HMb := lh hmx
 have HVb := lh hlv
 have HCb := lh hcs
 clear hlv hmx hcs hbx
 go_wp2_with (first | (refine wpList_r1 (by rfl) _ _ rfl (by rfl) (by kernel_rfl) ?_) | (refine wpList_r2 (by rfl) _ _ _ rfl (by rfl) (by rfl) (by kernel_rfl) ?_) | (refine wpList_rv2 (by rfl) _ _ _ rfl (by rfl) (by rfl) (by kernel_rfl) ?_) | (refine wpList_ri3 (by rfl) _ _ _ _ rfl (by kernel_rfl) ?_) | (refine wpList_r3 (by rfl) _ _ _ _ rfl (by rfl) (by rfl) (by rfl) (by kernel_rfl) ?_) | (refine wpList_ri2 (by rfl) _ _ _ rfl (by kernel_rfl) ?_) | (refine wpList_ri1 (by rfl) _ _ rfl (by kernel_rfl) ?_))
 refine (turn_c (M := 65537) HMb.out (by rw [HCb.out]; exact mr_c0) (by omega) (by omega) (by omega) false ⟨fun h => (by cases h), fun h => (by omega)⟩).mono ?_
 rintro e w4 ⟨hbx, ⟨_, rfl⟩ | ⟨h, _⟩⟩
 rotate_left
 ·cases h
 replace HB := lh (below_on HB.out hbx)
 replace HMb := lh (HMb.out.below hbx)
 replace HVb := lh (HVb.out.below hbx)
 clear hbx
 clear HMb HVb
 go_upto_region 3 with fail
 go_wp2_with (first | (refine wpList_r1 (by rfl) _ _ rfl (by rfl) (by kernel_rfl) ?_) | (refine wpList_r2 (by rfl) _ _ _ rfl (by rfl) (by rfl) (by kernel_rfl) ?_) | (refine wpList_rv2 (by rfl) _ _ _ rfl (by rfl) (by rfl) (by kernel_rfl) ?_) | (refine wpList_ri3 (by rfl) _ _ _ _ rfl (by kernel_rfl) ?_) | (refine wpList_r3 (by rfl) _ _ _ _ rfl (by rfl) (by rfl) (by rfl) (by kernel_rfl) ?_) | (refine wpList_ri2 (by rfl) _ _ _ rfl (by kernel_rfl) ?_) | (refine wpList_ri1 (by rfl) _ _ rfl (by kernel_rfl) ?_))
 refine (cols_any w4).mono ?_
 rintro e w5 ⟨gc, vsc, rfl, hlv, hcs, hmx, hbx⟩
 replace HB := lh (below_on HB.out hbx)
 have HMc := lh hmx
 have HVc := lh hlv
 have HCc := lh hcs
 clear hlv hmx hcs hbx
 go_wp2_with (first | (refine wpList_r1 (by rfl) _ _ rfl (by rfl) (by kernel_rfl) ?_) | (refine wpList_r2 (by rfl) _ _ _ rfl (by rfl) (by rfl) (by kernel_rfl) ?_) | (refine wpList_rv2 (by rfl) _ _ _ rfl (by rfl) (by rfl) (by kernel_rfl) ?_) | (refine wpList_ri3 (by rfl) _ _ _ _ rfl (by kernel_rfl) ?_) | (refine wpList_r3 (by rfl) _ _ _ _ rfl (by rfl) (by rfl) (by rfl) (by kernel_rfl) ?_) | (refine wpList_ri2 (by rfl) _ _ _ rfl (by kernel_rfl) ?_) | (refine wpList_ri1 (by rfl) _ _ rfl (by kernel_rfl) ?_))
 refine (turn_c (M := 1) HMc.out (by rw [HCc.out]; exact mr_c0) (by omega) (by omega) (by omega) true ⟨fun _ => by omega, fun _ => rfl⟩).mono ?_
 rintro e w6 ⟨hbx, ⟨h, _⟩ | ⟨_, Gc, cc, rfl, hc⟩⟩
 ·cases h
 replace HB := lh (below_on HB.out hbx)
 replace HMc := lh (HMc.out.below hbx)
 replace HVc := lh (HVc.out.below hbx)
 rw [HCc.out] at hc
 have hc : RowsF _ Gc 1 cc (rowf C0) := hc
 have HRc := lh hc
 clear hc hbx
 clear HMc HVc
 go_upto_region 4 with fail
 obtain ⟨w7, hX⟩ : ∃ V, w6.alloc (.cells #[.int .i64 0, .int .i64 0] 3) = V := ⟨_, rfl⟩
 have hbx : Below w6.heap.size w6 w7 := by rw [← hX]; exact (bR _ _).alloc (lR _) _
 have hrx : w7.heap[w6.heap.size]? = some (.cells #[.int .i64 0, .int .i64 0] 3 (0, 0)) := by rw [← hX]; exact heap_alloc_new w6 _
 replace HB := lh (below_on HB.out hbx)
 replace HRc := lh (HRc.out.below hbx)
 have HI : Hid (RI w7 (some ⟨w6.heap.size, 0, none⟩) 2 [0, 0]) := RI.lits (xs := [0, 0]) hrx (by simp) (by decide)
 clear hrx hbx 
 go_wp2_with (first | (refine wpList_r1 (by rfl) _ _ rfl (by rfl) (by kernel_rfl) ?_) | (refine wpList_r2 (by rfl) _ _ _ rfl (by rfl) (by rfl) (by kernel_rfl) ?_) | (refine wpList_rv2 (by rfl) _ _ _ rfl (by rfl) (by rfl) (by kernel_rfl) ?_) | (refine wpList_ri3 (by rfl) _ _ _ _ rfl (by kernel_rfl) ?_) | (refine wpList_r3 (by rfl) _ _ _ _ rfl (by rfl) (by rfl) (by rfl) (by kernel_rfl) ?_) | (refine wpList_ri2 (by rfl) _ _ _ rfl (by kernel_rfl) ?_) | (refine wpList_ri1 (by rfl) _ _ rfl (by kernel_rfl) ?_))
 clear hX
 refine (inv_any HI.out false ⟨fun h => (by cases h), fun h => absurd h.2 (by decide)⟩).mono ?_
 rintro e w8 ⟨hbx, ⟨_, rfl⟩ | ⟨h, _⟩⟩
 rotate_left
 ·cases h
 replace HB := lh (below_on HB.out hbx)
 replace HRc := lh (HRc.out.below hbx)
 replace HI := lh (HI.out.below hbx)
 clear hbx
 clear HI
 go_upto_region 5 with fail
 obtain ⟨w9, hX⟩ : ∃ V, w8.alloc (.cells #[.int .i64 0, .int .i64 1] 3) = V := ⟨_, rfl⟩
 have hbx : Below w8.heap.size w8 w9 := by rw [← hX]; exact (bR _ _).alloc (lR _) _
 have hrx : w9.heap[w8.heap.size]? = some (.cells #[.int .i64 0, .int .i64 1] 3 (0, 0)) := by rw [← hX]; exact heap_alloc_new w8 _
 replace HB := lh (below_on HB.out hbx)
 replace HRc := lh (HRc.out.below hbx)
 have HI : Hid (RI w9 (some ⟨w8.heap.size, 0, none⟩) 2 [0, 1]) := RI.lits (xs := [0, 1]) hrx (by simp) (by decide)
 clear hrx hbx 
 go_wp2_with (first | (refine wpList_r1 (by rfl) _ _ rfl (by rfl) (by kernel_rfl) ?_) | (refine wpList_r2 (by rfl) _ _ _ rfl (by rfl) (by rfl) (by kernel_rfl) ?_) | (refine wpList_rv2 (by rfl) _ _ _ rfl (by rfl) (by rfl) (by kernel_rfl) ?_) | (refine wpList_ri3 (by rfl) _ _ _ _ rfl (by kernel_rfl) ?_) | (refine wpList_r3 (by rfl) _ _ _ _ rfl (by rfl) (by rfl) (by rfl) (by kernel_rfl) ?_) | (refine wpList_ri2 (by rfl) _ _ _ rfl (by kernel_rfl) ?_) | (refine wpList_ri1 (by rfl) _ _ rfl (by kernel_rfl) ?_))
 clear hX
 refine (term6_any w9 (2) (1) (by omega) (by omega) (1) (by decide +kernel)).mono ?_
 rintro e w10 ⟨s10, A10, n10, c10, t10, B10, m10, d10, rfl, ho, hbx⟩
 replace HB := lh (below_on HB.out hbx)
 replace HRc := lh (HRc.out.below hbx)
 replace HI := lh (HI.out.below hbx)
 have HO10 := lh ho
 clear ho hbx
 obtain ⟨w11, hX⟩ : ∃ V, w10.alloc (.cells #[.int .i64 2, .bool s10, .slice A10 n10 c10, .bool t10, .slice B10 m10 d10] 67) = V := ⟨_, rfl⟩
 have hbx : Below w10.heap.size w10 w11 := by rw [← hX]; exact (bR _ _).alloc (lR _) _
 have hrx : w11.heap[w10.heap.size]? = some (.cells #[.int .i64 2, .bool s10, .slice A10 n10 c10, .bool t10, .slice B10 m10 d10] 67 (0, 0)) := by rw [← hX]; exact heap_alloc_new w10 _
 replace HB := lh (below_on HB.out hbx)
 replace HRc := lh (HRc.out.below hbx)
 replace HI := lh (HI.out.below hbx)
 replace HO10 := lh (HO10.out.below hbx)
 have HL11 : Hid (Lit w11 w10.heap.size [((⟨2, s10, A10, n10, c10, t10, B10, m10, d10⟩ : TV), 1)]) := ⟨hrx, (all_cons HO10.out (by omega) (by decide +kernel) all_nil)⟩
 clear hrx hbx HO10
 go_wp2_with (first | (refine wpList_r1 (by rfl) _ _ rfl (by rfl) (by kernel_rfl) ?_) | (refine wpList_r2 (by rfl) _ _ _ rfl (by rfl) (by rfl) (by kernel_rfl) ?_) | (refine wpList_rv2 (by rfl) _ _ _ rfl (by rfl) (by rfl) (by kernel_rfl) ?_) | (refine wpList_ri3 (by rfl) _ _ _ _ rfl (by kernel_rfl) ?_) | (refine wpList_r3 (by rfl) _ _ _ _ rfl (by rfl) (by rfl) (by rfl) (by kernel_rfl) ?_) | (refine wpList_ri2 (by rfl) _ _ _ rfl (by kernel_rfl) ?_) | (refine wpList_ri1 (by rfl) _ _ rfl (by kernel_rfl) ?_))
 clear hX
 refine (move_c HI.out (HL11.out.vf (by simp)) (HL11.out.fn (by simp)) (by omega) (by omega) (by omega) false ⟨fun h => (by cases h), fun h => absurd h no_fit1⟩).mono ?_
 rintro e w12 ⟨hbx, ⟨_, rfl⟩ | ⟨h, _⟩⟩
 rotate_left
 ·cases h
 replace HB := lh (below_on HB.out hbx)
 replace HRc := lh (HRc.out.below hbx)
 replace HI := lh (HI.out.below hbx)
 replace HL11 := lh (HL11.out.below hbx)
 clear hbx
 clear HI HL11
 go_upto_region 6 with fail
 obtain ⟨w13, hX⟩ : ∃ V, w12.alloc (.cells #[.int .i64 0, .int .i64 1] 3) = V := ⟨_, rfl⟩
 have hbx : Below w12.heap.size w12 w13 := by rw [← hX]; exact (bR _ _).alloc (lR _) _
 have hrx : w13.heap[w12.heap.size]? = some (.cells #[.int .i64 0, .int .i64 1] 3 (0, 0)) := by rw [← hX]; exact heap_alloc_new w12 _
 replace HB := lh (below_on HB.out hbx)
 replace HRc := lh (HRc.out.below hbx)
 have HI : Hid (RI w13 (some ⟨w12.heap.size, 0, none⟩) 2 [0, 1]) := RI.lits (xs := [0, 1]) hrx (by simp) (by decide)
 clear hrx hbx 
 go_wp2_with (first | (refine wpList_r1 (by rfl) _ _ rfl (by rfl) (by kernel_rfl) ?_) | (refine wpList_r2 (by rfl) _ _ _ rfl (by rfl) (by rfl) (by kernel_rfl) ?_) | (refine wpList_rv2 (by rfl) _ _ _ rfl (by rfl) (by rfl) (by kernel_rfl) ?_) | (refine wpList_ri3 (by rfl) _ _ _ _ rfl (by kernel_rfl) ?_) | (refine wpList_r3 (by rfl) _ _ _ _ rfl (by rfl) (by rfl) (by rfl) (by kernel_rfl) ?_) | (refine wpList_ri2 (by rfl) _ _ _ rfl (by kernel_rfl) ?_) | (refine wpList_ri1 (by rfl) _ _ rfl (by kernel_rfl) ?_))
 clear hX
 refine (term6_any w13 (-1) (1) (by omega) (by omega) (1) (by decide +kernel)).mono ?_
 rintro e w14 ⟨s14, A14, n14, c14, t14, B14, m14, d14, rfl, ho, hbx⟩
 replace HB := lh (below_on HB.out hbx)
 replace HRc := lh (HRc.out.below hbx)
 replace HI := lh (HI.out.below hbx)
 have HO14 := lh ho
 clear ho hbx
 obtain ⟨w15, hX⟩ : ∃ V, w14.alloc (.cells #[.int .i64 (-1), .bool s14, .slice A14 n14 c14, .bool t14, .slice B14 m14 d14] 67) = V := ⟨_, rfl⟩
 have hbx : Below w14.heap.size w14 w15 := by rw [← hX]; exact (bR _ _).alloc (lR _) _
 have hrx : w15.heap[w14.heap.size]? = some (.cells #[.int .i64 (-1), .bool s14, .slice A14 n14 c14, .bool t14, .slice B14 m14 d14] 67 (0, 0)) := by rw [← hX]; exact heap_alloc_new w14 _
 replace HB := lh (below_on HB.out hbx)
 replace HRc := lh (HRc.out.below hbx)
 replace HI := lh (HI.out.below hbx)
 replace HO14 := lh (HO14.out.below hbx)
 have HL15 : Hid (Lit w15 w14.heap.size [((⟨-1, s14, A14, n14, c14, t14, B14, m14, d14⟩ : TV), 1)]) := ⟨hrx, (all_cons HO14.out (by omega) (by decide +kernel) all_nil)⟩
 clear hrx hbx HO14
 go_wp2_with (first | (refine wpList_r1 (by rfl) _ _ rfl (by rfl) (by kernel_rfl) ?_) | (refine wpList_r2 (by rfl) _ _ _ rfl (by rfl) (by rfl) (by kernel_rfl) ?_) | (refine wpList_rv2 (by rfl) _ _ _ rfl (by rfl) (by rfl) (by kernel_rfl) ?_) | (refine wpList_ri3 (by rfl) _ _ _ _ rfl (by kernel_rfl) ?_) | (refine wpList_r3 (by rfl) _ _ _ _ rfl (by rfl) (by rfl) (by rfl) (by kernel_rfl) ?_) | (refine wpList_ri2 (by rfl) _ _ _ rfl (by kernel_rfl) ?_) | (refine wpList_ri1 (by rfl) _ _ rfl (by kernel_rfl) ?_))
 clear hX
 refine (move_c HI.out (HL15.out.vf (by simp)) (HL15.out.fn (by simp)) (by omega) (by omega) (by omega) false ⟨fun h => (by cases h), fun h => absurd h no_fit2⟩).mono ?_
 rintro e w16 ⟨hbx, ⟨_, rfl⟩ | ⟨h, _⟩⟩
 rotate_left
 ·cases h
 replace HB := lh (below_on HB.out hbx)
 replace HRc := lh (HRc.out.below hbx)
 replace HI := lh (HI.out.below hbx)
 replace HL15 := lh (HL15.out.below hbx)
 clear hbx
 clear HI HL15
 go_upto_region 7 with fail
 obtain ⟨w17, hX⟩ : ∃ V, w16.alloc (.cells #[.int .i64 1, .int .i64 0] 3) = V := ⟨_, rfl⟩
 have hbx : Below w16.heap.size w16 w17 := by rw [← hX]; exact (bR _ _).alloc (lR _) _
 have hrx : w17.heap[w16.heap.size]? = some (.cells #[.int .i64 1, .int .i64 0] 3 (0, 0)) := by rw [← hX]; exact heap_alloc_new w16 _
 replace HB := lh (below_on HB.out hbx)
 replace HRc := lh (HRc.out.below hbx)
 have HI : Hid (RI w17 (some ⟨w16.heap.size, 0, none⟩) 2 [1, 0]) := RI.lits (xs := [1, 0]) hrx (by simp) (by decide)
 clear hrx hbx 
 go_wp2_with (first | (refine wpList_r1 (by rfl) _ _ rfl (by rfl) (by kernel_rfl) ?_) | (refine wpList_r2 (by rfl) _ _ _ rfl (by rfl) (by rfl) (by kernel_rfl) ?_) | (refine wpList_rv2 (by rfl) _ _ _ rfl (by rfl) (by rfl) (by kernel_rfl) ?_) | (refine wpList_ri3 (by rfl) _ _ _ _ rfl (by kernel_rfl) ?_) | (refine wpList_r3 (by rfl) _ _ _ _ rfl (by rfl) (by rfl) (by rfl) (by kernel_rfl) ?_) | (refine wpList_ri2 (by rfl) _ _ _ rfl (by kernel_rfl) ?_) | (refine wpList_ri1 (by rfl) _ _ rfl (by kernel_rfl) ?_))
 clear hX
 refine (term6_any w17 (9) (1) (by omega) (by omega) (1) (by decide +kernel)).mono ?_
 rintro e w18 ⟨s18, A18, n18, c18, t18, B18, m18, d18, rfl, ho, hbx⟩
 replace HB := lh (below_on HB.out hbx)
 replace HRc := lh (HRc.out.below hbx)
 replace HI := lh (HI.out.below hbx)
 have HO18 := lh ho
 clear ho hbx
 go_wp2_with (first | (refine wpList_r1 (by rfl) _ _ rfl (by rfl) (by kernel_rfl) ?_) | (refine wpList_r2 (by rfl) _ _ _ rfl (by rfl) (by rfl) (by kernel_rfl) ?_) | (refine wpList_rv2 (by rfl) _ _ _ rfl (by rfl) (by rfl) (by kernel_rfl) ?_) | (refine wpList_ri3 (by rfl) _ _ _ _ rfl (by kernel_rfl) ?_) | (refine wpList_r3 (by rfl) _ _ _ _ rfl (by rfl) (by rfl) (by rfl) (by kernel_rfl) ?_) | (refine wpList_ri2 (by rfl) _ _ _ rfl (by kernel_rfl) ?_) | (refine wpList_ri1 (by rfl) _ _ rfl (by kernel_rfl) ?_))
 refine (term6_any w18 (9) (-1) (by omega) (by omega) (-1) (by decide +kernel)).mono ?_
 rintro e w19 ⟨s19, A19, n19, c19, t19, B19, m19, d19, rfl, ho, hbx⟩
 replace HB := lh (below_on HB.out hbx)
 replace HRc := lh (HRc.out.below hbx)
 replace HI := lh (HI.out.below hbx)
 replace HO18 := lh (HO18.out.below hbx)
 have HO19 := lh ho
 clear ho hbx
 go_wp2_with (first | (refine wpList_r1 (by rfl) _ _ rfl (by rfl) (by kernel_rfl) ?_) | (refine wpList_r2 (by rfl) _ _ _ rfl (by rfl) (by rfl) (by kernel_rfl) ?_) | (refine wpList_rv2 (by rfl) _ _ _ rfl (by rfl) (by rfl) (by kernel_rfl) ?_) | (refine wpList_ri3 (by rfl) _ _ _ _ rfl (by kernel_rfl) ?_) | (refine wpList_r3 (by rfl) _ _ _ _ rfl (by rfl) (by rfl) (by rfl) (by kernel_rfl) ?_) | (refine wpList_ri2 (by rfl) _ _ _ rfl (by kernel_rfl) ?_) | (refine wpList_ri1 (by rfl) _ _ rfl (by kernel_rfl) ?_))
 refine (term6_any w19 (0) (4) (by omega) (by omega) (4) (by decide +kernel)).mono ?_
 rintro e w20 ⟨s20, A20, n20, c20, t20, B20, m20, d20, rfl, ho, hbx⟩
 replace HB := lh (below_on HB.out hbx)
 replace HRc := lh (HRc.out.below hbx)
 replace HI := lh (HI.out.below hbx)
 replace HO18 := lh (HO18.out.below hbx)
 replace HO19 := lh (HO19.out.below hbx)
 have HO20 := lh ho
 clear ho hbx
 obtain ⟨w21, hX⟩ : ∃ V, w20.alloc (.cells #[.int .i64 9, .bool s18, .slice A18 n18 c18, .bool t18, .slice B18 m18 d18, .int .i64 9, .bool s19, .slice A19 n19 c19, .bool t19, .slice B19 m19 d19, .int .i64 0, .bool s20, .slice A20 n20 c20, .bool t20, .slice B20 m20 d20] 67) = V := ⟨_, rfl⟩
 have hbx : Below w20.heap.size w20 w21 := by rw [← hX]; exact (bR _ _).alloc (lR _) _
 have hrx : w21.heap[w20.heap.size]? = some (.cells #[.int .i64 9, .bool s18, .slice A18 n18 c18, .bool t18, .slice B18 m18 d18, .int .i64 9, .bool s19, .slice A19 n19 c19, .bool t19, .slice B19 m19 d19, .int .i64 0, .bool s20, .slice A20 n20 c20, .bool t20, .slice B20 m20 d20] 67 (0, 0)) := by rw [← hX]; exact heap_alloc_new w20 _
 replace HB := lh (below_on HB.out hbx)
 replace HRc := lh (HRc.out.below hbx)
 replace HI := lh (HI.out.below hbx)
 replace HO18 := lh (HO18.out.below hbx)
 replace HO19 := lh (HO19.out.below hbx)
 replace HO20 := lh (HO20.out.below hbx)
 have HL21 : Hid (Lit w21 w20.heap.size [((⟨9, s18, A18, n18, c18, t18, B18, m18, d18⟩ : TV), 1), ((⟨9, s19, A19, n19, c19, t19, B19, m19, d19⟩ : TV), -1), ((⟨0, s20, A20, n20, c20, t20, B20, m20, d20⟩ : TV), 4)]) := ⟨hrx, (all_cons HO18.out (by omega) (by decide +kernel) (all_cons HO19.out (by omega) (by decide +kernel) (all_cons HO20.out (by omega) (by decide +kernel) all_nil)))⟩
 clear hrx hbx HO18 HO19 HO20
 go_wp2_with (first | (refine wpList_r1 (by rfl) _ _ rfl (by rfl) (by kernel_rfl) ?_) | (refine wpList_r2 (by rfl) _ _ _ rfl (by rfl) (by rfl) (by kernel_rfl) ?_) | (refine wpList_rv2 (by rfl) _ _ _ rfl (by rfl) (by rfl) (by kernel_rfl) ?_) | (refine wpList_ri3 (by rfl) _ _ _ _ rfl (by kernel_rfl) ?_) | (refine wpList_r3 (by rfl) _ _ _ _ rfl (by rfl) (by rfl) (by rfl) (by kernel_rfl) ?_) | (refine wpList_ri2 (by rfl) _ _ _ rfl (by kernel_rfl) ?_) | (refine wpList_ri1 (by rfl) _ _ rfl (by kernel_rfl) ?_))
 clear hX
 refine (move_c HI.out (HL21.out.vf (by simp)) (HL21.out.fn (by simp)) (by omega) (by omega) (by omega) true ⟨fun _ => fits_10, fun _ => rfl⟩).mono ?_
 rintro e w22 ⟨hbx, ⟨h, _⟩ | ⟨_, Gh, nh, ch, rfl, hc⟩⟩
 ·cases h
 replace HB := lh (below_on HB.out hbx)
 replace HRc := lh (HRc.out.below hbx)
 replace HI := lh (HI.out.below hbx)
 replace HL21 := lh (HL21.out.below hbx)
 have hc : CF _ Gh nh ch (mv [1, 0] (tot [(9, 1), (9, -1), (0, 4)])) := hc
 rw [funext mv_10] at hc
 have HRh := lh hc
 clear hc hbx
 clear HI HL21
 go_upto_region 8 with fail
 obtain ⟨vst, hrs, hrl, _, hrc⟩ := HRc.out
 obtain ⟨v0, hv0⟩ : ∃ v, vst[0]? = some v := ⟨vst[0]'(by omega), gE (by omega)⟩
 have hn0 := (cf_list (l := [(0, 1)]) (by have h := hrc 0 v0 hv0; rw [funext row0_c0] at h; exact h) (canon_one (a := 0) (q := 1) (by decide +kernel))).1
 obtain ⟨b1, off1, hA1, hk1⟩ := rows_at hrs hv0
 subst hA1
 have k0 := hk1 _ (bR _ _)
 have hn0' : v0.n = 1 := hn0
 rw [hn0', Nat.add_zero] at k0
 obtain ⟨hnh, zsh, hzh, hvh⟩ := cf_list HRh.out (canon_one (a := 1) (q := 4) (by decide +kernel))
 have hnh' : nh = 1 := hnh
 subst hnh'
 have hzl : zsh.length = 1 := hzh.en.symm
 obtain ⟨zh, hz0⟩ : ∃ z, zsh[0]? = some z := ⟨zsh[0]'(by omega), gE (by omega)⟩
 obtain ⟨b2, off2, hA2, hk2⟩ := row_at2 hzh.row (j := 0) (x := zh.1) (by rw [gM, hz0]; rfl)
 subst hA2
 have k1 := (hk2 _ (bR _ _)).1
 have hat : zh.1.at_ = 1 := by
  have h3 : (vals zsh)[0]? = some (zh.1.at_, zh.2) := by unfold vals; rw [gM, hz0]; rfl
  rw [hvh] at h3
  exact (congrArg Prod.fst (Option.some.inj h3)).symm
 rw [hat, Nat.zero_mul, Nat.add_zero] at k1
 clear hrs hrl hrc hv0 hn0 hk1 hn0' hnh hzh hvh hzl hz0 hk2 hat HRc HRh
 go_upto_region 9 with fail
 clear k0 k1
 go_wp2_with (first | (refine wpList_r1 (by rfl) _ _ rfl (by rfl) (by kernel_rfl) ?_) | (refine wpList_r2 (by rfl) _ _ _ rfl (by rfl) (by rfl) (by kernel_rfl) ?_) | (refine wpList_rv2 (by rfl) _ _ _ rfl (by rfl) (by rfl) (by kernel_rfl) ?_) | (refine wpList_ri3 (by rfl) _ _ _ _ rfl (by kernel_rfl) ?_) | (refine wpList_r3 (by rfl) _ _ _ _ rfl (by rfl) (by rfl) (by rfl) (by kernel_rfl) ?_) | (refine wpList_ri2 (by rfl) _ _ _ rfl (by kernel_rfl) ?_) | (refine wpList_ri1 (by rfl) _ _ rfl (by kernel_rfl) ?_))
 refine (perm_any (RI.nil _) true ⟨fun _ => ⟨by decide, by decide⟩, fun _ => rfl⟩).mono ?_
 rintro e w23 ⟨rfl, hbx⟩
 replace HB := lh (below_on HB.out hbx)
 clear hbx
 obtain ⟨w24, hX⟩ : ∃ V, w23.alloc (.cells #[.int .i64 0] 3) = V := ⟨_, rfl⟩
 have hbx : Below w23.heap.size w23 w24 := by rw [← hX]; exact (bR _ _).alloc (lR _) _
 have hrx : w24.heap[w23.heap.size]? = some (.cells #[.int .i64 0] 3 (0, 0)) := by rw [← hX]; exact heap_alloc_new w23 _
 replace HB := lh (below_on HB.out hbx)
 have HI : Hid (RI w24 (some ⟨w23.heap.size, 0, none⟩) 1 [0]) := RI.lits (xs := [0]) hrx (by simp) (by decide)
 clear hrx hbx 
 go_wp2_with (first | (refine wpList_r1 (by rfl) _ _ rfl (by rfl) (by kernel_rfl) ?_) | (refine wpList_r2 (by rfl) _ _ _ rfl (by rfl) (by rfl) (by kernel_rfl) ?_) | (refine wpList_rv2 (by rfl) _ _ _ rfl (by rfl) (by rfl) (by kernel_rfl) ?_) | (refine wpList_ri3 (by rfl) _ _ _ _ rfl (by kernel_rfl) ?_) | (refine wpList_r3 (by rfl) _ _ _ _ rfl (by rfl) (by rfl) (by rfl) (by kernel_rfl) ?_) | (refine wpList_ri2 (by rfl) _ _ _ rfl (by kernel_rfl) ?_) | (refine wpList_ri1 (by rfl) _ _ rfl (by kernel_rfl) ?_))
 clear hX
 refine (perm_any HI.out true ⟨fun _ => ⟨by decide, by decide⟩, fun _ => rfl⟩).mono ?_
 rintro e w25 ⟨rfl, hbx⟩
 replace HB := lh (below_on HB.out hbx)
 replace HI := lh (HI.out.below hbx)
 clear hbx
 clear HI
 obtain ⟨w26, hX⟩ : ∃ V, w25.alloc (.cells #[.int .i64 1] 3) = V := ⟨_, rfl⟩
 have hbx : Below w25.heap.size w25 w26 := by rw [← hX]; exact (bR _ _).alloc (lR _) _
 have hrx : w26.heap[w25.heap.size]? = some (.cells #[.int .i64 1] 3 (0, 0)) := by rw [← hX]; exact heap_alloc_new w25 _
 replace HB := lh (below_on HB.out hbx)
 have HI : Hid (RI w26 (some ⟨w25.heap.size, 0, none⟩) 1 [1]) := RI.lits (xs := [1]) hrx (by simp) (by decide)
 clear hrx hbx 
 go_wp2_with (first | (refine wpList_r1 (by rfl) _ _ rfl (by rfl) (by kernel_rfl) ?_) | (refine wpList_r2 (by rfl) _ _ _ rfl (by rfl) (by rfl) (by kernel_rfl) ?_) | (refine wpList_rv2 (by rfl) _ _ _ rfl (by rfl) (by rfl) (by kernel_rfl) ?_) | (refine wpList_ri3 (by rfl) _ _ _ _ rfl (by kernel_rfl) ?_) | (refine wpList_r3 (by rfl) _ _ _ _ rfl (by rfl) (by rfl) (by rfl) (by kernel_rfl) ?_) | (refine wpList_ri2 (by rfl) _ _ _ rfl (by kernel_rfl) ?_) | (refine wpList_ri1 (by rfl) _ _ rfl (by kernel_rfl) ?_))
 clear hX
 refine (perm_any HI.out false ⟨fun h => (by cases h), fun h => absurd (h.1 1 (by decide)) (by decide)⟩).mono ?_
 rintro e w27 ⟨rfl, hbx⟩
 replace HB := lh (below_on HB.out hbx)
 replace HI := lh (HI.out.below hbx)
 clear hbx
 clear HI
 obtain ⟨w28, hX⟩ : ∃ V, w27.alloc (.cells #[.int .i64 (-1), .int .i64 0] 3) = V := ⟨_, rfl⟩
 have hbx : Below w27.heap.size w27 w28 := by rw [← hX]; exact (bR _ _).alloc (lR _) _
 have hrx : w28.heap[w27.heap.size]? = some (.cells #[.int .i64 (-1), .int .i64 0] 3 (0, 0)) := by rw [← hX]; exact heap_alloc_new w27 _
 replace HB := lh (below_on HB.out hbx)
 have HI : Hid (RI w28 (some ⟨w27.heap.size, 0, none⟩) 2 [-1, 0]) := RI.lits (xs := [-1, 0]) hrx (by simp) (by decide)
 clear hrx hbx 
 go_wp2_with (first | (refine wpList_r1 (by rfl) _ _ rfl (by rfl) (by kernel_rfl) ?_) | (refine wpList_r2 (by rfl) _ _ _ rfl (by rfl) (by rfl) (by kernel_rfl) ?_) | (refine wpList_rv2 (by rfl) _ _ _ rfl (by rfl) (by rfl) (by kernel_rfl) ?_) | (refine wpList_ri3 (by rfl) _ _ _ _ rfl (by kernel_rfl) ?_) | (refine wpList_r3 (by rfl) _ _ _ _ rfl (by rfl) (by rfl) (by rfl) (by kernel_rfl) ?_) | (refine wpList_ri2 (by rfl) _ _ _ rfl (by kernel_rfl) ?_) | (refine wpList_ri1 (by rfl) _ _ rfl (by kernel_rfl) ?_))
 clear hX
 refine (perm_any HI.out false ⟨fun h => (by cases h), fun h => absurd (h.1 (-1) (by decide)) (by decide)⟩).mono ?_
 rintro e w29 ⟨rfl, hbx⟩
 replace HB := lh (below_on HB.out hbx)
 replace HI := lh (HI.out.below hbx)
 clear hbx
 clear HI
 obtain ⟨w30, hX⟩ : ∃ V, w29.alloc (.cells #[.int .i64 0, .int .i64 0] 3) = V := ⟨_, rfl⟩
 have hbx : Below w29.heap.size w29 w30 := by rw [← hX]; exact (bR _ _).alloc (lR _) _
 have hrx : w30.heap[w29.heap.size]? = some (.cells #[.int .i64 0, .int .i64 0] 3 (0, 0)) := by rw [← hX]; exact heap_alloc_new w29 _
 replace HB := lh (below_on HB.out hbx)
 have HI : Hid (RI w30 (some ⟨w29.heap.size, 0, none⟩) 2 [0, 0]) := RI.lits (xs := [0, 0]) hrx (by simp) (by decide)
 clear hrx hbx 
 go_wp2_with (first | (refine wpList_r1 (by rfl) _ _ rfl (by rfl) (by kernel_rfl) ?_) | (refine wpList_r2 (by rfl) _ _ _ rfl (by rfl) (by rfl) (by kernel_rfl) ?_) | (refine wpList_rv2 (by rfl) _ _ _ rfl (by rfl) (by rfl) (by kernel_rfl) ?_) | (refine wpList_ri3 (by rfl) _ _ _ _ rfl (by kernel_rfl) ?_) | (refine wpList_r3 (by rfl) _ _ _ _ rfl (by rfl) (by rfl) (by rfl) (by kernel_rfl) ?_) | (refine wpList_ri2 (by rfl) _ _ _ rfl (by kernel_rfl) ?_) | (refine wpList_ri1 (by rfl) _ _ rfl (by kernel_rfl) ?_))
 clear hX
 refine (perm_any HI.out false ⟨fun h => (by cases h), fun h => absurd h.2 (by decide)⟩).mono ?_
 rintro e w31 ⟨rfl, hbx⟩
 replace HB := lh (below_on HB.out hbx)
 replace HI := lh (HI.out.below hbx)
 clear hbx
 clear HI
 go_wp2_with (first | (refine wpList_r1 (by rfl) _ _ rfl (by rfl) (by kernel_rfl) ?_) | (refine wpList_r2 (by rfl) _ _ _ rfl (by rfl) (by rfl) (by kernel_rfl) ?_) | (refine wpList_rv2 (by rfl) _ _ _ rfl (by rfl) (by rfl) (by kernel_rfl) ?_) | (refine wpList_ri3 (by rfl) _ _ _ _ rfl (by kernel_rfl) ?_) | (refine wpList_r3 (by rfl) _ _ _ _ rfl (by rfl) (by rfl) (by rfl) (by kernel_rfl) ?_) | (refine wpList_ri2 (by rfl) _ _ _ rfl (by kernel_rfl) ?_) | (refine wpList_ri1 (by rfl) _ _ rfl (by kernel_rfl) ?_))
 refine (cols_any w31).mono ?_
 rintro e w32 ⟨gd, vsd, rfl, hlv, hcs, hmx, hbx⟩
 replace HB := lh (below_on HB.out hbx)
 have HMd := lh hmx
 have HVd := lh hlv
 have HCd := lh hcs
 clear hlv hmx hcs hbx
 go_wp2_with (first | (refine wpList_r1 (by rfl) _ _ rfl (by rfl) (by kernel_rfl) ?_) | (refine wpList_r2 (by rfl) _ _ _ rfl (by rfl) (by rfl) (by kernel_rfl) ?_) | (refine wpList_rv2 (by rfl) _ _ _ rfl (by rfl) (by rfl) (by kernel_rfl) ?_) | (refine wpList_ri3 (by rfl) _ _ _ _ rfl (by kernel_rfl) ?_) | (refine wpList_r3 (by rfl) _ _ _ _ rfl (by rfl) (by rfl) (by rfl) (by kernel_rfl) ?_) | (refine wpList_ri2 (by rfl) _ _ _ rfl (by kernel_rfl) ?_) | (refine wpList_ri1 (by rfl) _ _ rfl (by kernel_rfl) ?_))
 refine (mright_b HMd.out (by rw [HCd.out]; exact mr_c0) (by omega) (by omega) (by omega) true ⟨fun _ => right_c0 HVd.out HCd.out, fun _ => rfl⟩).mono ?_
 rintro e w33 ⟨rfl, hbx⟩
 replace HB := lh (below_on HB.out hbx)
 replace HMd := lh (HMd.out.below hbx)
 replace HVd := lh (HVd.out.below hbx)
 clear hbx
 clear HMd HVd
 go_wp2_with (first | (refine wpList_r1 (by rfl) _ _ rfl (by rfl) (by kernel_rfl) ?_) | (refine wpList_r2 (by rfl) _ _ _ rfl (by rfl) (by rfl) (by kernel_rfl) ?_) | (refine wpList_rv2 (by rfl) _ _ _ rfl (by rfl) (by rfl) (by kernel_rfl) ?_) | (refine wpList_ri3 (by rfl) _ _ _ _ rfl (by kernel_rfl) ?_) | (refine wpList_r3 (by rfl) _ _ _ _ rfl (by rfl) (by rfl) (by rfl) (by kernel_rfl) ?_) | (refine wpList_ri2 (by rfl) _ _ _ rfl (by kernel_rfl) ?_) | (refine wpList_ri1 (by rfl) _ _ rfl (by kernel_rfl) ?_))
 refine (cols_any w33).mono ?_
 rintro e w34 ⟨ge, vse, rfl, hlv, hcs, hmx, hbx⟩
 replace HB := lh (below_on HB.out hbx)
 have HMe := lh hmx
 have HVe := lh hlv
 have HCe := lh hcs
 clear hlv hmx hcs hbx
 go_wp2_with (first | (refine wpList_r1 (by rfl) _ _ rfl (by rfl) (by kernel_rfl) ?_) | (refine wpList_r2 (by rfl) _ _ _ rfl (by rfl) (by rfl) (by kernel_rfl) ?_) | (refine wpList_rv2 (by rfl) _ _ _ rfl (by rfl) (by rfl) (by kernel_rfl) ?_) | (refine wpList_ri3 (by rfl) _ _ _ _ rfl (by kernel_rfl) ?_) | (refine wpList_r3 (by rfl) _ _ _ _ rfl (by rfl) (by rfl) (by rfl) (by kernel_rfl) ?_) | (refine wpList_ri2 (by rfl) _ _ _ rfl (by kernel_rfl) ?_) | (refine wpList_ri1 (by rfl) _ _ rfl (by kernel_rfl) ?_))
 refine (mright_b HMe.out (by rw [HCe.out]; exact mr_c0) (by omega) (by omega) (by omega) false ⟨fun h => (by cases h), fun h => absurd h (right1_c0 HCe.out)⟩).mono ?_
 rintro e w35 ⟨rfl, hbx⟩
 replace HB := lh (below_on HB.out hbx)
 replace HMe := lh (HMe.out.below hbx)
 replace HVe := lh (HVe.out.below hbx)
 clear hbx
 clear HMe HVe
 go_wp2_with (first | (refine wpList_r1 (by rfl) _ _ rfl (by rfl) (by kernel_rfl) ?_) | (refine wpList_r2 (by rfl) _ _ _ rfl (by rfl) (by rfl) (by kernel_rfl) ?_) | (refine wpList_rv2 (by rfl) _ _ _ rfl (by rfl) (by rfl) (by kernel_rfl) ?_) | (refine wpList_ri3 (by rfl) _ _ _ _ rfl (by kernel_rfl) ?_) | (refine wpList_r3 (by rfl) _ _ _ _ rfl (by rfl) (by rfl) (by rfl) (by kernel_rfl) ?_) | (refine wpList_ri2 (by rfl) _ _ _ rfl (by kernel_rfl) ?_) | (refine wpList_ri1 (by rfl) _ _ rfl (by kernel_rfl) ?_))
 refine (mright_b (MX.nil _) mr_nil (by omega) (by omega) (by omega) false ⟨fun h => (by cases h), fun h => by have := h.1; omega⟩).mono ?_
 rintro e w36 ⟨rfl, hbx⟩
 replace HB := lh (below_on HB.out hbx)
 clear hbx
 go_wp2_with (first | (refine wpList_r1 (by rfl) _ _ rfl (by rfl) (by kernel_rfl) ?_) | (refine wpList_r2 (by rfl) _ _ _ rfl (by rfl) (by rfl) (by kernel_rfl) ?_) | (refine wpList_rv2 (by rfl) _ _ _ rfl (by rfl) (by rfl) (by kernel_rfl) ?_) | (refine wpList_ri3 (by rfl) _ _ _ _ rfl (by kernel_rfl) ?_) | (refine wpList_r3 (by rfl) _ _ _ _ rfl (by rfl) (by rfl) (by rfl) (by kernel_rfl) ?_) | (refine wpList_ri2 (by rfl) _ _ _ rfl (by kernel_rfl) ?_) | (refine wpList_ri1 (by rfl) _ _ rfl (by kernel_rfl) ?_))
 refine (mright_b (MX.nil _) mr_nil (by omega) (by omega) (by omega) true ⟨fun _ => ⟨by omega, fun _ h => by cases h⟩, fun _ => rfl⟩).mono ?_
 rintro e w37 ⟨rfl, hbx⟩
 replace HB := lh (below_on HB.out hbx)
 clear hbx
 go_wp2_with (first | (refine wpList_r1 (by rfl) _ _ rfl (by rfl) (by kernel_rfl) ?_) | (refine wpList_r2 (by rfl) _ _ _ rfl (by rfl) (by rfl) (by kernel_rfl) ?_) | (refine wpList_rv2 (by rfl) _ _ _ rfl (by rfl) (by rfl) (by kernel_rfl) ?_) | (refine wpList_ri3 (by rfl) _ _ _ _ rfl (by kernel_rfl) ?_) | (refine wpList_r3 (by rfl) _ _ _ _ rfl (by rfl) (by rfl) (by rfl) (by kernel_rfl) ?_) | (refine wpList_ri2 (by rfl) _ _ _ rfl (by kernel_rfl) ?_) | (refine wpList_ri1 (by rfl) _ _ rfl (by kernel_rfl) ?_))
 refine (cols_any w37).mono ?_
 rintro e w38 ⟨gf, vsf, rfl, hlv, hcs, hmx, hbx⟩
 replace HB := lh (below_on HB.out hbx)
 have HMf := lh hmx
 have HVf := lh hlv
 have HCf := lh hcs
 clear hlv hmx hcs hbx
 go_wp2_with (first | (refine wpList_r1 (by rfl) _ _ rfl (by rfl) (by kernel_rfl) ?_) | (refine wpList_r2 (by rfl) _ _ _ rfl (by rfl) (by rfl) (by kernel_rfl) ?_) | (refine wpList_rv2 (by rfl) _ _ _ rfl (by rfl) (by rfl) (by kernel_rfl) ?_) | (refine wpList_ri3 (by rfl) _ _ _ _ rfl (by kernel_rfl) ?_) | (refine wpList_r3 (by rfl) _ _ _ _ rfl (by rfl) (by rfl) (by rfl) (by kernel_rfl) ?_) | (refine wpList_ri2 (by rfl) _ _ _ rfl (by kernel_rfl) ?_) | (refine wpList_ri1 (by rfl) _ _ rfl (by kernel_rfl) ?_))
 refine (term6_any w38 (2) (1) (by omega) (by omega) (1) (by decide +kernel)).mono ?_
 rintro e w39 ⟨s39, A39, n39, c39, t39, B39, m39, d39, rfl, ho, hbx⟩
 replace HB := lh (below_on HB.out hbx)
 replace HMf := lh (HMf.out.below hbx)
 replace HVf := lh (HVf.out.below hbx)
 have HO39 := lh ho
 clear ho hbx
 go_wp2_with (first | (refine wpList_r1 (by rfl) _ _ rfl (by rfl) (by kernel_rfl) ?_) | (refine wpList_r2 (by rfl) _ _ _ rfl (by rfl) (by rfl) (by kernel_rfl) ?_) | (refine wpList_rv2 (by rfl) _ _ _ rfl (by rfl) (by rfl) (by kernel_rfl) ?_) | (refine wpList_ri3 (by rfl) _ _ _ _ rfl (by kernel_rfl) ?_) | (refine wpList_r3 (by rfl) _ _ _ _ rfl (by rfl) (by rfl) (by rfl) (by kernel_rfl) ?_) | (refine wpList_ri2 (by rfl) _ _ _ rfl (by kernel_rfl) ?_) | (refine wpList_ri1 (by rfl) _ _ rfl (by kernel_rfl) ?_))
 refine (term6_any w39 (-1) (1) (by omega) (by omega) (1) (by decide +kernel)).mono ?_
 rintro e w40 ⟨s40, A40, n40, c40, t40, B40, m40, d40, rfl, ho, hbx⟩
 replace HB := lh (below_on HB.out hbx)
 replace HMf := lh (HMf.out.below hbx)
 replace HVf := lh (HVf.out.below hbx)
 replace HO39 := lh (HO39.out.below hbx)
 have HO40 := lh ho
 clear ho hbx
 obtain ⟨w41, hX⟩ : ∃ V, w40.alloc (.cells #[.int .i64 2, .bool s39, .slice A39 n39 c39, .bool t39, .slice B39 m39 d39, .int .i64 (-1), .bool s40, .slice A40 n40 c40, .bool t40, .slice B40 m40 d40] 67) = V := ⟨_, rfl⟩
 have hbx : Below w40.heap.size w40 w41 := by rw [← hX]; exact (bR _ _).alloc (lR _) _
 have hrx : w41.heap[w40.heap.size]? = some (.cells #[.int .i64 2, .bool s39, .slice A39 n39 c39, .bool t39, .slice B39 m39 d39, .int .i64 (-1), .bool s40, .slice A40 n40 c40, .bool t40, .slice B40 m40 d40] 67 (0, 0)) := by rw [← hX]; exact heap_alloc_new w40 _
 replace HB := lh (below_on HB.out hbx)
 replace HMf := lh (HMf.out.below hbx)
 replace HVf := lh (HVf.out.below hbx)
 replace HO39 := lh (HO39.out.below hbx)
 replace HO40 := lh (HO40.out.below hbx)
 have HL41 : Hid (Lit w41 w40.heap.size [((⟨2, s39, A39, n39, c39, t39, B39, m39, d39⟩ : TV), 1), ((⟨-1, s40, A40, n40, c40, t40, B40, m40, d40⟩ : TV), 1)]) := ⟨hrx, (all_cons HO39.out (by omega) (by decide +kernel) (all_cons HO40.out (by omega) (by decide +kernel) all_nil))⟩
 clear hrx hbx HO39 HO40
 go_wp2_with (first | (refine wpList_r1 (by rfl) _ _ rfl (by rfl) (by kernel_rfl) ?_) | (refine wpList_r2 (by rfl) _ _ _ rfl (by rfl) (by rfl) (by kernel_rfl) ?_) | (refine wpList_rv2 (by rfl) _ _ _ rfl (by rfl) (by rfl) (by kernel_rfl) ?_) | (refine wpList_ri3 (by rfl) _ _ _ _ rfl (by kernel_rfl) ?_) | (refine wpList_r3 (by rfl) _ _ _ _ rfl (by rfl) (by rfl) (by rfl) (by kernel_rfl) ?_) | (refine wpList_ri2 (by rfl) _ _ _ rfl (by kernel_rfl) ?_) | (refine wpList_ri1 (by rfl) _ _ rfl (by kernel_rfl) ?_))
 clear hX
 refine (times_c HMf.out (HL41.out.vf (by simp)) (by rw [HCf.out]; exact ts_c0 (HL41.out.fn (by simp)))).mono ?_
 rintro e w42 ⟨Gt, nt, ct, rfl, hc, hbx⟩
 replace HB := lh (below_on HB.out hbx)
 replace HMf := lh (HMf.out.below hbx)
 replace HVf := lh (HVf.out.below hbx)
 replace HL41 := lh (HL41.out.below hbx)
 rw [HCf.out] at hc
 have hnt : nt = 0 := hc.empty (fun a => times0_c0 a)
 subst hnt
 clear hc hbx
 clear HMf HVf HL41
 go_upto_region 10 with fail
 go_wp2_with (first | (refine wpList_r1 (by rfl) _ _ rfl (by rfl) (by kernel_rfl) ?_) | (refine wpList_r2 (by rfl) _ _ _ rfl (by rfl) (by rfl) (by kernel_rfl) ?_) | (refine wpList_rv2 (by rfl) _ _ _ rfl (by rfl) (by rfl) (by kernel_rfl) ?_) | (refine wpList_ri3 (by rfl) _ _ _ _ rfl (by kernel_rfl) ?_) | (refine wpList_r3 (by rfl) _ _ _ _ rfl (by rfl) (by rfl) (by rfl) (by kernel_rfl) ?_) | (refine wpList_ri2 (by rfl) _ _ _ rfl (by kernel_rfl) ?_) | (refine wpList_ri1 (by rfl) _ _ rfl (by kernel_rfl) ?_))
 refine (awake6 _).mono ?_
 rintro e w43 ⟨rfl, hbx⟩
 replace HB := lh (below_on HB.out hbx)
 clear hbx
 go_wp2_with fail
 go_ret
 exact ⟨rfl, HB.out⟩
