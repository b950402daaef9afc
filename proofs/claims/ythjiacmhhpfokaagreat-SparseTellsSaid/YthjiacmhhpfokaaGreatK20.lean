/- Part 20 of the proof: VDense, VLit, VOne, VFun. -/
import Derived.Test.YthjiacmhhpfokaaGreatK19
namespace Go.Proofs.YthjiacmhhpfokaaGreat
open Go.Proofs.Tryz renaming prog → tz
open Nat renaming le_refl → lR, le_trans → lT, lt_of_lt_of_le → lL, mul_comm → mC
open Go.RowKit.Below renaming refl → bR
open Option.some renaming inj → oI
open List renaming length_cons → lC
namespace V
open Lib renaming hid → lh
set_option maxRecDepth 100000
open Go.RowKit
open Q (IsQ OneQ RetQ below_on ql Qbx)
theorem own_isv {w : World} {g n c k : Nat} {zs : List (TV × Rat)} (ho : OwnT w 0 (.slice (some ⟨g, 0, none⟩) n c) (zs.map Prod.fst)) (h4 : ∀ y ∈ zs, OneQ w y.1.s y.1.A y.1.n y.1.c y.1.t y.1.B y.1.m y.1.d y.2 ∧ -9223372036854775808 ≤ y.1.at_ ∧ y.1.at_ ≤ 9223372036854775807) (hk : ∀ y ∈ zs, ql y.2 ≤ k) : IsV w (some ⟨g, 0, none⟩) n c zs k := by
 rcases ho.row.2 with ⟨h0, _⟩ | ⟨g', cap, cur, e, _, hgc, hnc, _, hcs, htake⟩
 ·cases h0
 ·obtain ⟨rfl, rfl, rfl⟩ : g = g' ∧ n = (zs.map Prod.fst).length ∧ c = cap := by simpa using e
  refine ⟨by rw [List.length_map], hnc, row_cells (lt_of_block hgc) ?_, fun y hy => ⟨(h4 y hy).1.isq (hk y hy), (h4 y hy).2⟩⟩
  intro j u hj
  rw [Nat.zero_add, cell_of_row w g j _ _ _ hgc]
  rw [← htake, List.getElem?_take] at hj
  split at hj
  ·simpa using hj
  ·cases hj
theorem keep_dense {w : World} {gI : Nat} {p : Int} (hg : w.heap[gI]? = some (.cells #[.int .i64 p] 3 (0, 0))) : Keep w 101 #[.pointer (some ⟨gI, 0, none⟩)] (fun a => decide (0 ≤ a) && decide (a < p)) := by
 refine ⟨enters_of Tryz.func101 (by kernel_rfl) rfl, ?_⟩
 intro W a hb _ _
 show Calls tz 101 #[.int .i64 a, .pointer (some ⟨gI, 0, none⟩)] W (fun e W' => e = .returned (.bool (decide (0 ≤ a) && decide (a < p))) ∧ Below W.heap.size W W')
 have hc : W.cell? ⟨gI, 0, none⟩ = some (.int .i64 p) := by rw [cell_of_row W gI 0 _ _ _ ((hb.block gI (lt_of_block hg)).trans hg)]; rfl
 clear hg hb
 by_cases h0 : 0 ≤ a
 ·by_cases h1 : a < p
  ·rw [show (decide (0 ≤ a) && decide (a < p)) = true by rw [decide_eq_true h0, decide_eq_true h1]; rfl]
   go_enter Tryz.func101, Tryz.ntmps101
   go_wp2_with fail
   exact ⟨rfl, .bool true, by simp [results, Tryz.results101, go_sem], rfl, bR _ _⟩
  ·rw [show (decide (0 ≤ a) && decide (a < p)) = false by rw [decide_eq_true h0, decide_eq_false h1]; rfl]
   go_enter Tryz.func101, Tryz.ntmps101
   go_wp2_with fail
   exact ⟨rfl, .bool false, by simp [results, Tryz.results101, go_sem], rfl, bR _ _⟩
 ·rw [show (decide (0 ≤ a) && decide (a < p)) = false by rw [decide_eq_false h0]; rfl]
  go_enter Tryz.func101, Tryz.ntmps101
  go_wp2_with fail
  exact ⟨rfl, .bool false, by simp [results, Tryz.results101, go_sem], rfl, bR _ _⟩
def Rats (w : World) (r N : Nat) (F : Nat → Rat) : Prop :=
 ∃ cur : Array Value, w.heap[r]? = some (.cells cur 27 (0, 0)) ∧ cur.size = N * 4 ∧ ∀ i, i < N → ∃ s A n c t B m d, cur[i * 4]? = some (.bool s) ∧ cur[i * 4 + 1]? = some (.slice A n c) ∧ cur[i * 4 + 2]? = some (.bool t) ∧ cur[i * 4 + 3]? = some (.slice B m d) ∧ OneQ w s A n c t B m d (F i)
theorem Rats.dig {w : World} {r N : Nat} {F : Nat → Rat} (h : Rats w r N F) : NoDig w (fun b => b = r) := by
 intro b hb i v hv z
 obtain ⟨cur, h1, h2, h3⟩ := h
 rw [hb, cell_of_row _ _ i _ _ _ h1] at hv
 have hi : i < N * 4 := by rw [← h2]; exact (Array.getElem?_eq_some_iff.1 hv).1
 obtain ⟨s, A, n, c, t, B, m, d, c0, c1, c2, c3, _⟩ := h3 (i / 4) (by omega)
 have h4 : i % 4 = 0 ∨ i % 4 = 1 ∨ i % 4 = 2 ∨ i % 4 = 3 := by omega
 rcases h4 with h4 | h4 | h4 | h4
 ·rw [show i = i / 4 * 4 by omega, c0] at hv; obtain rfl := oI hv; intro h; cases h
 ·rw [show i = i / 4 * 4 + 1 by omega, c1] at hv; obtain rfl := oI hv; intro h; cases h
 ·rw [show i = i / 4 * 4 + 2 by omega, c2] at hv; obtain rfl := oI hv; intro h; cases h
 ·rw [show i = i / 4 * 4 + 3 by omega, c3] at hv; obtain rfl := oI hv; intro h; cases h
theorem one_near {Own : Nat → Prop} {w wx : World} {s t : Bool} {A B : Option Addr} {n c m d : Nat} {q : Rat} (h : OneQ w s A n c t B m d q) (hd : NoDig w Own) (hn : Near Own w wx) : OneQ wx s A n c t B m d q :=
 ⟨h.es, h.en, h.et, h.em, num_near h.num hd hn, num_near h.den hd hn, h.cap, h.cap2⟩
theorem Rats.below {w W : World} {r N : Nat} {F : Nat → Rat} (h : Rats w r N F) (hb : Below w.heap.size w W) : Rats W r N F := by
 obtain ⟨cur, h1, h2, h3⟩ := h
 refine ⟨cur, (hb.block r (lt_of_block h1)).trans h1, h2, fun i hi => ?_⟩
 obtain ⟨s, A, n, c, t, B, m, d, c0, c1, c2, c3, ho⟩ := h3 i hi
 exact ⟨s, A, n, c, t, B, m, d, c0, c1, c2, c3, ho.below hb⟩
abbrev putR (w : World) (r a : Nat) (s : Bool) (A : Option Addr) (n c : Nat) (t : Bool) (B : Option Addr) (m d : Nat) : World :=
 (((w.setCell ⟨r, a * 4, none⟩ (.bool s)).setCell ⟨r, a * 4 + 1, none⟩ (.slice A n c)).setCell ⟨r, a * 4 + 2, none⟩ (.bool t)).setCell ⟨r, a * 4 + 3, none⟩ (.slice B m d)
theorem near_putR {w : World} {r a : Nat} {s t : Bool} {A B : Option Addr} {n c m d : Nat} : Near (fun b => b = r) w (putR w r a s A n c t B m d) :=
 ((((Near.refl (fun b => b = r) w).setCell r _ _ rfl).setCell r _ _ rfl).setCell r _ _ rfl).setCell r _ _ rfl
theorem Rats.put {w : World} {r N a : Nat} {F : Nat → Rat} {s t : Bool} {A B : Option Addr} {n c m d : Nat} {q : Rat} (h : Rats w r N F) (ha : a < N) (ho : OneQ w s A n c t B m d q) : Rats (putR w r a s A n c t B m d) r N (fun i => if i = a then q else F i) := by
 have hd := h.dig
 obtain ⟨cur, h1, h2, h3⟩ := h
 refine ⟨_, heap_setCell_same _ r _ _ _ _ (heap_setCell_same _ r _ _ _ _ (heap_setCell_same _ r _ _ _ _ (heap_setCell_same w r _ _ _ _ h1))), by simp [h2], fun i hi => ?_⟩
 by_cases e : i = a
 ·subst e
  refine ⟨s, A, n, c, t, B, m, d, ?_, ?_, ?_, ?_, ?_⟩
  ·simp [Array.getElem?_setIfInBounds, h2]; omega
  ·simp [Array.getElem?_setIfInBounds, h2]; omega
  ·simp [Array.getElem?_setIfInBounds, h2]; omega
  ·simp [Array.getElem?_setIfInBounds, h2]; omega
  ·show OneQ _ _ _ _ _ _ _ _ _ (if i = i then q else F i)
   rw [if_pos rfl]; exact one_near ho hd near_putR
 ·obtain ⟨s', A', n', c', t', B', m', d', c0, c1, c2, c3, ho'⟩ := h3 i hi
  refine ⟨s', A', n', c', t', B', m', d', ?_, ?_, ?_, ?_, ?_⟩
  ·rw [← c0]; simp only [Array.getElem?_setIfInBounds]; repeat rw [if_neg (by omega)]
  ·rw [← c1]; simp only [Array.getElem?_setIfInBounds]; repeat rw [if_neg (by omega)]
  ·rw [← c2]; simp only [Array.getElem?_setIfInBounds]; repeat rw [if_neg (by omega)]
  ·rw [← c3]; simp only [Array.getElem?_setIfInBounds]; repeat rw [if_neg (by omega)]
  ·show OneQ _ _ _ _ _ _ _ _ _ (if i = a then q else F i)
   rw [if_neg e]; exact one_near ho' hd near_putR
def RetD (w : World) (N : Nat) (F : Nat → Rat) (e : Ending) (w' : World) : Prop :=
 ∃ r, e = .returned (.slice (some ⟨r, 0, none⟩) N N) ∧ w.heap.size ≤ r ∧ Rats w' r N F ∧ Below w.heap.size w w'
def zeroR : Value := .agg #[.bool false, .slice none 0 0, .bool false, .slice none 0 0]
theorem info_r : (Tryz.prog.info? 27).map (fun i => (i.zero, i.size, i.bytes)) = some (some zeroR, 4, 64) := by kernel_rfl
theorem made_r (n j : Nat) (h : j < n) : (madeCells zeroR.cells n)[j]? = some (zeroR.cells[j % 4]!) := by
 unfold madeCells
 rw [Array.getElem?_map, Array.getElem?_range, if_pos h]
 rfl
theorem make_r (w : World) (N : Nat) (hN : N ≤ 65536) : ∃ W, (Instr.makeSlice 52 (.int .i64 (N : Int)) (.int .i64 (N : Int))).run tz w = .ok (.slice (some ⟨w.heap.size, 0, none⟩) N N) W ∧ Below w.heap.size w W ∧ W.heap.size = w.heap.size + 1 ∧ Rats W w.heap.size N (fun _ => 0) := by
 obtain ⟨i, hi, hz, hs, hb⟩ := info_parts info_r
 have under : Tryz.prog.underlying 52 = some (.slice 27) := by kernel_rfl
 have hr := run_make (P := tz) w 52 27 i zeroR under hi hz .i64 .i64 (N : Int) (N : Int) (by omega) (Int.le_refl _) (by rw [hb]; omega) (by omega)
 simp only [Int.toNat_natCast, hs] at hr
 refine ⟨_, hr, (bR _ _).alloc (lR _) _, by simp, _, heap_alloc_new w _, size_madeCells _ _, fun i hi => ?_⟩
 refine ⟨false, none, 0, 0, false, none, 0, 0, ?_, ?_, ?_, ?_, Q.oneq_zero _ _ _⟩
 ·rw [made_r _ _ (by omega), show i * 4 % 4 = 0 by omega]; rfl
 ·rw [made_r _ _ (by omega), show (i * 4 + 1) % 4 = 1 by omega]; rfl
 ·rw [made_r _ _ (by omega), show (i * 4 + 2) % 4 = 2 by omega]; rfl
 ·rw [made_r _ _ (by omega), show (i * 4 + 3) % 4 = 3 by omega]; rfl
theorem Rats.congr {w : World} {r N : Nat} {F G : Nat → Rat} (h : Rats w r N F) (hg : ∀ i, i < N → F i = G i) : Rats w r N G := by
 obtain ⟨cur, h1, h2, h3⟩ := h
 exact ⟨cur, h1, h2, fun i hi => by rw [← hg i hi]; exact h3 i hi⟩
structure DS (w4 wr : World) (r N : Nat) (l : List (Int × Rat)) (j : Nat) : Prop where
 near : Near (fun b => b = r) w4 wr
 rats : Rats wr r N (fun i => tot (l.take j) (i : Int))
theorem canon_take {l : List (Int × Rat)} (h : Canon l) {j : Nat} {a : Int} {q : Rat} (hj : l[j]? = some (a, q)) (i : Int) : tot (l.take (j + 1)) i = if i = a then q else tot (l.take j) i := by
 rw [List.take_add_one, hj, tot_append]
 have e : tot (some (a, q)).toList i = if a = i then q else 0 := by show (if a = i then q else 0) + 0 = _; grind
 rw [e]
 by_cases hi : i = a
 ·subst hi
  rw [if_pos rfl, if_pos rfl, tot_none, Rat.zero_add]
  intro x hx hxe
  obtain ⟨m, hm, rfl⟩ := List.getElem_of_mem hx
  rw [List.length_take] at hm
  obtain ⟨hjl, hj2⟩ := List.getElem?_eq_some_iff.1 hj
  have h9 := List.pairwise_iff_getElem.1 h.up m j (by omega) hjl (by omega)
  rw [hj2] at h9
  rw [List.getElem_take] at hxe
  omega
 ·rw [if_neg (fun e => hi e.symm), if_neg hi, Rat.add_zero]
theorem canon_mem {l : List (Int × Rat)} (h : Canon l) {x : Int × Rat} (hx : x ∈ l) : tot l x.1 = x.2 := by
 induction l with
 | nil => cases hx
 | cons b l ih =>
  rcases List.mem_cons.1 hx with rfl | hx
  ·exact h.tot_head
  ·rw [h.tot_tail (by have := h.head x hx; omega)]
   exact ih h.tail hx
theorem up_len (hi : Int) : ∀ (l : List (Int × Rat)) (lo : Int), l.Pairwise (fun s t => s.1 < t.1) → (∀ x ∈ l, lo ≤ x.1 ∧ x.1 < hi) → l.length ≤ (hi - lo).toNat
 | [], _, _, _ => Nat.zero_le _
 | x :: l, lo, h, hx => by
  have h1 := List.pairwise_cons.1 h
  have h2 := hx x (List.mem_cons_self ..)
  have h3 := up_len hi l (x.1 + 1) h1.2 (fun y hy => ⟨by have := h1.1 y hy; omega, (hx y (List.mem_cons_of_mem _ hy)).2⟩)
  rw [lC]
  omega
theorem tot_in {l : List (Int × Rat)} {a : Int} (h : tot l a ≠ 0) : ∃ x ∈ l, x.1 = a := by
 refine Classical.byContradiction (fun hn => h (tot_none (fun x hx e => hn ⟨x, hx, e⟩)))
theorem filter_in {l : List (Int × Rat)} {kp : Int → Bool} {a : Int} (h : kp a = true) : tot (l.filter (fun x => kp x.1)) a = tot l a := by
 rw [tot_filter, tot_filter l, List.filter_filter]
 congr 1
 refine List.filter_congr (fun x _ => ?_)
 by_cases e : x.1 = a
 ·simp [e, h]
 ·simp [e]
set_option maxHeartbeats 4000000 in
theorem dense_v {w : World} {A : Option Addr} {n c k : Nat} {xs : List (TV × Rat)} (hx : IsV w A n c xs k) (hk : k ≤ 700) (hn : n ≤ 1000000) (hsx : Short (vals xs)) (p : Int) (N : Nat) (hN : min (max p 0) 65536 = (N : Int)) :
  Calls tz 38 #[.slice A n c, .int .i64 p] w (RetD w N (fun i => tot (vals xs) (i : Int))) := by
 have hNL : N ≤ 65536 := by omega
 obtain ⟨W0, hW0⟩ : ∃ V, w.alloc (.cells #[.int .i64 p] 3) = V := ⟨_, rfl⟩
 have hb0 : Below w.heap.size w W0 := by rw [← hW0]; exact (bR _ _).alloc (lR _) _
 have hs0 : W0.heap.size = w.heap.size + 1 := by rw [← hW0]; simp
 have hi0 : W0.heap[w.heap.size]? = some (.cells #[.int .i64 p] 3 (0, 0)) := by rw [← hW0]; exact heap_alloc_new w _
 have v0 : W0.cell? ⟨w.heap.size, 0, none⟩ = some (.int .i64 p) := by rw [cell_of_row _ _ 0 _ _ _ hi0]; rfl
 have f0 : W0.frozen? ⟨w.heap.size, 0, none⟩ = false := frozen_of_row _ _ 0 _ _ hi0
 obtain ⟨W1, hW1⟩ : ∃ V, W0.setCell ⟨w.heap.size, 0, none⟩ (.int .i64 (N : Int)) = V := ⟨_, rfl⟩
 have hb1 : Below w.heap.size w W1 := by rw [← hW1]; exact hb0.setCell (lR _) _
 have hs1 : W1.heap.size = w.heap.size + 1 := by rw [← hW1]; simp [hs0]
 have hi1 : W1.heap[w.heap.size]? = some (.cells #[.int .i64 (N : Int)] 3 (0, 0)) := by rw [← hW1]; exact heap_setCell_same _ _ _ _ _ _ hi0
 have v1 : W1.cell? ⟨w.heap.size, 0, none⟩ = some (.int .i64 (N : Int)) := by rw [cell_of_row _ _ 0 _ _ _ hi1]; rfl
 obtain ⟨W2, hmk, hb2, hs2, hr2⟩ := make_r W1 N hNL
 have HB2 := lh (below_on hb1 hb2)
 have HX := lh (hx.below HB2.out)
 have HK := lh (keep_dense ((hb2.block w.heap.size (lt_of_block hi1)).trans hi1))
 have HR2 := lh hr2
 have HZ : Hid (W1.heap.size = w.heap.size + 1 ∧ W2.heap.size = w.heap.size + 2) := ⟨hs1, by omega⟩
 have HN := lh hn
 have HKK := lh hk
 have HS := lh hsx
 have HNL := lh hNL
 clear hx hk hn hsx hb0 hs0 hi0 hb1 hs1 hi1 hb2 hs2 hr2 hNL
 go_enter Tryz.func38, Tryz.ntmps38
 go_upto_region 3 with fail
 clear hW0 hW1 hmk v0 f0 v1
 go_wp2_with fail
 refine (only_any HX.out HN.out HK.out).mono ?_
 rintro e w3 ⟨A3, n3, c3, rfl, h3, hb3, ha3⟩
 have H3 := lh h3
 have HL3 : Hid (n3 ≤ n) := filter_len HX.out h3
 have HB3 := lh (below_on HB2.out hb3)
 have HR3 := lh (HR2.out.below hb3)
 have HZ3 : Hid (W1.heap.size < w3.heap.size) := by have := hb3.size; have := HZ.out; show _ < _; omega
 have HA3 : Hid (∀ a, A3 = some a → a.block < w3.heap.size) := by
  intro a ha
  rcases ha3 with h | ⟨g, h, _, hg⟩
  ·rw [h] at ha; cases ha
  ·rw [h] at ha; obtain rfl := oI ha; exact hg
 obtain ⟨X, hX⟩ : ∃ X, (vals xs).filter (fun x => decide (0 ≤ x.1) && decide (x.1 < (N : Int))) = X := ⟨_, rfl⟩
 have HXE := lh hX
 have HSX : Hid (Short X) := by show Short X; rw [← hX]; exact HS.out.filter _
 have hve : vals (xs.filter (fun y => decide (0 ≤ y.1.at_) && decide (y.1.at_ < (N : Int)))) = X := by rw [← hX]; exact vals_filter xs (fun a => decide (0 ≤ a) && decide (a < (N : Int)))
 have HVE := lh hve
 clear h3 hb3 ha3 hX hve
 go_wp2_with fail
 refine (norm_v H3.out HKK.out (by have h1 := HL3.out; have h2 := HN.out; omega) (by rw [HVE.out]; exact HSX.out) HA3.out).mono ?_
 rintro e w4 ⟨g, n4, c4, zs, rfl, h1, h2, h5, h4, hb4⟩
 rw [HVE.out] at h5
 have HCAN := lh h5.1
 have HTOT := lh h5.2
 have HV4 : Hid (IsV w4 (some ⟨g, 0, none⟩) n4 c4 zs 700) := own_isv h1 h4 (fun y hy => by
  rw [← canon_mem h5.1 (List.mem_map.2 ⟨y, hy, rfl⟩ : (y.1.at_, y.2) ∈ vals zs), h5.2]
  exact HSX.out.tot _)
 have HO4 := lh h4
 have HR4 := lh (HR3.out.below hb4)
 have HG4 : Hid (g ≠ W1.heap.size) := by have := HZ3.out; show _ ≠ _; omega
 have HB4 := lh (below_on HB3.out hb4)
 clear h1 h2 h5 h4 hb4
 have HLEN : Hid (n4 = zs.length) := HV4.out.en
 have HIN : Hid (∀ y ∈ vals zs, 0 ≤ y.1 ∧ y.1 < (N : Int)) := by
  intro y hy
  have h9 : tot X y.1 ≠ 0 := by rw [← HTOT.out, canon_mem HCAN.out hy]; exact HCAN.out.nz _ hy
  obtain ⟨x, hx1, hx2⟩ := tot_in h9
  rw [← HXE.out, List.mem_filter] at hx1
  have h8 := hx1.2
  rw [Bool.and_eq_true, decide_eq_true_iff, decide_eq_true_iff, hx2] at h8
  exact h8
 have HN4 : Hid (n4 ≤ 1000000) := by
  have h9 := up_len (N : Int) (vals zs) 0 HCAN.out.up HIN.out
  rw [vals_len] at h9
  have h8 := HLEN.out
  have h7 := HNL.out
  show _ ≤ _
  omega
 have HDS : Hid (DS w4 w4 W1.heap.size N (vals zs) 0) := ⟨Near.refl _ _, HR4.out⟩
 go_wp2_with fail
 go_loopw [18] (fun iv wr => ∃ j : Nat, j ≤ n4 ∧ iv = .int .i64 (j : Int) ∧ Hid (DS w4 wr W1.heap.size N (vals zs) j)) (fun iv _ => n4 - (intOf iv).toNat)
 case atStart => exact ⟨0, Nat.zero_le _, rfl, HDS⟩
 case round =>
  clear HDS
  obtain ⟨j, hj, rfl, HDS⟩ := hrel
  by_cases hlt : j < n4
  ·have hi1 : (j : Int) < (n4 : Int) := by omega
   have hi0 : (0 : Int) ≤ (j : Int) := by omega
   have hwi : IntKind.i64.wrap ((j : Int) + 1) = (j : Int) + 1 := by have := HN4.out; rw [IntKind.wrap_i64]; omega
   obtain ⟨u, hu⟩ : ∃ u, zs[j]? = some u := ⟨zs[j]'(by have := HLEN.out; omega), List.getElem?_eq_getElem (by have := HLEN.out; omega)⟩
   have HVW : Hid (IsV wr (some ⟨g, 0, none⟩) n4 c4 zs 700) := HV4.out.near (fun a ha h => by obtain rfl := oI ha; exact HG4.out h) HR4.out.dig HDS.out.near
   obtain ⟨b1, off1, hA1, _, d0, d1, d2, d3, d4⟩ := HVW.out.row.at_ (j := j) (x := u.1) (by rw [List.getElem?_map, hu]; rfl)
   obtain ⟨rfl, rfl⟩ : g = b1 ∧ 0 = off1 := by simpa using hA1
   have ho := (HO4.out u (List.mem_of_getElem? hu)).1
   have hvj : (vals zs)[j]? = some (u.1.at_, u.2) := by unfold vals; rw [List.getElem?_map, hu]; rfl
   have hm9 : (u.1.at_, u.2) ∈ vals zs := List.mem_of_getElem? hvj
   have hin : 0 ≤ u.1.at_ ∧ u.1.at_ < (N : Int) := HIN.out _ hm9
   obtain ⟨an, han⟩ : ∃ an : Nat, u.1.at_ = (an : Int) := ⟨u.1.at_.toNat, by omega⟩
   have HAN : Hid (an < N) := by show _ < _; omega
   have HVJ : Hid ((vals zs)[j]? = some ((an : Int), u.2)) := by show _ = _; rw [hvj, han]
   have HOU := lh (one_near ho HR4.out.dig HDS.out.near)
   rw [han] at d0
   obtain ⟨y, hy⟩ : ∃ y, u = y := ⟨_, rfl⟩
   rw [hy] at d1 d2 d3 d4 HOU HVJ
   obtain ⟨⟨pat, ps, pA, pn, pc, pt, pB, pm, pd⟩, pq⟩ := y
   simp only [Nat.zero_add] at d0 d1 d2 d3 d4
   clear ho hvj hm9 hin hu hy han HVW hA1
   have hani : (an : Int) < (N : Int) := by have := HAN.out; omega
   have han0 : (0 : Int) ≤ (an : Int) := by omega
   obtain ⟨V, hV⟩ : ∃ V, wr.alloc (.cells #[.int .i64 (an : Int), .bool ps, .slice pA pn pc, .bool pt, .slice pB pm pd] 67) = V := ⟨_, rfl⟩
   have HVB : Hid (Below wr.heap.size wr V) := by rw [← hV]; exact (bR _ _).alloc (lR _) _
   have hbx : V.heap[wr.heap.size]? = some (.cells #[.int .i64 (an : Int), .bool ps, .slice pA pn pc, .bool pt, .slice pB pm pd] 67 (0, 0)) := by rw [← hV]; exact heap_alloc_new wr _
   have e0 : V.cell? ⟨wr.heap.size, 0, none⟩ = some (.int .i64 (an : Int)) := by rw [cell_of_row V _ 0 _ _ _ hbx]; rfl
   have e1 : V.cell? ⟨wr.heap.size, 1, none⟩ = some (.bool ps) := by rw [cell_of_row V _ 1 _ _ _ hbx]; rfl
   have e2 : V.cell? ⟨wr.heap.size, 2, none⟩ = some (.slice pA pn pc) := by rw [cell_of_row V _ 2 _ _ _ hbx]; rfl
   have e3 : V.cell? ⟨wr.heap.size, 3, none⟩ = some (.bool pt) := by rw [cell_of_row V _ 3 _ _ _ hbx]; rfl
   have e4 : V.cell? ⟨wr.heap.size, 4, none⟩ = some (.slice pB pm pd) := by rw [cell_of_row V _ 4 _ _ _ hbx]; rfl
   have HRV := lh (HDS.out.rats.below HVB.out)
   obtain ⟨cur, r1, _, r3⟩ := HRV.out
   obtain ⟨s9, A9, n9, c9, t9, B9, m9, d9, q0, q1, q2, q3, _⟩ := r3 an HAN.out
   have z0 : V.cell? ⟨W1.heap.size, an * 4, none⟩ = some (.bool s9) := (cell_of_row _ _ _ _ _ _ r1).trans q0
   have z1 : V.cell? ⟨W1.heap.size, an * 4 + 1, none⟩ = some (.slice A9 n9 c9) := (cell_of_row _ _ _ _ _ _ r1).trans q1
   have z2 : V.cell? ⟨W1.heap.size, an * 4 + 2, none⟩ = some (.bool t9) := (cell_of_row _ _ _ _ _ _ r1).trans q2
   have z3 : V.cell? ⟨W1.heap.size, an * 4 + 3, none⟩ = some (.slice B9 m9 d9) := (cell_of_row _ _ _ _ _ _ r1).trans q3
   have y0 : V.frozen? ⟨W1.heap.size, an * 4, none⟩ = false := frozen_of_row _ _ _ _ _ r1
   have y1 : V.frozen? ⟨W1.heap.size, an * 4 + 1, none⟩ = false := frozen_of_row _ _ _ _ _ r1
   have y2 : V.frozen? ⟨W1.heap.size, an * 4 + 2, none⟩ = false := frozen_of_row _ _ _ _ _ r1
   have y3 : V.frozen? ⟨W1.heap.size, an * 4 + 3, none⟩ = false := frozen_of_row _ _ _ _ _ r1
   clear hbx r1 r3 q0 q1 q2 q3
   go_wp2_with fail
   go_roundw
   case rel =>
    have := HN4.out
    refine ⟨j + 1, by omega, by go_num, (HDS.out.near.below HVB.out).trans near_putR, ?_⟩
    refine (HRV.out.put HAN.out (HOU.out.below HVB.out)).congr (fun i _ => ?_)
    show (if i = an then pq else tot ((vals zs).take j) (i : Int)) = tot ((vals zs).take (j + 1)) (i : Int)
    rw [canon_take HCAN.out HVJ.out]
    by_cases e : i = an
    ·rw [if_pos e, if_pos (by omega)]
    ·rw [if_neg e, if_neg (by omega)]
   case measure => have := HN4.out; simp [intOf]; omega
  ·have hi1 : ¬ (j : Int) < (n4 : Int) := by omega
   go_wp2_with fail
   refine ⟨rfl, .slice (some ⟨W1.heap.size, 0, none⟩) N N, by simp [results, Tryz.results38, go_sem], W1.heap.size, rfl, by have := HZ.out; omega, ?_, HDS.out.near.new HB4.out (fun b hb => by have := HZ.out; omega)⟩
   refine HDS.out.rats.congr (fun i hi => ?_)
   rw [List.take_of_length_le (by rw [vals_len]; have := HLEN.out; omega), HTOT.out, ← HXE.out]
   exact filter_in (kp := fun a => decide (0 ≤ a) && decide (a < (N : Int))) (by rw [Bool.and_eq_true, decide_eq_true_iff, decide_eq_true_iff]; omega)
end V

namespace V
open Go.RowKit
open Q (IsQ OneQ RetQ below_on ql)
theorem lit_isv {w : World} {g k : Nat} {zs : List (TV × Rat)} (h : w.heap[g]? = some (.cells (flat (zs.map Prod.fst)).toArray 67 (0, 0))) (h4 : ∀ y ∈ zs, OneQ w y.1.s y.1.A y.1.n y.1.c y.1.t y.1.B y.1.m y.1.d y.2 ∧ -9223372036854775808 ≤ y.1.at_ ∧ y.1.at_ ≤ 9223372036854775807) (hk : ∀ y ∈ zs, ql y.2 ≤ k) : IsV w (some ⟨g, 0, none⟩) zs.length zs.length zs k := by
 refine ⟨rfl, lR _, row_cells (lt_of_block h) ?_, fun y hy => ⟨(h4 y hy).1.isq (hk y hy), (h4 y hy).2⟩⟩
 intro j u hj
 rw [Nat.zero_add, cell_of_row w g j _ _ _ h, ← hj]
 simp
theorem Over.ql_le {P N k : Nat} {q : Rat} (h : Over P N q) (hP : P ≠ 0) (hp : (dig P).length ≤ k) (hN : (dig N).length ≤ k) : ql q ≤ k := by
 obtain ⟨n, h1, h2⟩ := h
 have h3 : (P : Rat) ≠ 0 := by
  intro e
  have : (P : Rat) = ((0 : Nat) : Rat) := e
  exact hP (Rat.natCast_inj.1 this)
 have e : q = Rat.divInt n (P : Int) := by
  have h4 := Q.div_mul n (d := (P : Int)) (by omega)
  rw [Rat.intCast_natCast] at h4
  have h5 : q * (P : Rat) = Rat.divInt n (P : Int) * (P : Rat) := h1.trans h4.symm
  have h6 : q * (P : Rat) * (P : Rat)⁻¹ = Rat.divInt n (P : Int) * (P : Rat) * (P : Rat)⁻¹ := by rw [h5]
  rw [Rat.mul_assoc, Rat.mul_assoc, Rat.mul_inv_cancel _ h3, Rat.mul_one, Rat.mul_one] at h6
  exact h6
 have h7 := Q.ql_div (n := n) (d := (P : Int)) (by omega)
 rw [← e] at h7
 have h8 : zl n ≤ k := lT (dl_le h2) hN
 have h9 : zl (P : Int) ≤ k := by show (dig ((P : Int)).natAbs).length ≤ k; rw [Int.natAbs_natCast]; exact hp
 omega
theorem short_of {P N : Nat} {l : List (Int × Rat)} (h : ∀ x ∈ l, Over P N x.2) (hP : P ≠ 0) (hp : (dig P).length ≤ 700) (hN : (dig (l.length * N)).length ≤ 700) : Short l := by
 intro l' hl hm
 refine Over.ql_le (Over.all (fun x hx => h x (hm x hx))) hP hp (lT (dl_le (Nat.mul_le_mul_right N hl)) hN)
end V

namespace V
open Go.RowKit
open Q (IsQ OneQ)
end V

namespace V
open Go.RowKit
open Q (IsQ OneQ RetQ below_on ql Qbx)
def Nm (p m : Nat) (q : Rat) : Prop := ∃ P N, P ≠ 0 ∧ P < B64 ^ p ∧ N < B64 ^ m ∧ Over P N q
theorem b64_pos : 0 < B64 := by rw [B64_eq]; omega
theorem pow_mono {a b : Nat} (h : a ≤ b) : B64 ^ a ≤ B64 ^ b := Nat.pow_le_pow_right b64_pos h
theorem mul_pow {x y a b : Nat} (hx : x < B64 ^ a) (hy : y < B64 ^ b) : x * y < B64 ^ (a + b) := by
 rw [Nat.pow_add]; exact Nat.mul_lt_mul'' hx hy
theorem add_pow {x y a : Nat} (hx : x < B64 ^ a) (hy : y < B64 ^ a) : x + y < B64 ^ (a + 1) := by
 rw [Nat.pow_succ]
 have h : B64 ^ a * 2 ≤ B64 ^ a * B64 := Nat.mul_le_mul_left _ (by rw [B64_eq]; omega)
 omega
theorem lt_dig {n k : Nat} (h : (dig n).length ≤ k) : n < B64 ^ k := by
 have h1 := val_lt (dig_digs n)
 rw [val_dig] at h1
 exact lL h1 (pow_mono h)
theorem Nm.of_ql {q : Rat} {k : Nat} (h : ql q ≤ k) : Nm k k q := by
 unfold Q.ql at h
 refine ⟨q.den, q.num.natAbs, q.den_nz, lt_dig (by omega), lt_dig ?_, Over.self q⟩
 have h2 : zl q.num ≤ k := by omega
 exact h2
theorem Nm.ql {q : Rat} {p m k : Nat} (h : Nm p m q) (hp : p ≤ k) (hm : m ≤ k) : Q.ql q ≤ k := by
 obtain ⟨P, N, h0, h1, h2, h3⟩ := h
 exact h3.ql_le h0 (lT (dig_length_le h1) hp) (lT (dig_length_le h2) hm)
theorem over_sum {P N Q M p m p' m' : Nat} (h1 : P < B64 ^ p) (h2 : N < B64 ^ m) (g1 : Q < B64 ^ p') (g2 : M < B64 ^ m') : N * Q + M * P < B64 ^ (max (m + p') (m' + p) + 1) :=
 add_pow (lL (mul_pow h2 g1) (pow_mono (Nat.le_max_left _ _))) (lL (mul_pow g2 h1) (pow_mono (Nat.le_max_right _ _)))
theorem over_both {P N Q M : Nat} {q r : Rat} (h : Over P N q) (g : Over Q M r) : Over (P * Q) (N * Q + M * P) (q + r) := by
 have g2 := g.up P
 rw [mC Q P] at g2
 exact (h.up Q).add g2
def fadd (F G : Int → Rat) (a : Int) : Rat := F a + G a
def fmul (q : Rat) (F : Int → Rat) (a : Int) : Rat := q * F a
structure Fn (p m L : Nat) (F : Int → Rat) : Prop where
 over : ∃ P N, P ≠ 0 ∧ P < B64 ^ p ∧ N < B64 ^ m ∧ ∀ a, Over P N (F a)
 sup : ∃ S : List Int, S.length ≤ L ∧ ∀ a, F a ≠ 0 → a ∈ S
theorem Fn.nm {p m L : Nat} {F : Int → Rat} (h : Fn p m L F) (a : Int) : Nm p m (F a) := by
 obtain ⟨P, N, h0, h1, h2, h3⟩ := h.over
 exact ⟨P, N, h0, h1, h2, h3 a⟩
theorem Fn.zero : Fn 1 0 0 (fun _ => 0) := ⟨⟨1, 0, by omega, by rw [B64_eq]; omega, by rw [Nat.pow_zero]; omega, fun _ => Over.zero _ _⟩, [], lR _, fun _ h => absurd rfl h⟩
theorem Fn.add {p m L p' m' L' : Nat} {F G : Int → Rat} (h : Fn p m L F) (g : Fn p' m' L' G) : Fn (p + p') (max (m + p') (m' + p) + 1) (L + L') (fadd F G) := by
 obtain ⟨P, N, h0, h1, h2, h3⟩ := h.over
 obtain ⟨Q, M, g0, g1, g2, g3⟩ := g.over
 obtain ⟨S, s1, s2⟩ := h.sup
 obtain ⟨T, t1, t2⟩ := g.sup
 refine ⟨⟨P * Q, _, Nat.mul_ne_zero h0 g0, mul_pow h1 g1, over_sum h1 h2 g1 g2, fun a => over_both (h3 a) (g3 a)⟩, S ++ T, by rw [List.length_append]; omega, fun a ha => ?_⟩
 by_cases hF : F a = 0
 ·by_cases hG : G a = 0
  ·exact absurd (by show F a + G a = 0; rw [hF, hG]; grind) ha
  ·exact List.mem_append_right _ (t2 a hG)
 ·exact List.mem_append_left _ (s2 a hF)
theorem Fn.mul {p m L p' m' : Nat} {F : Int → Rat} {q : Rat} (g : Nm p' m' q) (h : Fn p m L F) : Fn (p' + p) (m' + m) L (fmul q F) := by
 obtain ⟨P, N, h0, h1, h2, h3⟩ := h.over
 obtain ⟨Q, M, g0, g1, g2, g3⟩ := g
 obtain ⟨S, s1, s2⟩ := h.sup
 refine ⟨⟨Q * P, M * N, Nat.mul_ne_zero g0 h0, mul_pow g1 h1, mul_pow g2 h2, fun a => g3.mul (h3 a)⟩, S, s1, fun a ha => s2 a (fun e => ha ?_)⟩
 show q * F a = 0
 rw [e, Rat.mul_zero]
theorem Fn.put {p m L p' m' : Nat} {F : Int → Rat} {q : Rat} (h : Fn p m L F) (g : Nm p' m' q) (b : Int) : Fn (p + p') (max (m + p') (m' + p)) (L + 1) (putAt F b q) := by
 obtain ⟨P, N, h0, h1, h2, h3⟩ := h.over
 obtain ⟨Q, M, g0, g1, g2, g3⟩ := g
 obtain ⟨S, s1, s2⟩ := h.sup
 refine ⟨⟨P * Q, max (N * Q) (M * P), Nat.mul_ne_zero h0 g0, mul_pow h1 g1, ?_, fun a => ?_⟩, b :: S, by rw [lC]; omega, fun a ha => ?_⟩
 ·have e1 := lL (mul_pow h2 g1) (pow_mono (Nat.le_max_left (m + p') (m' + p)))
  have e2 := lL (mul_pow g2 h1) (pow_mono (Nat.le_max_right (m + p') (m' + p)))
  omega
 ·unfold putAt
  split
  ·have g4 := g3.up P
   rw [mC Q P] at g4
   exact g4.mono (Nat.le_max_right _ _)
  ·exact ((h3 a).up Q).mono (Nat.le_max_left _ _)
 ·unfold putAt at ha
  split at ha
  ·next e => rw [e]; exact List.mem_cons_self ..
  ·exact List.mem_cons_of_mem _ (s2 a ha)
theorem common (k : Nat) : ∀ l : List (Int × Rat), (∀ x ∈ l, ql x.2 ≤ k) → ∃ P, P ≠ 0 ∧ P ≤ B64 ^ (k * l.length) ∧ ∀ x ∈ l, Over P (B64 ^ (k * l.length + k)) x.2
 | [], _ => ⟨1, by omega, by simp, fun _ h => by cases h⟩
 | x :: l, h => by
  obtain ⟨P, h0, h1, h2⟩ := common k l (fun y hy => h y (List.mem_cons_of_mem _ hy))
  obtain ⟨Q, M, g0, g1, g2, g3⟩ := Nm.of_ql (h x (List.mem_cons_self ..))
  have e1 : P * Q ≤ B64 ^ (k * (x :: l).length) := by
   rw [lC, Nat.mul_succ, Nat.pow_add]
   exact Nat.mul_le_mul h1 (Nat.le_of_lt g1)
  refine ⟨P * Q, Nat.mul_ne_zero h0 g0, e1, fun y hy => ?_⟩
  rw [lC, Nat.mul_succ]
  rcases List.mem_cons.1 hy with rfl | hy
  ·have g4 := g3.up P
   rw [mC Q P] at g4
   refine g4.mono ?_
   rw [Nat.pow_add, Nat.pow_add]
   have e2 := Nat.mul_le_mul (Nat.le_of_lt g2) h1
   have e3 : 0 < B64 ^ k := Nat.pow_pos b64_pos
   calc M * P ≤ B64 ^ k * B64 ^ (k * l.length) := e2
    _ = B64 ^ (k * l.length) * B64 ^ k := mC _ _
    _ ≤ B64 ^ (k * l.length) * B64 ^ k * B64 ^ k := Nat.le_mul_of_pos_right _ e3
  ·refine ((h2 y hy).up Q).mono ?_
   rw [Nat.pow_add (n := k) (m := k * l.length + k)]
   exact Nat.mul_le_mul_left _ (Nat.le_of_lt g1)
theorem short_fn {k L : Nat} {l : List (Int × Rat)} (h : ∀ x ∈ l, ql x.2 ≤ k) (hL : l.length ≤ L) (hL2 : L ≤ 1000) : Fn (k * L + 1) (k * L + k + 1) L (tot l) ∧ (k * L + k + 1 ≤ 700 → Short l) := by
 obtain ⟨P, h0, h1, h2⟩ := common k l h
 have hk : k * l.length ≤ k * L := Nat.mul_le_mul_left k hL
 have e1 : P < B64 ^ (k * L + 1) := by
  refine Nat.lt_of_le_of_lt (lT h1 (pow_mono hk)) ?_
  rw [Nat.pow_succ]
  have : 0 < B64 ^ (k * L) := Nat.pow_pos b64_pos
  have e : B64 ^ (k * L) * 2 ≤ B64 ^ (k * L) * B64 := Nat.mul_le_mul_left _ (by rw [B64_eq]; omega)
  omega
 have e2 : l.length * B64 ^ (k * l.length + k) < B64 ^ (k * L + k + 1) := by
  have h3 : B64 ^ (k * l.length + k) ≤ B64 ^ (k * L + k) := pow_mono (by omega)
  have h4 : 0 < B64 ^ (k * L + k) := Nat.pow_pos b64_pos
  have h5 : l.length * B64 ^ (k * l.length + k) ≤ 1000 * B64 ^ (k * L + k) := Nat.mul_le_mul (by omega) h3
  rw [Nat.pow_succ]
  have e : B64 ^ (k * L + k) * 1001 ≤ B64 ^ (k * L + k) * B64 := Nat.mul_le_mul_left _ (by rw [B64_eq]; omega)
  omega
 refine ⟨⟨⟨P, _, h0, e1, e2, fun a => Over.tot h2 a⟩, l.map Prod.fst, by rw [List.length_map]; exact hL, fun a ha => ?_⟩, fun hle => ?_⟩
 ·obtain ⟨x, hx, rfl⟩ := tot_in ha
  exact List.mem_map_of_mem hx
 ·exact short_of h2 h0 (lT (dig_length_le e1) (by omega)) (lT (dig_length_le e2) hle)
theorem nodup_of (S : List Int) : ∃ T : List Int, T.Nodup ∧ T.length ≤ S.length ∧ ∀ a, a ∈ S → a ∈ T := by
 induction S with
 | nil => exact ⟨[], List.nodup_nil, lR _, fun _ h => h⟩
 | cons x S ih =>
  obtain ⟨T, h1, h2, h3⟩ := ih
  by_cases hx : x ∈ T
  ·refine ⟨T, h1, by rw [lC]; omega, fun a ha => ?_⟩
   rcases List.mem_cons.1 ha with rfl | ha
   ·exact hx
   ·exact h3 a ha
  ·refine ⟨x :: T, List.nodup_cons.2 ⟨hx, h1⟩, by simpa using h2, fun a ha => ?_⟩
   rcases List.mem_cons.1 ha with rfl | ha
   ·exact List.mem_cons_self ..
   ·exact List.mem_cons_of_mem _ (h3 a ha)
theorem nodup_le : ∀ {l S : List Int}, l.Nodup → (∀ a ∈ l, a ∈ S) → l.length ≤ S.length
 | [], _, _, _ => Nat.zero_le _
 | x :: l, S, h, hs => by
  obtain ⟨h1, h2⟩ := List.nodup_cons.1 h
  have hx := hs x (List.mem_cons_self ..)
  have h3 : l.length ≤ (S.erase x).length := nodup_le h2 (fun a ha => (List.mem_erase_of_ne (fun e => h1 (by rw [← e]; exact ha))).2 (hs a (List.mem_cons_of_mem _ ha)))
  rw [List.length_erase_of_mem hx] at h3
  have h4 := List.length_pos_of_mem hx
  rw [lC]
  omega
theorem is_len {F : Int → Rat} {l : List (Int × Rat)} {p m L : Nat} (h : Is F l) (hF : Fn p m L F) : l.length ≤ L := by
 obtain ⟨S, s1, s2⟩ := hF.sup
 have h1 : (l.map Prod.fst).length ≤ S.length := by
  refine nodup_le (List.Pairwise.map _ (fun s t (hst : s.1 < t.1) => by show s.1 ≠ t.1; omega) h.1.up) (fun a ha => ?_)
  obtain ⟨x, hx, rfl⟩ := List.mem_map.1 ha
  apply s2
  rw [← h.2, canon_mem h.1 hx]
  exact h.1.nz x hx
 rw [List.length_map] at h1
 omega
theorem is_ql {F : Int → Rat} {l : List (Int × Rat)} {p m L k : Nat} (h : Is F l) (hF : Fn p m L F) (hp : p ≤ k) (hm : m ≤ k) : ∀ x ∈ l, ql x.2 ≤ k := by
 intro x hx
 have h1 := h.2 x.1
 rw [canon_mem h.1 hx] at h1
 rw [h1]
 exact (hF.nm x.1).ql hp hm
def DotF (F G : Int → Rat) (q : Rat) : Prop := ∀ L : List Int, L.Nodup → (∀ a, a ∉ L → F a * G a = 0) → q = over (fun a => F a * G a) L
theorem dot_small {F G : Int → Rat} {p m L p' m' L' : Nat} (h : Fn p m L F) (g : Fn p' m' L' G) (hL : L ≤ 1000) : ∀ T : List Int, T.Nodup → Nm (p + p') (m + m' + 1) (over (fun a => F a * G a) T) := by
 obtain ⟨P, N, h0, h1, h2, h3⟩ := h.over
 obtain ⟨Q, M, g0, g1, g2, g3⟩ := g.over
 obtain ⟨S, s1, s2⟩ := h.sup
 intro T hT
 rw [← over_filter]
 have hl : (T.filter (fun a => decide (F a * G a ≠ 0))).length ≤ L := by
  refine lT (nodup_le (S := S) (hT.sublist List.filter_sublist) (fun a ha => s2 a (fun e => ?_))) s1
  have h4 := of_decide_eq_true (List.mem_filter.1 ha).2
  exact h4 (by rw [e, Rat.zero_mul])
 have hov : ∀ U : List Int, Over (P * Q) (U.length * (N * M)) (over (fun a => F a * G a) U) := by
  intro U
  induction U with
  | nil => exact Over.zero _ _
  | cons a U ih =>
   rw [lC, Nat.succ_mul, Nat.add_comm]
   exact Over.add ((h3 a).mul (g3 a)) ih
 refine ⟨P * Q, _, Nat.mul_ne_zero h0 g0, mul_pow h1 g1, ?_, hov _⟩
 have e1 := mul_pow h2 g2
 rw [Nat.pow_succ, mC _ (N * M)]
 exact Nat.mul_lt_mul'' e1 (Nat.lt_of_le_of_lt (lT hl hL) (by rw [B64_eq]; omega))
theorem smalldot {X Y : List (Int × Rat)} {p m L p' m' L' : Nat} (h : Fn p m L (tot X)) (g : Fn p' m' L' (tot Y)) (hL : L ≤ 1000) (hp : p + p' ≤ 700) (hm : m + m' + 1 ≤ 700) : SmallDot X Y := by
 intro D hD
 rw [dotD_over (tot X) (tot Y) D hD.2]
 exact (dot_small h g hL _ (List.Pairwise.map _ (fun s t (hst : s.1 < t.1) => by show s.1 ≠ t.1; omega) hD.1)).ql hp hm
theorem Fn.places {p m L : Nat} {F : Int → Rat} (h : Fn p m L F) : ∃ T : List Int, T.Nodup ∧ ∀ a, a ∉ T → F a = 0 := by
 obtain ⟨S, _, s2⟩ := h.sup
 obtain ⟨T, t1, _, t3⟩ := nodup_of S
 exact ⟨T, t1, fun a ha => Classical.byContradiction fun hn => ha (t3 a (s2 a hn))⟩
theorem DotF.nm {F G : Int → Rat} {p m L p' m' L' : Nat} {q : Rat} (hq : DotF F G q) (h : Fn p m L F) (g : Fn p' m' L' G) (hL : L ≤ 1000) : Nm (p + p') (m + m' + 1) q := by
 obtain ⟨T, t1, t2⟩ := h.places
 rw [hq T t1 (fun a ha => by rw [t2 a ha, Rat.zero_mul])]
 exact dot_small h g hL T t1
theorem dotf_eq {F G : Int → Rat} {p m L : Nat} {q r : Rat} (h : Fn p m L F) (hq : DotF F G q) (hr : DotF F G r) : q = r := by
 obtain ⟨T, t1, t2⟩ := h.places
 rw [hq T t1 (fun a ha => by rw [t2 a ha, Rat.zero_mul]), hr T t1 (fun a ha => by rw [t2 a ha, Rat.zero_mul])]
structure VF (w : World) (A : Option Addr) (n c : Nat) (F : Int → Rat) : Prop where
 ex : ∃ ys, IsV w A n c ys 700 ∧ Short (vals ys) ∧ tot (vals ys) = F
 len : n ≤ 1000
 blk : ∀ a, A = some a → a.block < w.heap.size
structure CF (w : World) (A : Option Addr) (n c : Nat) (F : Int → Rat) : Prop where
 ex : ∃ ys, IsV w A n c ys 700 ∧ Is F (vals ys) ∧ ∀ y ∈ ys, OneQ w y.1.s y.1.A y.1.n y.1.c y.1.t y.1.B y.1.m y.1.d y.2
 blk : ∀ a, A = some a → a.block < w.heap.size
theorem VF.below {w w' : World} {A : Option Addr} {n c : Nat} {F : Int → Rat} (h : VF w A n c F) (hb : Below w.heap.size w w') : VF w' A n c F := by
 obtain ⟨ys, h1, h2, h3⟩ := h.ex
 exact ⟨⟨ys, h1.below hb, h2, h3⟩, h.len, fun a ha => lL (h.blk a ha) hb.size⟩
theorem CF.below {w w' : World} {A : Option Addr} {n c : Nat} {F : Int → Rat} (h : CF w A n c F) (hb : Below w.heap.size w w') : CF w' A n c F := by
 obtain ⟨ys, h1, h2, h3⟩ := h.ex
 exact ⟨⟨ys, h1.below hb, h2, fun y hy => (h3 y hy).below hb⟩, fun a ha => lL (h.blk a ha) hb.size⟩
theorem VF.nil (w : World) (A : Option Addr) (c : Nat) (hA : ∀ a, A = some a → a.block < w.heap.size) : VF w A 0 c (fun _ => 0) := ⟨⟨[], IsV.nil w A c 700, Short.nil, funext tot_nil⟩, by omega, hA⟩
def RetC (w : World) (F : Int → Rat) (e : Ending) (w' : World) : Prop :=
 ∃ A n c, e = .returned (.slice A n c) ∧ CF w' A n c F ∧ Below w.heap.size w w'
theorem retc_of {w w' : World} {p m L : Nat} {F : Int → Rat} {e : Ending} (hF : Fn p m L F) (hp : p ≤ 700) (hm : m ≤ 700) (h : RetV w (Is F) e w') : RetC w F e w' := by
 obtain ⟨g, n, c, zs, rfl, h1, h2, h3, h4, h5⟩ := h
 have hk : ∀ y ∈ zs, ql y.2 ≤ 700 := fun y hy => is_ql h3 hF hp hm (y.1.at_, y.2) (List.mem_map.2 ⟨y, hy, rfl⟩)
 refine ⟨some ⟨g, 0, none⟩, n, c, rfl, ⟨⟨zs, own_isv h1 h4 hk, h3, fun y hy => (h4 y hy).1⟩, fun a ha => ?_⟩, h5⟩
 obtain rfl := oI ha
 rcases h1.row.2 with ⟨h0, _⟩ | ⟨g', cap, cur, e, _, hgc, _⟩
 ·cases h0
 ·obtain ⟨e2, _, _⟩ : g = g' ∧ n = (zs.map Prod.fst).length ∧ c = cap := by simpa using e
  show g < w'.heap.size
  rw [e2]
  exact lt_of_block hgc
theorem CF.empty {w : World} {A : Option Addr} {n c : Nat} {F : Int → Rat} (h : CF w A n c F) (h0 : ∀ a, F a = 0) : n = 0 := by
 obtain ⟨ys, h1, h2, h3⟩ := h.ex
 rw [h1.en]
 cases ys with
 | nil => rfl
 | cons y ys => exact absurd ((h2.2 y.1.at_).trans (h0 _)) (by
   rw [canon_mem h2.1 (x := (y.1.at_, y.2)) (List.mem_cons_self ..)]
   exact h2.1.nz (y.1.at_, y.2) (List.mem_cons_self ..))
theorem cf_eq {w w' : World} {A B : Option Addr} {n c m d : Nat} {F G : Int → Rat} {xs ys : List (TV × Rat)} (_ : IsV w A n c xs 700) (hx : Is F (vals xs)) (_ : IsV w' B m d ys 700) (hy : Is G (vals ys)) : vals xs = vals ys ↔ F = G := by
 constructor
 ·intro e
  funext a
  rw [← hx.2, ← hy.2, e]
 ·intro e
  exact hx.1.ext hy.1 (fun a => by rw [hx.2, hy.2, e])
section
variable {w : World} {A B : Option Addr} {n c m d : Nat} {F G H : Int → Rat} {p l L : Nat} {sa : Bool} {Aa : Option Addr} {na ca : Nat} {ta : Bool} {Ba : Option Addr} {ma da : Nat} {q : Rat}
theorem norm_c (hx : VF w A n c F) (hF : Fn p l L F) (hp : p ≤ 700) (hl : l ≤ 700) : Calls tz 18 #[.slice A n c] w (RetC w F) := by
 obtain ⟨xs, h1, h2, h3⟩ := hx.ex
 refine (norm_v h1 (lR _) (lT hx.len (by omega)) h2 hx.blk).mono fun e w' h => ?_
 rw [h3] at h
 exact retc_of hF hp hl h
theorem add_c (hx : VF w A n c F) (hy : VF w B m d G) (hH : fadd F G = H) (hF : Fn p l L H) (hp : p ≤ 700) (hl : l ≤ 700) : Calls tz 20 #[.slice A n c, .slice B m d] w (RetC w H) := by
 obtain ⟨xs, h1, h2, h3⟩ := hx.ex
 obtain ⟨ys, g1, g2, g3⟩ := hy.ex
 refine (add_v h1 (lR _) (lT hx.len (by omega)) h2 hx.blk g1 (lT hy.len (by omega)) g2 hy.blk).mono fun e w' h => ?_
 rw [h3, g3] at h
 exact retc_of hF hp hl (by rw [← hH]; exact h)
theorem scale_c (hq : IsQ w sa Aa na ca ta Ba ma da q 700) (hx : VF w A n c F) (hH : fmul q F = H) (hF : Fn p l L H) (hp : p ≤ 700) (hl : l ≤ 700) : Calls tz 24 #[.agg #[.bool sa, .slice Aa na ca, .bool ta, .slice Ba ma da], .slice A n c] w (RetC w H) := by
 obtain ⟨xs, h1, h2, h3⟩ := hx.ex
 refine (scale_v hq h1 (lR _) (lT hx.len (by omega)) h2 hx.blk).mono fun e w' h => ?_
 rw [h3] at h
 exact retc_of hF hp hl (by rw [← hH]; exact h)
theorem axpy_c {p2 l2 L2 : Nat} (hq : IsQ w sa Aa na ca ta Ba ma da q 700) (hx : VF w A n c F) (hy : VF w B m d G) (hH : fadd F (fmul q G) = H) (hF : Fn p l L H) (hp : p ≤ 700) (hl : l ≤ 700) (hG : Fn p2 l2 L2 (fmul q G)) (hp2 : p2 ≤ 700) (hl2 : l2 ≤ 700) : Calls tz 22 #[.slice A n c, .agg #[.bool sa, .slice Aa na ca, .bool ta, .slice Ba ma da], .slice B m d] w (RetC w H) := by
 obtain ⟨xs, h1, h2, h3⟩ := hx.ex
 obtain ⟨ys, g1, g2, g3⟩ := hy.ex
 refine (axpy_v hq h1 (lR _) (lT hx.len (by omega)) h2 hx.blk g1 (lT hy.len (by omega)) g2 hy.blk (fun a => by rw [g3]; exact (hG.nm a).ql hp2 hl2)).mono fun e w' h => ?_
 rw [h3, g3] at h
 exact retc_of hF hp hl (by rw [← hH]; exact h)
theorem put_c (hq : IsQ w sa Aa na ca ta Ba ma da q 700) (hql : ql q ≤ 700) (hx : VF w A n c F) (a : Int) (ha : -9223372036854775808 ≤ a ∧ a ≤ 9223372036854775807) (hH : putAt F a q = H) (hF : Fn p l L H) (hp : p ≤ 700) (hl : l ≤ 700) : Calls tz 26 #[.slice A n c, .int .i64 a, .agg #[.bool sa, .slice Aa na ca, .bool ta, .slice Ba ma da]] w (RetC w H) := by
 obtain ⟨xs, h1, h2, h3⟩ := hx.ex
 refine (put_v hq hql h1 (lR _) (lT hx.len (by omega)) h2 a ha).mono fun e w' h => ?_
 rw [h3] at h
 exact retc_of hF hp hl (by rw [← hH]; exact h)
theorem get_c (hx : VF w A n c F) (a : Int) (r : Rat) (hr : F a = r) : Calls tz 31 #[.slice A n c, .int .i64 a] w (Q.RetQ w r) := by
 obtain ⟨xs, h1, h2, h3⟩ := hx.ex
 exact get_v h1 (lR _) (lT hx.len (by omega)) h2 a r (by rw [h3, hr])
theorem dot_c {p2 l2 L2 : Nat} (hx : VF w A n c F) (hy : VF w B m d G) (hF : Fn p l L F) (hG : Fn p2 l2 L2 G) (hL : L ≤ 1000) (hp : p + p2 ≤ 700) (hl : l + l2 + 1 ≤ 700) : Calls tz 29 #[.slice A n c, .slice B m d] w (fun e w' => ∃ q, DotF F G q ∧ ql q ≤ 700 ∧ Q.RetQ w q e w') := by
 obtain ⟨xs, h1, h2, h3⟩ := hx.ex
 obtain ⟨ys, g1, g2, g3⟩ := hy.ex
 refine (dot_v h1 (lR _) (lT hx.len (by omega)) h2 hx.blk g1 (lT hy.len (by omega)) g2 hy.blk (smalldot (by rw [h3]; exact hF) (by rw [g3]; exact hG) hL hp hl)).mono fun e w' h => ?_
 obtain ⟨q, k1, k2, k3⟩ := h
 refine ⟨q, ?_, k2, k3⟩
 have k4 : DotF (tot (vals xs)) (tot (vals ys)) q := k1
 rwa [h3, g3] at k4
theorem same_c (hx : VF w A n c F) (hy : VF w B m d G) : Calls tz 33 #[.slice A n c, .slice B m d] w (fun e w' => ∃ b, e = .returned (.bool b) ∧ (b = true ↔ F = G) ∧ Below w.heap.size w w') := by
 obtain ⟨xs, h1, h2, h3⟩ := hx.ex
 obtain ⟨ys, g1, g2, g3⟩ := hy.ex
 refine (same_v h1 (lR _) (lT hx.len (by omega)) h2 hx.blk g1 (lT hy.len (by omega)) g2 hy.blk).mono fun e w' h => ?_
 obtain ⟨b, rfl, k2, k3⟩ := h
 refine ⟨b, rfl, k2.trans ?_, k3⟩
 rw [h3, g3]
 exact ⟨funext, fun e a => by rw [e]⟩
end
