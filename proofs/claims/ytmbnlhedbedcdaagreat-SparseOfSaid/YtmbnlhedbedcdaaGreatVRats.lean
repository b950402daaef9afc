/- Rows of fractions that came in: their memory; ShortRats, walked; sparse.Of, walked. -/
import Derived.Test.YtmbnlhedbedcdaaGreatVPutU
import Derived.Test.YtmbnlhedbedcdaaGreatVOpen
import Derived.Test.YtmbnlhedbedcdaaGreatVC
namespace Go.Proofs.YtmbnlhedbedcdaaGreat.V
open Go.RowKit
open Go.Proofs.YtmbnlhedbedcdaaGreat.Q (IsQ OneQ RetQ below_on ql Qbx IsRow isq_rows)
def RowR (w : World) (A : Option Addr) (xs : List TV) : Prop :=
 xs ≠ [] → ∃ b off, A = some ⟨b, off, none⟩ ∧ b < w.heap.size ∧ ∀ j x, xs[j]? = some x → w.cell? ⟨b, off + j * 4, none⟩ = some (.bool x.s) ∧ w.cell? ⟨b, off + j * 4 + 1, none⟩ = some (.slice x.A x.n x.c) ∧ w.cell? ⟨b, off + j * 4 + 2, none⟩ = some (.bool x.t) ∧ w.cell? ⟨b, off + j * 4 + 3, none⟩ = some (.slice x.B x.m x.d)
structure IsL (w : World) (A : Option Addr) (n c : Nat) (ys : List (TV × Rat)) (k : Nat) : Prop where
 en : n = ys.length
 cap : n ≤ c
 row : RowR w A (ys.map Prod.fst)
 tq : ∀ y ∈ ys, IsQ w y.1.s y.1.A y.1.n y.1.c y.1.t y.1.B y.1.m y.1.d y.2 k
 at_ : ∀ (j : Nat) y, ys[j]? = some y → y.1.at_ = (j : Int)
theorem IsL.below {w w' : World} {A : Option Addr} {n c k : Nat} {ys : List (TV × Rat)} (h : IsL w A n c ys k) (hb : Below w.heap.size w w') : IsL w' A n c ys k := by
 refine ⟨h.en, h.cap, fun hne => ?_, fun y hy => (h.tq y hy).below hb, h.at_⟩
 obtain ⟨b, off, e, hlt, hc⟩ := h.row hne
 refine ⟨b, off, e, Nat.lt_of_lt_of_le hlt hb.size, fun j x hj => ?_⟩
 obtain ⟨c0, c1, c2, c3⟩ := hc j x hj
 exact ⟨(hb.cell (p := ⟨b, off + j * 4, none⟩) hlt).trans c0, (hb.cell (p := ⟨b, off + j * 4 + 1, none⟩) hlt).trans c1, (hb.cell (p := ⟨b, off + j * 4 + 2, none⟩) hlt).trans c2, (hb.cell (p := ⟨b, off + j * 4 + 3, none⟩) hlt).trans c3⟩
theorem IsL.short {w : World} {A : Option Addr} {n c k l N : Nat} {ys : List (TV × Rat)} (h : IsL w A n c ys l) (hs : ShortAll ys N k) : IsL w A n c ys k := ⟨h.en, h.cap, h.row, fun y hy => ⟨(h.tq y hy).ex, (hs.2 y hy).1, (hs.2 y hy).2, (h.tq y hy).cap, (h.tq y hy).cap2⟩, h.at_⟩
theorem IsL.get {w : World} {A : Option Addr} {n c k : Nat} {ys : List (TV × Rat)} (h : IsL w A n c ys k) {j : Nat} {y : TV × Rat} (hj : ys[j]? = some y) : ∃ b off, A = some ⟨b, off, none⟩ ∧
  w.cell? ⟨b, off + j * 4, none⟩ = some (.bool y.1.s) ∧ w.cell? ⟨b, off + j * 4 + 1, none⟩ = some (.slice y.1.A y.1.n y.1.c) ∧ w.cell? ⟨b, off + j * 4 + 2, none⟩ = some (.bool y.1.t) ∧ w.cell? ⟨b, off + j * 4 + 3, none⟩ = some (.slice y.1.B y.1.m y.1.d) := by
 have h1 : (ys.map Prod.fst)[j]? = some y.1 := by rw [List.getElem?_map, hj]; rfl
 obtain ⟨b, off, e, _, hc⟩ := h.row (by intro e; rw [e] at h1; cases h1)
 exact ⟨b, off, e, hc j _ h1⟩
set_option maxRecDepth 100000
theorem open_rats {H : Type} {enc : TypeId × Value → H} {W : World} {r : Reach} {b0 : Nat} {t : TypeId} {v : Value} {d : DataW H} {p : List MemPlace} (ht : Tryz.prog.underlying t = some (.slice 27)) (hv : Value.okWide Tryz.prog W r b0 t v) (h : DataW.Trod enc Tryz.prog W 0 (fun _ => true) true t v d p) :
  ∃ A n c ys k, v = .slice A n c ∧ IsL W A n c ys k ∧ ∀ a, A = some a → a.block < W.heap.size := by
 obtain ⟨a0, len0, cap0, rfl⟩ := Go.WideShapes.okWide_slice ht hv
 obtain ⟨fuel, hf⟩ := h
 rcases Go.Deep.open_slice ht hf with ⟨e, _⟩ | ⟨a, len, cap, m, n, D, Pl, e, _, hl, hm, hmm, _, hx⟩
 ·obtain ⟨rfl, rfl, rfl⟩ : a0 = none ∧ len0 = 0 ∧ cap0 = 0 := by simpa [Value.cells] using e
  exact ⟨none, 0, 0, [], 0, rfl, ⟨rfl, Nat.le_refl _, fun h => absurd rfl h, (fun _ h => by cases h), fun j y h => by simp at h⟩, fun _ h => by cases h⟩
 ·obtain ⟨rfl, rfl, rfl⟩ : a0 = some a ∧ len0 = len ∧ cap0 = cap := by simpa [Value.cells] using e
  obtain ⟨b, off, rfl, hlt⟩ := slice_in ht hv
  simp only [if_pos] at hmm
  have one : ∀ i, i < len0 → ∃ y : TV × Rat, y.1.at_ = (i : Int) ∧ (W.cell? ⟨b, off + i * 4, none⟩ = some (.bool y.1.s) ∧ W.cell? ⟨b, off + i * 4 + 1, none⟩ = some (.slice y.1.A y.1.n y.1.c) ∧ W.cell? ⟨b, off + i * 4 + 2, none⟩ = some (.bool y.1.t) ∧ W.cell? ⟨b, off + i * 4 + 3, none⟩ = some (.slice y.1.B y.1.m y.1.d)) ∧ IsQ W y.1.s y.1.A y.1.n y.1.c y.1.t y.1.B y.1.m y.1.d y.2 (max y.1.n y.1.m) := by
   intro i hi
   obtain ⟨cs, h1, h2⟩ := hx i (by omega)
   rw [Q.cellsQ] at h1
   obtain ⟨_, hl4, hc⟩ := World.cells?_some h1
   match cs, hl4 with
   | [x1, x2, x3, x4], _ =>
    obtain ⟨s, a, l, c, zs, t', b', l2, c2', us, rfl, rfl, rfl, rfl, w0, w1⟩ := open_rat4 h2
    obtain ⟨q, hq⟩ := isq_rows (s := s) (t := t') w0 w1
    have g : ∀ j, j < 4 → W.cell? ⟨b, off + i * 4 + j, none⟩ = [Value.bool s, .slice a l c, .bool t', .slice b' l2 c2'][j]? := by
     intro j hj
     have h5 := hc j hj
     rw [Addr.add_add, add_flat] at h5
     rw [Nat.add_assoc, h5]
    exact ⟨(⟨i, s, a, l, c, t', b', l2, c2'⟩, q), rfl, ⟨g 0 (by omega), g 1 (by omega), g 2 (by omega), g 3 (by omega)⟩, hq⟩
  obtain ⟨ys, h1, h2⟩ := list_of len0 one
  obtain ⟨k, hk⟩ := list_bound (fun y : TV × Rat => max y.1.n y.1.m) ys
  refine ⟨_, _, _, ys, k, rfl, ⟨h1.symm, hl, fun _ => ⟨b, off, rfl, hlt, fun j x hj => ?_⟩, fun y hy => ?_, fun j y hy => (h2 j y hy).1⟩, fun a ha => by obtain rfl := Option.some.inj ha; exact hlt⟩
  ·rw [List.getElem?_map] at hj
   obtain ⟨y, hy, rfl⟩ := Option.map_eq_some_iff.1 hj
   exact (h2 j y hy).2.1
  ·obtain ⟨j, hj⟩ := List.getElem?_of_mem hy
   exact (h2 j y hj).2.2.mono (hk y hy)
set_option maxHeartbeats 4000000 in
theorem shortrats_any {w : World} {A : Option Addr} {n c l : Nat} {ys : List (TV × Rat)} (hx : IsL w A n c ys l) (N k : Nat) (hN : N ≤ 1000000) (v : Bool) (hv : v = true ↔ ShortAll ys N k) : Calls Tryz.prog 37 #[.slice A n c, .int .i64 (N : Int), .int .i64 (k : Int)] w (RetB w v) := by
 have H := Lib.hid hx
 have HLEN := Lib.hid hx.en
 have HN := Lib.hid hN
 have HV := Lib.hid hv
 have BV : Hid (∀ c : Bool, (c = true ↔ ShortAll ys N k) → c = v) := fun c hc => Bool.eq_iff_iff.2 (hc.trans HV.out.symm)
 have HB := Lib.hid (Below.refl w.heap.size w)
 by_cases hnm : n ≤ N
 ·have g0 : ¬ (N : Int) < (n : Int) := by omega
  have HNM := Lib.hid hnm
  clear hx hN hv hnm
  go_enter Tryz.func37, Tryz.ntmps37
  go_wp2_with fail
  go_loopw [7] (fun iv wr => ∃ i : Nat, i ≤ n ∧ iv = .int .i64 (i : Int) ∧ Hid (Below w.heap.size w wr) ∧ Hid (∀ j y, j < i → ys[j]? = some y → y.1.n ≤ k ∧ y.1.m ≤ k)) (fun iv _ => n - (intOf iv).toNat)
  case atStart => exact ⟨0, Nat.zero_le _, rfl, HB, fun j _ hj => absurd hj (Nat.not_lt_zero j)⟩
  case round =>
   clear HB
   obtain ⟨i, hi, rfl, HB, HG⟩ := hrel
   by_cases hlt : i < n
   ·have hi1 : (i : Int) < (n : Int) := by omega
    have hi0 : (0 : Int) ≤ (i : Int) := by omega
    have hwi : IntKind.i64.wrap ((i : Int) + 1) = (i : Int) + 1 := by have := HN.out; have := HNM.out; rw [IntKind.wrap_i64]; omega
    obtain ⟨y, hy⟩ : ∃ y, ys[i]? = some y := ⟨ys[i]'(by have := HLEN.out; omega), List.getElem?_eq_getElem (by have := HLEN.out; omega)⟩
    obtain ⟨b1, off, hA, c0, c1, c2, c3⟩ := (H.out.below HB.out).get hy
    subst hA
    have HY := Lib.hid hy
    obtain ⟨y1, y2⟩ := y
    obtain ⟨v1, hv1⟩ : ∃ v1, decide (y1.n ≤ k ∧ y1.m ≤ k) = v1 := ⟨_, rfl⟩
    have HV1 := Lib.hid hv1
    simp only at c0 c1 c2 c3
    clear hy hv1
    go_wp2_with fail
    refine (Q.shortrat_j _ _ _ _ _ _ _ _ _ k v1 HV1.out).mono ?_
    rintro e w2 ⟨rfl, hb2⟩
    replace HB := Lib.hid (below_on HB.out hb2)
    clear c0 c1 c2 c3 hb2
    cases v1 with
    | true =>
     go_wp2_with fail
     go_roundw
     case rel =>
      refine ⟨i + 1, by omega, by go_num, HB, fun j z hj hz => ?_⟩
      rcases Nat.lt_or_ge j i with h | h
      ·exact HG.out j z h hz
      ·obtain rfl : j = i := by omega
       rw [HY.out] at hz
       obtain rfl := Option.some.inj hz
       exact of_decide_eq_true HV1.out
     case measure => (simp [intOf]; omega)
    | false =>
     have HE : Hid (false = v) := BV.out false ⟨fun h => (by cases h), fun h => absurd (h.2 _ (List.mem_of_getElem? HY.out)) (of_decide_eq_false HV1.out)⟩
     go_wp2_with fail
     go_ret
     rw [← HE.out]
     exact ⟨rfl, HB.out⟩
   ·have hi1 : ¬ (i : Int) < (n : Int) := by omega
    have HE : Hid (true = v) := BV.out true ⟨fun _ => ⟨by have := HLEN.out; have := HNM.out; omega, fun y hy => by
     obtain ⟨j, hj, rfl⟩ := List.getElem_of_mem hy
     exact HG.out j _ (by have := HLEN.out; omega) (List.getElem?_eq_getElem hj)⟩, fun _ => rfl⟩
    go_wp2_with fail
    go_ret
    rw [← HE.out]
    exact ⟨rfl, HB.out⟩
 ·have g0 : (N : Int) < (n : Int) := by omega
  have HE : Hid (false = v) := BV.out false ⟨fun h => (by cases h), fun h => by have h1 := h.1; rw [← hx.en] at h1; exact absurd h1 hnm⟩
  clear hx hN hv hnm
  go_enter Tryz.func37, Tryz.ntmps37
  go_wp2_with fail
  go_ret
  rw [← HE.out]
  exact ⟨rfl, HB.out⟩
def nzs (l : List (Int × Rat)) : List (Int × Rat) := l.filter (fun x => decide (x.2 ≠ 0))
theorem tot_nzs (l : List (Int × Rat)) (a : Int) : tot (nzs l) a = tot l a := by
 induction l with
 | nil => rfl
 | cons x l ih =>
  obtain ⟨p, q⟩ := x
  unfold nzs at ih ⊢
  by_cases h : q = 0
  ·rw [List.filter_cons_of_neg (by simpa using h), ih, tot_cons, h]
   split <;> grind
  ·rw [List.filter_cons_of_pos (by simpa using h), tot_cons, tot_cons, ih]
theorem nzs_is {l : List (Int × Rat)} (h : l.Pairwise (fun x y => x.1 < y.1)) : Is (tot l) (nzs l) :=
 ⟨⟨h.sublist List.filter_sublist, fun _ hx => of_decide_eq_true (List.mem_filter.1 hx).2⟩, tot_nzs l⟩
theorem nzs_snoc {l : List (Int × Rat)} {i : Nat} {a : Int} {q : Rat} (h : l[i]? = some (a, q)) : nzs (l.take (i + 1)) = if q = 0 then nzs (l.take i) else nzs (l.take i) ++ [(a, q)] := by
 have e : l.take (i + 1) = l.take i ++ [(a, q)] := by
  obtain ⟨hi, e⟩ := List.getElem?_eq_some_iff.1 h
  rw [List.take_succ_eq_append_getElem hi, e]
 unfold nzs
 rw [e, List.filter_append]
 by_cases hq : q = 0
 ·rw [if_pos hq, List.filter_cons_of_neg (by simpa using hq)]; simp
 ·rw [if_neg hq, List.filter_cons_of_pos (by simpa using hq)]; simp
theorem IsL.up {w : World} {A : Option Addr} {n c k : Nat} {ys : List (TV × Rat)} (h : IsL w A n c ys k) : (vals ys).Pairwise (fun x y => x.1 < y.1) := by
 rw [List.pairwise_iff_getElem]
 intro i j hi hj hij
 rw [vals_len] at hi hj
 have h1 := h.at_ i _ (List.getElem?_eq_getElem hi)
 have h2 := h.at_ j _ (List.getElem?_eq_getElem hj)
 have e1 : (vals ys)[i]'(by rw [vals_len]; exact hi) = (ys[i].1.at_, ys[i].2) := by simp [vals]
 have e2 : (vals ys)[j]'(by rw [vals_len]; exact hj) = (ys[j].1.at_, ys[j].2) := by simp [vals]
 rw [e1, e2]
 show ys[i].1.at_ < ys[j].1.at_
 omega
theorem IsL.fn {w : World} {A : Option Addr} {n c k L : Nat} {ys : List (TV × Rat)} (h : IsL w A n c ys k) (hk : 1 ≤ k) (hL : ys.length ≤ L) (hL2 : L ≤ 1000) : Fn (k * L + 1) (k * L + k + 1) L (tot (vals ys)) :=
 (short_fn (fun x hx => by obtain ⟨y, hy, rfl⟩ := List.mem_map.1 hx; exact (h.tq y hy).ql hk) (by rw [vals_len]; exact hL) hL2).1
theorem OutU.ret {w wl wx : World} {gO r0 : Nat} {l : List (Int × Rat)} {F : Int → Rat} {p m L : Nat} (h : OutU wl wx gO r0 l) (hb : Below w.heap.size w wl) (ho : w.heap.size ≤ gO) (hr : w.heap.size ≤ r0) (hp : Is F l) (hF : Fn p m L F) (hp7 : p ≤ 700) (hm7 : m ≤ 700) :
  ∃ v, wx.cell? ⟨gO, 0, none⟩ = some v ∧ RetC w F (.returned v) wx ∧ v.oneCell' = true := by
 obtain ⟨v, zs, h1, h2, h3, h4, _⟩ := h.ex
 obtain ⟨A, n, c, rfl⟩ := h2.some_
 have hk : ∀ y ∈ zs, ql y.2 ≤ 700 := fun y hy => is_ql hp hF hp7 hm7 (y.1.at_, y.2) (by rw [← h3]; exact List.mem_map.2 ⟨y, hy, rfl⟩)
 have hB : Below w.heap.size w wx := h.near.new hb (fun b hb2 => by rcases hb2 with rfl | rfl; exact ho; exact hr)
 refine ⟨_, by rw [cell_of_row _ _ 0 _ _ _ h1]; rfl, ⟨A, n, c, rfl, ?_, hB⟩, rfl⟩
 rcases h2.row.2 with ⟨e, h0⟩ | ⟨g, cap, cur, e, _, hgc, hnc, _, hcs, htake⟩
 ·obtain ⟨rfl, rfl, rfl⟩ : A = none ∧ n = 0 ∧ c = 0 := by simpa using e
  have hz : zs = [] := by rw [List.length_map] at h0; exact List.eq_nil_of_length_eq_zero h0
  subst hz
  exact ⟨⟨[], IsV.nil _ _ _ _, by rw [← h3] at hp; exact hp, (fun _ h => by cases h)⟩, fun a ha => by cases ha⟩
 ·obtain ⟨rfl, rfl, rfl⟩ : A = some ⟨g, 0, none⟩ ∧ n = (zs.map Prod.fst).length ∧ c = cap := by simpa using e
  have hown : OwnT wx 0 (.slice (some ⟨g, 0, none⟩) (zs.map Prod.fst).length c) (zs.map Prod.fst) := ⟨h2.row, h2.all, _, _, _, rfl⟩
  exact ⟨⟨zs, own_isv hown h4 hk, by rw [h3]; exact hp, fun y hy => (h4 y hy).1⟩, fun a ha => by obtain rfl := Option.some.inj ha; exact lt_of_block hgc⟩
set_option maxHeartbeats 4000000 in
theorem of_c {w : World} {A : Option Addr} {n c k : Nat} {ys : List (TV × Rat)} {p l L : Nat} (h : IsL w A n c ys k) (hk : 1 ≤ k) (hk2 : k ≤ 700) (hn : n ≤ 1000) (hF : Fn p l L (tot (vals ys))) (hp : p ≤ 700) (hl : l ≤ 700) :
  Calls Tryz.prog 38 #[.slice A n c] w (RetC w (tot (vals ys))) := by
 obtain ⟨W0, hW0⟩ : ∃ V, w.alloc (.cells #[.slice none 0 0] 33) = V := ⟨_, rfl⟩
 obtain ⟨W1, hW1⟩ : ∃ V, W0.alloc (.cells #[.pointer (some ⟨w.heap.size, 0, none⟩)] 106) = V := ⟨_, rfl⟩
 have h0 : W0.heap.size = w.heap.size + 1 := by rw [← hW0]; simp
 have h1 : W1.heap.size = w.heap.size + 2 := by rw [← hW1]; simp [h0]
 have b0 : Below w.heap.size w W0 := by rw [← hW0]; exact (Below.refl _ _).alloc (Nat.le_refl _) _
 have b1 : Below W0.heap.size W0 W1 := by rw [← hW1]; exact (Below.refl _ _).alloc (Nat.le_refl _) _
 have hO : W1.heap[w.heap.size]? = some (.cells #[.slice none 0 0] 33 (0, 0)) := (b1.block _ (by omega)).trans (by rw [← hW0]; exact heap_alloc_new w _)
 have hP : W1.heap[w.heap.size + 1]? = some (.cells #[.pointer (some ⟨w.heap.size, 0, none⟩)] 106 (0, 0)) := by rw [← h0, ← hW1]; exact heap_alloc_new W0 _
 have HS1 := Lib.hid h1
 have HB1 := Lib.hid (below_on b0 b1)
 have HP := Lib.hid hP
 have HOU : Hid (OutU W1 W1 w.heap.size (w.heap.size + 2) (nzs ((vals ys).take 0))) := ⟨Near.refl _ _, .slice none 0 0, [], hO, OwnU.nil _ _, rfl, (fun _ h => by cases h), .inr (.inr rfl)⟩
 have H := Lib.hid h
 have HLEN := Lib.hid h.en
 have HK : Hid (1 ≤ k ∧ k ≤ 700) := ⟨hk, hk2⟩
 have HN := Lib.hid hn
 have HFN := Lib.hid hF
 have HPL : Hid (p ≤ 700 ∧ l ≤ 700) := ⟨hp, hl⟩
 clear h hk hk2 hn hF hp hl h1 b0 b1 hO hP
 go_enter Tryz.func38, Tryz.ntmps38
 go_upto_region 2 with fail
 go_wp2_with fail
 refine (behind_any W0 w.heap.size).mono ?_
 rintro e w' ⟨rfl, rfl⟩
 clear hW0
 go_wp2_with fail
 go_loopw [10] (fun iv wr => ∃ i : Nat, i ≤ n ∧ iv = .int .i64 (i : Int) ∧ Hid (OutU W1 wr w.heap.size (w.heap.size + 2) (nzs ((vals ys).take i)))) (fun iv _ => n - (intOf iv).toNat)
 case atStart => exact ⟨0, Nat.zero_le _, rfl, HOU⟩
 case round =>
  clear HOU
  obtain ⟨i, hi, rfl, HOU⟩ := hrel
  have HBW : Hid (Below w.heap.size w wr) := HOU.out.near.new HB1.out (fun b hb2 => by rcases hb2 with rfl | rfl; exact Nat.le_refl _; omega)
  by_cases hlt : i < n
  ·have hi1 : (i : Int) < (n : Int) := by omega
   have hi0 : (0 : Int) ≤ (i : Int) := by omega
   have hwi : IntKind.i64.wrap ((i : Int) + 1) = (i : Int) + 1 := by have := HN.out; rw [IntKind.wrap_i64]; omega
   obtain ⟨y, hy⟩ : ∃ y, ys[i]? = some y := ⟨ys[i]'(by have := HLEN.out; omega), List.getElem?_eq_getElem (by have := HLEN.out; omega)⟩
   obtain ⟨b1, off, hA, c0, c1, c2, c3⟩ := (H.out.below HBW.out).get hy
   subst hA
   have HYQ : Hid (IsQ wr y.1.s y.1.A y.1.n y.1.c y.1.t y.1.B y.1.m y.1.d y.2 k) := (H.out.tq y (List.mem_of_getElem? hy)).below HBW.out
   have HYV : Hid ((vals ys)[i]? = some ((i : Int), y.2)) := by
    show _ = _
    unfold vals
    rw [List.getElem?_map, hy]
    show some (y.1.at_, y.2) = _
    rw [H.out.at_ i y hy]
   have HQL : Hid (ql y.2 ≤ 3000) := Nat.le_trans ((H.out.tq y (List.mem_of_getElem? hy)).ql HK.out.1) (by have := HK.out.2; omega)
   have HLN : Hid ((nzs ((vals ys).take i)).length ≤ 10000000) := by
    have h1 : (nzs ((vals ys).take i)).length ≤ ((vals ys).take i).length := List.length_filter_le ..
    rw [List.length_take] at h1
    have := HN.out
    show _ ≤ _
    omega
   obtain ⟨y1, q⟩ := y
   simp only at c0 c1 c2 c3
   obtain ⟨V, hV⟩ : ∃ V, wr.alloc (.cells #[.bool y1.s, .slice y1.A y1.n y1.c, .bool y1.t, .slice y1.B y1.m y1.d] 27) = V := ⟨_, rfl⟩
   have HVB : Hid (Below wr.heap.size wr V) := by rw [← hV]; exact (Below.refl _ _).alloc (Nat.le_refl _) _
   have HVX : Hid (Qbx V wr.heap.size y1.s y1.A y1.n y1.c y1.t y1.B y1.m y1.d) := by rw [← hV]; exact Qbx.new _ _ rfl
   have e0 := HVX.out.c0
   have e1 := HVX.out.c1
   have e2 := HVX.out.c2
   have e3 := HVX.out.c3
   clear hy
   go_wp2_with fail
   refine (Q.norm_q (HYQ.out.below HVB.out) HK.out.1 (Nat.le_trans HK.out.2 (by omega))).mono ?_
   rintro e w2 ⟨s8, A8, n8, c8, t8, B8, m8, d8, rfl, h8, hb8⟩
   have HO2 := Lib.hid (HOU.out.below (below_on HVB.out hb8))
   have HQ2 := Lib.hid h8
   have HP2 : Hid (w2.heap[w.heap.size + 1]? = some (.cells #[.pointer (some ⟨w.heap.size, 0, none⟩)] 106 (0, 0))) := by
    have hb := below_on HVB.out hb8
    refine (hb.block _ (Nat.lt_of_lt_of_le (by have := HS1.out; omega) HOU.out.near.size)).trans ((HOU.out.near.block _ (by have := HS1.out; omega) ?_).trans HP.out)
    rintro (h | h) <;> omega
   clear c0 c1 c2 c3 e0 e1 e2 e3 hV h8 hb8
   go_wp2_with fail
   refine (putu_any HP2.out HO2.out (by have := HS1.out; omega) (by have := HS1.out; omega) (by omega) (by omega) (by omega) (by have := HN.out; omega) HQ2.out HQL.out HLN.out).mono ?_
   rintro e w3 ⟨rfl, h3⟩
   have HO3 := Lib.hid h3
   clear h3 HP2 HQ2
   go_wp2_with fail
   go_roundw
   case rel => exact ⟨i + 1, by omega, by go_num, by show OutU _ _ _ _ _; rw [nzs_snoc HYV.out]; exact HO3.out⟩
   case measure => (simp [intOf]; omega)
  ·have hi1 : ¬ (i : Int) < (n : Int) := by omega
   have hin : (vals ys).take i = vals ys := List.take_of_length_le (by rw [vals_len]; have := HLEN.out; omega)
   obtain ⟨v, hv, hret, hone⟩ := HOU.out.ret (w := w) HB1.out (Nat.le_refl _) (by omega) (by rw [hin]; exact nzs_is H.out.up) HFN.out HPL.out.1 HPL.out.2
   have HRET := Lib.hid hret
   clear hret hin
   go_wp2_with fail
   exact ⟨rfl, v, by simp [results, Tryz.results38, go_sem], HRET.out⟩
end Go.Proofs.YtmbnlhedbedcdaaGreat.V
