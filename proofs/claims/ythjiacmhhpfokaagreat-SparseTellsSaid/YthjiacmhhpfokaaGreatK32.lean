/- Part 32 of the proof: VPlaces, VKit, VRaxpy. -/
import Derived.Test.YthjiacmhhpfokaaGreatK31
namespace Go.Proofs.YthjiacmhhpfokaaGreat
open Lib renaming hid → lh
open Act renaming put → aP
open Nat renaming le_refl → lR
open Go.RowKit.Below renaming refl → bR
open List renaming getElem?_eq_getElem → gE, length_take → lK, length_append → lA, length_map → lM, getElem?_map → gM
open Option.some renaming inj → oI
namespace V
open Go.RowKit
open Q (IsQ OneQ RetQ below_on ql Qbx)
def icell (a : Int) : Value := .int .i64 a
structure Rise (ps : List Int) (P : Int → Prop) : Prop where
 up : ps.Pairwise (· < ·)
 iff_ : ∀ a, a ∈ ps ↔ P a
theorem Rise.nil : Rise [] (fun _ => False) := ⟨List.Pairwise.nil, fun _ => by simp⟩
theorem Rise.congr {ps : List Int} {P Q : Int → Prop} (h : Rise ps P) (hq : ∀ a, P a ↔ Q a) : Rise ps Q := ⟨h.up, fun a => (h.iff_ a).trans (hq a)⟩
theorem up_get {ps : List Int} (h : ps.Pairwise (· < ·)) {i j : Nat} {x y : Int} (hx : ps[i]? = some x) (hy : ps[j]? = some y) (hij : i < j) : x < y := by
 obtain ⟨h1, e1⟩ := List.getElem?_eq_some_iff.1 hx
 obtain ⟨h2, e2⟩ := List.getElem?_eq_some_iff.1 hy
 have := (List.pairwise_iff_getElem.1 h) i j h1 h2 hij
 rw [e1, e2] at this
 exact this
theorem Rise.ins {ps : List Int} {P : Int → Prop} (h : Rise ps P) {n : Nat} {a : Int} (hn : n ≤ ps.length) (hlo : ∀ i x, i < n → ps[i]? = some x → x < a) (hhi : ∀ x, ps[n]? = some x → a < x) : Rise (ps.take n ++ a :: ps.drop n) (fun b => P b ∨ b = a) := by
 have hd : ∀ x ∈ ps.drop n, a < x := by
  intro x hx
  obtain ⟨j, hj⟩ := List.getElem?_of_mem hx
  rw [List.getElem?_drop] at hj
  rcases Nat.eq_zero_or_pos j with rfl | hj0
  ·exact hhi x hj
  ·obtain ⟨y, hy⟩ : ∃ y, ps[n]? = some y := ⟨_, gE (by have := (List.getElem?_eq_some_iff.1 hj).1; omega)⟩
   have h1 := hhi y hy
   have h2 := up_get h.up hy hj (by omega)
   omega
 have ht : ∀ x ∈ ps.take n, x < a := by
  intro x hx
  obtain ⟨j, hj⟩ := List.getElem?_of_mem hx
  rw [List.getElem?_take] at hj
  split at hj
  ·next hjn => exact hlo j x hjn hj
  ·cases hj
 refine ⟨List.pairwise_append.2 ⟨h.up.sublist (List.take_sublist n ps), List.pairwise_cons.2 ⟨hd, h.up.sublist (List.drop_sublist n ps)⟩, fun x hx y hy => ?_⟩, fun b => ?_⟩
 ·rcases List.mem_cons.1 hy with rfl | hy
  ·exact ht x hx
  ·have := ht x hx; have := hd y hy; omega
 ·have h3 : b ∈ ps ↔ b ∈ ps.take n ∨ b ∈ ps.drop n := by rw [← List.mem_append, List.take_append_drop]
  rw [List.mem_append, List.mem_cons, ← h.iff_ b, h3]
  constructor
  ·rintro (h | h | h)
   ·exact .inl (.inl h)
   ·exact .inr h
   ·exact .inl (.inr h)
  ·rintro ((h | h) | h)
   ·exact .inl h
   ·exact .inr (.inr h)
   ·exact .inr (.inl h)
theorem Rise.has {ps : List Int} {P : Int → Prop} (h : Rise ps P) {n : Nat} {a : Int} (hn : ps[n]? = some a) : Rise ps (fun b => P b ∨ b = a) :=
 ⟨h.up, fun b => ⟨fun hb => .inl ((h.iff_ b).1 hb), fun hb => by
  rcases hb with hb | rfl
  ·exact (h.iff_ b).2 hb
  ·exact List.mem_of_getElem? hn⟩⟩
structure Ints (w : World) (g : Nat) (L : List Int) (c : Nat) : Prop where
 ex : ∃ cur : Array Value, w.heap[g]? = some (.cells cur 3 (0, 0)) ∧ cur.toList.take L.length = L.map icell ∧ cur.size = c
 cap : L.length ≤ c
 mx : c ≤ maxLen
theorem Ints.at_ {w : World} {g c : Nat} {L : List Int} (h : Ints w g L c) {i : Nat} {x : Int} (hx : L[i]? = some x) : w.cell? ⟨g, i, none⟩ = some (.int .i64 x) := by
 obtain ⟨cur, h1, h2, _⟩ := h.ex
 rw [cell_of_row w g i _ _ _ h1]
 have h3 : (cur.toList.take L.length)[i]? = some (icell x) := by rw [h2, gM, hx]; rfl
 rw [List.getElem?_take] at h3
 split at h3
 ·simpa [icell] using h3
 ·cases h3
theorem Ints.frz {w : World} {g c : Nat} {L : List Int} (h : Ints w g L c) (i : Nat) : w.frozen? ⟨g, i, none⟩ = false := by
 obtain ⟨cur, h1, _⟩ := h.ex
 exact frozen_of_row w g i _ _ h1
theorem Ints.lt {w : World} {g c : Nat} {L : List Int} (h : Ints w g L c) : g < w.heap.size := by obtain ⟨cur, h1, _⟩ := h.ex; exact lt_of_block h1
theorem Ints.set {w : World} {g c : Nat} {L : List Int} (h : Ints w g L c) (i : Nat) (x : Int) : Ints (w.setCell ⟨g, i, none⟩ (.int .i64 x)) g (L.set i x) c := by
 obtain ⟨cur, h1, h2, h3⟩ := h.ex
 refine ⟨⟨_, heap_setCell_same w g i _ _ _ h1, ?_, by simpa using h3⟩, by rw [List.length_set]; exact h.cap, h.mx⟩
 rw [List.length_set, Array.toList_setIfInBounds, List.take_set, h2, List.map_set]
 rfl
theorem below_set {w wx : World} {g : Nat} (h : Below w.heap.size w wx) (hg : w.heap.size ≤ g) (i : Nat) (v : Value) : Below w.heap.size w (wx.setCell ⟨g, i, none⟩ v) :=
 ((Near.refl (fun b => b = g) wx).setCell g i v rfl).new h (fun _ hb => hb ▸ hg)
def shift (ps : List Int) (j : Nat) (z : Int) : List Int := ps.take j ++ z :: ps.drop j
theorem shift_len {ps : List Int} {j : Nat} {z : Int} (hj : j ≤ ps.length) : (shift ps j z).length = ps.length + 1 := by
 unfold shift
 rw [lA, List.length_cons, lK, List.length_drop]
 omega
theorem shift_step {ps : List Int} {j : Nat} {z x : Int} (hj : j + 1 ≤ ps.length) (hx : ps[j]? = some x) : (shift ps (j + 1) z).set (j + 1) x = shift ps j x := by
 obtain ⟨h1, e⟩ := List.getElem?_eq_some_iff.1 hx
 unfold shift
 have e1 : ps.take (j + 1) = ps.take j ++ [x] := by rw [List.take_succ_eq_append_getElem h1, e]
 have e2 : ps.drop j = x :: ps.drop (j + 1) := by rw [List.drop_eq_getElem_cons h1, e]
 rw [List.set_append_right _ _ (by rw [lK]; omega), e1, e2]
 have e3 : j + 1 - (ps.take j ++ [x]).length = 0 := by rw [lA, lK]; simp; omega
 rw [e3, List.set_cons_zero, List.append_assoc]
 rfl
theorem shift_at {ps : List Int} {j : Nat} {z x : Int} (hj : j + 1 ≤ ps.length) (hx : ps[j]? = some x) : (shift ps (j + 1) z)[j]? = some x := by
 unfold shift
 rw [List.getElem?_append_left (by rw [lK]; omega), List.getElem?_take, if_pos (by omega), hx]
theorem shift_end {ps : List Int} {j : Nat} {z a : Int} (hj : j ≤ ps.length) : (shift ps j z).set j a = ps.take j ++ a :: ps.drop j := by
 unfold shift
 rw [List.set_append_right _ _ (by rw [lK]; omega)]
 have e3 : j - (ps.take j).length = 0 := by rw [lK]; omega
 rw [e3, List.set_cons_zero]
structure OwnP (w wx : World) (v : Value) (ps : List Int) : Prop where
 bel : Below w.heap.size w wx
 own : wx.ownsRow w.heap.size 3 1 v ps.length (ps.map icell)
theorem OwnP.slice {w wx : World} {v : Value} {ps : List Int} (h : OwnP w wx v ps) : ∃ A c, v = .slice A ps.length c ∧ (ps ≠ [] → ∃ g, A = some ⟨g, 0, none⟩ ∧ w.heap.size ≤ g ∧ Ints wx g ps c) := by
 rcases h.own.2 with ⟨rfl, h0⟩ | ⟨g, cap, cur, rfl, hg, hc, hn, hm, hs, ht⟩
 ·have : ps = [] := List.eq_nil_of_length_eq_zero h0
  subst this
  exact ⟨none, 0, rfl, fun h => absurd rfl h⟩
 ·exact ⟨_, cap, rfl, fun _ => ⟨g, rfl, hg, ⟨cur, hc, by rw [← ht, Nat.mul_one], by rw [hs, Nat.mul_one]⟩, hn, hm⟩⟩
theorem OwnP.of {w wx : World} {g c : Nat} {L : List Int} (hb : Below w.heap.size w wx) (hg : w.heap.size ≤ g) (h : Ints wx g L c) : OwnP w wx (.slice (some ⟨g, 0, none⟩) L.length c) L := by
 obtain ⟨cur, h1, h2, h3⟩ := h.ex
 exact ⟨hb, by simp, .inr ⟨g, c, cur, rfl, hg, h1, h.cap, h.mx, by rw [h3, Nat.mul_one], by rw [Nat.mul_one, h2]⟩⟩
structure SV where
 A : Option Addr
 n : Nat
 c : Nat
 ys : List (TV × Rat)
def placesOf (v : SV) : List Int := v.ys.map (fun y => y.1.at_)
structure Args (w : World) (gl : Nat) (vs : List SV) : Prop where
 lt : gl < w.heap.size
 row : ∀ (j : Nat) v, vs[j]? = some v → w.cell? ⟨gl, j, none⟩ = some (.slice v.A v.n v.c)
 is_ : ∀ v ∈ vs, IsV w v.A v.n v.c v.ys 700 ∧ v.n ≤ 1000
def RetPl (w : World) (P : Int → Prop) (e : Ending) (w' : World) : Prop := ∃ v ps, e = .returned v ∧ Rise ps P ∧ OwnP w w' v ps
def Upto (vs : List SV) (k : Nat) (a : Int) : Prop := ∃ (j : Nat) (v : SV), j < k ∧ vs[j]? = some v ∧ a ∈ placesOf v
theorem mem_take_succ {l : List Int} {i : Nat} {x : Int} (h : l[i]? = some x) (a : Int) : a ∈ l.take (i + 1) ↔ a ∈ l.take i ∨ a = x := by
 obtain ⟨h1, e⟩ := List.getElem?_eq_some_iff.1 h
 rw [List.take_succ_eq_append_getElem h1, e, List.mem_append, List.mem_singleton]
theorem upto_succ {vs : List SV} {k : Nat} {v : SV} (h : vs[k]? = some v) (a : Int) : Upto vs (k + 1) a ↔ Upto vs k a ∨ a ∈ placesOf v := by
 constructor
 ·rintro ⟨j, u, h1, h2, h3⟩
  rcases Nat.lt_or_ge j k with hj | hj
  ·exact .inl ⟨j, u, hj, h2, h3⟩
  ·obtain rfl : j = k := by omega
   rw [h] at h2
   obtain rfl := oI h2
   exact .inr h3
 ·rintro (⟨j, u, h1, h2, h3⟩ | h3)
  ·exact ⟨j, u, by omega, h2, h3⟩
  ·exact ⟨k, v, by omega, h, h3⟩
theorem app_split {w wr w3 : World} {o : Obj} {v v' : Value} {ps : List Int} (hb : Below w.heap.size w wr) (ho : wr.ownsRow w.heap.size 3 1 v ps.length (ps.map icell)) (h' : w3.ownsRow w.heap.size 3 1 v' (ps.length + 1) (ps.map icell ++ [.int .i64 0])) (hg : (wr.alloc o).grownBy w3 v.ownBlock) (hl : ps.length ≤ 200000) :
  ∃ (g c m1 : Nat), v' = .slice (some ⟨g, 0, none⟩) m1 c ∧ IntKind.i64.wrap ((m1 : Int) - 1) = (ps.length : Int) ∧ m1 = ps.length + 1 ∧ Ints w3 g (shift ps ps.length 0) c ∧ w.heap.size ≤ g ∧ Below w.heap.size w w3 := by
 have hbel3 := E.below_app hb hb.size (lR _) ho hg
 have hop : OwnP w w3 v' (ps ++ [0]) := ⟨hbel3, by rw [lA, List.map_append]; exact h'⟩
 obtain ⟨A3, c3, hve, hne⟩ := hop.slice
 obtain ⟨g, rfl, hg, hint⟩ := hne (by simp)
 have hsh : ps ++ [0] = shift ps ps.length 0 := by unfold shift; rw [List.take_length, List.drop_length]
 exact ⟨g, c3, _, hve, by rw [lA, List.length_singleton, IntKind.wrap_i64]; omega, by simp, by rw [← hsh]; exact hint, hg, hbel3⟩
set_option maxRecDepth 100000 in
set_option maxHeartbeats 8000000 in
theorem places_any {w : World} {gl K : Nat} {vs : List SV} (h : Args w gl vs) (hK : K = vs.length) (hK2 : K ≤ 100) : Calls Tryz.prog 86 #[.slice (some ⟨gl, 0, none⟩) K K] w (RetPl w (fun a => ∃ v ∈ vs, a ∈ placesOf v)) := by
 obtain ⟨i0, hi0, hz0, hz1, hz2⟩ := info_parts E.info_u64
 have H := lh h
 have HKL : Hid (K = vs.length ∧ K ≤ 100) := ⟨hK, hK2⟩
 have HR0 : Hid (Rise [] (Upto vs 0)) := Rise.nil.congr (fun a => ⟨fun h => h.elim, fun ⟨j, _, hj, _⟩ => absurd hj (Nat.not_lt_zero j)⟩)
 have HP0 : Hid (OwnP w w (.slice none 0 0) []) := ⟨bR _ _, World.ownsRow_nil _ _ _ _⟩
 clear h hK hK2
 go_enter Tryz.func86, Tryz.ntmps86
 go_wp2_with fail
 go_loopw [3, 4] (fun vo kv wr => ∃ (k : Nat) (ps : List Int) (A1 : Option Addr) (c1 : Nat), k ≤ K ∧ kv = .int .i64 (k : Int) ∧ vo = .slice A1 ps.length c1 ∧ Hid (OwnP w wr (.slice A1 ps.length c1) ps) ∧ Hid (Rise ps (Upto vs k)) ∧ Hid (ps.length ≤ 1000 * k)) (fun _ kv _ => K - (intOf kv).toNat)
 case atStart => exact ⟨0, [], none, 0, Nat.zero_le _, rfl, rfl, HP0, HR0, Nat.zero_le _⟩
 case round =>
  clear HP0 HR0
  obtain ⟨k, ps, A1, c1, hk, rfl, rfl, HP, HR, HLN⟩ := hrel
  by_cases hkt : k < K
  ·have hk1 : (k : Int) < (K : Int) := by omega
   have hk0 : (0 : Int) ≤ (k : Int) := by omega
   have hwk : IntKind.i64.wrap ((k : Int) + 1) = (k : Int) + 1 := by have := HKL.out.2; rw [IntKind.wrap_i64]; omega
   obtain ⟨v, hv⟩ : ∃ v, vs[k]? = some v := ⟨vs[k]'(by have := HKL.out.1; omega), gE (by have := HKL.out.1; omega)⟩
   have HVK := lh hv
   obtain ⟨hvi, hvn⟩ := H.out.is_ v (List.mem_of_getElem? hv)
   have HVI := lh hvi
   have HVN := lh hvn
   have HVL := lh hvi.en
   have HCK : Hid (∀ V, Below w.heap.size w V → V.cell? ⟨gl, k, none⟩ = some (.slice v.A v.n v.c)) := fun V hV => (hV.cell (p := ⟨gl, k, none⟩) H.out.lt).trans (H.out.row k v hv)
   obtain ⟨A2, n2, c2, ys⟩ := v
   simp only at HVI HVN HVL HCK
   replace HVL : Hid (n2 = ys.length) := HVL.out
   clear hv hvi hvn
   have ck := HCK.out _ HP.out.bel
   have HR1 : Hid (Rise ps (fun a => Upto vs k a ∨ a ∈ (placesOf ⟨A2, n2, c2, ys⟩).take 0)) := HR.out.congr (fun a => by simp)
   have HLN1 : Hid (ps.length ≤ 1000 * k + 0) := HLN.out
   obtain ⟨w1, hw1⟩ : ∃ x, x = wr := ⟨_, rfl⟩
   rw [← hw1] at HP ck ⊢
   clear hw1 HR HLN
   go_wp2_with fail
   go_loopw [3, 5] (fun vo iv wr2 => ∃ (i : Nat) (ps : List Int) (A1 : Option Addr) (c1 : Nat), i ≤ n2 ∧ iv = .int .i64 (i : Int) ∧ vo = .slice A1 ps.length c1 ∧ Hid (OwnP w wr2 (.slice A1 ps.length c1) ps) ∧ Hid (Rise ps (fun a => Upto vs k a ∨ a ∈ (placesOf ⟨A2, n2, c2, ys⟩).take i)) ∧ Hid (ps.length ≤ 1000 * k + i)) (fun _ iv _ => n2 - (intOf iv).toNat)
   case atStart => exact ⟨0, ps, A1, c1, Nat.zero_le _, rfl, rfl, HP, HR1, HLN1⟩
   case round =>
    clear ck HP HR1 HLN1
    obtain ⟨i, ps, A1, c1, hi, rfl, rfl, HP, HR, HLN⟩ := hrel
    have ck := HCK.out _ HP.out.bel
    by_cases hit : i < n2
    ·have hi1 : (i : Int) < (n2 : Int) := by omega
     have hiz : (0 : Int) ≤ (i : Int) := by omega
     have hwi : IntKind.i64.wrap ((i : Int) + 1) = (i : Int) + 1 := by have := HVN.out; rw [IntKind.wrap_i64]; omega
     obtain ⟨y, hy⟩ : ∃ y, ys[i]? = some y := ⟨ys[i]'(by have := HVL.out; omega), gE (by have := HVL.out; omega)⟩
     obtain ⟨b1, off, hA, hk1'⟩ := row_at2 HVI.out.row (j := i) (x := y.1) (by rw [gM, hy]; rfl)
     obtain ⟨d0, _, _, _, _⟩ := hk1' _ HP.out.bel
     subst hA
     have hmt : ∀ a, a ∈ (placesOf ⟨some ⟨b1, off, none⟩, n2, c2, ys⟩).take (i + 1) ↔ a ∈ (placesOf ⟨some ⟨b1, off, none⟩, n2, c2, ys⟩).take i ∨ a = y.1.at_ := mem_take_succ (by unfold placesOf; rw [gM, hy]; rfl)
     obtain ⟨p, hp⟩ : ∃ p, y.1.at_ = p := ⟨_, rfl⟩
     rw [hp] at d0 hmt
     have HMT := lh hmt
     clear hy hk1' hmt hp
     go_wp2_with fail
     clear ck d0
     have HL0 : Hid (∀ (i : Nat) x, i < 0 → ps[i]? = some x → x < p) := fun i x h => absurd h (Nat.not_lt_zero i)
     go_loop [7] (fun nv => ∃ q : Nat, q ≤ ps.length ∧ nv = .int .i64 (q : Int) ∧ Hid (∀ (i : Nat) x, i < q → ps[i]? = some x → x < p)) (fun nv => ps.length - (intOf nv).toNat)
     case atStart => exact ⟨0, Nat.zero_le _, rfl, HL0⟩
     case round =>
      clear HL0
      obtain ⟨q, hq, rfl, HLO⟩ := hrel
      by_cases hql : q < ps.length
      ·have hq1 : (q : Int) < (ps.length : Int) := by omega
       have hq0 : (0 : Int) ≤ (q : Int) := by omega
       have hwq : IntKind.i64.wrap ((q : Int) + 1) = (q : Int) + 1 := by have := HLN.out; have := HKL.out.2; have := HVN.out; rw [IntKind.wrap_i64]; omega
       obtain ⟨x, hx⟩ : ∃ x, ps[q]? = some x := ⟨_, gE hql⟩
       obtain ⟨A9, c9, he9, hne⟩ := HP.out.slice
       obtain ⟨g9, hg9, _, hint9⟩ := hne (by intro e; rw [e] at hx; cases hx)
       obtain ⟨rfl, rfl⟩ : A1 = A9 ∧ c1 = c9 := by simpa using he9
       subst hg9
       have hcx := hint9.at_ hx
       have HX := lh hx
       clear he9 hne hint9 hx
       by_cases hxp : x < p
       ·have HL2 : Hid (∀ (i : Nat) u, i < q + 1 → ps[i]? = some u → u < p) := fun i u hi hu => by
         rcases Nat.lt_or_ge i q with h | h
         ·exact HLO.out i u h hu
         ·obtain rfl : i = q := by omega
          rw [HX.out] at hu
          obtain rfl := oI hu
          exact hxp
        go_wp2_with fail
        go_round
        case rel => exact ⟨q + 1, by omega, by go_num, HL2⟩
        case measure => first | (simp [intOf]; done) | (simp [intOf]; omega)
       ·by_cases hxe : x = p
        ·have g1 : (x == p) = true := beq_iff_eq.2 hxe
         have HR2 : Hid (Rise ps (fun a => Upto vs k a ∨ a ∈ (placesOf ⟨some ⟨b1, off, none⟩, n2, c2, ys⟩).take (i + 1))) := (HR.out.has (n := q) (a := p) (by rw [← hxe]; exact HX.out)).congr (fun a => by rw [HMT.out a, or_assoc])
         have HL2 : Hid (ps.length ≤ 1000 * k + (i + 1)) := Nat.le_trans HLN.out (by omega)
         clear hxe
         go_wp2_with fail
         go_roundw
         case rel => exact ⟨i + 1, ps, _, _, by omega, by go_num, rfl, HP, HR2, HL2⟩
         case measure => (simp [intOf]; omega)
        ·have g1 : (x == p) = false := beq_eq_false_iff_ne.2 hxe
         have HHI : Hid (∀ u, ps[q]? = some u → p < u) := fun u hu => by
          rw [HX.out] at hu
          obtain rfl := oI hu
          omega
         clear hxe
         go_upto_region 13 with fail
         clear hcx hwq
         have hpl : ps.length ≤ 200000 := by have := HLN.out; have := HKL.out.2; have := HVN.out; omega
         have hsz := HP.out.bel.size
         have HOWN := lh HP.out.own
         have HBEL := lh HP.out.bel
         have HQQ : Hid (q ≤ ps.length) := hq
         clear HP hq
         go_wp2_with ((at_builtin; refine wpList_append_own _ rfl (.tmp 58) (.tmp 59) 61 rfl w.heap.size 3 i0 (.int .i64 0) 1 8 E.under_u64s hi0 hz0 hz1 hz2 rfl (by decide) _ _ _ rfl (HOWN.out.alloc _) ⟨wr.heap.size, 0, none⟩ 1 1 [.int .i64 0] rfl rfl (E.app_cell _ _ _) (E.app_one _ _) (by unfold maxLen; omega) (by omega) (by simp; omega) ?_); intro v' w3 hown' hgrow hnil; obtain ⟨g, c3, m1, rfl, hwj, h39⟩ := app_split HBEL.out HOWN.out hown' hgrow hpl; have H39 := lh h39; clear hown' hgrow hnil h39)
         obtain ⟨hm2, hint, hg, hbel3⟩ := H39.out
         have HIN := lh hint
         have HB3 := lh hbel3
         have HG := lh hg
         have HM := lh hm2
         clear hint hbel3 hg hm2 H39 hsz
         go_loopw [8] (fun jv wr4 => ∃ (j : Nat) (z : Int), q ≤ j ∧ j ≤ ps.length ∧ jv = .int .i64 (j : Int) ∧ Hid (Ints wr4 g (shift ps j z) c3) ∧ Hid (Below w.heap.size w wr4)) (fun jv _ => (intOf jv).toNat)
         case atStart => exact ⟨ps.length, 0, HQQ.out, lR _, rfl, HIN, HB3⟩
         case round =>
          clear HIN HB3
          obtain ⟨j, z, hj1, hj2, rfl, HIN, HB3⟩ := hrel
          by_cases hjq : q < j
          ·obtain ⟨j', rfl⟩ : ∃ j', j = j' + 1 := ⟨j - 1, by omega⟩
           have hjg : (q : Int) < ((j' + 1 : Nat) : Int) := by omega
           have hja : (0 : Int) ≤ ((j' + 1 : Nat) : Int) := by omega
           have hjb : ((j' + 1 : Nat) : Int) < (m1 : Int) := by have := HM.out; omega
           have hjc : IntKind.i64.wrap (((j' + 1 : Nat) : Int) - 1) = (j' : Int) := by rw [IntKind.wrap_i64]; omega
           have hjd : (0 : Int) ≤ (j' : Int) := by omega
           have hje : (j' : Int) < (m1 : Int) := by have := HM.out; omega
           obtain ⟨x, hx⟩ : ∃ x, ps[j']? = some x := ⟨_, gE (by omega)⟩
           have hc1 := HIN.out.at_ (shift_at hj2 hx)
           have hc2 := HIN.out.at_ (i := j' + 1) (x := z) (by unfold shift; rw [List.getElem?_append_right (by rw [lK]; omega), lK, show j' + 1 - min (j' + 1) ps.length = 0 by omega]; rfl)
           have hf2 := HIN.out.frz (j' + 1)
           have HST : Hid (Ints (wr.setCell ⟨g, j' + 1, none⟩ (.int .i64 x)) g (shift ps j' x) c3) := by
            have h9 := HIN.out.set (j' + 1) x
            rw [shift_step hj2 hx] at h9
            exact h9
           have HBT : Hid (Below w.heap.size w (wr.setCell ⟨g, j' + 1, none⟩ (.int .i64 x))) := below_set HB3.out HG.out _ _
           have hq1 : q ≤ j' := by omega
           have hq2 : j' ≤ ps.length := by omega
           clear hx HIN HB3 hj1 hj2 hjq
           obtain ⟨jj, hjj⟩ : ∃ jj : Nat, j' + 1 = jj := ⟨_, rfl⟩
           have HJJ := lh hjj
           rw [hjj] at hjg hja hjb hjc hc2 hf2 HST HBT ⊢
           clear hjj
           go_wp2_with fail
           go_roundw
           case rel => exact ⟨j', x, hq1, hq2, by go_num, HST, HBT⟩
           case measure => (simp [intOf]; have := HJJ.out; omega)
          ·obtain rfl : j = q := by omega
           have hjg : ¬ (j : Int) < (j : Int) := by omega
           have hja : (0 : Int) ≤ (j : Int) := by omega
           have hjb : (j : Int) < (m1 : Int) := by have := HM.out; omega
           have hc2 := HIN.out.at_ (i := j) (x := z) (by unfold shift; rw [List.getElem?_append_right (by rw [lK]; omega), lK, show j - min j ps.length = 0 by omega]; rfl)
           have hf2 := HIN.out.frz j
           have HST : Hid (Ints (wr.setCell ⟨g, j, none⟩ (.int .i64 p)) g (ps.take j ++ p :: ps.drop j) c3) := by
            have h9 := HIN.out.set j p
            rw [shift_end hj2] at h9
            exact h9
           have HBT : Hid (Below w.heap.size w (wr.setCell ⟨g, j, none⟩ (.int .i64 p))) := below_set HB3.out HG.out _ _
           have HR2 : Hid (Rise (ps.take j ++ p :: ps.drop j) (fun a => Upto vs k a ∨ a ∈ (placesOf ⟨some ⟨b1, off, none⟩, n2, c2, ys⟩).take (i + 1))) := (HR.out.ins hj2 HLO.out HHI.out).congr (fun a => by rw [HMT.out a, or_assoc])
           have HLE : Hid ((ps.take j ++ p :: ps.drop j).length = m1) := by
            have h9 := shift_len (z := p) hj2
            unfold shift at h9
            show _ = _
            rw [h9, HM.out]
           have HL2 : Hid ((ps.take j ++ p :: ps.drop j).length ≤ 1000 * k + (i + 1)) := by have h9 := HLE.out; have := HM.out; have := HLN.out; show _ ≤ _; omega
           have hop : OwnP w (wr.setCell ⟨g, j, none⟩ (.int .i64 p)) (.slice (some ⟨g, 0, none⟩) (ps.take j ++ p :: ps.drop j).length c3) (ps.take j ++ p :: ps.drop j) := OwnP.of HBT.out HG.out HST.out
           have HOP := lh hop
           clear hop HIN HB3 hj1 hj2 hjq
           go_wp2_with fail
           go_roundw
           case rel => exact ⟨i + 1, _, _, c3, by omega, by go_num, by rw [HLE.out], HOP, HR2, HL2⟩
           case measure => (simp [intOf]; omega)
      ·have hq1 : ¬ (q : Int) < (ps.length : Int) := by omega
       have HHI : Hid (∀ u, ps[q]? = some u → p < u) := fun u hu => by have := (List.getElem?_eq_some_iff.1 hu).1; omega
       go_upto_region 13 with fail
       have hpl : ps.length ≤ 200000 := by have := HLN.out; have := HKL.out.2; have := HVN.out; omega
       have hsz := HP.out.bel.size
       have HOWN := lh HP.out.own
       have HBEL := lh HP.out.bel
       have HQQ : Hid (q ≤ ps.length) := hq
       clear HP hq
       go_wp2_with ((at_builtin; refine wpList_append_own _ rfl (.tmp 58) (.tmp 59) 61 rfl w.heap.size 3 i0 (.int .i64 0) 1 8 E.under_u64s hi0 hz0 hz1 hz2 rfl (by decide) _ _ _ rfl (HOWN.out.alloc _) ⟨wr.heap.size, 0, none⟩ 1 1 [.int .i64 0] rfl rfl (E.app_cell _ _ _) (E.app_one _ _) (by unfold maxLen; omega) (by omega) (by simp; omega) ?_); intro v' w3 hown' hgrow hnil; obtain ⟨g, c3, m1, rfl, hwj, h39⟩ := app_split HBEL.out HOWN.out hown' hgrow hpl; have H39 := lh h39; clear hown' hgrow hnil h39)
       obtain ⟨hm2, hint, hg, hbel3⟩ := H39.out
       have HIN := lh hint
       have HB3 := lh hbel3
       have HG := lh hg
       have HM := lh hm2
       clear hint hbel3 hg hm2 H39 hsz
       go_loopw [8] (fun jv wr4 => ∃ (j : Nat) (z : Int), q ≤ j ∧ j ≤ ps.length ∧ jv = .int .i64 (j : Int) ∧ Hid (Ints wr4 g (shift ps j z) c3) ∧ Hid (Below w.heap.size w wr4)) (fun jv _ => (intOf jv).toNat)
       case atStart => exact ⟨ps.length, 0, HQQ.out, lR _, rfl, HIN, HB3⟩
       case round =>
        clear HIN HB3
        obtain ⟨j, z, hj1, hj2, rfl, HIN, HB3⟩ := hrel
        by_cases hjq : q < j
        ·obtain ⟨j', rfl⟩ : ∃ j', j = j' + 1 := ⟨j - 1, by omega⟩
         have hjg : (q : Int) < ((j' + 1 : Nat) : Int) := by omega
         have hja : (0 : Int) ≤ ((j' + 1 : Nat) : Int) := by omega
         have hjb : ((j' + 1 : Nat) : Int) < (m1 : Int) := by have := HM.out; omega
         have hjc : IntKind.i64.wrap (((j' + 1 : Nat) : Int) - 1) = (j' : Int) := by rw [IntKind.wrap_i64]; omega
         have hjd : (0 : Int) ≤ (j' : Int) := by omega
         have hje : (j' : Int) < (m1 : Int) := by have := HM.out; omega
         obtain ⟨x, hx⟩ : ∃ x, ps[j']? = some x := ⟨_, gE (by omega)⟩
         have hc1 := HIN.out.at_ (shift_at hj2 hx)
         have hc2 := HIN.out.at_ (i := j' + 1) (x := z) (by unfold shift; rw [List.getElem?_append_right (by rw [lK]; omega), lK, show j' + 1 - min (j' + 1) ps.length = 0 by omega]; rfl)
         have hf2 := HIN.out.frz (j' + 1)
         have HST : Hid (Ints (wr.setCell ⟨g, j' + 1, none⟩ (.int .i64 x)) g (shift ps j' x) c3) := by
          have h9 := HIN.out.set (j' + 1) x
          rw [shift_step hj2 hx] at h9
          exact h9
         have HBT : Hid (Below w.heap.size w (wr.setCell ⟨g, j' + 1, none⟩ (.int .i64 x))) := below_set HB3.out HG.out _ _
         have hq1 : q ≤ j' := by omega
         have hq2 : j' ≤ ps.length := by omega
         clear hx HIN HB3 hj1 hj2 hjq
         obtain ⟨jj, hjj⟩ : ∃ jj : Nat, j' + 1 = jj := ⟨_, rfl⟩
         have HJJ := lh hjj
         rw [hjj] at hjg hja hjb hjc hc2 hf2 HST HBT ⊢
         clear hjj
         go_wp2_with fail
         go_roundw
         case rel => exact ⟨j', x, hq1, hq2, by go_num, HST, HBT⟩
         case measure => (simp [intOf]; have := HJJ.out; omega)
        ·obtain rfl : j = q := by omega
         have hjg : ¬ (j : Int) < (j : Int) := by omega
         have hja : (0 : Int) ≤ (j : Int) := by omega
         have hjb : (j : Int) < (m1 : Int) := by have := HM.out; omega
         have hc2 := HIN.out.at_ (i := j) (x := z) (by unfold shift; rw [List.getElem?_append_right (by rw [lK]; omega), lK, show j - min j ps.length = 0 by omega]; rfl)
         have hf2 := HIN.out.frz j
         have HST : Hid (Ints (wr.setCell ⟨g, j, none⟩ (.int .i64 p)) g (ps.take j ++ p :: ps.drop j) c3) := by
          have h9 := HIN.out.set j p
          rw [shift_end hj2] at h9
          exact h9
         have HBT : Hid (Below w.heap.size w (wr.setCell ⟨g, j, none⟩ (.int .i64 p))) := below_set HB3.out HG.out _ _
         have HR2 : Hid (Rise (ps.take j ++ p :: ps.drop j) (fun a => Upto vs k a ∨ a ∈ (placesOf ⟨some ⟨b1, off, none⟩, n2, c2, ys⟩).take (i + 1))) := (HR.out.ins hj2 HLO.out HHI.out).congr (fun a => by rw [HMT.out a, or_assoc])
         have HLE : Hid ((ps.take j ++ p :: ps.drop j).length = m1) := by
          have h9 := shift_len (z := p) hj2
          unfold shift at h9
          show _ = _
          rw [h9, HM.out]
         have HL2 : Hid ((ps.take j ++ p :: ps.drop j).length ≤ 1000 * k + (i + 1)) := by have h9 := HLE.out; have := HM.out; have := HLN.out; show _ ≤ _; omega
         have hop : OwnP w (wr.setCell ⟨g, j, none⟩ (.int .i64 p)) (.slice (some ⟨g, 0, none⟩) (ps.take j ++ p :: ps.drop j).length c3) (ps.take j ++ p :: ps.drop j) := OwnP.of HBT.out HG.out HST.out
         have HOP := lh hop
         clear hop HIN HB3 hj1 hj2 hjq
         go_wp2_with fail
         go_roundw
         case rel => exact ⟨i + 1, _, _, c3, by omega, by go_num, by rw [HLE.out], HOP, HR2, HL2⟩
         case measure => (simp [intOf]; omega)
    ·have hi1 : ¬ (i : Int) < (n2 : Int) := by omega
     have HR2 : Hid (Rise ps (Upto vs (k + 1))) := HR.out.congr (fun a => by
      rw [List.take_of_length_le (by unfold placesOf; rw [lM]; have := HVL.out; show ys.length ≤ i; omega), upto_succ HVK.out])
     have HL2 : Hid (ps.length ≤ 1000 * (k + 1)) := by have := HLN.out; have := HVN.out; show _ ≤ _; omega
     go_wp2_with fail
     go_roundw
     case rel => exact ⟨k + 1, ps, A1, c1, by omega, by go_num, rfl, HP, HR2, HL2⟩
     case measure => (simp [intOf]; omega)
  ·have hk1 : ¬ (k : Int) < (K : Int) := by omega
   have HR2 : Hid (Rise ps (fun a => ∃ v ∈ vs, a ∈ placesOf v)) := HR.out.congr (fun a => by
    constructor
    ·rintro ⟨j, v, _, h2, h3⟩
     exact ⟨v, List.mem_of_getElem? h2, h3⟩
    ·rintro ⟨v, hv, h3⟩
     obtain ⟨j, hj⟩ := List.getElem?_of_mem hv
     have := (List.getElem?_eq_some_iff.1 hj).1
     exact ⟨j, v, by have := HKL.out.1; omega, hj, h3⟩)
   go_wp2_with fail
   exact ⟨rfl, .slice A1 ps.length c1, by simp [results, Tryz.results86, go_sem], .slice A1 ps.length c1, ps, rfl, HR2.out, HP.out⟩
end V

namespace V
open Go.RowKit
open Q (IsQ OneQ RetQ below_on ql Qbx)
theorem samevec_e {w : World} {A B : Option Addr} {n c m d p l L : Nat} {F G : Int → Rat} (hx : CF w A n c F) (hy : CF w B m d G) (hF : Fn p l L F) (hL : L ≤ 1000) (e : F = G) : Calls Tryz.prog 17 #[.slice A n c, .slice B m d] w (RetB w true) := by
 refine samevec_c hx hy ?_ true ⟨fun _ => e, fun _ => rfl⟩
 obtain ⟨ys, h1, h2, _⟩ := hx.ex
 have h3 := is_len h2 hF
 rw [vals_len] at h3
 rw [h1.en]
 omega
theorem CF.le {w : World} {A : Option Addr} {n c p l L : Nat} {F : Int → Rat} (hx : CF w A n c F) (hF : Fn p l L F) (hL : L ≤ 1000) : n ≤ 1000000 := by
 obtain ⟨ys, h1, h2, _⟩ := hx.ex
 have h3 := is_len h2 hF
 rw [vals_len] at h3
 rw [h1.en]
 omega
theorem IsV.fn {w : World} {A : Option Addr} {n c k L : Nat} {ys : List (TV × Rat)} (h : IsV w A n c ys k) (hk : 1 ≤ k) (hL : ys.length ≤ L) (hL2 : L ≤ 1000) : Fn (k * L + 1) (k * L + k + 1) L (tot (vals ys)) :=
 (short_fn (fun x hx => by obtain ⟨y, hy, rfl⟩ := List.mem_map.1 hx; exact (h.tq y hy).1.ql hk) (by rw [vals_len]; exact hL) hL2).1
theorem IsV.vf {w : World} {A : Option Addr} {n c k L : Nat} {ys : List (TV × Rat)} (h : IsV w A n c ys k) (hk : 1 ≤ k) (hL : ys.length ≤ L) (hL2 : L ≤ 1000) (hs : k * L + k + 1 ≤ 700) (hb : ∀ a, A = some a → a.block < w.heap.size) : VF w A n c (tot (vals ys)) := by
 have hk2 : k ≤ 700 := by omega
 refine ⟨⟨ys, ⟨h.en, h.cap, h.row, fun y hy => ⟨(h.tq y hy).1.mono hk2, (h.tq y hy).2⟩⟩, (short_fn (fun x hx => by obtain ⟨y, hy, rfl⟩ := List.mem_map.1 hx; exact (h.tq y hy).1.ql hk) (by rw [vals_len]; exact hL) hL2).2 hs, rfl⟩, by rw [h.en]; omega, hb⟩
theorem iff_dec (p : Prop) : ∃ v : Bool, v = true ↔ p := by
 by_cases h : p
 ·exact ⟨true, fun _ => h, fun _ => rfl⟩
 ·exact ⟨false, fun h2 => (by cases h2), fun h2 => absurd h2 h⟩
end V

namespace V
open List renaming getElem_toArray → gY, getElem_cons_zero → gZ, getElem_cons_succ → gJ, setIfInBounds_toArray → sT, set_cons_zero → sZ, set_cons_succ → sS
open Go.RowKit
open Q (IsQ OneQ RetQ below_on ql Qbx)
theorem tot_map {f : Int → Rat} {ps : List Int} (h : ps.Pairwise (· < ·)) (b : Int) : tot (ps.map (fun a => (a, f a))) b = if b ∈ ps then f b else 0 := by
 induction ps with
 | nil => rfl
 | cons a ps ih =>
  obtain ⟨h1, h2⟩ := List.pairwise_cons.1 h
  rw [List.map_cons, tot_cons, ih h2]
  by_cases hab : a = b
  ·subst hab
   rw [if_pos rfl, if_pos (List.mem_cons_self ..), if_neg (fun hm => by have := h1 a hm; omega)]; grind
  ·rw [if_neg hab]
   by_cases hm : b ∈ ps
   ·rw [if_pos hm, if_pos (List.mem_cons_of_mem _ hm)]; grind
   ·rw [if_neg hm, if_neg (fun hc => by rcases List.mem_cons.1 hc with e | hc; exact hab e.symm; exact hm hc)]; grind
theorem map_is {f : Int → Rat} {ps : List Int} (h : ps.Pairwise (· < ·)) (h0 : ∀ a, a ∉ ps → f a = 0) : Is f (nzs (ps.map (fun a => (a, f a)))) := by
 have h1 : (ps.map (fun a => (a, f a))).Pairwise (fun x y => x.1 < y.1) := List.Pairwise.map _ (fun a b (hab : a < b) => hab) h
 have h2 := nzs_is h1
 refine ⟨h2.1, fun a => ?_⟩
 rw [h2.2, tot_map h]
 split
 ·rfl
 ·next hn => exact (h0 a hn).symm
theorem vf_out {w : World} {A : Option Addr} {n c : Nat} {F : Int → Rat} (h : VF w A n c F) : ∃ ys, IsV w A n c ys 700 ∧ n ≤ 1000 ∧ ∀ a, a ∉ placesOf ⟨A, n, c, ys⟩ → F a = 0 := by
 obtain ⟨ys, h1, _, h3⟩ := h.ex
 refine ⟨ys, h1, h.len, fun a ha => ?_⟩
 rw [← h3]
 apply tot_none
 intro x hx e
 obtain ⟨y, hy, rfl⟩ := List.mem_map.1 hx
 exact ha (List.mem_map.2 ⟨y, hy, e⟩)
theorem isv_at {w : World} {A : Option Addr} {n c k : Nat} {ys : List (TV × Rat)} (h : IsV w A n c ys k) : ∀ a ∈ placesOf ⟨A, n, c, ys⟩, -9223372036854775808 ≤ a ∧ a ≤ 9223372036854775807 := by
 intro a ha
 obtain ⟨y, hy, rfl⟩ := List.mem_map.1 ha
 exact (h.tq y hy).2
set_option maxRecDepth 100000 in
set_option maxHeartbeats 8000000 in
theorem raxpy_c {w : World} {A B : Option Addr} {n c m d : Nat} {F G H : Int → Rat} {p0 l0 L0 p2 l2 L2 : Nat} {sa : Bool} {Aa : Option Addr} {na ca : Nat} {ta : Bool} {Ba : Option Addr} {ma da : Nat} {q : Rat} (hq : IsQ w sa Aa na ca ta Ba ma da q 700) (hx : VF w A n c F) (hy : VF w B m d G) (hH : fadd F (fmul q G) = H) (hF : Fn p0 l0 L0 H) (hp : p0 ≤ 700) (hl : l0 ≤ 700) (hG : Fn p2 l2 L2 (fmul q G)) (hp2 : p2 ≤ 700) (hl2 : l2 ≤ 700) (hF1 : ∀ a, ql (F a) ≤ 700) (hG1 : ∀ a, ql (G a) ≤ 700) :
  Calls Tryz.prog 23 #[.slice A n c, .agg #[.bool sa, .slice Aa na ca, .bool ta, .slice Ba ma da], .slice B m d] w (RetC w H) := by
 obtain ⟨xs, hx1, hx2, hx3⟩ := vf_out hx
 obtain ⟨ys, hy1, hy2, hy3⟩ := vf_out hy
 obtain ⟨W0, hW0⟩ : ∃ V, w.alloc (.cells #[.bool sa, .slice Aa na ca, .bool ta, .slice Ba ma da] 27) = V := ⟨_, rfl⟩
 obtain ⟨W1, hW1⟩ : ∃ V, W0.alloc (.cells #[.slice B m d, .slice A n c] 22) = V := ⟨_, rfl⟩
 have b0 : Below w.heap.size w W0 := by rw [← hW0]; exact (bR _ _).alloc (lR _) _
 have b1 : Below W0.heap.size W0 W1 := by rw [← hW1]; exact (bR _ _).alloc (lR _) _
 have q0 : Qbx W0 w.heap.size sa Aa na ca ta Ba ma da := by rw [← hW0]; exact Qbx.new _ _ rfl
 have r1 : W1.heap[W0.heap.size]? = some (.cells #[.slice B m d, .slice A n c] 22 (0, 0)) := by rw [← hW1]; exact heap_alloc_new W0 _
 have b01 := below_on b0 b1
 have HAR : Hid (Args W1 W0.heap.size [⟨B, m, d, ys⟩, ⟨A, n, c, xs⟩]) := by
  refine ⟨lt_of_block r1, fun j v hj => ?_, fun v hv => ?_⟩
  ·rw [cell_of_row W1 _ j _ _ _ r1]
   match j, hj with
   | 0, hj => obtain rfl := oI hj; rfl
   | 1, hj => obtain rfl := oI hj; rfl
  ·simp only [List.mem_cons, List.not_mem_nil, or_false] at hv
   rcases hv with rfl | rfl
   ·exact ⟨hy1.below b01, hy2⟩
   ·exact ⟨hx1.below b01, hx2⟩
 have HB := lh b01
 have HX := lh (hx.below b01)
 have HY := lh (hy.below b01)
 have HQA := lh (hq.below b01)
 have HBA := lh (q0.below b1)
 have HRX := lh (isv_at hx1)
 have HRY := lh (isv_at hy1)
 have HX0 : Hid (∀ a, a ∉ placesOf ⟨A, n, c, xs⟩ → F a = 0) := hx3
 have HY0 : Hid (∀ a, a ∉ placesOf ⟨B, m, d, ys⟩ → G a = 0) := hy3
 have HLX : Hid ((placesOf ⟨A, n, c, xs⟩).length ≤ 1000) := by show (List.map _ _).length ≤ _; rw [lM]; have := hx1.en; show xs.length ≤ _; omega
 have HLY : Hid ((placesOf ⟨B, m, d, ys⟩).length ≤ 1000) := by show (List.map _ _).length ≤ _; rw [lM]; have := hy1.en; show ys.length ≤ _; omega
 have HHE := lh hH
 have HFN := lh hF
 have HGN := lh hG
 have HPL : Hid (p0 ≤ 700 ∧ l0 ≤ 700 ∧ p2 ≤ 700 ∧ l2 ≤ 700) := ⟨hp, hl, hp2, hl2⟩
 have HQF : Hid (∀ a, ql (F a) ≤ 700) := hF1
 have HQG : Hid (∀ a, ql (G a) ≤ 700) := hG1
 clear hq hx hy hH hF hp hl hG hp2 hl2 hF1 hG1 hx1 hx2 hx3 hy1 hy2 hy3 b0 b1 q0 r1 b01
 go_enter Tryz.func23, Tryz.ntmps23
 go_upto_region 2 with fail
 clear hW0
 go_wp2_with fail
 refine (places_any (K := 2) HAR.out rfl (by omega)).mono ?_
 rintro e WP ⟨vp, ps, rfl, hr, ho⟩
 clear hW1 HAR
 obtain ⟨Ap, cp, rfl, hne⟩ := ho.slice
 have HBP := lh (below_on HB.out ho.bel)
 replace HX := lh (HX.out.below ho.bel)
 replace HY := lh (HY.out.below ho.bel)
 replace HQA := lh (HQA.out.below ho.bel)
 replace HBA := lh (HBA.out.below ho.bel)
 have HRI : Hid (Rise ps (fun a => ∃ v ∈ [(⟨B, m, d, ys⟩ : SV), ⟨A, n, c, xs⟩], a ∈ placesOf v)) := hr
 have HNE := lh hne
 have HPN : Hid (ps.length ≤ 2000) := by
  have h1 : ps.length ≤ (placesOf ⟨B, m, d, ys⟩ ++ placesOf ⟨A, n, c, xs⟩).length := nodup_le (hr.up.imp (fun h => by omega)) (fun a ha => by
   obtain ⟨v, hv, h2⟩ := (hr.iff_ a).1 ha
   simp only [List.mem_cons, List.not_mem_nil, or_false] at hv
   rcases hv with rfl | rfl
   ·exact List.mem_append_left _ h2
   ·exact List.mem_append_right _ h2)
  rw [lA] at h1
  have := HLX.out
  have := HLY.out
  show _ ≤ _
  omega
 have HRG : Hid (∀ a ∈ ps, -9223372036854775808 ≤ a ∧ a ≤ 9223372036854775807) := fun a ha => by
  obtain ⟨v, hv, h2⟩ := (hr.iff_ a).1 ha
  simp only [List.mem_cons, List.not_mem_nil, or_false] at hv
  rcases hv with rfl | rfl
  ·exact HRY.out a h2
  ·exact HRX.out a h2
 have HH0 : Hid (∀ a, a ∉ ps → H a = 0) := fun a ha => by
  rw [← HHE.out]
  show F a + q * G a = 0
  rw [HX0.out a (fun h => ha ((hr.iff_ a).2 ⟨_, by simp, h⟩)), HY0.out a (fun h => ha ((hr.iff_ a).2 ⟨_, by simp, h⟩))]
  grind
 have HZ := lh (OwnZ.nil WP WP.heap.size)
 have HW : Hid (New WP WP (.slice none 0 0)) := ⟨bR _ _, fun g h => by cases h⟩
 clear hr ho hne HRX HRY HX0 HY0 HLX HLY HB
 go_wp2_with fail
 go_loopw [7, 9] (fun vv iv wr => ∃ (i : Nat) (A1 : Option Addr) (n1 c1 : Nat) (zs : List (TV × Rat)), i ≤ ps.length ∧ iv = .int .i64 (i : Int) ∧ vv = .slice A1 n1 c1 ∧ Hid (OwnZ wr WP.heap.size (.slice A1 n1 c1) zs) ∧ Hid (vals zs = nzs ((ps.map (fun a => (a, H a))).take i)) ∧ Hid (New WP wr (.slice A1 n1 c1))) (fun _ iv _ => ps.length - (intOf iv).toNat)
 case atStart => exact ⟨0, none, 0, 0, [], Nat.zero_le _, rfl, rfl, HZ, rfl, HW⟩
 case round =>
  clear HZ HW
  obtain ⟨i, A1, n1, c1, zs, hi, rfl, rfl, HZ, HV, HW⟩ := hrel
  by_cases hlt : i < ps.length
  ·have hi1 : (i : Int) < (ps.length : Int) := by omega
   have hi0 : (0 : Int) ≤ (i : Int) := by omega
   have hwi : IntKind.i64.wrap ((i : Int) + 1) = (i : Int) + 1 := by have := HPN.out; rw [IntKind.wrap_i64]; omega
   obtain ⟨p, hpe⟩ : ∃ p, ps[i]? = some p := ⟨_, gE hlt⟩
   obtain ⟨gp, hgp, _, hint⟩ := HNE.out (by intro e; rw [e] at hpe; cases hpe)
   subst hgp
   have hcp := hint.at_ hpe
   have hlp := hint.lt
   have HRP := lh (HRG.out p (List.mem_of_getElem? hpe))
   have HLV : Hid ((ps.map (fun a => (a, H a)))[i]? = some (p, H p)) := by show _ = _; rw [gM, hpe]; rfl
   have HLN : Hid (zs.length ≤ 10000000) := by
    have h0 : (vals zs).length = zs.length := vals_len zs
    rw [HV.out] at h0
    have h1 : (nzs ((ps.map (fun a => (a, H a))).take i)).length ≤ ((ps.map (fun a => (a, H a))).take i).length := List.length_filter_le ..
    rw [lK] at h1
    have := HPN.out
    show _ ≤ _
    omega
   have HK : Hid (∀ V, Below WP.heap.size WP V → V.cell? ⟨gp, i, none⟩ = some (.int .i64 p) ∧ V.cell? ⟨w.heap.size, 0, none⟩ = some (.bool sa) ∧ V.cell? ⟨w.heap.size, 1, none⟩ = some (.slice Aa na ca) ∧ V.cell? ⟨w.heap.size, 2, none⟩ = some (.bool ta) ∧ V.cell? ⟨w.heap.size, 3, none⟩ = some (.slice Ba ma da)) := fun V hV => by
    have hb := HBA.out.below hV
    exact ⟨(hV.cell (p := ⟨gp, i, none⟩) hlp).trans hcp, hb.c0, hb.c1, hb.c2, hb.c3⟩
   have HMQ : Hid (ql (q * G p) ≤ 700) := (HGN.out.nm p).ql HPL.out.2.2.1 HPL.out.2.2.2
   have HHP : Hid (F p + q * G p = H p) := by show _ = _; rw [← HHE.out]; rfl
   have HHQ : Hid (ql (H p) ≤ 700) := (HFN.out.nm p).ql HPL.out.1 HPL.out.2.1
   have HBC := lh HW.out.bel
   clear hpe hint hcp hlp
   go_upto_region 6 with fail
   replace HBC := lh HBC.out.drew
   replace HZ := lh (HZ.out.below (bR _ _).drew)
   refine wp_region_held_drew (S := (fun V => V.cell? ⟨gp, i, none⟩ = some (.int .i64 p) ∧ V.cell? ⟨w.heap.size, 0, none⟩ = some (.bool sa) ∧ V.cell? ⟨w.heap.size, 1, none⟩ = some (.slice Aa na ca) ∧ V.cell? ⟨w.heap.size, 2, none⟩ = some (.bool ta) ∧ V.cell? ⟨w.heap.size, 3, none⟩ = some (.slice Ba ma da))) (by kernel_rfl) (by with_reducible exact HK.out _ HBC.out) (fun hHeld => ?_)
   refine' tK 0 ?_
   try simp only [gY, gZ, aP, sT, sZ, sS]
   refine' tK 1 ?_
   try simp only [gY, gZ, gJ, aP, sT, sZ, sS]
   refine' tK 2 ?_
   try simp only [gY, gZ, gJ, aP, sT, sZ, sS]
   refine' tK 3 ?_
   try simp only [gY, gZ, gJ, aP, sT, sZ, sS]
   refine' tK 4 ?_
   try simp only [gY, gZ, gJ, aP, sT, sZ, sS]
   refine' tK 5 ?_
   try simp only [gY, gZ, gJ, aP, sT, sZ, sS]
   refine' tK 6 ?_
   try simp only [gY, gZ, gJ, aP, sT, sZ, sS]
   refine' tK 7 ?_
   try simp only [gY, gZ, gJ, aP, sT, sZ, sS]
   refine' tK 8 ?_
   try simp only [gY, gZ, gJ, aP, sT, sZ, sS]
   refine' tK 9 ?_
   try simp only [gY, gZ, gJ, aP, sT, sZ, sS]
   refine' tK 11 ?_
   try simp only [gY, gZ, gJ, aP, sT, sZ, sS]
   refine' tK 12 ?_
   try simp only [gY, gZ, gJ, aP, sT, sZ, sS]
   refine' tK 13 ?_
   try simp only [gY, gZ, gJ, aP, sT, sZ, sS]
   refine' tK 14 ?_
   try simp only [gY, gZ, gJ, aP, sT, sZ, sS]
   refine' tK 15 ?_
   try simp only [gY, gZ, gJ, aP, sT, sZ, sS]
   refine' tK 16 ?_
   try simp only [gY, gZ, gJ, aP, sT, sZ, sS]
   refine rQ 10 (fun K hK => ?_)
   try simp only [gY, gZ, gJ]
   go_simp
   with_reducible refine (rget_c (HX.out.below HBC.out) p _ rfl).mono ?_
   rintro e w11 ⟨s11, A11, n11, c11, t11, B11, m11, d11, rfl, ho, hbx⟩
   replace HBC := lh (below_on HBC.out hbx)
   replace HZ := lh (HZ.out.below hbx)
   refine hK.out _ _ (by with_reducible exact HK.out _ HBC.out) (fun hHeld => ?_)
   clear hK K
   try simp only [aP, sT, sZ, sS]
   have HO11 := lh ho
   clear ho hbx
   refine rQ 17 (fun K hK => ?_)
   try simp only [gY, gZ, gJ]
   go_simp
   with_reducible refine (rget_c (HY.out.below HBC.out) p _ rfl).mono ?_
   rintro e w12 ⟨s12, A12, n12, c12, t12, B12, m12, d12, rfl, ho, hbx⟩
   replace HBC := lh (below_on HBC.out hbx)
   replace HZ := lh (HZ.out.below hbx)
   replace HO11 := lh (HO11.out.below hbx)
   refine hK.out _ _ (by with_reducible exact HK.out _ HBC.out) (fun hHeld => ?_)
   clear hK K
   try simp only [aP, sT, sZ, sS]
   have HO12 := lh ho
   clear ho hbx
   refine rQ 18 (fun K hK => ?_)
   try simp only [gY, gZ, gJ]
   go_simp
   with_reducible refine (Q.P.mul_q (HQA.out.below HBC.out) (HO12.out.isq (HQG.out p)) (by omega) (by omega) _ rfl).mono ?_
   rintro e w13 ⟨s13, A13, n13, c13, t13, B13, m13, d13, rfl, ho, hbx⟩
   replace HBC := lh (below_on HBC.out hbx)
   replace HZ := lh (HZ.out.below hbx)
   replace HO11 := lh (HO11.out.below hbx)
   replace HO12 := lh (HO12.out.below hbx)
   refine hK.out _ _ (by with_reducible exact HK.out _ HBC.out) (fun hHeld => ?_)
   clear hK K
   try simp only [aP, sT, sZ, sS]
   have HO13 := lh ho
   clear ho hbx
   refine rQ 19 (fun K hK => ?_)
   try simp only [gY, gZ, gJ]
   go_simp
   with_reducible refine (Q.P.add_q (HO11.out.isq (HQF.out p)) (HO13.out.isq HMQ.out) (by omega) (by omega) (H p) HHP.out).mono ?_
   rintro e w14 ⟨s14, A14, n14, c14, t14, B14, m14, d14, rfl, ho, hbx⟩
   replace HBC := lh (below_on HBC.out hbx)
   replace HZ := lh (HZ.out.below hbx)
   replace HO11 := lh (HO11.out.below hbx)
   replace HO12 := lh (HO12.out.below hbx)
   replace HO13 := lh (HO13.out.below hbx)
   refine hK.out _ _ (by with_reducible exact HK.out _ HBC.out) (fun hHeld => ?_)
   clear hK K
   try simp only [aP, sT, sZ, sS]
   have HO14 := lh ho
   clear ho hbx
   refine rQ 20 (fun K hK => ?_)
   try simp only [gY, gZ, gJ]
   go_simp
   with_reducible refine (rput_any HZ.out HBC.out.size (HO14.out.isq HHQ.out) (by omega) (by omega) HRP.out HLN.out).mono ?_
   rintro e w15 ⟨A2, n2, c2', zs2, rfl, h2, h3, h4, h5⟩
   have HZ2 := lh h2
   have HV2 : Hid (vals zs2 = nzs ((ps.map (fun a => (a, H a))).take (i + 1))) := by show _ = _; rw [h3, nzs_snoc HLV.out, HV.out]
   have hnw : New WP w14 (.slice A1 n1 c1) := ⟨HBC.out, HW.out.new⟩
   have HW2 := lh (hnw.step h4 h5)
   clear h2 h3 h4 h5 hnw
   refine hK.out _ _ (by with_reducible exact HK.out _ HW2.out.bel) (fun hHeld => ?_)
   clear hK K
   try simp only [aP, sT, sZ, sS]
   refine' tK 21 ?_
   try simp only [gY, gZ, gJ, aP, sT, sZ, sS]
   refine wpAnyH_done (by kernel_rfl) ?_ _
   go_wp2_with fail
   go_roundw
   case rel => exact ⟨i + 1, A2, n2, c2', zs2, by omega, by go_num, rfl, HZ2, HV2, HW2⟩
   case measure => (simp [intOf]; omega)
  ·have hi1 : ¬ (i : Int) < (ps.length : Int) := by omega
   have hin : (ps.map (fun a => (a, H a))).take i = ps.map (fun a => (a, H a)) := List.take_of_length_le (by rw [lM]; omega)
   have HRET : Hid (RetC w H (.returned (.slice A1 n1 c1)) wr) := HZ.out.ret (by rw [HV.out, hin]; exact map_is HRI.out.up HH0.out) HFN.out HPL.out.1 HPL.out.2.1 (below_on HBP.out HW.out.bel)
   clear hin
   go_wp2_with fail
   exact ⟨rfl, .slice A1 n1 c1, by simp [results, Tryz.results23, go_sem], HRET.out⟩
