/- Part 36 of the proof: PSums, VRget, VPlaces, VKit, VRaxpy, VRops, VRaw, VCopyVec, VDPut. -/
import Derived.Test.YthjiacmhhpfokaaGreatL35
namespace Go.Proofs.YthjiacmhhpfokaaGreat
open Go.Proofs.Tryz renaming prog → tz
open List renaming length_take → lK, length_append → lA
namespace Q.P
open Go.RowKit
end Q.P

namespace V
open Go.RowKit
open Q (IsQ OneQ RetQ below_on ql Qbx below_put4)
theorem tot_take_succ {l : List (Int × Rat)} {i : Nat} {p : Int × Rat} (h : l[i]? = some p) (a : Int) : tot (l.take (i + 1)) a = tot (l.take i) a + (if p.1 = a then p.2 else 0) := by
 rw [List.take_add_one, h, tot_append]
 have : tot (some p).toList a = (if p.1 = a then p.2 else 0) := by
  show (if p.1 = a then p.2 else 0) + 0 = _
  grind
 rw [this]
structure SO (w wx : World) (s : Bool) (A : Option Addr) (n c : Nat) (t : Bool) (B : Option Addr) (m d : Nat) (q : Rat) : Prop where
 bel : Below w.heap.size w wx
 o : Qbx wx w.heap.size false none 0 0 false none 0 0
 tot : Qbx wx (w.heap.size + 1) s A n c t B m d
 val : OneQ wx s A n c t B m d q
theorem SO.below {w wx wy : World} {s t : Bool} {A B : Option Addr} {n c m d : Nat} {q : Rat} (h : SO w wx s A n c t B m d q) (hb : Below wx.heap.size wx wy) : SO w wy s A n c t B m d q := ⟨below_on h.bel hb, h.o.below hb, h.tot.below hb, h.val.below hb⟩
theorem SO.put {w wx : World} {s t : Bool} {A B : Option Addr} {n c m d : Nat} {q : Rat} {s' t' : Bool} {A' B' : Option Addr} {n' c' m' d' : Nat} {q' : Rat} (h : SO w wx s A n c t B m d q) (h2 : OneQ wx s' A' n' c' t' B' m' d' q') : SO w (Q.put4 wx (w.heap.size + 1) s' A' n' c' t' B' m' d') s' A' n' c' t' B' m' d' q' :=
 ⟨below_put4 h.bel (by omega), h.o.put4_far (by omega), h.tot.put, h2.on4 h.tot.bx⟩
end V

namespace V
open Go.RowKit
open Q (IsQ OneQ RetQ below_on ql Qbx)
def icell (a : Int) : Value := .int .i64 a
structure Rise (ps : List Int) (P : Int → Prop) : Prop where
 up : ps.Pairwise (· < ·)
 iff_ : ∀ a, a ∈ ps ↔ P a
theorem Rise.nil : Rise [] (fun _ => False) := ⟨List.Pairwise.nil, fun _ => by simp⟩
structure Ints (w : World) (g : Nat) (L : List Int) (c : Nat) : Prop where
 ex : ∃ cur : Array Value, w.heap[g]? = some (.cells cur 3 (0, 0)) ∧ cur.toList.take L.length = L.map icell ∧ cur.size = c
 cap : L.length ≤ c
 mx : c ≤ maxLen
theorem Ints.at_ {w : World} {g c : Nat} {L : List Int} (h : Ints w g L c) {i : Nat} {x : Int} (hx : L[i]? = some x) : w.cell? ⟨g, i, none⟩ = some (.int .i64 x) := by
 obtain ⟨cur, h1, h2, _⟩ := h.ex
 rw [cell_of_row w g i _ _ _ h1]
 have h3 : (cur.toList.take L.length)[i]? = some (icell x) := by rw [h2, List.getElem?_map, hx]; rfl
 rw [List.getElem?_take] at h3
 split at h3
 ·simpa [icell] using h3
 ·cases h3
theorem Ints.frz {w : World} {g c : Nat} {L : List Int} (h : Ints w g L c) (i : Nat) : w.frozen? ⟨g, i, none⟩ = false := by
 obtain ⟨cur, h1, _⟩ := h.ex
 exact frozen_of_row w g i _ _ h1
theorem Ints.lt {w : World} {g c : Nat} {L : List Int} (h : Ints w g L c) : g < w.heap.size := by obtain ⟨cur, h1, _⟩ := h.ex; exact lt_of_block h1
theorem Ints.below {w w' : World} {g c : Nat} {L : List Int} (h : Ints w g L c) (hb : Below w.heap.size w w') : Ints w' g L c := by
 obtain ⟨cur, h1, h2⟩ := h.ex
 exact ⟨⟨cur, (hb.block g (lt_of_block h1)).trans h1, h2⟩, h.cap, h.mx⟩
theorem Ints.set {w : World} {g c : Nat} {L : List Int} (h : Ints w g L c) (i : Nat) (x : Int) : Ints (w.setCell ⟨g, i, none⟩ (.int .i64 x)) g (L.set i x) c := by
 obtain ⟨cur, h1, h2, h3⟩ := h.ex
 refine ⟨⟨_, heap_setCell_same w g i _ _ _ h1, ?_, by simpa using h3⟩, by rw [List.length_set]; exact h.cap, h.mx⟩
 rw [List.length_set, Array.toList_setIfInBounds, List.take_set, h2, List.map_set]
 rfl
theorem below_set {w wx : World} {g : Nat} (h : Below w.heap.size w wx) (hg : w.heap.size ≤ g) (i : Nat) (v : Value) : Below w.heap.size w (wx.setCell ⟨g, i, none⟩ v) :=
 ((Near.refl (fun b => b = g) wx).setCell g i v rfl).new h (fun _ hb => hb ▸ hg)
def shift (ps : List Int) (j : Nat) (z : Int) : List Int := ps.take j ++ z :: ps.drop j
theorem shift_len {ps : List Int} {j : Nat} {z : Int} (hj : j ≤ ps.length) : (shift ps j z).length = ps.length + 1 := by
 unfold shift
 rw [lA, List.length_cons, lK, List.length_drop]
 omega
theorem shift_step {ps : List Int} {j : Nat} {z x : Int} (hj : j + 1 ≤ ps.length) (hx : ps[j]? = some x) : (shift ps (j + 1) z).set (j + 1) x = shift ps j x := by
 obtain ⟨h1, e⟩ := List.getElem?_eq_some_iff.1 hx
 unfold shift
 have e1 : ps.take (j + 1) = ps.take j ++ [x] := by rw [List.take_succ_eq_append_getElem h1, e]
 have e2 : ps.drop j = x :: ps.drop (j + 1) := by rw [List.drop_eq_getElem_cons h1, e]
 rw [List.set_append_right _ _ (by rw [lK]; omega), e1, e2]
 have e3 : j + 1 - (ps.take j ++ [x]).length = 0 := by rw [lA, lK]; simp; omega
 rw [e3, List.set_cons_zero, List.append_assoc]
 rfl
theorem shift_at {ps : List Int} {j : Nat} {z x : Int} (hj : j + 1 ≤ ps.length) (hx : ps[j]? = some x) : (shift ps (j + 1) z)[j]? = some x := by
 unfold shift
 rw [List.getElem?_append_left (by rw [lK]; omega), List.getElem?_take, if_pos (by omega), hx]
theorem shift_end {ps : List Int} {j : Nat} {z a : Int} (hj : j ≤ ps.length) : (shift ps j z).set j a = ps.take j ++ a :: ps.drop j := by
 unfold shift
 rw [List.set_append_right _ _ (by rw [lK]; omega)]
 have e3 : j - (ps.take j).length = 0 := by rw [lK]; omega
 rw [e3, List.set_cons_zero]
structure OwnP (w wx : World) (v : Value) (ps : List Int) : Prop where
 bel : Below w.heap.size w wx
 own : wx.ownsRow w.heap.size 3 1 v ps.length (ps.map icell)
theorem OwnP.slice {w wx : World} {v : Value} {ps : List Int} (h : OwnP w wx v ps) : ∃ A c, v = .slice A ps.length c ∧ (ps ≠ [] → ∃ g, A = some ⟨g, 0, none⟩ ∧ w.heap.size ≤ g ∧ Ints wx g ps c) := by
 rcases h.own.2 with ⟨rfl, h0⟩ | ⟨g, cap, cur, rfl, hg, hc, hn, hm, hs, ht⟩
 ·have : ps = [] := List.eq_nil_of_length_eq_zero h0
  subst this
  exact ⟨none, 0, rfl, fun h => absurd rfl h⟩
 ·exact ⟨_, cap, rfl, fun _ => ⟨g, rfl, hg, ⟨cur, hc, by rw [← ht, Nat.mul_one], by rw [hs, Nat.mul_one]⟩, hn, hm⟩⟩
theorem OwnP.of {w wx : World} {g c : Nat} {L : List Int} (hb : Below w.heap.size w wx) (hg : w.heap.size ≤ g) (h : Ints wx g L c) : OwnP w wx (.slice (some ⟨g, 0, none⟩) L.length c) L := by
 obtain ⟨cur, h1, h2, h3⟩ := h.ex
 exact ⟨hb, by simp, .inr ⟨g, c, cur, rfl, hg, h1, h.cap, h.mx, by rw [h3, Nat.mul_one], by rw [Nat.mul_one, h2]⟩⟩
theorem OwnP.below {w wx wy : World} {v : Value} {ps : List Int} (h : OwnP w wx v ps) (hb : Below wx.heap.size wx wy) : OwnP w wy v ps := ⟨below_on h.bel hb, ownsRow_below h.own hb⟩
structure SV where
 A : Option Addr
 n : Nat
 c : Nat
 ys : List (TV × Rat)
theorem app_split {w wr w3 : World} {o : Obj} {v v' : Value} {ps : List Int} (hb : Below w.heap.size w wr) (ho : wr.ownsRow w.heap.size 3 1 v ps.length (ps.map icell)) (h' : w3.ownsRow w.heap.size 3 1 v' (ps.length + 1) (ps.map icell ++ [.int .i64 0])) (hg : (wr.alloc o).grownBy w3 v.ownBlock) (hl : ps.length ≤ 200000) :
  ∃ (g c m1 : Nat), v' = .slice (some ⟨g, 0, none⟩) m1 c ∧ IntKind.i64.wrap ((m1 : Int) - 1) = (ps.length : Int) ∧ m1 = ps.length + 1 ∧ Ints w3 g (shift ps ps.length 0) c ∧ w.heap.size ≤ g ∧ Below w.heap.size w w3 := by
 have hbel3 := E.below_app hb hb.size (Nat.le_refl _) ho hg
 have hop : OwnP w w3 v' (ps ++ [0]) := ⟨hbel3, by rw [lA, List.map_append]; exact h'⟩
 obtain ⟨A3, c3, hve, hne⟩ := hop.slice
 obtain ⟨g, rfl, hg, hint⟩ := hne (by simp)
 have hsh : ps ++ [0] = shift ps ps.length 0 := by unfold shift; rw [List.take_length, List.drop_length]
 exact ⟨g, c3, _, hve, by rw [lA, List.length_singleton, IntKind.wrap_i64]; omega, by simp, by rw [← hsh]; exact hint, hg, hbel3⟩
end V

namespace V
open Go.RowKit
open Q (IsQ OneQ RetQ below_on ql Qbx)
structure Big (n : Nat) (w : World) : Prop where
 le : n ≤ w.heap.size
theorem Big.below {n : Nat} {w w' : World} (h : Big n w) (hb : Below w.heap.size w w') : Big n w' := ⟨Nat.le_trans h.le hb.size⟩
theorem samevec_e {w : World} {A B : Option Addr} {n c m d p l L : Nat} {F G : Int → Rat} (hx : CF w A n c F) (hy : CF w B m d G) (hF : Fn p l L F) (hL : L ≤ 1000) (e : F = G) : Calls tz 17 #[.slice A n c, .slice B m d] w (RetB w true) := by
 refine samevec_c hx hy ?_ true ⟨fun _ => e, fun _ => rfl⟩
 obtain ⟨ys, h1, h2, _⟩ := hx.ex
 have h3 := is_len h2 hF
 rw [vals_len] at h3
 rw [h1.en]
 omega
theorem CF.le {w : World} {A : Option Addr} {n c p l L : Nat} {F : Int → Rat} (hx : CF w A n c F) (hF : Fn p l L F) (hL : L ≤ 1000) : n ≤ 1000000 := by
 obtain ⟨ys, h1, h2, _⟩ := hx.ex
 have h3 := is_len h2 hF
 rw [vals_len] at h3
 rw [h1.en]
 omega
theorem IsV.fn {w : World} {A : Option Addr} {n c k L : Nat} {ys : List (TV × Rat)} (h : IsV w A n c ys k) (hk : 1 ≤ k) (hL : ys.length ≤ L) (hL2 : L ≤ 1000) : Fn (k * L + 1) (k * L + k + 1) L (tot (vals ys)) :=
 (short_fn (fun x hx => by obtain ⟨y, hy, rfl⟩ := List.mem_map.1 hx; exact (h.tq y hy).1.ql hk) (by rw [vals_len]; exact hL) hL2).1
theorem IsV.vf {w : World} {A : Option Addr} {n c k L : Nat} {ys : List (TV × Rat)} (h : IsV w A n c ys k) (hk : 1 ≤ k) (hL : ys.length ≤ L) (hL2 : L ≤ 1000) (hs : k * L + k + 1 ≤ 700) (hb : ∀ a, A = some a → a.block < w.heap.size) : VF w A n c (tot (vals ys)) := by
 have hk2 : k ≤ 700 := by omega
 refine ⟨⟨ys, ⟨h.en, h.cap, h.row, fun y hy => ⟨(h.tq y hy).1.mono hk2, (h.tq y hy).2⟩⟩, (short_fn (fun x hx => by obtain ⟨y, hy, rfl⟩ := List.mem_map.1 hx; exact (h.tq y hy).1.ql hk) (by rw [vals_len]; exact hL) hL2).2 hs, rfl⟩, by rw [h.en]; omega, hb⟩
theorem iff_dec (p : Prop) : ∃ v : Bool, v = true ↔ p := by
 by_cases h : p
 ·exact ⟨true, fun _ => h, fun _ => rfl⟩
 ·exact ⟨false, fun h2 => (by cases h2), fun h2 => absurd h2 h⟩
end V

namespace V
open Go.RowKit
open Q (IsQ OneQ RetQ below_on ql Qbx)
end V

namespace V
open Go.RowKit
open Q (IsQ OneQ RetQ below_on ql Qbx below_put4)
section
variable {w : World} {A B : Option Addr} {n c m d : Nat} {F G H : Int → Rat} {p l L p2 l2 L2 : Nat}
end
end V

namespace Q
open Go.RowKit
structure Raw (w : World) (A : Option Addr) (n c : Nat) (B : Option Addr) (m d : Nat) (xs ys : List Nat) : Prop where
 en : n = xs.length
 em : m = ys.length
 x : Num w A xs
 y : Num w B ys
 cap : n ≤ c
 cap2 : m ≤ d
section
variable {w w' V : World} {A B : Option Addr} {n c m d g : Nat} {xs ys : List Nat} {s' t' : Bool} {A' B' : Option Addr} {n' c' m' d' : Nat} {o : Obj}
theorem Raw.below (h : Raw w A n c B m d xs ys) (hb : Below w.heap.size w w') : Raw w' A n c B m d xs ys := ⟨h.en, h.em, h.x.below hb, h.y.below hb, h.cap, h.cap2⟩
theorem Raw.alloc (h : Raw w A n c B m d xs ys) (o : Obj) : Raw (w.alloc o) A n c B m d xs ys := h.below ((Below.refl _ _).alloc (Nat.le_refl _) o)
theorem num_on4 {xs : List Nat} {A : Option Addr} (h : Num w A xs) (b : Box w g) : Num (put4 w g s' A' n' c' t' B' m' d') A xs := Num.set (Num.set (Num.set (Num.set h b _ _) (bx2 b) _ _) b.on2 _ _) b.three _ _
theorem Raw.pt {s0 t0 : Bool} {A0 B0 : Option Addr} {n0 c0 m0 d0 : Nat} (h : Raw w A n c B m d xs ys) (b : Qbx w g s0 A0 n0 c0 t0 B0 m0 d0) (e : put4 w g s' A' n' c' t' B' m' d' = V) : Raw V A n c B m d xs ys := by
 subst e; exact ⟨h.en, h.em, num_on4 h.x b.bx, num_on4 h.y b.bx, h.cap, h.cap2⟩
end
theorem IsQ.raw {w : World} {s t : Bool} {A B : Option Addr} {n c m d k : Nat} {q : Rat} (h : IsQ w s A n c t B m d q k) : ∃ xs ys, Raw w A n c B m d xs ys := by
 obtain ⟨xs, ys, h1, h2, h3, h4, h5⟩ := h.ex
 exact ⟨xs, ys, h1, h2, h3, h4, h.cap, h.cap2⟩
structure T2 (w wx : World) (sa : Bool) (Aa : Option Addr) (na ca : Nat) (ta : Bool) (Ba : Option Addr) (ma da : Nat) (sb : Bool) (Ab : Option Addr) (nb cb : Nat) (tb : Bool) (Bb : Option Addr) (mb db : Nat) (xa ya xb yb : List Nat) (y z : Int) (p r : Rat) : Prop where
 bel : Below w.heap.size w wx
 i1 : Qbx wx w.heap.size sa Aa na ca ta Ba ma da
 i2 : Qbx wx (w.heap.size + 1) sb Ab nb cb tb Bb mb db
 a : IsQ wx sa Aa na ca ta Ba ma da p 5
 b : IsQ wx sb Ab nb cb tb Bb mb db r 5
 ra : Raw wx Aa na ca Ba ma da xa ya
 rb : Raw wx Ab nb cb Bb mb db xb yb
 zn : IsZ wx sa Aa na ca y 5
 zd : IsZ wx ta Ba ma da z 5
section
variable {w wx wy V : World} {sa : Bool} {Aa : Option Addr} {na ca : Nat} {ta : Bool} {Ba : Option Addr} {ma da : Nat} {sb : Bool} {Ab : Option Addr} {nb cb : Nat} {tb : Bool} {Bb : Option Addr} {mb db : Nat} {xa ya xb yb : List Nat} {y z : Int} {p r : Rat} {g : Nat} {s1 t1 s3 t3 : Bool} {A1 B1 A3 B3 : Option Addr} {n1 c1 m1 d1 n3 c3 m3 d3 : Nat} {o : Obj}
theorem T2.below (h : T2 w wx sa Aa na ca ta Ba ma da sb Ab nb cb tb Bb mb db xa ya xb yb y z p r) (hb : Below wx.heap.size wx wy) : T2 w wy sa Aa na ca ta Ba ma da sb Ab nb cb tb Bb mb db xa ya xb yb y z p r := ⟨below_on h.bel hb, h.i1.below hb, h.i2.below hb, h.a.below hb, h.b.below hb, h.ra.below hb, h.rb.below hb, h.zn.below hb, h.zd.below hb⟩
theorem T2.alloc (h : T2 w wx sa Aa na ca ta Ba ma da sb Ab nb cb tb Bb mb db xa ya xb yb y z p r) (o : Obj) : T2 w (wx.alloc o) sa Aa na ca ta Ba ma da sb Ab nb cb tb Bb mb db xa ya xb yb y z p r := h.below ((Below.refl _ _).alloc (Nat.le_refl _) o)
theorem T2.keep (h : T2 w wx sa Aa na ca ta Ba ma da sb Ab nb cb tb Bb mb db xa ya xb yb y z p r) : wx.cell? ⟨w.heap.size, 0, none⟩ = some (.bool sa) ∧ wx.cell? ⟨w.heap.size, 1, none⟩ = some (.slice Aa na ca) ∧ wx.cell? ⟨w.heap.size, 2, none⟩ = some (.bool ta) ∧ wx.cell? ⟨w.heap.size, 3, none⟩ = some (.slice Ba ma da) ∧ wx.cell? ⟨w.heap.size + 1, 0, none⟩ = some (.bool sb) ∧ wx.cell? ⟨w.heap.size + 1, 1, none⟩ = some (.slice Ab nb cb) ∧ wx.cell? ⟨w.heap.size + 1, 2, none⟩ = some (.bool tb) ∧ wx.cell? ⟨w.heap.size + 1, 3, none⟩ = some (.slice Bb mb db) :=
 ⟨h.i1.c0, h.i1.c1, h.i1.c2, h.i1.c3, h.i2.c0, h.i2.c1, h.i2.c2, h.i2.c3⟩
theorem T2.pt (h : T2 w wx sa Aa na ca ta Ba ma da sb Ab nb cb tb Bb mb db xa ya xb yb y z p r) (b : Qbx wx g s3 A3 n3 c3 t3 B3 m3 d3) (hl : w.heap.size + 1 < g) (e : put4 wx g s1 A1 n1 c1 t1 B1 m1 d1 = V) : T2 w V sa Aa na ca ta Ba ma da sb Ab nb cb tb Bb mb db xa ya xb yb y z p r :=
 by subst e; exact ⟨below_put4 h.bel (by omega), h.i1.put4_far (by omega), h.i2.put4_far (by omega), h.a.on4 b.bx, h.b.on4 b.bx, h.ra.pt b rfl, h.rb.pt b rfl, h.zn.on4 b.bx, h.zd.on4 b.bx⟩
end
section
variable {wx V : World} {g g1 : Nat} {s0 t0 s1 t1 : Bool} {A0 B0 A1 B1 : Option Addr} {n0 c0 m0 d0 n1 c1 m1 d1 : Nat}
theorem Qbx.pt (h : Qbx wx g s0 A0 n0 c0 t0 B0 m0 d0) (e : put4 wx g s1 A1 n1 c1 t1 B1 m1 d1 = V) : Qbx V g s1 A1 n1 c1 t1 B1 m1 d1 := by subst e; exact h.put
end
structure T5 (w wx : World) (gx gy gq : Nat) (sa : Bool) (Aa : Option Addr) (na ca : Nat) (ta : Bool) (Ba : Option Addr) (ma da : Nat) (sb : Bool) (Ab : Option Addr) (nb cb : Nat) (tb : Bool) (Bb : Option Addr) (mb db : Nat) (xa ya xb yb : List Nat) (y z : Int) (p r : Rat) (Ax : Option Addr) (cx : Nat) (Bx : Option Addr) (dx : Nat) (Ay : Option Addr) (cy : Nat) (By : Option Addr) (dy : Nat) (sq : Bool) (Aq : Option Addr) (nq cq : Nat) (tq : Bool) (Bq : Option Addr) (mq dq : Nat) (u : Rat) : Prop where
 t : T2 w wx sa Aa na ca ta Ba ma da sb Ab nb cb tb Bb mb db xa ya xb yb y z p r
 ix : Qbx wx gx sa Ax na cx ta Bx ma dx
 iy : Qbx wx gy sb Ay nb cy tb By mb dy
 iq : Qbx wx gq sq Aq nq cq tq Bq mq dq
 rx : Raw wx Ax na cx Bx ma dx xa ya
 ry : Raw wx Ay nb cy By mb dy xb yb
 q : OneQ wx sq Aq nq cq tq Bq mq dq u
section
variable {w wx wy : World} {gx gy gq : Nat} {sa : Bool} {Aa : Option Addr} {na ca : Nat} {ta : Bool} {Ba : Option Addr} {ma da : Nat} {sb : Bool} {Ab : Option Addr} {nb cb : Nat} {tb : Bool} {Bb : Option Addr} {mb db : Nat} {xa ya xb yb : List Nat} {y z : Int} {p r u : Rat} {Ax : Option Addr} {cx : Nat} {Bx : Option Addr} {dx : Nat} {Ay : Option Addr} {cy : Nat} {By : Option Addr} {dy : Nat} {sq : Bool} {Aq : Option Addr} {nq cq : Nat} {tq : Bool} {Bq : Option Addr} {mq dq : Nat}
theorem T5.below (h : T5 w wx gx gy gq sa Aa na ca ta Ba ma da sb Ab nb cb tb Bb mb db xa ya xb yb y z p r Ax cx Bx dx Ay cy By dy sq Aq nq cq tq Bq mq dq u) (hb : Below wx.heap.size wx wy) : T5 w wy gx gy gq sa Aa na ca ta Ba ma da sb Ab nb cb tb Bb mb db xa ya xb yb y z p r Ax cx Bx dx Ay cy By dy sq Aq nq cq tq Bq mq dq u := ⟨h.t.below hb, h.ix.below hb, h.iy.below hb, h.iq.below hb, h.rx.below hb, h.ry.below hb, h.q.below hb⟩
theorem T5.keep (h : T5 w wx gx gy gq sa Aa na ca ta Ba ma da sb Ab nb cb tb Bb mb db xa ya xb yb y z p r Ax cx Bx dx Ay cy By dy sq Aq nq cq tq Bq mq dq u) : wx.cell? ⟨w.heap.size, 0, none⟩ = some (.bool sa) ∧ wx.cell? ⟨w.heap.size, 1, none⟩ = some (.slice Aa na ca) ∧ wx.cell? ⟨w.heap.size, 2, none⟩ = some (.bool ta) ∧ wx.cell? ⟨w.heap.size, 3, none⟩ = some (.slice Ba ma da) ∧ wx.cell? ⟨w.heap.size + 1, 0, none⟩ = some (.bool sb) ∧ wx.cell? ⟨w.heap.size + 1, 1, none⟩ = some (.slice Ab nb cb) ∧ wx.cell? ⟨w.heap.size + 1, 2, none⟩ = some (.bool tb) ∧ wx.cell? ⟨w.heap.size + 1, 3, none⟩ = some (.slice Bb mb db) ∧ wx.cell? ⟨gq, 0, none⟩ = some (.bool sq) ∧ wx.cell? ⟨gq, 1, none⟩ = some (.slice Aq nq cq) ∧ wx.cell? ⟨gq, 2, none⟩ = some (.bool tq) ∧ wx.cell? ⟨gq, 3, none⟩ = some (.slice Bq mq dq) :=
 ⟨h.t.i1.c0, h.t.i1.c1, h.t.i1.c2, h.t.i1.c3, h.t.i2.c0, h.t.i2.c1, h.t.i2.c2, h.t.i2.c3, h.iq.c0, h.iq.c1, h.iq.c2, h.iq.c3⟩
end
theorem OneQ.len {w : World} {s t : Bool} {A B : Option Addr} {n c m d : Nat} {q : Rat} (h : OneQ w s A n c t B m d q) : ((m : Int) == 0) = decide (q.den = 1) := by
 have e := h.em
 unfold dden at e
 by_cases hd : q.den = 1
 ·rw [if_pos hd] at e
  rw [e, decide_eq_true hd]; rfl
 ·rw [if_neg hd] at e
  have hne : (dig q.den).length ≠ 0 := fun h2 => q.den_nz (dig_nil_iff.1 h2)
  rw [decide_eq_false hd, beq_eq_false_iff_ne]
  omega
end Q

namespace V
open Go.RowKit
open Q (IsQ OneQ RetQ below_on ql Qbx Raw)
structure Fit (w : World) (x : TV) : Prop where
 raw : ∃ us vs, Raw w x.A x.n x.c x.B x.m x.d us vs
 nA : x.A = none → x.c = 0
 nB : x.B = none → x.d = 0
 le : x.n ≤ 1000
 le2 : x.m ≤ 1000
theorem Fit.below {w w' : World} {x : TV} (h : Fit w x) (hb : Below w.heap.size w w') : Fit w' x := by
 obtain ⟨us, vs, h1⟩ := h.raw
 exact ⟨⟨us, vs, h1.below hb⟩, h.nA, h.nB, h.le, h.le2⟩
structure Twin (w : World) (x z : TV) : Prop where
 at_ : z.at_ = x.at_
 s : z.s = x.s
 t : z.t = x.t
 n : z.n = x.n
 m : z.m = x.m
 raw : ∃ us vs, Raw w x.A x.n x.c x.B x.m x.d us vs ∧ Raw w z.A z.n z.c z.B z.m z.d us vs
theorem raw_near {Own : Nat → Prop} {w wx : World} {A B : Option Addr} {n c m d : Nat} {us vs : List Nat} (h : Raw w A n c B m d us vs) (hd : NoDig w Own) (hn : Near Own w wx) : Raw wx A n c B m d us vs :=
 ⟨h.en, h.em, num_near h.x hd hn, num_near h.y hd hn, h.cap, h.cap2⟩
theorem Twin.near {Own : Nat → Prop} {w wx : World} {x z : TV} (h : Twin w x z) (hd : NoDig w Own) (hn : Near Own w wx) : Twin wx x z := by
 obtain ⟨us, vs, h1, h2⟩ := h.raw
 exact ⟨h.at_, h.s, h.t, h.n, h.m, us, vs, raw_near h1 hd hn, raw_near h2 hd hn⟩
theorem Twin.below {w wx : World} {x z : TV} (h : Twin w x z) (hb : Below w.heap.size w wx) : Twin wx x z := by
 obtain ⟨us, vs, h1, h2⟩ := h.raw
 exact ⟨h.at_, h.s, h.t, h.n, h.m, us, vs, h1.below hb, h2.below hb⟩
structure CopyT (w wr : World) (v : Value) (xs zs : List TV) (i : Nat) : Prop where
 own : OwnU wr w.heap.size v zs
 len : zs.length = i
 twin : ∀ (j : Nat) x z, xs[j]? = some x → zs[j]? = some z → Twin wr x z
 nw : New w wr v
theorem CopyT.bel {w wr : World} {v : Value} {xs zs : List TV} {i : Nat} (h : CopyT w wr v xs zs i) : Below w.heap.size w wr := h.nw.bel
theorem CopyT.below {w wr wx : World} {v : Value} {xs zs : List TV} {i : Nat} (h : CopyT w wr v xs zs i) (hb : Below wr.heap.size wr wx) : CopyT w wx v xs zs i :=
 ⟨h.own.keep (fun g hg => hb.block g (h.own.lt hg)), h.len, fun j x z hx hz => (h.twin j x z hx hz).below hb, ⟨below_on h.bel hb, h.nw.new⟩⟩
set_option maxHeartbeats 1000000 in
theorem appS_at (w : World) (base : Nat) (ty : TypeId) (v : Value) (ts : List TV) (x : TV) (ad : Addr) (hown : OwnU w base v ts) (had : ∀ j u, x.enc[j]? = some u → w.cell? (ad.add j) = some u) (h : ts.length ≤ 10000000) (hbase : base ≤ w.heap.size) :
  ∃ v' w', (Builtin.append_ #[22, 22] ty #[v, .slice (some ad) 1 1]).run tz w = .ok v' w' ∧ OwnU w' base v' (ts ++ [x]) ∧ w.grownBy w' v.ownBlock ∧ (v'.ownBlock = v.ownBlock ∨ v'.ownBlock = some w.heap.size) := by
 obtain ⟨i, hi, hz, hs, hb⟩ := info_parts info_t
 obtain ⟨hown, hall, A0, n0, c0, hv0⟩ := hown
 have ho1 : ∀ u ∈ x.enc, u.oneCell' = true := by intro u hu; exact one_cell [x] u (by rw [flat_one]; exact hu)
 have under : Tryz.prog.underlying 22 = some (.slice 67) := by kernel_rfl
 obtain ⟨v', w', hr, ho, hg, hnn⟩ := run_append_own (P := tz) w base 22 ty 67 i zeroT 5 72 under hi hz hs hb rfl (by decide) v ts.length (flat ts) hown ad 1 1 x.enc rfl had ho1 (by unfold maxLen; omega) (by omega) hbase
 suffices hh : AllT w' v' ∧ (∃ A n c, v' = .slice A n c) ∧ (v'.ownBlock = v.ownBlock ∨ v'.ownBlock = some w.heap.size) from ⟨v', w', hr, ⟨by rw [lA, flat_append, flat_one]; exact ho, hh.1, hh.2.1⟩, hg, hh.2.2⟩
 rcases hown.2 with ⟨rfl, h0⟩ | ⟨g, cap, cur, rfl, hbg, hgc, hnc, hcm, hcs, htake⟩
 ·have hS : _root_.Go.Src tz i.size 22 (.slice (some ad) 1 1) 1 x.enc w := _root_.Go.Src.ofSlice w under ad 1 1 x.enc (by rw [hs]; rfl) had ho1
  have hr2 := run_append_grow_src (P := tz) w 22 22 ty 67 i zeroT under hi hz none 0 0 [] (by rw [hs]; exact run_firstCells_none w.drew 5 0 0 0) (.slice (some ad) 1 1) 1 x.enc hS (by omega) (by omega)
   (growslice_fits_wide (by omega) (by rw [hb]; omega))
  obtain ⟨e1, e2⟩ := Result.ok.inj (hr.symm.trans hr2)
  refine ⟨?_, ⟨_, _, _, e1⟩, .inr (by rw [e1]; rfl)⟩
  intro g' hg2 j u hu
  rw [e1] at hg2
  obtain rfl : w.heap.size = g' := by injection hg2
  rw [e2] at hu
  have hu2 : (w.drew.alloc (.cells (([] ++ x.enc).toArray ++ Builtin.zeroCells zeroT.cells (grownCap w (0 + 1) 0 67 - (0 + 1))) 67)).cell? ⟨w.drew.heap.size, j, none⟩ = some u := hu
  rw [World.cell?_alloc_new] at hu2
  rcases Array.mem_append.1 (Array.mem_of_getElem? hu2) with hx | hx
  ·have hx2 := List.mem_toArray.1 hx
   rw [List.nil_append] at hx2
   exact flat_no [x] u (by rw [flat_one]; exact hx2)
  ·exact zero_t _ u hx
 ·have hcur : ∀ u ∈ cur.toList, ∀ z, u ≠ Value.int .u64 z := by
   intro u hu
   obtain ⟨j, hj, rfl⟩ := List.getElem_of_mem hu
   refine hall g rfl j _ ?_
   rw [cell_of_row w g j _ _ _ hgc]
   rw [Array.length_toList] at hj
   rw [Array.getElem?_eq_getElem hj]; rfl
  have hx5 : ∀ u ∈ x.enc, ∀ z, u ≠ Value.int .u64 z := by intro u hu; exact flat_no [x] u (by rw [flat_one]; exact hu)
  by_cases hroom : ts.length + 1 ≤ cap
  ·have hr2 := run_append_room (P := tz) w 22 ty 67 i under hi g ts.length cap cur hgc ad 1 1 x.enc (by rw [hs]; rfl) had ho1 hroom (by rw [hs, hcs, enc_len]; omega)
   obtain ⟨e1, e2⟩ := Result.ok.inj (hr.symm.trans hr2)
   refine ⟨?_, ⟨_, _, _, e1⟩, .inl (by rw [e1]; rfl)⟩
   intro g' hg2 j u hu
   rw [e1] at hg2
   obtain rfl : g = g' := by injection hg2
   rw [e2, cell_of_row _ g j _ _ _ (setRow_heap w g cur _ _ _ hgc)] at hu
   have hm := Array.mem_of_getElem? hu
   rcases List.mem_append.1 (List.mem_toArray.1 hm) with hm | hm
   ·rcases List.mem_append.1 hm with hm | hm
    ·exact hcur u (List.mem_of_mem_take hm)
    ·exact hx5 u hm
   ·exact hcur u (List.mem_of_mem_drop hm)
  ·have hr2 := run_append_grow (P := tz) w 22 ty 67 i zeroT under hi hz ⟨g, 0, none⟩ ts.length cap (flat ts) (by rw [hs, flat_len]) (fun j u hu => hown.cells (g := g) rfl j u hu) ad 1 1 x.enc (by rw [hs]; rfl) had (by omega) (by omega)
    (growslice_fits_wide (by omega) (by rw [hb]; omega))
   obtain ⟨e1, e2⟩ := Result.ok.inj (hr.symm.trans hr2)
   refine ⟨?_, ⟨_, _, _, e1⟩, .inr (by rw [e1]; rfl)⟩
   intro g' hg2 j u hu
   rw [e1] at hg2
   obtain rfl : w.heap.size = g' := by injection hg2
   rw [e2] at hu
   have hu2 : (w.drew.alloc (.cells ((flat ts).toArray ++ x.enc.toArray ++ Builtin.zeroCells zeroT.cells (grownCap w (ts.length + 1) cap 67 - (ts.length + 1))) 67)).cell? ⟨w.drew.heap.size, j, none⟩ = some u := hu
   rw [World.cell?_alloc_new] at hu2
   rcases Array.mem_append.1 (Array.mem_of_getElem? hu2) with hx | hx
   ·rcases Array.mem_append.1 hx with hx | hx
    ·exact flat_no ts u (List.mem_toArray.1 hx)
    ·exact hx5 u (List.mem_toArray.1 hx)
   ·exact zero_t _ u hx
end V

namespace V
open Go.RowKit
open Q (IsQ OneQ RetQ below_on ql Qbx)
theorem wpList_appS {ops : Array Oper} {rest : List Oper} {o : Oper} {a : Act} {w : World} {Q : Exit → Act → World → Prop} (hgd : o.guard = none) (sl x : Operand)
  (ho : o.op = .call { callee := .builtin .append, args := #[sl, x], argTypes := #[22, 22] })
  (base : Nat) (v : Value) (ts : List TV) (y : TV) (ad : Addr) (hs : a.eval sl = v) (hx : a.eval x = .slice (some ad) 1 1) (hown : OwnU w base v ts) (had : ∀ j u, y.enc[j]? = some u → w.cell? (ad.add j) = some u) (h : ts.length ≤ 10000000) (hbase : base ≤ w.heap.size)
  (hk : ∀ v' w', OwnU w' base v' (ts ++ [y]) → w.grownBy w' v.ownBlock → (v'.ownBlock = v.ownBlock ∨ v'.ownBlock = some w.heap.size) → wpList tz ops Q rest (a.put o.dst v') w') : wpList tz ops Q (o :: rest) a w := by
 refine wpList_plain hgd fun K hK => ?_
 obtain ⟨v', w', hr, h1, h2, h3⟩ := appS_at w base o.type v ts y ad hown had h hbase
 unfold Oper.wp
 simp [execOp, ho, resolve, invoke, builtin, hs, hx, hr, Result.andThen]
 exact hK _ _ (hk v' w' h1 h2 h3)
structure OwnK (w : World) (base : Nat) (v : Value) (zs : List (TV × Rat)) (k : Nat) : Prop where
 own : OwnU w base v (zs.map Prod.fst)
 tq : ∀ y ∈ zs, TQ w y.1 y.2 k
theorem OwnK.below {w w' : World} {base k : Nat} {v : Value} {zs : List (TV × Rat)} (h : OwnK w base v zs k) (hb : Below w.heap.size w w') : OwnK w' base v zs k :=
 ⟨h.own.keep (fun g hg => hb.block g (h.own.lt hg)), fun y hy => ⟨(h.tq y hy).1.below hb, (h.tq y hy).2⟩⟩
theorem OwnK.app {w w4 : World} {base k : Nat} {v v' : Value} {zs : List (TV × Rat)} (h : OwnK w base v zs k) (y : TV × Rat) (hy : TQ w y.1 y.2 k) (h4 : OwnU w4 base v' (zs.map Prod.fst ++ [y.1])) (hg : w.grownBy w4 v.ownBlock) : OwnK w4 base v' (zs ++ [y]) k := by
 have hn : NoDig w (fun b => some b = v.ownBlock) := fun b hb i u hu => h.own.all b hb.symm i u hu
 have hgr : Near (fun b => some b = v.ownBlock) w w4 := Near.of_grown hg
 refine ⟨by rw [List.map_append]; exact h4, fun z hz => ?_⟩
 rcases List.mem_append.1 hz with hz | hz
 ·exact ⟨isq_near (h.tq z hz).1 hn hgr, (h.tq z hz).2⟩
 ·obtain rfl := List.mem_singleton.1 hz
  exact ⟨isq_near hy.1 hn hgr, hy.2⟩
theorem OwnK.isv {w : World} {base n c k : Nat} {A : Option Addr} {zs : List (TV × Rat)} (h : OwnK w base (.slice A n c) zs k) : IsV w A n c zs k ∧ ∀ a, A = some a → a.block < w.heap.size := by
 rcases h.own.row.2 with ⟨e, h0⟩ | ⟨g, cap, cur, e, _, hgc, hnc, hcm, hcs, htake⟩
 ·obtain ⟨rfl, rfl, rfl⟩ : A = none ∧ n = 0 ∧ c = 0 := by simpa using e
  have hz : zs = [] := by rw [List.length_map] at h0; exact List.eq_nil_of_length_eq_zero h0
  subst hz
  exact ⟨IsV.nil _ _ _ _, fun a ha => by cases ha⟩
 ·obtain ⟨rfl, rfl, rfl⟩ : A = some ⟨g, 0, none⟩ ∧ n = (zs.map Prod.fst).length ∧ c = cap := by simpa using e
  refine ⟨⟨by rw [List.length_map], hnc, row_cells (lt_of_block hgc) ?_, h.tq⟩, fun a ha => by obtain rfl := Option.some.inj ha; exact lt_of_block hgc⟩
  intro j u hj
  rw [Nat.zero_add, cell_of_row w g j _ _ _ hgc]
  rw [← htake, List.getElem?_take] at hj
  split at hj
  ·simpa using hj
  ·cases hj
