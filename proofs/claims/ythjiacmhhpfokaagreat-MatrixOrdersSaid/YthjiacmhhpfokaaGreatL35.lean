/- Part 35 of the proof: VAwake, ENum, EMem, ETrim, ESmall, ESmall2, ELarge, ECmp, ESub, ESub2, EAdd, ETwice, EBits, EShr, EGcdM, EMulM, EShlM, EMul, EShl, EGcd, EDivMod, LawsN, ECopy, LawsE, WMake, WOne, WOf, WAdd, WSums, WholeJ, WholeL0, WSmall, WDm0, WDm1, WTellsZ, PLow, PParts, PMake, POne, VRput. -/
import Derived.Test.YthjiacmhhpfokaaGreatL34
import Derived.Great.BuildSlice
import Derived.Test.YthjiacmhhpfokaaGreatRows
import Derived.OwnWalk
import Derived.Laws.OwnMore
import Derived.Laws.AppendOwnNone
namespace Go.Proofs.YthjiacmhhpfokaaGreat
open Nat renaming le_trans → lT
open List renaming getElem?_eq_getElem → gE
open Option.some renaming inj → oI
namespace V
open Go.RowKit
open Q (IsQ OneQ RetQ below_on ql Qbx)
def AllOne (w : World) (zs : List (TV × Rat)) : Prop := ∀ y ∈ zs, (OneQ w y.1.s y.1.A y.1.n y.1.c y.1.t y.1.B y.1.m y.1.d y.2 ∧ -9223372036854775808 ≤ y.1.at_ ∧ y.1.at_ ≤ 9223372036854775807) ∧ ql y.2 ≤ 1
theorem all_nil {w : World} : AllOne w [] := fun _ h => by cases h
theorem all_cons {w : World} {zs : List (TV × Rat)} {a : Int} {s : Bool} {A : Option Addr} {n c : Nat} {t : Bool} {B : Option Addr} {m d : Nat} {q : Rat} (h : OneQ w s A n c t B m d q) (ha : -9223372036854775808 ≤ a ∧ a ≤ 9223372036854775807) (hq : decide (q.num.natAbs < 18446744073709551616 ∧ q.den < 18446744073709551616) = true) (hz : AllOne w zs) : AllOne w (((⟨a, s, A, n, c, t, B, m, d⟩ : TV), q) :: zs) := by
 intro y hy
 rcases List.mem_cons.1 hy with rfl | hy
 ·refine ⟨⟨h, ha⟩, ?_⟩
  obtain ⟨h1, h2⟩ := of_decide_eq_true hq
  have e1 : (dig q.num.natAbs).length ≤ 1 := dig_length_le (by rw [B64_eq]; omega)
  have e2 : (dig q.den).length ≤ 1 := dig_length_le (by rw [B64_eq]; omega)
  have e3 : zl q.num ≤ 1 := e1
  show max (zl q.num) (dig q.den).length ≤ 1
  omega
 ·exact hz y hy
structure Lit (w : World) (g : Nat) (zs : List (TV × Rat)) : Prop where
 row : w.heap[g]? = some (.cells (flat (zs.map Prod.fst)).toArray 67 (0, 0))
 one : AllOne w zs
theorem Lit.below {w w' : World} {g : Nat} {zs : List (TV × Rat)} (h : Lit w g zs) (hb : Below w.heap.size w w') : Lit w' g zs :=
 ⟨(hb.block g (lt_of_block h.row)).trans h.row, fun y hy => ⟨⟨(h.one y hy).1.1.below hb, (h.one y hy).1.2⟩, (h.one y hy).2⟩⟩
theorem Lit.ql {w : World} {g : Nat} {zs : List (TV × Rat)} (h : Lit w g zs) : ∀ x ∈ vals zs, Q.ql x.2 ≤ 1 := by
 intro x hx
 obtain ⟨y, hy, rfl⟩ := List.mem_map.1 hx
 exact (h.one y hy).2
theorem Lit.fn {w : World} {g : Nat} {zs : List (TV × Rat)} (h : Lit w g zs) (hl : zs.length ≤ 10) : Fn 11 12 10 (tot (vals zs)) := (short_fn (k := 1) (L := 10) h.ql (by rw [vals_len]; exact hl) (by omega)).1
theorem Lit.vf {w : World} {g : Nat} {zs : List (TV × Rat)} (h : Lit w g zs) (hl : zs.length ≤ 10) : VF w (some ⟨g, 0, none⟩) zs.length zs.length (tot (vals zs)) :=
 ⟨⟨zs, lit_isv h.row (fun y hy => (h.one y hy).1) (fun y hy => lT (h.one y hy).2 (by omega)), (short_fn (k := 1) (L := 10) h.ql (by rw [vals_len]; exact hl) (by omega)).2 (by omega), rfl⟩, by omega, fun a ha => by obtain rfl := oI ha; exact lt_of_block h.row⟩
theorem Lit.cf {w : World} {g : Nat} {zs : List (TV × Rat)} (h : Lit w g zs) (hc : Canon (vals zs)) : CF w (some ⟨g, 0, none⟩) zs.length zs.length (tot (vals zs)) :=
 ⟨⟨zs, lit_isv h.row (fun y hy => (h.one y hy).1) (fun y hy => lT (h.one y hy).2 (by omega)), ⟨hc, fun _ => rfl⟩, fun y hy => (h.one y hy).1.1⟩, fun a ha => by obtain rfl := oI ha; exact lt_of_block h.row⟩
theorem canon_one {a : Int} {q : Rat} (h : q ≠ 0) : Canon [(a, q)] := ⟨List.pairwise_singleton _ _, fun x hx => by obtain rfl := List.mem_singleton.1 hx; exact h⟩
theorem canon_two {a b : Int} {q r : Rat} (hab : a < b) (h : q ≠ 0) (h2 : r ≠ 0) : Canon [(a, q), (b, r)] := by
 refine ⟨List.pairwise_cons.2 ⟨fun x hx => by obtain rfl := List.mem_singleton.1 hx; exact hab, List.pairwise_singleton _ _⟩, fun x hx => ?_⟩
 rcases List.mem_cons.1 hx with rfl | hx
 ·exact h
 ·obtain rfl := List.mem_singleton.1 hx; exact h2
theorem wp_row {o : Oper} {a : Act} {w : World} {K : Act → World → Prop} {Q : Exit → Act → World → Prop} (t : TypeId) (len : Nat) (parts : Array (Nat × Operand)) (ho : o.op = .buildSlice t len parts) (cells : Array Value)
  (hu : Tryz.prog.underlying t = some (.slice 67)) (hl : 0 < len ∧ len ≤ 1000) (hf : Instr.fill (fun i => some (i * 5, 5)) ((Array.range (len * 5)).map (zeroT.cells[· % zeroT.cells.size]!)) (parts.map fun (i, x) => (i, a.eval x)).toList = some cells)
  (h : K (a.put o.dst (.slice (some ⟨w.heap.size, 0, none⟩) len len)) (w.alloc (.cells cells 67))) : o.wp Tryz.prog a w K Q := by
 obtain ⟨i, hi, hz, hs, hb⟩ := info_parts info_t
 exact wp_buildSlice t _ len parts ho cells i zeroT hu hi hz (by rw [hs]; omega) (by rw [hs]; omega) (by rw [hs]; exact hf) h
section
variable {o : Oper} {a : Act} {w : World} {K : Act → World → Prop} {Q : Exit → Act → World → Prop} {c0 c1 c2 c3 c4 d0 d1 d2 d3 d4 : Value}
theorem wp_row1 (t : TypeId) (x : Operand) (ho : o.op = .buildSlice t 1 #[(0, x)]) (hx : a.eval x = .agg #[c0, c1, c2, c3, c4]) (hu : Tryz.prog.underlying t = some (.slice 67))
  (h : K (a.put o.dst (.slice (some ⟨w.heap.size, 0, none⟩) 1 1)) (w.alloc (.cells #[c0, c1, c2, c3, c4] 67))) : o.wp Tryz.prog a w K Q := by
 refine wp_row t 1 _ ho _ hu (by omega) ?_ h
 simp only [List.map_toArray, List.map_cons, List.map_nil, hx]
 kernel_rfl
theorem wp_row2 (t : TypeId) (x y : Operand) (ho : o.op = .buildSlice t 2 #[(0, x), (1, y)]) (hx : a.eval x = .agg #[c0, c1, c2, c3, c4]) (hy : a.eval y = .agg #[d0, d1, d2, d3, d4]) (hu : Tryz.prog.underlying t = some (.slice 67))
  (h : K (a.put o.dst (.slice (some ⟨w.heap.size, 0, none⟩) 2 2)) (w.alloc (.cells #[c0, c1, c2, c3, c4, d0, d1, d2, d3, d4] 67))) : o.wp Tryz.prog a w K Q := by
 refine wp_row t 2 _ ho _ hu (by omega) ?_ h
 simp only [List.map_toArray, List.map_cons, List.map_nil, hx, hy]
 kernel_rfl
end
end V

namespace E
def B64 : Nat := 256
theorem B64_eq : B64 = 256 := rfl
theorem B64_pos : 0 < B64 := by rw [B64_eq]; omega
def val : List Nat → Nat
 | [] => 0
 | x :: r => x + B64 * val r
def Digs (xs : List Nat) : Prop := ∀ x ∈ xs, x < B64
def dig (n : Nat) : List Nat := if n = 0 then [] else n % B64 :: dig (n / B64)
termination_by n
decreasing_by exact Nat.div_lt_self (by omega) (by rw [B64_eq]; omega)
theorem dig_zero : dig 0 = [] := by rw [dig]; simp
theorem dig_pos {n : Nat} (h : n ≠ 0) : dig n = n % B64 :: dig (n / B64) := by rw [dig]; simp [h]
theorem val_cons (x : Nat) (r : List Nat) : val (x :: r) = x + B64 * val r := rfl
theorem Digs.nil : Digs [] := fun _ h => by cases h
theorem Digs.cons {x : Nat} {r : List Nat} (hx : x < B64) (hr : Digs r) : Digs (x :: r) := by
 intro y hy
 rcases List.mem_cons.1 hy with rfl | h
 ·exact hx
 ·exact hr y h
theorem Digs.take {xs : List Nat} (h : Digs xs) (n : Nat) : Digs (xs.take n) := fun y hy => h y (List.mem_of_mem_take hy)
theorem Digs.get {xs : List Nat} (h : Digs xs) {i : Nat} (hi : i < xs.length) : xs[i] < B64 := h _ (List.getElem_mem hi)
theorem Digs.getD {xs : List Nat} (h : Digs xs) (i : Nat) : xs.getD i 0 < B64 := by
 by_cases hi : i < xs.length
 ·rw [List.getD_eq_getElem?_getD, gE hi]; exact h.get hi
 ·rw [List.getD_eq_getElem?_getD, List.getElem?_eq_none (by omega)]; exact B64_pos
theorem val_dig (n : Nat) : val (dig n) = n := by
 induction n using Nat.strongRecOn with
 | _ n ih =>
  by_cases h : n = 0
  ·rw [h, dig_zero]; rfl
  ·rw [dig_pos h, val_cons, ih _ (Nat.div_lt_self (by omega) (by rw [B64_eq]; omega))]
   exact Nat.mod_add_div n B64
theorem dig_nil_iff {n : Nat} : (dig n).length = 0 ↔ n = 0 := by
 constructor
 ·intro h
  have : dig n = [] := List.eq_nil_of_length_eq_zero h
  rw [← val_dig n, this]; rfl
 ·rintro rfl; rw [dig_zero]; rfl
def dg (xs : List Nat) (i : Nat) : Nat := xs.getD i 0
theorem dg_of_lt {xs : List Nat} {i : Nat} (h : i < xs.length) : dg xs i = xs[i] := by
 unfold dg; rw [List.getD_eq_getElem?_getD, gE h]; rfl
theorem dg_take {xs : List Nat} {k i : Nat} (h : i < k) : dg (xs.take k) i = dg xs i := by
 unfold dg; rw [List.getD_eq_getElem?_getD, List.getD_eq_getElem?_getD, List.getElem?_take_of_lt h]
def hi (n : Nat) : Nat := n / B64
end E

namespace E
open Go.RowKit
def Num (w : World) (A : Option Addr) (xs : List Nat) : Prop :=
 Digs xs ∧ (xs ≠ [] → ∃ b off, A = some ⟨b, off, none⟩ ∧ b < w.heap.size ∧ ∀ i, i < xs.length → w.cell? ⟨b, off + i, none⟩ = some (.int .i64 ((dg xs i : Nat) : Int)))
theorem Num.digs {w : World} {A : Option Addr} {xs : List Nat} (h : Num w A xs) : Digs xs := h.1
theorem Num.nil (w : World) (A : Option Addr) : Num w A [] := ⟨Digs.nil, fun h => absurd rfl h⟩
theorem Num.at_ {w : World} {A : Option Addr} {xs : List Nat} (h : Num w A xs) (hp : 0 < xs.length) :
  ∃ b off, A = some ⟨b, off, none⟩ ∧ b < w.heap.size ∧ ∀ i, i < xs.length → w.cell? ⟨b, off + i, none⟩ = some (.int .i64 ((dg xs i : Nat) : Int)) :=
 h.2 (by rintro rfl; simp at hp)
theorem Num.below {w w' : World} {A : Option Addr} {xs : List Nat} (h : Num w A xs) (hb : Below w.heap.size w w') : Num w' A xs :=
 ⟨h.1, fun hn => by
  obtain ⟨b, off, e, hlt, hc⟩ := h.2 hn
  exact ⟨b, off, e, Nat.lt_of_lt_of_le hlt hb.size, fun i hi => (hb.cell (p := ⟨b, off + i, none⟩) hlt).trans (hc i hi)⟩⟩
theorem Num.alloc {w : World} {A : Option Addr} {xs : List Nat} (h : Num w A xs) (o : Obj) : Num (w.alloc o) A xs :=
 h.below ((Below.refl _ _).alloc (Nat.le_refl _) o)
theorem Num.drewN {w : World} {A : Option Addr} {xs : List Nat} (h : Num w A xs) (n : Nat) : Num (w.drewN n) A xs := h
theorem Num.take {w : World} {A : Option Addr} {xs : List Nat} (h : Num w A xs) (k : Nat) : Num w A (xs.take k) :=
 ⟨h.1.take k, fun hn => by
  obtain ⟨b, off, e, hlt, hc⟩ := h.2 (by rintro rfl; simp at hn)
  refine ⟨b, off, e, hlt, fun i hi => ?_⟩
  rw [List.length_take] at hi
  rw [dg_take (by omega)]
  exact hc i (by omega)⟩
def dcell (x : Nat) : Value := .int .i64 (x : Int)
def Blk (w : World) (g : Nat) (xs : List Nat) : Prop := w.heap[g]? = some (.cells (xs.map dcell).toArray 3 (0, 0))
section
variable {w w' : World} {g : Nat} {xs : List Nat}
theorem Blk.lt (h : Blk w g xs) : g < w.heap.size := lt_of_block h
theorem Blk.cell (h : Blk w g xs) {i : Nat} (hi : i < xs.length) : w.cell? ⟨g, i, none⟩ = some (.int .i64 ((dg xs i : Nat) : Int)) := by
 unfold Blk at h
 rw [cell_of_row w g i _ _ _ h, List.getElem?_toArray, List.getElem?_map, gE hi, dg_of_lt hi]; rfl
theorem Blk.below {B : Nat} (h : Blk w g xs) (hb : Below B w w') (hg : g < B) : Blk w' g xs := (hb.block g hg).trans h
theorem Blk.alloc (h : Blk w g xs) (o : Obj) : Blk (w.alloc o) g xs := (Below.heap_alloc w o g h.lt).trans h
theorem Blk.drewN (h : Blk w g xs) (n : Nat) : Blk (w.drewN n) g xs := h
end
theorem info_u64 : (Tryz.prog.info? 3).map (fun i => (i.zero, i.size, i.bytes)) = some (some (.int .i64 0), 1, 8) := by kernel_rfl
theorem under_u64s : Tryz.prog.underlying 61 = some (.slice 3) := by kernel_rfl
structure Only (g : Nat) (w w' : World) : Prop where
 os : w'.os = w.os
 tape : w'.tape = w.tape
 output : w'.output = w.output
 size : w'.heap.size = w.heap.size
 block : ∀ i, i ≠ g → w'.heap[i]? = w.heap[i]?
theorem Only.refl (g : Nat) (w : World) : Only g w w := ⟨rfl, rfl, rfl, rfl, fun _ _ => rfl⟩
theorem Only.drewN {g : Nat} {w w' : World} (h : Only g w w') (n : Nat) : Only g w (w'.drewN n) := ⟨h.os, h.tape, h.output, h.size, h.block⟩
theorem Only.set {g : Nat} {w w' : World} (h : Only g w w') (i : Nat) (v : Value) : Only g w (w'.setCell ⟨g, i, none⟩ v) :=
 ⟨h.os, h.tape, h.output, by simpa [World.setCell] using h.size, fun j hj => (Below.heap_setCell w' _ v j hj).trans (h.block j hj)⟩
theorem Only.trans {g : Nat} {a b c : World} (h : Only g a b) (k : Only g b c) : Only g a c :=
 ⟨k.os.trans h.os, k.tape.trans h.tape, k.output.trans h.output, k.size.trans h.size, fun i hi => (k.block i hi).trans (h.block i hi)⟩
theorem Only.below {g B : Nat} {w w' : World} (h : Only g w w') (hB : B ≤ g) : Below B w w' :=
 ⟨h.os, h.tape, h.output, Nat.le_of_eq h.size.symm, fun i hi => h.block i (by omega)⟩
theorem Only.cell {g : Nat} {w w' : World} (h : Only g w w') {p : Addr} (hp : p.block ≠ g) : w'.cell? p = w.cell? p := World.cell?_of_block (h.block p.block hp)
theorem Only.blk {g g' : Nat} {w w' : World} (h : Only g w w') {xs : List Nat} (hb : Blk w g' xs) (hne : g' ≠ g) : Blk w' g' xs := (h.block g' hne).trans hb
end E

namespace E
open Go.RowKit
end E

namespace E
open Go.RowKit
def bytes (x : Nat) : Nat → List Nat
 | 0 => []
 | k + 1 => bytes x k ++ [x / 256 ^ k % 256]
theorem app_cell (w : World) (v : Value) (t : TypeId) : ∀ (j : Nat) (u : Value), [v][j]? = some u → (w.alloc (.cells #[v] t)).cell? ((⟨w.heap.size, 0, none⟩ : Addr).add j) = some u := by
 intro j u hj
 match j, hj with
 | 0, hj =>
  simp only [List.getElem?_cons_zero, Option.some.injEq] at hj
  subst hj
  rw [YthjiacmhhpfokaaGreat.addr_add]
  exact cell_of_one (heap_alloc_new w _)
theorem app_one (k : IntKind) (z : Int) : ∀ u ∈ [Value.int k z], u.oneCell' = true := by intro u hu; simp only [List.mem_singleton] at hu; subst hu; rfl
theorem own_block {w : World} {base : Nat} {e : TypeId} {v : Value} {n : Nat} {xs : List Value} (h : w.ownsRow base e 1 v n xs) : ∀ k, v.ownBlock = some k → base ≤ k := by
 intro k hk
 rcases h.2 with ⟨rfl, _⟩ | ⟨g, cap, cur, rfl, hb, _⟩
 ·cases hk
 ·have hk : g = k := by simpa [Value.ownBlock] using hk
  omega
theorem below_app {B base : Nat} {w wr w1 : World} {o : Obj} {e : TypeId} {v : Value} {n : Nat} {xs : List Value} (hb : Below B w wr) (hB : B ≤ wr.heap.size) (hbase : B ≤ base) (ho : wr.ownsRow base e 1 v n xs) (hg : (wr.alloc o).grownBy w1 v.ownBlock) : Below B w w1 :=
 (hb.alloc hB o).grown hg (by simp; omega) (fun k hk => lT hbase (own_block ho k hk))
end E

namespace E
open Go.RowKit
end E

namespace E
open Go.RowKit
end E

namespace E
open Go.RowKit
end E

namespace E
open Go.RowKit
end E

namespace E
open Go.RowKit
end E

namespace E
open Go.RowKit
end E

namespace E
open Go.RowKit
end E

namespace E
open Go.RowKit
end E

namespace E
open Go.RowKit
end E

namespace E
open Go.RowKit
end E

namespace E
open Go.RowKit
end E

namespace E
open Go.RowKit
end E

namespace E
open Go.RowKit
theorem below_drewN {B : Nat} {w w' : World} (h : Below B w w') (n : Nat) : Below B w (w'.drewN n) := ⟨h.os, h.tape, h.output, h.size, h.block⟩
end E

namespace E
open Go.RowKit
end E

namespace E
open Go.RowKit
end E

namespace E
open Go.RowKit
end E

section
open Go.RowKit
section
variable (w : World) (A B : Option Addr) (c d : Nat) (xs ys : List Nat) (m n : Nat) (ha : Num w A xs) (hb : Num w B ys) (hx : val xs = m) (hy : val ys = n) (hn : xs.length ≤ 1000000) (hm : ys.length ≤ 1000000) (hc : xs.length ≤ c) (hd : ys.length ≤ d)
include ha hb hx hy hn hm hc hd
end
end

section
open Go.RowKit
end

section
open Go.RowKit
section
variable (w : World) (A B : Option Addr) (c d : Nat) (xs ys : List Nat) (m n : Nat) (ha : Num w A xs) (hb : Num w B ys) (hx : val xs = m) (hy : val ys = n) (hn : xs.length ≤ 8000) (hm : ys.length ≤ 8000) (hc : xs.length ≤ c) (hd : ys.length ≤ d)
include ha hb hx hy hn hm hc hd
end
section
variable (w : World) (A : Option Addr) (c : Nat) (xs : List Nat) (m : Nat) (ha : Num w A xs) (hx : val xs = m) (hn : xs.length ≤ 8000) (hc : xs.length ≤ c)
include ha hx hn hc
end
end

namespace W
open Go.RowKit
end W

namespace W
open Go.RowKit
end W

namespace W
open Go.RowKit
end W

namespace W
open Go.RowKit
end W

namespace W
open Go.RowKit
end W

section
open Go.RowKit
end

section
open Go.RowKit
end

namespace W
open Go.RowKit
end W

namespace W
open Go.RowKit
structure Dm (w wx : World) (s t : Bool) (A B : Option Addr) (n m c d : Nat) : Prop where
 c4 : C4 w.heap.size (.bool s) (.slice A n c) (.bool t) (.slice B m d) wx
 i1 : Ibx wx (w.heap.size + 1 + 1) false none 0 0
 i2 : Ibx wx (w.heap.size + 1 + 1 + 1) false none 0 0
 bel : Below w.heap.size w wx
 sz : w.heap.size + 1 + 1 + 1 < wx.heap.size
section
variable {w wx wy : World} {s t : Bool} {A B : Option Addr} {n m c d : Nat}
theorem Dm.below (h : Dm w wx s t A B n m c d) (hb : Below wx.heap.size wx wy) : Dm w wy s t A B n m c d :=
 ⟨h.c4.below hb, h.i1.below hb, h.i2.below hb, h.bel.trans (hb.mono h.bel.size), Nat.lt_of_lt_of_le h.sz hb.size⟩
theorem Dm.alloc (h : Dm w wx s t A B n m c d) (o : Obj) : Dm w (wx.alloc o) s t A B n m c d := h.below ((Below.refl _ _).alloc (Nat.le_refl _) o)
end
structure Bz (wx : World) (g : Nat) (z : Int) (A : Option Addr) (c : Nat) : Prop where
 i : Ibx wx g (zneg z) A (dig z.natAbs).length c
 n : Num wx A (dig z.natAbs)
 l : (dig z.natAbs).length ≤ c
section
variable {wx wy : World} {g : Nat} {z : Int} {A : Option Addr} {c : Nat}
theorem Bz.below (h : Bz wx g z A c) (hb : Below wx.heap.size wx wy) : Bz wy g z A c := ⟨h.i.below hb, h.n.below hb, h.l⟩
theorem Bz.alloc (h : Bz wx g z A c) (o : Obj) : Bz (wx.alloc o) g z A c := h.below ((Below.refl _ _).alloc (Nat.le_refl _) o)
theorem Bz.put {s0 : Bool} {A0 : Option Addr} {n0 c0 : Nat} (hI : Ibx wx g s0 A0 n0 c0) (hN : Num wx A (dig z.natAbs)) (hl : (dig z.natAbs).length ≤ c) : Bz ((wx.setCell ⟨g, 0, none⟩ (.bool (zneg z))).setCell ⟨g, 1, none⟩ (.slice A (dig z.natAbs).length c)) g z A c :=
 ⟨hI.two _ _ _ _, hN.two hI _ _, hl⟩
end
section
variable {p q r : Nat} {v1 v2 v3 v4 v5 v6 : Value} {W : World}
end
end W

namespace W
open Go.RowKit
end W

section
open Go.RowKit
section
variable (w : World) (s t : Bool) (A B : Option Addr) (c d : Nat) (xs ys : List Nat) (y z : Int) (ha : Num w A xs) (hb : Num w B ys) (hx : zv s (val xs) = y) (hy : zv t (val ys) = z) (hn : xs.length ≤ 3000) (hm : ys.length ≤ 3000) (hc : xs.length ≤ c) (hd : ys.length ≤ d)
include ha hb hx hy hn hm hc hd
end
section
variable (w : World) (s : Bool) (A : Option Addr) (c : Nat) (xs : List Nat) (z : Int) (ha : Num w A xs) (hx : zv s (val xs) = z) (hn : xs.length ≤ 3000) (hc : xs.length ≤ c)
include ha hx hn hc
end
def K6 (p q r o m n : Nat) (v1 v2 v3 v4 v5 v6 u1 u2 u3 u4 u5 u6 : Value) (W : World) : Prop := W.cell? ⟨p, 0, none⟩ = some v1 ∧ W.cell? ⟨p, 1, none⟩ = some v2 ∧ W.cell? ⟨q, 0, none⟩ = some v3 ∧ W.cell? ⟨q, 1, none⟩ = some v4 ∧ W.cell? ⟨r, 0, none⟩ = some v5 ∧ W.cell? ⟨r, 1, none⟩ = some v6 ∧ W.cell? ⟨o, 0, none⟩ = some u1 ∧ W.cell? ⟨o, 1, none⟩ = some u2 ∧ W.cell? ⟨m, 0, none⟩ = some u3 ∧ W.cell? ⟨m, 1, none⟩ = some u4 ∧ W.cell? ⟨n, 0, none⟩ = some u5 ∧ W.cell? ⟨n, 1, none⟩ = some u6
section
variable {p q r o m n : Nat} {v1 v2 v3 v4 v5 v6 u1 u2 u3 u4 u5 u6 : Value} {W W' : World}
theorem K6.of (h : K3 p q r v1 v2 v3 v4 v5 v6 W) (k : K3 o m n u1 u2 u3 u4 u5 u6 W) : K6 p q r o m n v1 v2 v3 v4 v5 v6 u1 u2 u3 u4 u5 u6 W := ⟨h.1, h.2.1, h.2.2.1, h.2.2.2.1, h.2.2.2.2.1, h.2.2.2.2.2, k.1, k.2.1, k.2.2.1, k.2.2.2.1, k.2.2.2.2.1, k.2.2.2.2.2⟩
theorem K6.fst3 (h : K6 p q r o m n v1 v2 v3 v4 v5 v6 u1 u2 u3 u4 u5 u6 W) : K3 p q r v1 v2 v3 v4 v5 v6 W := ⟨h.1, h.2.1, h.2.2.1, h.2.2.2.1, h.2.2.2.2.1, h.2.2.2.2.2.1⟩
theorem K6.snd3 (h : K6 p q r o m n v1 v2 v3 v4 v5 v6 u1 u2 u3 u4 u5 u6 W) : K3 o m n u1 u2 u3 u4 u5 u6 W := ⟨h.2.2.2.2.2.2.1, h.2.2.2.2.2.2.2.1, h.2.2.2.2.2.2.2.2.1, h.2.2.2.2.2.2.2.2.2.1, h.2.2.2.2.2.2.2.2.2.2.1, h.2.2.2.2.2.2.2.2.2.2.2⟩
theorem K6.below (hb : Below W.heap.size W W') (h : K6 p q r o m n v1 v2 v3 v4 v5 v6 u1 u2 u3 u4 u5 u6 W) : K6 p q r o m n v1 v2 v3 v4 v5 v6 u1 u2 u3 u4 u5 u6 W' := K6.of (K3.below hb h.fst3) (K3.below hb h.snd3)
theorem K4.a (h : K4 p q r o v1 v2 v3 v4 v5 v6 u1 u2 W) : C2 p v1 v2 W := ⟨h.1, h.2.1⟩
theorem K4.b (h : K4 p q r o v1 v2 v3 v4 v5 v6 u1 u2 W) : C2 q v3 v4 W := ⟨h.2.2.1, h.2.2.2.1⟩
theorem K4.c (h : K4 p q r o v1 v2 v3 v4 v5 v6 u1 u2 W) : C2 r v5 v6 W := ⟨h.2.2.2.2.1, h.2.2.2.2.2.1⟩
theorem K4.d (h : K4 p q r o v1 v2 v3 v4 v5 v6 u1 u2 W) : C2 o u1 u2 W := ⟨h.2.2.2.2.2.2.1, h.2.2.2.2.2.2.2⟩
end
end

namespace Q.P
open Go.RowKit
section
variable {w : World} {s t : Bool} {A B : Option Addr} {n c m d k : Nat} {y z : Int}
end
end Q.P

namespace Q.P
open Go.RowKit
structure PA (w wx : World) (s : Bool) (A : Option Addr) (n c : Nat) (t : Bool) (B : Option Addr) (m d : Nat) : Prop where
 bel : Below w.heap.size w wx
 a : Qbx wx w.heap.size s A n c t B m d
 o1 : Ibx wx (w.heap.size + 1) false none 0 0
 o2 : Ibx wx (w.heap.size + 1 + 1) false none 0 0
theorem PA.below {w wx wy : World} {s t : Bool} {A B : Option Addr} {n c m d : Nat} (h : PA w wx s A n c t B m d) (hb : Below wx.heap.size wx wy) : PA w wy s A n c t B m d :=
 ⟨below_on h.bel hb, h.a.below hb, h.o1.below hb, h.o2.below hb⟩
end Q.P

namespace Q.P
open Go.RowKit
end Q.P

namespace Q.P
open Go.RowKit
end Q.P

namespace V
open Go.RowKit
open Q (IsQ OneQ RetQ below_on ql Qbx qsign qsign_zero_iff)
structure OwnZ (w : World) (base : Nat) (v : Value) (zs : List (TV × Rat)) : Prop where
 own : OwnU w base v (zs.map Prod.fst)
 one : ∀ y ∈ zs, OneQ w y.1.s y.1.A y.1.n y.1.c y.1.t y.1.B y.1.m y.1.d y.2 ∧ -9223372036854775808 ≤ y.1.at_ ∧ y.1.at_ ≤ 9223372036854775807
theorem OwnZ.below {w w' : World} {base : Nat} {v : Value} {zs : List (TV × Rat)} (h : OwnZ w base v zs) (hb : Below w.heap.size w w') : OwnZ w' base v zs :=
 ⟨h.own.keep (fun g hg => hb.block g (h.own.lt hg)), fun y hy => ⟨(h.one y hy).1.below hb, (h.one y hy).2⟩⟩
theorem OwnZ.nil (w : World) (base : Nat) : OwnZ w base (.slice none 0 0) [] := ⟨OwnU.nil w base, fun _ h => by cases h⟩
def Grown (w w' : World) (v : Value) : Prop := Near (fun b => some b = v.ownBlock) w w'
theorem own_nodig {w : World} {base : Nat} {v : Value} {zs : List (TV × Rat)} (h : OwnZ w base v zs) : NoDig w (fun b => some b = v.ownBlock) := fun b hb i u hu => h.own.all b hb.symm i u hu
theorem Near.of_grown {w w' : World} {v : Value} (h : w.grownBy w' v.ownBlock) : Grown w w' v := ⟨h.os, h.tape, h.output, h.size, fun b hb hn => h.block b hb hn⟩
structure New (w wx : World) (v : Value) : Prop where
 bel : Below w.heap.size w wx
 new : ∀ g, v.ownBlock = some g → w.heap.size ≤ g
theorem New.step {w wx wy : World} {v v' : Value} (h : New w wx v) (hg : Grown wx wy v) (hb : v'.ownBlock = v.ownBlock ∨ ∃ g, v'.ownBlock = some g ∧ wx.heap.size ≤ g) : New w wy v' :=
 ⟨hg.new h.bel (fun b hb => h.new b hb.symm), fun g hg2 => by
  rcases hb with hb | ⟨g', hb, hl⟩
  ·exact h.new g (hb ▸ hg2)
  ·rw [hb] at hg2
   obtain rfl := oI hg2
   exact lT h.bel.size hl⟩
