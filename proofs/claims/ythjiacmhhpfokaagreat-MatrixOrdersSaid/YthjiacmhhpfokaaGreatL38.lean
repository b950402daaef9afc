/- Part 38 of the proof: MxApp, VDDense, MxTurn. -/
import Derived.Test.YthjiacmhhpfokaaGreatL37
namespace Go.Proofs.YthjiacmhhpfokaaGreat
open Go.Proofs.Tryz renaming prog → tz
open Nat renaming lt_of_lt_of_le → lL
open List renaming getElem?_map → gM
namespace V
open Go.RowKit
open Q (IsQ OneQ RetQ below_on ql Qbx)
theorem append_types {P : Program} {w : World} {t tx e e' ty : TypeId} {v x : Value} (ht : P.underlying t = some (.slice e)) (hk : P.underlying tx = some (.slice e')) : (Builtin.append_ #[t, tx] ty #[v, x]).run P w = (Builtin.append_ #[t, t] ty #[v, x]).run P w := by
 cases v <;> simp [Builtin.append_, run_underlying ht, run_underlying hk]
set_option maxHeartbeats 1000000 in
theorem appW_at (w : World) (base : Nat) (ty : TypeId) (v : Value) (ts xs : List TV) (A : Option Addr) (n c : Nat) (hown : OwnU w base v ts) (hrow : Row w A xs) (hn : n = xs.length) (h : ts.length + xs.length ≤ 10000000) (hbase : base ≤ w.heap.size) :
  ∃ v' w', (Builtin.append_ #[22, 33] ty #[v, .slice A n c]).run tz w = .ok v' w' ∧ OwnU w' base v' (ts ++ xs) ∧ w.grownBy w' v.ownBlock ∧ (v'.ownBlock = v.ownBlock ∨ v'.ownBlock = some w.heap.size) := by
 have under : Tryz.prog.underlying 22 = some (.slice 67) := by kernel_rfl
 have under2 : Tryz.prog.underlying 33 = some (.slice 67) := by kernel_rfl
 rw [append_types under under2]
 obtain ⟨i, hi, hz, hs, hb⟩ := info_parts info_t
 cases A with
 | none =>
  have hx : xs = [] := by
   by_cases e : xs = []
   ·exact e
   ·obtain ⟨b, off, e2, _⟩ := hrow e; cases e2
  subst hx
  obtain ⟨A0, n0, c0, rfl⟩ := hown.some_
  have hle : n0 ≤ c0 := by
   rcases hown.row.2 with ⟨e, h0⟩ | ⟨g, cap, cur, e, hbg, hgc, hnc, hcm, hcs, htake⟩
   ·obtain ⟨rfl, rfl, rfl⟩ : A0 = none ∧ n0 = 0 ∧ c0 = 0 := by simpa using e
    exact Nat.le_refl _
   ·obtain ⟨rfl, rfl, rfl⟩ : A0 = some ⟨g, 0, none⟩ ∧ n0 = ts.length ∧ c0 = cap := by simpa using e
    exact hnc
  subst hn
  refine ⟨.slice A0 n0 c0, w, ?_, by rw [List.append_nil]; exact hown, ⟨rfl, rfl, rfl, Nat.le_refl _, fun _ _ _ => rfl⟩, .inl rfl⟩
  have hf := run_firstCells_none (P := tz) w i.size 0 0 c
  cases A0 <;> simp [Builtin.append_, run_underlying under, sizeOf, typeInfo, hi, Builtin.lenOf, hle, hf, storeCells, Result.andThen]
 | some ad =>
  have hnews : ∀ j u, (flat xs)[j]? = some u → w.cell? (ad.add j) = some u := by
   intro j u hj
   by_cases e : xs = []
   ·subst e; simp [flat] at hj
   ·obtain ⟨b, off, e2, _, hc⟩ := hrow e
    obtain rfl := Option.some.inj e2
    have h5 : (flat xs)[j / 5 * 5 + j % 5]? = some u := by rw [Nat.div_add_mod']; exact hj
    rw [flat_at xs (j / 5) (j % 5) (Nat.mod_lt _ (by omega))] at h5
    obtain ⟨x, hx, hx2⟩ := Option.bind_eq_some_iff.1 h5
    have h6 := hc (j / 5) x hx (j % 5) u hx2
    rw [Nat.add_assoc, Nat.div_add_mod'] at h6
    rw [add_flat]
    exact h6
  have ho1 := one_cell xs
  have hxl : (flat xs).length = n * 5 := by rw [flat_len, hn]
  obtain ⟨hown, hall, A0, n0, c0, hv0⟩ := hown
  obtain ⟨v', w', hr, ho, hg, hnn⟩ := run_append_own (P := tz) w base 22 ty 67 i zeroT 5 72 under hi hz hs hb rfl (by decide) v ts.length (flat ts) hown ad n c (flat xs) hxl hnews ho1 (by unfold maxLen; omega) (by omega) hbase
  suffices hh : AllT w' v' ∧ (∃ A n c, v' = .slice A n c) ∧ (v'.ownBlock = v.ownBlock ∨ v'.ownBlock = some w.heap.size) from ⟨v', w', hr, ⟨by rw [List.length_append, flat_append, ← hn]; exact ho, hh.1, hh.2.1⟩, hg, hh.2.2⟩
  rcases hown.2 with ⟨rfl, h0⟩ | ⟨g, cap, cur, rfl, hbg, hgc, hnc, hcm, hcs, htake⟩
  ·by_cases hn0 : n = 0
   ·subst hn0
    have hv' := hnn.2 ⟨rfl, rfl⟩
    subst hv'
    exact ⟨(fun _ h => by cases h), ⟨_, _, _, rfl⟩, .inl rfl⟩
   ·have hS : _root_.Go.Src tz i.size 22 (.slice (some ad) n c) n (flat xs) w := _root_.Go.Src.ofSlice w under ad n c (flat xs) (by rw [hs]; exact hxl) hnews ho1
    have hr2 := run_append_grow_src (P := tz) w 22 22 ty 67 i zeroT under hi hz none 0 0 [] (by rw [hs]; exact run_firstCells_none w.drew 5 0 0 0) (.slice (some ad) n c) n (flat xs) hS (by omega) (by omega)
     (growslice_fits_wide (by omega) (by rw [hb]; omega))
    obtain ⟨e1, e2⟩ := Result.ok.inj (hr.symm.trans hr2)
    refine ⟨?_, ⟨_, _, _, e1⟩, .inr (by rw [e1]; rfl)⟩
    intro g' hg2 j u hu
    rw [e1] at hg2
    obtain rfl : w.heap.size = g' := by injection hg2
    rw [e2] at hu
    have hu2 : (w.drew.alloc (.cells (([] ++ flat xs).toArray ++ Builtin.zeroCells zeroT.cells (grownCap w (0 + n) 0 67 - (0 + n))) 67)).cell? ⟨w.drew.heap.size, j, none⟩ = some u := hu
    rw [World.cell?_alloc_new] at hu2
    rcases Array.mem_append.1 (Array.mem_of_getElem? hu2) with hx | hx
    ·have hx2 := List.mem_toArray.1 hx
     rw [List.nil_append] at hx2
     exact flat_no xs u hx2
    ·exact zero_t _ u hx
  ·have hcur : ∀ u ∈ cur.toList, ∀ z, u ≠ Value.int .u64 z := by
    intro u hu
    obtain ⟨j, hj, rfl⟩ := List.getElem_of_mem hu
    refine hall g rfl j _ ?_
    rw [cell_of_row w g j _ _ _ hgc]
    rw [Array.length_toList] at hj
    rw [Array.getElem?_eq_getElem hj]; rfl
   have hx5 := flat_no xs
   by_cases hroom : ts.length + n ≤ cap
   ·have hr2 := run_append_room (P := tz) w 22 ty 67 i under hi g ts.length cap cur hgc ad n c (flat xs) (by rw [hs]; exact hxl) hnews ho1 hroom (by rw [hs, hcs, hxl, ← Nat.add_mul]; exact Nat.mul_le_mul_right _ hroom)
    obtain ⟨e1, e2⟩ := Result.ok.inj (hr.symm.trans hr2)
    refine ⟨?_, ⟨_, _, _, e1⟩, .inl (by rw [e1]; rfl)⟩
    intro g' hg2 j u hu
    rw [e1] at hg2
    obtain rfl : g = g' := by injection hg2
    rw [e2, cell_of_row _ g j _ _ _ (setRow_heap w g cur _ _ _ hgc)] at hu
    have hm := Array.mem_of_getElem? hu
    rcases List.mem_append.1 (List.mem_toArray.1 hm) with hm | hm
    ·rcases List.mem_append.1 hm with hm | hm
     ·exact hcur u (List.mem_of_mem_take hm)
     ·exact hx5 u hm
    ·exact hcur u (List.mem_of_mem_drop hm)
   ·have hr2 := run_append_grow (P := tz) w 22 ty 67 i zeroT under hi hz ⟨g, 0, none⟩ ts.length cap (flat ts) (by rw [hs, flat_len]) (fun j u hu => hown.cells (g := g) rfl j u hu) ad n c (flat xs) (by rw [hs]; exact hxl) hnews (by omega) (by omega)
     (growslice_fits_wide (by omega) (by rw [hb]; omega))
    obtain ⟨e1, e2⟩ := Result.ok.inj (hr.symm.trans hr2)
    refine ⟨?_, ⟨_, _, _, e1⟩, .inr (by rw [e1]; rfl)⟩
    intro g' hg2 j u hu
    rw [e1] at hg2
    obtain rfl : w.heap.size = g' := by injection hg2
    rw [e2] at hu
    have hu2 : (w.drew.alloc (.cells ((flat ts).toArray ++ (flat xs).toArray ++ Builtin.zeroCells zeroT.cells (grownCap w (ts.length + n) cap 67 - (ts.length + n))) 67)).cell? ⟨w.drew.heap.size, j, none⟩ = some u := hu
    rw [World.cell?_alloc_new] at hu2
    rcases Array.mem_append.1 (Array.mem_of_getElem? hu2) with hx | hx
    ·rcases Array.mem_append.1 hx with hx | hx
     ·exact flat_no ts u (List.mem_toArray.1 hx)
     ·exact hx5 u (List.mem_toArray.1 hx)
    ·exact zero_t _ u hx
theorem OwnK.apps {w w4 : World} {base k : Nat} {v v' : Value} {zs ys : List (TV × Rat)} (h : OwnK w base v zs k) (hy : ∀ y ∈ ys, TQ w y.1 y.2 k) (h4 : OwnU w4 base v' (zs.map Prod.fst ++ ys.map Prod.fst)) (hg : w.grownBy w4 v.ownBlock) : OwnK w4 base v' (zs ++ ys) k := by
 have hn : NoDig w (fun b => some b = v.ownBlock) := fun b hb i u hu => h.own.all b hb.symm i u hu
 have hgr : Near (fun b => some b = v.ownBlock) w w4 := Near.of_grown hg
 refine ⟨by rw [List.map_append]; exact h4, fun z hz => ?_⟩
 rcases List.mem_append.1 hz with hz | hz
 ·exact ⟨isq_near (h.tq z hz).1 hn hgr, (h.tq z hz).2⟩
 ·exact ⟨isq_near (hy z hz).1 hn hgr, (hy z hz).2⟩
structure Aft (w0 w : World) : Prop where
 bel : Below w0.heap.size w0 w
theorem Aft.below {w0 w w' : World} (h : Aft w0 w) (hb : Below w.heap.size w w') : Aft w0 w' := ⟨below_on h.bel hb⟩
structure MX (w : World) (A : Option Addr) (n c : Nat) (vs : List SV) : Prop where
 row : RowS w A vs
 en : n = vs.length
 cap : n ≤ c
 le : n ≤ 1000
 isv : ∀ v ∈ vs, IsV w v.A v.n v.c v.ys 700 ∧ Short (vals v.ys) ∧ v.n ≤ 1000 ∧ ∀ a, v.A = some a → a.block < w.heap.size
def colsOf (vs : List SV) : Cols := vs.map (fun v => vals v.ys)
theorem colsOf_len (vs : List SV) : (colsOf vs).length = vs.length := by unfold colsOf; rw [List.length_map]
theorem RowS.below {w w' : World} {A : Option Addr} {vs : List SV} (h : RowS w A vs) (hb : Below w.heap.size w w') : RowS w' A vs := by
 intro hne
 obtain ⟨b, off, e, hlt, hc⟩ := h hne
 exact ⟨b, off, e, lL hlt hb.size, fun j v hj => (hb.cell (p := ⟨b, off + j, none⟩) hlt).trans (hc j v hj)⟩
theorem MX.below {w w' : World} {A : Option Addr} {n c : Nat} {vs : List SV} (h : MX w A n c vs) (hb : Below w.heap.size w w') : MX w' A n c vs :=
 ⟨h.row.below hb, h.en, h.cap, h.le, fun v hv => by obtain ⟨h1, h2, h3, h4⟩ := h.isv v hv; exact ⟨h1.below hb, h2, h3, fun a ha => lL (h4 a ha) hb.size⟩⟩
theorem col_of {vs : List SV} {k : Nat} {v : SV} (h : vs[k]? = some v) : col (colsOf vs) k = tot (vals v.ys) := by
 unfold col colsOf
 rw [List.getD_eq_getElem?_getD, gM, h]; rfl
theorem MX.vf {w : World} {A : Option Addr} {n c : Nat} {vs : List SV} (h : MX w A n c vs) {k : Nat} {v : SV} (hk : vs[k]? = some v) : VF w v.A v.n v.c (col (colsOf vs) k) := by
 obtain ⟨h1, h2, h3, h4⟩ := h.isv v (List.mem_of_getElem? hk)
 exact ⟨⟨v.ys, h1, h2, (col_of hk).symm⟩, h3, h4⟩
theorem colsOf_at {vs : List SV} {k : Nat} {v : SV} (h : vs[k]? = some v) : (colsOf vs).getD k [] = vals v.ys := by
 unfold colsOf
 rw [List.getD_eq_getElem?_getD, gM, h]; rfl
end V

namespace V
open Go.RowKit
open Q (IsQ OneQ RetQ below_on ql Qbx)
structure DenseR (w wx : World) (v : Value) (zs : List (TV × Rat)) (F : Int → Rat) (i : Nat) : Prop where
 own : OwnR wx w.heap.size v (zs.map Prod.fst)
 len : zs.length = i
 one : ∀ (j : Nat) y, zs[j]? = some y → OneQ wx y.1.s y.1.A y.1.n y.1.c y.1.t y.1.B y.1.m y.1.d y.2 ∧ y.1.at_ = (j : Int) ∧ y.2 = F (j : Int)
 nw : New w wx v
theorem DenseR.below {w wx wy : World} {v : Value} {zs : List (TV × Rat)} {F : Int → Rat} {i : Nat} (h : DenseR w wx v zs F i) (hb : Below wx.heap.size wx wy) : DenseR w wy v zs F i :=
 ⟨h.own.keep (fun g hg => hb.block g (h.own.lt hg)), h.len, fun j y hy => ⟨(h.one j y hy).1.below hb, (h.one j y hy).2⟩, ⟨below_on h.nw.bel hb, h.nw.new⟩⟩
end V

namespace V
open Go.RowKit
open Q (IsQ OneQ RetQ below_on ql Qbx)
def rowf (C : Cols) (i : Nat) (k : Int) : Rat := if 0 ≤ k ∧ k < (C.length : Int) then col C k.toNat (i : Int) else 0
theorem MR.row {p m L : Nat} {C : Cols} (h : MR p m L C) (hL : L ≤ 1000) (i : Nat) : Fn p (m + 1) C.length (rowf C i) := by
 obtain ⟨P, N, h0, h1, h2, h3⟩ := h.over
 refine ⟨⟨P, L * N, h0, h1, mul_small (by omega) h2, fun a => ?_⟩, upto C.length, by unfold upto; rw [List.length_map, List.length_range]; exact Nat.le_refl _, fun a ha => ?_⟩
 ·unfold rowf
  by_cases hr : 0 ≤ a ∧ a < (C.length : Int)
  ·rw [if_pos hr]
   have hm := getD_mem (C := C) (k := a.toNat) (by omega)
   exact (Over.tot (h3 _ hm) _).mono (Nat.mul_le_mul_right _ (h.len _ hm))
  ·rw [if_neg hr]; exact Over.zero _ _
 ·rw [mem_upto]
  by_cases hr : 0 ≤ a ∧ a < (C.length : Int)
  ·exact hr
  ·exact absurd (if_neg hr) ha
def RowsF (w : World) (A : Option Addr) (n c : Nat) (F : Nat → Int → Rat) : Prop := ∃ vs : List SV, RowS w A vs ∧ n = vs.length ∧ n ≤ c ∧ ∀ i v, vs[i]? = some v → CF w v.A v.n v.c (F i)
theorem RowsF.below {w w' : World} {A : Option Addr} {n c : Nat} {F : Nat → Int → Rat} (h : RowsF w A n c F) (hb : Below w.heap.size w w') : RowsF w' A n c F := by
 obtain ⟨vs, h1, h2, h3, h4⟩ := h
 exact ⟨vs, h1.below hb, h2, h3, fun i v hv => (h4 i v hv).below hb⟩
def RetTu (w : World) (n : Nat) (F : Nat → Int → Rat) (v : Bool) (e : Ending) (w' : World) : Prop := Below w.heap.size w w' ∧ (v = false ∧ e = .returned (.tuple #[.slice none 0 0, .int .i64 2]) ∨ v = true ∧ ∃ A c, e = .returned (.tuple #[.slice A n c, .int .i64 0]) ∧ RowsF w' A n c F)
structure OutS (w : World) (g : Nat) (vs : List SV) : Prop where
 ex : ∃ cur : Array Value, w.heap[g]? = some (.cells cur 33 (0, 0)) ∧ cur.toList = vs.map (fun v => .slice v.A v.n v.c)
theorem OutS.lt {w : World} {g : Nat} {vs : List SV} (h : OutS w g vs) : g < w.heap.size := by
 obtain ⟨cur, h1, _⟩ := h.ex; exact lt_of_block h1
theorem OutS.block {w w' : World} {g : Nat} {vs : List SV} (h : OutS w g vs) (e : w'.heap[g]? = w.heap[g]?) : OutS w' g vs := by
 obtain ⟨cur, h1, h2⟩ := h.ex; exact ⟨cur, e.trans h1, h2⟩
theorem OutS.below {w w' : World} {g : Nat} {vs : List SV} (h : OutS w g vs) (hb : Below w.heap.size w w') : OutS w' g vs := h.block (hb.block g h.lt)
theorem OutS.cell {w : World} {g : Nat} {vs : List SV} (h : OutS w g vs) {i : Nat} {u : Value} (hu : w.cell? ⟨g, i, none⟩ = some u) : ∃ v : SV, vs[i]? = some v ∧ u = .slice v.A v.n v.c := by
 obtain ⟨cur, h1, h2⟩ := h.ex
 rw [cell_of_row w g i _ _ _ h1, ← Array.getElem?_toList, h2, gM] at hu
 obtain ⟨v, hv, rfl⟩ := Option.map_eq_some_iff.1 hu
 exact ⟨v, hv, rfl⟩
theorem OutS.at_ {w : World} {g : Nat} {vs : List SV} (h : OutS w g vs) {i : Nat} {v : SV} (hv : vs[i]? = some v) : w.cell? ⟨g, i, none⟩ = some (.slice v.A v.n v.c) := by
 obtain ⟨cur, h1, h2⟩ := h.ex
 rw [cell_of_row w g i _ _ _ h1, ← Array.getElem?_toList, h2, gM, hv]; rfl
theorem OutS.frz {w : World} {g : Nat} {vs : List SV} (h : OutS w g vs) (i : Nat) : w.frozen? ⟨g, i, none⟩ = false := by
 obtain ⟨cur, h1, _⟩ := h.ex; exact frozen_of_row w g i _ _ h1
theorem OutS.dig {w : World} {g : Nat} {vs : List SV} (h : OutS w g vs) : NoDig w (fun b => b = g) := by
 intro b hb i u hu z e
 obtain rfl : b = g := hb
 obtain ⟨v, _, hv⟩ := h.cell hu
 rw [e] at hv; cases hv
theorem OutS.set {w : World} {g : Nat} {vs : List SV} (h : OutS w g vs) (i : Nat) (v : SV) : OutS (w.setCell ⟨g, i, none⟩ (.slice v.A v.n v.c)) g (vs.set i v) := by
 obtain ⟨cur, h1, h2⟩ := h.ex
 refine ⟨_, heap_setCell_same w g i _ _ _ h1, ?_⟩
 rw [Array.toList_setIfInBounds, h2, List.map_set]
theorem OutS.rows {w : World} {g : Nat} {vs : List SV} (h : OutS w g vs) : RowS w (some ⟨g, 0, none⟩) vs := fun _ => ⟨g, 0, rfl, h.lt, fun j v hv => by rw [Nat.zero_add]; exact h.at_ hv⟩
theorem CF.put {w : World} {A : Option Addr} {n c g : Nat} {F : Int → Rat} {vs : List SV} (h : CF w A n c F) (hg : OutS w g vs) (i : Nat) (v : Value) : CF (w.setCell ⟨g, i, none⟩ v) A n c F := by
 obtain ⟨ys, h1, h2, h3⟩ := h.ex
 have hn : Near (fun b => b = g) w (w.setCell ⟨g, i, none⟩ v) := (Near.refl _ w).setCell g _ _ rfl
 have hrow : Row (w.setCell ⟨g, i, none⟩ v) A (ys.map Prod.fst) := by
  intro hne
  obtain ⟨b, off, e, hlt, hc⟩ := h1.row hne
  have hbg : b ≠ g := by
   intro e2
   subst e2
   cases hy : ys.map Prod.fst with
   | nil => exact hne hy
   | cons x l =>
    have h4 := hc 0 x (by rw [hy]; rfl) 0 _ rfl
    obtain ⟨u, _, hu⟩ := hg.cell h4
    cases hu
  exact ⟨b, off, e, lL hlt hn.size, fun j x hj k u hu => (World.cell?_of_block (a := ⟨b, off + j * 5 + k, none⟩) (hn.block b hlt hbg)).trans (hc j x hj k u hu)⟩
 refine ⟨⟨ys, ⟨h1.en, h1.cap, hrow, fun y hy => ⟨isq_near (h1.tq y hy).1 hg.dig hn, (h1.tq y hy).2⟩⟩, h2, fun y hy => one_near (h3 y hy) hg.dig hn⟩, fun a ha => by have := h.blk a ha; simpa using this⟩
theorem make_s (w : World) (N : Nat) (hN : N ≤ 65536) : ∃ W, (Instr.makeSlice 56 (.int .i64 (N : Int)) (.int .i64 (N : Int))).run tz w = .ok (.slice (some ⟨w.heap.size, 0, none⟩) N N) W ∧ Below w.heap.size w W ∧ OutS W w.heap.size (List.replicate N ⟨none, 0, 0, []⟩) := by
 obtain ⟨i, hi, hz, hs, hb⟩ := info_parts info_v
 have under : Tryz.prog.underlying 56 = some (.slice 33) := by kernel_rfl
 have hr := run_make (P := tz) w 56 33 i zeroV under hi hz .i64 .i64 (N : Int) (N : Int) (by omega) (Int.le_refl _) (by rw [hb]; omega) (by omega)
 simp only [Int.toNat_natCast, hs] at hr
 refine ⟨_, hr, (Below.refl _ _).alloc (Nat.le_refl _) _, ⟨_, heap_alloc_new w _, ?_⟩⟩
 apply List.ext_getElem?
 intro j
 rw [List.map_replicate, List.getElem?_replicate]
 unfold madeCells
 by_cases hj : j < N
 ·rw [if_pos hj]
  simp [hj, Value.cells, zeroV, Nat.mod_one]
 ·rw [if_neg hj]
  simp [hj]
theorem DenseR.nil (w : World) (F : Int → Rat) : DenseR w w (.slice none 0 0) [] F 0 := ⟨OwnR.nil _ _, rfl, (fun _ _ h => by cases h), ⟨Below.refl _ _, (fun _ h => by cases h)⟩⟩
