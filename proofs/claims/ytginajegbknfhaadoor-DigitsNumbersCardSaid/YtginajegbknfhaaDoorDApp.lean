/- A text's bytes put behind a row of bytes of the call's own: and where the row then lies. -/
import Derived.Test.YtginajegbknfhaaDoorDFmt
import Derived.Deep.AppendSrc
import Derived.Deep.DeepAppendWide
import Derived.Lib.AppendStr
namespace Go.Proofs.YtginajegbknfhaaDoor.D
open Go.RowKit

theorem info_u8 : (Tryd.prog.info? 5).map (fun i => (i.zero, i.size, i.bytes)) = some (some (.int .u8 0), 1, 1) := by kernel_rfl
theorem under_u8s : Tryd.prog.underlying 52 = some (.slice 5) := by kernel_rfl

/-- All cells of v's own row are bytes, its spare ones too. -/
def AllB (w : World) (v : Value) : Prop := ∀ g, v.ownBlock = some g → ∀ j u, w.cell? ⟨g, j, none⟩ = some u → ∃ z, u = .int .u8 z
/-- The bytes l, in a row of the call's own. -/
structure Own (w : World) (base : Nat) (v : Value) (l : List UInt8) : Prop where
  row : w.ownsRow base 5 1 v l.length (Lib.strCells ⟨l.toArray⟩)
  all : AllB w v
theorem str_u8 (l : List UInt8) : ∀ u ∈ Lib.strCells ⟨l.toArray⟩, ∃ z, u = .int .u8 z := by
  intro u hu
  obtain ⟨b, _, rfl⟩ := List.mem_map.1 hu
  exact ⟨_, rfl⟩
theorem zero_u8 (n : Nat) : ∀ u ∈ Builtin.zeroCells (Value.cells (.int .u8 0)) n, ∃ z, u = .int .u8 z := by
  intro u hu
  unfold Builtin.zeroCells at hu
  obtain ⟨i, _, rfl⟩ := Array.mem_map.1 hu
  refine ⟨0, ?_⟩
  have e : (Value.cells (.int .u8 0)) = #[.int .u8 0] := rfl
  rw [e, show i % (#[Value.int .u8 0] : Array Value).size = 0 from Nat.mod_one i]
  rfl
theorem new_u8 (w : World) (arr : Array Value) (t : TypeId) (h : ∀ u ∈ arr, ∃ z, u = .int .u8 z) (j : Nat) (u : Value) (hc : (w.alloc (.cells arr t)).cell? ⟨w.heap.size, j, none⟩ = some u) : ∃ z, u = .int .u8 z := by
  rw [World.cell?_alloc_new] at hc
  exact h u (Array.mem_of_getElem? hc)
theorem cells_app (l m : List UInt8) : Lib.strCells ⟨l.toArray⟩ ++ Lib.strCells ⟨m.toArray⟩ = Lib.strCells ⟨(l ++ m).toArray⟩ := by
  unfold Lib.strCells
  rw [← List.map_append]

/-- append(v, s...): just v's own row may have turned; the new row is it, or new. -/
theorem app_at (w : World) (base : Nat) (ty : TypeId) (v : Value) (l m : List UInt8) (hown : Own w base v l) (h : l.length + m.length ≤ 1000000000) (hbase : base ≤ w.heap.size) :
    ∃ v' w', (Builtin.append_ #[52, 9] ty #[v, .string ⟨m.toArray⟩]).run Tryd.prog w = .ok v' w' ∧ Own w' base v' (l ++ m) ∧ w.grownBy w' v.ownBlock ∧ (v'.ownBlock = v.ownBlock ∨ v'.ownBlock = some w.heap.size) := by
  obtain ⟨i, hi, hz, hs, hb⟩ := info_parts info_u8
  have hm : (⟨m.toArray⟩ : ByteArray).size = m.length := by show m.toArray.size = _; simp
  obtain ⟨hown, hall⟩ := hown
  obtain ⟨v', w', hr, ho, hg, hn⟩ := Lib.run_append_own_string (P := Tryd.prog) w base 52 9 ty 5 i under_u8s Tryd.underlying9 hi hz hs hb v l.length _ hown ⟨m.toArray⟩ (by rw [hm]; unfold maxLen; omega) (by rw [hm]; omega) hbase
  rw [hm, cells_app] at ho
  suffices hh : AllB w' v' ∧ (v'.ownBlock = v.ownBlock ∨ v'.ownBlock = some w.heap.size) from ⟨v', w', hr, ⟨by rw [List.length_append]; exact ho, hh.1⟩, hg, hh.2⟩
  have hS : _root_.Go.Src Tryd.prog i.size 9 (.string ⟨m.toArray⟩) (⟨m.toArray⟩ : ByteArray).size (Go.byteCells ⟨m.toArray⟩) w := by rw [hs]; exact _root_.Go.Src.ofString w Tryd.underlying9 _
  rcases hown.2 with ⟨rfl, h0⟩ | ⟨g, cap, cur, rfl, hbg, hgc, hnc, hcm, hcs, htake⟩
  · by_cases hm0 : m.length = 0
    · have := hn.2 ⟨rfl, by rw [hm]; exact hm0⟩
      rw [this]
      exact ⟨(fun g h => by cases h), .inl rfl⟩
    · have hr2 := run_append_grow_src (P := Tryd.prog) w 52 9 ty 5 i (.int .u8 0) under_u8s hi hz none 0 0 [] (by rw [hs]; exact run_firstCells_none w.drew 1 0 0 0) (.string ⟨m.toArray⟩) _ _ hS (by rw [hm]; omega) (by rw [hm]; omega)
        (growslice_fits_wide (by rw [hm]; omega) (by rw [hm, hb]; omega))
      obtain ⟨e1, e2⟩ := Result.ok.inj (hr.symm.trans hr2)
      refine ⟨?_, .inr (by rw [e1]; rfl)⟩
      intro g hg2 j u hu
      rw [e1] at hg2
      obtain rfl : w.heap.size = g := by injection hg2
      rw [e2] at hu
      refine new_u8 w.drew _ _ ?_ j u hu
      intro x hx
      rcases Array.mem_append.1 hx with hx | hx
      · have hx2 := List.mem_toArray.1 hx
        rw [List.nil_append] at hx2
        exact str_u8 m x hx2
      · exact zero_u8 _ x hx
  · by_cases hroom : l.length + m.length ≤ cap
    · have hcc : ∀ j, j < (Go.byteCells ⟨m.toArray⟩).length → (w.cell? ⟨g, 0 + l.length * i.size + j, none⟩).isSome = true := by
        intro j hj
        rw [byteCells_length, hm] at hj
        rw [hs, cell_of_row w g _ _ _ _ hgc, Array.getElem?_eq_getElem (by rw [hcs]; omega)]
        rfl
      have hr2 := run_append_room_src (P := Tryd.prog) w 52 9 ty 5 i under_u8s hi g 0 l.length cap (.string ⟨m.toArray⟩) _ _ hS (by rw [hm]; omega) hcc (fun j _ => frozen_of_row w g _ _ _ hgc)
      obtain ⟨e1, e2⟩ := Result.ok.inj (hr.symm.trans hr2)
      refine ⟨?_, .inl (by rw [e1]; rfl)⟩
      intro g' hg2 j u hu
      rw [e1] at hg2
      obtain rfl : g = g' := by injection hg2
      rw [e2] at hu
      by_cases hin : 0 + l.length * i.size ≤ j ∧ j < 0 + l.length * i.size + (Go.byteCells ⟨m.toArray⟩).length
      · obtain ⟨d, hd⟩ : ∃ d, j = 0 + l.length * i.size + d := ⟨j - (0 + l.length * i.size), by omega⟩
        have hdl : d < (Go.byteCells ⟨m.toArray⟩).length := by omega
        subst hd
        rw [World.cell?_setCells_in g _ _ w hcc d hdl] at hu
        injection hu with hu
        rw [← hu]
        exact str_u8 m _ (List.getElem_mem hdl)
      · rw [World.cell?_setCells_out g _ _ w ⟨g, j, none⟩ (fun _ _ => by show j < _ ∨ _ ≤ j; omega)] at hu
        exact hall g rfl j u hu
    · have hold : (Builtin.firstCells i.size l.length (.slice (some ⟨g, 0, none⟩) l.length cap)).run Tryd.prog w.drew = .ok (Lib.strCells ⟨l.toArray⟩).toArray w.drew := by
        rw [hs]
        refine run_firstCells_some w.drew 1 l.length ⟨g, 0, none⟩ l.length cap (Lib.strCells ⟨l.toArray⟩) hown.1 (fun j u hu => ?_)
        exact hown.cells (g := g) rfl j u hu
      have hr2 := run_append_grow_src (P := Tryd.prog) w 52 9 ty 5 i (.int .u8 0) under_u8s hi hz (some ⟨g, 0, none⟩) l.length cap _ hold (.string ⟨m.toArray⟩) _ _ hS (by rw [hm]; omega) (by rw [hm]; omega)
        (growslice_fits_wide (by rw [hm]; omega) (by rw [hm, hb]; omega))
      obtain ⟨e1, e2⟩ := Result.ok.inj (hr.symm.trans hr2)
      refine ⟨?_, .inr (by rw [e1]; rfl)⟩
      intro g' hg2 j u hu
      rw [e1] at hg2
      obtain rfl : w.heap.size = g' := by injection hg2
      rw [e2] at hu
      refine new_u8 w.drew _ _ ?_ j u hu
      intro x hx
      rcases Array.mem_append.1 hx with hx | hx
      · rcases List.mem_append.1 (List.mem_toArray.1 hx) with hx | hx
        · exact str_u8 l x hx
        · exact str_u8 m x hx
      · exact zero_u8 _ x hx

/-- The same at a step of a walk. -/
theorem wp_app {ops : Array Oper} {rest : List Oper} {o : Oper} {a : Act} {w : World} {Q : Exit → Act → World → Prop} (hgd : o.guard = none) (sl x : Operand)
    (ho : o.op = .call { callee := .builtin .append, args := #[sl, x], argTypes := #[52, 9] })
    (base : Nat) (v : Value) (l m : List UInt8) (hs : a.eval sl = v) (hx : a.eval x = .string ⟨m.toArray⟩) (hown : Own w base v l) (h : l.length + m.length ≤ 1000000000) (hbase : base ≤ w.heap.size)
    (hk : ∀ v' w', Own w' base v' (l ++ m) → w.grownBy w' v.ownBlock → (v'.ownBlock = v.ownBlock ∨ v'.ownBlock = some w.heap.size) → wpList Tryd.prog ops Q rest (a.put o.dst v') w') : wpList Tryd.prog ops Q (o :: rest) a w := by
  refine wpList_plain hgd fun K hK => ?_
  obtain ⟨v', w', hr, h1, h2, h3⟩ := app_at w base o.type v l m hown h hbase
  unfold Oper.wp
  simp [execOp, ho, resolve, invoke, builtin, hs, hx, hr, Result.andThen]
  exact hK _ _ (hk v' w' h1 h2 h3)
end Go.Proofs.YtginajegbknfhaaDoor.D
