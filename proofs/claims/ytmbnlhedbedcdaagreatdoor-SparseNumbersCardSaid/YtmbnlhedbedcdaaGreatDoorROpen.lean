/- A fraction that came in, opened. -/
import Derived.Test.YtmbnlhedbedcdaaGreatDoorRows
import Derived.Test.YtmbnlhedbedcdaaGreatDoorRAwake
import Derived.Test.YtmbnlhedbedcdaaGreatDoorDLaid
import Derived.WalkKit
import Derived.ProofKit
import Derived.OpenShut
import Derived.ShutString
import Derived.ChangeOld
import Derived.Below
import Derived.Lib.SmallJoins
namespace Go.Proofs.YtmbnlhedbedcdaaGreatDoor.Q
open Go.ChangeShapes Go.WideShapes Go.ChangeAt Go.RowKit Go.Joins

/-- What the walk is told of a slice of digits that came in: it is nil, or leads to a row of cells. -/
def IsRow (w : World) (a : Option Addr) (len cap : Nat) (zs : List Int) : Prop :=
  (a = none ∧ len = 0 ∧ cap = 0 ∧ zs = []) ∨
  ∃ x, a = some x ∧ len ≤ cap ∧ cap ≤ maxLen ∧ zs.length = cap ∧ (∀ i, i < zs.length → w.cell? (x.add i) = some (.int .u64 (zs.getD i 0))) ∧ ∀ n ∈ zs, (Lit.int .u64 n).wf = true
theorem cellsI : Tryz.prog.cellsOf 24 = 2 := by kernel_rfl
theorem cellsQ : Tryz.prog.cellsOf 26 = 4 := by kernel_rfl
theorem cellsB : Tryz.prog.cellsOf 4 = 1 := by kernel_rfl
theorem cellsS : Tryz.prog.cellsOf 22 = 1 := by kernel_rfl
set_option maxRecDepth 100000 in
theorem open_int2 {H : Type} {enc : TypeId × Value → H} {W : World} {fuel : Nat} {c0 c1 : Value} {x : DataW H × List MemPlace} (h : DataW.trod enc Tryz.prog W 0 (fun _ => true) true fuel 24 [c0, c1] = some x) :
    ∃ s a len cap zs, c0 = .bool s ∧ c1 = .slice a len cap ∧ IsRow W a len cap zs := by
  obtain ⟨y0, y1, m, -, -, hy0, hy1⟩ := trod_struct2 Tryz.underlying24 h
  rw [cellsB] at hy0
  rw [cellsS] at hy1
  obtain ⟨s, e0, -⟩ := DataW.trod_bool Tryz.underlying4 hy0
  simp only [List.drop_zero, List.take_succ_cons, List.take_zero, List.cons.injEq, and_true] at e0
  rcases open_ints Tryz.underlying22 Tryz.underlying36 (by kernel_rfl) hy1 with ⟨hcs, _⟩ | ⟨x, l, c, zs, hcs, _, hl, hm, hz, _, hcell, hwz⟩
  · simp only [List.drop_succ_cons, List.drop_zero, List.take_succ_cons, List.take_zero, List.cons.injEq, and_true] at hcs
    exact ⟨s, none, 0, 0, [], e0, hcs, .inl ⟨rfl, rfl, rfl, rfl⟩⟩
  · simp only [List.drop_succ_cons, List.drop_zero, List.take_succ_cons, List.take_zero, List.cons.injEq, and_true] at hcs
    exact ⟨s, some x, l, c, zs, e0, hcs, .inr ⟨_, rfl, hl, hm, by simpa using hz, hcell, hwz⟩⟩
set_option maxRecDepth 100000 in
theorem open_rat {H : Type} {enc : TypeId × Value → H} {W : World} {r : Reach} {b0 : Nat} {v : Value} {d : DataW H} {p : List MemPlace} (hv : Value.okWide Tryz.prog W r b0 26 v) (h : DataW.Trod enc Tryz.prog W 0 (fun _ => true) true 26 v d p) :
    ∃ s a len cap zs t b len2 cap2 ys, v = .agg #[.bool s, .slice a len cap, .bool t, .slice b len2 cap2] ∧ IsRow W a len cap zs ∧ IsRow W b len2 cap2 ys := by
  obtain ⟨cs, rfl, hsz⟩ := okWide_struct Tryz.underlying26 hv
  obtain ⟨c0, c1, c2, c3, rfl⟩ := array4 (hsz.trans cellsQ)
  obtain ⟨fuel, hf⟩ := h
  obtain ⟨y0, y1, m, -, -, hy0, hy1⟩ := trod_struct2 Tryz.underlying26 hf
  rw [cellsI] at hy0 hy1
  have h0 : DataW.trod enc Tryz.prog W 0 (fun _ => true) true m 24 [c0, c1] = some y0 := hy0
  have h1 : DataW.trod enc Tryz.prog W 0 (fun _ => true) true m 24 [c2, c3] = some y1 := hy1
  obtain ⟨s, a, len, cap, zs, rfl, rfl, w0⟩ := open_int2 h0
  obtain ⟨t, b, len2, cap2, ys, rfl, rfl, w1⟩ := open_int2 h1
  exact ⟨s, a, len, cap, zs, t, b, len2, cap2, ys, rfl, w0, w1⟩
/-- Such a fraction, whatever its size. -/
theorem isq_rows {w : World} {s t : Bool} {a b : Option Addr} {len cap len2 cap2 : Nat} {zs ys : List Int} (h1 : IsRow w a len cap zs) (h2 : IsRow w b len2 cap2 ys) : ∃ q, IsQ w s a len cap t b len2 cap2 q (max len len2) := by
  obtain ⟨xs, rfl, n1, k1⟩ := num_of_row h1
  obtain ⟨us, rfl, n2, k2⟩ := num_of_row h2
  exact ⟨_, ⟨xs, us, rfl, rfl, n1, n2, rfl⟩, by omega, by omega, k1, k2⟩
end Go.Proofs.YtmbnlhedbedcdaaGreatDoor.Q
