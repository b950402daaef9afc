/- Vectors that came in, opened: slices of terms, slices of fractions. -/
import Derived.Test.YtmbnlhedbedcdaaGreatROpen
import Derived.Test.YtmbnlhedbedcdaaGreatVA
import Derived.Deep.Slices
namespace Go.Proofs.YtmbnlhedbedcdaaGreat.V
open Go.ChangeShapes Go.WideShapes Go.ChangeAt Go.RowKit Go.Joins
open Go.Proofs.YtmbnlhedbedcdaaGreat.Q (IsQ IsRow open_int2 isq_rows)

set_option maxRecDepth 100000
theorem cellsT : Tryz.prog.cellsOf 74 = 5 := by kernel_rfl
theorem cellsN : Tryz.prog.cellsOf 3 = 1 := by kernel_rfl
theorem list_of {α : Type} {P : Nat → α → Prop} : ∀ n : Nat, (∀ i, i < n → ∃ x, P i x) → ∃ l : List α, l.length = n ∧ ∀ i x, l[i]? = some x → P i x
  | 0, _ => ⟨[], rfl, fun i x h => by simp at h⟩
  | n + 1, h => by
    obtain ⟨l, h1, h2⟩ := list_of n (fun i hi => h i (by omega))
    obtain ⟨x, hx⟩ := h n (by omega)
    refine ⟨l ++ [x], by simp [h1], fun i y hy => ?_⟩
    rcases Nat.lt_or_ge i n with hi | hi
    · rw [List.getElem?_append_left (by omega)] at hy
      exact h2 i y hy
    · rw [List.getElem?_append_right (by omega), h1] at hy
      have h3 := (List.getElem?_eq_some_iff.1 hy).1
      simp at h3
      obtain rfl : i = n := by omega
      simp at hy
      exact hy ▸ hx
theorem list_bound {α : Type} (f : α → Nat) : ∀ l : List α, ∃ k, ∀ x ∈ l, f x ≤ k
  | [] => ⟨0, fun _ h => by cases h⟩
  | a :: l => by
    obtain ⟨k, hk⟩ := list_bound f l
    refine ⟨max (f a) k, fun x hx => ?_⟩
    rcases List.mem_cons.1 hx with rfl | hx
    · exact Nat.le_max_left _ _
    · exact Nat.le_trans (hk x hx) (Nat.le_max_right _ _)
theorem add_flat {b off i : Nat} : (⟨b, off, none⟩ : Addr).add i = ⟨b, off + i, none⟩ := by
  unfold Addr.add
  by_cases h : i = 0
  · subst h; simp
  · simp [h]
/-- A fraction's four cells, opened. -/
theorem open_rat4 {H : Type} {enc : TypeId × Value → H} {W : World} {fuel : Nat} {c0 c1 c2 c3 : Value} {x : DataW H × List MemPlace} (h : DataW.trod enc Tryz.prog W 0 (fun _ => true) true fuel 27 [c0, c1, c2, c3] = some x) :
    ∃ s a len cap zs t b len2 cap2 ys, c0 = .bool s ∧ c1 = .slice a len cap ∧ c2 = .bool t ∧ c3 = .slice b len2 cap2 ∧ IsRow W a len cap zs ∧ IsRow W b len2 cap2 ys := by
  obtain ⟨y0, y1, m, -, -, hy0, hy1⟩ := trod_struct2 Tryz.underlying27 h
  rw [Q.cellsI] at hy0 hy1
  have h0 : DataW.trod enc Tryz.prog W 0 (fun _ => true) true m 25 [c0, c1] = some y0 := hy0
  have h1 : DataW.trod enc Tryz.prog W 0 (fun _ => true) true m 25 [c2, c3] = some y1 := hy1
  obtain ⟨s, a, len, cap, zs, e0, e1, w0⟩ := open_int2 h0
  obtain ⟨t, b, len2, cap2, ys, e2, e3, w1⟩ := open_int2 h1
  exact ⟨s, a, len, cap, zs, t, b, len2, cap2, ys, e0, e1, e2, e3, w0, w1⟩
/-- What a slice's address is, of a parameter: it lies in the world. -/
theorem slice_in {W : World} {r : Reach} {b0 : Nat} {t e : TypeId} {a : Addr} {len cap : Nat} (ht : Tryz.prog.underlying t = some (.slice e)) (hv : Value.okWide Tryz.prog W r b0 t (.slice (some a) len cap)) : ∃ b off, a = ⟨b, off, none⟩ ∧ b < W.heap.size := by
  unfold Value.okWide at hv
  simp only [ht] at hv
  unfold Cell.okWide at hv
  simp only [ht] at hv
  unfold Cell.ok at hv
  simp only [ht] at hv
  obtain ⟨_, _, _, hs, row, cells, hsh, _⟩ := hv
  refine ⟨a.block, a.off, ?_, ?_⟩
  · cases a; simp at hs; subst hs; rfl
  · unfold World.shape? at hsh
    split at hsh
    · next c elem fz h => exact (Array.getElem?_eq_some_iff.1 h).1
    · cases hsh
/-- The cells of the elements of a slice of terms. -/
theorem terms_of {H : Type} {enc : TypeId × Value → H} {W : World} {fuel len : Nat} {b off : Nat} {D : Nat → DataW H} {Pl : Nat → List MemPlace} (hx : ∀ i, i < len → ∃ cs', W.cells? 0 ((⟨b, off, none⟩ : Addr).add (i * Tryz.prog.cellsOf 74)) (Tryz.prog.cellsOf 74) = some cs' ∧ DataW.trod enc Tryz.prog W 0 (fun _ => true) true fuel 74 cs' = some (D i, Pl i)) :
    ∃ ys : List (TV × Rat), ys.length = len ∧ (∀ j y, ys[j]? = some y → ∀ i v, y.1.enc[i]? = some v → W.cell? ⟨b, off + j * 5 + i, none⟩ = some v) ∧ ∃ k, ∀ y ∈ ys, TQ W y.1 y.2 k := by
  have one : ∀ i, i < len → ∃ y : TV × Rat, (∀ j v, y.1.enc[j]? = some v → W.cell? ⟨b, off + i * 5 + j, none⟩ = some v) ∧ TQ W y.1 y.2 (max y.1.n y.1.m) := by
    intro i hi
    obtain ⟨cs, h1, h2⟩ := hx i hi
    rw [cellsT] at h1
    obtain ⟨_, hl, hc⟩ := World.cells?_some h1
    obtain ⟨y0, y1, m, -, -, hy0, hy1⟩ := trod_struct2 Tryz.underlying74 h2
    match cs, hl with
    | [c0, c1, c2, c3, c4], _ =>
      rw [cellsN] at hy0
      rw [Q.cellsQ] at hy1
      have h0 : DataW.trod enc Tryz.prog W 0 (fun _ => true) true m 3 [c0] = some y0 := hy0
      have h4 : DataW.trod enc Tryz.prog W 0 (fun _ => true) true m 27 [c1, c2, c3, c4] = some y1 := hy1
      obtain ⟨n, e0, -, hw⟩ := DataW.trod_int Tryz.underlying3 h0
      obtain rfl : c0 = .int .i64 n := by simpa using e0
      have hb := bounds_i64 hw
      obtain ⟨s, a, l, c, zs, t, b', l2, c2', us, rfl, rfl, rfl, rfl, w0, w1⟩ := open_rat4 h4
      obtain ⟨q, hq⟩ := isq_rows (s := s) (t := t) w0 w1
      refine ⟨(⟨n, s, a, l, c, t, b', l2, c2'⟩, q), fun j v hj => ?_, hq, hb.1, by show n ≤ _; omega⟩
      have hj5 : j < 5 := by
        have := (List.getElem?_eq_some_iff.1 hj).1
        simpa [TV.enc] using this
      have h5 := hc j hj5
      rw [Addr.add_add, add_flat] at h5
      rw [Nat.add_assoc, h5]
      exact hj
  obtain ⟨ys, h1, h2⟩ := list_of len one
  obtain ⟨k, hk⟩ := list_bound (fun y : TV × Rat => max y.1.n y.1.m) ys
  refine ⟨ys, h1, fun j y hy i v hv => (h2 j y hy).1 i v hv, k, fun y hy => ?_⟩
  obtain ⟨j, hj⟩ := List.getElem?_of_mem hy
  have h3 := (h2 j y hj).2
  exact ⟨h3.1.mono (hk y hy), h3.2⟩
theorem open_terms {H : Type} {enc : TypeId × Value → H} {W : World} {r : Reach} {b0 : Nat} {t : TypeId} {v : Value} {d : DataW H} {p : List MemPlace} (ht : Tryz.prog.underlying t = some (.slice 74)) (hv : Value.okWide Tryz.prog W r b0 t v) (h : DataW.Trod enc Tryz.prog W 0 (fun _ => true) true t v d p) :
    ∃ A n c ys k, v = .slice A n c ∧ IsV W A n c ys k ∧ ∀ a, A = some a → a.block < W.heap.size := by
  obtain ⟨a0, len0, cap0, rfl⟩ := okWide_slice ht hv
  obtain ⟨fuel, hf⟩ := h
  rcases Go.Deep.open_slice ht hf with ⟨e, _⟩ | ⟨a, len, cap, m, n, D, Pl, e, _, hl, hm, hmm, _, hx⟩
  · obtain ⟨rfl, rfl, rfl⟩ : a0 = none ∧ len0 = 0 ∧ cap0 = 0 := by simpa [Value.cells] using e
    exact ⟨none, 0, 0, [], 0, rfl, ⟨rfl, Nat.le_refl _, fun h => absurd rfl h, fun _ h => by cases h⟩, fun _ h => by cases h⟩
  · obtain ⟨rfl, rfl, rfl⟩ : a0 = some a ∧ len0 = len ∧ cap0 = cap := by simpa [Value.cells] using e
    obtain ⟨b, off, rfl, hlt⟩ := slice_in ht hv
    simp only [if_pos] at hmm
    obtain ⟨ys, h1, h2, k, h3⟩ := terms_of (len := len0) (fun i hi => hx i (by omega))
    refine ⟨_, _, _, ys, k, rfl, ⟨h1.symm, hl, fun _ => ⟨b, off, rfl, hlt, fun j x hj i v hv => ?_⟩, h3⟩, fun a ha => by obtain rfl := Option.some.inj ha; exact hlt⟩
    rw [List.getElem?_map] at hj
    obtain ⟨y, hy, rfl⟩ := Option.map_eq_some_iff.1 hj
    exact h2 j y hy i v hv
end Go.Proofs.YtmbnlhedbedcdaaGreat.V
