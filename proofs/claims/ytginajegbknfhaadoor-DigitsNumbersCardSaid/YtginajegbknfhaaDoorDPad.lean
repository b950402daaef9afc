/- Numerals with noughts ahead; what a row of bytes of the call's own keeps. -/
import Derived.Test.YtginajegbknfhaaDoorDApp
namespace Go.Proofs.YtginajegbknfhaaDoor.D
open Go.RowKit

/-- v in k digits, with noughts ahead. -/
def pad (k v : Nat) : List UInt8 := (List.range k).map fun t => Lib.dg v (k - 1 - t)
theorem pad_length (k v : Nat) : (pad k v).length = k := by simp [pad]
theorem dg_zero_of {v j : Nat} (h : v < 10 ^ j) : Lib.dg v j = 48 := by
  unfold Lib.dg
  rw [Nat.div_eq_of_lt h]; rfl
theorem pow_ge {k j : Nat} (h : k ≤ j) : 10 ^ k ≤ 10 ^ j := Nat.pow_le_pow_right (by omega) h
theorem pad_nought (k : Nat) : pad k 0 = List.replicate k 48 := by
  unfold pad
  rw [List.eq_replicate_iff]
  refine ⟨by simp, fun b hb => ?_⟩
  obtain ⟨t, _, rfl⟩ := List.mem_map.1 hb
  exact dg_zero_of (Nat.pow_pos (by omega))
theorem pad_dec {k v : Nat} (h : Lib.nDigits v ≤ k) : pad k v = List.replicate (k - Lib.nDigits v) 48 ++ Lib.decDigits v := by
  rw [Lib.decDigits_eq]
  obtain ⟨n, hn⟩ : ∃ n, Lib.nDigits v = n := ⟨_, rfl⟩
  have hlt := Lib.lt_pow_nDigits v
  rw [hn] at h hlt ⊢
  unfold pad
  refine List.ext_getElem (by simp; omega) fun i h1 h2 => ?_
  simp only [List.length_map, List.length_range] at h1
  rw [List.getElem_map, List.getElem_range]
  by_cases hi : i < k - n
  · rw [List.getElem_append_left (by simpa using hi), List.getElem_replicate]
    exact dg_zero_of (Nat.lt_of_lt_of_le hlt (pow_ge (by omega)))
  · rw [List.getElem_append_right (by simp; omega), List.getElem_map, List.getElem_range, List.length_replicate]
    congr 1; omega
theorem dg_high (v m j : Nat) : Lib.dg v (m + j) = Lib.dg (v / 10 ^ m) j := by
  unfold Lib.dg
  rw [Nat.pow_add, Nat.div_div_eq_div_mul]
theorem dg_low {v m j : Nat} (h : j < m) : Lib.dg (v % 10 ^ m) j = Lib.dg v j := by
  unfold Lib.dg
  have e : 10 ^ m = 10 ^ j * 10 ^ (m - j) := by rw [← Nat.pow_add]; congr 1; omega
  have e2 : 10 ^ (m - j) = 10 * 10 ^ (m - j - 1) := by rw [← Nat.pow_succ']; congr 1; omega
  rw [e, Nat.mod_mul_right_div_self, e2, Nat.mod_mul_right_mod]
theorem pad_split (k m v : Nat) : pad (k + m) v = pad k (v / 10 ^ m) ++ pad m (v % 10 ^ m) := by
  unfold pad
  refine List.ext_getElem (by simp) fun i h1 h2 => ?_
  simp only [List.length_map, List.length_range] at h1
  rw [List.getElem_map, List.getElem_range]
  by_cases hi : i < k
  · rw [List.getElem_append_left (by simpa using hi), List.getElem_map, List.getElem_range, ← dg_high]
    congr 1; omega
  · rw [List.getElem_append_right (by simp; omega), List.getElem_map, List.getElem_range, dg_low (by simp; omega)]
    simp only [List.length_map, List.length_range]
    congr 1; omega

/-- What a row of the call's own that has grown keeps: v was it, v' is it. -/
structure Fr (w w' : World) (v v' : Value) : Prop where
  g : w.grownBy w' v.ownBlock
  at_ : v'.ownBlock = v.ownBlock ∨ ∃ k, w.heap.size ≤ k ∧ v'.ownBlock = some k
theorem Fr.refl (w : World) (v : Value) : Fr w w v v := ⟨⟨rfl, rfl, rfl, Nat.le_refl _, fun _ _ _ => rfl⟩, .inl rfl⟩
theorem Fr.trans {w w1 w2 : World} {v v1 v2 : Value} (h : Fr w w1 v v1) (k : Fr w1 w2 v1 v2) : Fr w w2 v v2 := by
  refine ⟨⟨k.g.os.trans h.g.os, k.g.tape.trans h.g.tape, k.g.output.trans h.g.output, Nat.le_trans h.g.size k.g.size, fun i hi hne => ?_⟩, ?_⟩
  · refine (k.g.block i (Nat.lt_of_lt_of_le hi h.g.size) ?_).trans (h.g.block i hi hne)
    rcases h.at_ with e | ⟨j, hj, e⟩
    · rw [e]; exact hne
    · rw [e]
      intro e2
      injection e2 with e2
      omega
  · rcases k.at_ with e | ⟨j, hj, e⟩
    · rw [e]; exact h.at_
    · exact .inr ⟨j, Nat.le_trans h.g.size hj, e⟩
theorem Fr.of_below {w w1 : World} (h : Below w.heap.size w w1) (v : Value) : Fr w w1 v v := ⟨⟨h.os, h.tape, h.output, h.size, fun i hi _ => h.block i hi⟩, .inl rfl⟩
theorem Fr.of_app {w w1 : World} {v v' : Value} (h : w.grownBy w1 v.ownBlock) (k : v'.ownBlock = v.ownBlock ∨ v'.ownBlock = some w.heap.size) : Fr w w1 v v' :=
  ⟨h, k.imp id fun e => ⟨_, Nat.le_refl _, e⟩⟩
theorem Own.below {w w1 : World} {base : Nat} {v : Value} {l : List UInt8} (h : Own w base v l) (hb : Below w.heap.size w w1) : Own w1 base v l := by
  refine ⟨⟨h.row.1, ?_⟩, ?_⟩
  · rcases h.row.2 with hn | ⟨g, cap, cur, hv, hbg, hg, rest⟩
    · exact .inl hn
    · exact .inr ⟨g, cap, cur, hv, hbg, (hb.block g (lt_of_block hg)).trans hg, rest⟩
  · intro g hg j u hu
    have hlt := (h.row.lt g hg).2
    exact h.all g hg j u ((hb.cell (p := ⟨g, j, none⟩) hlt).symm.trans hu)
theorem Own.nil (w : World) (base : Nat) : Own w base (.slice none 0 0) [] := ⟨World.ownsRow_nil _ _ _ _, (fun g h => by cases h)⟩
/-- What is no byte lies elsewhere. -/
theorem AllB.off {w : World} {v : Value} (h : AllB w v) {b o : Nat} {u : Value} (hc : w.cell? ⟨b, o, none⟩ = some u) (hu : ∀ z, u ≠ .int .u8 z) : some b ≠ v.ownBlock := by
  intro e
  obtain ⟨z, hz⟩ := h b e.symm o u hc
  exact hu z hz
theorem Fr.cell {w w1 : World} {v v1 : Value} (h : Fr w w1 v v1) (hb : AllB w v) {b o : Nat} {u : Value} (hc : w.cell? ⟨b, o, none⟩ = some u) (hu : ∀ z, u ≠ .int .u8 z) : w1.cell? ⟨b, o, none⟩ = some u :=
  (World.cell?_of_block (h.g.block b (block_lt_of_cell hc) (hb.off hc hu))).trans hc
/-- A number's digits are no bytes. -/
theorem Fr.num {w w1 : World} {v v1 : Value} (h : Fr w w1 v v1) (hb : AllB w v) {A : Option Addr} {xs : List Nat} (ha : Num w A xs) : Num w1 A xs :=
  ⟨ha.1, fun hn => by
    obtain ⟨b, off, e, hlt, hc⟩ := ha.2 hn
    exact ⟨b, off, e, Nat.lt_of_lt_of_le hlt h.g.size, fun i hi => h.cell hb (hc i hi) (fun z hz => by cases hz)⟩⟩
/-- The row's new place, and its bytes. -/
def RetA (w : World) (base : Nat) (v : Value) (l : List UInt8) (e : Ending) (w' : World) : Prop := ∃ v', e = .returned v' ∧ Own w' base v' l ∧ Fr w w' v v'
end Go.Proofs.YtginajegbknfhaaDoor.D
