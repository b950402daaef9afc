/- ratio's order: plain mathematics of it, and a text read back. -/
import Derived.Test.YtmbnlhedbedcdaaGreatRAwake
namespace Go.Proofs.YtmbnlhedbedcdaaGreat.Q
open Go.RowKit

theorem qcmp_add (p r u : Rat) : qcmp (p + u) (r + u) = qcmp p r := by
  rcases tri p r with h | h | h
  · rw [qcmp_lt h, qcmp_lt (by grind)]
  · rw [h, qcmp_eq, qcmp_eq]
  · rw [qcmp_gt h, qcmp_gt (by grind)]
theorem qcmp_mul (p r u : Rat) : qcmp (p * u) (r * u) = qcmp p r * qsign u := by
  rcases tri u 0 with hu | hu | hu
  · rw [qsign_cmp u, qcmp_lt hu]
    rcases tri p r with h | h | h
    · have h2 : p * -u < r * -u := (Rat.mul_lt_mul_right (by grind)).2 h
      rw [qcmp_lt h, qcmp_gt (by grind)]; rfl
    · rw [h, qcmp_eq, qcmp_eq]; rfl
    · have h2 : r * -u < p * -u := (Rat.mul_lt_mul_right (by grind)).2 h
      rw [qcmp_gt h, qcmp_lt (by grind)]; rfl
  · rw [hu, Rat.mul_zero, Rat.mul_zero, qcmp_eq]
    show 0 = _ * 0
    rw [Int.mul_zero]
  · rw [qsign_cmp u, qcmp_gt hu, Int.mul_one]
    rcases tri p r with h | h | h
    · rw [qcmp_lt h, qcmp_lt ((Rat.mul_lt_mul_right hu).2 h)]
    · rw [h, qcmp_eq, qcmp_eq]
    · rw [qcmp_gt h, qcmp_gt ((Rat.mul_lt_mul_right hu).2 h)]
theorem qcmp_bound (p r : Rat) : -1 ≤ qcmp p r ∧ qcmp p r ≤ 1 := by unfold qcmp; split <;> (try split) <;> omega
theorem qcmp_trans {p r u : Rat} (h1 : ¬ 0 < qcmp p r) (h2 : ¬ 0 < qcmp r u) : qcmp p u ≤ 0 := by
  rw [qcmp_pos_iff] at h1 h2
  have h3 : ¬ 0 < qcmp p u := by rw [qcmp_pos_iff]; grind
  omega
theorem floor_ceil (p : Rat) : (((p.floor : Int) : Rat) = ((p.ceil : Int) : Rat)) ↔ p.den = 1 := by
  rw [Rat.intCast_inj]
  unfold Rat.floor Rat.ceil
  by_cases h : p.den = 1
  · rw [if_pos h, if_pos h]; exact ⟨fun _ => h, fun _ => rfl⟩
  · rw [if_neg h, if_neg h]; exact ⟨fun h2 => by omega, fun h2 => absurd h2 h⟩
theorem floor_1 (p : Rat) : qcmp ((p.floor : Int) : Rat) p ≤ 0 := by
  have h := Rat.floor_le p
  have : ¬ 0 < qcmp ((p.floor : Int) : Rat) p := by rw [qcmp_pos_iff]; grind
  omega
theorem floor_2 (p : Rat) : qcmp p (((p.floor : Int) : Rat) + 1) < 0 := by
  rw [qcmp_neg_iff]
  have h := Rat.lt_floor_add_one p
  rw [Rat.intCast_add] at h
  exact h
theorem ceil_1 (p : Rat) : 0 ≤ qcmp ((p.ceil : Int) : Rat) p := by
  have h := Rat.le_ceil (x := p)
  have : ¬ qcmp ((p.ceil : Int) : Rat) p < 0 := by rw [qcmp_neg_iff]; grind
  omega
theorem ceil_2 (p : Rat) : qcmp (((p.ceil : Int) : Rat) - 1) p < 0 := by
  rw [qcmp_neg_iff]
  have h := floor_2 (-p)
  rw [qcmp_neg_iff] at h
  rw [Rat.ceil_eq_neg_floor_neg, Rat.intCast_neg]
  grind
theorem ceil_zl (p : Rat) (k : Nat) (h : ql p ≤ k) : zl p.ceil ≤ k := by
  rw [Rat.ceil_eq_neg_floor_neg, zl_neg, Rat.floor_def]
  have h5 := zl_quo (-p).num ((-p).den : Int)
  have h6 := num_le (-p)
  rw [ql_neg] at h6
  omega
theorem floor_zl (p : Rat) (k : Nat) (h : ql p ≤ k) : zl p.floor ≤ k := by
  rw [Rat.floor_def]
  have h5 := zl_quo p.num (p.den : Int)
  have h6 := num_le p
  omega
theorem ql_int (z : Int) (k : Nat) (h : zl z ≤ k) (hk : 1 ≤ k) : ql (z : Rat) ≤ k := by
  show max (zl z) (dig 1).length ≤ k
  have e2 : (dig 1).length ≤ 1 := dig_length_le (by rw [B64_eq]; omega)
  omega
end Go.Proofs.YtmbnlhedbedcdaaGreat.Q
