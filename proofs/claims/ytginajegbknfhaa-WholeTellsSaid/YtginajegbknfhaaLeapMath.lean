/- leap, plain: one of the two mixes, digit by digit. -/
import Derived.Test.YtginajegbknfhaaLehmerMath
namespace Go.Proofs.Ytginajegbknfhaa
open Go.RowKit

/-- Behind k digits: zs are the mix's low digits, o what is carried of A * t, u of B * l, b what is borrowed. -/
structure Blend (A B : List Nat) (t l k : Nat) (zs : List Nat) (o u b : Nat) : Prop where
  len : zs.length = k
  digs : Digs zs
  ho : o < B64
  hu : u < B64
  hb : b ≤ 1
  eq : val zs + val (B.take k) * l + B64 ^ k * o = val (A.take k) * t + B64 ^ k * (u + b)

theorem Blend.start (A B : List Nat) (t l : Nat) : Blend A B t l 0 [] 0 0 0 := ⟨rfl, Digs.nil, B64_pos, B64_pos, Nat.zero_le _, by simp [val_nil]⟩

theorem blend_round {v a c t l p o u b x y m o' s u' d b' : Nat} (h : v + c * l + p * o = a * t + p * (u + b)) (h1 : m + B64 * o' = x * t + o) (h2 : s + B64 * u' = y * l + u) (h3 : d + s + b = m + B64 * b') :
    v + p * d + (c + p * y) * l + p * B64 * o' = (a + p * x) * t + p * B64 * (u' + b') := by
  have e1 : p * m + p * (B64 * o') = p * (x * t) + p * o := by rw [← Nat.mul_add, h1, Nat.mul_add]
  have e2 : p * s + p * (B64 * u') = p * (y * l) + p * u := by rw [← Nat.mul_add, h2, Nat.mul_add]
  have e3 : p * d + p * s + p * b = p * m + p * (B64 * b') := by rw [← Nat.mul_add, ← Nat.mul_add, h3, Nat.mul_add]
  rw [Nat.add_mul, Nat.add_mul, Nat.mul_assoc p y l, Nat.mul_assoc p x t, Nat.mul_assoc p B64, Nat.mul_assoc p B64, Nat.mul_add B64, Nat.mul_add p (B64 * u')]
  rw [Nat.mul_add] at h
  omega

theorem blend_step {A B : List Nat} {t l k : Nat} {zs : List Nat} {o u b : Nat} (h : Blend A B t l k zs o u b) (hA : Digs A) (hB : Digs B) (ht : t < B64) (hl : l < B64) :
    Blend A B t l (k + 1) (zs ++ [slo (lo (dg A k * t + o)) (lo (dg B k * l + u)) b]) (hi (dg A k * t + o)) (hi (dg B k * l + u)) (sbo (lo (dg A k * t + o)) (lo (dg B k * l + u)) b) := by
  refine ⟨by simp [h.len], h.digs.snoc (slo_lt _ _ _), hi_prod_lt (dg_lt hA k) ht h.ho, hi_prod_lt (dg_lt hB k) hl h.hu, sbo_le _ _ _, ?_⟩
  rw [val_take_dg, val_take_dg, val_snoc, Nat.pow_succ, h.len]
  exact blend_round h.eq (lo_hi _) (lo_hi _) (slo_sbo (lo_lt _) (lo_lt _) h.hb)

theorem blend_end {A B : List Nat} {t l n F x y : Nat} {zs : List Nat} {o u b : Nat} (h : Blend A B t l n zs o u b) (hF : val (B.take n) * l + F + B64 ^ n * x = val (A.take n) * t + B64 ^ n * y) (hlt : F < B64 ^ n) : val zs = F := by
  have hz : val zs < B64 ^ n := by have := val_lt h.digs; rwa [h.len] at this
  have e : val zs + B64 ^ n * (o + y) = F + B64 ^ n * (x + (u + b)) := by
    have := h.eq
    rw [Nat.mul_add, Nat.mul_add (B64 ^ n) x]
    omega
  have e2 := congrArg (· % B64 ^ n) e
  simp only [Nat.add_mul_mod_self_left, Nat.mod_eq_of_lt hz, Nat.mod_eq_of_lt hlt] at e2
  exact e2
end Go.Proofs.Ytginajegbknfhaa
