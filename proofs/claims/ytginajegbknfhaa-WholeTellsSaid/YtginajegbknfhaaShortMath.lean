/- shorten, plain: the equations that the two mixes keep; a pair of numbers in memory. -/
import Derived.Test.YtginajegbknfhaaLeap3
import Derived.Test.YtginajegbknfhaaForesee
namespace Go.Proofs.Ytginajegbknfhaa
open Go.RowKit

theorem row_pos {u v A B F : Nat} (h : row 1 u v A B = (F : Int)) : B * v + F = A * u := by
  unfold row at h
  rw [Int.one_mul] at h
  have e : ((B * v + F : Nat) : Int) = ((A * u : Nat) : Int) := by
    push_cast
    rw [Int.mul_comm (A : Int), Int.mul_comm (B : Int)]
    omega
  exact_mod_cast e
theorem row_neg1 {u v A B F : Nat} (h : row (-1) u v A B = (F : Int)) : A * u + F = B * v := by
  unfold row at h
  rw [Int.neg_mul, Int.one_mul] at h
  have e : ((A * u + F : Nat) : Int) = ((B * v : Nat) : Int) := by
    push_cast
    rw [Int.mul_comm (A : Int), Int.mul_comm (B : Int)]
    omega
  exact_mod_cast e

theorem low_pos {A B u v F l h P : Nat} (hA : A = l + P * h) (e : B * v + F = A * u) : B * v + F + P * 0 = l * u + P * (h * u) := by
  rw [e, hA, Nat.add_mul, Nat.mul_assoc, Nat.mul_zero, Nat.add_zero]
theorem low_neg {A B u v F l h P : Nat} (hA : A = l + P * h) (e : A * u + F = B * v) : l * u + F + P * (h * u) = B * v + P * 0 := by
  rw [← e, hA, Nat.add_mul, Nat.mul_assoc, Nat.mul_zero, Nat.add_zero]
  omega

/-- A pair of numbers, G not above F; if G has two digits, each in a block of its own. -/
structure Pair (B : Nat) (w wr : World) (g F G : Nat) (av bv : Value) : Prop where
  ex : ∃ (PA PB : Option Addr) (ca cb : Nat), av = .slice PA (dig F).length ca ∧ bv = .slice PB (dig G).length cb ∧ (dig F).length ≤ ca ∧ (dig G).length ≤ cb ∧
    Num wr PA (dig F) ∧ Num wr PB (dig G) ∧
    (1 < (dig G).length → ∃ ga gb Xa Xb, PA = some ⟨ga, 0, none⟩ ∧ PB = some ⟨gb, 0, none⟩ ∧ ga ≠ gb ∧ B ≤ ga ∧ B ≤ gb ∧ Blk wr ga Xa ∧ Blk wr gb Xb ∧ Digs Xa ∧ Digs Xb ∧
      (dig F).length ≤ Xa.length ∧ (dig G).length ≤ Xb.length ∧ Xa.take (dig F).length = dig F ∧ Xb.take (dig G).length = dig G)
  le : G ≤ F
  len : (dig F).length ≤ 4294967296
  gcd : Nat.gcd F G = g
  bel : Below B w wr

theorem num_low {w : World} {g : Nat} {X : List Nat} {F : Nat} {P : Option Addr} (hb : Blk w g X) (hd : Digs X) (ht : X.take (dig F).length = dig F) (hP : 0 < (dig F).length → P = some ⟨g, 0, none⟩) : Num w P (dig F) := by
  rcases Nat.eq_zero_or_pos (dig F).length with h0 | h0
  · rw [List.length_eq_zero_iff.1 h0]; exact Num.nil _ _
  · have h := (hb.num hd).take (dig F).length
    rw [ht] at h
    rw [hP h0]
    exact h

theorem leap_pair {B : Nat} {w wx w' : World} {g ga gb ca cb F G : Nat} {La Lb : List Nat} {e : Ending} (h : LeapPost B wx ga gb ca cb F G La Lb e w') (hw : Below B w wx) (hne : ga ≠ gb) (hBa : B ≤ ga) (hBb : B ≤ gb)
    (hle : G ≤ F) (hlen : (dig F).length ≤ 4294967296) (hg : Nat.gcd F G = g) : ∃ av bv, e = .returned (.tuple #[av, bv]) ∧ Pair B w w' g F G av bv := by
  obtain ⟨⟨A1, c1, A2, c2, rfl, k1, k2, k3, k4⟩, ⟨⟨Xa, Xb, m1, m2, d1, d2, l1, l2, n1, n2, t1, t2⟩, hb⟩⟩ := h
  refine ⟨_, _, rfl, ⟨⟨A1, A2, c1, c2, rfl, rfl, k1, k2, num_low m1 d1 t1 (fun hp => (k3 hp).1), num_low m2 d2 t2 (fun hp => (k4 hp).1), fun h1 => ?_⟩, hle, hlen, hg, hw.trans hb⟩⟩
  have h0 : 1 < (dig F).length := Nat.lt_of_lt_of_le h1 (dig_length_mono hle)
  exact ⟨ga, gb, Xa, Xb, (k3 (by omega)).1, (k4 (by omega)).1, hne, hBa, hBb, m1, m2, d1, d2, by omega, by omega, t1, t2⟩

theorem blk_split {X : List Nat} {F n : Nat} (ht : X.take (dig F).length = dig F) (hn : n ≤ (dig F).length) : F = val (X.take n) + B64 ^ n * val ((dig F).drop n) := by
  have h := val_take_add (dig F) n
  rw [val_dig, Nat.min_eq_left hn] at h
  have e : X.take n = (dig F).take n := by rw [← ht, List.take_take, Nat.min_eq_left hn]
  rw [e]
  exact h

theorem top_shift {F : Nat} (h2 : 2 ≤ (dig F).length) : ∃ s, s + blen (dg (dig F) ((dig F).length - 1)) = 64 ∧ s ≤ 63 ∧ dg (dig F) ((dig F).length - 1) * 2 ^ s < B64 ∧ dg (dig F) ((dig F).length - 1) ≠ 0 := by
  have htop : dg (dig F) ((dig F).length - 1) ≠ 0 := by
    intro h
    have h1 := dig_top F
    rw [List.getLast?_eq_getElem?, List.getElem?_eq_getElem (by omega)] at h1
    rw [dg_of_lt (by omega)] at h
    exact h1 (by rw [h])
  have hb := blen_lt (dg (dig F) ((dig F).length - 1))
  have hb1 : 1 ≤ blen (dg (dig F) ((dig F).length - 1)) := by
    rcases Nat.eq_zero_or_pos (blen (dg (dig F) ((dig F).length - 1))) with h | h
    · rw [h] at hb; omega
    · exact h
  have hbl64 := blen_digit (dg_lt (dig_digs F) ((dig F).length - 1))
  refine ⟨64 - blen (dg (dig F) ((dig F).length - 1)), by omega, by omega, ?_, htop⟩
  have e : B64 = 2 ^ blen (dg (dig F) ((dig F).length - 1)) * 2 ^ (64 - blen (dg (dig F) ((dig F).length - 1))) := by
    rw [← Nat.pow_add, B64_pow]; congr 1; omega
  rw [e]
  exact Nat.mul_lt_mul_of_pos_right hb (Nat.pow_pos (by omega))
end Go.Proofs.Ytginajegbknfhaa
