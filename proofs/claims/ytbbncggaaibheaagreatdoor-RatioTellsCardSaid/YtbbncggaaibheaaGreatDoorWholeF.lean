/- whole: DivMod. -/
import Derived.Test.YtbbncggaaibheaaGreatDoorWholeE
namespace Go.Proofs.YtbbncggaaibheaaGreatDoor
open Go.RowKit

/-- Two whole numbers in the one form. -/
def RetZZ (w : World) (q r : Int) (e : Ending) (w' : World) : Prop :=
  ∃ A c B d, e = .returned (.tuple #[.agg #[.bool (zneg q), .slice A (dig q.natAbs).length c], .agg #[.bool (zneg r), .slice B (dig r.natAbs).length d]]) ∧
    (dig q.natAbs).length ≤ c ∧ (dig r.natAbs).length ≤ d ∧ Num w' A (dig q.natAbs) ∧ Num w' B (dig r.natAbs) ∧ Below w.heap.size w w'

/-- The rest, 0 by 0. -/
def zrem (y z : Int) : Int := if z = 0 then 0 else y % z

theorem zdm_uniq {y q r : Int} {b : Nat} (hb : 0 < b) (h : r + (b : Int) * q = y) (h0 : 0 ≤ r) (h1 : r < (b : Int)) : y / (b : Int) = q ∧ y % (b : Int) = r :=
  (Int.ediv_emod_unique (by omega)).2 ⟨h, h0, h1⟩

/-- The sizes' quotient and rest, put right. -/
def dq (s : Bool) (a b : Nat) : Nat := if s = true ∧ 0 < dmr a b then dmq a b + 1 else dmq a b
def dr (s : Bool) (a b : Nat) : Nat := if s = true ∧ 0 < dmr a b then b - dmr a b else dmr a b

theorem zdm_eq (s t : Bool) (a b : Nat) : zv (s != t) (dq s a b) = zv s a / zv t b ∧ zv false (dr s a b) = zrem (zv s a) (zv t b) := by
  rcases Nat.eq_zero_or_pos b with hb | hb
  · subst hb
    have e1 : dmr a 0 = 0 := by unfold dmr; rw [if_pos rfl]
    have e2 : dmq a 0 = 0 := Nat.div_zero a
    unfold dq dr zrem
    rw [e1, e2, if_neg (by omega), if_neg (by omega), zv_zero, zv_zero, zv_zero, Int.ediv_zero, if_pos rfl]
    exact ⟨rfl, rfl⟩
  · have e1 : dmr a b = a % b := by unfold dmr; rw [if_neg (by omega)]
    have e2 : dmq a b = a / b := rfl
    have hml := Nat.mod_lt a hb
    have hdm := Nat.div_add_mod a b
    obtain ⟨q, hq⟩ : ∃ q, q = a / b := ⟨_, rfl⟩
    obtain ⟨r, hr⟩ : ∃ r, r = a % b := ⟨_, rfl⟩
    rw [← hq, ← hr] at hdm
    rw [← hr] at hml e1
    rw [← hq] at e2
    have hzt : zv t b ≠ 0 := by cases t <;> simp [zv] <;> omega
    -- the positive divisor
    have key : zv s (dq s a b) = zv s a / (b : Int) ∧ zv false (dr s a b) = zv s a % (b : Int) := by
      have hdi : (b : Int) * (q : Int) + (r : Int) = (a : Int) := by exact_mod_cast hdm
      cases s with
      | false =>
        have h := zdm_uniq (y := (a : Int)) (q := (q : Int)) (r := (r : Int)) hb (by omega) (by omega) (by omega)
        unfold dq dr
        rw [if_neg (by simp), if_neg (by simp), e1, e2]
        simp only [zv, Bool.false_eq_true, if_false]
        exact ⟨h.1.symm, h.2.symm⟩
      | true =>
        by_cases h0 : 0 < r
        · have h := zdm_uniq (y := -(a : Int)) (q := -((q : Int) + 1)) (r := (b : Int) - (r : Int)) hb (by rw [Int.mul_neg, Int.mul_add, Int.mul_one]; omega) (by omega) (by omega)
          unfold dq dr
          rw [e1, e2, if_pos ⟨rfl, h0⟩, if_pos ⟨rfl, h0⟩]
          simp only [zv, Bool.false_eq_true, if_false, if_true]
          rw [h.1, h.2]
          constructor <;> omega
        · have h := zdm_uniq (y := -(a : Int)) (q := -(q : Int)) (r := (r : Int)) hb (by rw [Int.mul_neg]; omega) (by omega) (by omega)
          unfold dq dr
          rw [e1, e2, if_neg (by omega), if_neg (by omega)]
          simp only [zv, Bool.false_eq_true, if_false, if_true]
          exact ⟨h.1.symm, h.2.symm⟩
    unfold zrem
    rw [if_neg hzt]
    cases t with
    | false =>
      rw [Bool.bne_false]
      have e : zv false b = (b : Int) := by simp [zv]
      rw [e]
      exact key
    | true =>
      have e : zv true b = -(b : Int) := by simp [zv]
      rw [e, Int.ediv_neg, Int.emod_neg, ← key.1]
      refine ⟨?_, key.2⟩
      cases s <;> simp [zv]

theorem dq_len (s : Bool) (a b : Nat) : (dig (dq s a b)).length ≤ (dig a).length + 2 := by
  have h : dq s a b ≤ a + 1 := by unfold dq; have := Nat.div_le_self a b; have e : dmq a b = a / b := rfl; split <;> omega
  have h2 := dl_add a 1
  have h3 : (dig 1).length ≤ 1 := dig_length_le (by rw [B64_eq]; omega)
  have h4 := dl_le h
  omega
theorem dr_len (s : Bool) (a b : Nat) : (dig (dr s a b)).length ≤ max (dig a).length (dig b).length := by
  have h : dr s a b ≤ max a b := by
    unfold dr dmr
    have := Nat.mod_le a b
    split <;> split <;> omega
  have h4 := dl_le h
  rcases Nat.le_total a b with h2 | h2
  · rw [Nat.max_eq_right h2] at h4; omega
  · rw [Nat.max_eq_left h2] at h4; omega

/-- What stands ahead of DivMod's last statement. -/
structure DivAt (w : World) (s t : Bool) (A B : Option Addr) (n m c d : Nat) (A1 A2 : Option Addr) (q r : Nat) (W : World) : Prop where
  c4 : C4 w.heap.size (.bool s) (.slice A n c) (.bool t) (.slice B m d) W
  g1 : Ibx W (w.heap.size + 1 + 1) false none 0 0
  g2 : Ibx W (w.heap.size + 1 + 1 + 1) false none 0 0
  q : Num W A1 (dig q)
  r : Num W A2 (dig r)
  bel : Below w.heap.size w W

theorem retzz_of {w w8 : World} {sq : Bool} {q r c1 c2 : Nat} {y z : Int} {A1 A2 : Option Addr} (hy : zv sq q = y) (hz : zv false r = z) (hc1 : (dig q).length ≤ c1) (hc2 : (dig r).length ≤ c2) (h1 : Num w8 A1 (dig q)) (h2 : Num w8 A2 (dig r)) {g1 g2 : Nat} {s1 s2 : Bool} {B1 B2 : Option Addr} {n1 n2 d1 d2 : Nat}
    (hg1 : Ibx w8 g1 s1 B1 n1 d1) (hg2 : Ibx w8 g2 s2 B2 n2 d2) (hne : g1 ≠ g2) (hw1 : w.heap.size ≤ g1) (hw2 : w.heap.size ≤ g2) (hb : Below w.heap.size w w8) (v0 v1 v2 v3 : Value) :
    RetZZ w y z (.returned (.tuple #[.agg #[.bool (zneg (zv sq q)), .slice A1 (dig q).length c1], .agg #[.bool (zneg (zv false r)), .slice A2 (dig r).length c2]])) ((((w8.setCell ⟨g1, 0, none⟩ v0).setCell ⟨g1, 1, none⟩ v1).setCell ⟨g2, 0, none⟩ v2).setCell ⟨g2, 1, none⟩ v3) := by
  subst hy; subst hz
  have hg2' : Ibx ((w8.setCell ⟨g1, 0, none⟩ v0).setCell ⟨g1, 1, none⟩ v1) g2 s2 B2 n2 d2 := (hg2.far (fun e => hne e.symm) v0).far (fun e => hne e.symm) v1
  refine ⟨A1, c1, A2, c2, by rw [zv_natAbs, zv_natAbs], by rw [zv_natAbs]; exact hc1, by rw [zv_natAbs]; exact hc2, by rw [zv_natAbs]; exact (h1.two hg1 v0 v1).two hg2' v2 v3, by rw [zv_natAbs]; exact (h2.two hg1 v0 v1).two hg2' v2 v3, ?_⟩
  exact (((hb.setCell hw1 _).setCell hw1 _).setCell hw2 _).setCell hw2 _
end Go.Proofs.YtbbncggaaibheaaGreatDoor
