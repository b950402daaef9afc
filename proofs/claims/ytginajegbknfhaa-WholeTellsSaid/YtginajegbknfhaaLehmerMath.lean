/- Lehmer's steps: what is known of the rows that the leading bits tell. -/
import Derived.Test.YtginajegbknfhaaGcdS
namespace Go.Proofs.Ytginajegbknfhaa

/-- A, B and their leading bits x0, y0 at 2^h. -/
structure Lead (A B x0 y0 H : Nat) : Prop where
  a1 : x0 * H ≤ A
  a2 : A < x0 * H + H
  b1 : y0 * H ≤ B
  b2 : B < y0 * H + H
  hp : 0 < H
  le : y0 ≤ x0
  lt : x0 < B64
  ab : B ≤ A

/-- The sign of a row. -/
def sg (t : Bool) : Int := if t then 1 else -1
theorem sg_not (t : Bool) : sg (!t) = - sg t := by cases t <;> rfl
theorem sg_sq (t : Bool) : sg t * sg t = 1 := by cases t <;> rfl

/-- What a row makes of A and B. -/
def row (s : Int) (u v : Nat) (A B : Nat) : Int := s * ((u : Int) * (A : Int) - (v : Int) * (B : Int))

/-- What holds at each head of foresee's loop. -/
structure Fore (A B x0 y0 H : Nat) (u0 v0 u1 v1 u2 v2 x y : Nat) (t : Bool) : Prop where
  i1 : x * v2 + y * v1 = x0
  i2 : x * u2 + y * u1 = y0
  ex : row (sg t) u1 v1 x0 y0 = (x : Int)
  ey : row (- sg t) u2 v2 x0 y0 = (y : Int)
  xy : y ≤ x
  uv2 : u2 ≤ v2
  uvs : u1 + u2 ≤ v1 + v2
  v2p : 1 ≤ v2
  u1b : u1 ≤ B64 - 1
  /-- at the start, or some step done -/
  st : (v0 = 0 ∧ u0 = 0 ∧ u1 = 1 ∧ v1 = 0 ∧ u2 = 0 ∧ v2 = 1 ∧ t = true) ∨
    (∃ (F0 F1 : Nat) (q : Int), row (- sg t) u0 v0 A B = (F0 : Int) ∧ row (sg t) u1 v1 A B = (F1 : Int) ∧ row (- sg t) u2 v2 A B = (F0 : Int) - q * (F1 : Int) ∧ F1 < F0 ∧ 1 ≤ v1 ∧ Nat.gcd F0 F1 = Nat.gcd A B ∧
      ((v0 = 0 ∧ F0 = A ∧ F1 = B) ∨ (v0 ≠ 0 ∧ F0 ≤ B)))

section
variable {A B x0 y0 H u0 v0 u1 v1 u2 v2 x y : Nat} {t : Bool}

theorem fore_start (h : Lead A B x0 y0 H) : Fore A B x0 y0 H 0 0 1 0 0 1 x0 y0 true := by
  refine ⟨by omega, by omega, by simp [row, sg], by simp [row, sg], h.le, by omega, by omega, by omega, by rw [B64_eq]; omega, .inl ⟨rfl, rfl, rfl, rfl, rfl, rfl, rfl⟩⟩

/-- How far a row of A and B is from that of the leading bits. -/
theorem row_near (h : Lead A B x0 y0 H) (s : Int) (hs : s = 1 ∨ s = -1) (u v : Nat) (huv : u ≤ v) (hv : 1 ≤ v) :
    row s u v x0 y0 * (H : Int) - (v : Int) * (H : Int) < row s u v A B ∧ row s u v A B < row s u v x0 y0 * (H : Int) + (v : Int) * (H : Int) := by
  obtain ⟨α, hα⟩ : ∃ α, A = x0 * H + α := ⟨A - x0 * H, by have := h.a1; omega⟩
  obtain ⟨β, hβ⟩ : ∃ β, B = y0 * H + β := ⟨B - y0 * H, by have := h.b1; omega⟩
  have h1 : α < H := by have := h.a2; omega
  have h2 : β < H := by have := h.b2; omega
  have e1 : v * β < v * H := Nat.mul_lt_mul_of_pos_left h2 (by omega)
  have e2 : u * α < v * H := Nat.lt_of_le_of_lt (Nat.mul_le_mul_right α huv) (Nat.mul_lt_mul_of_pos_left h1 (by omega))
  have e : row s u v A B = row s u v x0 y0 * (H : Int) + s * ((u : Int) * (α : Int) - (v : Int) * (β : Int)) := by
    unfold row
    rw [hα, hβ]
    push_cast
    rw [Int.mul_assoc, ← Int.mul_add]
    congr 1
    rw [Int.sub_mul, Int.mul_add, Int.mul_add, Int.mul_assoc, Int.mul_assoc]
    omega
  have e1' : (v : Int) * (β : Int) < (v : Int) * (H : Int) := by exact_mod_cast e1
  have e2' : (u : Int) * (α : Int) < (v : Int) * (H : Int) := by exact_mod_cast e2
  have p1 : 0 ≤ (v : Int) * (β : Int) := Int.mul_nonneg (by omega) (by omega)
  have p2 : 0 ≤ (u : Int) * (α : Int) := Int.mul_nonneg (by omega) (by omega)
  rw [e]
  rcases hs with rfl | rfl
  · rw [Int.one_mul]; omega
  · rw [Int.neg_mul, Int.one_mul]; omega
theorem row_lin (s : Int) (u v p q k : Nat) (A B : Nat) : row s (u + k * p) (v + k * q) A B = row s u v A B + (k : Int) * row s p q A B := by
  unfold row
  push_cast
  rw [Int.mul_left_comm, ← Int.mul_add]
  congr 1
  rw [Int.add_mul, Int.add_mul, Int.mul_sub, Int.mul_assoc, Int.mul_assoc]
  omega
theorem row_neg (s : Int) (u v : Nat) (A B : Nat) : row (-s) u v A B = - row s u v A B := by unfold row; rw [Int.neg_mul]
theorem row_add (s : Int) (u v p q : Nat) (A B : Nat) : row s (u + p) (v + q) A B = row s u v A B + row s p q A B := by
  have h := row_lin s u v p q 1 A B
  rw [Nat.one_mul, Nat.one_mul] at h
  rw [h]; simp

theorem gcd_lin {a b c : Nat} {q : Int} (h : (c : Int) = (a : Int) - q * (b : Int)) : Nat.gcd b c = Nat.gcd a b := by
  refine Nat.dvd_antisymm (Nat.dvd_gcd ?_ (Nat.gcd_dvd_left _ _)) (Nat.dvd_gcd (Nat.gcd_dvd_right _ _) ?_)
  · have h1 : ((Nat.gcd b c : Nat) : Int) ∣ (b : Int) := Int.ofNat_dvd.2 (Nat.gcd_dvd_left _ _)
    have h2 : ((Nat.gcd b c : Nat) : Int) ∣ (c : Int) := Int.ofNat_dvd.2 (Nat.gcd_dvd_right _ _)
    have h3 : (a : Int) = c + q * b := by omega
    refine Int.ofNat_dvd.1 ?_
    rw [h3]
    exact Int.dvd_add h2 (Int.dvd_mul_of_dvd_right h1)
  · have h1 : ((Nat.gcd a b : Nat) : Int) ∣ (a : Int) := Int.ofNat_dvd.2 (Nat.gcd_dvd_left _ _)
    have h2 : ((Nat.gcd a b : Nat) : Int) ∣ (b : Int) := Int.ofNat_dvd.2 (Nat.gcd_dvd_right _ _)
    refine Int.ofNat_dvd.1 ?_
    rw [h]
    exact Int.dvd_sub h1 (Int.dvd_mul_of_dvd_right h2)

theorem sg_or (t : Bool) : sg t = 1 ∨ sg t = -1 := by cases t; exact .inr rfl; exact .inl rfl
theorem nsg_or (t : Bool) : - sg t = 1 ∨ - sg t = -1 := by cases t; exact .inl rfl; exact .inr rfl

/-- The guard's sum fits. -/
theorem fore_sum (h : Lead A B x0 y0 H) (k : Fore A B x0 y0 H u0 v0 u1 v1 u2 v2 x y t) (g1 : v2 ≤ y) : v1 + v2 < B64 := by
  have h1 := k.i1
  have h2 := k.xy
  have h3 := k.v2p
  have h4 : v2 ≤ x * v2 := Nat.le_mul_of_pos_left v2 (by omega)
  have h5 : v1 ≤ y * v1 := Nat.le_mul_of_pos_left v1 (by omega)
  have h6 := h.lt
  omega

theorem fore_step (h : Lead A B x0 y0 H) (k : Fore A B x0 y0 H u0 v0 u1 v1 u2 v2 x y t) (g1 : v2 ≤ y) (g2 : v1 + v2 ≤ x - y) :
    Fore A B x0 y0 H u1 v1 u2 v2 (u1 + x / y * u2) (v1 + x / y * v2) y (x % y) (!t) ∧ u1 + x / y * u2 < B64 ∧ v1 + x / y * v2 < B64 := by
  have hv2 := k.v2p
  have hxy := k.xy
  have hy : 0 < y := by omega
  have hq : 1 ≤ x / y := (Nat.one_le_div_iff hy).2 hxy
  have hdm := Nat.div_add_mod x y
  have hml := Nat.mod_lt x hy
  obtain ⟨q, hqe⟩ : ∃ q, q = x / y := ⟨_, rfl⟩
  obtain ⟨r, hre⟩ : ∃ r, r = x % y := ⟨_, rfl⟩
  rw [← hqe] at hq hdm ⊢
  rw [← hre] at hdm hml ⊢
  have j1 : y * (v1 + q * v2) + r * v2 = x0 := by
    have := k.i1
    have e1 : x * v2 = y * (q * v2) + r * v2 := by rw [← hdm, Nat.add_mul, Nat.mul_assoc]
    rw [Nat.mul_add]
    omega
  have j2 : y * (u1 + q * u2) + r * u2 = y0 := by
    have := k.i2
    have e1 : x * u2 = y * (q * u2) + r * u2 := by rw [← hdm, Nat.add_mul, Nat.mul_assoc]
    rw [Nat.mul_add]
    omega
  have juv : u1 + q * u2 ≤ v1 + q * v2 := by
    have e1 : q * u2 = (q - 1) * u2 + u2 := by rw [← Nat.succ_mul]; congr 1; omega
    have e2 : q * v2 = (q - 1) * v2 + v2 := by rw [← Nat.succ_mul]; congr 1; omega
    have e3 : (q - 1) * u2 ≤ (q - 1) * v2 := Nat.mul_le_mul_left _ k.uv2
    have := k.uvs
    omega
  have hb1 : v1 + q * v2 ≤ x0 := by
    have e := Nat.le_mul_of_pos_left (v1 + q * v2) hy
    omega
  have hx0 := h.lt
  have hv2x : v2 ≤ x0 := by
    have e := Nat.le_mul_of_pos_left v2 (show 0 < x by omega)
    have := k.i1
    omega
  have ey2 : row (sg t) u2 v2 x0 y0 = - (y : Int) := by
    have := k.ey
    rw [row_neg] at this
    omega
  refine ⟨⟨j1, j2, ?_, ?_, by omega, juv, by have := k.uv2; omega, ?_, by have := k.uv2; omega, .inr ?_⟩, by omega, by omega⟩
  · rw [sg_not]; exact k.ey
  · rw [sg_not, Int.neg_neg, row_lin, k.ex, ey2, Int.mul_neg]
    have : (x : Int) = (y : Int) * (q : Int) + (r : Int) := by exact_mod_cast hdm.symm
    rw [this, Int.mul_comm]
    omega
  · have e := Nat.le_mul_of_pos_left v2 (show 0 < q by omega)
    omega
  · have hH := h.hp
    have hgap : row (sg t) (u1 + u2) (v1 + v2) x0 y0 = (x : Int) - (y : Int) := by rw [row_add, k.ex, ey2]; omega
    rcases k.st with ⟨s1, s2, s3, s4, s5, s6, s7⟩ | ⟨F0, F1, q0, s1, s2, s3, s4, s5, s6, s7⟩
    · subst s3; subst s4; subst s5; subst s6; subst s7
      have hAB : B < A := by
        have e1 := h.a1
        have e2 := h.b2
        have e3 := k.i1
        have e4 := k.i2
        have e5 : (y0 + 1) * H ≤ x0 * H := Nat.mul_le_mul_right _ (by omega)
        rw [Nat.succ_mul] at e5
        omega
      refine ⟨A, B, q, ?_, ?_, ?_, hAB, by omega, rfl, .inl ⟨rfl, rfl, rfl⟩⟩
      · simp [row, sg]
      · simp [row, sg]
      · simp [row, sg]
    · obtain ⟨n1, n2⟩ := row_near h (- sg t) (nsg_or t) u2 v2 k.uv2 hv2
      rw [k.ey] at n1
      have hge : (v2 : Int) * (H : Int) ≤ (y : Int) * (H : Int) := by exact_mod_cast Nat.mul_le_mul_right H g1
      obtain ⟨m1, m2⟩ := row_near h (sg t) (sg_or t) (u1 + u2) (v1 + v2) k.uvs (by omega)
      rw [hgap] at m1
      have hge2 : ((v1 + v2 : Nat) : Int) * (H : Int) ≤ ((x : Int) - (y : Int)) * (H : Int) := by
        have e : ((x : Int) - (y : Int)) = ((x - y : Nat) : Int) := by omega
        rw [e]
        exact_mod_cast Nat.mul_le_mul_right H g2
      rw [row_add] at m1
      have hneg : row (sg t) u2 v2 A B = - row (- sg t) u2 v2 A B := by rw [row_neg, Int.neg_neg]
      obtain ⟨F2, hF2⟩ := Int.eq_ofNat_of_zero_le (show 0 ≤ row (- sg t) u2 v2 A B by omega)
      refine ⟨F1, F2, q, ?_, ?_, ?_, ?_, hv2, ?_, .inr ⟨by omega, ?_⟩⟩
      · rw [sg_not, Int.neg_neg]; exact s2
      · rw [sg_not]; exact hF2
      · rw [sg_not, Int.neg_neg, row_lin, s2, hneg, hF2, Int.mul_neg]; rfl
      · omega
      · rw [← s6]
        exact gcd_lin (q := q0) (by rw [← hF2]; exact s3)
      · rcases s7 with ⟨_, _, e⟩ | ⟨_, e⟩ <;> omega

/-- What foresee hands back. -/
def Foreseen (A B : Nat) (u0 v0 u1 v1 : Nat) (t : Bool) : Prop :=
  u0 < B64 ∧ v0 < B64 ∧ u1 < B64 ∧ v1 < B64 ∧
  (v0 ≠ 0 → ∃ F0 F1 : Nat, row (- sg t) u0 v0 A B = (F0 : Int) ∧ row (sg t) u1 v1 A B = (F1 : Int) ∧ F1 < F0 ∧ F0 ≤ B ∧ Nat.gcd F0 F1 = Nat.gcd A B)

theorem fore_end (k : Fore A B x0 y0 H u0 v0 u1 v1 u2 v2 x y t) (b0 : u0 < B64) (b1 : v0 < B64) (b2 : u1 < B64) (b3 : v1 < B64) : Foreseen A B u0 v0 u1 v1 t := by
  refine ⟨b0, b1, b2, b3, fun h0 => ?_⟩
  rcases k.st with ⟨s1, _⟩ | ⟨F0, F1, q0, s1, s2, s3, s4, s5, s6, s7⟩
  · exact absurd s1 h0
  · rcases s7 with ⟨e, _⟩ | ⟨_, e⟩
    · exact absurd e h0
    · exact ⟨F0, F1, s1, s2, s4, e, s6⟩
end
end Go.Proofs.Ytginajegbknfhaa
