/- GAll: several texts in one. -/
import Derived.Test.YtmbnlhedbedcdaaGreatDoorGcdS
import Derived.BigRegion
import Derived.StillTailTactics
import Derived.Deep.RegionHeld3
import Derived.Deep.DeepCutAuto
import Derived.Deep.CutBlock
import Derived.Deep.LoopGhost
import Derived.Test.YtmbnlhedbedcdaaGreatDoorDivAll
import Derived.Deep.QuietTactic
import Derived.BigQuiet
/- Lehmer's steps: what is known of the rows that the leading bits tell. -/
namespace Go.Proofs.YtmbnlhedbedcdaaGreatDoor

/-- A, B and their leading bits x0, y0 at 2^h. -/
structure Lead (A B x0 y0 H : Nat) : Prop where
  a1 : x0 * H ≤ A
  a2 : A < x0 * H + H
  b1 : y0 * H ≤ B
  b2 : B < y0 * H + H
  hp : 0 < H
  le : y0 ≤ x0
  lt : x0 < B64
  ab : B ≤ A

/-- The sign of a row. -/
def sg (t : Bool) : Int := if t then 1 else -1
theorem sg_not (t : Bool) : sg (!t) = - sg t := by cases t <;> rfl
theorem sg_sq (t : Bool) : sg t * sg t = 1 := by cases t <;> rfl

/-- What a row makes of A and B. -/
def row (s : Int) (u v : Nat) (A B : Nat) : Int := s * ((u : Int) * (A : Int) - (v : Int) * (B : Int))

/-- What holds at each head of foresee's loop. -/
structure Fore (A B x0 y0 H : Nat) (u0 v0 u1 v1 u2 v2 x y : Nat) (t : Bool) : Prop where
  i1 : x * v2 + y * v1 = x0
  i2 : x * u2 + y * u1 = y0
  ex : row (sg t) u1 v1 x0 y0 = (x : Int)
  ey : row (- sg t) u2 v2 x0 y0 = (y : Int)
  xy : y ≤ x
  uv2 : u2 ≤ v2
  uvs : u1 + u2 ≤ v1 + v2
  v2p : 1 ≤ v2
  u1b : u1 ≤ B64 - 1
  /-- at the start, or some step done -/
  st : (v0 = 0 ∧ u0 = 0 ∧ u1 = 1 ∧ v1 = 0 ∧ u2 = 0 ∧ v2 = 1 ∧ t = true) ∨
    (∃ (F0 F1 : Nat) (q : Int), row (- sg t) u0 v0 A B = (F0 : Int) ∧ row (sg t) u1 v1 A B = (F1 : Int) ∧ row (- sg t) u2 v2 A B = (F0 : Int) - q * (F1 : Int) ∧ F1 < F0 ∧ 1 ≤ v1 ∧ Nat.gcd F0 F1 = Nat.gcd A B ∧
      ((v0 = 0 ∧ F0 = A ∧ F1 = B) ∨ (v0 ≠ 0 ∧ F0 ≤ B)))

section
variable {A B x0 y0 H u0 v0 u1 v1 u2 v2 x y : Nat} {t : Bool}

theorem fore_start (h : Lead A B x0 y0 H) : Fore A B x0 y0 H 0 0 1 0 0 1 x0 y0 true := by
  refine ⟨by omega, by omega, by simp [row, sg], by simp [row, sg], h.le, by omega, by omega, by omega, by rw [B64_eq]; omega, .inl ⟨rfl, rfl, rfl, rfl, rfl, rfl, rfl⟩⟩

/-- How far a row of A and B is from that of the leading bits. -/
theorem row_near (h : Lead A B x0 y0 H) (s : Int) (hs : s = 1 ∨ s = -1) (u v : Nat) (huv : u ≤ v) (hv : 1 ≤ v) :
    row s u v x0 y0 * (H : Int) - (v : Int) * (H : Int) < row s u v A B ∧ row s u v A B < row s u v x0 y0 * (H : Int) + (v : Int) * (H : Int) := by
  obtain ⟨α, hα⟩ : ∃ α, A = x0 * H + α := ⟨A - x0 * H, by have := h.a1; omega⟩
  obtain ⟨β, hβ⟩ : ∃ β, B = y0 * H + β := ⟨B - y0 * H, by have := h.b1; omega⟩
  have h1 : α < H := by have := h.a2; omega
  have h2 : β < H := by have := h.b2; omega
  have e1 : v * β < v * H := Nat.mul_lt_mul_of_pos_left h2 (by omega)
  have e2 : u * α < v * H := Nat.lt_of_le_of_lt (Nat.mul_le_mul_right α huv) (Nat.mul_lt_mul_of_pos_left h1 (by omega))
  have e : row s u v A B = row s u v x0 y0 * (H : Int) + s * ((u : Int) * (α : Int) - (v : Int) * (β : Int)) := by
    unfold row
    rw [hα, hβ]
    push_cast
    rw [Int.mul_assoc, ← Int.mul_add]
    congr 1
    rw [Int.sub_mul, Int.mul_add, Int.mul_add, Int.mul_assoc, Int.mul_assoc]
    omega
  have e1' : (v : Int) * (β : Int) < (v : Int) * (H : Int) := by exact_mod_cast e1
  have e2' : (u : Int) * (α : Int) < (v : Int) * (H : Int) := by exact_mod_cast e2
  have p1 : 0 ≤ (v : Int) * (β : Int) := Int.mul_nonneg (by omega) (by omega)
  have p2 : 0 ≤ (u : Int) * (α : Int) := Int.mul_nonneg (by omega) (by omega)
  rw [e]
  rcases hs with rfl | rfl
  · rw [Int.one_mul]; omega
  · rw [Int.neg_mul, Int.one_mul]; omega
theorem row_lin (s : Int) (u v p q k : Nat) (A B : Nat) : row s (u + k * p) (v + k * q) A B = row s u v A B + (k : Int) * row s p q A B := by
  unfold row
  push_cast
  rw [Int.mul_left_comm, ← Int.mul_add]
  congr 1
  rw [Int.add_mul, Int.add_mul, Int.mul_sub, Int.mul_assoc, Int.mul_assoc]
  omega
theorem row_neg (s : Int) (u v : Nat) (A B : Nat) : row (-s) u v A B = - row s u v A B := by unfold row; rw [Int.neg_mul]
theorem row_add (s : Int) (u v p q : Nat) (A B : Nat) : row s (u + p) (v + q) A B = row s u v A B + row s p q A B := by
  have h := row_lin s u v p q 1 A B
  rw [Nat.one_mul, Nat.one_mul] at h
  rw [h]; simp

theorem gcd_lin {a b c : Nat} {q : Int} (h : (c : Int) = (a : Int) - q * (b : Int)) : Nat.gcd b c = Nat.gcd a b := by
  refine Nat.dvd_antisymm (Nat.dvd_gcd ?_ (Nat.gcd_dvd_left _ _)) (Nat.dvd_gcd (Nat.gcd_dvd_right _ _) ?_)
  · have h1 : ((Nat.gcd b c : Nat) : Int) ∣ (b : Int) := Int.ofNat_dvd.2 (Nat.gcd_dvd_left _ _)
    have h2 : ((Nat.gcd b c : Nat) : Int) ∣ (c : Int) := Int.ofNat_dvd.2 (Nat.gcd_dvd_right _ _)
    have h3 : (a : Int) = c + q * b := by omega
    refine Int.ofNat_dvd.1 ?_
    rw [h3]
    exact Int.dvd_add h2 (Int.dvd_mul_of_dvd_right h1)
  · have h1 : ((Nat.gcd a b : Nat) : Int) ∣ (a : Int) := Int.ofNat_dvd.2 (Nat.gcd_dvd_left _ _)
    have h2 : ((Nat.gcd a b : Nat) : Int) ∣ (b : Int) := Int.ofNat_dvd.2 (Nat.gcd_dvd_right _ _)
    refine Int.ofNat_dvd.1 ?_
    rw [h]
    exact Int.dvd_sub h1 (Int.dvd_mul_of_dvd_right h2)

theorem sg_or (t : Bool) : sg t = 1 ∨ sg t = -1 := by cases t; exact .inr rfl; exact .inl rfl
theorem nsg_or (t : Bool) : - sg t = 1 ∨ - sg t = -1 := by cases t; exact .inl rfl; exact .inr rfl

/-- The guard's sum fits. -/
theorem fore_sum (h : Lead A B x0 y0 H) (k : Fore A B x0 y0 H u0 v0 u1 v1 u2 v2 x y t) (g1 : v2 ≤ y) : v1 + v2 < B64 := by
  have h1 := k.i1
  have h2 := k.xy
  have h3 := k.v2p
  have h4 : v2 ≤ x * v2 := Nat.le_mul_of_pos_left v2 (by omega)
  have h5 : v1 ≤ y * v1 := Nat.le_mul_of_pos_left v1 (by omega)
  have h6 := h.lt
  omega

theorem fore_step (h : Lead A B x0 y0 H) (k : Fore A B x0 y0 H u0 v0 u1 v1 u2 v2 x y t) (g1 : v2 ≤ y) (g2 : v1 + v2 ≤ x - y) :
    Fore A B x0 y0 H u1 v1 u2 v2 (u1 + x / y * u2) (v1 + x / y * v2) y (x % y) (!t) ∧ u1 + x / y * u2 < B64 ∧ v1 + x / y * v2 < B64 := by
  have hv2 := k.v2p
  have hxy := k.xy
  have hy : 0 < y := by omega
  have hq : 1 ≤ x / y := (Nat.one_le_div_iff hy).2 hxy
  have hdm := Nat.div_add_mod x y
  have hml := Nat.mod_lt x hy
  obtain ⟨q, hqe⟩ : ∃ q, q = x / y := ⟨_, rfl⟩
  obtain ⟨r, hre⟩ : ∃ r, r = x % y := ⟨_, rfl⟩
  rw [← hqe] at hq hdm ⊢
  rw [← hre] at hdm hml ⊢
  have j1 : y * (v1 + q * v2) + r * v2 = x0 := by
    have := k.i1
    have e1 : x * v2 = y * (q * v2) + r * v2 := by rw [← hdm, Nat.add_mul, Nat.mul_assoc]
    rw [Nat.mul_add]
    omega
  have j2 : y * (u1 + q * u2) + r * u2 = y0 := by
    have := k.i2
    have e1 : x * u2 = y * (q * u2) + r * u2 := by rw [← hdm, Nat.add_mul, Nat.mul_assoc]
    rw [Nat.mul_add]
    omega
  have juv : u1 + q * u2 ≤ v1 + q * v2 := by
    have e1 : q * u2 = (q - 1) * u2 + u2 := by rw [← Nat.succ_mul]; congr 1; omega
    have e2 : q * v2 = (q - 1) * v2 + v2 := by rw [← Nat.succ_mul]; congr 1; omega
    have e3 : (q - 1) * u2 ≤ (q - 1) * v2 := Nat.mul_le_mul_left _ k.uv2
    have := k.uvs
    omega
  have hb1 : v1 + q * v2 ≤ x0 := by
    have e := Nat.le_mul_of_pos_left (v1 + q * v2) hy
    omega
  have hx0 := h.lt
  have hv2x : v2 ≤ x0 := by
    have e := Nat.le_mul_of_pos_left v2 (show 0 < x by omega)
    have := k.i1
    omega
  have ey2 : row (sg t) u2 v2 x0 y0 = - (y : Int) := by
    have := k.ey
    rw [row_neg] at this
    omega
  refine ⟨⟨j1, j2, ?_, ?_, by omega, juv, by have := k.uv2; omega, ?_, by have := k.uv2; omega, .inr ?_⟩, by omega, by omega⟩
  · rw [sg_not]; exact k.ey
  · rw [sg_not, Int.neg_neg, row_lin, k.ex, ey2, Int.mul_neg]
    have : (x : Int) = (y : Int) * (q : Int) + (r : Int) := by exact_mod_cast hdm.symm
    rw [this, Int.mul_comm]
    omega
  · have e := Nat.le_mul_of_pos_left v2 (show 0 < q by omega)
    omega
  · have hH := h.hp
    have hgap : row (sg t) (u1 + u2) (v1 + v2) x0 y0 = (x : Int) - (y : Int) := by rw [row_add, k.ex, ey2]; omega
    rcases k.st with ⟨s1, s2, s3, s4, s5, s6, s7⟩ | ⟨F0, F1, q0, s1, s2, s3, s4, s5, s6, s7⟩
    · subst s3; subst s4; subst s5; subst s6; subst s7
      have hAB : B < A := by
        have e1 := h.a1
        have e2 := h.b2
        have e3 := k.i1
        have e4 := k.i2
        have e5 : (y0 + 1) * H ≤ x0 * H := Nat.mul_le_mul_right _ (by omega)
        rw [Nat.succ_mul] at e5
        omega
      refine ⟨A, B, q, ?_, ?_, ?_, hAB, by omega, rfl, .inl ⟨rfl, rfl, rfl⟩⟩
      · simp [row, sg]
      · simp [row, sg]
      · simp [row, sg]
    · obtain ⟨n1, n2⟩ := row_near h (- sg t) (nsg_or t) u2 v2 k.uv2 hv2
      rw [k.ey] at n1
      have hge : (v2 : Int) * (H : Int) ≤ (y : Int) * (H : Int) := by exact_mod_cast Nat.mul_le_mul_right H g1
      obtain ⟨m1, m2⟩ := row_near h (sg t) (sg_or t) (u1 + u2) (v1 + v2) k.uvs (by omega)
      rw [hgap] at m1
      have hge2 : ((v1 + v2 : Nat) : Int) * (H : Int) ≤ ((x : Int) - (y : Int)) * (H : Int) := by
        have e : ((x : Int) - (y : Int)) = ((x - y : Nat) : Int) := by omega
        rw [e]
        exact_mod_cast Nat.mul_le_mul_right H g2
      rw [row_add] at m1
      have hneg : row (sg t) u2 v2 A B = - row (- sg t) u2 v2 A B := by rw [row_neg, Int.neg_neg]
      obtain ⟨F2, hF2⟩ := Int.eq_ofNat_of_zero_le (show 0 ≤ row (- sg t) u2 v2 A B by omega)
      refine ⟨F1, F2, q, ?_, ?_, ?_, ?_, hv2, ?_, .inr ⟨by omega, ?_⟩⟩
      · rw [sg_not, Int.neg_neg]; exact s2
      · rw [sg_not]; exact hF2
      · rw [sg_not, Int.neg_neg, row_lin, s2, hneg, hF2, Int.mul_neg]; rfl
      · omega
      · rw [← s6]
        exact gcd_lin (q := q0) (by rw [← hF2]; exact s3)
      · rcases s7 with ⟨_, _, e⟩ | ⟨_, e⟩ <;> omega

/-- What foresee hands back. -/
def Foreseen (A B : Nat) (u0 v0 u1 v1 : Nat) (t : Bool) : Prop :=
  u0 < B64 ∧ v0 < B64 ∧ u1 < B64 ∧ v1 < B64 ∧
  (v0 ≠ 0 → ∃ F0 F1 : Nat, row (- sg t) u0 v0 A B = (F0 : Int) ∧ row (sg t) u1 v1 A B = (F1 : Int) ∧ F1 < F0 ∧ F0 ≤ B ∧ Nat.gcd F0 F1 = Nat.gcd A B)

theorem fore_end (k : Fore A B x0 y0 H u0 v0 u1 v1 u2 v2 x y t) (b0 : u0 < B64) (b1 : v0 < B64) (b2 : u1 < B64) (b3 : v1 < B64) : Foreseen A B u0 v0 u1 v1 t := by
  refine ⟨b0, b1, b2, b3, fun h0 => ?_⟩
  rcases k.st with ⟨s1, _⟩ | ⟨F0, F1, q0, s1, s2, s3, s4, s5, s6, s7⟩
  · exact absurd s1 h0
  · rcases s7 with ⟨e, _⟩ | ⟨_, e⟩
    · exact absurd e h0
    · exact ⟨F0, F1, s1, s2, s4, e, s6⟩
end
end Go.Proofs.YtmbnlhedbedcdaaGreatDoor

/- leap: two mixes, digit by digit. -/
namespace Go.Proofs.YtmbnlhedbedcdaaGreatDoor
open Go.RowKit

/-- Block g is a blend. -/
def Bl (w : World) (g t l o u b : Nat) : Prop := w.heap[g]? = some (.cells #[.int .u64 (t : Int), .int .u64 (l : Int), .int .u64 (o : Int), .int .u64 (u : Int), .int .u64 (b : Int)] 182 (0, 0))
theorem Bl.c {w : World} {g t l o u b : Nat} (h : Bl w g t l o u b) : w.cell? ⟨g, 0, none⟩ = some (.int .u64 (t : Int)) ∧ w.cell? ⟨g, 1, none⟩ = some (.int .u64 (l : Int)) ∧ w.cell? ⟨g, 2, none⟩ = some (.int .u64 (o : Int)) ∧
    w.cell? ⟨g, 3, none⟩ = some (.int .u64 (u : Int)) ∧ w.cell? ⟨g, 4, none⟩ = some (.int .u64 (b : Int)) := by
  unfold Bl at h
  refine ⟨?_, ?_, ?_, ?_, ?_⟩ <;> rw [cell_of_row w g _ _ _ _ h] <;> rfl
theorem Bl.f {w : World} {g t l o u b : Nat} (h : Bl w g t l o u b) (i : Nat) : w.frozen? ⟨g, i, none⟩ = false := frozen_of_row w g i _ _ h

theorem Bl.s2 {w : World} {g t l o u b : Nat} (h : Bl w g t l o u b) (x : Nat) : Bl (w.setCell ⟨g, 2, none⟩ (.int .u64 (x : Int))) g t l x u b := by
  unfold Bl at h ⊢
  rw [heap_setCell_same _ g 2 _ _ _ h]; rfl
theorem Bl.s3 {w : World} {g t l o u b : Nat} (h : Bl w g t l o u b) (x : Nat) : Bl (w.setCell ⟨g, 3, none⟩ (.int .u64 (x : Int))) g t l o x b := by
  unfold Bl at h ⊢
  rw [heap_setCell_same _ g 3 _ _ _ h]; rfl
theorem Bl.s4 {w : World} {g t l o u b : Nat} (h : Bl w g t l o u b) (x : Nat) : Bl (w.setCell ⟨g, 4, none⟩ (.int .u64 (x : Int))) g t l o u x := by
  unfold Bl at h ⊢
  rw [heap_setCell_same _ g 4 _ _ _ h]; rfl

structure NextPost (w : World) (g t l o u b x y : Nat) (e : Ending) (w' : World) : Prop where
  ret : e = .returned (.int .u64 ((slo (lo (x * t + o)) (lo (y * l + u)) b : Nat) : Int))
  bl : Bl w' g t l (hi (x * t + o)) (hi (y * l + u)) (sbo (lo (x * t + o)) (lo (y * l + u)) b)
  only : Only g w w'

theorem next_mem {w : World} {g t l o u b : Nat} (h : Bl w g t l o u b) (o' u' b' : Nat) (n : Nat) :
    Bl ((((w.setCell ⟨g, 2, none⟩ (.int .u64 (o' : Int))).setCell ⟨g, 3, none⟩ (.int .u64 (u' : Int))).setCell ⟨g, 4, none⟩ (.int .u64 (b' : Int))).drewN n) g t l o' u' b' ∧
    Only g w ((((w.setCell ⟨g, 2, none⟩ (.int .u64 (o' : Int))).setCell ⟨g, 3, none⟩ (.int .u64 (u' : Int))).setCell ⟨g, 4, none⟩ (.int .u64 (b' : Int))).drewN n) :=
  ⟨((h.s2 o').s3 u').s4 b', ((((Only.refl g w).set 2 _).set 3 _).set 4 _).drewN n⟩

set_option maxHeartbeats 4000000 in
theorem next_any (w : World) (g t l o u b x y : Nat) (h : Bl w g t l o u b) (ht : t < B64) (hl : l < B64) (ho : o < B64) (hu : u < B64) (hb : b ≤ 1) (hx : x < B64) (hy : y < B64) :
    Calls Tryz.prog 160 #[.pointer (some ⟨g, 0, none⟩), .int .u64 x, .int .u64 y] w (NextPost w g t l o u b x y) := by
  obtain ⟨c0, c1, c2, c3, c4⟩ := h.c
  have f2 := h.f 2
  have f3 := h.f 3
  have f4 := h.f 4
  have HP1 := Lib.hid (fun W : World => product_any x t o hx ht ho W)
  have HP2 := Lib.hid (fun W : World => product_any y l u hy hl hu W)
  have HM := Lib.hid (next_mem h (hi (x * t + o)) (hi (y * l + u)) (sbo (lo (x * t + o)) (lo (y * l + u)) b) 2)
  clear h
  have hsub := run_sub (lo (x * t + o)) (lo (y * l + u)) b hb
  go_enter Tryz.func160, Tryz.ntmps160
  go_wp2_with fail
  go_region_with (first
    | (go_at_call 120; refine (HP1.out _).mono ?_; rintro e w' ⟨rfl, rfl⟩))
  all_goals
    go_wp2_with fail
    go_region_with (first
      | (go_at_call 120; refine (HP2.out _).mono ?_; rintro e w' ⟨rfl, rfl⟩))
    all_goals
      go_wp2_with fail
      go_ret
      exact ⟨rfl, HM.out.1, HM.out.2⟩
end Go.Proofs.YtmbnlhedbedcdaaGreatDoor

/- The leading bits of two numbers; a mix turned round. -/
namespace Go.Proofs.YtmbnlhedbedcdaaGreatDoor
open Go.RowKit

set_option maxHeartbeats 1000000 in
theorem turned_any (w : World) (t l : Nat) :
    Calls Tryz.prog 136 #[.agg #[.int .u64 (t : Int), .int .u64 (l : Int)]] w fun e w' => e = .returned (.agg #[.int .u64 (l : Int), .int .u64 (t : Int)]) ∧ Below w.heap.size w w' := by
  go_enter Tryz.func136, Tryz.ntmps136
  go_wp2
  refine bodyPost_ret (v := .agg #[.int .u64 (l : Int), .int .u64 (t : Int)]) (by simp [results, Tryz.results136, go_sem]) rfl ⟨rfl, ?_⟩
  exact ((Below.refl _ _).alloc (Nat.le_refl _) _).alloc (by simp) _

theorem quiet_left {P : Program} {f : FuncId} {args : Array Value} {w : World} {n : Nat} {v : Value}
    (h : Calls P f args (w.drewN n) fun e w' => e = .returned v ∧ w.drewN n = w') : Calls P f args (w.drewN n) fun e w'' => e = .returned v ∧ ∃ m, w'' = w.drewN m :=
  h.mono fun _ _ ⟨he, hm⟩ => ⟨he, n, hm.symm⟩

/-- The leading bits of a list of n digits, its top one raised by s. -/
def ld (X : List Nat) (n s : Nat) : Nat := lo (dg X (n - 1) * 2 ^ s) + hi (dg X (n - 2) * 2 ^ s)

theorem ld_near {X : List Nat} {n s : Nat} (hX : Digs X) (hl : X.length ≤ n) (h2 : 2 ≤ n) (hs : s ≤ 64) (ht : dg X (n - 1) * 2 ^ s < B64) :
    ld X n s * (B64 ^ (n - 2) * 2 ^ (64 - s)) ≤ val X ∧ val X < ld X n s * (B64 ^ (n - 2) * 2 ^ (64 - s)) + B64 ^ (n - 2) * 2 ^ (64 - s) := by
  have h1 := val_take_dg X (n - 1)
  have h3 := val_take_dg X (n - 2)
  rw [show n - 1 + 1 = n by omega, List.take_of_length_le hl] at h1
  rw [show n - 2 + 1 = n - 1 by omega] at h3
  have h4 := val_lt (hX.take (n - 2))
  have h5 : B64 ^ (X.take (n - 2)).length ≤ B64 ^ (n - 2) := Nat.pow_le_pow_right B64_pos (by rw [List.length_take]; omega)
  have hp : B64 ^ (n - 1) = B64 ^ (n - 2) * B64 := by rw [← Nat.pow_succ]; congr 1; omega
  rw [h3, hp] at h1
  have hlo : lo (dg X (n - 1) * 2 ^ s) = dg X (n - 1) * 2 ^ s := lo_of_lt ht
  have hlh := lo_hi (dg X (n - 2) * 2 ^ s)
  have hll := lo_lt (dg X (n - 2) * 2 ^ s)
  unfold ld
  rw [hlo]
  generalize val (X.take (n - 2)) = L at *
  generalize dg X (n - 1) = a at *
  generalize dg X (n - 2) = b at *
  generalize B64 ^ (n - 2) = P at *
  -- V = b + B64 a; V 2^s = B64 (a 2^s + hi (b 2^s)) + lo (b 2^s)
  have hsp := B64_split hs
  have hV : (b + B64 * a) * 2 ^ s = B64 * (a * 2 ^ s + hi (b * 2 ^ s)) + lo (b * 2 ^ s) := by
    rw [Nat.add_mul, Nat.mul_add, Nat.mul_assoc]
    omega
  generalize hx : a * 2 ^ s + hi (b * 2 ^ s) = x at *
  have hq : 0 < 2 ^ s := Nat.pow_pos (by omega)
  have k1 : x * 2 ^ (64 - s) ≤ b + B64 * a := by
    refine Nat.le_of_mul_le_mul_right (c := 2 ^ s) ?_ hq
    rw [Nat.mul_assoc, ← hsp, hV, Nat.mul_comm x]
    omega
  have k2 : b + B64 * a < x * 2 ^ (64 - s) + 2 ^ (64 - s) := by
    refine Nat.lt_of_mul_lt_mul_right (a := 2 ^ s) ?_
    have e5 : (x * 2 ^ (64 - s) + 2 ^ (64 - s)) * 2 ^ s = B64 * x + B64 := by rw [Nat.add_mul, Nat.mul_assoc, ← hsp, Nat.mul_comm x]
    rw [e5, hV]
    omega
  have e1 : val X = L + P * (b + B64 * a) := by rw [h1, Nat.mul_add, Nat.mul_assoc]; omega
  have e2 : x * (P * 2 ^ (64 - s)) = P * (x * 2 ^ (64 - s)) := Nat.mul_left_comm _ _ _
  have e3 : P * (x * 2 ^ (64 - s)) ≤ P * (b + B64 * a) := Nat.mul_le_mul_left _ k1
  have e4 : P * (b + B64 * a) + P ≤ P * (x * 2 ^ (64 - s) + 2 ^ (64 - s)) := by
    rw [← Nat.mul_succ]; exact Nat.mul_le_mul_left _ k2
  rw [Nat.mul_add P (x * 2 ^ (64 - s))] at e4
  rw [e1, e2]
  generalize P * (b + B64 * a) = v at *
  generalize P * (x * 2 ^ (64 - s)) = v' at *
  refine ⟨?_, ?_⟩ <;> omega

theorem ld_lead {X Y : List Nat} {n s : Nat} (hX : Digs X) (hY : Digs Y) (hxl : X.length = n) (hyl : Y.length ≤ n) (h2 : 2 ≤ n) (hs : s ≤ 63) (ht : dg X (n - 1) * 2 ^ s < B64) (hle : val Y ≤ val X) :
    Lead (val X) (val Y) (ld X n s) (ld Y n s) (B64 ^ (n - 2) * 2 ^ (64 - s)) := by
  have hty : dg Y (n - 1) ≤ dg X (n - 1) := by
    have h1 := val_take_dg X (n - 1)
    have h3 := val_take_dg Y (n - 1)
    rw [show n - 1 + 1 = n by omega, List.take_of_length_le (Nat.le_of_eq hxl)] at h1
    rw [show n - 1 + 1 = n by omega, List.take_of_length_le hyl] at h3
    have h4 := val_lt (hX.take (n - 1))
    have h5 : B64 ^ (X.take (n - 1)).length ≤ B64 ^ (n - 1) := Nat.pow_le_pow_right B64_pos (by rw [List.length_take]; omega)
    refine Nat.le_of_lt_succ (Nat.lt_of_mul_lt_mul_left (a := B64 ^ (n - 1)) ?_)
    rw [Nat.mul_succ]
    omega
  have hty2 : dg Y (n - 1) * 2 ^ s < B64 := Nat.lt_of_le_of_lt (Nat.mul_le_mul_right _ hty) ht
  obtain ⟨a1, a2⟩ := ld_near hX (Nat.le_of_eq hxl) h2 (by omega) ht
  obtain ⟨b1, b2⟩ := ld_near hY hyl h2 (by omega) hty2
  have hH : 0 < B64 ^ (n - 2) * 2 ^ (64 - s) := Nat.mul_pos (pow_pos' _) (Nat.pow_pos (by omega))
  refine ⟨a1, a2, b1, b2, hH, ?_, ?_, hle⟩
  · refine Nat.le_of_lt_succ (Nat.lt_of_mul_lt_mul_right (a := B64 ^ (n - 2) * 2 ^ (64 - s)) ?_)
    rw [Nat.succ_mul]
    omega
  · have h1 := raise_digit_lt hX (show s ≤ 64 by omega) (n - 1)
    rw [show rc X s (n - 1) = hi (dg X (n - 2) * 2 ^ s) by unfold rc; rw [if_neg (by omega)]; rfl] at h1
    exact h1

set_option maxHeartbeats 2000000 in
theorem at_any (w : World) (p pn ps n s c : Nat) (A : Option Addr) (X : List Nat) (hA : Num w A X) (hX : X.length ≤ 1099511627776) (hn : n ≤ 1099511627776) (h2 : 2 ≤ n) (hs : s ≤ 63)
    (hp : w.cell? ⟨p, 0, none⟩ = some (.slice A X.length c)) (hpn : w.cell? ⟨pn, 0, none⟩ = some (.int .i64 (n : Int))) (hps : w.cell? ⟨ps, 0, none⟩ = some (.int .u64 (s : Int))) :
    Calls Tryz.prog 159 #[.func (.func 153) #[] #[.pointer (some ⟨p, 0, none⟩)], .pointer (some ⟨pn, 0, none⟩), .pointer (some ⟨ps, 0, none⟩)] w
      fun e w' => e = .returned (.int .u64 ((ld X n s : Nat) : Int)) ∧ ∃ k, w' = w.drewN k := by
  have hs64 : s ≤ 64 := by omega
  have hw64 : IntKind.u64.wrap (64 - (s : Int)) = 64 - (s : Int) := by rw [IntKind.wrap_u64]; omega
  have hw1 : IntKind.i64.wrap ((n : Int) - 1) = (n : Int) - 1 := IntWalk.i64_in _ (by omega)
  have hw2 : IntKind.i64.wrap ((n : Int) - 2) = (n : Int) - 2 := IntWalk.i64_in _ (by omega)
  have H1 := Lib.hid (fun W : Nat => digit_z (w.drewN W) p A c (n - 1) ((n : Int) - 1) (by omega) X (hA.drewN W) hX hp)
  have H2 := Lib.hid (fun W : Nat => digit_z (w.drewN W) p A c (n - 2) ((n : Int) - 2) (by omega) X (hA.drewN W) hX hp)
  have HU : Hid (bits BinOp.or IntKind.u64 (IntKind.u64.wrap (((dg X (n - 1) : Nat) : Int) * 2 ^ s)) (((dg X (n - 2) : Nat) : Int) / 2 ^ (64 - s)) = ((ld X n s : Nat) : Int)) := raise_or (dg_lt hA.1 _) hs64
  clear hA hp
  go_enter Tryz.func159, Tryz.ntmps159
  go_wp2_with fail
  go_quiet ((go_at_call 153; first | with_reducible exact quiet_left (H1.out _) | with_reducible exact quiet_left (H2.out _)))
  go_wp2_with fail
  go_ret
  rw [HU.out]
  exact ⟨rfl, _, rfl⟩
end Go.Proofs.YtmbnlhedbedcdaaGreatDoor

/- leading, walked. -/
namespace Go.Proofs.YtmbnlhedbedcdaaGreatDoor
open Go.RowKit

/-- What leading tells. -/
def LeadPost (w : World) (x y : Nat) (e : Ending) (w' : World) : Prop := e = .returned (.tuple #[.int .u64 (x : Int), .int .u64 (y : Int)]) ∧ Below w.heap.size w w'

theorem cells3 (w : World) (v1 v2 v3 : Value) (t1 t2 t3 : TypeId) :
    (((w.alloc (.cells #[v1] t1)).alloc (.cells #[v2] t2)).alloc (.cells #[v3] t3)).cell? ⟨w.heap.size, 0, none⟩ = some v1 ∧
    (((w.alloc (.cells #[v1] t1)).alloc (.cells #[v2] t2)).alloc (.cells #[v3] t3)).cell? ⟨w.heap.size + 1, 0, none⟩ = some v2 ∧
    (((w.alloc (.cells #[v1] t1)).alloc (.cells #[v2] t2)).alloc (.cells #[v3] t3)).cell? ⟨w.heap.size + 1 + 1, 0, none⟩ = some v3 := by
  have h3 := cell_of_one (heap_alloc_new ((w.alloc (.cells #[v1] t1)).alloc (.cells #[v2] t2)) (.cells #[v3] t3))
  have h2 := cell_of_one (heap_alloc_new (w.alloc (.cells #[v1] t1)) (.cells #[v2] t2))
  have h1 := cell_of_one (heap_alloc_new w (.cells #[v1] t1))
  have e1 : (w.alloc (.cells #[v1] t1)).heap.size = w.heap.size + 1 := by simp
  have e2 : ((w.alloc (.cells #[v1] t1)).alloc (.cells #[v2] t2)).heap.size = w.heap.size + 1 + 1 := by simp
  rw [e2] at h3
  rw [e1] at h2
  refine ⟨?_, ?_, h3⟩
  · exact (World.cell?_alloc_lt _ _ _ (by simp; omega)).trans ((World.cell?_alloc_lt _ _ _ (by simp)).trans h1)
  · exact (World.cell?_alloc_lt _ _ _ (by simp)).trans h2

set_option maxHeartbeats 2000000 in
theorem leading_any (w : World) (A B : Option Addr) (c d n s : Nat) (X Y : List Nat) (hA : Num w A X) (hB : Num w B Y) (hn : X.length = n) (hX : n ≤ 1099511627776) (hY : Y.length ≤ 1099511627776) (h2 : 2 ≤ n) (hs : s + blen (dg X (n - 1)) = 64) (hs63 : s ≤ 63) :
    Calls Tryz.prog 134 #[.slice A n c, .slice B Y.length d] w (LeadPost w (ld X n s) (ld Y n s)) := by
  subst hn
  obtain ⟨b1, o1, rfl, hb1, hc⟩ := hA.at_ (by omega)
  have ht := hc (X.length - 1) (by omega)
  have htd := dg_lt hA.1 (X.length - 1)
  have hsb : (64 : Int) - ((blen (dg X (X.length - 1)) : Nat) : Int) = (s : Int) := by omega
  have HLZ := Lib.hid (fun W : World => lz64_any _ htd W)
  rw [hsb] at HLZ
  have HA := Lib.hid hA
  have HB := Lib.hid hB
  have ht2 : (w.alloc (.cells #[.int .i64 ((X.length : Nat) : Int)] 3)).cell? ⟨b1, o1 + (X.length - 1), none⟩ = some (.int .u64 ((dg X (X.length - 1) : Nat) : Int)) := (World.cell?_alloc_lt w _ _ hb1).trans ht
  clear hA hB hc hs hsb htd
  go_enter Tryz.func134, Tryz.ntmps134
  go_wp2_with fail
  refine (HLZ.out _).mono ?_
  rintro e w' ⟨rfl, rfl⟩
  go_wp2_with fail
  refine (digitOf_any _ _ _ _).mono ?_
  rintro e w' ⟨rfl, rfl⟩
  go_wp2_with fail
  obtain ⟨k1, k2, k3⟩ := cells3 w (.int .i64 ((X.length : Nat) : Int)) (.int .u64 (s : Int)) (.slice (some ⟨b1, o1, none⟩) X.length c) 3 116 22
  have K1 := Lib.hid k1
  have K2 := Lib.hid k2
  have hat := at_any _ (w.heap.size + 1 + 1) w.heap.size (w.heap.size + 1) X.length s c (some ⟨b1, o1, none⟩) X (((HA.out.alloc _).alloc _).alloc _) (by omega) hX h2 hs63 k3 k1 k2
  refine hat.mono ?_
  clear hat k1 k2 k3
  rintro e w' ⟨rfl, q, rfl⟩
  have hsz : ((((w.alloc (.cells #[.int .i64 ((X.length : Nat) : Int)] 3)).alloc (.cells #[.int .u64 (s : Int)] 116)).alloc (.cells #[.slice (some ⟨b1, o1, none⟩) X.length c] 22)).drewN q).heap.size = w.heap.size + 3 := by simp [World.drewN]
  have HSZ := Lib.hid hsz
  clear hsz
  go_wp2_with fail
  refine (digitOf_any _ _ _ _).mono ?_
  rintro e w' ⟨rfl, rfl⟩
  go_wp2_with fail
  have lt1 : w.heap.size < ((((w.alloc (.cells #[.int .i64 ((X.length : Nat) : Int)] 3)).alloc (.cells #[.int .u64 (s : Int)] 116)).alloc (.cells #[.slice (some ⟨b1, o1, none⟩) X.length c] 22)).drewN q).heap.size := by rw [HSZ.out]; omega
  have lt2 : w.heap.size + 1 < ((((w.alloc (.cells #[.int .i64 ((X.length : Nat) : Int)] 3)).alloc (.cells #[.int .u64 (s : Int)] 116)).alloc (.cells #[.slice (some ⟨b1, o1, none⟩) X.length c] 22)).drewN q).heap.size := by rw [HSZ.out]; omega
  have k4 := cell_of_one (heap_alloc_new ((((w.alloc (.cells #[.int .i64 ((X.length : Nat) : Int)] 3)).alloc (.cells #[.int .u64 (s : Int)] 116)).alloc (.cells #[.slice (some ⟨b1, o1, none⟩) X.length c] 22)).drewN q) (.cells #[.slice B Y.length d] 22))
  rw [HSZ.out] at k4
  have hat := at_any _ (w.heap.size + 1 + 1 + 1) w.heap.size (w.heap.size + 1) X.length s d B Y (((((HB.out.alloc _).alloc _).alloc _).drewN q).alloc _) hY hX h2 hs63 k4 ((World.cell?_alloc_lt _ _ _ lt1).trans K1.out) ((World.cell?_alloc_lt _ _ _ lt2).trans K2.out)
  refine hat.mono ?_
  clear hat k4 lt1 lt2
  rintro e w' ⟨rfl, q2, rfl⟩
  go_wp2_with fail
  go_ret2
  refine ⟨rfl, below_drewN ?_ q2⟩
  exact (below_drewN ((((Below.refl _ _).alloc (Nat.le_refl _) _).alloc (by simp) _).alloc (by simp; omega) _) q).alloc (by rw [HSZ.out]; omega) _
end Go.Proofs.YtmbnlhedbedcdaaGreatDoor

/- leap, plain: one of the two mixes, digit by digit. -/
namespace Go.Proofs.YtmbnlhedbedcdaaGreatDoor
open Go.RowKit

/-- Behind k digits: zs are the mix's low digits, o what is carried of A * t, u of B * l, b what is borrowed. -/
structure Blend (A B : List Nat) (t l k : Nat) (zs : List Nat) (o u b : Nat) : Prop where
  len : zs.length = k
  digs : Digs zs
  ho : o < B64
  hu : u < B64
  hb : b ≤ 1
  eq : val zs + val (B.take k) * l + B64 ^ k * o = val (A.take k) * t + B64 ^ k * (u + b)

theorem Blend.start (A B : List Nat) (t l : Nat) : Blend A B t l 0 [] 0 0 0 := ⟨rfl, Digs.nil, B64_pos, B64_pos, Nat.zero_le _, by simp [val_nil]⟩

theorem blend_round {v a c t l p o u b x y m o' s u' d b' : Nat} (h : v + c * l + p * o = a * t + p * (u + b)) (h1 : m + B64 * o' = x * t + o) (h2 : s + B64 * u' = y * l + u) (h3 : d + s + b = m + B64 * b') :
    v + p * d + (c + p * y) * l + p * B64 * o' = (a + p * x) * t + p * B64 * (u' + b') := by
  have e1 : p * m + p * (B64 * o') = p * (x * t) + p * o := by rw [← Nat.mul_add, h1, Nat.mul_add]
  have e2 : p * s + p * (B64 * u') = p * (y * l) + p * u := by rw [← Nat.mul_add, h2, Nat.mul_add]
  have e3 : p * d + p * s + p * b = p * m + p * (B64 * b') := by rw [← Nat.mul_add, ← Nat.mul_add, h3, Nat.mul_add]
  rw [Nat.add_mul, Nat.add_mul, Nat.mul_assoc p y l, Nat.mul_assoc p x t, Nat.mul_assoc p B64, Nat.mul_assoc p B64, Nat.mul_add B64, Nat.mul_add p (B64 * u')]
  rw [Nat.mul_add] at h
  omega

theorem blend_step {A B : List Nat} {t l k : Nat} {zs : List Nat} {o u b : Nat} (h : Blend A B t l k zs o u b) (hA : Digs A) (hB : Digs B) (ht : t < B64) (hl : l < B64) :
    Blend A B t l (k + 1) (zs ++ [slo (lo (dg A k * t + o)) (lo (dg B k * l + u)) b]) (hi (dg A k * t + o)) (hi (dg B k * l + u)) (sbo (lo (dg A k * t + o)) (lo (dg B k * l + u)) b) := by
  refine ⟨by simp [h.len], h.digs.snoc (slo_lt _ _ _), hi_prod_lt (dg_lt hA k) ht h.ho, hi_prod_lt (dg_lt hB k) hl h.hu, sbo_le _ _ _, ?_⟩
  rw [val_take_dg, val_take_dg, val_snoc, Nat.pow_succ, h.len]
  exact blend_round h.eq (lo_hi _) (lo_hi _) (slo_sbo (lo_lt _) (lo_lt _) h.hb)

theorem blend_end {A B : List Nat} {t l n F x y : Nat} {zs : List Nat} {o u b : Nat} (h : Blend A B t l n zs o u b) (hF : val (B.take n) * l + F + B64 ^ n * x = val (A.take n) * t + B64 ^ n * y) (hlt : F < B64 ^ n) : val zs = F := by
  have hz : val zs < B64 ^ n := by have := val_lt h.digs; rwa [h.len] at this
  have e : val zs + B64 ^ n * (o + y) = F + B64 ^ n * (x + (u + b)) := by
    have := h.eq
    rw [Nat.mul_add, Nat.mul_add (B64 ^ n) x]
    omega
  have e2 := congrArg (· % B64 ^ n) e
  simp only [Nat.add_mul_mod_self_left, Nat.mod_eq_of_lt hz, Nat.mod_eq_of_lt hlt] at e2
  exact e2
end Go.Proofs.YtmbnlhedbedcdaaGreatDoor

/- leap, walked: its first region. -/
namespace Go.Proofs.YtmbnlhedbedcdaaGreatDoor
open Go.RowKit

set_option maxHeartbeats 1000000 in
theorem turned_at (w : World) (t l : Nat) :
    Calls Tryz.prog 136 #[.agg #[.int .u64 (t : Int), .int .u64 (l : Int)]] w fun e w' => e = .returned (.agg #[.int .u64 (l : Int), .int .u64 (t : Int)]) ∧
      w' = (w.alloc (.cells #[.int .u64 (t : Int), .int .u64 (l : Int)] 150)).alloc (.cells #[.int .u64 (l : Int), .int .u64 (t : Int)] 150) := by
  go_enter Tryz.func136, Tryz.ntmps136
  go_wp2
  exact bodyPost_ret (v := .agg #[.int .u64 (l : Int), .int .u64 (t : Int)]) (by simp [results, Tryz.results136, go_sem]) rfl ⟨rfl, rfl⟩


def Boxed (p t1 l1 t2 l2 : Nat) (W : World) : Prop :=
  W.cell? ⟨p, 0, none⟩ = some (.int .u64 (t1 : Int)) ∧ W.cell? ⟨p, 1, none⟩ = some (.int .u64 (l1 : Int)) ∧ W.cell? ⟨p + 1, 0, none⟩ = some (.int .u64 (t2 : Int)) ∧ W.cell? ⟨p + 1, 1, none⟩ = some (.int .u64 (l2 : Int))

theorem Boxed.alloc {p t1 l1 t2 l2 : Nat} {W : World} (o : Obj) (h : Boxed p t1 l1 t2 l2 W) : Boxed p t1 l1 t2 l2 (W.alloc o) := by
  obtain ⟨h1, h2, h3, h4⟩ := h
  refine ⟨?_, ?_, ?_, ?_⟩
  · rw [World.cell?_alloc_some _ _ _ (by rw [h1]; rfl)]; exact h1
  · rw [World.cell?_alloc_some _ _ _ (by rw [h2]; rfl)]; exact h2
  · rw [World.cell?_alloc_some _ _ _ (by rw [h3]; rfl)]; exact h3
  · rw [World.cell?_alloc_some _ _ _ (by rw [h4]; rfl)]; exact h4

theorem Boxed.drew {p t1 l1 t2 l2 : Nat} {W : World} (h : Boxed p t1 l1 t2 l2 W) : Boxed p t1 l1 t2 l2 W.drew := h

theorem Boxed.base (w : World) (t1 l1 t2 l2 : Nat) (T U : TypeId) : Boxed w.heap.size t1 l1 t2 l2 ((w.alloc (.cells #[.int .u64 (t1 : Int), .int .u64 (l1 : Int)] T)).alloc (.cells #[.int .u64 (t2 : Int), .int .u64 (l2 : Int)] U)) := by
  refine ⟨?_, ?_, ?_, ?_⟩ <;> simp [go_sem]

theorem Bl.alloc {w : World} {g t l o u b : Nat} (h : Bl w g t l o u b) (x : Obj) : Bl (w.alloc x) g t l o u b := by
  unfold Bl at h ⊢
  exact (Below.heap_alloc w x g (lt_of_block h)).trans h
theorem Bl.drew {w : World} {g t l o u b : Nat} (h : Bl w g t l o u b) : Bl w.drew g t l o u b := h
theorem Bl.new (w : World) (g t l : Nat) (hg : g = w.heap.size) : Bl (w.alloc (.cells #[.int .u64 (t : Int), .int .u64 (l : Int), .int .u64 0, .int .u64 0, .int .u64 0] 182)) g t l 0 0 0 := by
  subst hg; unfold Bl; rw [heap_alloc_new]; rfl
theorem size_al (w : World) (o : Obj) : (w.alloc o).heap.size = w.heap.size + 1  := by
  show (w.heap.push o).size = _
  simp

structure LeapAt (w : World) (t1 l1 t2 l2 p1 p2 : Nat) (W : World) : Prop where
  b1 : Bl W p1 t1 l1 0 0 0
  b2 : Bl W p2 l2 t2 0 0 0
  ne : p1 ≠ p2
  g1 : w.heap.size ≤ p1
  g2 : w.heap.size ≤ p2
  bel : Below w.heap.size w W

end Go.Proofs.YtmbnlhedbedcdaaGreatDoor

/- leap, walked. -/
namespace Go.Proofs.YtmbnlhedbedcdaaGreatDoor
open Go.RowKit

/-- leap's state ahead of digit k. -/
structure LeapRel (B : Nat) (w : World) (ga gb p1 p2 t1 l1 t2 l2 n : Nat) (La Lb : List Nat) (wr : World) (i : Value) : Prop where
  ex : ∃ (k : Nat) (zs ys : List Nat) (o1 u1 b1 o2 u2 b2 : Nat), k ≤ n ∧ i = .int .i64 k ∧ Blend La Lb t1 l1 k zs o1 u1 b1 ∧ Blend Lb La l2 t2 k ys o2 u2 b2 ∧
    Blk wr ga (mid La 0 zs) ∧ Blk wr gb (mid Lb 0 ys) ∧ Bl wr p1 t1 l1 o1 u1 b1 ∧ Bl wr p2 l2 t2 o2 u2 b2
  bel : Below B w wr

theorem leap_step {B n k : Nat} {w wr : World} {ga gb p1 p2 t1 l1 t2 l2 o1 u1 b1 o2 u2 b2 : Nat} {La Lb zs ys : List Nat} (hlt : k < n) (hna : n ≤ La.length) (hnb : n ≤ Lb.length) (hab : ga ≠ gb)
    (e1 : p1 ≠ ga) (e2 : p1 ≠ gb) (e3 : p2 ≠ ga) (e4 : p2 ≠ gb) (hBa : B ≤ ga) (hBb : B ≤ gb) (h5 : Blend La Lb t1 l1 k zs o1 u1 b1) (h6 : Blend Lb La l2 t2 k ys o2 u2 b2) (hdA : Digs La) (hdB : Digs Lb)
    (h1 : t1 < B64) (h2 : l1 < B64) (h3 : t2 < B64) (h4 : l2 < B64) (m1 : Blk wr ga (mid La 0 zs)) (m2 : Blk wr gb (mid Lb 0 ys))
    (m3 : Bl wr p1 t1 l1 (hi (dg La k * t1 + o1)) (hi (dg Lb k * l1 + u1)) (sbo (lo (dg La k * t1 + o1)) (lo (dg Lb k * l1 + u1)) b1))
    (m4 : Bl wr p2 l2 t2 (hi (dg Lb k * l2 + o2)) (hi (dg La k * t2 + u2)) (sbo (lo (dg Lb k * l2 + o2)) (lo (dg La k * t2 + u2)) b2)) (hbel : Below B w wr) :
    LeapRel B w ga gb p1 p2 t1 l1 t2 l2 n La Lb ((wr.setCell ⟨ga, k, none⟩ (.int .u64 ((slo (lo (dg La k * t1 + o1)) (lo (dg Lb k * l1 + u1)) b1 : Nat) : Int))).setCell ⟨gb, k, none⟩ (.int .u64 ((slo (lo (dg Lb k * l2 + o2)) (lo (dg La k * t2 + u2)) b2 : Nat) : Int))) (.int .i64 ((k : Int) + 1)) := by
  refine ⟨⟨k + 1, _, _, _, _, _, _, _, _, hlt, by simp, blend_step h5 hdA hdB h1 h2, blend_step h6 hdB hdA h4 h3, ?_, ?_, ?_, ?_⟩, (hbel.setCell hBa _).setCell hBb _⟩
  · have h := m1.set_ k (slo (lo (dg La k * t1 + o1)) (lo (dg Lb k * l1 + u1)) b1)
    have hs := mid_set (cs := La) (zs := zs) (off := 0) (by rw [h5.len]; omega) (slo (lo (dg La k * t1 + o1)) (lo (dg Lb k * l1 + u1)) b1)
    rw [h5.len, Nat.zero_add] at hs
    rw [hs] at h
    exact h.far hab _
  · have h := (m2.far (p := ⟨ga, k, none⟩) (fun e => hab e.symm) (.int .u64 ((slo (lo (dg La k * t1 + o1)) (lo (dg Lb k * l1 + u1)) b1 : Nat) : Int))).set_ k (slo (lo (dg Lb k * l2 + o2)) (lo (dg La k * t2 + u2)) b2)
    have hs := mid_set (cs := Lb) (zs := ys) (off := 0) (by rw [h6.len]; omega) (slo (lo (dg Lb k * l2 + o2)) (lo (dg La k * t2 + u2)) b2)
    rw [h6.len, Nat.zero_add] at hs
    rwa [hs] at h
  · exact (Below.heap_setCell _ _ _ _ e2).trans ((Below.heap_setCell _ _ _ _ e1).trans m3)
  · exact (Below.heap_setCell _ _ _ _ e4).trans ((Below.heap_setCell _ _ _ _ e3).trans m4)

/-- What leap leaves in memory: F and G in the low digits of the two blocks. -/
structure LeapMem (B : Nat) (w w' : World) (ga gb F G : Nat) (La Lb : List Nat) : Prop where
  ex : ∃ Xa Xb : List Nat, Blk w' ga Xa ∧ Blk w' gb Xb ∧ Digs Xa ∧ Digs Xb ∧ Xa.length = La.length ∧ Xb.length = Lb.length ∧
    (dig F).length ≤ La.length ∧ (dig G).length ≤ Lb.length ∧ Xa.take (dig F).length = dig F ∧ Xb.take (dig G).length = dig G
  bel : Below B w w'
theorem LeapMem.drew {B : Nat} {w w' : World} {ga gb F G : Nat} {La Lb : List Nat} (h : LeapMem B w w' ga gb F G La Lb) : LeapMem B w w'.drew ga gb F G La Lb := ⟨h.ex, h.bel.drew⟩

structure LeapPost (B : Nat) (w : World) (ga gb ca cb F G : Nat) (La Lb : List Nat) (e : Ending) (w' : World) : Prop where
  ret : ∃ A1 c1 A2 c2, e = .returned (.tuple #[.slice A1 (dig F).length c1, .slice A2 (dig G).length c2]) ∧ (dig F).length ≤ c1 ∧ (dig G).length ≤ c2 ∧
    (0 < (dig F).length → A1 = some ⟨ga, 0, none⟩ ∧ c1 = ca) ∧ (0 < (dig G).length → A2 = some ⟨gb, 0, none⟩ ∧ c2 = cb)
  mem : LeapMem B w w' ga gb F G La Lb

theorem mid_low {cs zs : List Nat} (hzd : Digs zs) : (mid cs 0 zs).take (dig (val zs)).length = dig (val zs) := by
  have h2 : (mid cs 0 zs).take (dig (val zs)).length = zs.take (dig (val zs)).length := by
    have h3 : ((mid cs 0 zs).take zs.length).take (dig (val zs)).length = zs.take (dig (val zs)).length := by rw [mid_take]
    rwa [List.take_take, Nat.min_eq_left (dig_length_val hzd)] at h3
  rw [h2]
  exact (dig_take_self hzd).symm

theorem leap_mem {B n : Nat} {w wr : World} {ga gb t1 l1 t2 l2 o1 u1 b1 o2 u2 b2 F G : Nat} {La Lb zs ys : List Nat} (hna : n ≤ La.length) (hnb : n ≤ Lb.length)
    (h5 : Blend La Lb t1 l1 n zs o1 u1 b1) (h6 : Blend Lb La l2 t2 n ys o2 u2 b2) (hdA : Digs La) (hdB : Digs Lb) (hz : val zs = F) (hy : val ys = G)
    (m1 : Blk wr ga (mid La 0 zs)) (m2 : Blk wr gb (mid Lb 0 ys)) (hbel : Below B w wr) : LeapMem B w wr ga gb F G La Lb := by
  subst hz hy
  have e1 := h5.len
  have e2 := h6.len
  have e3 := dig_length_val h5.digs
  have e4 := dig_length_val h6.digs
  exact ⟨⟨_, _, m1, m2, hdA.mid h5.digs 0, hdB.mid h6.digs 0, mid_length (by omega), mid_length (by omega), by omega, by omega, mid_low h5.digs, mid_low h6.digs⟩, hbel⟩

set_option maxRecDepth 100000 in
set_option maxHeartbeats 4000000 in
theorem leap_any (w : World) (B ga gb na nb ca cb n t1 l1 t2 l2 F G x1 y1 x2 y2 : Nat) (La Lb : List Nat) (ha : Blk w ga La) (hb : Blk w gb Lb) (hab : ga ≠ gb) (hBa : B ≤ ga) (hBb : B ≤ gb) (hdA : Digs La) (hdB : Digs Lb)
    (hna : n ≤ na) (hnb : n ≤ nb) (hLa : na ≤ La.length) (hLb : nb ≤ Lb.length) (hla : na ≤ ca) (hlb : nb ≤ cb) (hcap : n ≤ 1099511627776) (h1 : t1 < B64) (h2 : l1 < B64) (h3 : t2 < B64) (h4 : l2 < B64)
    (hF : val (Lb.take n) * l1 + F + B64 ^ n * x1 = val (La.take n) * t1 + B64 ^ n * y1) (hFn : F < B64 ^ n) (hG : val (La.take n) * t2 + G + B64 ^ n * x2 = val (Lb.take n) * l2 + B64 ^ n * y2) (hGn : G < B64 ^ n) :
    Calls Tryz.prog 135 #[.slice (some ⟨ga, 0, none⟩) na ca, .slice (some ⟨gb, 0, none⟩) nb cb, .agg #[.int .u64 (t1 : Int), .int .u64 (l1 : Int)], .agg #[.int .u64 (t2 : Int), .int .u64 (l2 : Int)], .int .i64 (n : Int)] w (LeapPost B w ga gb ca cb F G La Lb) := by
  have HT := Lib.hid (fun W : World => turned_at W t2 l2)
  have HA := Lib.hid ha
  have HB := Lib.hid hb
  clear ha hb
  go_enter Tryz.func135, Tryz.ntmps135
  go_upto_region 1 with fail
  go_cut [12, 13] (fun s12 s13 wx => ∃ p1 p2 : Nat, s12 = .pointer (some ⟨p1, 0, none⟩) ∧ s13 = .pointer (some ⟨p2, 0, none⟩) ∧ LeapAt w t1 l1 t2 l2 p1 p2 wx)
  case first =>
    go_region_held3 (fun W => W.cell? ⟨w.heap.size, 0, none⟩ = some (.int .u64 (t1 : Int)) ∧ W.cell? ⟨w.heap.size, 1, none⟩ = some (.int .u64 (l1 : Int)) ∧ W.cell? ⟨w.heap.size + 1, 0, none⟩ = some (.int .u64 (t2 : Int)) ∧ W.cell? ⟨w.heap.size + 1, 1, none⟩ = some (.int .u64 (l2 : Int)))
      (first | exact Boxed.alloc _ (by assumption) | exact Boxed.alloc _ (Boxed.alloc _ (by assumption)) | exact Boxed.drew (Boxed.alloc _ (Boxed.alloc _ (Boxed.alloc _ (Boxed.alloc _ (Boxed.base _ _ _ _ _ _ _))))) | exact Boxed.drew (Boxed.alloc _ (Boxed.alloc _ (Boxed.alloc _ (Boxed.base _ _ _ _ _ _ _)))) | go_keep)
      (first | (go_at_call 136; refine (HT.out _).mono ?_; rintro e w1 ⟨rfl, rfl⟩))
    all_goals
      go_wp2_with fail
      go_meet
      case rel =>
        refine ⟨_, _, rfl, rfl, ⟨?_, ?_, ?_, ?_, ?_, ?_⟩⟩
        · refine Bl.drew ?_; repeat (first | exact Bl.new _ _ _ _ (by simp only [size_al]) | refine Bl.alloc ?_ _)
        · refine Bl.drew ?_; repeat (first | exact Bl.new _ _ _ _ (by simp only [size_al]) | refine Bl.alloc ?_ _)
        · omega
        · omega
        · omega
        · refine Below.drew ?_; repeat (first | exact Below.refl _ _ | refine Below.alloc ?_ (by first | exact Nat.le_refl _ | (simp only [size_al]; omega)) _)
  case rest =>
    obtain ⟨p1, p2, rfl, rfl, hL⟩ := hcut
    have HL := Lib.hid hL
    clear hL
    have hga := HA.out.lt
    have hgb := HB.out.lt
    go_wp2_with fail
    go_loopw [23] (fun i wr => LeapRel B w ga gb p1 p2 t1 l1 t2 l2 n La Lb wr i) (fun i _ => n - (intOf i).toNat)
    case atStart =>
      refine ⟨⟨0, [], [], 0, 0, 0, 0, 0, 0, Nat.zero_le _, rfl, Blend.start _ _ _ _, Blend.start _ _ _ _, ?_, ?_, HL.out.b1, HL.out.b2⟩, HL.out.bel.mono (by omega)⟩
      · rw [mid_nil]; exact HA.out.below HL.out.bel hga
      · rw [mid_nil]; exact HB.out.below HL.out.bel hgb
    case round =>
      obtain ⟨⟨k, zs, ys, o1, u1, b1, o2, u2, b2, hk, rfl, h5, h6, m1, m2, m3, m4⟩, hbel⟩ := hrel
      by_cases hlt : k < n
      · have hlt' : (k : Int) < (n : Int) := by omega
        have la1 : (k : Int) < (na : Int) := by omega
        have lb1 : (k : Int) < (nb : Int) := by omega
        have ca1 := m1.cell (i := k) (by rw [mid_length (by rw [h5.len]; omega)]; omega)
        have cb1 := m2.cell (i := k) (by rw [mid_length (by rw [h6.len]; omega)]; omega)
        rw [dg_mid_above (by rw [h5.len]; omega) (Nat.zero_le _)] at ca1
        rw [dg_mid_above (by rw [h6.len]; omega) (Nat.zero_le _)] at cb1
        have fa1 := m1.frozen k
        have fb1 := m2.frozen k
        have H5 := Lib.hid h5
        have H6 := Lib.hid h6
        have M1 := Lib.hid m1
        have M2 := Lib.hid m2
        have M3 := Lib.hid m3
        have M4 := Lib.hid m4
        have HBEL := Lib.hid hbel
        clear h5 h6 m1 m2 m3 m4 hbel
        go_wp2_with fail
        go_quiet (fail)
        have HN1 := Lib.hid (fun q => next_any (wr.drewN q) p1 t1 l1 o1 u1 b1 (dg La k) (dg Lb k) M3.out h1 h2 H5.out.ho H5.out.hu H5.out.hb (dg_lt hdA k) (dg_lt hdB k))
        have HN2 := Lib.hid (fun w2 h => next_any w2 p2 l2 t2 o2 u2 b2 (dg Lb k) (dg La k) h h4 h3 H6.out.ho H6.out.hu H6.out.hb (dg_lt hdB k) (dg_lt hdA k))
        have hp1 := HL.out.g1
        have hp2 := HL.out.g2
        have hpp := HL.out.ne
        go_wp2_with fail
        refine (HN1.out _).mono ?_
        rintro e w2 ⟨rfl, q1, hO1⟩
        have q2 : Bl w2 p2 l2 t2 o2 u2 b2 := (hO1.block p2 (fun e => hpp e.symm)).trans M4.out
        go_wp2_with fail
        refine (HN2.out _ q2).mono ?_
        rintro e w3 ⟨rfl, q3, hO2⟩
        have q4 : Bl w3 p1 t1 l1 _ _ _ := (hO2.block p1 hpp).trans q1
        have a2 := hO2.blk (hO1.blk (M1.out.drewN _) (by omega)) (g' := ga) (by omega)
        have b2' := hO2.blk (hO1.blk (M2.out.drewN _) (by omega)) (g' := gb) (by omega)
        have HBW : Hid (Below B w w3) := ((⟨HBEL.out.os, HBEL.out.tape, HBEL.out.output, HBEL.out.size, HBEL.out.block⟩ : Below B w (wr.drewN _)).trans (hO1.below (by omega))).trans (hO2.below (by omega))
        have ca2 := a2.cell (i := k) (by rw [mid_length (by rw [H5.out.len]; omega)]; omega)
        have cb2 := b2'.cell (i := k) (by rw [mid_length (by rw [H6.out.len]; omega)]; omega)
        have fa2 := a2.frozen k
        have fb2 := b2'.frozen k
        have HS := Lib.hid (leap_step hlt (by omega) (by omega) hab (by omega) (by omega) (by omega) (by omega) hBa hBb H5.out H6.out hdA hdB h1 h2 h3 h4 a2 b2' q4 q3 HBW.out)
        clear hO1 hO2 q1 q2 q3 q4 a2 b2'
        go_wp2_with fail
        go_roundw
        case rel => exact HS.out
        case measure => simp [intOf]; omega
      · have hkn : k = n := by omega
        subst hkn
        have hz := blend_end h5 hF hFn
        have hy := blend_end h6 hG hGn
        have hca : (k : Int) ≤ (ca : Int) := by omega
        have hcb : (k : Int) ≤ (cb : Int) := by omega
        have hlz := h5.len
        have hly := h6.len
        have n1 : Num wr (some ⟨ga, 0, none⟩) zs := by
          have h := (m1.num (hdA.mid h5.digs 0)).take zs.length
          rwa [mid_take] at h
        have n2 : Num wr (some ⟨gb, 0, none⟩) ys := by
          have h := (m2.num (hdB.mid h6.digs 0)).take ys.length
          rwa [mid_take] at h
        have C1 := cut_at wr.drew _ ca zs n1.drew (by omega) (by omega)
        have C2 := cut_at wr.drew _ cb ys n2.drew (by omega) (by omega)
        rw [hz, hlz] at C1
        rw [hy, hly] at C2
        have HC1 := Lib.hid C1
        have HC2 := Lib.hid C2
        have HE : Hid (LeapMem B w wr ga gb F G La Lb) := leap_mem (by omega) (by omega) h5 h6 hdA hdB hz hy m1 m2 hbel
        clear h5 h6 m1 m2 m3 m4 hbel n1 n2 C1 C2 hz hy
        go_wp2_with fail
        go_region_with (first
          | (go_at_call 77; (with_reducible refine HC1.out.mono ?_); rintro e w4 ⟨A1, c1, rfl, hc1, ha1, rfl, hd1⟩)
          | (go_at_call 77; (with_reducible refine HC2.out.mono ?_); rintro e w4 ⟨A2, c2, rfl, hc2, ha2, rfl, hd2⟩))

        all_goals
          go_wp2_with fail
          go_ret2
          exact ⟨⟨A1, c1, A2, c2, rfl, hc1, hc2, hd1, hd2⟩, HE.out.drew⟩
end Go.Proofs.YtmbnlhedbedcdaaGreatDoor

/- foresee: Euclid's steps on the leading bits. -/
namespace Go.Proofs.YtmbnlhedbedcdaaGreatDoor
open Go.RowKit

/-- Block g is a mix. -/
def Mix (w : World) (g u v : Nat) : Prop := w.heap[g]? = some (.cells #[.int .u64 (u : Int), .int .u64 (v : Int)] 150 (0, 0))
theorem Mix.c0 {w : World} {g u v : Nat} (h : Mix w g u v) : w.cell? ⟨g, 0, none⟩ = some (.int .u64 (u : Int)) := by
  unfold Mix at h
  rw [cell_of_row w g 0 _ _ _ h]; rfl
theorem Mix.c1 {w : World} {g u v : Nat} (h : Mix w g u v) : w.cell? ⟨g, 1, none⟩ = some (.int .u64 (v : Int)) := by
  unfold Mix at h
  rw [cell_of_row w g 1 _ _ _ h]; rfl
theorem Mix.f {w : World} {g u v : Nat} (h : Mix w g u v) (i : Nat) : w.frozen? ⟨g, i, none⟩ = false := frozen_of_row w g i _ _ h

theorem Mix.new (w : World) (u v : Nat) : Mix (w.alloc (.cells #[.int .u64 (u : Int), .int .u64 (v : Int)] 150)) w.heap.size u v := heap_alloc_new w _
theorem Mix.lt {w : World} {g u v : Nat} (h : Mix w g u v) : g < w.heap.size := lt_of_block h
theorem Mix.alloc {w : World} {g u v : Nat} (h : Mix w g u v) (o : Obj) : Mix (w.alloc o) g u v := (Below.heap_alloc w o g h.lt).trans h
theorem Mix.drewN {w : World} {g u v : Nat} (h : Mix w g u v) (n : Nat) : Mix (w.drewN n) g u v := h
theorem Mix.far {w : World} {g u v : Nat} (h : Mix w g u v) {p : Addr} (hp : g ≠ p.block) (x : Value) : Mix (w.setCell p x) g u v := (Below.heap_setCell w p x g hp).trans h
theorem Mix.two {w : World} {g u v : Nat} (h : Mix w g u v) (a b : Nat) : Mix ((w.setCell ⟨g, 0, none⟩ (.int .u64 (a : Int))).setCell ⟨g, 1, none⟩ (.int .u64 (b : Int))) g a b := by
  unfold Mix at h ⊢
  rw [heap_setCell_same _ g 1 _ _ _ (heap_setCell_same w g 0 _ _ _ h)]
  rfl

theorem Mix.new1_ (w : World) (u v : Nat) (o1 o2 o3 o4 : Obj) : Mix (((((w.alloc (.cells #[.int .u64 (u : Int), .int .u64 (v : Int)] 150)).alloc o1).alloc o2).alloc o3).alloc o4) (w.heap.size) u v := by
  have h := ((((Mix.new w u v).alloc o1).alloc o2).alloc o3).alloc o4
  exact h
theorem Mix.new2_ (w : World) (u v : Nat) (o1 o2 o3 o4 : Obj) : Mix (((((w.alloc o1).alloc (.cells #[.int .u64 (u : Int), .int .u64 (v : Int)] 150)).alloc o2).alloc o3).alloc o4) (w.heap.size + 1) u v := by
  have h := (((Mix.new ((w.alloc o1)) u v).alloc o2).alloc o3).alloc o4
  simpa using h
theorem Mix.new3_ (w : World) (u v : Nat) (o1 o2 o3 o4 : Obj) : Mix (((((w.alloc o1).alloc o2).alloc (.cells #[.int .u64 (u : Int), .int .u64 (v : Int)] 150)).alloc o3).alloc o4) (w.heap.size + 1 + 1) u v := by
  have h := ((Mix.new (((w.alloc o1).alloc o2)) u v).alloc o3).alloc o4
  simpa using h
theorem Mix.new4_ (w : World) (u v : Nat) (o1 o2 o3 o4 : Obj) : Mix (((((w.alloc o1).alloc o2).alloc o3).alloc (.cells #[.int .u64 (u : Int), .int .u64 (v : Int)] 150)).alloc o4) (w.heap.size + 1 + 1 + 1) u v := by
  have h := (Mix.new ((((w.alloc o1).alloc o2).alloc o3)) u v).alloc o4
  simpa using h
theorem Mix.new5_ (w : World) (u v : Nat) (o1 o2 o3 o4 : Obj) : Mix (((((w.alloc o1).alloc o2).alloc o3).alloc o4).alloc (.cells #[.int .u64 (u : Int), .int .u64 (v : Int)] 150)) (w.heap.size + 1 + 1 + 1 + 1) u v := by
  have h := Mix.new (((((w.alloc o1).alloc o2).alloc o3).alloc o4)) u v
  simpa using h

structure ForeRel (w wr : World) (A B x0 y0 H : Nat) (xv yv tv : Value) : Prop where
  ex : ∃ (u0 v0 u1 v1 u2 v2 x y : Nat) (t : Bool), xv = .int .u64 (x : Int) ∧ yv = .int .u64 (y : Int) ∧ tv = .bool t ∧ Fore A B x0 y0 H u0 v0 u1 v1 u2 v2 x y t ∧ u0 < B64 ∧ v0 < B64 ∧ u1 < B64 ∧ v1 < B64 ∧ u2 < B64 ∧ v2 < B64 ∧
    Mix wr (w.heap.size + 1 + 1) u0 v0 ∧ Mix wr (w.heap.size + 1 + 1 + 1) u1 v1 ∧ Mix wr (w.heap.size + 1 + 1 + 1 + 1) u2 v2 ∧ x < B64
  z0 : Mix wr w.heap.size 0 0
  z1 : Mix wr (w.heap.size + 1) 0 0
  below : Below w.heap.size w wr

theorem fore_mem {w wr : World} {A B x0 y0 H : Nat} {u0 v0 u1 v1 u2 v2 q x y : Nat} {t : Bool} (hx : y < B64) (l2 : u1 < B64) (l3 : v1 < B64) (l4 : u2 < B64) (l5 : v2 < B64) (b1 : u1 + q * u2 < B64) (b2 : v1 + q * v2 < B64)
    (hk : Fore A B x0 y0 H u1 v1 u2 v2 (u1 + q * u2) (v1 + q * v2) y (x % y) (!t)) (z0 : Mix wr w.heap.size 0 0) (z1 : Mix wr (w.heap.size + 1) 0 0)
    (m0 : Mix wr (w.heap.size + 1 + 1) u0 v0) (m1 : Mix wr (w.heap.size + 1 + 1 + 1) u1 v1) (m2 : Mix wr (w.heap.size + 1 + 1 + 1 + 1) u2 v2) (hbw : Below w.heap.size w wr) (n : Nat) :
    ForeRel w (((((((wr.drewN n).setCell ⟨w.heap.size + 1 + 1, 0, none⟩ (.int .u64 (u1 : Int))).setCell ⟨w.heap.size + 1 + 1, 1, none⟩ (.int .u64 (v1 : Int))).setCell ⟨w.heap.size + 1 + 1 + 1, 0, none⟩ (.int .u64 (u2 : Int))).setCell
      ⟨w.heap.size + 1 + 1 + 1, 1, none⟩ (.int .u64 (v2 : Int))).setCell ⟨w.heap.size + 1 + 1 + 1 + 1, 0, none⟩ (.int .u64 ((u1 + q * u2 : Nat) : Int))).setCell ⟨w.heap.size + 1 + 1 + 1 + 1, 1, none⟩ (.int .u64 ((v1 + q * v2 : Nat) : Int)))
      A B x0 y0 H (.int .u64 (y : Int)) (.int .u64 ((x % y : Nat) : Int)) (.bool (!t)) := by
  refine ⟨⟨u1, v1, u2, v2, u1 + q * u2, v1 + q * v2, y, x % y, !t, rfl, rfl, rfl, hk, l2, l3, l4, l5, b1, b2, ?_, ?_, ?_, hx⟩, ?_, ?_, ?_⟩
  · exact (((((m0.drewN n).two u1 v1).far (by first | (simp; done) | (simp; omega)) _).far (by first | (simp; done) | (simp; omega)) _).far (by first | (simp; done) | (simp; omega)) _).far (by first | (simp; done) | (simp; omega)) _
  · exact (((((m1.drewN n).far (by first | (simp; done) | (simp; omega)) _).far (by first | (simp; done) | (simp; omega)) _).two u2 v2).far (by first | (simp; done) | (simp; omega)) _).far (by first | (simp; done) | (simp; omega)) _
  · exact (((((m2.drewN n).far (by first | (simp; done) | (simp; omega)) _).far (by first | (simp; done) | (simp; omega)) _).far (by first | (simp; done) | (simp; omega)) _).far (by first | (simp; done) | (simp; omega)) _).two _ _
  · exact ((((((z0.drewN n).far (by first | (simp; done) | (simp; omega)) _).far (by first | (simp; done) | (simp; omega)) _).far (by first | (simp; done) | (simp; omega)) _).far (by first | (simp; done) | (simp; omega)) _).far (by first | (simp; done) | (simp; omega)) _).far (by first | (simp; done) | (simp; omega)) _
  · exact ((((((z1.drewN n).far (by first | (simp; done) | (simp; omega)) _).far (by first | (simp; done) | (simp; omega)) _).far (by first | (simp; done) | (simp; omega)) _).far (by first | (simp; done) | (simp; omega)) _).far (by first | (simp; done) | (simp; omega)) _).far (by first | (simp; done) | (simp; omega)) _
  · exact ((((((below_drewN hbw n).setCell (by first | (simp; done) | (simp; omega)) _).setCell (by first | (simp; done) | (simp; omega)) _).setCell (by first | (simp; done) | (simp; omega)) _).setCell (by first | (simp; done) | (simp; omega)) _).setCell (by first | (simp; done) | (simp; omega)) _).setCell (by first | (simp; done) | (simp; omega)) _

def mixv (u v : Nat) : Value := .agg #[.int .u64 (u : Int), .int .u64 (v : Int)]
/-- What foresee tells. -/
def ForePost (w : World) (A B : Nat) (e : Ending) (w' : World) : Prop :=
  ∃ (u0 v0 u1 v1 : Nat) (t : Bool), e = .returned (.tuple #[.agg #[.int .u64 (u0 : Int), .int .u64 (v0 : Int)], .agg #[.int .u64 (u1 : Int), .int .u64 (v1 : Int)], .bool t]) ∧ Foreseen A B u0 v0 u1 v1 t ∧ Below w.heap.size w w'

set_option maxHeartbeats 4000000 in
theorem foresee_any (w : World) (A B x0 y0 H : Nat) (h : Lead A B x0 y0 H) :
    Calls Tryz.prog 133 #[.int .u64 x0, .int .u64 y0] w (ForePost w A B) := by
  have HL := Lib.hid h
  clear h
  go_enter Tryz.func133, Tryz.ntmps133
  go_wp2_with fail
  go_loopw [0, 1, 10] (fun xv yv tv wr => ForeRel w wr A B x0 y0 H xv yv tv) (fun _ yv _ _ => (intOf yv).toNat)
  case atStart =>
    have hlt := HL.out.lt
    have hle := HL.out.le
    refine ⟨⟨0, 0, 1, 0, 0, 1, x0, y0, true, rfl, rfl, rfl, fore_start HL.out, B64_pos, B64_pos, by rw [B64_eq]; omega, B64_pos, B64_pos, by rw [B64_eq]; omega, ?_, ?_, ?_, hlt⟩, ?_, ?_, ?_⟩
    · exact Mix.new3_ w _ _ _ _ _ _
    · exact Mix.new4_ w _ _ _ _ _ _
    · exact Mix.new5_ w _ _ _ _ _ _
    · exact Mix.new1_ w _ _ _ _ _ _
    · exact Mix.new2_ w _ _ _ _ _ _
    · exact (((((Below.refl _ _).alloc (Nat.le_refl _) _).alloc (by simp) _).alloc (by first | (simp; done) | (simp; omega)) _).alloc (by first | (simp; done) | (simp; omega)) _).alloc (by first | (simp; done) | (simp; omega)) _
  case round =>
    obtain ⟨⟨u0, v0, u1, v1, u2, v2, x, y, t, rfl, rfl, rfl, hk, l0, l1, l2, l3, l4, l5, m0, m1, m2, hx⟩, z0, z1, hbw⟩ := hrel
    have HK := Lib.hid hk
    have HBW := Lib.hid hbw
    have c00 := m0.c0
    have c01 := m0.c1
    have c10 := m1.c0
    have c11 := m1.c1
    have c20 := m2.c0
    have c21 := m2.c1
    have f00 := m0.f 0
    have f01 := m0.f 1
    have f10 := m1.f 0
    have f11 := m1.f 1
    have f20 := m2.f 0
    have f21 := m2.f 1
    have hxy := hk.xy
    have hvp := hk.v2p
    by_cases g1 : v2 ≤ y
    · have hsum := fore_sum HL.out hk g1
      have es1 : IntKind.u64.wrap ((v1 : Int) + (v2 : Int)) = (v1 : Int) + (v2 : Int) := u64_add' hsum
      have es2 : IntKind.u64.wrap ((x : Int) - (y : Int)) = ((x - y : Nat) : Int) := u64_sub (by omega) hx
      have g1' : (v2 : Int) ≤ (y : Int) := by omega
      by_cases g2 : v1 + v2 ≤ x - y
      · obtain ⟨hn, b1, b2⟩ := fore_step HL.out hk g1 g2
        have HN := Lib.hid hn
        have g2' : (v1 : Int) + (v2 : Int) ≤ ((x - y : Nat) : Int) := by omega
        have hy1 : 1 ≤ (y : Int) := by omega
        have hy0 : ((y : Int) == 0) = false := by rw [beq_eq_false_iff_ne]; omega
        have hyn : ¬ (y : Int) = 0 := by omega
        have hq64 : x / y < B64 := Nat.lt_of_le_of_lt (Nat.div_le_self _ _) hx
        obtain ⟨q, hq⟩ : ∃ q, q = x / y := ⟨_, rfl⟩
        have eq0 : IntKind.u64.wrap ((x : Int) / (y : Int)) = (q : Int) := by
          rw [hq]
          exact u64_small (n := x / y) hq64
        rw [← hq] at b1 b2 HN hq64
        have em1 : IntKind.u64.wrap ((q : Int) * (u2 : Int)) = (q : Int) * (u2 : Int) := u64_mul (by omega)
        have em2 : IntKind.u64.wrap ((q : Int) * (v2 : Int)) = (q : Int) * (v2 : Int) := u64_mul (by omega)
        have ea1 : IntKind.u64.wrap ((u1 : Int) + (q : Int) * (u2 : Int)) = (u1 : Int) + (q : Int) * (u2 : Int) := by
          rw [← Int.natCast_mul]
          exact u64_add' (a := u1) (b := q * u2) b1
        have ea2 : IntKind.u64.wrap ((v1 : Int) + (q : Int) * (v2 : Int)) = (v1 : Int) + (q : Int) * (v2 : Int) := by
          rw [← Int.natCast_mul]
          exact u64_add' (a := v1) (b := q * v2) b2
        have HQ := Lib.hid hq
        have Z0 := Lib.hid z0
        have Z1 := Lib.hid z1
        have M0 := Lib.hid m0
        have M1 := Lib.hid m1
        have M2 := Lib.hid m2
        clear hk hbw hn hq z0 z1 m0 m1 m2
        go_wp2_with fail
        go_quiet (fail)
        go_wp2_with fail
        go_region
        have HS := fore_mem (Nat.lt_of_le_of_lt hxy hx) l2 l3 l4 l5 b1 b2 HN.out Z0.out Z1.out M0.out M1.out M2.out HBW.out (nq + 1)
        go_wp2_with fail
        go_roundw
        case rel => exact HS
        case measure =>
          have := Nat.mod_lt x (show y > 0 by omega)
          simp [intOf]; omega
      · have g2' : ¬ (v1 : Int) + (v2 : Int) ≤ ((x - y : Nat) : Int) := by omega
        have HF := Lib.hid (fore_end hk l0 l1 l2 l3)
        have c30 := z0.c0
        have c31 := z0.c1
        have c40 := z1.c0
        have c41 := z1.c1
        have f30 := z0.f 0
        have f31 := z0.f 1
        have f40 := z1.f 0
        have f41 := z1.f 1
        clear hk hbw z0 z1 m0 m1 m2
        go_wp2_with fail
        go_region
        go_wp2_with fail
        refine bodyPost_ret (v := .tuple #[.agg #[.int .u64 (u0 : Int), .int .u64 (v0 : Int)], .agg #[.int .u64 (u1 : Int), .int .u64 (v1 : Int)], .bool t]) (by simp [results, Tryz.results133, go_sem, c30, c31, c40, c41]) rfl ⟨u0, v0, u1, v1, t, rfl, HF.out, ?_⟩
        exact (((((HBW.out.setCell (by simp) _).setCell (by simp) _).setCell (by simp) _).setCell (by simp) _).drew)
    · have g1' : ¬ (v2 : Int) ≤ (y : Int) := by omega
      have HF := Lib.hid (fore_end hk l0 l1 l2 l3)
      have c30 := z0.c0
      have c31 := z0.c1
      have c40 := z1.c0
      have c41 := z1.c1
      have f30 := z0.f 0
      have f31 := z0.f 1
      have f40 := z1.f 0
      have f41 := z1.f 1
      clear hk hbw z0 z1 m0 m1 m2
      go_wp2_with fail
      go_region
      go_wp2_with fail
      refine bodyPost_ret (v := .tuple #[.agg #[.int .u64 (u0 : Int), .int .u64 (v0 : Int)], .agg #[.int .u64 (u1 : Int), .int .u64 (v1 : Int)], .bool t]) (by simp [results, Tryz.results133, go_sem, c30, c31, c40, c41]) rfl ⟨u0, v0, u1, v1, t, rfl, HF.out, ?_⟩
      exact (((((HBW.out.setCell (by simp) _).setCell (by simp) _).setCell (by simp) _).setCell (by simp) _).drew)
end Go.Proofs.YtmbnlhedbedcdaaGreatDoor

/- shorten, plain: the equations that the two mixes keep; a pair of numbers in memory. -/
namespace Go.Proofs.YtmbnlhedbedcdaaGreatDoor
open Go.RowKit

theorem row_pos {u v A B F : Nat} (h : row 1 u v A B = (F : Int)) : B * v + F = A * u := by
  unfold row at h
  rw [Int.one_mul] at h
  have e : ((B * v + F : Nat) : Int) = ((A * u : Nat) : Int) := by
    push_cast
    rw [Int.mul_comm (A : Int), Int.mul_comm (B : Int)]
    omega
  exact_mod_cast e
theorem row_neg1 {u v A B F : Nat} (h : row (-1) u v A B = (F : Int)) : A * u + F = B * v := by
  unfold row at h
  rw [Int.neg_mul, Int.one_mul] at h
  have e : ((A * u + F : Nat) : Int) = ((B * v : Nat) : Int) := by
    push_cast
    rw [Int.mul_comm (A : Int), Int.mul_comm (B : Int)]
    omega
  exact_mod_cast e

theorem low_pos {A B u v F l h P : Nat} (hA : A = l + P * h) (e : B * v + F = A * u) : B * v + F + P * 0 = l * u + P * (h * u) := by
  rw [e, hA, Nat.add_mul, Nat.mul_assoc, Nat.mul_zero, Nat.add_zero]
theorem low_neg {A B u v F l h P : Nat} (hA : A = l + P * h) (e : A * u + F = B * v) : l * u + F + P * (h * u) = B * v + P * 0 := by
  rw [← e, hA, Nat.add_mul, Nat.mul_assoc, Nat.mul_zero, Nat.add_zero]
  omega

/-- A pair of numbers, G not above F; if G has two digits, each in a block of its own. -/
structure Pair (B : Nat) (w wr : World) (g F G : Nat) (av bv : Value) : Prop where
  ex : ∃ (PA PB : Option Addr) (ca cb : Nat), av = .slice PA (dig F).length ca ∧ bv = .slice PB (dig G).length cb ∧ (dig F).length ≤ ca ∧ (dig G).length ≤ cb ∧
    Num wr PA (dig F) ∧ Num wr PB (dig G) ∧
    (1 < (dig G).length → ∃ ga gb Xa Xb, PA = some ⟨ga, 0, none⟩ ∧ PB = some ⟨gb, 0, none⟩ ∧ ga ≠ gb ∧ B ≤ ga ∧ B ≤ gb ∧ Blk wr ga Xa ∧ Blk wr gb Xb ∧ Digs Xa ∧ Digs Xb ∧
      (dig F).length ≤ Xa.length ∧ (dig G).length ≤ Xb.length ∧ Xa.take (dig F).length = dig F ∧ Xb.take (dig G).length = dig G)
  le : G ≤ F
  len : (dig F).length ≤ 4294967296
  gcd : Nat.gcd F G = g
  bel : Below B w wr

theorem num_low {w : World} {g : Nat} {X : List Nat} {F : Nat} {P : Option Addr} (hb : Blk w g X) (hd : Digs X) (ht : X.take (dig F).length = dig F) (hP : 0 < (dig F).length → P = some ⟨g, 0, none⟩) : Num w P (dig F) := by
  rcases Nat.eq_zero_or_pos (dig F).length with h0 | h0
  · rw [List.length_eq_zero_iff.1 h0]; exact Num.nil _ _
  · have h := (hb.num hd).take (dig F).length
    rw [ht] at h
    rw [hP h0]
    exact h

theorem leap_pair {B : Nat} {w wx w' : World} {g ga gb ca cb F G : Nat} {La Lb : List Nat} {e : Ending} (h : LeapPost B wx ga gb ca cb F G La Lb e w') (hw : Below B w wx) (hne : ga ≠ gb) (hBa : B ≤ ga) (hBb : B ≤ gb)
    (hle : G ≤ F) (hlen : (dig F).length ≤ 4294967296) (hg : Nat.gcd F G = g) : ∃ av bv, e = .returned (.tuple #[av, bv]) ∧ Pair B w w' g F G av bv := by
  obtain ⟨⟨A1, c1, A2, c2, rfl, k1, k2, k3, k4⟩, ⟨⟨Xa, Xb, m1, m2, d1, d2, l1, l2, n1, n2, t1, t2⟩, hb⟩⟩ := h
  refine ⟨_, _, rfl, ⟨⟨A1, A2, c1, c2, rfl, rfl, k1, k2, num_low m1 d1 t1 (fun hp => (k3 hp).1), num_low m2 d2 t2 (fun hp => (k4 hp).1), fun h1 => ?_⟩, hle, hlen, hg, hw.trans hb⟩⟩
  have h0 : 1 < (dig F).length := Nat.lt_of_lt_of_le h1 (dig_length_mono hle)
  exact ⟨ga, gb, Xa, Xb, (k3 (by omega)).1, (k4 (by omega)).1, hne, hBa, hBb, m1, m2, d1, d2, by omega, by omega, t1, t2⟩

theorem blk_split {X : List Nat} {F n : Nat} (ht : X.take (dig F).length = dig F) (hn : n ≤ (dig F).length) : F = val (X.take n) + B64 ^ n * val ((dig F).drop n) := by
  have h := val_take_add (dig F) n
  rw [val_dig, Nat.min_eq_left hn] at h
  have e : X.take n = (dig F).take n := by rw [← ht, List.take_take, Nat.min_eq_left hn]
  rw [e]
  exact h

theorem top_shift {F : Nat} (h2 : 2 ≤ (dig F).length) : ∃ s, s + blen (dg (dig F) ((dig F).length - 1)) = 64 ∧ s ≤ 63 ∧ dg (dig F) ((dig F).length - 1) * 2 ^ s < B64 ∧ dg (dig F) ((dig F).length - 1) ≠ 0 := by
  have htop : dg (dig F) ((dig F).length - 1) ≠ 0 := by
    intro h
    have h1 := dig_top F
    rw [List.getLast?_eq_getElem?, List.getElem?_eq_getElem (by omega)] at h1
    rw [dg_of_lt (by omega)] at h
    exact h1 (by rw [h])
  have hb := blen_lt (dg (dig F) ((dig F).length - 1))
  have hb1 : 1 ≤ blen (dg (dig F) ((dig F).length - 1)) := by
    rcases Nat.eq_zero_or_pos (blen (dg (dig F) ((dig F).length - 1))) with h | h
    · rw [h] at hb; omega
    · exact h
  have hbl64 := blen_digit (dg_lt (dig_digs F) ((dig F).length - 1))
  refine ⟨64 - blen (dg (dig F) ((dig F).length - 1)), by omega, by omega, ?_, htop⟩
  have e : B64 = 2 ^ blen (dg (dig F) ((dig F).length - 1)) * 2 ^ (64 - blen (dg (dig F) ((dig F).length - 1))) := by
    rw [← Nat.pow_add, B64_pow]; congr 1; omega
  rw [e]
  exact Nat.mul_lt_mul_of_pos_right hb (Nat.pow_pos (by omega))
end Go.Proofs.YtmbnlhedbedcdaaGreatDoor

/- shorten: Euclid's steps, many at once, till the lesser number has one digit at most. -/
namespace Go.Proofs.YtmbnlhedbedcdaaGreatDoor
open Go.RowKit

/-- What shorten hands back. -/
def ShortPost (B : Nat) (w : World) (g : Nat) (e : Ending) (w' : World) : Prop :=
  ∃ F G av bv, e = .returned (.tuple #[av, bv]) ∧ (dig G).length ≤ 1 ∧ Pair B w w' g F G av bv

theorem gcd_step (F G : Nat) : Nat.gcd G (F % G) = Nat.gcd F G := by rw [Nat.gcd_comm F G, Nat.gcd_rec G F, Nat.gcd_comm]

theorem pair_divided {B : Nat} {w wx w' : World} {g F G gb cb : Nat} {Xb : List Nat} {q : Nat} {e : Ending} (hpos : 0 < G) (hgb : B ≤ gb) (hsz : gb < wx.heap.size) (hBx : B ≤ wx.heap.size) (hb : Blk wx gb Xb) (hd : Digs Xb) (hl : (dig G).length ≤ Xb.length) (ht : Xb.take (dig G).length = dig G) (hcb : (dig G).length ≤ cb)
    (hnum : Num wx (some ⟨gb, 0, none⟩) (dig G)) (hlen : (dig G).length ≤ 4294967296) (hg : Nat.gcd F G = g) (hw : Below B w wx) (h : RetQR wx q (F % G) e w') :
    ∃ A1 c1 bv, e = .returned (.tuple #[.slice A1 (dig q).length c1, bv]) ∧ Pair B w w' g G (F % G) (.slice (some ⟨gb, 0, none⟩) (dig G).length cb) bv := by
  obtain ⟨A, c, C, d, g2, zs, rfl, k1, k2, k3, k4, k5, k6, k7, k8, k9, k10, k11⟩ := h
  refine ⟨A, c, _, rfl, ⟨⟨_, C, cb, d, rfl, rfl, hcb, k2, hnum.below k5, k4, fun h1 => ?_⟩, Nat.le_of_lt (Nat.mod_lt _ hpos), hlen, ?_, hw.trans (k5.mono hBx)⟩⟩
  · exact ⟨gb, g2, Xb, zs, rfl, (k11 (by omega)).1, by omega, hgb, by omega, hb.below k5 hsz, k7, hd, k8, hl, k9, ht, k10⟩
  · rw [gcd_step, hg]

theorem of_drewB {w w' : World} (h : Below w.drew.heap.size w.drew w') : Below w.heap.size w w' := ⟨h.os, h.tape, h.output, h.size, h.block⟩
theorem Boxed.belowW {p t1 l1 t2 l2 : Nat} {W W' : World} {B : Nat} (hB : B = W.heap.size) (hp : p + 1 < W.heap.size) (hb : Below B W W') (h : Boxed p t1 l1 t2 l2 W) : Boxed p t1 l1 t2 l2 W' := by
  subst hB
  obtain ⟨h1, h2, h3, h4⟩ := h
  exact ⟨(hb.cell (p := ⟨p, 0, none⟩) (by show p < _; omega)).trans h1, (hb.cell (p := ⟨p, 1, none⟩) (by show p < _; omega)).trans h2, (hb.cell (p := ⟨p + 1, 0, none⟩) hp).trans h3, (hb.cell (p := ⟨p + 1, 1, none⟩) hp).trans h4⟩

set_option maxRecDepth 100000 in
set_option maxHeartbeats 8000000 in
theorem shorten_any (w : World) (B g F0 G0 : Nat) (av bv : Value) (hB : B ≤ w.heap.size) (h : Pair B w w g F0 G0 av bv) :
    Calls Tryz.prog 103 #[av, bv] w (ShortPost B w g) := by
  have H0 := Lib.hid h
  clear h
  have HT := Lib.hid (fun (W : World) (t l : Nat) => turned_at W t l)
  go_enter Tryz.func103, Tryz.ntmps103
  go_wp2_with fail
  go_loopg [0, 1] G0 (fun G av bv wr => ∃ F, Pair B w wr g F G av bv)
  case atStart => exact ⟨F0, H0.out⟩
  case round =>
    obtain ⟨F, ⟨⟨PA, PB, ca, cb, rfl, rfl, hca, hcb, hna, hnb, hblk⟩, hle, hlen, hg, hbel⟩⟩ := hrel
    have hlm := dig_length_mono hle
    by_cases h1 : 1 < (dig gk).length
    · have h1' : (1 : Int) < ((dig gk).length : Int) := by omega
      obtain ⟨ga, gb, Xa, Xb, rfl, rfl, hne, hBa, hBb, m1, m2, d1, d2, l1, l2, t1, t2⟩ := hblk h1
      obtain ⟨s, hs, hs63, hsh, htop⟩ := top_shift (F := F) (by omega)
      have hlead := ld_lead (dig_digs F) (dig_digs gk) rfl hlm (by omega) hs63 hsh (by rw [val_dig, val_dig]; exact hle)
      rw [val_dig, val_dig] at hlead
      have HLD := Lib.hid (leading_any wr (some ⟨ga, 0, none⟩) (some ⟨gb, 0, none⟩) ca cb (dig F).length s (dig F) (dig gk) hna hnb rfl (by omega) (by omega) (by omega) hs hs63)
      have HFS := Lib.hid (fun W => foresee_any W F gk _ _ _ hlead)
      have HNA := Lib.hid hna
      have HNB := Lib.hid hnb
      have M1 := Lib.hid m1
      have M2 := Lib.hid m2
      have HG := Lib.hid hg
      have HBEL := Lib.hid hbel
      have T1 := Lib.hid t1
      have T2 := Lib.hid t2
      have hga := m1.lt
      have hgb := m2.lt
      clear hna hnb m1 m2 hg hbel t1 t2 hlead hblk hs hsh htop
      go_upto_region 4 with ((first
        | (go_at_call 134; refine HLD.out.mono ?_; rintro e w1 ⟨rfl, hb1⟩)
        | (go_at_call 133; refine (HFS.out _).mono ?_; rintro e w2 ⟨u0, v0, u1, v1, t, rfl, hF, hb2⟩)))
      have HBX := Boxed.base w2 u0 v0 u1 v1 150 150
      have hb12 : Below wr.heap.size wr w2 := hb1.trans (hb2.mono hb1.size)
      have hbx : Below wr.heap.size wr ((w2.alloc (.cells #[.int .u64 (u0 : Int), .int .u64 (v0 : Int)] 150)).alloc (.cells #[.int .u64 (u1 : Int), .int .u64 (v1 : Int)] 150)) :=
        hb12.trans (((Below.refl _ _).alloc hb12.size _).alloc (by simp; have := hb12.size; omega) _)
      have hsx : w2.heap.size + 1 < ((w2.alloc (.cells #[.int .u64 (u0 : Int), .int .u64 (v0 : Int)] 150)).alloc (.cells #[.int .u64 (u1 : Int), .int .u64 (v1 : Int)] 150)).heap.size := by simp
      generalize ((w2.alloc (.cells #[.int .u64 (u0 : Int), .int .u64 (v0 : Int)] 150)).alloc (.cells #[.int .u64 (u1 : Int), .int .u64 (v1 : Int)] 150)) = wx at *
      have X1 := Lib.hid (M1.out.below hbx hga)
      have X2 := Lib.hid (M2.out.below hbx hgb)
      have XA := Lib.hid (HNA.out.below hbx)
      have XB := Lib.hid (HNB.out.below hbx)
      have XW := Lib.hid (HBEL.out.trans (hbx.mono (Nat.le_trans hB HBEL.out.size)))
      have hgax : ga < wx.heap.size := Nat.lt_of_lt_of_le hga hbx.size
      have hgbx : gb < wx.heap.size := Nat.lt_of_lt_of_le hgb hbx.size
      have hBx : B ≤ wx.heap.size := Nat.le_trans hBa (Nat.le_of_lt hgax)
      obtain ⟨hu0, hv0, hu1, hv1, hFF⟩ := hF
      obtain ⟨b0, b1', b2', b3⟩ := HBX
      have HBX : Hid (Boxed w2.heap.size u0 v0 u1 v1 wx) := ⟨b0, b1', b2', b3⟩
      clear hb1 hb2 hb12 hbx M1 M2 HNA HNB HBEL HLD HFS hga hgb
      by_cases hz : v0 = 0
      · have hz' : (((v0 : Nat) : Int) == 0) = true := by rw [hz]; rfl
        clear hFF
        obtain ⟨s2, hs2, hs263, hsh2, htop2⟩ := top_shift (F := gk) (by omega)
        have hlong := long_any wx (some ⟨ga, 0, none⟩) (some ⟨gb, 0, none⟩) ca cb (dig gk).length s2 ((dig F).length - (dig gk).length + 1) (dig F) (dig gk) XA.out XB.out (by omega) rfl (by omega) hlm hs2 htop2 (by omega)
        rw [val_dig, val_dig] at hlong
        have HLG := Lib.hid hlong
        clear hs2 hs263 hsh2 htop2 hlong
        go_wp2_with fail
        refine HLG.out.mono ?_
        intro e w3 hq
        obtain ⟨A1, c1, bv', rfl, hP⟩ := pair_divided (g := g) (by
          rcases Nat.eq_zero_or_pos gk with h0 | h0
          · rw [h0, dig_zero] at h1; simp at h1
          · exact h0) hBb hgbx hBx X2.out d2 l2 T2.out hcb XB.out (by omega) HG.out XW.out hq
        have HP := Lib.hid hP
        have hlt := Nat.mod_lt F (show 0 < gk by
          rcases Nat.eq_zero_or_pos gk with h0 | h0
          · rw [h0, dig_zero] at h1; simp at h1
          · exact h0)
        clear hP hq
        go_wp2_with fail
        go_roundg (F % gk)
        case measure => exact hlt
        case rel => exact ⟨gk, HP.out⟩
      · have hz' : (((v0 : Nat) : Int) == 0) = false := by rw [beq_eq_false_iff_ne]; omega
        obtain ⟨F0, F1, r0, r1, hlt, hle0, hgcd⟩ := hFF hz
        cases t with
        | false =>
          have hP := blk_split (n := (dig gk).length) T1.out hlm
          have hgv : val (Xb.take (dig gk).length) = gk := by rw [T2.out, val_dig]
          have hglt : gk < B64 ^ (dig gk).length := by have h := val_lt (dig_digs gk); rwa [val_dig] at h
          have hl0 := dig_length_mono hle0
          have hg0 : Nat.gcd F0 F1 = g := by rw [hgcd]; exact HG.out
          have hmeas : F1 < gk := by omega
          rw [show - sg false = 1 from rfl] at r0
          rw [show sg false = -1 from rfl] at r1
          have hE1 := low_pos hP (row_pos r0)
          have hE2 := low_neg hP (row_neg1 r1)
          have HLP := Lib.hid (leap_any wx B ga gb (dig F).length (dig gk).length ca cb (dig gk).length u0 v0 u1 v1 F0 F1 0 (val ((dig F).drop (dig gk).length) * u0) (val ((dig F).drop (dig gk).length) * u1) 0 Xa Xb X1.out X2.out hne hBa hBb d1 d2 hlm (Nat.le_refl _) l1 l2 hca hcb (by omega) hu0 hv0 hu1 hv1 (by rw [hgv]; exact hE1) (by omega) (by rw [hgv]; exact hE2) (by omega))
          clear hP hgv hE1 hE2 hglt r0 r1 hFF
          go_wp2_with fail
          refine HLP.out.mono ?_
          intro e w3 hq
          obtain ⟨av', bv', rfl, hPP⟩ := leap_pair hq XW.out hne hBa hBb (Nat.le_of_lt hlt) (by omega) hg0
          have HP := Lib.hid hPP
          clear hPP hq
          go_wp2_with fail
          go_roundg F1
          case measure => exact hmeas
          case rel => exact ⟨F0, HP.out⟩
        | true =>
          have hP := blk_split (n := (dig gk).length) T1.out hlm
          have hgv : val (Xb.take (dig gk).length) = gk := by rw [T2.out, val_dig]
          have hglt : gk < B64 ^ (dig gk).length := by have h := val_lt (dig_digs gk); rwa [val_dig] at h
          have hl0 := dig_length_mono hle0
          have hg0 : Nat.gcd F0 F1 = g := by rw [hgcd]; exact HG.out
          have hmeas : F1 < gk := by omega
          rw [show - sg true = -1 from rfl] at r0
          rw [show sg true = 1 from rfl] at r1
          have hE1 := low_neg hP (row_neg1 r0)
          have hE2 := low_pos hP (row_pos r1)
          have HLP : Hid (∀ w5 : World, Below wx.heap.size wx w5 → Calls Tryz.prog 135 #[.slice (some ⟨gb, 0, none⟩) (dig gk).length cb, .slice (some ⟨ga, 0, none⟩) (dig F).length ca, .agg #[.int .u64 (v0 : Int), .int .u64 (u0 : Int)], .agg #[.int .u64 (v1 : Int), .int .u64 (u1 : Int)], .int .i64 ((dig gk).length : Int)] w5 (LeapPost B w5 gb ga cb ca F0 F1 Xb Xa)) := fun w5 h5 =>
            leap_any w5 B gb ga (dig gk).length (dig F).length cb ca (dig gk).length v0 u0 v1 u1 F0 F1 (val ((dig F).drop (dig gk).length) * u0) 0 0 (val ((dig F).drop (dig gk).length) * u1) Xb Xa (X2.out.below h5 hgbx) (X1.out.below h5 hgax) hne.symm hBb hBa d2 d1 (Nat.le_refl _) hlm l2 l1 hcb hca (by omega) hv0 hu0 hv1 hu1 (by rw [hgv]; exact hE1) (by omega) (by rw [hgv]; exact hE2) (by omega)
          clear hP hgv hE1 hE2 hglt r0 r1 hFF
          go_upto_region 8 with fail
          go_region_with
           (first
            | (go_at_call 135; refine (HLP.out w5 HB5.out).mono ?_; intro e w6 hq; obtain ⟨av', bv', rfl, hPP⟩ := leap_pair hq (XW.out.trans (HB5.out.mono hBx)) hne.symm hBb hBa (Nat.le_of_lt hlt) (by omega) hg0; have HP := Lib.hid hPP; clear hPP hq)
            | (go_at_call 136; refine (turned_any w4 u1 v1).mono ?_; rintro e w5 ⟨rfl, hb5⟩; have HB5 := Lib.hid (HB4.out.trans (hb5.mono HB4.out.size)); obtain ⟨m0, m1, m2, m3⟩ := Boxed.belowW rfl hsx HB5.out HBX.out; clear hb5)
            | (go_at_call 136; refine (turned_any _ u0 v0).mono ?_; rintro e w4 ⟨rfl, hb4⟩; have hb4 := of_drewB hb4; have HB4 := Lib.hid hb4; obtain ⟨n0, n1, n2, n3⟩ := Boxed.belowW rfl hsx hb4 HBX.out; clear hb4))
          all_goals
            go_wp2_with fail
            go_roundg F1
            case measure => exact hmeas
            case rel => exact ⟨F0, HP.out⟩
    · have h1' : ¬ (1 : Int) < ((dig gk).length : Int) := by omega
      go_wp2_with fail
      go_ret2
      exact ⟨F, gk, _, _, rfl, by omega, ⟨⟨PA, PB, ca, cb, rfl, rfl, hca, hcb, hna, hnb, hblk⟩, hle, hlen, hg, hbel⟩⟩
end Go.Proofs.YtmbnlhedbedcdaaGreatDoor

/- Trim, with the block of its answer; the whole of Gcd. -/
namespace Go.Proofs.YtmbnlhedbedcdaaGreatDoor
open Go.RowKit

def TrimPost (w : World) (n : Nat) (e : Ending) (w' : World) : Prop :=
  ∃ A c, e = .returned (.slice A (dig n).length c) ∧ (dig n).length ≤ c ∧ Num w' A (dig n) ∧ Below w.heap.size w w' ∧ Blk w' w.heap.size (dig n) ∧ (0 < (dig n).length → A = some ⟨w.heap.size, 0, none⟩)

set_option maxHeartbeats 800000 in
theorem trim_blk (w : World) (A : Option Addr) (c : Nat) (xs : List Nat) (h : Num w A xs) (hn : xs.length ≤ 1099511627776) (hc : xs.length ≤ c) :
    Calls Tryz.prog 52 #[.slice A xs.length c] w (TrimPost w (val xs)) := by
  have C1 := Lib.hid (cut_any w A c xs h hn hc)
  have hl := dig_length_val h.1
  have hmk := run_make_u64 (dig (val xs)).length (by omega)
  have HT := Lib.hid (dig_take_self h.1)
  have HN := Lib.hid h
  clear h
  go_enter Tryz.func52, Tryz.ntmps52
  go_wp2_with fail
  refine C1.out.mono ?_
  rintro e w' ⟨A', c', rfl, hc', -, rfl⟩
  clear C1
  have K1 : ((dig (val xs)).map dcell).length = Nat.min xs.length (dig (val xs)).length := by
    rw [List.length_map]; exact (Nat.min_eq_right hl).symm
  have K2 : 0 < ((dig (val xs)).map dcell).length → ∃ ad, A = some ad ∧ ∀ j v, ((dig (val xs)).map dcell)[j]? = some v → (w.alloc (.cells (madeCells #[.int .u64 0] (dig (val xs)).length) 36)).cell? (ad.add j) = some v := by
    intro hp
    rw [List.length_map] at hp
    obtain ⟨b, off, rfl, hlt, hcell⟩ := (HN.out.alloc (.cells (madeCells #[.int .u64 0] (dig (val xs)).length) 36)).at_ (by omega)
    refine ⟨_, rfl, fun j v hj => ?_⟩
    rw [List.getElem?_map] at hj
    have hjl : j < (dig (val xs)).length := by
      rcases Nat.lt_or_ge j (dig (val xs)).length with h1 | h1
      · exact h1
      · rw [List.getElem?_eq_none h1] at hj; cases hj
    have hj2 : v = dcell (dg (dig (val xs)) j) := by
      rw [List.getElem?_eq_getElem hjl] at hj
      rw [dg_of_lt hjl]
      exact (Option.some.inj hj).symm
    have hj3 : dg (dig (val xs)) j = dg xs j := by
      conv => lhs; rw [HT.out]
      exact dg_take hjl
    rw [hj2, hj3, addr_add]
    exact hcell j (by omega)
  have HK1 := Lib.hid K1
  have HK2 := Lib.hid K2
  clear K1 K2
  go_wp2_with ((refine wpList_copy_splice rfl (.tmp 8) (.tmp 9) _ _ rfl 36 under_u64s (by kernel_rfl) (some ⟨w.heap.size, 0, none⟩) A (dig (val xs)).length (dig (val xs)).length xs.length c rfl rfl w.heap.size 0 ((List.replicate (dig (val xs)).length 0).map dcell) 36 (Blk.made w _) ((dig (val xs)).map dcell) HK1.out (fun hp => ⟨rfl, HK2.out hp⟩) (by simp) (dcells_one _) w.heap.size w ((Below.refl _ _).alloc (Nat.le_refl _) _) (Nat.le_refl _) ?_); intro w2 hb2 hbw2)
  have hblk : Blk w2 w.heap.size (dig (val xs)) := by
    have h1 := hb2.out
    rw [splice_all _ _ (by simp)] at h1
    exact h1
  have hnum := hblk.num (dig_digs _)
  refine (cut_at w2 _ _ _ hnum (by omega) (Nat.le_refl _)).mono ?_
  rw [val_dig]
  rintro e w' ⟨A2, c2, rfl, hc2, ha2, rfl, hd2⟩
  go_wp2
  go_ret
  exact ⟨A2, c2, rfl, hc2, ha2, hbw2, hblk, fun hp => (hd2 hp).1⟩

theorem pair_start {w1 w2 : World} {B a b ca cb : Nat} {A C : Option Addr} (hle : b ≤ a) (hlen : (dig a).length ≤ 4294967296) (hb2 : 1 < (dig b).length) (hB : B ≤ w1.heap.size) (h1 : Num w2 A (dig a)) (h2 : Num w2 C (dig b)) (g1 : Blk w2 w1.heap.size (dig a)) {k : Nat} (hk : w1.heap.size < k) (g2 : Blk w2 k (dig b))
    (e1 : 0 < (dig a).length → A = some ⟨w1.heap.size, 0, none⟩) (e2 : 0 < (dig b).length → C = some ⟨k, 0, none⟩) (hca : (dig a).length ≤ ca) (hcb : (dig b).length ≤ cb) : Pair B w2 w2 (Nat.gcd a b) a b (.slice A (dig a).length ca) (.slice C (dig b).length cb) :=
  ⟨⟨A, C, ca, cb, rfl, rfl, hca, hcb, h1, h2, fun _ => ⟨_, k, dig a, dig b, e1 (by have := dig_length_mono hle; omega), e2 (by omega), by omega, hB, by omega, g1, g2, dig_digs _, dig_digs _, Nat.le_refl _, Nat.le_refl _, List.take_length, List.take_length⟩⟩, hle, hlen, rfl, Below.refl _ _⟩

set_option maxHeartbeats 4000000 in
theorem gcd_long (w : World) (A B : Option Addr) (c d : Nat) (xs ys : List Nat) (ha : Num w A xs) (hb : Num w B ys) (hn : xs.length ≤ 4294967296) (hm : ys.length ≤ 4294967296)
    (hc : xs.length ≤ c) (hd : ys.length ≤ d) (hs : 1 < (dig (min (val xs) (val ys))).length) :
    Calls Tryz.prog 85 #[.slice A xs.length c, .slice B ys.length d] w (RetN w (Nat.gcd (val xs) (val ys))) := by
  have C1 := Lib.hid (cut_any w A c xs ha (by omega) hc)
  have C2 := Lib.hid (cut_any w B d ys hb (by omega) hd)
  have hl1 := dig_length_val ha.1
  have hl2 := dig_length_val hb.1
  clear ha hb
  rcases Nat.lt_or_ge (val xs) (val ys) with hab | hab
  case' inl =>
    rw [Nat.min_eq_left (by omega)] at hs
    rw [Nat.gcd_comm]
    generalize val xs = b at *
    generalize val ys = a at *
    have HCM : Hid (cmpv b a = -1) := cmpv_lt hab
    have hle : b ≤ a := Nat.le_of_lt hab
    clear hab
    go_enter Tryz.func85, Tryz.ntmps85
    go_wp2_with fail
    refine C1.out.mono ?_
    rintro e w' ⟨B', d', rfl, hd', hb', rfl⟩
    go_wp2_with fail
    refine C2.out.mono ?_
    rintro e w' ⟨A', c', rfl, hc', ha', rfl⟩
    have HCMP := cmp_any w B' A' d' c' (dig b) (dig a) hb' ha' (by omega) (by omega) hd' hc'
    rw [val_dig, val_dig, HCM.out] at HCMP
    have HC := Lib.hid HCMP
    clear HCMP HCM
  case' inr =>
    rw [Nat.min_eq_right (by omega)] at hs
    generalize val xs = a at *
    generalize val ys = b at *
    obtain ⟨z, hz1, hz2⟩ : ∃ z : Int, cmpv a b = z ∧ ¬ z < 0 := by
      rcases Nat.lt_or_ge b a with h | h
      · exact ⟨1, cmpv_gt h, by omega⟩
      · exact ⟨0, cmpv_eq (by omega), by omega⟩
    have HCM := Lib.hid hz1
    have hle : b ≤ a := hab
    clear hz1 hab
    go_enter Tryz.func85, Tryz.ntmps85
    go_wp2_with fail
    refine C1.out.mono ?_
    rintro e w' ⟨A', c', rfl, hc', ha', rfl⟩
    go_wp2_with fail
    refine C2.out.mono ?_
    rintro e w' ⟨B', d', rfl, hd', hb', rfl⟩
    have HCMP := cmp_any w A' B' c' d' (dig a) (dig b) ha' hb' (by omega) (by omega) hc' hd'
    rw [val_dig, val_dig, HCM.out] at HCMP
    have HC := Lib.hid HCMP
    clear HCMP HCM
  all_goals
    have HA := Lib.hid ha'
    have HB := Lib.hid hb'
    clear C1 C2 ha' hb'
    have hs' : (1 : Int) < ((dig b).length : Int) := by omega
    have hla : (dig a).length ≤ 4294967296 := by omega
    have hlb : (dig b).length ≤ 4294967296 := by omega
    go_wp2_with fail
    refine HC.out.mono ?_
    rintro e w' ⟨rfl, q0, rfl⟩
    have hT1 := trim_blk (w.drewN q0) A' c' (dig a) (HA.out.drewN q0) (by omega) hc'
    rw [val_dig] at hT1
    have HT1 := Lib.hid hT1
    clear hT1
    go_wp2_with fail
    refine HT1.out.mono ?_
    rintro e w1 ⟨A1, c1, rfl, hc1, ha1, hb1, hg1, he1⟩
    have hbw : Below w.heap.size w w1 := (below_drewN (Below.refl _ _) q0).trans hb1
    have hT2 := trim_blk w1 B' d' (dig b) (HB.out.below hbw) (by omega) hd'
    rw [val_dig] at hT2
    have HT2 := Lib.hid hT2
    have HA1 := Lib.hid ha1
    have HG1 := Lib.hid hg1
    have HBW := Lib.hid hbw
    have HE1 := Lib.hid he1
    clear hT2 ha1 hg1 hbw he1 hb1 HT1
    go_wp2_with fail
    refine HT2.out.mono ?_
    rintro e w2 ⟨A2, c2, rfl, hc2, ha2, hb2, hg2, he2⟩
    have hP := pair_start (w1 := w) (B := w.heap.size) hle hla (by omega) (Nat.le_refl _) (HA1.out.below hb2) ha2 (HG1.out.below hb2 HG1.out.lt) HG1.out.lt hg2 HE1.out he2 hc1 hc2
    have HBW2 := Lib.hid (HBW.out.trans (hb2.mono HBW.out.size))
    have HS := Lib.hid (shorten_any w2 w.heap.size (Nat.gcd a b) a b _ _ HBW2.out.size hP)
    clear hP ha2 hb2 hg2 he2 HT2 HA1 HG1 HBW HE1
    go_wp2_with fail
    refine HS.out.mono ?_
    rintro e w3 ⟨F, G, av, bv, rfl, hGl, ⟨⟨PA, PB, cF, cG, rfl, rfl, hcF, hcG, hnF, hnG, -⟩, hGF, hFl, hgg, hbl⟩⟩
    have HA3 := Lib.hid hnF
    have HB3 := Lib.hid hnG
    have HGG := Lib.hid hgg
    have HBW3 := Lib.hid (HBW2.out.trans hbl)
    clear hnF hnG hgg hbl HS HBW2 HC HA HB hs' hla hlb hle
    go_upto_region 6 with fail
    by_cases hG0 : G = 0
    · have hbl : (((dig G).length : Int) == 0) = true := by rw [hG0, dig_zero]; rfl
      have hg : Hid (Nat.gcd a b = F) := by
        show _ = _
        rw [← HGG.out, hG0]; exact Nat.gcd_zero_right F
      clear hG0
      have hT := trim_any w3 PA cF (dig F) HA3.out (by omega) hcF
      rw [val_dig] at hT
      have HT := Lib.hid hT
      clear hT
      go_wp2_with fail
      refine HT.out.mono ?_
      rintro e w4 ⟨A4, c4, rfl, hc4, ha4, hb4⟩
      have HA4 := Lib.hid ha4
      have HB4 : Hid (Below w.heap.size w w4) := HBW3.out.trans (hb4.mono HBW3.out.size)
      clear ha4 hb4
      go_wp2_with fail
      go_ret
      rw [hg.out]
      exact ⟨A4, c4, rfl, hc4, HA4.out, HB4.out⟩
    · have hbpos : 0 < G := by omega
      have hlb0 : (dig G).length ≠ 0 := fun h => hG0 (dig_nil_iff.1 h)
      have hbl : (((dig G).length : Int) == 0) = false := by rw [beq_eq_false_iff_ne]; omega
      have hlt0 : (0 : Int) < ((dig G).length : Int) := by omega
      have HBV : Hid (G = dg (dig G) 0) := by
        have h := val_take_dg (dig G) 0
        rw [List.take_of_length_le (by omega), val_dig, List.take_zero, val_nil, Nat.pow_zero, Nat.one_mul, Nat.zero_add] at h
        exact h
      obtain ⟨b1, o1, rfl, hG1, hcell⟩ := HB3.out.at_ (by omega)
      have hx := hcell 0 (by omega)
      rw [← HBV.out, Nat.add_zero] at hx
      have hb64 : G < B64 := by
        have := dg_lt (dig_digs G) 0
        rwa [← HBV.out] at this
      have HR : Hid (∀ q, Calls Tryz.prog 104 #[.slice PA (dig F).length cF, .int .u64 G] (w3.drewN q) fun e w' => e = .returned (.int .u64 ((F % G : Nat) : Int)) ∧ ∃ n, w' = (w3.drewN q).drewN n) := by
        intro q
        have h := rest_any (w3.drewN q) cF G (dig F) PA (HA3.out.drewN q) hbpos hb64 (by omega)
        rwa [val_dig] at h
      have hrb := Nat.mod_lt F hbpos
      have hgc : Nat.gcd a b = Nat.gcd G (F % G) := by rw [← HGG.out]; exact (gcd_step F G).symm
      obtain ⟨r, hr⟩ : ∃ r, r = F % G := ⟨_, rfl⟩
      rw [← hr] at HR hrb hgc
      have HGC := Lib.hid hgc
      have HB64 := Lib.hid hb64
      clear hG0 hlb0 hgc hr hcell hb64
      go_wp2_with fail
      go_quiet ((go_at_call 104; exact quiet_first (HR.out _)))
      go_wp2_with fail
      go_loopw [5, 6] (fun xv yv wr => GcdRel w3 wr (Nat.gcd a b) xv yv) (fun _ yv _ => (intOf yv).toNat)
      case atStart => exact ⟨⟨G, r, rfl, rfl, hbpos, HB64.out, Nat.lt_trans hrb HB64.out, HGC.out.symm⟩, _, rfl⟩
      case round =>
        obtain ⟨⟨x, y, rfl, rfl, hx0, hx64, hy64, hg⟩, n, rfl⟩ := hrel
        by_cases hy : y = 0
        · have hy' : ((y : Int) != 0) = false := by rw [hy]; rfl
          have HE : Hid (Nat.gcd a b = x) := by
            show _ = _
            rw [← hg, hy]; exact Nat.gcd_zero_right x
          have HX := Lib.hid (dig_one hx0 hx64)
          have HX64 := Lib.hid hx64
          clear hy hg hx64
          go_wp2_with fail
          go_ret
          rw [HE.out]
          refine ⟨some ⟨w3.heap.size, 0, none⟩, 1, by rw [HX.out]; rfl, by rw [HX.out]; simp, ?_, ?_⟩
          · rw [HX.out]
            exact ((Blk.lit1 w3 x).drewN n).num (Digs.cons HX64.out Digs.nil)
          · exact below_drewN (HBW3.out.alloc HBW3.out.size _) n
        · have hy' : ((y : Int) != 0) = true := by rw [bne_iff_ne]; omega
          have hy1 : 1 ≤ (y : Int) := by omega
          have hyz : ((y : Int) == 0) = false := by rw [beq_eq_false_iff_ne]; omega
          have HS : Hid (∀ m, GcdRel w3 ((w3.drewN n).drewN m) (Nat.gcd a b) (.int .u64 (y : Int)) (.int .u64 ((x % y : Nat) : Int))) := by
            intro m
            have h1 := Nat.mod_lt x (show y > 0 by omega)
            refine ⟨⟨y, x % y, rfl, rfl, by omega, hy64, Nat.lt_trans h1 hy64, ?_⟩, n + m, by rw [World.drewN_drewN]⟩
            rw [← hg, Nat.gcd_comm x y, Nat.gcd_rec y x, Nat.gcd_comm]
          have hml : Hid (x % y < y) := Nat.mod_lt x (show y > 0 by omega)
          clear hg hy
          go_wp2_with fail
          go_quiet (fail)
          go_wp2_with fail
          go_roundw
          case rel => exact HS.out nq
          case measure =>
            have h := hml.out
            simp [intOf]; omega

/-- Gcd, of any two numbers. -/
theorem gcd_any (w : World) (A B : Option Addr) (c d : Nat) (xs ys : List Nat) (ha : Num w A xs) (hb : Num w B ys) (hn : xs.length ≤ 4294967296) (hm : ys.length ≤ 4294967296) (hc : xs.length ≤ c) (hd : ys.length ≤ d) :
    Calls Tryz.prog 85 #[.slice A xs.length c, .slice B ys.length d] w (RetN w (Nat.gcd (val xs) (val ys))) := by
  by_cases hs : (dig (min (val xs) (val ys))).length ≤ 1
  · exact gcd_small w A B c d xs ys ha hb (by omega) (by omega) hc hd hs
  · exact gcd_long w A B c d xs ys ha hb hn hm hc hd (by omega)
end Go.Proofs.YtmbnlhedbedcdaaGreatDoor
