/- Part 15 of the proof: LehmerMath, Leap, Leading, Leading2, LeapMath. -/
import Derived.Test.YthjiacmhhpfokaaGreatM10
namespace Go.Proofs.YthjiacmhhpfokaaGreat
open Nat renaming mul_add → mA, mul_assoc → mS
section
structure Lead (A B x0 y0 H : Nat) : Prop where
 a1 : x0 * H ≤ A
 a2 : A < x0 * H + H
 b1 : y0 * H ≤ B
 b2 : B < y0 * H + H
 hp : 0 < H
 le : y0 ≤ x0
 lt : x0 < B64
 ab : B ≤ A
def sg (t : Bool) : Int := if t then 1 else -1
theorem sg_not (t : Bool) : sg (!t) = - sg t := by cases t <;> rfl
def row (s : Int) (u v : Nat) (A B : Nat) : Int := s * ((u : Int) * (A : Int) - (v : Int) * (B : Int))
structure Fore (A B x0 y0 H : Nat) (u0 v0 u1 v1 u2 v2 x y : Nat) (t : Bool) : Prop where
 i1 : x * v2 + y * v1 = x0
 i2 : x * u2 + y * u1 = y0
 ex : row (sg t) u1 v1 x0 y0 = (x : Int)
 ey : row (- sg t) u2 v2 x0 y0 = (y : Int)
 xy : y ≤ x
 uv2 : u2 ≤ v2
 uvs : u1 + u2 ≤ v1 + v2
 v2p : 1 ≤ v2
 u1b : u1 ≤ B64 - 1
 /-- at the start, or some step done -/
 st : (v0 = 0 ∧ u0 = 0 ∧ u1 = 1 ∧ v1 = 0 ∧ u2 = 0 ∧ v2 = 1 ∧ t = true) ∨
  (∃ (F0 F1 : Nat) (q : Int), row (- sg t) u0 v0 A B = (F0 : Int) ∧ row (sg t) u1 v1 A B = (F1 : Int) ∧ row (- sg t) u2 v2 A B = (F0 : Int) - q * (F1 : Int) ∧ F1 < F0 ∧ 1 ≤ v1 ∧ Nat.gcd F0 F1 = Nat.gcd A B ∧
   ((v0 = 0 ∧ F0 = A ∧ F1 = B) ∨ (v0 ≠ 0 ∧ F0 ≤ B)))
section
variable {A B x0 y0 H u0 v0 u1 v1 u2 v2 x y : Nat} {t : Bool}
theorem fore_start (h : Lead A B x0 y0 H) : Fore A B x0 y0 H 0 0 1 0 0 1 x0 y0 true := by
 refine ⟨by omega, by omega, by simp [row, sg], by simp [row, sg], h.le, by omega, by omega, by omega, by rw [B64_eq]; omega, .inl ⟨rfl, rfl, rfl, rfl, rfl, rfl, rfl⟩⟩
theorem row_near (h : Lead A B x0 y0 H) (s : Int) (hs : s = 1 ∨ s = -1) (u v : Nat) (huv : u ≤ v) (hv : 1 ≤ v) :
  row s u v x0 y0 * (H : Int) - (v : Int) * (H : Int) < row s u v A B ∧ row s u v A B < row s u v x0 y0 * (H : Int) + (v : Int) * (H : Int) := by
 obtain ⟨α, hα⟩ : ∃ α, A = x0 * H + α := ⟨A - x0 * H, by have := h.a1; omega⟩
 obtain ⟨β, hβ⟩ : ∃ β, B = y0 * H + β := ⟨B - y0 * H, by have := h.b1; omega⟩
 have h1 : α < H := by have := h.a2; omega
 have h2 : β < H := by have := h.b2; omega
 have e1 : v * β < v * H := Nat.mul_lt_mul_of_pos_left h2 (by omega)
 have e2 : u * α < v * H := Nat.lt_of_le_of_lt (Nat.mul_le_mul_right α huv) (Nat.mul_lt_mul_of_pos_left h1 (by omega))
 have e : row s u v A B = row s u v x0 y0 * (H : Int) + s * ((u : Int) * (α : Int) - (v : Int) * (β : Int)) := by
  unfold row
  rw [hα, hβ]
  push_cast
  rw [Int.mul_assoc, ← Int.mul_add]
  congr 1
  rw [Int.sub_mul, Int.mul_add, Int.mul_add, Int.mul_assoc, Int.mul_assoc]
  omega
 have e1' : (v : Int) * (β : Int) < (v : Int) * (H : Int) := by exact_mod_cast e1
 have e2' : (u : Int) * (α : Int) < (v : Int) * (H : Int) := by exact_mod_cast e2
 have p1 : 0 ≤ (v : Int) * (β : Int) := Int.mul_nonneg (by omega) (by omega)
 have p2 : 0 ≤ (u : Int) * (α : Int) := Int.mul_nonneg (by omega) (by omega)
 rw [e]
 rcases hs with rfl | rfl
 ·rw [Int.one_mul]; omega
 ·rw [Int.neg_mul, Int.one_mul]; omega
theorem row_lin (s : Int) (u v p q k : Nat) (A B : Nat) : row s (u + k * p) (v + k * q) A B = row s u v A B + (k : Int) * row s p q A B := by
 unfold row
 push_cast
 rw [Int.mul_left_comm, ← Int.mul_add]
 congr 1
 rw [Int.add_mul, Int.add_mul, Int.mul_sub, Int.mul_assoc, Int.mul_assoc]
 omega
theorem row_neg (s : Int) (u v : Nat) (A B : Nat) : row (-s) u v A B = - row s u v A B := by unfold row; rw [Int.neg_mul]
theorem row_add (s : Int) (u v p q : Nat) (A B : Nat) : row s (u + p) (v + q) A B = row s u v A B + row s p q A B := by
 have h := row_lin s u v p q 1 A B
 rw [Nat.one_mul, Nat.one_mul] at h
 rw [h]; simp
theorem gcd_lin {a b c : Nat} {q : Int} (h : (c : Int) = (a : Int) - q * (b : Int)) : Nat.gcd b c = Nat.gcd a b := by
 refine Nat.dvd_antisymm (Nat.dvd_gcd ?_ (Nat.gcd_dvd_left _ _)) (Nat.dvd_gcd (Nat.gcd_dvd_right _ _) ?_)
 ·have h1 : ((Nat.gcd b c : Nat) : Int) ∣ (b : Int) := Int.ofNat_dvd.2 (Nat.gcd_dvd_left _ _)
  have h2 : ((Nat.gcd b c : Nat) : Int) ∣ (c : Int) := Int.ofNat_dvd.2 (Nat.gcd_dvd_right _ _)
  have h3 : (a : Int) = c + q * b := by omega
  refine Int.ofNat_dvd.1 ?_
  rw [h3]
  exact Int.dvd_add h2 (Int.dvd_mul_of_dvd_right h1)
 ·have h1 : ((Nat.gcd a b : Nat) : Int) ∣ (a : Int) := Int.ofNat_dvd.2 (Nat.gcd_dvd_left _ _)
  have h2 : ((Nat.gcd a b : Nat) : Int) ∣ (b : Int) := Int.ofNat_dvd.2 (Nat.gcd_dvd_right _ _)
  refine Int.ofNat_dvd.1 ?_
  rw [h]
  exact Int.dvd_sub h1 (Int.dvd_mul_of_dvd_right h2)
theorem sg_or (t : Bool) : sg t = 1 ∨ sg t = -1 := by cases t; exact .inr rfl; exact .inl rfl
theorem nsg_or (t : Bool) : - sg t = 1 ∨ - sg t = -1 := by cases t; exact .inl rfl; exact .inr rfl
theorem fore_sum (h : Lead A B x0 y0 H) (k : Fore A B x0 y0 H u0 v0 u1 v1 u2 v2 x y t) (g1 : v2 ≤ y) : v1 + v2 < B64 := by
 have h1 := k.i1
 have h2 := k.xy
 have h3 := k.v2p
 have h4 : v2 ≤ x * v2 := Nat.le_mul_of_pos_left v2 (by omega)
 have h5 : v1 ≤ y * v1 := Nat.le_mul_of_pos_left v1 (by omega)
 have h6 := h.lt
 omega
theorem fore_step (h : Lead A B x0 y0 H) (k : Fore A B x0 y0 H u0 v0 u1 v1 u2 v2 x y t) (g1 : v2 ≤ y) (g2 : v1 + v2 ≤ x - y) :
  Fore A B x0 y0 H u1 v1 u2 v2 (u1 + x / y * u2) (v1 + x / y * v2) y (x % y) (!t) ∧ u1 + x / y * u2 < B64 ∧ v1 + x / y * v2 < B64 := by
 have hv2 := k.v2p
 have hxy := k.xy
 have hy : 0 < y := by omega
 have hq : 1 ≤ x / y := (Nat.one_le_div_iff hy).2 hxy
 have hdm := Nat.div_add_mod x y
 have hml := Nat.mod_lt x hy
 obtain ⟨q, hqe⟩ : ∃ q, q = x / y := ⟨_, rfl⟩
 obtain ⟨r, hre⟩ : ∃ r, r = x % y := ⟨_, rfl⟩
 rw [← hqe] at hq hdm ⊢
 rw [← hre] at hdm hml ⊢
 have j1 : y * (v1 + q * v2) + r * v2 = x0 := by
  have := k.i1
  have e1 : x * v2 = y * (q * v2) + r * v2 := by rw [← hdm, Nat.add_mul, mS]
  rw [mA]
  omega
 have j2 : y * (u1 + q * u2) + r * u2 = y0 := by
  have := k.i2
  have e1 : x * u2 = y * (q * u2) + r * u2 := by rw [← hdm, Nat.add_mul, mS]
  rw [mA]
  omega
 have juv : u1 + q * u2 ≤ v1 + q * v2 := by
  have e1 : q * u2 = (q - 1) * u2 + u2 := by rw [← Nat.succ_mul]; congr 1; omega
  have e2 : q * v2 = (q - 1) * v2 + v2 := by rw [← Nat.succ_mul]; congr 1; omega
  have e3 : (q - 1) * u2 ≤ (q - 1) * v2 := Nat.mul_le_mul_left _ k.uv2
  have := k.uvs
  omega
 have hb1 : v1 + q * v2 ≤ x0 := by
  have e := Nat.le_mul_of_pos_left (v1 + q * v2) hy
  omega
 have hx0 := h.lt
 have hv2x : v2 ≤ x0 := by
  have e := Nat.le_mul_of_pos_left v2 (show 0 < x by omega)
  have := k.i1
  omega
 have ey2 : row (sg t) u2 v2 x0 y0 = - (y : Int) := by
  have := k.ey
  rw [row_neg] at this
  omega
 refine ⟨⟨j1, j2, ?_, ?_, by omega, juv, by have := k.uv2; omega, ?_, by have := k.uv2; omega, .inr ?_⟩, by omega, by omega⟩
 ·rw [sg_not]; exact k.ey
 ·rw [sg_not, Int.neg_neg, row_lin, k.ex, ey2, Int.mul_neg]
  have : (x : Int) = (y : Int) * (q : Int) + (r : Int) := by exact_mod_cast hdm.symm
  rw [this, Int.mul_comm]
  omega
 ·have e := Nat.le_mul_of_pos_left v2 (show 0 < q by omega)
  omega
 ·have hH := h.hp
  have hgap : row (sg t) (u1 + u2) (v1 + v2) x0 y0 = (x : Int) - (y : Int) := by rw [row_add, k.ex, ey2]; omega
  rcases k.st with ⟨s1, s2, s3, s4, s5, s6, s7⟩ | ⟨F0, F1, q0, s1, s2, s3, s4, s5, s6, s7⟩
  ·subst s3; subst s4; subst s5; subst s6; subst s7
   have hAB : B < A := by
    have e1 := h.a1
    have e2 := h.b2
    have e3 := k.i1
    have e4 := k.i2
    have e5 : (y0 + 1) * H ≤ x0 * H := Nat.mul_le_mul_right _ (by omega)
    rw [Nat.succ_mul] at e5
    omega
   refine ⟨A, B, q, ?_, ?_, ?_, hAB, by omega, rfl, .inl ⟨rfl, rfl, rfl⟩⟩
   ·simp [row, sg]
   ·simp [row, sg]
   ·simp [row, sg]
  ·obtain ⟨n1, n2⟩ := row_near h (- sg t) (nsg_or t) u2 v2 k.uv2 hv2
   rw [k.ey] at n1
   have hge : (v2 : Int) * (H : Int) ≤ (y : Int) * (H : Int) := by exact_mod_cast Nat.mul_le_mul_right H g1
   obtain ⟨m1, m2⟩ := row_near h (sg t) (sg_or t) (u1 + u2) (v1 + v2) k.uvs (by omega)
   rw [hgap] at m1
   have hge2 : ((v1 + v2 : Nat) : Int) * (H : Int) ≤ ((x : Int) - (y : Int)) * (H : Int) := by
    have e : ((x : Int) - (y : Int)) = ((x - y : Nat) : Int) := by omega
    rw [e]
    exact_mod_cast Nat.mul_le_mul_right H g2
   rw [row_add] at m1
   have hneg : row (sg t) u2 v2 A B = - row (- sg t) u2 v2 A B := by rw [row_neg, Int.neg_neg]
   obtain ⟨F2, hF2⟩ := Int.eq_ofNat_of_zero_le (show 0 ≤ row (- sg t) u2 v2 A B by omega)
   refine ⟨F1, F2, q, ?_, ?_, ?_, ?_, hv2, ?_, .inr ⟨by omega, ?_⟩⟩
   ·rw [sg_not, Int.neg_neg]; exact s2
   ·rw [sg_not]; exact hF2
   ·rw [sg_not, Int.neg_neg, row_lin, s2, hneg, hF2, Int.mul_neg]; rfl
   ·omega
   ·rw [← s6]
    exact gcd_lin (q := q0) (by rw [← hF2]; exact s3)
   ·rcases s7 with ⟨_, _, e⟩ | ⟨_, e⟩ <;> omega
def Foreseen (A B : Nat) (u0 v0 u1 v1 : Nat) (t : Bool) : Prop :=
 u0 < B64 ∧ v0 < B64 ∧ u1 < B64 ∧ v1 < B64 ∧
 (v0 ≠ 0 → ∃ F0 F1 : Nat, row (- sg t) u0 v0 A B = (F0 : Int) ∧ row (sg t) u1 v1 A B = (F1 : Int) ∧ F1 < F0 ∧ F0 ≤ B ∧ Nat.gcd F0 F1 = Nat.gcd A B)
theorem fore_end (k : Fore A B x0 y0 H u0 v0 u1 v1 u2 v2 x y t) (b0 : u0 < B64) (b1 : v0 < B64) (b2 : u1 < B64) (b3 : v1 < B64) : Foreseen A B u0 v0 u1 v1 t := by
 refine ⟨b0, b1, b2, b3, fun h0 => ?_⟩
 rcases k.st with ⟨s1, _⟩ | ⟨F0, F1, q0, s1, s2, s3, s4, s5, s6, s7⟩
 ·exact absurd s1 h0
 ·rcases s7 with ⟨e, _⟩ | ⟨_, e⟩
  ·exact absurd e h0
  ·exact ⟨F0, F1, s1, s2, s4, e, s6⟩
end
end

section
open Go.RowKit
def Bl (w : World) (g t l o u b : Nat) : Prop := w.heap[g]? = some (.cells #[.int .u64 (t : Int), .int .u64 (l : Int), .int .u64 (o : Int), .int .u64 (u : Int), .int .u64 (b : Int)] 237 (0, 0))
theorem Bl.c {w : World} {g t l o u b : Nat} (h : Bl w g t l o u b) : w.cell? ⟨g, 0, none⟩ = some (.int .u64 (t : Int)) ∧ w.cell? ⟨g, 1, none⟩ = some (.int .u64 (l : Int)) ∧ w.cell? ⟨g, 2, none⟩ = some (.int .u64 (o : Int)) ∧
  w.cell? ⟨g, 3, none⟩ = some (.int .u64 (u : Int)) ∧ w.cell? ⟨g, 4, none⟩ = some (.int .u64 (b : Int)) := by
 unfold Bl at h
 refine ⟨?_, ?_, ?_, ?_, ?_⟩ <;> rw [cell_of_row w g _ _ _ _ h] <;> rfl
theorem Bl.f {w : World} {g t l o u b : Nat} (h : Bl w g t l o u b) (i : Nat) : w.frozen? ⟨g, i, none⟩ = false := frozen_of_row w g i _ _ h
theorem Bl.s2 {w : World} {g t l o u b : Nat} (h : Bl w g t l o u b) (x : Nat) : Bl (w.setCell ⟨g, 2, none⟩ (.int .u64 (x : Int))) g t l x u b := by
 unfold Bl at h ⊢
 rw [heap_setCell_same _ g 2 _ _ _ h]; rfl
theorem Bl.s3 {w : World} {g t l o u b : Nat} (h : Bl w g t l o u b) (x : Nat) : Bl (w.setCell ⟨g, 3, none⟩ (.int .u64 (x : Int))) g t l o x b := by
 unfold Bl at h ⊢
 rw [heap_setCell_same _ g 3 _ _ _ h]; rfl
theorem Bl.s4 {w : World} {g t l o u b : Nat} (h : Bl w g t l o u b) (x : Nat) : Bl (w.setCell ⟨g, 4, none⟩ (.int .u64 (x : Int))) g t l o u x := by
 unfold Bl at h ⊢
 rw [heap_setCell_same _ g 4 _ _ _ h]; rfl
structure NextPost (w : World) (g t l o u b x y : Nat) (e : Ending) (w' : World) : Prop where
 ret : e = .returned (.int .u64 ((slo (lo (x * t + o)) (lo (y * l + u)) b : Nat) : Int))
 bl : Bl w' g t l (hi (x * t + o)) (hi (y * l + u)) (sbo (lo (x * t + o)) (lo (y * l + u)) b)
 only : Only g w w'
theorem next_mem {w : World} {g t l o u b : Nat} (h : Bl w g t l o u b) (o' u' b' : Nat) (n : Nat) :
  Bl ((((w.setCell ⟨g, 2, none⟩ (.int .u64 (o' : Int))).setCell ⟨g, 3, none⟩ (.int .u64 (u' : Int))).setCell ⟨g, 4, none⟩ (.int .u64 (b' : Int))).drewN n) g t l o' u' b' ∧
  Only g w ((((w.setCell ⟨g, 2, none⟩ (.int .u64 (o' : Int))).setCell ⟨g, 3, none⟩ (.int .u64 (u' : Int))).setCell ⟨g, 4, none⟩ (.int .u64 (b' : Int))).drewN n) :=
 ⟨((h.s2 o').s3 u').s4 b', ((((Only.refl g w).set 2 _).set 3 _).set 4 _).drewN n⟩
set_option maxHeartbeats 4000000 in
theorem next_any (w : World) (g t l o u b x y : Nat) (h : Bl w g t l o u b) (ht : t < B64) (hl : l < B64) (ho : o < B64) (hu : u < B64) (hb : b ≤ 1) (hx : x < B64) (hy : y < B64) :
  Calls Tryz.prog 254 #[.pointer (some ⟨g, 0, none⟩), .int .u64 x, .int .u64 y] w (NextPost w g t l o u b x y) := by
 obtain ⟨c0, c1, c2, c3, c4⟩ := h.c
 have f2 := h.f 2
 have f3 := h.f 3
 have f4 := h.f 4
 have HP1 := Lib.hid (fun W : World => product_any x t o hx ht ho W)
 have HP2 := Lib.hid (fun W : World => product_any y l u hy hl hu W)
 have HM := Lib.hid (next_mem h (hi (x * t + o)) (hi (y * l + u)) (sbo (lo (x * t + o)) (lo (y * l + u)) b) 2)
 clear h
 have hsub := run_sub (lo (x * t + o)) (lo (y * l + u)) b hb
 go_enter Tryz.func254, Tryz.ntmps254
 go_wp2_with fail
 go_region_with (first
  | (go_at_call 223; refine (HP1.out _).mono ?_; rintro e w' ⟨rfl, rfl⟩))
 all_goals
  go_wp2_with fail
  go_region_with (first
   | (go_at_call 223; refine (HP2.out _).mono ?_; rintro e w' ⟨rfl, rfl⟩))
  all_goals
   go_wp2_with fail
   go_ret
   exact ⟨rfl, HM.out.1, HM.out.2⟩
end

section
set_option maxHeartbeats 2000000
open Go.RowKit
theorem turned_any (w : World) (t l : Nat) :
  Calls Tryz.prog 240 #[.agg #[.int .u64 (t : Int), .int .u64 (l : Int)]] w fun e w' => e = .returned (.agg #[.int .u64 (l : Int), .int .u64 (t : Int)]) ∧ Below w.heap.size w w' := by
 go_enter Tryz.func240, Tryz.ntmps240
 go_wp2
 refine bodyPost_ret (v := .agg #[.int .u64 (l : Int), .int .u64 (t : Int)]) (by simp [results, Tryz.results240, go_sem]) rfl ⟨rfl, ?_⟩
 exact ((Below.refl _ _).alloc (Nat.le_refl _) _).alloc (by simp) _
theorem quiet_left {P : Program} {f : FuncId} {args : Array Value} {w : World} {n : Nat} {v : Value}
  (h : Calls P f args (w.drewN n) fun e w' => e = .returned v ∧ w.drewN n = w') : Calls P f args (w.drewN n) fun e w'' => e = .returned v ∧ ∃ m, w'' = w.drewN m :=
 h.mono fun _ _ ⟨he, hm⟩ => ⟨he, n, hm.symm⟩
def ld (X : List Nat) (n s : Nat) : Nat := lo (dg X (n - 1) * 2 ^ s) + hi (dg X (n - 2) * 2 ^ s)
theorem ld_near {X : List Nat} {n s : Nat} (hX : Digs X) (hl : X.length ≤ n) (h2 : 2 ≤ n) (hs : s ≤ 64) (ht : dg X (n - 1) * 2 ^ s < B64) :
  ld X n s * (B64 ^ (n - 2) * 2 ^ (64 - s)) ≤ val X ∧ val X < ld X n s * (B64 ^ (n - 2) * 2 ^ (64 - s)) + B64 ^ (n - 2) * 2 ^ (64 - s) := by
 have h1 := val_take_dg X (n - 1)
 have h3 := val_take_dg X (n - 2)
 rw [show n - 1 + 1 = n by omega, List.take_of_length_le hl] at h1
 rw [show n - 2 + 1 = n - 1 by omega] at h3
 have h4 := val_lt (hX.take (n - 2))
 have h5 : B64 ^ (X.take (n - 2)).length ≤ B64 ^ (n - 2) := Nat.pow_le_pow_right B64_pos (by rw [List.length_take]; omega)
 have hp : B64 ^ (n - 1) = B64 ^ (n - 2) * B64 := by rw [← Nat.pow_succ]; congr 1; omega
 rw [h3, hp] at h1
 have hlo : lo (dg X (n - 1) * 2 ^ s) = dg X (n - 1) * 2 ^ s := lo_of_lt ht
 have hlh := lo_hi (dg X (n - 2) * 2 ^ s)
 have hll := lo_lt (dg X (n - 2) * 2 ^ s)
 unfold ld
 rw [hlo]
 generalize val (X.take (n - 2)) = L at *
 generalize dg X (n - 1) = a at *
 generalize dg X (n - 2) = b at *
 generalize B64 ^ (n - 2) = P at *
 have hsp := B64_split hs
 have hV : (b + B64 * a) * 2 ^ s = B64 * (a * 2 ^ s + hi (b * 2 ^ s)) + lo (b * 2 ^ s) := by
  rw [Nat.add_mul, mA, mS]
  omega
 generalize hx : a * 2 ^ s + hi (b * 2 ^ s) = x at *
 have hq : 0 < 2 ^ s := Nat.pow_pos (by omega)
 have k1 : x * 2 ^ (64 - s) ≤ b + B64 * a := by
  refine Nat.le_of_mul_le_mul_right (c := 2 ^ s) ?_ hq
  rw [mS, ← hsp, hV, Nat.mul_comm x]
  omega
 have k2 : b + B64 * a < x * 2 ^ (64 - s) + 2 ^ (64 - s) := by
  refine Nat.lt_of_mul_lt_mul_right (a := 2 ^ s) ?_
  have e5 : (x * 2 ^ (64 - s) + 2 ^ (64 - s)) * 2 ^ s = B64 * x + B64 := by rw [Nat.add_mul, mS, ← hsp, Nat.mul_comm x]
  rw [e5, hV]
  omega
 have e1 : val X = L + P * (b + B64 * a) := by rw [h1, mA, mS]; omega
 have e2 : x * (P * 2 ^ (64 - s)) = P * (x * 2 ^ (64 - s)) := Nat.mul_left_comm _ _ _
 have e3 : P * (x * 2 ^ (64 - s)) ≤ P * (b + B64 * a) := Nat.mul_le_mul_left _ k1
 have e4 : P * (b + B64 * a) + P ≤ P * (x * 2 ^ (64 - s) + 2 ^ (64 - s)) := by
  rw [← Nat.mul_succ]; exact Nat.mul_le_mul_left _ k2
 rw [mA P (x * 2 ^ (64 - s))] at e4
 rw [e1, e2]
 generalize P * (b + B64 * a) = v at *
 generalize P * (x * 2 ^ (64 - s)) = v' at *
 refine ⟨?_, ?_⟩ <;> omega
theorem ld_lead {X Y : List Nat} {n s : Nat} (hX : Digs X) (hY : Digs Y) (hxl : X.length = n) (hyl : Y.length ≤ n) (h2 : 2 ≤ n) (hs : s ≤ 63) (ht : dg X (n - 1) * 2 ^ s < B64) (hle : val Y ≤ val X) :
  Lead (val X) (val Y) (ld X n s) (ld Y n s) (B64 ^ (n - 2) * 2 ^ (64 - s)) := by
 have hty : dg Y (n - 1) ≤ dg X (n - 1) := by
  have h1 := val_take_dg X (n - 1)
  have h3 := val_take_dg Y (n - 1)
  rw [show n - 1 + 1 = n by omega, List.take_of_length_le (Nat.le_of_eq hxl)] at h1
  rw [show n - 1 + 1 = n by omega, List.take_of_length_le hyl] at h3
  have h4 := val_lt (hX.take (n - 1))
  have h5 : B64 ^ (X.take (n - 1)).length ≤ B64 ^ (n - 1) := Nat.pow_le_pow_right B64_pos (by rw [List.length_take]; omega)
  refine Nat.le_of_lt_succ (Nat.lt_of_mul_lt_mul_left (a := B64 ^ (n - 1)) ?_)
  rw [Nat.mul_succ]
  omega
 have hty2 : dg Y (n - 1) * 2 ^ s < B64 := Nat.lt_of_le_of_lt (Nat.mul_le_mul_right _ hty) ht
 obtain ⟨a1, a2⟩ := ld_near hX (Nat.le_of_eq hxl) h2 (by omega) ht
 obtain ⟨b1, b2⟩ := ld_near hY hyl h2 (by omega) hty2
 have hH : 0 < B64 ^ (n - 2) * 2 ^ (64 - s) := Nat.mul_pos (pow_pos' _) (Nat.pow_pos (by omega))
 refine ⟨a1, a2, b1, b2, hH, ?_, ?_, hle⟩
 ·refine Nat.le_of_lt_succ (Nat.lt_of_mul_lt_mul_right (a := B64 ^ (n - 2) * 2 ^ (64 - s)) ?_)
  rw [Nat.succ_mul]
  omega
 ·have h1 := raise_digit_lt hX (show s ≤ 64 by omega) (n - 1)
  rw [show rc X s (n - 1) = hi (dg X (n - 2) * 2 ^ s) by unfold rc; rw [if_neg (by omega)]; rfl] at h1
  exact h1
theorem at_any (w : World) (p pn ps n s c : Nat) (A : Option Addr) (X : List Nat) (hA : Num w A X) (hX : X.length ≤ 1099511627776) (hn : n ≤ 1099511627776) (h2 : 2 ≤ n) (hs : s ≤ 63)
  (hp : w.cell? ⟨p, 0, none⟩ = some (.slice A X.length c)) (hpn : w.cell? ⟨pn, 0, none⟩ = some (.int .i64 (n : Int))) (hps : w.cell? ⟨ps, 0, none⟩ = some (.int .u64 (s : Int))) :
  Calls Tryz.prog 250 #[.func (.func 221) #[] #[.pointer (some ⟨p, 0, none⟩)], .pointer (some ⟨pn, 0, none⟩), .pointer (some ⟨ps, 0, none⟩)] w
   fun e w' => e = .returned (.int .u64 ((ld X n s : Nat) : Int)) ∧ ∃ k, w' = w.drewN k := by
 have hs64 : s ≤ 64 := by omega
 have hw64 : IntKind.u64.wrap (64 - (s : Int)) = 64 - (s : Int) := by rw [IntKind.wrap_u64]; omega
 have hw1 : IntKind.i64.wrap ((n : Int) - 1) = (n : Int) - 1 := IntWalk.i64_in _ (by omega)
 have hw2 : IntKind.i64.wrap ((n : Int) - 2) = (n : Int) - 2 := IntWalk.i64_in _ (by omega)
 have H1 := Lib.hid (fun W : Nat => digit_z (w.drewN W) p A c (n - 1) ((n : Int) - 1) (by omega) X (hA.drewN W) hX hp)
 have H2 := Lib.hid (fun W : Nat => digit_z (w.drewN W) p A c (n - 2) ((n : Int) - 2) (by omega) X (hA.drewN W) hX hp)
 have HU : Hid (bits BinOp.or IntKind.u64 (IntKind.u64.wrap (((dg X (n - 1) : Nat) : Int) * 2 ^ s)) (((dg X (n - 2) : Nat) : Int) / 2 ^ (64 - s)) = ((ld X n s : Nat) : Int)) := raise_or (dg_lt hA.1 _) hs64
 clear hA hp
 go_enter Tryz.func250, Tryz.ntmps250
 go_wp2_with fail
 go_quiet ((go_at_call 221; first | with_reducible exact quiet_left (H1.out _) | with_reducible exact quiet_left (H2.out _)))
 go_wp2_with fail
 go_ret
 rw [HU.out]
 exact ⟨rfl, _, rfl⟩
end

section
open Lib renaming hid → lh
open Go.RowKit
def LeadPost (w : World) (x y : Nat) (e : Ending) (w' : World) : Prop := e = .returned (.tuple #[.int .u64 (x : Int), .int .u64 (y : Int)]) ∧ Below w.heap.size w w'
theorem cells3 (w : World) (v1 v2 v3 : Value) (t1 t2 t3 : TypeId) :
  (((w.alloc (.cells #[v1] t1)).alloc (.cells #[v2] t2)).alloc (.cells #[v3] t3)).cell? ⟨w.heap.size, 0, none⟩ = some v1 ∧
  (((w.alloc (.cells #[v1] t1)).alloc (.cells #[v2] t2)).alloc (.cells #[v3] t3)).cell? ⟨w.heap.size + 1, 0, none⟩ = some v2 ∧
  (((w.alloc (.cells #[v1] t1)).alloc (.cells #[v2] t2)).alloc (.cells #[v3] t3)).cell? ⟨w.heap.size + 1 + 1, 0, none⟩ = some v3 := by
 have h3 := cell_of_one (heap_alloc_new ((w.alloc (.cells #[v1] t1)).alloc (.cells #[v2] t2)) (.cells #[v3] t3))
 have h2 := cell_of_one (heap_alloc_new (w.alloc (.cells #[v1] t1)) (.cells #[v2] t2))
 have h1 := cell_of_one (heap_alloc_new w (.cells #[v1] t1))
 have e1 : (w.alloc (.cells #[v1] t1)).heap.size = w.heap.size + 1 := by simp
 have e2 : ((w.alloc (.cells #[v1] t1)).alloc (.cells #[v2] t2)).heap.size = w.heap.size + 1 + 1 := by simp
 rw [e2] at h3
 rw [e1] at h2
 refine ⟨?_, ?_, h3⟩
 ·exact (World.cell?_alloc_lt _ _ _ (by simp; omega)).trans ((World.cell?_alloc_lt _ _ _ (by simp)).trans h1)
 ·exact (World.cell?_alloc_lt _ _ _ (by simp)).trans h2
set_option maxHeartbeats 2000000 in
theorem leading_any (w : World) (A B : Option Addr) (c d n s : Nat) (X Y : List Nat) (hA : Num w A X) (hB : Num w B Y) (hn : X.length = n) (hX : n ≤ 1099511627776) (hY : Y.length ≤ 1099511627776) (h2 : 2 ≤ n) (hs : s + blen (dg X (n - 1)) = 64) (hs63 : s ≤ 63) :
  Calls Tryz.prog 237 #[.slice A n c, .slice B Y.length d] w (LeadPost w (ld X n s) (ld Y n s)) := by
 subst hn
 obtain ⟨b1, o1, rfl, hb1, hc⟩ := hA.at_ (by omega)
 have ht := hc (X.length - 1) (by omega)
 have htd := dg_lt hA.1 (X.length - 1)
 have hsb : (64 : Int) - ((blen (dg X (X.length - 1)) : Nat) : Int) = (s : Int) := by omega
 have HLZ := lh (fun W : World => lz64_any _ htd W)
 rw [hsb] at HLZ
 have HA := lh hA
 have HB := lh hB
 have ht2 : (w.alloc (.cells #[.int .i64 ((X.length : Nat) : Int)] 3)).cell? ⟨b1, o1 + (X.length - 1), none⟩ = some (.int .u64 ((dg X (X.length - 1) : Nat) : Int)) := (World.cell?_alloc_lt w _ _ hb1).trans ht
 clear hA hB hc hs hsb htd
 go_enter Tryz.func237, Tryz.ntmps237
 go_wp2_with fail
 refine (HLZ.out _).mono ?_
 rintro e w' ⟨rfl, rfl⟩
 go_wp2_with fail
 refine (digitOf_any _ _ _ _).mono ?_
 rintro e w' ⟨rfl, rfl⟩
 go_wp2_with fail
 obtain ⟨k1, k2, k3⟩ := cells3 w (.int .i64 ((X.length : Nat) : Int)) (.int .u64 (s : Int)) (.slice (some ⟨b1, o1, none⟩) X.length c) 3 205 23
 have K1 := lh k1
 have K2 := lh k2
 have hat := at_any _ (w.heap.size + 1 + 1) w.heap.size (w.heap.size + 1) X.length s c (some ⟨b1, o1, none⟩) X (((HA.out.alloc _).alloc _).alloc _) (by omega) hX h2 hs63 k3 k1 k2
 refine hat.mono ?_
 clear hat k1 k2 k3
 rintro e w' ⟨rfl, q, rfl⟩
 have hsz : ((((w.alloc (.cells #[.int .i64 ((X.length : Nat) : Int)] 3)).alloc (.cells #[.int .u64 (s : Int)] 205)).alloc (.cells #[.slice (some ⟨b1, o1, none⟩) X.length c] 23)).drewN q).heap.size = w.heap.size + 3 := by simp [World.drewN]
 have HSZ := lh hsz
 clear hsz
 go_wp2_with fail
 refine (digitOf_any _ _ _ _).mono ?_
 rintro e w' ⟨rfl, rfl⟩
 go_wp2_with fail
 have lt1 : w.heap.size < ((((w.alloc (.cells #[.int .i64 ((X.length : Nat) : Int)] 3)).alloc (.cells #[.int .u64 (s : Int)] 205)).alloc (.cells #[.slice (some ⟨b1, o1, none⟩) X.length c] 23)).drewN q).heap.size := by rw [HSZ.out]; omega
 have lt2 : w.heap.size + 1 < ((((w.alloc (.cells #[.int .i64 ((X.length : Nat) : Int)] 3)).alloc (.cells #[.int .u64 (s : Int)] 205)).alloc (.cells #[.slice (some ⟨b1, o1, none⟩) X.length c] 23)).drewN q).heap.size := by rw [HSZ.out]; omega
 have k4 := cell_of_one (heap_alloc_new ((((w.alloc (.cells #[.int .i64 ((X.length : Nat) : Int)] 3)).alloc (.cells #[.int .u64 (s : Int)] 205)).alloc (.cells #[.slice (some ⟨b1, o1, none⟩) X.length c] 23)).drewN q) (.cells #[.slice B Y.length d] 23))
 rw [HSZ.out] at k4
 have hat := at_any _ (w.heap.size + 1 + 1 + 1) w.heap.size (w.heap.size + 1) X.length s d B Y (((((HB.out.alloc _).alloc _).alloc _).drewN q).alloc _) hY hX h2 hs63 k4 ((World.cell?_alloc_lt _ _ _ lt1).trans K1.out) ((World.cell?_alloc_lt _ _ _ lt2).trans K2.out)
 refine hat.mono ?_
 clear hat k4 lt1 lt2
 rintro e w' ⟨rfl, q2, rfl⟩
 go_wp2_with fail
 go_ret2
 refine ⟨rfl, below_drewN ?_ q2⟩
 exact (below_drewN ((((Below.refl _ _).alloc (Nat.le_refl _) _).alloc (by simp) _).alloc (by simp; omega) _) q).alloc (by rw [HSZ.out]; omega) _
end

section
open Go.RowKit
structure Blend (A B : List Nat) (t l k : Nat) (zs : List Nat) (o u b : Nat) : Prop where
 len : zs.length = k
 digs : Digs zs
 ho : o < B64
 hu : u < B64
 hb : b ≤ 1
 eq : val zs + val (B.take k) * l + B64 ^ k * o = val (A.take k) * t + B64 ^ k * (u + b)
theorem Blend.start (A B : List Nat) (t l : Nat) : Blend A B t l 0 [] 0 0 0 := ⟨rfl, Digs.nil, B64_pos, B64_pos, Nat.zero_le _, by simp [val_nil]⟩
theorem blend_round {v a c t l p o u b x y m o' s u' d b' : Nat} (h : v + c * l + p * o = a * t + p * (u + b)) (h1 : m + B64 * o' = x * t + o) (h2 : s + B64 * u' = y * l + u) (h3 : d + s + b = m + B64 * b') :
  v + p * d + (c + p * y) * l + p * B64 * o' = (a + p * x) * t + p * B64 * (u' + b') := by
 have e1 : p * m + p * (B64 * o') = p * (x * t) + p * o := by rw [← mA, h1, mA]
 have e2 : p * s + p * (B64 * u') = p * (y * l) + p * u := by rw [← mA, h2, mA]
 have e3 : p * d + p * s + p * b = p * m + p * (B64 * b') := by rw [← mA, ← mA, h3, mA]
 rw [Nat.add_mul, Nat.add_mul, mS p y l, mS p x t, mS p B64, mS p B64, mA B64, mA p (B64 * u')]
 rw [mA] at h
 omega
theorem blend_step {A B : List Nat} {t l k : Nat} {zs : List Nat} {o u b : Nat} (h : Blend A B t l k zs o u b) (hA : Digs A) (hB : Digs B) (ht : t < B64) (hl : l < B64) :
  Blend A B t l (k + 1) (zs ++ [slo (lo (dg A k * t + o)) (lo (dg B k * l + u)) b]) (hi (dg A k * t + o)) (hi (dg B k * l + u)) (sbo (lo (dg A k * t + o)) (lo (dg B k * l + u)) b) := by
 refine ⟨by simp [h.len], h.digs.snoc (slo_lt _ _ _), hi_prod_lt (dg_lt hA k) ht h.ho, hi_prod_lt (dg_lt hB k) hl h.hu, sbo_le _ _ _, ?_⟩
 rw [val_take_dg, val_take_dg, val_snoc, Nat.pow_succ, h.len]
 exact blend_round h.eq (lo_hi _) (lo_hi _) (slo_sbo (lo_lt _) (lo_lt _) h.hb)
theorem blend_end {A B : List Nat} {t l n F x y : Nat} {zs : List Nat} {o u b : Nat} (h : Blend A B t l n zs o u b) (hF : val (B.take n) * l + F + B64 ^ n * x = val (A.take n) * t + B64 ^ n * y) (hlt : F < B64 ^ n) : val zs = F := by
 have hz : val zs < B64 ^ n := by have := val_lt h.digs; rwa [h.len] at this
 have e : val zs + B64 ^ n * (o + y) = F + B64 ^ n * (x + (u + b)) := by
  have := h.eq
  rw [mA, mA (B64 ^ n) x]
  omega
 have e2 := congrArg (· % B64 ^ n) e
 simp only [Nat.add_mul_mod_self_left, Nat.mod_eq_of_lt hz, Nat.mod_eq_of_lt hlt] at e2
 exact e2
