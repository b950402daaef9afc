/- Part 15 of the proof: RParts, LehmerMath, Leap. -/
import Derived.Test.YthjiacmhhpfokaaGreatL14
namespace Go.Proofs.YthjiacmhhpfokaaGreat
namespace Q
open Lib renaming hid → lh
open Go.RowKit
def RetP (w : World) (q : Rat) (k : Nat) (e : Ending) (w' : World) : Prop :=
 ∃ s A n c t B m d y z, e = .returned (.tuple #[.agg #[.bool s, .slice A n c], .agg #[.bool t, .slice B m d]]) ∧ IsZ w' s A n c y k ∧ IsZ w' t B m d z k ∧ 0 < z ∧ Rat.divInt y z = q ∧ Below w.heap.size w w'
structure PS (w wx : World) (p r : Nat) (s : Bool) (A : Option Addr) (n c : Nat) (t : Bool) (B : Option Addr) (m d : Nat) : Prop where
 bel : Below w.heap.size w wx
 i1 : Ibx wx p s A n c
 i2 : Ibx wx r t B m d
 o1 : Ibx wx (w.heap.size + 1) false none 0 0
 o2 : Ibx wx (w.heap.size + 1 + 1) false none 0 0
 ne : p ≠ r
 hp : w.heap.size + 1 + 1 < p
 hr : w.heap.size + 1 + 1 < r
section
variable {w wx wy : World} {p r : Nat} {s t s' t' : Bool} {A B A' B' : Option Addr} {n c m d n' c' m' d' : Nat}
theorem PS.below (h : PS w wx p r s A n c t B m d) (hb : Below wx.heap.size wx wy) : PS w wy p r s A n c t B m d :=
 ⟨below_on h.bel hb, h.i1.below hb, h.i2.below hb, h.o1.below hb, h.o2.below hb, h.ne, h.hp, h.hr⟩
theorem PS.num (h : PS w wx p r s A n c t B m d) : PS w (put2 wx p s' A' n' c') p r s' A' n' c' t B m d :=
 ⟨below_put2 h.bel (by have := h.hp; omega), h.i1.put, h.i2.put_far h.ne.symm, h.o1.put_far (by have := h.hp; omega), h.o2.put_far (by have := h.hp; omega), h.ne, h.hp, h.hr⟩
theorem PS.den (h : PS w wx p r s A n c t B m d) : PS w (put2 wx r t' B' m' d') p r s A n c t' B' m' d' :=
 ⟨below_put2 h.bel (by have := h.hr; omega), h.i1.put_far h.ne, h.i2.put, h.o1.put_far (by have := h.hr; omega), h.o2.put_far (by have := h.hr; omega), h.ne, h.hp, h.hr⟩
theorem PS.turn (h : PS w wx p r s A n c t B m d) : PS w ((wx.setCell ⟨p, 0, none⟩ (.bool s')).setCell ⟨r, 0, none⟩ (.bool t')) p r s' A n c t' B m d :=
 ⟨(h.bel.setCell (show w.heap.size ≤ p by have := h.hp; omega) _).setCell (show w.heap.size ≤ r by have := h.hr; omega) _, h.i1.s0.far h.ne _, (h.i2.far (show r ≠ p from h.ne.symm) _).s0, (h.o1.far (show _ ≠ p by have := h.hp; omega) _).far (show _ ≠ r by have := h.hr; omega) _, (h.o2.far (show _ ≠ p by have := h.hp; omega) _).far (show _ ≠ r by have := h.hr; omega) _, h.ne, h.hp, h.hr⟩
end
theorem IsZ.flip {w : World} {s : Bool} {A : Option Addr} {n c k : Nat} {z : Int} (h : IsZ w s A n c z k) : IsZ w (!s) A n c (-z) k :=
 ⟨by obtain ⟨xs, h1, h2, h3⟩ := h.ex; exact ⟨xs, h1, h2, by rw [← h3]; cases s <;> simp [zv]⟩, h.le, h.cap⟩
theorem IsZ.sgn {w : World} {s : Bool} {A : Option Addr} {n c k : Nat} {z : Int} (h : IsZ w s A n c z k) (hz : z ≠ 0) : s = zneg z := by
 obtain ⟨xs, h1, h2, h3⟩ := h.ex
 rw [← h3] at hz ⊢
 symm
 apply zneg_of
 cases s <;> simp [zv] at * <;> omega
theorem IsZ.nil (w : World) (s : Bool) (A : Option Addr) (c k : Nat) : IsZ w s A 0 c 0 k := ⟨⟨[], rfl, Num.nil _ _, zv_zero s⟩, Nat.zero_le _, Nat.zero_le _⟩
theorem IsQ.two {w : World} {s t : Bool} {A B : Option Addr} {n c m d k : Nat} {q : Rat} (h : IsQ w s A n c t B m d q k) : ∃ y z, IsZ w s A n c y k ∧ IsZ w t B m d z k ∧ Rat.divInt y (if m = 0 then 1 else z) = q := by
 obtain ⟨xs, ys, h1, h2, h3, h4, h5⟩ := h.ex
 refine ⟨_, _, ⟨⟨xs, h1, h3, rfl⟩, h.le, h.cap⟩, ⟨⟨ys, h2, h4, rfl⟩, h.le2, h.cap2⟩, ?_⟩
 rw [h2]
 exact h5
set_option maxRecDepth 100000 in
set_option maxHeartbeats 4000000 in
theorem parts_any (w : World) (s t : Bool) (A B : Option Addr) (n c m d k : Nat) (q : Rat) (h : IsQ w s A n c t B m d q k) (hk : 1 ≤ k) (hk2 : k ≤ 3000) :
  Calls Tryz.prog 132 #[.agg #[.bool s, .slice A n c, .bool t, .slice B m d]] w (RetP w q k) := by
 obtain ⟨y, z, hy, hz, hq⟩ := h.two
 have HY := lh hy
 have HZ := lh hz
 have HQ := lh hq
 clear hy hz hq h
 go_enter Tryz.func132, Tryz.ntmps132
 go_upto_region 1 with fail
 go_cut [4, 5] (fun s4 s5 wx => ∃ (p r : Nat), s4 = .pointer (some ⟨p, 0, none⟩) ∧ s5 = .pointer (some ⟨r, 0, none⟩) ∧ Hid (PS w wx p r s A n c t B m d) ∧ Hid (IsZ wx s A n c y k) ∧ Hid (IsZ wx t B m d z k))
 case first =>
  go_region
  all_goals
   go_wp2_with fail
   go_meet
  ·refine ⟨w.heap.size + 1 + 1 + 1, w.heap.size + 1 + 1 + 1 + 1, rfl, rfl, ⟨Below.drew ?_, ?_, ?_, ?_, ?_, by omega, by omega, by omega⟩, (((((HY.out.alloc _).alloc _).alloc _).alloc _).alloc _).drew, (((((HZ.out.alloc _).alloc _).alloc _).alloc _).alloc _).drew⟩
   ·exact (((((Below.refl w.heap.size w).alloc (Nat.le_refl _) _).alloc (by simp) _).alloc (by simp; omega) _).alloc (by simp; omega) _).alloc (by simp; omega) _
   ·exact (Ibx.alloc (Ibx.new' _ _ _ _ _ _ (by simp)) _).drew
   ·exact (Ibx.new' _ _ _ _ _ _ (by simp)).drew
   ·exact (Ibx.alloc (Ibx.alloc (Ibx.alloc (Ibx.new' _ _ _ _ _ _ (by simp)) _) _) _).drew
   ·exact (Ibx.alloc (Ibx.alloc (Ibx.new' _ _ _ _ _ _ (by simp)) _) _).drew
  ·refine ⟨w.heap.size + 1 + 1 + 1 + 1, w.heap.size + 1 + 1 + 1, rfl, rfl, ⟨Below.drew ?_, ?_, ?_, ?_, ?_, by omega, by omega, by omega⟩, (((((HY.out.alloc _).alloc _).alloc _).alloc _).alloc _).drew, (((((HZ.out.alloc _).alloc _).alloc _).alloc _).alloc _).drew⟩
   ·exact (((((Below.refl w.heap.size w).alloc (Nat.le_refl _) _).alloc (by simp) _).alloc (by simp; omega) _).alloc (by simp; omega) _).alloc (by simp; omega) _
   ·exact (Ibx.new' _ _ _ _ _ _ (by simp)).drew
   ·exact (Ibx.alloc (Ibx.new' _ _ _ _ _ _ (by simp)) _).drew
   ·exact (Ibx.alloc (Ibx.alloc (Ibx.alloc (Ibx.new' _ _ _ _ _ _ (by simp)) _) _) _).drew
   ·exact (Ibx.alloc (Ibx.alloc (Ibx.new' _ _ _ _ _ _ (by simp)) _) _).drew
 case rest =>
  obtain ⟨p, r, rfl, rfl, hps, hy, hz⟩ := hcut
  have HP := hps
  clear HY HZ
  have HY := hy
  have HZ := hz
  clear hps hy hz
  have hpr : p ≠ r := HP.out.ne
  go_upto_block 0 with fail
  go_cut [] (fun wx => ∃ (s' : Bool) (A' : Option Addr) (n' c' : Nat) (t' : Bool) (B' : Option Addr) (m' d' : Nat) (y' z' : Int), Hid (PS w wx p r s' A' n' c' t' B' m' d') ∧ Hid (IsZ wx s' A' n' c' y' k) ∧ Hid (IsZ wx t' B' m' d' z' k) ∧ 0 < z' ∧ Rat.divInt y' z' = q)
  case first =>
   have r0 := HP.out.i2.c0
   have r1 := HP.out.i2.c1
   have fr0 := HP.out.i2.f 0
   have fr1 := HP.out.i2.f 1
   by_cases hm : m = 0
   ·have hm0 : ((m : Int) == 0) = true := by rw [hm]; rfl
    have HE : Hid (Rat.divInt y 1 = q) := by show _ = _; rw [← HQ.out, if_pos hm]
    clear hm
    go_wp2_with fail
    refine (of_j _ 1 (by omega) (by omega)).mono ?_
    rintro e w1 ⟨s1, A1, n1, c1, rfl, h1, hb1⟩
    have HP1 := lh (HP.out.below hb1)
    have HY1 := lh (HY.out.below hb1)
    have HO1 := lh (h1.isz (k := k) (Nat.le_trans (zl_small (by omega) (by omega)) hk))
    clear h1 hb1 r0 r1 fr0 fr1
    have r0 := HP1.out.i2.c0
    have r1 := HP1.out.i2.c1
    have fr0 := HP1.out.i2.f 0
    have fr1 := HP1.out.i2.f 1
    go_wp2_with fail
    go_meet
    exact ⟨s, A, n, c, s1, A1, n1, c1, y, 1, HP1.out.den, HY1.out.on2 HP1.out.i2.bx, HO1.out.on2 HP1.out.i2.bx, by omega, HE.out⟩
   ·have hm0 : ((m : Int) == 0) = false := by rw [beq_eq_false_iff_ne]; omega
    have HE : Hid (Rat.divInt y z = q) := by show _ = _; rw [← HQ.out, if_neg hm]
    clear hm
    by_cases hz0 : z = 0
    ·have HE0 : Hid (Rat.divInt 0 1 = q) := by show _ = _; rw [← HE.out, hz0, Rat.divInt_zero, Rat.zero_divInt]
     have HS : Hid (z.sign = 0) := by show _ = _; rw [hz0]; rfl
     clear hz0
     go_wp2_with fail
     refine (sign_j HZ.out hk2 0 HS.out).mono ?_
     rintro e w1 ⟨rfl, hb1⟩
     have HP1 := lh (HP.out.below hb1)
     clear hb1 r0 r1 fr0 fr1
     go_wp2_with fail
     refine (of_j _ 1 (by omega) (by omega)).mono ?_
     rintro e w2 ⟨s1, A1, n1, c1, rfl, h1, hb1⟩
     have HP2 := lh (HP1.out.below hb1)
     have HO1 := lh (h1.isz (k := k) (Nat.le_trans (zl_small (by omega) (by omega)) hk))
     clear h1 hb1
     have p0 := HP2.out.i1.c0
     have p1 := HP2.out.i1.c1
     have fp0 := HP2.out.i1.f 0
     have fp1 := HP2.out.i1.f 1
     have r0 := HP2.out.i2.c0
     have r1 := HP2.out.i2.c1
     have fr0 := HP2.out.i2.f 0
     have fr1 := HP2.out.i2.f 1
     go_wp2_with fail
     go_meet
     exact ⟨false, none, 0, 0, s1, A1, n1, c1, 0, 1, HP2.out.num.den, IsZ.nil _ _ _ _ _, (HO1.out.on2 HP2.out.i1.bx).on2 HP2.out.num.i2.bx, by omega, HE0.out⟩
    ·obtain ⟨sg, hsg⟩ : ∃ sg, z.sign = sg := ⟨_, rfl⟩
     have HS := lh hsg
     have hs0 : (sg == 0) = false := by rw [beq_eq_false_iff_ne, ← hsg]; exact fun h => hz0 (Int.sign_eq_zero_iff_zero.1 h)
     have hsgn := HZ.out.sgn hz0
     clear hsg
     cases t with
     | false =>
      have hzp : 0 < z := by unfold zneg at hsgn; have := of_decide_eq_false hsgn.symm; omega
      clear hz0 hsgn
      go_wp2_with fail
      refine (sign_j HZ.out hk2 sg HS.out).mono ?_
      rintro e w1 ⟨rfl, hb1⟩
      have HP1 := lh (HP.out.below hb1)
      have HY1 := lh (HY.out.below hb1)
      have HZ1 := lh (HZ.out.below hb1)
      clear hb1 r0 r1 fr0 fr1
      have r0 := HP1.out.i2.c0
      go_wp2_with fail
      go_meet
      exact ⟨s, A, n, c, false, B, m, d, y, z, HP1.out, HY1.out, HZ1.out, hzp, HE.out⟩
     | true =>
      have hzp : z < 0 := by unfold zneg at hsgn; exact of_decide_eq_true hsgn.symm
      have HE2 : Hid (Rat.divInt (-y) (-z) = q) := by show _ = _; rw [Rat.neg_divInt_neg, HE.out]
      clear hz0 hsgn
      go_wp2_with fail
      refine (sign_j HZ.out hk2 sg HS.out).mono ?_
      rintro e w1 ⟨rfl, hb1⟩
      have HP1 := lh (HP.out.below hb1)
      have HY1 := lh (HY.out.below hb1)
      have HZ1 := lh (HZ.out.below hb1)
      clear hb1 r0 r1 fr0 fr1
      have p0 := HP1.out.i1.c0
      have fp0 := HP1.out.i1.f 0
      have r0 := HP1.out.i2.c0
      have fr0 := HP1.out.i2.f 0
      go_wp2_with fail
      go_meet
      exact ⟨!s, A, n, c, false, B, m, d, -y, -z, HP1.out.turn, ((HY1.out.set HP1.out.i1.bx _ _).set (HP1.out.i2.far hpr.symm _).bx _ _).flip, ((HZ1.out.set HP1.out.i1.bx _ _).set (HP1.out.i2.far hpr.symm _).bx _ _).flip, by omega, HE2.out⟩
  case rest =>
   clear HP HY HZ HQ
   obtain ⟨s', A', n', c', t', B', m', d', y', z', HP, HY, HZ, hzp, hqq⟩ := hcut
   have HE := lh hqq
   clear hqq
   have p0 := HP.out.i1.c0
   have p1 := HP.out.i1.c1
   have r0 := HP.out.i2.c0
   have r1 := HP.out.i2.c1
   have o0 := HP.out.o1.c0
   have o1 := HP.out.o1.c1
   have v0 := HP.out.o2.c0
   have v1 := HP.out.o2.c1
   have fo0 := HP.out.o1.f 0
   have fo1 := HP.out.o1.f 1
   have fv0 := HP.out.o2.f 0
   have fv1 := HP.out.o2.f 1
   have hpp := HP.out.hp
   have hrr := HP.out.hr
   have e1 : w.heap.size + 1 ≠ p := by omega
   have e2 : w.heap.size + 1 + 1 ≠ p := by omega
   have e3 : w.heap.size + 1 ≠ r := by omega
   have e4 : w.heap.size + 1 + 1 ≠ r := by omega
   go_upto_region 8 with fail
   go_region
   all_goals
    go_wp2_with fail
    refine bodyPost_ret (v := .tuple #[.agg #[.bool s', .slice A' n' c'], .agg #[.bool t', .slice B' m' d']]) (by simp [results, Tryz.results132, go_sem, o0, o1, v0, v1]) rfl ?_
    exact ⟨s', A', n', c', t', B', m', d', y', z', rfl, ((HY.out.on2 HP.out.o1.bx).on2 (HP.out.o2.put_far (by omega)).bx).drew, ((HZ.out.on2 HP.out.o1.bx).on2 (HP.out.o2.put_far (by omega)).bx).drew, hzp, HE.out, (below_put2 (below_put2 HP.out.bel (by omega)) (by omega)).drew⟩
end Q

section
structure Lead (A B x0 y0 H : Nat) : Prop where
 a1 : x0 * H ≤ A
 a2 : A < x0 * H + H
 b1 : y0 * H ≤ B
 b2 : B < y0 * H + H
 hp : 0 < H
 le : y0 ≤ x0
 lt : x0 < B64
 ab : B ≤ A
def sg (t : Bool) : Int := if t then 1 else -1
theorem sg_not (t : Bool) : sg (!t) = - sg t := by cases t <;> rfl
def row (s : Int) (u v : Nat) (A B : Nat) : Int := s * ((u : Int) * (A : Int) - (v : Int) * (B : Int))
structure Fore (A B x0 y0 H : Nat) (u0 v0 u1 v1 u2 v2 x y : Nat) (t : Bool) : Prop where
 i1 : x * v2 + y * v1 = x0
 i2 : x * u2 + y * u1 = y0
 ex : row (sg t) u1 v1 x0 y0 = (x : Int)
 ey : row (- sg t) u2 v2 x0 y0 = (y : Int)
 xy : y ≤ x
 uv2 : u2 ≤ v2
 uvs : u1 + u2 ≤ v1 + v2
 v2p : 1 ≤ v2
 u1b : u1 ≤ B64 - 1
 /-- at the start, or some step done -/
 st : (v0 = 0 ∧ u0 = 0 ∧ u1 = 1 ∧ v1 = 0 ∧ u2 = 0 ∧ v2 = 1 ∧ t = true) ∨
  (∃ (F0 F1 : Nat) (q : Int), row (- sg t) u0 v0 A B = (F0 : Int) ∧ row (sg t) u1 v1 A B = (F1 : Int) ∧ row (- sg t) u2 v2 A B = (F0 : Int) - q * (F1 : Int) ∧ F1 < F0 ∧ 1 ≤ v1 ∧ Nat.gcd F0 F1 = Nat.gcd A B ∧
   ((v0 = 0 ∧ F0 = A ∧ F1 = B) ∨ (v0 ≠ 0 ∧ F0 ≤ B)))
section
variable {A B x0 y0 H u0 v0 u1 v1 u2 v2 x y : Nat} {t : Bool}
theorem fore_start (h : Lead A B x0 y0 H) : Fore A B x0 y0 H 0 0 1 0 0 1 x0 y0 true := by
 refine ⟨by omega, by omega, by simp [row, sg], by simp [row, sg], h.le, by omega, by omega, by omega, by rw [B64_eq]; omega, .inl ⟨rfl, rfl, rfl, rfl, rfl, rfl, rfl⟩⟩
theorem row_near (h : Lead A B x0 y0 H) (s : Int) (hs : s = 1 ∨ s = -1) (u v : Nat) (huv : u ≤ v) (hv : 1 ≤ v) :
  row s u v x0 y0 * (H : Int) - (v : Int) * (H : Int) < row s u v A B ∧ row s u v A B < row s u v x0 y0 * (H : Int) + (v : Int) * (H : Int) := by
 obtain ⟨α, hα⟩ : ∃ α, A = x0 * H + α := ⟨A - x0 * H, by have := h.a1; omega⟩
 obtain ⟨β, hβ⟩ : ∃ β, B = y0 * H + β := ⟨B - y0 * H, by have := h.b1; omega⟩
 have h1 : α < H := by have := h.a2; omega
 have h2 : β < H := by have := h.b2; omega
 have e1 : v * β < v * H := Nat.mul_lt_mul_of_pos_left h2 (by omega)
 have e2 : u * α < v * H := Nat.lt_of_le_of_lt (Nat.mul_le_mul_right α huv) (Nat.mul_lt_mul_of_pos_left h1 (by omega))
 have e : row s u v A B = row s u v x0 y0 * (H : Int) + s * ((u : Int) * (α : Int) - (v : Int) * (β : Int)) := by
  unfold row
  rw [hα, hβ]
  push_cast
  rw [Int.mul_assoc, ← Int.mul_add]
  congr 1
  rw [Int.sub_mul, Int.mul_add, Int.mul_add, Int.mul_assoc, Int.mul_assoc]
  omega
 have e1' : (v : Int) * (β : Int) < (v : Int) * (H : Int) := by exact_mod_cast e1
 have e2' : (u : Int) * (α : Int) < (v : Int) * (H : Int) := by exact_mod_cast e2
 have p1 : 0 ≤ (v : Int) * (β : Int) := Int.mul_nonneg (by omega) (by omega)
 have p2 : 0 ≤ (u : Int) * (α : Int) := Int.mul_nonneg (by omega) (by omega)
 rw [e]
 rcases hs with rfl | rfl
 ·rw [Int.one_mul]; omega
 ·rw [Int.neg_mul, Int.one_mul]; omega
theorem row_lin (s : Int) (u v p q k : Nat) (A B : Nat) : row s (u + k * p) (v + k * q) A B = row s u v A B + (k : Int) * row s p q A B := by
 unfold row
 push_cast
 rw [Int.mul_left_comm, ← Int.mul_add]
 congr 1
 rw [Int.add_mul, Int.add_mul, Int.mul_sub, Int.mul_assoc, Int.mul_assoc]
 omega
theorem row_neg (s : Int) (u v : Nat) (A B : Nat) : row (-s) u v A B = - row s u v A B := by unfold row; rw [Int.neg_mul]
theorem row_add (s : Int) (u v p q : Nat) (A B : Nat) : row s (u + p) (v + q) A B = row s u v A B + row s p q A B := by
 have h := row_lin s u v p q 1 A B
 rw [Nat.one_mul, Nat.one_mul] at h
 rw [h]; simp
theorem gcd_lin {a b c : Nat} {q : Int} (h : (c : Int) = (a : Int) - q * (b : Int)) : Nat.gcd b c = Nat.gcd a b := by
 refine Nat.dvd_antisymm (Nat.dvd_gcd ?_ (Nat.gcd_dvd_left _ _)) (Nat.dvd_gcd (Nat.gcd_dvd_right _ _) ?_)
 ·have h1 : ((Nat.gcd b c : Nat) : Int) ∣ (b : Int) := Int.ofNat_dvd.2 (Nat.gcd_dvd_left _ _)
  have h2 : ((Nat.gcd b c : Nat) : Int) ∣ (c : Int) := Int.ofNat_dvd.2 (Nat.gcd_dvd_right _ _)
  have h3 : (a : Int) = c + q * b := by omega
  refine Int.ofNat_dvd.1 ?_
  rw [h3]
  exact Int.dvd_add h2 (Int.dvd_mul_of_dvd_right h1)
 ·have h1 : ((Nat.gcd a b : Nat) : Int) ∣ (a : Int) := Int.ofNat_dvd.2 (Nat.gcd_dvd_left _ _)
  have h2 : ((Nat.gcd a b : Nat) : Int) ∣ (b : Int) := Int.ofNat_dvd.2 (Nat.gcd_dvd_right _ _)
  refine Int.ofNat_dvd.1 ?_
  rw [h]
  exact Int.dvd_sub h1 (Int.dvd_mul_of_dvd_right h2)
theorem sg_or (t : Bool) : sg t = 1 ∨ sg t = -1 := by cases t; exact .inr rfl; exact .inl rfl
theorem nsg_or (t : Bool) : - sg t = 1 ∨ - sg t = -1 := by cases t; exact .inl rfl; exact .inr rfl
theorem fore_sum (h : Lead A B x0 y0 H) (k : Fore A B x0 y0 H u0 v0 u1 v1 u2 v2 x y t) (g1 : v2 ≤ y) : v1 + v2 < B64 := by
 have h1 := k.i1
 have h2 := k.xy
 have h3 := k.v2p
 have h4 : v2 ≤ x * v2 := Nat.le_mul_of_pos_left v2 (by omega)
 have h5 : v1 ≤ y * v1 := Nat.le_mul_of_pos_left v1 (by omega)
 have h6 := h.lt
 omega
theorem fore_step (h : Lead A B x0 y0 H) (k : Fore A B x0 y0 H u0 v0 u1 v1 u2 v2 x y t) (g1 : v2 ≤ y) (g2 : v1 + v2 ≤ x - y) :
  Fore A B x0 y0 H u1 v1 u2 v2 (u1 + x / y * u2) (v1 + x / y * v2) y (x % y) (!t) ∧ u1 + x / y * u2 < B64 ∧ v1 + x / y * v2 < B64 := by
 have hv2 := k.v2p
 have hxy := k.xy
 have hy : 0 < y := by omega
 have hq : 1 ≤ x / y := (Nat.one_le_div_iff hy).2 hxy
 have hdm := Nat.div_add_mod x y
 have hml := Nat.mod_lt x hy
 obtain ⟨q, hqe⟩ : ∃ q, q = x / y := ⟨_, rfl⟩
 obtain ⟨r, hre⟩ : ∃ r, r = x % y := ⟨_, rfl⟩
 rw [← hqe] at hq hdm ⊢
 rw [← hre] at hdm hml ⊢
 have j1 : y * (v1 + q * v2) + r * v2 = x0 := by
  have := k.i1
  have e1 : x * v2 = y * (q * v2) + r * v2 := by rw [← hdm, Nat.add_mul, Nat.mul_assoc]
  rw [Nat.mul_add]
  omega
 have j2 : y * (u1 + q * u2) + r * u2 = y0 := by
  have := k.i2
  have e1 : x * u2 = y * (q * u2) + r * u2 := by rw [← hdm, Nat.add_mul, Nat.mul_assoc]
  rw [Nat.mul_add]
  omega
 have juv : u1 + q * u2 ≤ v1 + q * v2 := by
  have e1 : q * u2 = (q - 1) * u2 + u2 := by rw [← Nat.succ_mul]; congr 1; omega
  have e2 : q * v2 = (q - 1) * v2 + v2 := by rw [← Nat.succ_mul]; congr 1; omega
  have e3 : (q - 1) * u2 ≤ (q - 1) * v2 := Nat.mul_le_mul_left _ k.uv2
  have := k.uvs
  omega
 have hb1 : v1 + q * v2 ≤ x0 := by
  have e := Nat.le_mul_of_pos_left (v1 + q * v2) hy
  omega
 have hx0 := h.lt
 have hv2x : v2 ≤ x0 := by
  have e := Nat.le_mul_of_pos_left v2 (show 0 < x by omega)
  have := k.i1
  omega
 have ey2 : row (sg t) u2 v2 x0 y0 = - (y : Int) := by
  have := k.ey
  rw [row_neg] at this
  omega
 refine ⟨⟨j1, j2, ?_, ?_, by omega, juv, by have := k.uv2; omega, ?_, by have := k.uv2; omega, .inr ?_⟩, by omega, by omega⟩
 ·rw [sg_not]; exact k.ey
 ·rw [sg_not, Int.neg_neg, row_lin, k.ex, ey2, Int.mul_neg]
  have : (x : Int) = (y : Int) * (q : Int) + (r : Int) := by exact_mod_cast hdm.symm
  rw [this, Int.mul_comm]
  omega
 ·have e := Nat.le_mul_of_pos_left v2 (show 0 < q by omega)
  omega
 ·have hH := h.hp
  have hgap : row (sg t) (u1 + u2) (v1 + v2) x0 y0 = (x : Int) - (y : Int) := by rw [row_add, k.ex, ey2]; omega
  rcases k.st with ⟨s1, s2, s3, s4, s5, s6, s7⟩ | ⟨F0, F1, q0, s1, s2, s3, s4, s5, s6, s7⟩
  ·subst s3; subst s4; subst s5; subst s6; subst s7
   have hAB : B < A := by
    have e1 := h.a1
    have e2 := h.b2
    have e3 := k.i1
    have e4 := k.i2
    have e5 : (y0 + 1) * H ≤ x0 * H := Nat.mul_le_mul_right _ (by omega)
    rw [Nat.succ_mul] at e5
    omega
   refine ⟨A, B, q, ?_, ?_, ?_, hAB, by omega, rfl, .inl ⟨rfl, rfl, rfl⟩⟩
   ·simp [row, sg]
   ·simp [row, sg]
   ·simp [row, sg]
  ·obtain ⟨n1, n2⟩ := row_near h (- sg t) (nsg_or t) u2 v2 k.uv2 hv2
   rw [k.ey] at n1
   have hge : (v2 : Int) * (H : Int) ≤ (y : Int) * (H : Int) := by exact_mod_cast Nat.mul_le_mul_right H g1
   obtain ⟨m1, m2⟩ := row_near h (sg t) (sg_or t) (u1 + u2) (v1 + v2) k.uvs (by omega)
   rw [hgap] at m1
   have hge2 : ((v1 + v2 : Nat) : Int) * (H : Int) ≤ ((x : Int) - (y : Int)) * (H : Int) := by
    have e : ((x : Int) - (y : Int)) = ((x - y : Nat) : Int) := by omega
    rw [e]
    exact_mod_cast Nat.mul_le_mul_right H g2
   rw [row_add] at m1
   have hneg : row (sg t) u2 v2 A B = - row (- sg t) u2 v2 A B := by rw [row_neg, Int.neg_neg]
   obtain ⟨F2, hF2⟩ := Int.eq_ofNat_of_zero_le (show 0 ≤ row (- sg t) u2 v2 A B by omega)
   refine ⟨F1, F2, q, ?_, ?_, ?_, ?_, hv2, ?_, .inr ⟨by omega, ?_⟩⟩
   ·rw [sg_not, Int.neg_neg]; exact s2
   ·rw [sg_not]; exact hF2
   ·rw [sg_not, Int.neg_neg, row_lin, s2, hneg, hF2, Int.mul_neg]; rfl
   ·omega
   ·rw [← s6]
    exact gcd_lin (q := q0) (by rw [← hF2]; exact s3)
   ·rcases s7 with ⟨_, _, e⟩ | ⟨_, e⟩ <;> omega
def Foreseen (A B : Nat) (u0 v0 u1 v1 : Nat) (t : Bool) : Prop :=
 u0 < B64 ∧ v0 < B64 ∧ u1 < B64 ∧ v1 < B64 ∧
 (v0 ≠ 0 → ∃ F0 F1 : Nat, row (- sg t) u0 v0 A B = (F0 : Int) ∧ row (sg t) u1 v1 A B = (F1 : Int) ∧ F1 < F0 ∧ F0 ≤ B ∧ Nat.gcd F0 F1 = Nat.gcd A B)
theorem fore_end (k : Fore A B x0 y0 H u0 v0 u1 v1 u2 v2 x y t) (b0 : u0 < B64) (b1 : v0 < B64) (b2 : u1 < B64) (b3 : v1 < B64) : Foreseen A B u0 v0 u1 v1 t := by
 refine ⟨b0, b1, b2, b3, fun h0 => ?_⟩
 rcases k.st with ⟨s1, _⟩ | ⟨F0, F1, q0, s1, s2, s3, s4, s5, s6, s7⟩
 ·exact absurd s1 h0
 ·rcases s7 with ⟨e, _⟩ | ⟨_, e⟩
  ·exact absurd e h0
  ·exact ⟨F0, F1, s1, s2, s4, e, s6⟩
end
end

section
open Go.RowKit
def Bl (w : World) (g t l o u b : Nat) : Prop := w.heap[g]? = some (.cells #[.int .u64 (t : Int), .int .u64 (l : Int), .int .u64 (o : Int), .int .u64 (u : Int), .int .u64 (b : Int)] 237 (0, 0))
theorem Bl.c {w : World} {g t l o u b : Nat} (h : Bl w g t l o u b) : w.cell? ⟨g, 0, none⟩ = some (.int .u64 (t : Int)) ∧ w.cell? ⟨g, 1, none⟩ = some (.int .u64 (l : Int)) ∧ w.cell? ⟨g, 2, none⟩ = some (.int .u64 (o : Int)) ∧
  w.cell? ⟨g, 3, none⟩ = some (.int .u64 (u : Int)) ∧ w.cell? ⟨g, 4, none⟩ = some (.int .u64 (b : Int)) := by
 unfold Bl at h
 refine ⟨?_, ?_, ?_, ?_, ?_⟩ <;> rw [cell_of_row w g _ _ _ _ h] <;> rfl
theorem Bl.f {w : World} {g t l o u b : Nat} (h : Bl w g t l o u b) (i : Nat) : w.frozen? ⟨g, i, none⟩ = false := frozen_of_row w g i _ _ h
theorem Bl.s2 {w : World} {g t l o u b : Nat} (h : Bl w g t l o u b) (x : Nat) : Bl (w.setCell ⟨g, 2, none⟩ (.int .u64 (x : Int))) g t l x u b := by
 unfold Bl at h ⊢
 rw [heap_setCell_same _ g 2 _ _ _ h]; rfl
theorem Bl.s3 {w : World} {g t l o u b : Nat} (h : Bl w g t l o u b) (x : Nat) : Bl (w.setCell ⟨g, 3, none⟩ (.int .u64 (x : Int))) g t l o x b := by
 unfold Bl at h ⊢
 rw [heap_setCell_same _ g 3 _ _ _ h]; rfl
theorem Bl.s4 {w : World} {g t l o u b : Nat} (h : Bl w g t l o u b) (x : Nat) : Bl (w.setCell ⟨g, 4, none⟩ (.int .u64 (x : Int))) g t l o u x := by
 unfold Bl at h ⊢
 rw [heap_setCell_same _ g 4 _ _ _ h]; rfl
structure NextPost (w : World) (g t l o u b x y : Nat) (e : Ending) (w' : World) : Prop where
 ret : e = .returned (.int .u64 ((slo (lo (x * t + o)) (lo (y * l + u)) b : Nat) : Int))
 bl : Bl w' g t l (hi (x * t + o)) (hi (y * l + u)) (sbo (lo (x * t + o)) (lo (y * l + u)) b)
 only : Only g w w'
theorem next_mem {w : World} {g t l o u b : Nat} (h : Bl w g t l o u b) (o' u' b' : Nat) (n : Nat) :
  Bl ((((w.setCell ⟨g, 2, none⟩ (.int .u64 (o' : Int))).setCell ⟨g, 3, none⟩ (.int .u64 (u' : Int))).setCell ⟨g, 4, none⟩ (.int .u64 (b' : Int))).drewN n) g t l o' u' b' ∧
  Only g w ((((w.setCell ⟨g, 2, none⟩ (.int .u64 (o' : Int))).setCell ⟨g, 3, none⟩ (.int .u64 (u' : Int))).setCell ⟨g, 4, none⟩ (.int .u64 (b' : Int))).drewN n) :=
 ⟨((h.s2 o').s3 u').s4 b', ((((Only.refl g w).set 2 _).set 3 _).set 4 _).drewN n⟩
set_option maxHeartbeats 4000000 in
theorem next_any (w : World) (g t l o u b x y : Nat) (h : Bl w g t l o u b) (ht : t < B64) (hl : l < B64) (ho : o < B64) (hu : u < B64) (hb : b ≤ 1) (hx : x < B64) (hy : y < B64) :
  Calls Tryz.prog 254 #[.pointer (some ⟨g, 0, none⟩), .int .u64 x, .int .u64 y] w (NextPost w g t l o u b x y) := by
 obtain ⟨c0, c1, c2, c3, c4⟩ := h.c
 have f2 := h.f 2
 have f3 := h.f 3
 have f4 := h.f 4
 have HP1 := Lib.hid (fun W : World => product_any x t o hx ht ho W)
 have HP2 := Lib.hid (fun W : World => product_any y l u hy hl hu W)
 have HM := Lib.hid (next_mem h (hi (x * t + o)) (hi (y * l + u)) (sbo (lo (x * t + o)) (lo (y * l + u)) b) 2)
 clear h
 have hsub := run_sub (lo (x * t + o)) (lo (y * l + u)) b hb
 go_enter Tryz.func254, Tryz.ntmps254
 go_wp2_with fail
 go_region_with (first
  | (go_at_call 223; refine (HP1.out _).mono ?_; rintro e w' ⟨rfl, rfl⟩))
 all_goals
  go_wp2_with fail
  go_region_with (first
   | (go_at_call 223; refine (HP2.out _).mono ?_; rintro e w' ⟨rfl, rfl⟩))
  all_goals
   go_wp2_with fail
   go_ret
   exact ⟨rfl, HM.out.1, HM.out.2⟩
