/- Part 17 of the proof: Foresee, ShortMath, Shorten. -/
import Derived.Test.YthjiacmhhpfokaaGreatL16
namespace Go.Proofs.YthjiacmhhpfokaaGreat
open Lib renaming hid → lh
open Nat renaming lt_of_lt_of_le → lL
section
open Go.RowKit
def Mix (w : World) (g u v : Nat) : Prop := w.heap[g]? = some (.cells #[.int .u64 (u : Int), .int .u64 (v : Int)] 220 (0, 0))
theorem Mix.c0 {w : World} {g u v : Nat} (h : Mix w g u v) : w.cell? ⟨g, 0, none⟩ = some (.int .u64 (u : Int)) := by
 unfold Mix at h
 rw [cell_of_row w g 0 _ _ _ h]; rfl
theorem Mix.c1 {w : World} {g u v : Nat} (h : Mix w g u v) : w.cell? ⟨g, 1, none⟩ = some (.int .u64 (v : Int)) := by
 unfold Mix at h
 rw [cell_of_row w g 1 _ _ _ h]; rfl
theorem Mix.f {w : World} {g u v : Nat} (h : Mix w g u v) (i : Nat) : w.frozen? ⟨g, i, none⟩ = false := frozen_of_row w g i _ _ h
theorem Mix.new (w : World) (u v : Nat) : Mix (w.alloc (.cells #[.int .u64 (u : Int), .int .u64 (v : Int)] 220)) w.heap.size u v := heap_alloc_new w _
theorem Mix.lt {w : World} {g u v : Nat} (h : Mix w g u v) : g < w.heap.size := lt_of_block h
theorem Mix.alloc {w : World} {g u v : Nat} (h : Mix w g u v) (o : Obj) : Mix (w.alloc o) g u v := (Below.heap_alloc w o g h.lt).trans h
theorem Mix.drewN {w : World} {g u v : Nat} (h : Mix w g u v) (n : Nat) : Mix (w.drewN n) g u v := h
theorem Mix.far {w : World} {g u v : Nat} (h : Mix w g u v) {p : Addr} (hp : g ≠ p.block) (x : Value) : Mix (w.setCell p x) g u v := (Below.heap_setCell w p x g hp).trans h
theorem Mix.two {w : World} {g u v : Nat} (h : Mix w g u v) (a b : Nat) : Mix ((w.setCell ⟨g, 0, none⟩ (.int .u64 (a : Int))).setCell ⟨g, 1, none⟩ (.int .u64 (b : Int))) g a b := by
 unfold Mix at h ⊢
 rw [heap_setCell_same _ g 1 _ _ _ (heap_setCell_same w g 0 _ _ _ h)]
 rfl
theorem Mix.new1_ (w : World) (u v : Nat) (o1 o2 o3 o4 : Obj) : Mix (((((w.alloc (.cells #[.int .u64 (u : Int), .int .u64 (v : Int)] 220)).alloc o1).alloc o2).alloc o3).alloc o4) (w.heap.size) u v := by
 have h := ((((Mix.new w u v).alloc o1).alloc o2).alloc o3).alloc o4
 exact h
theorem Mix.new2_ (w : World) (u v : Nat) (o1 o2 o3 o4 : Obj) : Mix (((((w.alloc o1).alloc (.cells #[.int .u64 (u : Int), .int .u64 (v : Int)] 220)).alloc o2).alloc o3).alloc o4) (w.heap.size + 1) u v := by
 have h := (((Mix.new ((w.alloc o1)) u v).alloc o2).alloc o3).alloc o4
 simpa using h
theorem Mix.new3_ (w : World) (u v : Nat) (o1 o2 o3 o4 : Obj) : Mix (((((w.alloc o1).alloc o2).alloc (.cells #[.int .u64 (u : Int), .int .u64 (v : Int)] 220)).alloc o3).alloc o4) (w.heap.size + 1 + 1) u v := by
 have h := ((Mix.new (((w.alloc o1).alloc o2)) u v).alloc o3).alloc o4
 simpa using h
theorem Mix.new4_ (w : World) (u v : Nat) (o1 o2 o3 o4 : Obj) : Mix (((((w.alloc o1).alloc o2).alloc o3).alloc (.cells #[.int .u64 (u : Int), .int .u64 (v : Int)] 220)).alloc o4) (w.heap.size + 1 + 1 + 1) u v := by
 have h := (Mix.new ((((w.alloc o1).alloc o2).alloc o3)) u v).alloc o4
 simpa using h
theorem Mix.new5_ (w : World) (u v : Nat) (o1 o2 o3 o4 : Obj) : Mix (((((w.alloc o1).alloc o2).alloc o3).alloc o4).alloc (.cells #[.int .u64 (u : Int), .int .u64 (v : Int)] 220)) (w.heap.size + 1 + 1 + 1 + 1) u v := by
 have h := Mix.new (((((w.alloc o1).alloc o2).alloc o3).alloc o4)) u v
 simpa using h
structure ForeRel (w wr : World) (A B x0 y0 H : Nat) (xv yv tv : Value) : Prop where
 ex : ∃ (u0 v0 u1 v1 u2 v2 x y : Nat) (t : Bool), xv = .int .u64 (x : Int) ∧ yv = .int .u64 (y : Int) ∧ tv = .bool t ∧ Fore A B x0 y0 H u0 v0 u1 v1 u2 v2 x y t ∧ u0 < B64 ∧ v0 < B64 ∧ u1 < B64 ∧ v1 < B64 ∧ u2 < B64 ∧ v2 < B64 ∧
  Mix wr (w.heap.size + 1 + 1) u0 v0 ∧ Mix wr (w.heap.size + 1 + 1 + 1) u1 v1 ∧ Mix wr (w.heap.size + 1 + 1 + 1 + 1) u2 v2 ∧ x < B64
 z0 : Mix wr w.heap.size 0 0
 z1 : Mix wr (w.heap.size + 1) 0 0
 below : Below w.heap.size w wr
theorem fore_mem {w wr : World} {A B x0 y0 H : Nat} {u0 v0 u1 v1 u2 v2 q x y : Nat} {t : Bool} (hx : y < B64) (l2 : u1 < B64) (l3 : v1 < B64) (l4 : u2 < B64) (l5 : v2 < B64) (b1 : u1 + q * u2 < B64) (b2 : v1 + q * v2 < B64)
  (hk : Fore A B x0 y0 H u1 v1 u2 v2 (u1 + q * u2) (v1 + q * v2) y (x % y) (!t)) (z0 : Mix wr w.heap.size 0 0) (z1 : Mix wr (w.heap.size + 1) 0 0)
  (m0 : Mix wr (w.heap.size + 1 + 1) u0 v0) (m1 : Mix wr (w.heap.size + 1 + 1 + 1) u1 v1) (m2 : Mix wr (w.heap.size + 1 + 1 + 1 + 1) u2 v2) (hbw : Below w.heap.size w wr) (n : Nat) :
  ForeRel w (((((((wr.drewN n).setCell ⟨w.heap.size + 1 + 1, 0, none⟩ (.int .u64 (u1 : Int))).setCell ⟨w.heap.size + 1 + 1, 1, none⟩ (.int .u64 (v1 : Int))).setCell ⟨w.heap.size + 1 + 1 + 1, 0, none⟩ (.int .u64 (u2 : Int))).setCell
   ⟨w.heap.size + 1 + 1 + 1, 1, none⟩ (.int .u64 (v2 : Int))).setCell ⟨w.heap.size + 1 + 1 + 1 + 1, 0, none⟩ (.int .u64 ((u1 + q * u2 : Nat) : Int))).setCell ⟨w.heap.size + 1 + 1 + 1 + 1, 1, none⟩ (.int .u64 ((v1 + q * v2 : Nat) : Int)))
   A B x0 y0 H (.int .u64 (y : Int)) (.int .u64 ((x % y : Nat) : Int)) (.bool (!t)) := by
 refine ⟨⟨u1, v1, u2, v2, u1 + q * u2, v1 + q * v2, y, x % y, !t, rfl, rfl, rfl, hk, l2, l3, l4, l5, b1, b2, ?_, ?_, ?_, hx⟩, ?_, ?_, ?_⟩
 ·exact (((((m0.drewN n).two u1 v1).far (by first | (simp; done) | (simp; omega)) _).far (by first | (simp; done) | (simp; omega)) _).far (by first | (simp; done) | (simp; omega)) _).far (by first | (simp; done) | (simp; omega)) _
 ·exact (((((m1.drewN n).far (by first | (simp; done) | (simp; omega)) _).far (by first | (simp; done) | (simp; omega)) _).two u2 v2).far (by first | (simp; done) | (simp; omega)) _).far (by first | (simp; done) | (simp; omega)) _
 ·exact (((((m2.drewN n).far (by first | (simp; done) | (simp; omega)) _).far (by first | (simp; done) | (simp; omega)) _).far (by first | (simp; done) | (simp; omega)) _).far (by first | (simp; done) | (simp; omega)) _).two _ _
 ·exact ((((((z0.drewN n).far (by first | (simp; done) | (simp; omega)) _).far (by first | (simp; done) | (simp; omega)) _).far (by first | (simp; done) | (simp; omega)) _).far (by first | (simp; done) | (simp; omega)) _).far (by first | (simp; done) | (simp; omega)) _).far (by first | (simp; done) | (simp; omega)) _
 ·exact ((((((z1.drewN n).far (by first | (simp; done) | (simp; omega)) _).far (by first | (simp; done) | (simp; omega)) _).far (by first | (simp; done) | (simp; omega)) _).far (by first | (simp; done) | (simp; omega)) _).far (by first | (simp; done) | (simp; omega)) _).far (by first | (simp; done) | (simp; omega)) _
 ·exact ((((((below_drewN hbw n).setCell (by first | (simp; done) | (simp; omega)) _).setCell (by first | (simp; done) | (simp; omega)) _).setCell (by first | (simp; done) | (simp; omega)) _).setCell (by first | (simp; done) | (simp; omega)) _).setCell (by first | (simp; done) | (simp; omega)) _).setCell (by first | (simp; done) | (simp; omega)) _
def ForePost (w : World) (A B : Nat) (e : Ending) (w' : World) : Prop :=
 ∃ (u0 v0 u1 v1 : Nat) (t : Bool), e = .returned (.tuple #[.agg #[.int .u64 (u0 : Int), .int .u64 (v0 : Int)], .agg #[.int .u64 (u1 : Int), .int .u64 (v1 : Int)], .bool t]) ∧ Foreseen A B u0 v0 u1 v1 t ∧ Below w.heap.size w w'
set_option maxHeartbeats 4000000 in
theorem foresee_any (w : World) (A B x0 y0 H : Nat) (h : Lead A B x0 y0 H) :
  Calls Tryz.prog 236 #[.int .u64 x0, .int .u64 y0] w (ForePost w A B) := by
 have HL := lh h
 clear h
 go_enter Tryz.func236, Tryz.ntmps236
 go_wp2_with fail
 go_loopw [0, 1, 10] (fun xv yv tv wr => ForeRel w wr A B x0 y0 H xv yv tv) (fun _ yv _ _ => (intOf yv).toNat)
 case atStart =>
  have hlt := HL.out.lt
  have hle := HL.out.le
  refine ⟨⟨0, 0, 1, 0, 0, 1, x0, y0, true, rfl, rfl, rfl, fore_start HL.out, B64_pos, B64_pos, by rw [B64_eq]; omega, B64_pos, B64_pos, by rw [B64_eq]; omega, ?_, ?_, ?_, hlt⟩, ?_, ?_, ?_⟩
  ·exact Mix.new3_ w _ _ _ _ _ _
  ·exact Mix.new4_ w _ _ _ _ _ _
  ·exact Mix.new5_ w _ _ _ _ _ _
  ·exact Mix.new1_ w _ _ _ _ _ _
  ·exact Mix.new2_ w _ _ _ _ _ _
  ·exact (((((Below.refl _ _).alloc (Nat.le_refl _) _).alloc (by simp) _).alloc (by first | (simp; done) | (simp; omega)) _).alloc (by first | (simp; done) | (simp; omega)) _).alloc (by first | (simp; done) | (simp; omega)) _
 case round =>
  obtain ⟨⟨u0, v0, u1, v1, u2, v2, x, y, t, rfl, rfl, rfl, hk, l0, l1, l2, l3, l4, l5, m0, m1, m2, hx⟩, z0, z1, hbw⟩ := hrel
  have HK := lh hk
  have HBW := lh hbw
  have c00 := m0.c0
  have c01 := m0.c1
  have c10 := m1.c0
  have c11 := m1.c1
  have c20 := m2.c0
  have c21 := m2.c1
  have f00 := m0.f 0
  have f01 := m0.f 1
  have f10 := m1.f 0
  have f11 := m1.f 1
  have f20 := m2.f 0
  have f21 := m2.f 1
  have hxy := hk.xy
  have hvp := hk.v2p
  by_cases g1 : v2 ≤ y
  ·have hsum := fore_sum HL.out hk g1
   have es1 : IntKind.u64.wrap ((v1 : Int) + (v2 : Int)) = (v1 : Int) + (v2 : Int) := u64_add' hsum
   have es2 : IntKind.u64.wrap ((x : Int) - (y : Int)) = ((x - y : Nat) : Int) := u64_sub (by omega) hx
   have g1' : (v2 : Int) ≤ (y : Int) := by omega
   by_cases g2 : v1 + v2 ≤ x - y
   ·obtain ⟨hn, b1, b2⟩ := fore_step HL.out hk g1 g2
    have HN := lh hn
    have g2' : (v1 : Int) + (v2 : Int) ≤ ((x - y : Nat) : Int) := by omega
    have hy1 : 1 ≤ (y : Int) := by omega
    have hy0 : ((y : Int) == 0) = false := by rw [beq_eq_false_iff_ne]; omega
    have hyn : ¬ (y : Int) = 0 := by omega
    have hq64 : x / y < B64 := Nat.lt_of_le_of_lt (Nat.div_le_self _ _) hx
    obtain ⟨q, hq⟩ : ∃ q, q = x / y := ⟨_, rfl⟩
    have eq0 : IntKind.u64.wrap ((x : Int) / (y : Int)) = (q : Int) := by
     rw [hq]
     exact u64_small (n := x / y) hq64
    rw [← hq] at b1 b2 HN hq64
    have em1 : IntKind.u64.wrap ((q : Int) * (u2 : Int)) = (q : Int) * (u2 : Int) := u64_mul (by omega)
    have em2 : IntKind.u64.wrap ((q : Int) * (v2 : Int)) = (q : Int) * (v2 : Int) := u64_mul (by omega)
    have ea1 : IntKind.u64.wrap ((u1 : Int) + (q : Int) * (u2 : Int)) = (u1 : Int) + (q : Int) * (u2 : Int) := by
     rw [← Int.natCast_mul]
     exact u64_add' (a := u1) (b := q * u2) b1
    have ea2 : IntKind.u64.wrap ((v1 : Int) + (q : Int) * (v2 : Int)) = (v1 : Int) + (q : Int) * (v2 : Int) := by
     rw [← Int.natCast_mul]
     exact u64_add' (a := v1) (b := q * v2) b2
    have HQ := lh hq
    have Z0 := lh z0
    have Z1 := lh z1
    have M0 := lh m0
    have M1 := lh m1
    have M2 := lh m2
    clear hk hbw hn hq z0 z1 m0 m1 m2
    go_wp2_with fail
    go_quiet (fail)
    go_wp2_with fail
    go_region
    have HS := fore_mem (Nat.lt_of_le_of_lt hxy hx) l2 l3 l4 l5 b1 b2 HN.out Z0.out Z1.out M0.out M1.out M2.out HBW.out (nq + 1)
    go_wp2_with fail
    go_roundw
    case rel => exact HS
    case measure =>
     have := Nat.mod_lt x (show y > 0 by omega)
     simp [intOf]; omega
   ·have g2' : ¬ (v1 : Int) + (v2 : Int) ≤ ((x - y : Nat) : Int) := by omega
    have HF := lh (fore_end hk l0 l1 l2 l3)
    have c30 := z0.c0
    have c31 := z0.c1
    have c40 := z1.c0
    have c41 := z1.c1
    have f30 := z0.f 0
    have f31 := z0.f 1
    have f40 := z1.f 0
    have f41 := z1.f 1
    clear hk hbw z0 z1 m0 m1 m2
    go_wp2_with fail
    go_region
    go_wp2_with fail
    refine bodyPost_ret (v := .tuple #[.agg #[.int .u64 (u0 : Int), .int .u64 (v0 : Int)], .agg #[.int .u64 (u1 : Int), .int .u64 (v1 : Int)], .bool t]) (by simp [results, Tryz.results236, go_sem, c30, c31, c40, c41]) rfl ⟨u0, v0, u1, v1, t, rfl, HF.out, ?_⟩
    exact (((((HBW.out.setCell (by simp) _).setCell (by simp) _).setCell (by simp) _).setCell (by simp) _).drew)
  ·have g1' : ¬ (v2 : Int) ≤ (y : Int) := by omega
   have HF := lh (fore_end hk l0 l1 l2 l3)
   have c30 := z0.c0
   have c31 := z0.c1
   have c40 := z1.c0
   have c41 := z1.c1
   have f30 := z0.f 0
   have f31 := z0.f 1
   have f40 := z1.f 0
   have f41 := z1.f 1
   clear hk hbw z0 z1 m0 m1 m2
   go_wp2_with fail
   go_region
   go_wp2_with fail
   refine bodyPost_ret (v := .tuple #[.agg #[.int .u64 (u0 : Int), .int .u64 (v0 : Int)], .agg #[.int .u64 (u1 : Int), .int .u64 (v1 : Int)], .bool t]) (by simp [results, Tryz.results236, go_sem, c30, c31, c40, c41]) rfl ⟨u0, v0, u1, v1, t, rfl, HF.out, ?_⟩
   exact (((((HBW.out.setCell (by simp) _).setCell (by simp) _).setCell (by simp) _).setCell (by simp) _).drew)
end

section
open Go.RowKit
theorem row_pos {u v A B F : Nat} (h : row 1 u v A B = (F : Int)) : B * v + F = A * u := by
 unfold row at h
 rw [Int.one_mul] at h
 have e : ((B * v + F : Nat) : Int) = ((A * u : Nat) : Int) := by
  push_cast
  rw [Int.mul_comm (A : Int), Int.mul_comm (B : Int)]
  omega
 exact_mod_cast e
theorem row_neg1 {u v A B F : Nat} (h : row (-1) u v A B = (F : Int)) : A * u + F = B * v := by
 unfold row at h
 rw [Int.neg_mul, Int.one_mul] at h
 have e : ((A * u + F : Nat) : Int) = ((B * v : Nat) : Int) := by
  push_cast
  rw [Int.mul_comm (A : Int), Int.mul_comm (B : Int)]
  omega
 exact_mod_cast e
theorem low_pos {A B u v F l h P : Nat} (hA : A = l + P * h) (e : B * v + F = A * u) : B * v + F + P * 0 = l * u + P * (h * u) := by
 rw [e, hA, Nat.add_mul, Nat.mul_assoc, Nat.mul_zero, Nat.add_zero]
theorem low_neg {A B u v F l h P : Nat} (hA : A = l + P * h) (e : A * u + F = B * v) : l * u + F + P * (h * u) = B * v + P * 0 := by
 rw [← e, hA, Nat.add_mul, Nat.mul_assoc, Nat.mul_zero, Nat.add_zero]
 omega
structure Pair (B : Nat) (w wr : World) (g F G : Nat) (av bv : Value) : Prop where
 ex : ∃ (PA PB : Option Addr) (ca cb : Nat), av = .slice PA (dig F).length ca ∧ bv = .slice PB (dig G).length cb ∧ (dig F).length ≤ ca ∧ (dig G).length ≤ cb ∧
  Num wr PA (dig F) ∧ Num wr PB (dig G) ∧
  (1 < (dig G).length → ∃ ga gb Xa Xb, PA = some ⟨ga, 0, none⟩ ∧ PB = some ⟨gb, 0, none⟩ ∧ ga ≠ gb ∧ B ≤ ga ∧ B ≤ gb ∧ Blk wr ga Xa ∧ Blk wr gb Xb ∧ Digs Xa ∧ Digs Xb ∧
   (dig F).length ≤ Xa.length ∧ (dig G).length ≤ Xb.length ∧ Xa.take (dig F).length = dig F ∧ Xb.take (dig G).length = dig G)
 le : G ≤ F
 len : (dig F).length ≤ 4294967296
 gcd : Nat.gcd F G = g
 bel : Below B w wr
theorem num_low {w : World} {g : Nat} {X : List Nat} {F : Nat} {P : Option Addr} (hb : Blk w g X) (hd : Digs X) (ht : X.take (dig F).length = dig F) (hP : 0 < (dig F).length → P = some ⟨g, 0, none⟩) : Num w P (dig F) := by
 rcases Nat.eq_zero_or_pos (dig F).length with h0 | h0
 ·rw [List.length_eq_zero_iff.1 h0]; exact Num.nil _ _
 ·have h := (hb.num hd).take (dig F).length
  rw [ht] at h
  rw [hP h0]
  exact h
theorem leap_pair {B : Nat} {w wx w' : World} {g ga gb ca cb F G : Nat} {La Lb : List Nat} {e : Ending} (h : LeapPost B wx ga gb ca cb F G La Lb e w') (hw : Below B w wx) (hne : ga ≠ gb) (hBa : B ≤ ga) (hBb : B ≤ gb)
  (hle : G ≤ F) (hlen : (dig F).length ≤ 4294967296) (hg : Nat.gcd F G = g) : ∃ av bv, e = .returned (.tuple #[av, bv]) ∧ Pair B w w' g F G av bv := by
 obtain ⟨⟨A1, c1, A2, c2, rfl, k1, k2, k3, k4⟩, ⟨⟨Xa, Xb, m1, m2, d1, d2, l1, l2, n1, n2, t1, t2⟩, hb⟩⟩ := h
 refine ⟨_, _, rfl, ⟨⟨A1, A2, c1, c2, rfl, rfl, k1, k2, num_low m1 d1 t1 (fun hp => (k3 hp).1), num_low m2 d2 t2 (fun hp => (k4 hp).1), fun h1 => ?_⟩, hle, hlen, hg, hw.trans hb⟩⟩
 have h0 : 1 < (dig F).length := lL h1 (dig_length_mono hle)
 exact ⟨ga, gb, Xa, Xb, (k3 (by omega)).1, (k4 (by omega)).1, hne, hBa, hBb, m1, m2, d1, d2, by omega, by omega, t1, t2⟩
theorem blk_split {X : List Nat} {F n : Nat} (ht : X.take (dig F).length = dig F) (hn : n ≤ (dig F).length) : F = val (X.take n) + B64 ^ n * val ((dig F).drop n) := by
 have h := val_take_add (dig F) n
 rw [val_dig, Nat.min_eq_left hn] at h
 have e : X.take n = (dig F).take n := by rw [← ht, List.take_take, Nat.min_eq_left hn]
 rw [e]
 exact h
theorem top_shift {F : Nat} (h2 : 2 ≤ (dig F).length) : ∃ s, s + blen (dg (dig F) ((dig F).length - 1)) = 64 ∧ s ≤ 63 ∧ dg (dig F) ((dig F).length - 1) * 2 ^ s < B64 ∧ dg (dig F) ((dig F).length - 1) ≠ 0 := by
 have htop : dg (dig F) ((dig F).length - 1) ≠ 0 := by
  intro h
  have h1 := dig_top F
  rw [List.getLast?_eq_getElem?, List.getElem?_eq_getElem (by omega)] at h1
  rw [dg_of_lt (by omega)] at h
  exact h1 (by rw [h])
 have hb := blen_lt (dg (dig F) ((dig F).length - 1))
 have hb1 : 1 ≤ blen (dg (dig F) ((dig F).length - 1)) := by
  rcases Nat.eq_zero_or_pos (blen (dg (dig F) ((dig F).length - 1))) with h | h
  ·rw [h] at hb; omega
  ·exact h
 have hbl64 := blen_digit (dg_lt (dig_digs F) ((dig F).length - 1))
 refine ⟨64 - blen (dg (dig F) ((dig F).length - 1)), by omega, by omega, ?_, htop⟩
 have e : B64 = 2 ^ blen (dg (dig F) ((dig F).length - 1)) * 2 ^ (64 - blen (dg (dig F) ((dig F).length - 1))) := by
  rw [← Nat.pow_add, B64_pow]; congr 1; omega
 rw [e]
 exact Nat.mul_lt_mul_of_pos_right hb (Nat.pow_pos (by omega))
end

section
open Go.RowKit
def ShortPost (B : Nat) (w : World) (g : Nat) (e : Ending) (w' : World) : Prop :=
 ∃ F G av bv, e = .returned (.tuple #[av, bv]) ∧ (dig G).length ≤ 1 ∧ Pair B w w' g F G av bv
theorem gcd_step (F G : Nat) : Nat.gcd G (F % G) = Nat.gcd F G := by rw [Nat.gcd_comm F G, Nat.gcd_rec G F, Nat.gcd_comm]
theorem pair_divided {B : Nat} {w wx w' : World} {g F G gb cb : Nat} {Xb : List Nat} {q : Nat} {e : Ending} (hpos : 0 < G) (hgb : B ≤ gb) (hsz : gb < wx.heap.size) (hBx : B ≤ wx.heap.size) (hb : Blk wx gb Xb) (hd : Digs Xb) (hl : (dig G).length ≤ Xb.length) (ht : Xb.take (dig G).length = dig G) (hcb : (dig G).length ≤ cb)
  (hnum : Num wx (some ⟨gb, 0, none⟩) (dig G)) (hlen : (dig G).length ≤ 4294967296) (hg : Nat.gcd F G = g) (hw : Below B w wx) (h : RetQR wx q (F % G) e w') :
  ∃ A1 c1 bv, e = .returned (.tuple #[.slice A1 (dig q).length c1, bv]) ∧ Pair B w w' g G (F % G) (.slice (some ⟨gb, 0, none⟩) (dig G).length cb) bv := by
 obtain ⟨A, c, C, d, g2, zs, rfl, k1, k2, k3, k4, k5, k6, k7, k8, k9, k10, k11⟩ := h
 refine ⟨A, c, _, rfl, ⟨⟨_, C, cb, d, rfl, rfl, hcb, k2, hnum.below k5, k4, fun h1 => ?_⟩, Nat.le_of_lt (Nat.mod_lt _ hpos), hlen, ?_, hw.trans (k5.mono hBx)⟩⟩
 ·exact ⟨gb, g2, Xb, zs, rfl, (k11 (by omega)).1, by omega, hgb, by omega, hb.below k5 hsz, k7, hd, k8, hl, k9, ht, k10⟩
 ·rw [gcd_step, hg]
theorem of_drewB {w w' : World} (h : Below w.drew.heap.size w.drew w') : Below w.heap.size w w' := ⟨h.os, h.tape, h.output, h.size, h.block⟩
theorem Boxed.belowW {p t1 l1 t2 l2 : Nat} {W W' : World} {B : Nat} (hB : B = W.heap.size) (hp : p + 1 < W.heap.size) (hb : Below B W W') (h : Boxed p t1 l1 t2 l2 W) : Boxed p t1 l1 t2 l2 W' := by
 subst hB
 obtain ⟨h1, h2, h3, h4⟩ := h
 exact ⟨(hb.cell (p := ⟨p, 0, none⟩) (by show p < _; omega)).trans h1, (hb.cell (p := ⟨p, 1, none⟩) (by show p < _; omega)).trans h2, (hb.cell (p := ⟨p + 1, 0, none⟩) hp).trans h3, (hb.cell (p := ⟨p + 1, 1, none⟩) hp).trans h4⟩
set_option maxRecDepth 100000 in
set_option maxHeartbeats 8000000 in
theorem shorten_any (w : World) (B g F0 G0 : Nat) (av bv : Value) (hB : B ≤ w.heap.size) (h : Pair B w w g F0 G0 av bv) :
  Calls Tryz.prog 218 #[av, bv] w (ShortPost B w g) := by
 have H0 := lh h
 clear h
 have HT := lh (fun (W : World) (t l : Nat) => turned_at W t l)
 go_enter Tryz.func218, Tryz.ntmps218
 go_wp2_with fail
 go_loopg [0, 1] G0 (fun G av bv wr => ∃ F, Pair B w wr g F G av bv)
 case atStart => exact ⟨F0, H0.out⟩
 case round =>
  obtain ⟨F, ⟨⟨PA, PB, ca, cb, rfl, rfl, hca, hcb, hna, hnb, hblk⟩, hle, hlen, hg, hbel⟩⟩ := hrel
  have hlm := dig_length_mono hle
  by_cases h1 : 1 < (dig gk).length
  ·have h1' : (1 : Int) < ((dig gk).length : Int) := by omega
   obtain ⟨ga, gb, Xa, Xb, rfl, rfl, hne, hBa, hBb, m1, m2, d1, d2, l1, l2, t1, t2⟩ := hblk h1
   obtain ⟨s, hs, hs63, hsh, htop⟩ := top_shift (F := F) (by omega)
   have hlead := ld_lead (dig_digs F) (dig_digs gk) rfl hlm (by omega) hs63 hsh (by rw [val_dig, val_dig]; exact hle)
   rw [val_dig, val_dig] at hlead
   have HLD := lh (leading_any wr (some ⟨ga, 0, none⟩) (some ⟨gb, 0, none⟩) ca cb (dig F).length s (dig F) (dig gk) hna hnb rfl (by omega) (by omega) (by omega) hs hs63)
   have HFS := lh (fun W => foresee_any W F gk _ _ _ hlead)
   have HNA := lh hna
   have HNB := lh hnb
   have M1 := lh m1
   have M2 := lh m2
   have HG := lh hg
   have HBEL := lh hbel
   have T1 := lh t1
   have T2 := lh t2
   have hga := m1.lt
   have hgb := m2.lt
   clear hna hnb m1 m2 hg hbel t1 t2 hlead hblk hs hsh htop
   go_upto_region 4 with ((first
    | (go_at_call 237; refine HLD.out.mono ?_; rintro e w1 ⟨rfl, hb1⟩)
    | (go_at_call 236; refine (HFS.out _).mono ?_; rintro e w2 ⟨u0, v0, u1, v1, t, rfl, hF, hb2⟩)))
   have HBX := Boxed.base w2 u0 v0 u1 v1 220 220
   have hb12 : Below wr.heap.size wr w2 := hb1.trans (hb2.mono hb1.size)
   have hbx : Below wr.heap.size wr ((w2.alloc (.cells #[.int .u64 (u0 : Int), .int .u64 (v0 : Int)] 220)).alloc (.cells #[.int .u64 (u1 : Int), .int .u64 (v1 : Int)] 220)) :=
    hb12.trans (((Below.refl _ _).alloc hb12.size _).alloc (by simp; have := hb12.size; omega) _)
   have hsx : w2.heap.size + 1 < ((w2.alloc (.cells #[.int .u64 (u0 : Int), .int .u64 (v0 : Int)] 220)).alloc (.cells #[.int .u64 (u1 : Int), .int .u64 (v1 : Int)] 220)).heap.size := by simp
   generalize ((w2.alloc (.cells #[.int .u64 (u0 : Int), .int .u64 (v0 : Int)] 220)).alloc (.cells #[.int .u64 (u1 : Int), .int .u64 (v1 : Int)] 220)) = wx at *
   have X1 := lh (M1.out.below hbx hga)
   have X2 := lh (M2.out.below hbx hgb)
   have XA := lh (HNA.out.below hbx)
   have XB := lh (HNB.out.below hbx)
   have XW := lh (HBEL.out.trans (hbx.mono (Nat.le_trans hB HBEL.out.size)))
   have hgax : ga < wx.heap.size := lL hga hbx.size
   have hgbx : gb < wx.heap.size := lL hgb hbx.size
   have hBx : B ≤ wx.heap.size := Nat.le_trans hBa (Nat.le_of_lt hgax)
   obtain ⟨hu0, hv0, hu1, hv1, hFF⟩ := hF
   obtain ⟨b0, b1', b2', b3⟩ := HBX
   have HBX : Hid (Boxed w2.heap.size u0 v0 u1 v1 wx) := ⟨b0, b1', b2', b3⟩
   clear hb1 hb2 hb12 hbx M1 M2 HNA HNB HBEL HLD HFS hga hgb
   by_cases hz : v0 = 0
   ·have hz' : (((v0 : Nat) : Int) == 0) = true := by rw [hz]; rfl
    clear hFF
    obtain ⟨s2, hs2, hs263, hsh2, htop2⟩ := top_shift (F := gk) (by omega)
    have hlong := long_any wx (some ⟨ga, 0, none⟩) (some ⟨gb, 0, none⟩) ca cb (dig gk).length s2 ((dig F).length - (dig gk).length + 1) (dig F) (dig gk) XA.out XB.out (by omega) rfl (by omega) hlm hs2 htop2 (by omega)
    rw [val_dig, val_dig] at hlong
    have HLG := lh hlong
    clear hs2 hs263 hsh2 htop2 hlong
    go_wp2_with fail
    refine HLG.out.mono ?_
    intro e w3 hq
    obtain ⟨A1, c1, bv', rfl, hP⟩ := pair_divided (g := g) (by
     rcases Nat.eq_zero_or_pos gk with h0 | h0
     ·rw [h0, dig_zero] at h1; simp at h1
     ·exact h0) hBb hgbx hBx X2.out d2 l2 T2.out hcb XB.out (by omega) HG.out XW.out hq
    have HP := lh hP
    have hlt := Nat.mod_lt F (show 0 < gk by
     rcases Nat.eq_zero_or_pos gk with h0 | h0
     ·rw [h0, dig_zero] at h1; simp at h1
     ·exact h0)
    clear hP hq
    go_wp2_with fail
    go_roundg (F % gk)
    case measure => exact hlt
    case rel => exact ⟨gk, HP.out⟩
   ·have hz' : (((v0 : Nat) : Int) == 0) = false := by rw [beq_eq_false_iff_ne]; omega
    obtain ⟨F0, F1, r0, r1, hlt, hle0, hgcd⟩ := hFF hz
    cases t with
    | false =>
     have hP := blk_split (n := (dig gk).length) T1.out hlm
     have hgv : val (Xb.take (dig gk).length) = gk := by rw [T2.out, val_dig]
     have hglt : gk < B64 ^ (dig gk).length := by have h := val_lt (dig_digs gk); rwa [val_dig] at h
     have hl0 := dig_length_mono hle0
     have hg0 : Nat.gcd F0 F1 = g := by rw [hgcd]; exact HG.out
     have hmeas : F1 < gk := by omega
     rw [show - sg false = 1 from rfl] at r0
     rw [show sg false = -1 from rfl] at r1
     have hE1 := low_pos hP (row_pos r0)
     have hE2 := low_neg hP (row_neg1 r1)
     have HLP := lh (leap_any wx B ga gb (dig F).length (dig gk).length ca cb (dig gk).length u0 v0 u1 v1 F0 F1 0 (val ((dig F).drop (dig gk).length) * u0) (val ((dig F).drop (dig gk).length) * u1) 0 Xa Xb X1.out X2.out hne hBa hBb d1 d2 hlm (Nat.le_refl _) l1 l2 hca hcb (by omega) hu0 hv0 hu1 hv1 (by rw [hgv]; exact hE1) (by omega) (by rw [hgv]; exact hE2) (by omega))
     clear hP hgv hE1 hE2 hglt r0 r1 hFF
     go_wp2_with fail
     refine HLP.out.mono ?_
     intro e w3 hq
     obtain ⟨av', bv', rfl, hPP⟩ := leap_pair hq XW.out hne hBa hBb (Nat.le_of_lt hlt) (by omega) hg0
     have HP := lh hPP
     clear hPP hq
     go_wp2_with fail
     go_roundg F1
     case measure => exact hmeas
     case rel => exact ⟨F0, HP.out⟩
    | true =>
     have hP := blk_split (n := (dig gk).length) T1.out hlm
     have hgv : val (Xb.take (dig gk).length) = gk := by rw [T2.out, val_dig]
     have hglt : gk < B64 ^ (dig gk).length := by have h := val_lt (dig_digs gk); rwa [val_dig] at h
     have hl0 := dig_length_mono hle0
     have hg0 : Nat.gcd F0 F1 = g := by rw [hgcd]; exact HG.out
     have hmeas : F1 < gk := by omega
     rw [show - sg true = -1 from rfl] at r0
     rw [show sg true = 1 from rfl] at r1
     have hE1 := low_neg hP (row_neg1 r0)
     have hE2 := low_pos hP (row_pos r1)
     have HLP : Hid (∀ w5 : World, Below wx.heap.size wx w5 → Calls Tryz.prog 239 #[.slice (some ⟨gb, 0, none⟩) (dig gk).length cb, .slice (some ⟨ga, 0, none⟩) (dig F).length ca, .agg #[.int .u64 (v0 : Int), .int .u64 (u0 : Int)], .agg #[.int .u64 (v1 : Int), .int .u64 (u1 : Int)], .int .i64 ((dig gk).length : Int)] w5 (LeapPost B w5 gb ga cb ca F0 F1 Xb Xa)) := fun w5 h5 =>
      leap_any w5 B gb ga (dig gk).length (dig F).length cb ca (dig gk).length v0 u0 v1 u1 F0 F1 (val ((dig F).drop (dig gk).length) * u0) 0 0 (val ((dig F).drop (dig gk).length) * u1) Xb Xa (X2.out.below h5 hgbx) (X1.out.below h5 hgax) hne.symm hBb hBa d2 d1 (Nat.le_refl _) hlm l2 l1 hcb hca (by omega) hv0 hu0 hv1 hu1 (by rw [hgv]; exact hE1) (by omega) (by rw [hgv]; exact hE2) (by omega)
     clear hP hgv hE1 hE2 hglt r0 r1 hFF
     go_upto_region 8 with fail
     go_region_with
      (first
      | (go_at_call 239; refine (HLP.out w5 HB5.out).mono ?_; intro e w6 hq; obtain ⟨av', bv', rfl, hPP⟩ := leap_pair hq (XW.out.trans (HB5.out.mono hBx)) hne.symm hBb hBa (Nat.le_of_lt hlt) (by omega) hg0; have HP := lh hPP; clear hPP hq)
      | (go_at_call 240; refine (turned_any w4 u1 v1).mono ?_; rintro e w5 ⟨rfl, hb5⟩; have HB5 := lh (HB4.out.trans (hb5.mono HB4.out.size)); obtain ⟨m0, m1, m2, m3⟩ := Boxed.belowW rfl hsx HB5.out HBX.out; clear hb5)
      | (go_at_call 240; refine (turned_any _ u0 v0).mono ?_; rintro e w4 ⟨rfl, hb4⟩; have hb4 := of_drewB hb4; have HB4 := lh hb4; obtain ⟨n0, n1, n2, n3⟩ := Boxed.belowW rfl hsx hb4 HBX.out; clear hb4))
     all_goals
      go_wp2_with fail
      go_roundg F1
      case measure => exact hmeas
      case rel => exact ⟨F0, HP.out⟩
  ·have h1' : ¬ (1 : Int) < ((dig gk).length : Int) := by omega
   go_wp2_with fail
   go_ret2
   exact ⟨F, gk, _, _, rfl, by omega, ⟨⟨PA, PB, ca, cb, rfl, rfl, hca, hcb, hna, hnb, hblk⟩, hle, hlen, hg, hbel⟩⟩
