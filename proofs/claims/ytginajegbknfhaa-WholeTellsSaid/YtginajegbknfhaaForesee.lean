/- foresee: Euclid's steps on the leading bits. -/
import Derived.Test.YtginajegbknfhaaLehmerMath
import Derived.BigRegion
namespace Go.Proofs.Ytginajegbknfhaa
open Go.RowKit

/-- Block g is a mix. -/
def Mix (w : World) (g u v : Nat) : Prop := w.heap[g]? = some (.cells #[.int .u64 (u : Int), .int .u64 (v : Int)] 74 (0, 0))
theorem Mix.c0 {w : World} {g u v : Nat} (h : Mix w g u v) : w.cell? ⟨g, 0, none⟩ = some (.int .u64 (u : Int)) := by
  unfold Mix at h
  rw [cell_of_row w g 0 _ _ _ h]; rfl
theorem Mix.c1 {w : World} {g u v : Nat} (h : Mix w g u v) : w.cell? ⟨g, 1, none⟩ = some (.int .u64 (v : Int)) := by
  unfold Mix at h
  rw [cell_of_row w g 1 _ _ _ h]; rfl
theorem Mix.f {w : World} {g u v : Nat} (h : Mix w g u v) (i : Nat) : w.frozen? ⟨g, i, none⟩ = false := frozen_of_row w g i _ _ h

theorem Mix.new (w : World) (u v : Nat) : Mix (w.alloc (.cells #[.int .u64 (u : Int), .int .u64 (v : Int)] 74)) w.heap.size u v := heap_alloc_new w _
theorem Mix.lt {w : World} {g u v : Nat} (h : Mix w g u v) : g < w.heap.size := lt_of_block h
theorem Mix.alloc {w : World} {g u v : Nat} (h : Mix w g u v) (o : Obj) : Mix (w.alloc o) g u v := (Below.heap_alloc w o g h.lt).trans h
theorem Mix.drewN {w : World} {g u v : Nat} (h : Mix w g u v) (n : Nat) : Mix (w.drewN n) g u v := h
theorem Mix.far {w : World} {g u v : Nat} (h : Mix w g u v) {p : Addr} (hp : g ≠ p.block) (x : Value) : Mix (w.setCell p x) g u v := (Below.heap_setCell w p x g hp).trans h
theorem Mix.two {w : World} {g u v : Nat} (h : Mix w g u v) (a b : Nat) : Mix ((w.setCell ⟨g, 0, none⟩ (.int .u64 (a : Int))).setCell ⟨g, 1, none⟩ (.int .u64 (b : Int))) g a b := by
  unfold Mix at h ⊢
  rw [heap_setCell_same _ g 1 _ _ _ (heap_setCell_same w g 0 _ _ _ h)]
  rfl

theorem Mix.new1_ (w : World) (u v : Nat) (o1 o2 o3 o4 : Obj) : Mix (((((w.alloc (.cells #[.int .u64 (u : Int), .int .u64 (v : Int)] 74)).alloc o1).alloc o2).alloc o3).alloc o4) (w.heap.size) u v := by
  have h := ((((Mix.new w u v).alloc o1).alloc o2).alloc o3).alloc o4
  exact h
theorem Mix.new2_ (w : World) (u v : Nat) (o1 o2 o3 o4 : Obj) : Mix (((((w.alloc o1).alloc (.cells #[.int .u64 (u : Int), .int .u64 (v : Int)] 74)).alloc o2).alloc o3).alloc o4) (w.heap.size + 1) u v := by
  have h := (((Mix.new ((w.alloc o1)) u v).alloc o2).alloc o3).alloc o4
  simpa using h
theorem Mix.new3_ (w : World) (u v : Nat) (o1 o2 o3 o4 : Obj) : Mix (((((w.alloc o1).alloc o2).alloc (.cells #[.int .u64 (u : Int), .int .u64 (v : Int)] 74)).alloc o3).alloc o4) (w.heap.size + 1 + 1) u v := by
  have h := ((Mix.new (((w.alloc o1).alloc o2)) u v).alloc o3).alloc o4
  simpa using h
theorem Mix.new4_ (w : World) (u v : Nat) (o1 o2 o3 o4 : Obj) : Mix (((((w.alloc o1).alloc o2).alloc o3).alloc (.cells #[.int .u64 (u : Int), .int .u64 (v : Int)] 74)).alloc o4) (w.heap.size + 1 + 1 + 1) u v := by
  have h := (Mix.new ((((w.alloc o1).alloc o2).alloc o3)) u v).alloc o4
  simpa using h
theorem Mix.new5_ (w : World) (u v : Nat) (o1 o2 o3 o4 : Obj) : Mix (((((w.alloc o1).alloc o2).alloc o3).alloc o4).alloc (.cells #[.int .u64 (u : Int), .int .u64 (v : Int)] 74)) (w.heap.size + 1 + 1 + 1 + 1) u v := by
  have h := Mix.new (((((w.alloc o1).alloc o2).alloc o3).alloc o4)) u v
  simpa using h

structure ForeRel (w wr : World) (A B x0 y0 H : Nat) (xv yv tv : Value) : Prop where
  ex : ∃ (u0 v0 u1 v1 u2 v2 x y : Nat) (t : Bool), xv = .int .u64 (x : Int) ∧ yv = .int .u64 (y : Int) ∧ tv = .bool t ∧ Fore A B x0 y0 H u0 v0 u1 v1 u2 v2 x y t ∧ u0 < B64 ∧ v0 < B64 ∧ u1 < B64 ∧ v1 < B64 ∧ u2 < B64 ∧ v2 < B64 ∧
    Mix wr (w.heap.size + 1 + 1) u0 v0 ∧ Mix wr (w.heap.size + 1 + 1 + 1) u1 v1 ∧ Mix wr (w.heap.size + 1 + 1 + 1 + 1) u2 v2 ∧ x < B64
  z0 : Mix wr w.heap.size 0 0
  z1 : Mix wr (w.heap.size + 1) 0 0
  below : Below w.heap.size w wr

theorem fore_mem {w wr : World} {A B x0 y0 H : Nat} {u0 v0 u1 v1 u2 v2 q x y : Nat} {t : Bool} (hx : y < B64) (l2 : u1 < B64) (l3 : v1 < B64) (l4 : u2 < B64) (l5 : v2 < B64) (b1 : u1 + q * u2 < B64) (b2 : v1 + q * v2 < B64)
    (hk : Fore A B x0 y0 H u1 v1 u2 v2 (u1 + q * u2) (v1 + q * v2) y (x % y) (!t)) (z0 : Mix wr w.heap.size 0 0) (z1 : Mix wr (w.heap.size + 1) 0 0)
    (m0 : Mix wr (w.heap.size + 1 + 1) u0 v0) (m1 : Mix wr (w.heap.size + 1 + 1 + 1) u1 v1) (m2 : Mix wr (w.heap.size + 1 + 1 + 1 + 1) u2 v2) (hbw : Below w.heap.size w wr) (n : Nat) :
    ForeRel w (((((((wr.drewN n).setCell ⟨w.heap.size + 1 + 1, 0, none⟩ (.int .u64 (u1 : Int))).setCell ⟨w.heap.size + 1 + 1, 1, none⟩ (.int .u64 (v1 : Int))).setCell ⟨w.heap.size + 1 + 1 + 1, 0, none⟩ (.int .u64 (u2 : Int))).setCell
      ⟨w.heap.size + 1 + 1 + 1, 1, none⟩ (.int .u64 (v2 : Int))).setCell ⟨w.heap.size + 1 + 1 + 1 + 1, 0, none⟩ (.int .u64 ((u1 + q * u2 : Nat) : Int))).setCell ⟨w.heap.size + 1 + 1 + 1 + 1, 1, none⟩ (.int .u64 ((v1 + q * v2 : Nat) : Int)))
      A B x0 y0 H (.int .u64 (y : Int)) (.int .u64 ((x % y : Nat) : Int)) (.bool (!t)) := by
  refine ⟨⟨u1, v1, u2, v2, u1 + q * u2, v1 + q * v2, y, x % y, !t, rfl, rfl, rfl, hk, l2, l3, l4, l5, b1, b2, ?_, ?_, ?_, hx⟩, ?_, ?_, ?_⟩
  · exact (((((m0.drewN n).two u1 v1).far (by first | (simp; done) | (simp; omega)) _).far (by first | (simp; done) | (simp; omega)) _).far (by first | (simp; done) | (simp; omega)) _).far (by first | (simp; done) | (simp; omega)) _
  · exact (((((m1.drewN n).far (by first | (simp; done) | (simp; omega)) _).far (by first | (simp; done) | (simp; omega)) _).two u2 v2).far (by first | (simp; done) | (simp; omega)) _).far (by first | (simp; done) | (simp; omega)) _
  · exact (((((m2.drewN n).far (by first | (simp; done) | (simp; omega)) _).far (by first | (simp; done) | (simp; omega)) _).far (by first | (simp; done) | (simp; omega)) _).far (by first | (simp; done) | (simp; omega)) _).two _ _
  · exact ((((((z0.drewN n).far (by first | (simp; done) | (simp; omega)) _).far (by first | (simp; done) | (simp; omega)) _).far (by first | (simp; done) | (simp; omega)) _).far (by first | (simp; done) | (simp; omega)) _).far (by first | (simp; done) | (simp; omega)) _).far (by first | (simp; done) | (simp; omega)) _
  · exact ((((((z1.drewN n).far (by first | (simp; done) | (simp; omega)) _).far (by first | (simp; done) | (simp; omega)) _).far (by first | (simp; done) | (simp; omega)) _).far (by first | (simp; done) | (simp; omega)) _).far (by first | (simp; done) | (simp; omega)) _).far (by first | (simp; done) | (simp; omega)) _
  · exact ((((((below_drewN hbw n).setCell (by first | (simp; done) | (simp; omega)) _).setCell (by first | (simp; done) | (simp; omega)) _).setCell (by first | (simp; done) | (simp; omega)) _).setCell (by first | (simp; done) | (simp; omega)) _).setCell (by first | (simp; done) | (simp; omega)) _).setCell (by first | (simp; done) | (simp; omega)) _

def mixv (u v : Nat) : Value := .agg #[.int .u64 (u : Int), .int .u64 (v : Int)]
/-- What foresee tells. -/
def ForePost (w : World) (A B : Nat) (e : Ending) (w' : World) : Prop :=
  ∃ (u0 v0 u1 v1 : Nat) (t : Bool), e = .returned (.tuple #[.agg #[.int .u64 (u0 : Int), .int .u64 (v0 : Int)], .agg #[.int .u64 (u1 : Int), .int .u64 (v1 : Int)], .bool t]) ∧ Foreseen A B u0 v0 u1 v1 t ∧ Below w.heap.size w w'

set_option maxHeartbeats 4000000 in
theorem foresee_any (w : World) (A B x0 y0 H : Nat) (h : Lead A B x0 y0 H) :
    Calls Try.prog 86 #[.int .u64 x0, .int .u64 y0] w (ForePost w A B) := by
  have HL := Lib.hid h
  clear h
  go_enter Try.func86, Try.ntmps86
  go_wp2_with fail
  go_loopw [0, 1, 10] (fun xv yv tv wr => ForeRel w wr A B x0 y0 H xv yv tv) (fun _ yv _ _ => (intOf yv).toNat)
  case atStart =>
    have hlt := HL.out.lt
    have hle := HL.out.le
    refine ⟨⟨0, 0, 1, 0, 0, 1, x0, y0, true, rfl, rfl, rfl, fore_start HL.out, B64_pos, B64_pos, by rw [B64_eq]; omega, B64_pos, B64_pos, by rw [B64_eq]; omega, ?_, ?_, ?_, hlt⟩, ?_, ?_, ?_⟩
    · exact Mix.new3_ w _ _ _ _ _ _
    · exact Mix.new4_ w _ _ _ _ _ _
    · exact Mix.new5_ w _ _ _ _ _ _
    · exact Mix.new1_ w _ _ _ _ _ _
    · exact Mix.new2_ w _ _ _ _ _ _
    · exact (((((Below.refl _ _).alloc (Nat.le_refl _) _).alloc (by simp) _).alloc (by first | (simp; done) | (simp; omega)) _).alloc (by first | (simp; done) | (simp; omega)) _).alloc (by first | (simp; done) | (simp; omega)) _
  case round =>
    obtain ⟨⟨u0, v0, u1, v1, u2, v2, x, y, t, rfl, rfl, rfl, hk, l0, l1, l2, l3, l4, l5, m0, m1, m2, hx⟩, z0, z1, hbw⟩ := hrel
    have HK := Lib.hid hk
    have HBW := Lib.hid hbw
    have c00 := m0.c0
    have c01 := m0.c1
    have c10 := m1.c0
    have c11 := m1.c1
    have c20 := m2.c0
    have c21 := m2.c1
    have f00 := m0.f 0
    have f01 := m0.f 1
    have f10 := m1.f 0
    have f11 := m1.f 1
    have f20 := m2.f 0
    have f21 := m2.f 1
    have hxy := hk.xy
    have hvp := hk.v2p
    by_cases g1 : v2 ≤ y
    · have hsum := fore_sum HL.out hk g1
      have es1 : IntKind.u64.wrap ((v1 : Int) + (v2 : Int)) = (v1 : Int) + (v2 : Int) := u64_add' hsum
      have es2 : IntKind.u64.wrap ((x : Int) - (y : Int)) = ((x - y : Nat) : Int) := u64_sub (by omega) hx
      have g1' : (v2 : Int) ≤ (y : Int) := by omega
      by_cases g2 : v1 + v2 ≤ x - y
      · obtain ⟨hn, b1, b2⟩ := fore_step HL.out hk g1 g2
        have HN := Lib.hid hn
        have g2' : (v1 : Int) + (v2 : Int) ≤ ((x - y : Nat) : Int) := by omega
        have hy1 : 1 ≤ (y : Int) := by omega
        have hy0 : ((y : Int) == 0) = false := by rw [beq_eq_false_iff_ne]; omega
        have hyn : ¬ (y : Int) = 0 := by omega
        have hq64 : x / y < B64 := Nat.lt_of_le_of_lt (Nat.div_le_self _ _) hx
        obtain ⟨q, hq⟩ : ∃ q, q = x / y := ⟨_, rfl⟩
        have eq0 : IntKind.u64.wrap ((x : Int) / (y : Int)) = (q : Int) := by
          rw [hq]
          exact u64_small (n := x / y) hq64
        rw [← hq] at b1 b2 HN hq64
        have em1 : IntKind.u64.wrap ((q : Int) * (u2 : Int)) = (q : Int) * (u2 : Int) := u64_mul (by omega)
        have em2 : IntKind.u64.wrap ((q : Int) * (v2 : Int)) = (q : Int) * (v2 : Int) := u64_mul (by omega)
        have ea1 : IntKind.u64.wrap ((u1 : Int) + (q : Int) * (u2 : Int)) = (u1 : Int) + (q : Int) * (u2 : Int) := by
          rw [← Int.natCast_mul]
          exact u64_add' (a := u1) (b := q * u2) b1
        have ea2 : IntKind.u64.wrap ((v1 : Int) + (q : Int) * (v2 : Int)) = (v1 : Int) + (q : Int) * (v2 : Int) := by
          rw [← Int.natCast_mul]
          exact u64_add' (a := v1) (b := q * v2) b2
        have HQ := Lib.hid hq
        have Z0 := Lib.hid z0
        have Z1 := Lib.hid z1
        have M0 := Lib.hid m0
        have M1 := Lib.hid m1
        have M2 := Lib.hid m2
        clear hk hbw hn hq z0 z1 m0 m1 m2
        go_wp2_with fail
        go_quiet (fail)
        go_wp2_with fail
        go_region
        have HS := fore_mem (Nat.lt_of_le_of_lt hxy hx) l2 l3 l4 l5 b1 b2 HN.out Z0.out Z1.out M0.out M1.out M2.out HBW.out (nq + 1)
        go_wp2_with fail
        go_roundw
        case rel => exact HS
        case measure =>
          have := Nat.mod_lt x (show y > 0 by omega)
          simp [intOf]; omega
      · have g2' : ¬ (v1 : Int) + (v2 : Int) ≤ ((x - y : Nat) : Int) := by omega
        have HF := Lib.hid (fore_end hk l0 l1 l2 l3)
        have c30 := z0.c0
        have c31 := z0.c1
        have c40 := z1.c0
        have c41 := z1.c1
        have f30 := z0.f 0
        have f31 := z0.f 1
        have f40 := z1.f 0
        have f41 := z1.f 1
        clear hk hbw z0 z1 m0 m1 m2
        go_wp2_with fail
        go_region
        go_wp2_with fail
        refine bodyPost_ret (v := .tuple #[.agg #[.int .u64 (u0 : Int), .int .u64 (v0 : Int)], .agg #[.int .u64 (u1 : Int), .int .u64 (v1 : Int)], .bool t]) (by simp [results, Try.results86, go_sem, c30, c31, c40, c41]) rfl ⟨u0, v0, u1, v1, t, rfl, HF.out, ?_⟩
        exact (((((HBW.out.setCell (by simp) _).setCell (by simp) _).setCell (by simp) _).setCell (by simp) _).drew)
    · have g1' : ¬ (v2 : Int) ≤ (y : Int) := by omega
      have HF := Lib.hid (fore_end hk l0 l1 l2 l3)
      have c30 := z0.c0
      have c31 := z0.c1
      have c40 := z1.c0
      have c41 := z1.c1
      have f30 := z0.f 0
      have f31 := z0.f 1
      have f40 := z1.f 0
      have f41 := z1.f 1
      clear hk hbw z0 z1 m0 m1 m2
      go_wp2_with fail
      go_region
      go_wp2_with fail
      refine bodyPost_ret (v := .tuple #[.agg #[.int .u64 (u0 : Int), .int .u64 (v0 : Int)], .agg #[.int .u64 (u1 : Int), .int .u64 (v1 : Int)], .bool t]) (by simp [results, Try.results86, go_sem, c30, c31, c40, c41]) rfl ⟨u0, v0, u1, v1, t, rfl, HF.out, ?_⟩
      exact (((((HBW.out.setCell (by simp) _).setCell (by simp) _).setCell (by simp) _).setCell (by simp) _).drew)
end Go.Proofs.Ytginajegbknfhaa
