/- The examples that every law asks. -/
import Derived.Test.YtginajegbknfhaaGcdS
namespace Go.Proofs.Ytginajegbknfhaa
open Go.RowKit

theorem Num.lit (w : World) (xs : List Nat) (hd : Digs xs) : Num (w.alloc (.cells (xs.map dcell).toArray 50)) (some ⟨w.heap.size, 0, none⟩) xs := (Blk.lit w xs).num hd

theorem digs_lit {xs : List Nat} (h : xs.all (fun x => decide (x < 18446744073709551616)) = true) : Digs xs := by
  intro x hx
  have := List.all_eq_true.1 h x hx
  rw [B64_eq]
  simpa using this

theorem Num.lit2 (w : World) (xs ys : List Nat) (hx : Digs xs) (hy : Digs ys) :
    Num ((w.alloc (.cells (xs.map dcell).toArray 50)).alloc (.cells (ys.map dcell).toArray 50)) (some ⟨w.heap.size, 0, none⟩) xs ∧
    Num ((w.alloc (.cells (xs.map dcell).toArray 50)).alloc (.cells (ys.map dcell).toArray 50)) (some ⟨w.heap.size + 1, 0, none⟩) ys := by
  refine ⟨(Num.lit w xs hx).alloc _, ?_⟩
  have h := Num.lit (w.alloc (.cells (xs.map dcell).toArray 50)) ys hy
  rwa [show (w.alloc (.cells (xs.map dcell).toArray 50)).heap.size = w.heap.size + 1 by simp] at h

theorem below_alloc2 {w w' : World} {o p : Obj} (h : Below ((w.alloc o).alloc p).heap.size ((w.alloc o).alloc p) w') : Below w.heap.size w w' :=
  (((Below.refl _ _).alloc (Nat.le_refl _) o).alloc (by simp) p).trans (h.mono (by simp; omega))
theorem below_alloc1 {w w' : World} {o : Obj} (h : Below (w.alloc o).heap.size (w.alloc o) w') : Below w.heap.size w w' :=
  ((Below.refl _ _).alloc (Nat.le_refl _) o).trans (h.mono (by simp))
theorem RetN.lit2 {w w' : World} {o p : Obj} {n : Nat} {e : Ending} (h : RetN ((w.alloc o).alloc p) n e w') : RetN w n e w' := by
  obtain ⟨A, c, h1, h2, h3, h4⟩ := h
  exact ⟨A, c, h1, h2, h3, below_alloc2 h4⟩
theorem RetN.lit1 {w w' : World} {o : Obj} {n : Nat} {e : Ending} (h : RetN (w.alloc o) n e w') : RetN w n e w' := by
  obtain ⟨A, c, h1, h2, h3, h4⟩ := h
  exact ⟨A, c, h1, h2, h3, below_alloc1 h4⟩
theorem RetDM.lit2 {w w' : World} {o p : Obj} {q r : Nat} {e : Ending} (h : RetDM ((w.alloc o).alloc p) q r e w') : RetDM w q r e w' := by
  obtain ⟨A, c, B, d, h1, h2, h3, h4, h5, h6⟩ := h
  exact ⟨A, c, B, d, h1, h2, h3, h4, h5, below_alloc2 h6⟩

section
variable (w : World) (xs ys : List Nat) (n m : Nat) (X Y : Array Value) (hX : (xs.map dcell).toArray = X) (hY : (ys.map dcell).toArray = Y) (hn : xs.length = n) (hm : ys.length = m) (hx : Digs xs) (hy : Digs ys)
  (hn2 : n ≤ 4294967296) (hm2 : m ≤ 4294967296)
include hX hY hn hm hx hy hn2 hm2
theorem add_lit : Calls Try.prog 11 #[.slice (some ⟨w.heap.size, 0, none⟩) n n, .slice (some ⟨w.heap.size + 1, 0, none⟩) m m] ((w.alloc (.cells X 50)).alloc (.cells Y 50)) (RetN w (val xs + val ys)) := by
  subst hX; subst hY; subst hn; subst hm
  obtain ⟨h1, h2⟩ := Num.lit2 w xs ys hx hy
  exact (add_any _ _ _ _ _ xs ys h1 h2 (by omega) (by omega) (Nat.le_refl _) (Nat.le_refl _)).mono fun _ _ h => h.lit2
theorem mul_lit : Calls Try.prog 15 #[.slice (some ⟨w.heap.size, 0, none⟩) n n, .slice (some ⟨w.heap.size + 1, 0, none⟩) m m] ((w.alloc (.cells X 50)).alloc (.cells Y 50)) (RetN w (val xs * val ys)) := by
  subst hX; subst hY; subst hn; subst hm
  obtain ⟨h1, h2⟩ := Num.lit2 w xs ys hx hy
  exact (mul_any _ _ _ _ _ xs ys h1 h2 (by omega) (by omega) (Nat.le_refl _) (Nat.le_refl _)).mono fun _ _ h => h.lit2
theorem divmod_lit : Calls Try.prog 8 #[.slice (some ⟨w.heap.size, 0, none⟩) n n, .slice (some ⟨w.heap.size + 1, 0, none⟩) m m] ((w.alloc (.cells X 50)).alloc (.cells Y 50)) (RetDM w (dmq (val xs) (val ys)) (dmr (val xs) (val ys))) := by
  subst hX; subst hY; subst hn; subst hm
  obtain ⟨h1, h2⟩ := Num.lit2 w xs ys hx hy
  exact (divmod_any _ _ _ _ _ xs ys h1 h2 (by omega) (by omega) (Nat.le_refl _) (Nat.le_refl _)).mono fun _ _ h => h.lit2
theorem gcd_lit (hs : (dig (min (val xs) (val ys))).length ≤ 1) : Calls Try.prog 28 #[.slice (some ⟨w.heap.size, 0, none⟩) n n, .slice (some ⟨w.heap.size + 1, 0, none⟩) m m] ((w.alloc (.cells X 50)).alloc (.cells Y 50)) (RetN w (Nat.gcd (val xs) (val ys))) := by
  subst hX; subst hY; subst hn; subst hm
  obtain ⟨h1, h2⟩ := Num.lit2 w xs ys hx hy
  exact (gcd_small _ _ _ _ _ xs ys h1 h2 (by omega) (by omega) (Nat.le_refl _) (Nat.le_refl _) hs).mono fun _ _ h => h.lit2
end

/-- is, against a list of digits that is written out. -/
theorem is_lit (w : World) (A : Option Addr) (c n m : Nat) (ys : List Nat) (Y : Array Value) (hY : (ys.map dcell).toArray = Y) (hm : ys.length = m) (ha : Num w A (dig n)) (hy : Digs ys) (hv : val ys = n) (ht : ys.getLast? ≠ some 0) (hm2 : m ≤ 1099511627776) :
    Calls Try.prog 57 #[.slice A (dig n).length c, .slice (some ⟨w.heap.size, 0, none⟩) m m] (w.alloc (.cells Y 50)) (RetB w true) := by
  subst hY; subst hm; subst hv
  have e := dig_of_top hy ht
  rw [e] at ha ⊢
  refine (is_yes _ A _ c _ ys (ha.alloc _) (Num.lit w ys hy) hm2).mono ?_
  rintro e w' ⟨rfl, h⟩
  exact ⟨rfl, below_alloc1 h⟩

def TOP : Nat := 18446744073709551615
theorem digs1 {x : Nat} (h : x < B64) : Digs [x] := Digs.cons h Digs.nil
theorem digs2 {x y : Nat} (hx : x < B64) (hy : y < B64) : Digs [x, y] := Digs.cons hx (digs1 hy)
theorem digs3 {x y z : Nat} (hx : x < B64) (hy : y < B64) (hz : z < B64) : Digs [x, y, z] := Digs.cons hx (digs2 hy hz)

set_option maxHeartbeats 4000000 in
theorem awake_any (w : World) : Calls Try.prog 6 #[] w (RetB w true) := by
  go_enter Try.func6, Try.ntmps6
  go_wp2_with fail
  refine (divmod_lit w [0, 0, 1] [3] 3 1 _ _ rfl rfl rfl rfl (digs_lit (by decide +kernel)) (digs_lit (by decide +kernel)) (by omega) (by omega)).mono ?_
  rintro e w1 ⟨Aq, cq, Ar, cr, rfl, hcq, hcr, hq, hr, hb1⟩
  have HQ := Lib.hid hq
  have HR := Lib.hid hr
  have HB1 := Lib.hid hb1
  clear hq hr hb1
  go_wp2_with fail
  refine (add_lit w1 [18446744073709551615] [1] 1 1 _ _ rfl rfl rfl rfl (digs_lit (by decide +kernel)) (digs_lit (by decide +kernel)) (by omega) (by omega)).mono ?_
  rintro e w2 ⟨A2, c2, rfl, hc2, h2, hb2⟩
  have H2 := Lib.hid h2
  have HB2 := Lib.hid hb2
  clear h2 hb2
  go_wp2_with fail
  refine (is_lit w2 A2 c2 _ 2 [0, 1] _ rfl rfl H2.out (digs_lit (by decide +kernel)) (by decide +kernel) (by decide) (by omega)).mono ?_
  rintro e w3 ⟨rfl, hb3⟩
  have HB3 := Lib.hid hb3
  clear hb3
  go_wp2_with fail
  refine (mul_lit w3 [18446744073709551615] [18446744073709551615] 1 1 _ _ rfl rfl rfl rfl (digs_lit (by decide +kernel)) (digs_lit (by decide +kernel)) (by omega) (by omega)).mono ?_
  rintro e w4 ⟨A4, c4, rfl, hc4, h4, hb4⟩
  have H4 := Lib.hid h4
  have HB4 := Lib.hid hb4
  clear h4 hb4
  go_wp2_with fail
  refine (is_lit w4 A4 c4 _ 2 [1, 18446744073709551614] _ rfl rfl H4.out (digs_lit (by decide +kernel)) (by decide +kernel) (by decide) (by omega)).mono ?_
  rintro e w5 ⟨rfl, hb5⟩
  have HB5 := Lib.hid hb5
  clear hb5
  have HQ5 := Lib.hid (((((HQ.out.below HB2.out).below HB3.out).below HB4.out).below HB5.out))
  have HR5 := Lib.hid (((((HR.out.below HB2.out).below HB3.out).below HB4.out).below HB5.out))
  go_wp2_with fail
  refine (is_lit w5 Aq cq _ 2 [6148914691236517205, 6148914691236517205] _ rfl rfl HQ5.out (digs_lit (by decide +kernel)) (by decide +kernel) (by decide) (by omega)).mono ?_
  rintro e w6 ⟨rfl, hb6⟩
  have HB6 := Lib.hid hb6
  clear hb6
  go_wp2_with fail
  refine (is_lit w6 Ar cr _ 1 [1] _ rfl rfl (HR5.out.below HB6.out) (digs_lit (by decide +kernel)) (by decide +kernel) (by decide) (by omega)).mono ?_
  rintro e w7 ⟨rfl, hb7⟩
  have HB7 := Lib.hid hb7
  clear hb7
  go_wp2_with fail
  refine (gcd_lit w7 [12] [18] 1 1 _ _ rfl rfl rfl rfl (digs_lit (by decide +kernel)) (digs_lit (by decide +kernel)) (by omega) (by omega) (by
    rw [show min (val [12]) (val [18]) = 12 by decide +kernel, dig_one (by omega) (by rw [B64_eq]; omega)]; simp)).mono ?_
  rintro e w8 ⟨A8, c8, rfl, hc8, h8, hb8⟩
  have H8 := Lib.hid h8
  have HB8 := Lib.hid hb8
  clear h8 hb8
  go_wp2_with fail
  refine (is_lit w8 A8 c8 _ 1 [6] _ rfl rfl H8.out (digs_lit (by decide +kernel)) (by decide +kernel) (by decide) (by omega)).mono ?_
  rintro e w9 ⟨rfl, hb9⟩
  have HB9 := Lib.hid hb9
  clear hb9
  go_wp2_with fail
  go_ret
  have t2 := HB1.out.trans (HB2.out.mono HB1.out.size)
  have t3 := t2.trans (HB3.out.mono t2.size)
  have t4 := t3.trans (HB4.out.mono t3.size)
  have t5 := t4.trans (HB5.out.mono t4.size)
  have t6 := t5.trans (HB6.out.mono t5.size)
  have t7 := t6.trans (HB7.out.mono t6.size)
  have t8 := t7.trans (HB8.out.mono t7.size)
  exact ⟨rfl, t8.trans (HB9.out.mono t8.size)⟩
end Go.Proofs.Ytginajegbknfhaa
