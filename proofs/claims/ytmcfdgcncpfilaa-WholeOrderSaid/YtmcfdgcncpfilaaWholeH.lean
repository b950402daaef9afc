/- whole's law: what its helpers answer. -/
import Derived.Test.YtmcfdgcncpfilaaWholeG
import Derived.Test.YtmcfdgcncpfilaaWholeNorm
import Derived.Test.YtmcfdgcncpfilaaWholeNeg
import Derived.Test.YtmcfdgcncpfilaaWholeAbs
import Derived.Test.YtmcfdgcncpfilaaWholeMul
import Derived.Test.YtmcfdgcncpfilaaWholeGcd
namespace Go.Proofs.Ytmcfdgcncpfilaa
open Go.RowKit

/-- How many digits a whole number has. -/
abbrev zl (z : Int) : Nat := (dig z.natAbs).length
theorem zl_add (y z : Int) : zl (y + z) ≤ zl y + zl z + 1 := Nat.le_trans (dl_le (Int.natAbs_add_le y z)) (dl_add _ _)
theorem zl_sub (y z : Int) : zl (y - z) ≤ zl y + zl z + 1 := Nat.le_trans (dl_le (Int.natAbs_sub_le y z)) (dl_add _ _)
theorem zl_mul (y z : Int) : zl (y * z) ≤ zl y + zl z := by unfold zl; rw [Int.natAbs_mul]; exact dl_mul _ _
theorem zl_neg (z : Int) : zl (-z) = zl z := by unfold zl; rw [Int.natAbs_neg]
theorem zl_abs (z : Int) : zl ((z.natAbs : Nat) : Int) = zl z := by unfold zl; rw [Int.natAbs_natCast]
theorem zl_div (y z : Int) : zl (y / z) ≤ zl y + 2 := by
  have h := dq_len (zneg y) y.natAbs z.natAbs
  have h2 := (zdm_eq (zneg y) (zneg z) y.natAbs z.natAbs).1
  rw [zv_zneg, zv_zneg] at h2
  unfold zl
  rw [← h2, zv_natAbs]
  exact h
theorem zl_rem (y z : Int) : zl (zrem y z) ≤ max (zl y) (zl z) := by
  have h := dr_len (zneg y) y.natAbs z.natAbs
  have h2 := (zdm_eq (zneg y) (zneg z) y.natAbs z.natAbs).2
  rw [zv_zneg, zv_zneg] at h2
  unfold zl
  rw [← h2, zv_natAbs]
  exact h
theorem zl_val {s : Bool} {xs : List Nat} {z : Int} (hd : Digs xs) (h : zv s (val xs) = z) : zl z ≤ xs.length := by
  unfold zl; rw [← h, zv_natAbs]; exact dig_length_val hd
theorem zv_dig (z : Int) : zv (zneg z) (val (dig z.natAbs)) = z := by rw [val_dig, zv_zneg]

set_option maxHeartbeats 1000000 in
theorem same2_any (w : World) (A B : Option Addr) (c d : Nat) (y z : Int) (ha : Num w A (dig y.natAbs)) (hb : Num w B (dig z.natAbs)) (e : y = z) (hn : zl y ≤ 1000000) :
    Calls Try.prog 42 #[.agg #[.bool (zneg y), .slice A (dig y.natAbs).length c], .agg #[.bool (zneg z), .slice B (dig z.natAbs).length d]] w (RetB w true) := by
  subst e
  have HS := Lib.hid (fun o1 o2 => same_v ((w.alloc o1).alloc o2) A B c d y.natAbs y.natAbs ((ha.alloc _).alloc _) ((hb.alloc _).alloc _) rfl hn)
  have HW := Lib.hid (fun o1 o2 => (((Below.refl w.heap.size w).alloc (Nat.le_refl _) o1).alloc (by simp) o2 : Below w.heap.size w ((w.alloc o1).alloc o2)))
  clear ha hb hn
  go_enter Try.func42, Try.ntmps42
  go_wp2_with fail
  refine (HS.out _ _).mono ?_
  rintro e w1 ⟨rfl, hb1⟩
  go_wp2_with fail
  go_ret
  exact ⟨rfl, (HW.out _ _).trans (hb1.mono (HW.out _ _).size)⟩

set_option maxHeartbeats 1000000 in
theorem short_any (w : World) (s : Bool) (A : Option Addr) (n c : Nat) (k : Int) :
    Calls Try.prog 51 #[.agg #[.bool s, .slice A n c], .int .i64 k] w (RetB w (decide ((n : Int) ≤ k))) := by
  go_enter Try.func51, Try.ntmps51
  go_wp2_with fail
  go_ret
  exact ⟨rfl, (Below.refl _ _).alloc (Nat.le_refl _) _⟩

set_option maxHeartbeats 2000000 in
theorem is2_any (w : World) (A : Option Addr) (c : Nat) (z n : Int) (ha : Num w A (dig z.natAbs)) (hc : (dig z.natAbs).length ≤ c) (e : z = n) (h1 : -9223372036854775808 ≤ n) (h2 : n ≤ 9223372036854775807) :
    Calls Try.prog 43 #[.agg #[.bool (zneg z), .slice A (dig z.natAbs).length c], .int .i64 n] w (RetB w true) := by
  subst e
  have hl1 : (dig z.natAbs).length ≤ 1 := dig_length_le (by rw [B64_eq]; omega)
  have hl0 : z = 0 → (dig z.natAbs).length = 0 := fun h => dig_nil_iff.2 (by rw [h]; rfl)
  have HV : Hid (smallv z = z) := by show _ = _; unfold smallv; rw [if_pos ⟨h1, h2⟩]
  have HF : Hid (smallb z = true) := by show _ = _; unfold smallb; exact decide_eq_true ⟨h1, h2⟩
  have HS := Lib.hid (fun o => small_any (w.alloc o) (zneg z) A c (dig z.natAbs) z (ha.alloc o) (zv_dig z) (by omega) hc)
  rw [HV.out, HF.out] at HS
  have HW := Lib.hid (fun o1 => ((Below.refl w.heap.size w).alloc (Nat.le_refl _) o1 : Below w.heap.size w (w.alloc o1)))
  have HI := Lib.hid (fun v => (show Ibx (w.alloc (.cells #[.bool v, .slice A (dig z.natAbs).length c] 43)) w.heap.size v A (dig z.natAbs).length c from Ibx.new' _ _ _ _ _ _ rfl))
  have hl1' : ((dig z.natAbs).length : Int) ≤ 1 := by omega
  have hd1 : decide (((dig z.natAbs).length : Int) ≤ 1) = true := decide_eq_true hl1'
  have hzz : (zneg z == decide (z < 0)) = true := by unfold zneg; simp
  clear ha hc
  by_cases h0 : z = 0
  · have hl := hl0 h0
    have hz : (((dig z.natAbs).length : Int) == 0) = true := by rw [hl]; rfl
    have hz2 : (z != 0) = false := by rw [h0]; rfl
    have HH := Lib.hid h0
    clear h0 hl hl0 hl1
    go_enter Try.func43, Try.ntmps43
    go_wp2_with fail
    refine (HS.out _).mono ?_
    rintro e w1 ⟨rfl, hb1⟩
    have I1 := (HI.out _).below hb1
    have c0 := I1.c0
    have c1 := I1.c1
    have HB1 := Lib.hid ((HW.out _).trans (hb1.mono (HW.out _).size))
    clear I1 hb1 HS HW HI
    go_wp2_with fail
    go_ret
    exact ⟨rfl, HB1.out⟩
  · have hz2 : (z != 0) = true := by rw [bne_iff_ne]; exact h0
    clear hl0 hl1
    go_enter Try.func43, Try.ntmps43
    go_wp2_with fail
    refine (HS.out _).mono ?_
    rintro e w1 ⟨rfl, hb1⟩
    have I1 := (HI.out _).below hb1
    have c0 := I1.c0
    have c1 := I1.c1
    have HB1 := Lib.hid ((HW.out _).trans (hb1.mono (HW.out _).size))
    clear I1 hb1 HS HW HI
    go_wp2_with fail
    go_ret
    exact ⟨rfl, HB1.out⟩
end Go.Proofs.Ytmcfdgcncpfilaa
