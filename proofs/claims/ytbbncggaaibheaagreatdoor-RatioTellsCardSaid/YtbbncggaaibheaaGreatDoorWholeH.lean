/- whole's law: what its helpers answer. -/
import Derived.Test.YtbbncggaaibheaaGreatDoorWholeG
import Derived.Test.YtbbncggaaibheaaGreatDoorWholeNorm
import Derived.Test.YtbbncggaaibheaaGreatDoorWholeNeg
import Derived.Test.YtbbncggaaibheaaGreatDoorWholeAbs
import Derived.Test.YtbbncggaaibheaaGreatDoorWholeMul
import Derived.Test.YtbbncggaaibheaaGreatDoorWholeGcd
namespace Go.Proofs.YtbbncggaaibheaaGreatDoor
open Go.RowKit

/-- How many digits a whole number has. -/
abbrev zl (z : Int) : Nat := (dig z.natAbs).length
theorem zl_add (y z : Int) : zl (y + z) ≤ zl y + zl z + 1 := Nat.le_trans (dl_le (Int.natAbs_add_le y z)) (dl_add _ _)
theorem zl_sub (y z : Int) : zl (y - z) ≤ zl y + zl z + 1 := Nat.le_trans (dl_le (Int.natAbs_sub_le y z)) (dl_add _ _)
theorem zl_mul (y z : Int) : zl (y * z) ≤ zl y + zl z := by unfold zl; rw [Int.natAbs_mul]; exact dl_mul _ _
theorem zl_neg (z : Int) : zl (-z) = zl z := by unfold zl; rw [Int.natAbs_neg]
theorem zl_abs (z : Int) : zl ((z.natAbs : Nat) : Int) = zl z := by unfold zl; rw [Int.natAbs_natCast]
theorem zl_div (y z : Int) : zl (y / z) ≤ zl y + 2 := by
  have h := dq_len (zneg y) y.natAbs z.natAbs
  have h2 := (zdm_eq (zneg y) (zneg z) y.natAbs z.natAbs).1
  rw [zv_zneg, zv_zneg] at h2
  unfold zl
  rw [← h2, zv_natAbs]
  exact h
theorem zl_rem (y z : Int) : zl (zrem y z) ≤ max (zl y) (zl z) := by
  have h := dr_len (zneg y) y.natAbs z.natAbs
  have h2 := (zdm_eq (zneg y) (zneg z) y.natAbs z.natAbs).2
  rw [zv_zneg, zv_zneg] at h2
  unfold zl
  rw [← h2, zv_natAbs]
  exact h
theorem zl_val {s : Bool} {xs : List Nat} {z : Int} (hd : Digs xs) (h : zv s (val xs) = z) : zl z ≤ xs.length := by
  unfold zl; rw [← h, zv_natAbs]; exact dig_length_val hd
theorem zv_dig (z : Int) : zv (zneg z) (val (dig z.natAbs)) = z := by rw [val_dig, zv_zneg]

set_option maxHeartbeats 1000000 in
theorem same2_any (w : World) (A B : Option Addr) (c d : Nat) (y z : Int) (ha : Num w A (dig y.natAbs)) (hb : Num w B (dig z.natAbs)) (e : y = z) (hn : zl y ≤ 1000000) :
    Calls Tryz.prog 10 #[.agg #[.bool (zneg y), .slice A (dig y.natAbs).length c], .agg #[.bool (zneg z), .slice B (dig z.natAbs).length d]] w (RetB w true) := by
  subst e
  have HS := Lib.hid (fun o1 o2 => same_v ((w.alloc o1).alloc o2) A B c d y.natAbs y.natAbs ((ha.alloc _).alloc _) ((hb.alloc _).alloc _) rfl hn)
  have HW := Lib.hid (fun o1 o2 => (((Below.refl w.heap.size w).alloc (Nat.le_refl _) o1).alloc (by simp) o2 : Below w.heap.size w ((w.alloc o1).alloc o2)))
  clear ha hb hn
  go_enter Tryz.func10, Tryz.ntmps10
  go_wp2_with fail
  refine (HS.out _ _).mono ?_
  rintro e w1 ⟨rfl, hb1⟩
  go_wp2_with fail
  go_ret
  exact ⟨rfl, (HW.out _ _).trans (hb1.mono (HW.out _ _).size)⟩

end Go.Proofs.YtbbncggaaibheaaGreatDoor
