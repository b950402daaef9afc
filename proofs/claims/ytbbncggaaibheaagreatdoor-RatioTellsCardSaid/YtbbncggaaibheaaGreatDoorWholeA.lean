/- whole: signs and the one form. -/
import Derived.Test.YtbbncggaaibheaaGreatDoorLaws
import Derived.BigRegion
import Derived.BigQuiet
import Derived.StillTailTactics
import Derived.Deep.QuietTactic
import Derived.Deep.RegionHeld3
import Derived.Deep.DeepCutAuto
import Derived.Deep.CutBlock
namespace Go.Proofs.YtbbncggaaibheaaGreatDoor
open Go.RowKit

/-- The whole number of a sign and a size. -/
def zv (s : Bool) (m : Nat) : Int := if s then -(m : Int) else (m : Int)
def zneg (z : Int) : Bool := decide (z < 0)
theorem zv_zneg (z : Int) : zv (zneg z) z.natAbs = z := by
  unfold zv zneg
  by_cases h : z < 0
  · rw [decide_eq_true h, if_pos rfl]; omega
  · rw [decide_eq_false h, if_neg (by simp)]; omega
theorem zv_natAbs (s : Bool) (m : Nat) : (zv s m).natAbs = m := by cases s <;> simp [zv]
theorem zv_zero (s : Bool) : zv s 0 = 0 := by cases s <;> simp [zv]
theorem zneg_of {z : Int} {b : Bool} (h : b = true ↔ z < 0) : zneg z = b := by
  unfold zneg
  cases b with
  | true => exact decide_eq_true (h.1 rfl)
  | false => exact decide_eq_false (fun h2 => Bool.noConfusion (h.2 h2))

/-- A whole number in the one form, in memory. -/
def RetZ (w : World) (z : Int) (e : Ending) (w' : World) : Prop :=
  ∃ A c, e = .returned (.agg #[.bool (zneg z), .slice A (dig z.natAbs).length c]) ∧ (dig z.natAbs).length ≤ c ∧ Num w' A (dig z.natAbs) ∧ Below w.heap.size w w'

theorem blen_pos {m : Nat} (h : m ≠ 0) : 0 < blen m := by unfold blen; rw [if_neg h]; omega

set_option maxHeartbeats 400000 in
theorem signOf_any (w : World) (b : Bool) :
    Calls Tryz.prog 65 #[.bool b] w fun e w' => e = .returned (.func (.func 119) #[] #[.pointer (some ⟨w.heap.size, 0, none⟩)]) ∧ w' = w.alloc (.cells #[.bool b] 4) := by
  go_enter Tryz.func65, Tryz.ntmps65
  go_wp2
  go_ret
  exact ⟨rfl, rfl⟩

set_option maxHeartbeats 800000 in
theorem sign1_any (w : World) (p c : Nat) (s : Bool) (A : Option Addr) (xs : List Nat) (ha : Num w A xs) (hp : w.cell? ⟨p, 0, none⟩ = some (.bool s)) (hn : xs.length ≤ 8589934592) (hc : xs.length ≤ c) :
    Calls Tryz.prog 119 #[.slice A xs.length c, .pointer (some ⟨p, 0, none⟩)] w fun e w' => e = .returned (.int .i64 (Int.sign (zv s (val xs)))) ∧ w = w' := by
  have HB := Lib.hid (bits_any w A c xs ha hn hc)
  clear ha
  generalize val xs = m at *
  by_cases h0 : m = 0
  · have hz : (((blen m : Nat) : Int) == 0) = true := by rw [h0, blen_zero]; rfl
    have hs : Hid (Int.sign (zv s m) = 0) := by rw [h0, zv_zero]; rfl
    clear h0
    go_enter Tryz.func119, Tryz.ntmps119
    go_wp2_with fail
    refine HB.out.mono ?_
    rintro e w' ⟨rfl, rfl⟩
    go_wp2_with fail
    go_ret
    rw [hs.out]
    exact ⟨rfl, rfl⟩
  · have hz : (((blen m : Nat) : Int) == 0) = false := by rw [beq_eq_false_iff_ne]; have := blen_pos h0; omega
    cases s with
    | true =>
      have hs : Hid (Int.sign (zv true m) = -1) := by
        have : zv true m < 0 := by simp only [zv, if_true]; omega
        exact Int.sign_eq_neg_one_of_neg this
      clear h0
      go_enter Tryz.func119, Tryz.ntmps119
      go_wp2_with fail
      refine HB.out.mono ?_
      rintro e w' ⟨rfl, rfl⟩
      go_wp2_with fail
      go_ret
      rw [hs.out]
      exact ⟨rfl, rfl⟩
    | false =>
      have hs : Hid (Int.sign (zv false m) = 1) := by
        have : 0 < zv false m := by simp only [zv]; rw [if_neg (by simp)]; omega
        exact Int.sign_eq_one_of_pos this
      clear h0
      go_enter Tryz.func119, Tryz.ntmps119
      go_wp2_with fail
      refine HB.out.mono ?_
      rintro e w' ⟨rfl, rfl⟩
      go_wp2_with fail
      go_ret
      rw [hs.out]
      exact ⟨rfl, rfl⟩

set_option maxHeartbeats 1000000 in
theorem number_any (w : World) (p c m : Nat) (s : Bool) (A : Option Addr) (ha : Num w A (dig m)) (hp : w.cell? ⟨p, 0, none⟩ = some (.bool s)) (hn : (dig m).length ≤ 8589934592) (hc : (dig m).length ≤ c) :
    Calls Tryz.prog 64 #[.func (.func 119) #[] #[.pointer (some ⟨p, 0, none⟩)], .slice A (dig m).length c] w
      fun e w' => e = .returned (.agg #[.bool (zneg (zv s m)), .slice A (dig m).length c]) ∧ Below w.heap.size w w' := by
  have HS := Lib.hid (fun o : Obj => sign1_any (w.alloc o) p c s A (dig m) (ha.alloc o) ((World.cell?_alloc_some _ _ _ (by rw [hp]; rfl)).trans hp) hn hc)
  clear ha
  go_enter Tryz.func64, Tryz.ntmps64
  go_wp2_with fail
  refine (HS.out _).mono ?_
  rintro e w' ⟨rfl, rfl⟩
  rw [val_dig]
  go_wp2_with fail
  refine bodyPost_ret (v := .agg #[.bool (zneg (zv s m)), .slice A (dig m).length c]) (by simp [results, Tryz.results64, go_sem]; rfl) rfl ⟨rfl, ?_⟩
  repeat (first | exact Below.refl _ _ | refine Below.setCell ?_ (by first | (simp; done) | (simp; omega)) _ | refine Below.alloc ?_ (by first | exact Nat.le_refl _ | (simp; done) | (simp; omega)) _)
end Go.Proofs.YtbbncggaaibheaaGreatDoor
