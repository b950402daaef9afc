/- LimbsRings: its walk, out of the contracts. -/
import Derived.Test.YtmkmlcpffplnnaaLaws
namespace Go.Proofs.Ytmkmlcpffplnnaa
open Go.RowKit
theorem sub_r (w : World) (A B : Option Addr) (c d : Nat) (xs ys : List Nat) (m n : Nat) (ha : Num w A xs) (hb : Num w B ys) (hx : val xs = m) (hy : val ys = n) (hn : xs.length ≤ 1000000) (hm : ys.length ≤ 1000000) (hc : xs.length ≤ c) (hd : ys.length ≤ d) (r : Nat) (hr : m - n = r) :
    Calls Try.prog 12 #[.slice A xs.length c, .slice B ys.length d] w (RetN w r) := by
  subst hr; exact sub_v w A B c d xs ys m n ha hb hx hy hn hm hc hd
theorem dmq_le (a b : Nat) : dmq a b ≤ a := Nat.div_le_self a b
theorem dmr_le (a b : Nat) : dmr a b ≤ a := by unfold dmr; split; exact Nat.zero_le _; exact Nat.mod_le _ _
theorem dmr_lt {a b : Nat} (h : b ≠ 0) : dmr a b < b := by unfold dmr; rw [if_neg h]; exact Nat.mod_lt _ (Nat.pos_of_ne_zero h)
theorem dm_whole {a b : Nat} (h : b ≠ 0) : dmq a b * b + dmr a b = a := by unfold dmq dmr; rw [if_neg h]; exact Nat.div_add_mod' a b
theorem dm_back_q {a b c : Nat} (h : b ≠ 0) : dmq (b * c + dmr a b) b = c := by
  unfold dmq
  rw [Nat.mul_add_div (Nat.pos_of_ne_zero h), Nat.div_eq_of_lt (dmr_lt h), Nat.add_zero]
theorem dm_back_r {a b c : Nat} (h : b ≠ 0) : dmr (b * c + dmr a b) b = dmr a b := by
  have h1 : dmr (b * c + dmr a b) b = (b * c + dmr a b) % b := by
    conv => lhs; unfold dmr
    rw [if_neg h]
    rfl
  rw [h1, Nat.mul_add_mod, Nat.mod_eq_of_lt (dmr_lt h)]

end Go.Proofs.Ytmkmlcpffplnnaa
