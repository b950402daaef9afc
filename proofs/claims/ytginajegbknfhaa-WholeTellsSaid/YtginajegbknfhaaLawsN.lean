/- Contracts of limbs, the answer by a letter. -/
import Derived.Test.YtginajegbknfhaaLaws
import Derived.Test.YtginajegbknfhaaGcd
namespace Go.Proofs.Ytginajegbknfhaa
open Go.RowKit
section
variable (w : World) (A B : Option Addr) (c d : Nat) (xs ys : List Nat) (m n : Nat) (ha : Num w A xs) (hb : Num w B ys) (hx : val xs = m) (hy : val ys = n) (hn : xs.length ≤ 1000000) (hm : ys.length ≤ 1000000) (hc : xs.length ≤ c) (hd : ys.length ≤ d)
include ha hb hx hy hn hm hc hd
theorem add_n (r : Nat) (hr : m + n = r) : Calls Try.prog 11 #[.slice A xs.length c, .slice B ys.length d] w (RetN w r) := by subst hr; exact add_v w A B c d xs ys m n ha hb hx hy hn hm hc hd
theorem sub_n (r : Nat) (hr : m - n = r) : Calls Try.prog 13 #[.slice A xs.length c, .slice B ys.length d] w (RetN w r) := by subst hr; exact sub_v w A B c d xs ys m n ha hb hx hy hn hm hc hd
theorem mul_n (r : Nat) (hr : m * n = r) : Calls Try.prog 15 #[.slice A xs.length c, .slice B ys.length d] w (RetN w r) := by subst hr; exact mul_v w A B c d xs ys m n ha hb hx hy hn hm hc hd
theorem gcd_n (r : Nat) (hr : Nat.gcd m n = r) : Calls Try.prog 28 #[.slice A xs.length c, .slice B ys.length d] w (RetN w r) := by subst hr; subst hx; subst hy; exact gcd_any w A B c d xs ys ha hb (by omega) (by omega) hc hd
theorem dm_n (q r : Nat) (hq : dmq m n = q) (hr : dmr m n = r) : Calls Try.prog 8 #[.slice A xs.length c, .slice B ys.length d] w (RetDM w q r) := by subst hq; subst hr; exact dm_v w A B c d xs ys m n ha hb hx hy hn hm hc hd
end
theorem trim_n (w : World) (A : Option Addr) (c : Nat) (xs : List Nat) (m : Nat) (ha : Num w A xs) (hx : val xs = m) (hn : xs.length ≤ 1000000) (hc : xs.length ≤ c) (r : Nat) (hr : m = r) : Calls Try.prog 25 #[.slice A xs.length c] w (RetN w r) := by subst hr; exact trim_v w A c xs m ha hx hn hc
theorem same_one (w : World) (A : Option Addr) (c u : Nat) (hu : u = 1) (ha : Num w A (dig u)) :
    Calls Try.prog 10 #[.slice A (dig u).length c, .slice (some ⟨w.heap.size, 0, none⟩) 1 1] (w.alloc (.cells #[.int .u64 1] 50)) (RetB w true) := by
  subst hu
  have e : dig 1 = [1] := dig_one (by omega) (by rw [B64_eq]; omega)
  rw [e] at ha ⊢
  have h1 : Num (w.alloc (.cells #[.int .u64 1] 50)) (some ⟨w.heap.size, 0, none⟩) [1] := (Blk.lit w [1]).num (digs_lit (by decide +kernel))
  exact (same_yes _ A _ c 1 [1] (ha.alloc _) h1 (by simp)).mono fun _ _ h => ⟨h.1, below_alloc1 h.2⟩
theorem dl_gcd (a b : Nat) : (dig (Nat.gcd a b)).length ≤ max (dig a).length (dig b).length := by
  rcases Nat.eq_zero_or_pos a with h | h
  · rw [h, Nat.gcd_zero_left]; exact Nat.le_max_right _ _
  · exact Nat.le_trans (dl_le (Nat.gcd_le_left b h)) (Nat.le_max_left _ _)
theorem dl_dmq (a b : Nat) : (dig (dmq a b)).length ≤ (dig a).length := dl_le (Nat.div_le_self a b)
theorem dl_dmr (a b : Nat) : (dig (dmr a b)).length ≤ (dig a).length := dl_le (by unfold dmr; split; exact Nat.zero_le _; exact Nat.mod_le _ _)
end Go.Proofs.Ytginajegbknfhaa
