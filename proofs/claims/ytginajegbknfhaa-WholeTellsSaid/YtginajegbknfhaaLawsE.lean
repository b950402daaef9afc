/- Contracts of the document's answer for limbs, by letters. -/
import Derived.Test.YtginajegbknfhaaEAll
import Derived.Test.YtginajegbknfhaaLawsN
namespace Go.Proofs.Ytginajegbknfhaa
open Go.RowKit
section
variable (w : World) (A B : Option Addr) (c d : Nat) (xs ys : List Nat) (m n : Nat) (ha : Num w A xs) (hb : Num w B ys) (hx : val xs = m) (hy : val ys = n) (hn : xs.length ≤ 8000) (hm : ys.length ≤ 8000) (hc : xs.length ≤ c) (hd : ys.length ≤ d)
include ha hb hx hy hn hm hc hd
theorem eadd_n (r : Nat) (hr : m + n = r) : Calls Try.prog 12 #[.slice A xs.length c, .slice B ys.length d] w (RetN w r) := by subst hr; subst hx; subst hy; exact (fun _ _ => E.Add_any w A B c d xs ys ha hb (by omega) (by omega)) hc hd
theorem esub_n (r : Nat) (hr : m - n = r) : Calls Try.prog 14 #[.slice A xs.length c, .slice B ys.length d] w (RetN w r) := by subst hr; subst hx; subst hy; exact (fun _ _ => E.Sub_any w A B c d xs ys ha hb (by omega) (by omega)) hc hd
theorem emul_n (r : Nat) (hr : m * n = r) : Calls Try.prog 16 #[.slice A xs.length c, .slice B ys.length d] w (RetN w r) := by subst hr; subst hx; subst hy; exact (fun _ _ => E.Mul_any w A B c d xs ys ha hb (by omega) (by omega)) hc hd
theorem egcd_n (r : Nat) (hr : Nat.gcd m n = r) : Calls Try.prog 29 #[.slice A xs.length c, .slice B ys.length d] w (RetN w r) := by subst hr; subst hx; subst hy; exact (fun _ _ => E.Gcd_any w A B c d xs ys ha hb (by omega) (by omega)) hc hd
theorem edm_n (q r : Nat) (hq : dmq m n = q) (hr : dmr m n = r) : Calls Try.prog 9 #[.slice A xs.length c, .slice B ys.length d] w (RetDM w q r) := by subst hq; subst hr; subst hx; subst hy; exact (fun _ _ => E.DivMod_any w A B c d xs ys ha hb (by omega) (by omega)) hc hd
theorem ecmp_n (k : Int) (hk : cmpv m n = k) : Calls Try.prog 18 #[.slice A xs.length c, .slice B ys.length d] w (RetI w k) := by subst hk; subst hx; subst hy; exact (fun _ _ => E.Cmp_any w A B c d xs ys ha hb (by omega) (by omega)) hc hd
theorem cmp_n (k : Int) (hk : cmpv m n = k) : Calls Try.prog 17 #[.slice A xs.length c, .slice B ys.length d] w (RetI w k) := by subst hk; exact cmp_v w A B c d xs ys m n ha hb hx hy (by omega) (by omega) hc hd
end
section
variable (w : World) (A : Option Addr) (c : Nat) (xs : List Nat) (m : Nat) (ha : Num w A xs) (hx : val xs = m) (hn : xs.length ≤ 8000) (hc : xs.length ≤ c)
include ha hx hn hc
theorem bits_n (k : Nat) (hk : blen m = k) : Calls Try.prog 19 #[.slice A xs.length c] w (RetI w (k : Int)) := by subst hk; exact bits_v w A c xs m ha hx (by omega) hc
theorem ebits_n (k : Nat) (hk : blen m = k) : Calls Try.prog 20 #[.slice A xs.length c] w (RetI w (k : Int)) := by subst hk; subst hx; exact (fun _ => E.Bits_any w A c xs ha (by omega)) hc
theorem shl_n (z : Int) (r : Nat) (hr : shlv m z = r) : Calls Try.prog 21 #[.slice A xs.length c, .int .i64 z] w (RetN w r) := by subst hr; exact shl_v w A c xs m ha hx (by omega) hc z
theorem eshl_n (z : Int) (r : Nat) (hr : shlv m z = r) : Calls Try.prog 22 #[.slice A xs.length c, .int .i64 z] w (RetN w r) := by subst hr; subst hx; exact (fun _ => E.Shl_any w A c xs z ha (by omega)) hc
theorem shr_n (z : Int) (hz : z ≤ 9223372036854775807) (r : Nat) (hr : shrv m z = r) : Calls Try.prog 23 #[.slice A xs.length c, .int .i64 z] w (RetN w r) := by subst hr; exact shr_v w A c xs m ha hx (by omega) hc z hz
theorem eshr_n (z : Int) (_ : z ≤ 9223372036854775807) (r : Nat) (hr : shrv m z = r) : Calls Try.prog 24 #[.slice A xs.length c, .int .i64 z] w (RetN w r) := by
  have h : r = val xs / 2 ^ z.toNat := by
    rw [← hr, ← hx]
    unfold shrv
    split
    · rw [show z.toNat = 0 by omega, Nat.pow_zero, Nat.div_one]
    · rfl
  rw [h]
  exact (fun _ => E.Shr_any w A c xs z ha (by omega)) hc
theorem esmall_n (r : Nat) (hr : m = r) : Calls Try.prog 27 #[.slice A xs.length c] w (E.RetN w r) := by subst hr; subst hx; exact (fun _ => E.small_any w A c xs ha (by omega)) hc
end
theorem elarge_n (w : World) (A : Option Addr) (c m : Nat) (ha : E.Num w A (E.dig m)) (hc : (E.dig m).length ≤ c) (hl : (dig m).length ≤ 8000) : Calls Try.prog 26 #[.slice A (E.dig m).length c] w (RetN w m) := by
  have h := E.large_any w A c (E.dig m) ha (by
    have h1 := E.dl_small (dig_digs m)
    rw [val_dig] at h1
    omega) hc
  rw [E.val_dig] at h
  exact h
theorem pow_lt_B64 {z k : Nat} (h : z < 64 * k) : 2 ^ z < B64 ^ k := by
  rw [show B64 = 2 ^ 64 by rw [B64_eq], ← Nat.pow_mul]
  exact Nat.pow_lt_pow_right (by omega) h
theorem dl_blen_shl (m : Nat) (z : Int) (hz : z ≤ 600 ∨ 1048576 < z) : (dig (shlv m z)).length ≤ (dig m).length + 10 := by
  unfold shlv
  split
  · omega
  · split
    · rw [dig_zero]; exact Nat.zero_le _
    · refine dig_length_le ?_
      have h1 := val_lt (dig_digs m)
      rw [val_dig] at h1
      rw [Nat.pow_add]
      have h2 : 2 ^ z.toNat < B64 ^ 10 := pow_lt_B64 (by omega)
      exact Nat.mul_lt_mul'' h1 h2
theorem dl_shr (m : Nat) (z : Int) : (dig (shrv m z)).length ≤ (dig m).length := dl_le (by unfold shrv; split; exact Nat.le_refl _; exact Nat.div_le_self _ _)
/-- Two lists that are the same, as they stand. -/
theorem same_l (w : World) (A B : Option Addr) (c d : Nat) (xs : List Nat) (ha : Num w A xs) (hb : Num w B xs) (hn : xs.length ≤ 1000000) :
    Calls Try.prog 10 #[.slice A xs.length c, .slice B xs.length d] w (RetB w true) := same_yes w A B c d xs ha hb (by omega)
end Go.Proofs.Ytginajegbknfhaa
