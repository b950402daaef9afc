/- A number from 0 to n - 1 out of any number; shifts by small amounts. -/
import Derived.Test.YtmkmlcpffplnnaaLaws
namespace Go.Proofs.Ytmkmlcpffplnnaa
open Go.RowKit

theorem tmod_bd (x : Int) (n : Int) (hn : 0 < n) : -n < x.tmod n ∧ x.tmod n < n := ⟨by have := Int.lt_tmod_of_pos x hn; omega, Int.tmod_lt_of_pos x hn⟩

set_option maxHeartbeats 1000000 in
theorem pick_any (x n : Int) (h1 : -9223372036854775808 ≤ x) (h2 : x ≤ 9223372036854775807) (hn : 0 < n) (hn2 : n ≤ 4294967296) (w : World) :
    Calls Try.prog 34 #[.int .i64 x, .int .i64 n] w fun e w' => (∃ p : Nat, (p : Int) < n ∧ e = .returned (.int .i64 (p : Int))) ∧ w = w' := by
  obtain ⟨b1, b2⟩ := tmod_bd x n hn
  have g0 : ¬ n ≤ 0 := by omega
  have gz : (n == 0) = false := by rw [beq_eq_false_iff_ne]; omega
  have gn : ¬ n = 0 := by omega
  by_cases hx : x < 0
  · by_cases ht : x.tmod n < 0
    · obtain ⟨p, hp⟩ := Int.eq_ofNat_of_zero_le (show 0 ≤ x.tmod n + n by omega)
      have HP := Lib.hid hp
      have HLT : Hid ((p : Int) < n) := by show (p : Int) < n; omega
      clear hp
      go_enter Try.func34, Try.ntmps34
      go_wp2
      go_ret
      exact ⟨⟨p, HLT.out, by rw [← HP.out]; rfl⟩, rfl⟩
    · obtain ⟨p, hp⟩ := Int.eq_ofNat_of_zero_le (show 0 ≤ x.tmod n by omega)
      have HP := Lib.hid hp
      have HLT : Hid ((p : Int) < n) := by show (p : Int) < n; omega
      clear hp
      go_enter Try.func34, Try.ntmps34
      go_wp2
      go_ret
      exact ⟨⟨p, HLT.out, by rw [← HP.out]; rfl⟩, rfl⟩
  · have he := Int.emod_nonneg x (show n ≠ 0 by omega)
    have hl := Int.emod_lt_of_pos x hn
    obtain ⟨p, hp⟩ := Int.eq_ofNat_of_zero_le he
    have HP := Lib.hid hp
    have HLT : Hid ((p : Int) < n) := by show (p : Int) < n; omega
    have g1 : ¬ x % n < 0 := by omega
    clear hp b1 b2
    go_enter Try.func34, Try.ntmps34
    go_wp2
    go_ret
    exact ⟨⟨p, HLT.out, by rw [← HP.out]; rfl⟩, rfl⟩

theorem shlv_nat (m p : Nat) (hp : p ≤ 1048576) : shlv m (p : Int) = m * 2 ^ p := by
  unfold shlv
  rcases Nat.eq_zero_or_pos p with h | h
  · subst h; simp
  · rw [if_neg (by omega), if_neg (by omega), Int.toNat_natCast]
theorem shrv_nat (m p : Nat) : shrv m (p : Int) = m / 2 ^ p := by
  unfold shrv
  rcases Nat.eq_zero_or_pos p with h | h
  · subst h; simp
  · rw [if_neg (by omega), Int.toNat_natCast]
section
variable (w : World) (A : Option Addr) (c : Nat) (xs : List Nat) (m : Nat) (ha : Num w A xs) (hx : val xs = m) (hn : xs.length ≤ 1000000) (hc : xs.length ≤ c)
include ha hx hn hc
theorem shl_r (z : Int) (r : Nat) (hr : shlv m z = r) : Calls Try.prog 13 #[.slice A xs.length c, .int .i64 z] w (RetN w r) := by
  subst hr; exact shl_v w A c xs m ha hx hn hc z
theorem shr_r (z : Int) (r : Nat) (hr : shrv m z = r) (hz : z ≤ 9223372036854775807) : Calls Try.prog 14 #[.slice A xs.length c, .int .i64 z] w (RetN w r) := by
  subst hr; exact shr_v w A c xs m ha hx hn hc z hz
theorem bits_r (k : Nat) (hk : blen m = k) : Calls Try.prog 15 #[.slice A xs.length c] w (RetI w (k : Int)) := by
  subst hk; exact bits_v w A c xs m ha hx hn hc
end
theorem shl_one (w : World) (z : Int) (r : Nat) (hr : shlv 1 z = r) : Calls Try.prog 13 #[.slice (some ⟨w.heap.size, 0, none⟩) 1 1, .int .i64 z] (w.alloc (.cells #[.int .u64 1] 25)) (RetN w r) := by
  have h := shl_r _ _ 1 [1] 1 (Num.lit w [1] (digs_lit (by decide +kernel))) (by decide +kernel) (by simp) (by simp) z r hr
  exact h.mono fun _ _ h => h.lit1
theorem dl_pow (p : Nat) : (dig (2 ^ p)).length ≤ p / 64 + 1 := by
  refine dig_length_le ?_
  rw [B64_pow, ← Nat.pow_mul]
  exact Nat.pow_lt_pow_right (by omega) (by omega)
theorem dl_bits (m : Nat) : blen m ≤ 64 * (dig m).length := by
  refine blen_le_of_lt ?_
  have h := val_lt (dig_digs m)
  rwa [val_dig, B64_pow, ← Nat.pow_mul] at h
theorem blen_pow (p : Nat) : blen (2 ^ p) = p + 1 := blen_unique (Nat.pow_lt_pow_right (by omega) (by omega)) fun j hj => Nat.pow_le_pow_right (by omega) (by omega)
end Go.Proofs.Ytmkmlcpffplnnaa
