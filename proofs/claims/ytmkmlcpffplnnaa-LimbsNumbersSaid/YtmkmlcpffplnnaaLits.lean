/- Contracts where lists are written out. -/
import Derived.Test.YtmkmlcpffplnnaaPick
import Derived.Test.YtmkmlcpffplnnaaRingsW
namespace Go.Proofs.Ytmkmlcpffplnnaa
open Go.RowKit

theorem RetI.lit1 {w w' : World} {o : Obj} {n : Int} {e : Ending} (h : RetI (w.alloc o) n e w') : RetI w n e w' := ⟨h.1, below_alloc1 h.2⟩
theorem RetI.lit2 {w w' : World} {o p : Obj} {n : Int} {e : Ending} (h : RetI ((w.alloc o).alloc p) n e w') : RetI w n e w' := ⟨h.1, below_alloc2 h.2⟩
theorem RetDM.lit1 {w w' : World} {o : Obj} {q r : Nat} {e : Ending} (h : RetDM (w.alloc o) q r e w') : RetDM w q r e w' := by
  obtain ⟨A, c, B, d, h1, h2, h3, h4, h5, h6⟩ := h
  exact ⟨A, c, B, d, h1, h2, h3, h4, h5, below_alloc1 h6⟩

section
variable (w : World) (xs ys : List Nat) (n m : Nat) (X Y : Array Value) (hX : (xs.map dcell).toArray = X) (hY : (ys.map dcell).toArray = Y) (hn : xs.length = n) (hm : ys.length = m) (hx : Digs xs) (hy : Digs ys)
  (hn2 : n ≤ 1000000) (hm2 : m ≤ 1000000)
include hX hY hn hm hx hy hn2 hm2
theorem sub_lit : Calls Try.prog 12 #[.slice (some ⟨w.heap.size, 0, none⟩) n n, .slice (some ⟨w.heap.size + 1, 0, none⟩) m m] ((w.alloc (.cells X 25)).alloc (.cells Y 25)) (RetN w (val xs - val ys)) := by
  subst hX; subst hY; subst hn; subst hm
  obtain ⟨h1, h2⟩ := Num.lit2 w xs ys hx hy
  exact (sub_any _ _ _ _ _ xs ys h1 h2 (by omega) (by omega) (Nat.le_refl _) (Nat.le_refl _)).mono fun _ _ h => h.lit2
theorem cmp_lit (z : Int) (hz : cmpv (val xs) (val ys) = z) : Calls Try.prog 11 #[.slice (some ⟨w.heap.size, 0, none⟩) n n, .slice (some ⟨w.heap.size + 1, 0, none⟩) m m] ((w.alloc (.cells X 25)).alloc (.cells Y 25)) (RetI w z) := by
  subst hX; subst hY; subst hn; subst hm; subst hz
  obtain ⟨h1, h2⟩ := Num.lit2 w xs ys hx hy
  exact (cmp_any _ _ _ _ _ xs ys h1 h2 (by omega) (by omega) (Nat.le_refl _) (Nat.le_refl _)).mono fun _ _ h => h.below.lit2
end
section
variable (w : World) (xs : List Nat) (n : Nat) (X : Array Value) (hX : (xs.map dcell).toArray = X) (hn : xs.length = n) (hx : Digs xs) (hn2 : n ≤ 1000000)
include hX hn hx hn2
theorem trim_lit : Calls Try.prog 10 #[.slice (some ⟨w.heap.size, 0, none⟩) n n] (w.alloc (.cells X 25)) (RetN w (val xs)) := by
  subst hX; subst hn
  exact (trim_any _ _ _ xs (Num.lit w xs hx) (by omega) (Nat.le_refl _)).mono fun _ _ h => h.lit1
theorem shl_lit (z : Int) : Calls Try.prog 13 #[.slice (some ⟨w.heap.size, 0, none⟩) n n, .int .i64 z] (w.alloc (.cells X 25)) (RetN w (shlv (val xs) z)) := by
  subst hX; subst hn
  exact (shl_any _ _ _ xs z (Num.lit w xs hx) (by omega) (Nat.le_refl _)).mono fun _ _ h => h.lit1
theorem shr_lit (z : Int) (hz : z ≤ 9223372036854775807) : Calls Try.prog 14 #[.slice (some ⟨w.heap.size, 0, none⟩) n n, .int .i64 z] (w.alloc (.cells X 25)) (RetN w (shrv (val xs) z)) := by
  subst hX; subst hn
  exact (shr_any _ _ _ xs z (Num.lit w xs hx) (by omega) (Nat.le_refl _) hz).mono fun _ _ h => h.lit1
theorem bits_lit (k : Int) (hk : ((blen (val xs) : Nat) : Int) = k) : Calls Try.prog 15 #[.slice (some ⟨w.heap.size, 0, none⟩) n n] (w.alloc (.cells X 25)) (RetI w k) := by
  subst hX; subst hn; subst hk
  refine (bits_any _ _ _ xs (Num.lit w xs hx) (by omega) (Nat.le_refl _)).mono ?_
  rintro e w' ⟨he, rfl⟩
  exact ⟨he, (Below.refl _ _).alloc (Nat.le_refl _) _⟩
theorem cmp_nl (z : Int) (hz : cmpv 0 (val xs) = z) : Calls Try.prog 11 #[.slice none 0 0, .slice (some ⟨w.heap.size, 0, none⟩) n n] (w.alloc (.cells X 25)) (RetI w z) := by
  subst hX; subst hn; subst hz
  exact (cmp_any _ none _ 0 _ [] xs (Num.nil _ _) (Num.lit w xs hx) (by simp) (by omega) (by simp) (Nat.le_refl _)).mono fun _ _ h => h.below.lit1
theorem dm_ln : Calls Try.prog 16 #[.slice (some ⟨w.heap.size, 0, none⟩) n n, .slice none 0 0] (w.alloc (.cells X 25)) (RetDM w (dmq (val xs) 0) (dmr (val xs) 0)) := by
  subst hX; subst hn
  exact (divmod_any _ _ none _ 0 xs [] (Num.lit w xs hx) (Num.nil _ _) (by omega) (by simp) (Nat.le_refl _) (by simp)).mono fun _ _ h => h.lit1
theorem gcd_nl : Calls Try.prog 19 #[.slice none 0 0, .slice (some ⟨w.heap.size, 0, none⟩) n n] (w.alloc (.cells X 25)) (RetN w (Nat.gcd 0 (val xs))) := by
  subst hX; subst hn
  exact (gcd_small _ none _ 0 _ [] xs (Num.nil _ _) (Num.lit w xs hx) (by simp) (by omega) (by simp) (Nat.le_refl _) (by rw [val_nil, Nat.zero_min, dig_zero]; simp)).mono fun _ _ h => h.lit1
end
theorem gcd_nn (w : World) : Calls Try.prog 19 #[.slice none 0 0, .slice none 0 0] w (RetN w (Nat.gcd 0 0)) :=
  gcd_small _ none none 0 0 [] [] (Num.nil _ _) (Num.nil _ _) (by simp) (by simp) (by simp) (by simp) (by rw [val_nil, Nat.zero_min, dig_zero]; simp)
theorem bits_nil (w : World) : Calls Try.prog 15 #[.slice none 0 0] w (RetI w 0) := by
  refine (bits_any w none 0 [] (Num.nil _ _) (by simp) (by simp)).mono ?_
  rintro e w' ⟨he, rfl⟩
  exact ⟨he, Below.refl _ _⟩
section
variable (w : World) (A : Option Addr) (c : Nat) (m : Nat) (ys : List Nat) (k : Nat) (Y : Array Value) (hY : (ys.map dcell).toArray = Y) (hk : ys.length = k) (hy : Digs ys) (hk2 : k ≤ 1000000) (ha : Num w A (dig m)) (hl : (dig m).length ≤ 1000000) (hc : (dig m).length ≤ c)
include hY hk hy hk2 ha hl hc
theorem mul_vl : Calls Try.prog 18 #[.slice A (dig m).length c, .slice (some ⟨w.heap.size, 0, none⟩) k k] (w.alloc (.cells Y 25)) (RetN w (m * val ys)) := by
  subst hY; subst hk
  have h := mul_any _ A _ c _ (dig m) ys (ha.alloc _) (Num.lit w ys hy) (by omega) (by omega) hc (Nat.le_refl _)
  rw [val_dig] at h
  exact h.mono fun _ _ h => h.lit1
theorem cmp_vl (z : Int) (hz : cmpv m (val ys) = z) : Calls Try.prog 11 #[.slice A (dig m).length c, .slice (some ⟨w.heap.size, 0, none⟩) k k] (w.alloc (.cells Y 25)) (RetI w z) := by
  subst hY; subst hk; subst hz
  have h := cmp_any _ A _ c _ (dig m) ys (ha.alloc _) (Num.lit w ys hy) (by omega) (by omega) hc (Nat.le_refl _)
  rw [val_dig] at h
  exact h.mono fun _ _ h => h.below.lit1
end
theorem is_nil (w : World) (A : Option Addr) (c m : Nat) (h0 : m = 0) : Calls Try.prog 9 #[.slice A (dig m).length c, .slice none 0 0] w (RetB w true) := by
  subst h0
  rw [dig_zero]
  exact is_yes w A none c 0 [] (Num.nil _ _) (Num.nil _ _) (by simp)

theorem dl_exact {n k : Nat} (h1 : B64 ^ k ≤ n) (h2 : n < B64 ^ (k + 1)) : (dig n).length = k + 1 := by
  refine Nat.le_antisymm (dig_length_le h2) ?_
  have h := val_lt (dig_digs n)
  rw [val_dig] at h
  have h3 := Nat.lt_of_le_of_lt h1 h
  exact (Nat.pow_lt_pow_iff_right (by rw [B64_eq]; omega)).1 h3
theorem len_shl1 (m k : Nat) (z : Int) (hm : m = 1) (h : 64 * k ≤ 1048576) (hz : z = ((64 * k : Nat) : Int)) : (dig (shlv m z)).length = k + 1 := by
  subst hz; subst hm
  rw [shlv_nat 1 _ h, Nat.one_mul, Nat.pow_mul, ← B64_pow]
  exact dl_exact (Nat.le_refl _) (Nat.pow_lt_pow_right (by rw [B64_eq]; omega) (by omega))
theorem shlv_neg (m : Nat) (z : Int) (h : z < 1) : shlv m z = m := by unfold shlv; rw [if_pos h]
theorem shlv_far (m : Nat) (z : Int) (h : 1048576 < z) : shlv m z = 0 := by unfold shlv; rw [if_neg (by omega), if_pos h]
end Go.Proofs.Ytmkmlcpffplnnaa
