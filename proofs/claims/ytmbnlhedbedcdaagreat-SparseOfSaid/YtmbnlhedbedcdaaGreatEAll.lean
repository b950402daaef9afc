/- EAll: several texts in one. -/
import Derived.Test.YtmbnlhedbedcdaaGreatRows
import Derived.Test.YtmbnlhedbedcdaaGreatMem
import Derived.WalkKit
import Derived.WalkSpells
import Derived.WalkLawsBesides
import Derived.Lib.Hide
import Derived.Deep.OwnRows
import Derived.Laws.CopyOwn
import Derived.Laws.Externs
import Derived.Test.YtmbnlhedbedcdaaGreatLaws
import Derived.OwnWalk
import Derived.Deep.DeepAppendWide
/- Plain mathematics of lists of digits of 64 bits; no program is read here. -/
namespace Go.Proofs.YtmbnlhedbedcdaaGreat.E

/-- 2^64, kept behind a name. -/
def B64 : Nat := 256
theorem B64_eq : B64 = 256 := rfl
theorem B64_pos : 0 < B64 := by rw [B64_eq]; omega

/-- What a list of digits counts, the least digit first. -/
def val : List Nat → Nat
  | [] => 0
  | x :: r => x + B64 * val r

/-- Each is a digit. -/
def Digs (xs : List Nat) : Prop := ∀ x ∈ xs, x < B64

/-- The one form of a number. -/
def dig (n : Nat) : List Nat := if n = 0 then [] else n % B64 :: dig (n / B64)
termination_by n
decreasing_by exact Nat.div_lt_self (by omega) (by rw [B64_eq]; omega)

theorem dig_zero : dig 0 = [] := by rw [dig]; simp
theorem dig_pos {n : Nat} (h : n ≠ 0) : dig n = n % B64 :: dig (n / B64) := by rw [dig]; simp [h]

theorem val_nil : val [] = 0 := rfl
theorem val_cons (x : Nat) (r : List Nat) : val (x :: r) = x + B64 * val r := rfl

theorem Digs.nil : Digs [] := fun _ h => by cases h
theorem Digs.cons {x : Nat} {r : List Nat} (hx : x < B64) (hr : Digs r) : Digs (x :: r) := by
  intro y hy
  rcases List.mem_cons.1 hy with rfl | h
  · exact hx
  · exact hr y h
theorem Digs.head {x : Nat} {r : List Nat} (h : Digs (x :: r)) : x < B64 := h x (by simp)
theorem Digs.tail {x : Nat} {r : List Nat} (h : Digs (x :: r)) : Digs r := fun y hy => h y (by simp [hy])
theorem Digs.append {xs ys : List Nat} (h : Digs xs) (k : Digs ys) : Digs (xs ++ ys) := by
  intro y hy
  rcases List.mem_append.1 hy with h1 | h1
  · exact h y h1
  · exact k y h1
theorem Digs.left {xs ys : List Nat} (h : Digs (xs ++ ys)) : Digs xs := fun y hy => h y (by simp [hy])
theorem Digs.right {xs ys : List Nat} (h : Digs (xs ++ ys)) : Digs ys := fun y hy => h y (by simp [hy])
theorem Digs.take {xs : List Nat} (h : Digs xs) (n : Nat) : Digs (xs.take n) := fun y hy => h y (List.mem_of_mem_take hy)
theorem Digs.drop {xs : List Nat} (h : Digs xs) (n : Nat) : Digs (xs.drop n) := fun y hy => h y (List.mem_of_mem_drop hy)
theorem Digs.get {xs : List Nat} (h : Digs xs) {i : Nat} (hi : i < xs.length) : xs[i] < B64 := h _ (List.getElem_mem hi)
theorem Digs.getD {xs : List Nat} (h : Digs xs) (i : Nat) : xs.getD i 0 < B64 := by
  by_cases hi : i < xs.length
  · rw [List.getD_eq_getElem?_getD, List.getElem?_eq_getElem hi]; exact h.get hi
  · rw [List.getD_eq_getElem?_getD, List.getElem?_eq_none (by omega)]; exact B64_pos
theorem Digs.rep (n : Nat) : Digs (List.replicate n 0) := by
  intro y hy
  rw [List.mem_replicate] at hy
  rw [hy.2]; exact B64_pos

theorem dig_digs (n : Nat) : Digs (dig n) := by
  induction n using Nat.strongRecOn with
  | _ n ih =>
    by_cases h : n = 0
    · rw [h, dig_zero]; exact Digs.nil
    · rw [dig_pos h]
      exact Digs.cons (Nat.mod_lt _ B64_pos) (ih _ (Nat.div_lt_self (by omega) (by rw [B64_eq]; omega)))

theorem val_dig (n : Nat) : val (dig n) = n := by
  induction n using Nat.strongRecOn with
  | _ n ih =>
    by_cases h : n = 0
    · rw [h, dig_zero]; rfl
    · rw [dig_pos h, val_cons, ih _ (Nat.div_lt_self (by omega) (by rw [B64_eq]; omega))]
      exact Nat.mod_add_div n B64

theorem dig_inj {m n : Nat} (h : dig m = dig n) : m = n := by rw [← val_dig m, h, val_dig]

theorem val_append (xs ys : List Nat) : val (xs ++ ys) = val xs + B64 ^ xs.length * val ys := by
  induction xs with
  | nil => simp [val_nil]
  | cons x r ih =>
    rw [List.cons_append, val_cons, val_cons, ih, List.length_cons, Nat.pow_succ, Nat.mul_add]
    have : B64 * (B64 ^ r.length * val ys) = B64 ^ r.length * B64 * val ys := by
      rw [Nat.mul_comm (B64 ^ r.length) B64, Nat.mul_assoc]
    omega

theorem val_rep (n : Nat) : val (List.replicate n 0) = 0 := by
  induction n with
  | zero => rfl
  | succ n ih => rw [List.replicate_succ, val_cons, ih]; simp

theorem val_lt {xs : List Nat} (h : Digs xs) : val xs < B64 ^ xs.length := by
  induction xs with
  | nil => simp [val_nil]
  | cons x r ih =>
    have h1 := ih h.tail
    have h2 := h.head
    rw [val_cons, List.length_cons, Nat.pow_succ]
    have h3 : B64 * val r + B64 ≤ B64 ^ r.length * B64 := by
      rw [Nat.mul_comm (B64 ^ r.length) B64, ← Nat.mul_succ]
      exact Nat.mul_le_mul_left _ h1
    omega

/-- The one form is the list without the noughts on top. -/
theorem dig_val_snoc {xs : List Nat} (h : Digs xs) (x : Nat) (hx : x < B64) (hx0 : x ≠ 0) : dig (val (xs ++ [x])) = xs ++ [x] := by
  induction xs with
  | nil =>
    rw [List.nil_append, val_cons, val_nil, Nat.mul_zero, Nat.add_zero, dig_pos hx0, Nat.mod_eq_of_lt hx, Nat.div_eq_of_lt hx, dig_zero]
  | cons y r ih =>
    have hy := h.head
    rw [List.cons_append, val_cons]
    have hv : val (r ++ [x]) ≠ 0 := by
      intro e
      have := ih h.tail
      rw [e, dig_zero] at this
      cases r <;> simp at this
    have h0 : y + B64 * val (r ++ [x]) ≠ 0 := by
      have := Nat.mul_pos B64_pos (Nat.pos_of_ne_zero hv)
      omega
    rw [dig_pos h0, Nat.add_mul_mod_self_left, Nat.mod_eq_of_lt hy, Nat.add_mul_div_left _ _ B64_pos, Nat.div_eq_of_lt hy, Nat.zero_add, ih h.tail]

theorem val_snoc_zero (xs : List Nat) : val (xs ++ [0]) = val xs := by
  rw [val_append, val_cons, val_nil]; simp

theorem dig_of_top {xs : List Nat} (h : Digs xs) (hl : xs.getLast? ≠ some 0) : dig (val xs) = xs := by
  rcases List.eq_nil_or_concat xs with rfl | ⟨r, x, rfl⟩
  · rw [val_nil, dig_zero]
  · rw [List.concat_eq_append] at h hl ⊢
    refine dig_val_snoc h.left x (h.right x (by simp)) ?_
    rintro rfl
    exact hl (by simp)

theorem dig_top (n : Nat) : (dig n).getLast? ≠ some 0 := by
  induction n using Nat.strongRecOn with
  | _ n ih =>
    by_cases h : n = 0
    · rw [h, dig_zero]; simp
    · rw [dig_pos h]
      have h1 := ih (n / B64) (Nat.div_lt_self (by omega) (by rw [B64_eq]; omega))
      by_cases h2 : n / B64 = 0
      · rw [h2, dig_zero]
        simp only [List.getLast?_singleton]
        intro e
        injection e with e
        have := Nat.mod_add_div n B64
        rw [e, h2] at this
        omega
      · rw [dig_pos h2] at h1 ⊢
        rw [List.getLast?_cons_cons]
        exact h1

theorem dig_length_le {n k : Nat} (h : n < B64 ^ k) : (dig n).length ≤ k := by
  induction k generalizing n with
  | zero =>
    have : n = 0 := by simpa using h
    rw [this, dig_zero]; simp
  | succ k ih =>
    by_cases h0 : n = 0
    · rw [h0, dig_zero]; simp
    · rw [dig_pos h0, List.length_cons]
      have : n / B64 < B64 ^ k := by
        rw [Nat.div_lt_iff_lt_mul B64_pos, ← Nat.pow_succ]; exact h
      have := ih this
      omega

theorem dig_length_val {xs : List Nat} (h : Digs xs) : (dig (val xs)).length ≤ xs.length := dig_length_le (val_lt h)

theorem pow_le_of_dig {n k : Nat} (h : k < (dig n).length) : B64 ^ k ≤ n := by
  rcases Nat.lt_or_ge n (B64 ^ k) with h1 | h1
  · have := dig_length_le h1
    omega
  · exact h1

theorem lt_of_dig_length_lt {m n : Nat} (h : (dig m).length < (dig n).length) : m < n := by
  have h1 := pow_le_of_dig h
  have h2 := val_lt (dig_digs m)
  rw [val_dig] at h2
  exact Nat.lt_of_lt_of_le h2 h1

theorem dig_length_mono {m n : Nat} (h : m ≤ n) : (dig m).length ≤ (dig n).length := by
  rcases Nat.lt_or_ge (dig n).length (dig m).length with h1 | h1
  · have := lt_of_dig_length_lt h1
    omega
  · exact h1

theorem dig_nil_iff {n : Nat} : (dig n).length = 0 ↔ n = 0 := by
  constructor
  · intro h
    have : dig n = [] := List.eq_nil_of_length_eq_zero h
    rw [← val_dig n, this]; rfl
  · rintro rfl; rw [dig_zero]; rfl

theorem val_take_add (xs : List Nat) (k : Nat) : val xs = val (xs.take k) + B64 ^ (min k xs.length) * val (xs.drop k) := by
  conv => lhs; rw [← List.take_append_drop k xs, val_append, List.length_take]

theorem val_take_succ (xs : List Nat) (k : Nat) (h : k < xs.length) : val (xs.take (k + 1)) = val (xs.take k) + B64 ^ k * xs[k] := by
  rw [List.take_succ_eq_append_getElem h, val_append, List.length_take, Nat.min_eq_left (by omega), val_cons, val_nil]
  simp

/-- Digit i, 0 where there is none: sums over rows of the same length. -/
theorem val_take_succ_getD (xs : List Nat) (k : Nat) : val (xs.take (k + 1)) = val (xs.take k) + B64 ^ k * xs.getD k 0 := by
  by_cases h : k < xs.length
  · rw [val_take_succ xs k h, List.getD_eq_getElem?_getD, List.getElem?_eq_getElem h]; rfl
  · rw [List.take_of_length_le (by omega), List.take_of_length_le (by omega), List.getD_eq_getElem?_getD, List.getElem?_eq_none (by omega)]
    simp

/-- Digit i of a list, 0 where there is none. -/
def dg (xs : List Nat) (i : Nat) : Nat := xs.getD i 0
theorem dg_lt {xs : List Nat} (h : Digs xs) (i : Nat) : dg xs i < B64 := h.getD i
theorem dg_of_lt {xs : List Nat} {i : Nat} (h : i < xs.length) : dg xs i = xs[i] := by
  unfold dg; rw [List.getD_eq_getElem?_getD, List.getElem?_eq_getElem h]; rfl
theorem dg_of_ge {xs : List Nat} {i : Nat} (h : xs.length ≤ i) : dg xs i = 0 := by
  unfold dg; rw [List.getD_eq_getElem?_getD, List.getElem?_eq_none h]; rfl
theorem val_take_dg (xs : List Nat) (k : Nat) : val (xs.take (k + 1)) = val (xs.take k) + B64 ^ k * dg xs k := val_take_succ_getD xs k
theorem dg_take {xs : List Nat} {k i : Nat} (h : i < k) : dg (xs.take k) i = dg xs i := by
  unfold dg; rw [List.getD_eq_getElem?_getD, List.getD_eq_getElem?_getD, List.getElem?_take_of_lt h]
theorem dg_drop (xs : List Nat) (k i : Nat) : dg (xs.drop k) i = dg xs (k + i) := by
  unfold dg; rw [List.getD_eq_getElem?_getD, List.getD_eq_getElem?_getD, List.getElem?_drop]
theorem ext_dg {xs ys : List Nat} (hl : xs.length = ys.length) (h : ∀ i, i < xs.length → dg xs i = dg ys i) : xs = ys := by
  refine List.ext_getElem hl fun i h1 h2 => ?_
  have := h i h1
  rw [dg_of_lt h1, dg_of_lt h2] at this
  exact this

/-- A list whose upper digits are noughts counts what its lower ones do. -/
theorem val_take_pred {xs : List Nat} {k : Nat} (hk : k ≠ 0) (h : dg xs (k - 1) = 0) : val (xs.take (k - 1)) = val (xs.take k) := by
  have := val_take_dg xs (k - 1)
  rw [show k - 1 + 1 = k by omega, h] at this
  omega

theorem dig_take_of {xs : List Nat} (hd : Digs xs) {k : Nat} (hk : k ≤ xs.length) (hv : val (xs.take k) = val xs) (ht : k = 0 ∨ dg xs (k - 1) ≠ 0) : dig (val xs) = xs.take k := by
  rw [← hv]
  refine dig_of_top (hd.take k) ?_
  rcases Nat.eq_zero_or_pos k with h0 | h0
  · subst h0; simp
  · rcases ht with ht | ht
    · omega
    · rw [List.getLast?_eq_getElem?, List.length_take, Nat.min_eq_left hk]
      intro e
      rw [List.getElem?_take_of_lt (by omega)] at e
      apply ht
      unfold dg
      rw [List.getD_eq_getElem?_getD, e]; rfl

/-- The one form is a beginning of any form. -/
theorem dig_take_self {xs : List Nat} (hd : Digs xs) : dig (val xs) = xs.take (dig (val xs)).length := by
  generalize hn : xs.length = n
  induction n generalizing xs with
  | zero =>
    have : xs = [] := List.eq_nil_of_length_eq_zero hn
    subst this
    simp [val_nil, dig_zero]
  | succ n ih =>
    by_cases h0 : dg xs n = 0
    · have hv : val (xs.take n) = val xs := by
        have := val_take_dg xs n
        rw [h0, List.take_of_length_le (by omega)] at this
        omega
      have h1 := ih (xs := xs.take n) (hd.take n) (by rw [List.length_take]; omega)
      rw [hv] at h1
      have hle := dig_length_le (n := val xs) (k := n) (by
        have := val_lt (hd.take n)
        rw [hv, List.length_take, Nat.min_eq_left (by omega)] at this
        exact this)
      rw [List.take_take, Nat.min_eq_left hle] at h1
      exact h1
    · have h1 := dig_take_of hd (k := xs.length) (Nat.le_refl _) (by rw [List.take_length]) (.inr (by rw [hn]; simpa using h0))
      rw [List.take_length] at h1
      rw [h1, List.take_length]

theorem val_inj_dg {xs ys : List Nat} (hx : Digs xs) (hy : Digs ys) (hl : xs.length = ys.length) (hv : val xs = val ys) : xs = ys := by
  induction xs generalizing ys with
  | nil => exact (List.eq_nil_of_length_eq_zero hl.symm).symm
  | cons x r ih =>
    cases ys with
    | nil => simp at hl
    | cons y s =>
      rw [val_cons, val_cons] at hv
      have h1 := hx.head
      have h2 := hy.head
      have h3 : (x + B64 * val r) % B64 = (y + B64 * val s) % B64 := by rw [hv]
      rw [Nat.add_mul_mod_self_left, Nat.add_mul_mod_self_left, Nat.mod_eq_of_lt h1, Nat.mod_eq_of_lt h2] at h3
      subst h3
      have h4 : B64 * val r = B64 * val s := by omega
      have h5 := Nat.eq_of_mul_eq_mul_left B64_pos h4
      rw [ih hx.tail hy.tail (by simpa using hl) h5]

/-- The lower digit of a sum or a product, and what is carried. -/
def lo (n : Nat) : Nat := n % B64
def hi (n : Nat) : Nat := n / B64
theorem lo_lt (n : Nat) : lo n < B64 := Nat.mod_lt _ B64_pos
theorem lo_hi (n : Nat) : lo n + B64 * hi n = n := Nat.mod_add_div n B64
theorem lo_of_lt {n : Nat} (h : n < B64) : lo n = n := Nat.mod_eq_of_lt h
theorem hi_of_lt {n : Nat} (h : n < B64) : hi n = 0 := Nat.div_eq_of_lt h
theorem hi_le_one {x y c : Nat} (hx : x < B64) (hy : y < B64) (hc : c ≤ 1) : hi (x + y + c) ≤ 1 := by
  unfold hi
  rw [B64_eq] at *
  omega
/-- The lower digit of a difference, and what is borrowed. -/
def slo (x y b : Nat) : Nat := (x + B64 - y - b) % B64
def sbo (x y b : Nat) : Nat := if x < y + b then 1 else 0
theorem slo_lt (x y b : Nat) : slo x y b < B64 := Nat.mod_lt _ B64_pos
theorem sbo_le (x y b : Nat) : sbo x y b ≤ 1 := by unfold sbo; split <;> omega
theorem slo_sbo {x y b : Nat} (hx : x < B64) (hy : y < B64) (hb : b ≤ 1) : slo x y b + y + b = x + B64 * sbo x y b := by
  unfold slo sbo
  rw [B64_eq] at *
  split
  · rw [Nat.mod_eq_of_lt (by omega)]; omega
  · rw [show x + 256 - y - b = (x - y - b) + 256 by omega, Nat.add_mod_right, Nat.mod_eq_of_lt (by omega)]; omega

/-- The greatest product, and a digit more, has two digits. -/
theorem prod_lt {x y c : Nat} (hx : x < B64) (hy : y < B64) (hc : c < B64) : x * y + c < B64 * B64 := by
  have h1 : x * y ≤ (B64 - 1) * (B64 - 1) := Nat.mul_le_mul (by omega) (by omega)
  have h2 : (B64 - 1) * (B64 - 1) + (B64 - 1) < B64 * B64 := by rw [B64_eq]; omega
  omega
theorem hi_prod_lt {x y c : Nat} (hx : x < B64) (hy : y < B64) (hc : c < B64) : hi (x * y + c) < B64 :=
  Nat.div_lt_of_lt_mul (prod_lt hx hy hc)
theorem hi_prod_lt0 {x y : Nat} (hx : x < B64) (hy : y < B64) : hi (x * y) < B64 := by
  have := hi_prod_lt hx hy B64_pos
  rwa [Nat.add_zero] at this

/-- The digit above of a product and a digit more. -/
theorem hi_mul_add {x y c : Nat} : hi (x * y) + hi (lo (x * y) + c) = hi (x * y + c) := by
  have h := lo_hi (x * y)
  unfold hi lo at *
  rw [show x * y + c = (x * y % B64 + c) + B64 * (x * y / B64) by omega, Nat.add_mul_div_left _ _ B64_pos]
  omega
theorem lo_mul_add {x y c : Nat} : lo (lo (x * y) + c) = lo (x * y + c) := by
  unfold lo
  rw [Nat.mod_add_mod]

theorem pow_pos' (k : Nat) : 0 < B64 ^ k := Nat.pow_pos B64_pos

theorem drop_pred {xs : List Nat} {i : Nat} (h : i < xs.length) : xs.drop i = dg xs i :: xs.drop (i + 1) := by
  rw [List.drop_eq_getElem_cons h, dg_of_lt h]

/-- The highest place at which two lists part decides. -/
theorem val_lt_of_part {xs ys : List Nat} (hx : Digs xs) (hl : xs.length = ys.length) {i : Nat} (hi : i < xs.length) (hd : xs.drop (i + 1) = ys.drop (i + 1)) (hlt : dg xs i < dg ys i) : val xs < val ys := by
  have h1 := val_take_add xs i
  have h2 := val_take_add ys i
  rw [Nat.min_eq_left (by omega), drop_pred hi, val_cons] at h1
  rw [Nat.min_eq_left (by omega), drop_pred (by omega), val_cons, ← hd] at h2
  have h3 := val_lt (hx.take i)
  rw [List.length_take, Nat.min_eq_left (by omega)] at h3
  generalize val (xs.drop (i + 1)) = v at *
  have h4 : B64 ^ i * (dg xs i + B64 * v) + B64 ^ i ≤ B64 ^ i * (dg ys i + B64 * v) := by
    rw [← Nat.mul_succ]
    exact Nat.mul_le_mul_left _ (by omega)
  omega

/-- A list that is being filled: what has been told, and noughts. -/
def fill (ys : List Nat) (n : Nat) : List Nat := ys ++ List.replicate (n - ys.length) 0
theorem fill_nil (n : Nat) : fill [] n = List.replicate n 0 := by unfold fill; simp
theorem fill_length {ys : List Nat} {n : Nat} (h : ys.length ≤ n) : (fill ys n).length = n := by unfold fill; simp; omega
theorem fill_full {ys : List Nat} {n : Nat} (h : ys.length = n) : fill ys n = ys := by unfold fill; simp [h]
theorem fill_set {ys : List Nat} {n : Nat} (x : Nat) (h : ys.length < n) : (fill ys n).set ys.length x = fill (ys ++ [x]) n := by
  unfold fill
  rw [show n - ys.length = (n - (ys ++ [x]).length) + 1 by simp; omega, List.replicate_succ, List.set_append_right _ _ (Nat.le_refl _), Nat.sub_self, List.set_cons_zero, List.append_assoc]
  rfl
theorem val_fill (ys : List Nat) (n : Nat) : val (fill ys n) = val ys := by unfold fill; rw [val_append, val_rep]; simp
theorem Digs.fill {ys : List Nat} (h : Digs ys) (n : Nat) : Digs (fill ys n) := h.append (Digs.rep _)
theorem val_snoc (ys : List Nat) (x : Nat) : val (ys ++ [x]) = val ys + B64 ^ ys.length * x := by rw [val_append, val_cons, val_nil]; simp
theorem Digs.snoc {ys : List Nat} (h : Digs ys) {x : Nat} (hx : x < B64) : Digs (ys ++ [x]) := h.append (Digs.cons hx Digs.nil)

/-- One round of a sum. -/
theorem add_round {v p s x y c l h : Nat} (hv : v + p * c = s) (hl : l + B64 * h = x + y + c) : v + p * l + p * B64 * h = s + p * x + p * y := by
  have : p * l + p * (B64 * h) = p * x + p * y + p * c := by rw [← Nat.mul_add, hl, Nat.mul_add, Nat.mul_add]
  rw [Nat.mul_assoc]
  omega

/-- One round of a difference. -/
theorem sub_round {v t s p b x y l h : Nat} (hv : v + t = s + p * b) (hl : l + y + b = x + B64 * h) : v + p * l + (t + p * y) = s + p * x + p * B64 * h := by
  have : p * l + p * y + p * b = p * x + p * (B64 * h) := by rw [← Nat.mul_add, ← Nat.mul_add, hl, Nat.mul_add]
  rw [Nat.mul_assoc]
  omega
theorem val_take_of_le {ys : List Nat} {n v : Nat} (h : val ys ≤ v) (hv : v < B64 ^ n) : val (ys.take n) = val ys := by
  by_cases hn : n < ys.length
  · have h1 := val_take_add ys n
    rw [Nat.min_eq_left (by omega)] at h1
    rcases Nat.eq_zero_or_pos (val (ys.drop n)) with h0 | h0
    · rw [h0] at h1; omega
    · have : B64 ^ n * 1 ≤ B64 ^ n * val (ys.drop n) := Nat.mul_le_mul_left _ h0
      omega
  · rw [List.take_of_length_le (by omega)]
theorem sub_end {z p b x y : Nat} (hz : z < p) (hx : y ≤ x) (hv : z + y = x + p * b) : z = x - y := by
  rcases Nat.eq_zero_or_pos b with h0 | h0
  · subst h0; omega
  · have : p * 1 ≤ p * b := Nat.mul_le_mul_left _ h0
    omega

/-- A list with zs laid into it from off on. -/
def mid (cs : List Nat) (off : Nat) (zs : List Nat) : List Nat := cs.take off ++ (zs ++ cs.drop (off + zs.length))
theorem mid_nil (cs : List Nat) (off : Nat) : mid cs off [] = cs := by unfold mid; simp
theorem mid_length {cs zs : List Nat} {off : Nat} (h : off + zs.length ≤ cs.length) : (mid cs off zs).length = cs.length := by
  unfold mid; simp; omega
theorem mid_set {cs zs : List Nat} {off : Nat} (h : off + zs.length < cs.length) (x : Nat) : (mid cs off zs).set (off + zs.length) x = mid cs off (zs ++ [x]) := by
  unfold mid
  have h1 : (cs.take off).length = off := by rw [List.length_take]; omega
  rw [List.set_append_right _ _ (by omega), h1, show off + zs.length - off = zs.length by omega, List.set_append_right _ _ (Nat.le_refl _), Nat.sub_self,
    List.drop_eq_getElem_cons h, List.set_cons_zero, List.append_assoc, List.length_append]
  rfl
theorem dg_append_left {xs ys : List Nat} {i : Nat} (h : i < xs.length) : dg (xs ++ ys) i = dg xs i := by
  unfold dg; rw [List.getD_eq_getElem?_getD, List.getD_eq_getElem?_getD, List.getElem?_append_left h]
theorem dg_append_right {xs ys : List Nat} {i : Nat} (h : xs.length ≤ i) : dg (xs ++ ys) i = dg ys (i - xs.length) := by
  unfold dg; rw [List.getD_eq_getElem?_getD, List.getD_eq_getElem?_getD, List.getElem?_append_right h]
theorem dg_mid_above {cs zs : List Nat} {off i : Nat} (h : off + zs.length ≤ i) (hc : off ≤ cs.length) : dg (mid cs off zs) i = dg cs i := by
  unfold mid
  have h1 : (cs.take off).length = off := by rw [List.length_take]; omega
  rw [dg_append_right (by omega), h1, dg_append_right (by omega), dg_drop]
  congr 1
  omega
theorem Digs.mid {cs zs : List Nat} (h : Digs cs) (k : Digs zs) (off : Nat) : Digs (mid cs off zs) := (h.take off).append (k.append (h.drop _))

theorem dg_slice {cs : List Nat} {off n i : Nat} (h : i < n) : dg ((cs.drop off).take n) i = dg cs (off + i) := by rw [dg_take h, dg_drop]

/-- One round of a product by a digit: sum and low digit. -/
theorem mul_round {v s t p c y x sk low cy l h : Nat} (hv : v + p * c = s + t * x) (h1 : low + B64 * cy = y * x + c) (h2 : l + B64 * h = sk + low) :
    v + p * l + p * B64 * (cy + h) = s + p * sk + (t + p * y) * x := by
  have e1 : p * l + p * (B64 * h) = p * sk + p * low := by rw [← Nat.mul_add, h2, Nat.mul_add]
  have e2 : p * low + p * (B64 * cy) = p * (y * x) + p * c := by rw [← Nat.mul_add, h1, Nat.mul_add]
  rw [Nat.mul_assoc, Nat.mul_add B64, Nat.mul_add p, Nat.add_mul, Nat.mul_assoc p y x]
  omega
/-- The carry never runs past its end. -/
theorem mul_carry_lt {y x c sk : Nat} (hy : y < B64) (hx : x < B64) (hc : c < B64) (hs : sk < B64) : hi (y * x + c) + hi (sk + lo (y * x + c)) < B64 := by
  have h1 := lo_hi (y * x + c)
  have h2 := lo_hi (sk + lo (y * x + c))
  have h3 := prod_lt hy hx hc
  have h4 : y * x + c + sk < B64 * B64 := by
    have e1 : y * x ≤ (B64 - 1) * (B64 - 1) := Nat.mul_le_mul (by omega) (by omega)
    have e2 : (B64 - 1) * (B64 - 1) + (B64 - 1) + (B64 - 1) < B64 * B64 := by rw [B64_eq]; omega
    omega
  refine Nat.lt_of_mul_lt_mul_left (a := B64) ?_
  rw [Nat.mul_add]
  omega

end Go.Proofs.YtmbnlhedbedcdaaGreat.E

/- Words for memory: a slice that reads as a list of digits, and what calls hand back. -/
namespace Go.Proofs.YtmbnlhedbedcdaaGreat.E
open Go.RowKit

/-- The slice at A, of as many cells as xs, reads as the digits xs. -/
def Num (w : World) (A : Option Addr) (xs : List Nat) : Prop :=
  Digs xs ∧ (xs ≠ [] → ∃ b off, A = some ⟨b, off, none⟩ ∧ b < w.heap.size ∧ ∀ i, i < xs.length → w.cell? ⟨b, off + i, none⟩ = some (.int .i64 ((dg xs i : Nat) : Int)))

theorem Num.digs {w : World} {A : Option Addr} {xs : List Nat} (h : Num w A xs) : Digs xs := h.1
theorem Num.nil (w : World) (A : Option Addr) : Num w A [] := ⟨Digs.nil, fun h => absurd rfl h⟩
theorem Num.at_ {w : World} {A : Option Addr} {xs : List Nat} (h : Num w A xs) (hp : 0 < xs.length) :
    ∃ b off, A = some ⟨b, off, none⟩ ∧ b < w.heap.size ∧ ∀ i, i < xs.length → w.cell? ⟨b, off + i, none⟩ = some (.int .i64 ((dg xs i : Nat) : Int)) :=
  h.2 (by rintro rfl; simp at hp)
theorem Num.below {w w' : World} {A : Option Addr} {xs : List Nat} (h : Num w A xs) (hb : Below w.heap.size w w') : Num w' A xs :=
  ⟨h.1, fun hn => by
    obtain ⟨b, off, e, hlt, hc⟩ := h.2 hn
    exact ⟨b, off, e, Nat.lt_of_lt_of_le hlt hb.size, fun i hi => (hb.cell (p := ⟨b, off + i, none⟩) hlt).trans (hc i hi)⟩⟩
theorem Num.alloc {w : World} {A : Option Addr} {xs : List Nat} (h : Num w A xs) (o : Obj) : Num (w.alloc o) A xs :=
  h.below ((Below.refl _ _).alloc (Nat.le_refl _) o)
theorem Num.drew {w : World} {A : Option Addr} {xs : List Nat} (h : Num w A xs) : Num w.drew A xs := h
theorem Num.drewN {w : World} {A : Option Addr} {xs : List Nat} (h : Num w A xs) (n : Nat) : Num (w.drewN n) A xs := h
theorem Num.take {w : World} {A : Option Addr} {xs : List Nat} (h : Num w A xs) (k : Nat) : Num w A (xs.take k) :=
  ⟨h.1.take k, fun hn => by
    obtain ⟨b, off, e, hlt, hc⟩ := h.2 (by rintro rfl; simp at hn)
    refine ⟨b, off, e, hlt, fun i hi => ?_⟩
    rw [List.length_take] at hi
    rw [dg_take (by omega)]
    exact hc i (by omega)⟩
theorem Num.of_row {w : World} {b n : Nat} {t : TypeId} {xs : List Nat} (hd : Digs xs) (hl : xs.length = n) (h : w.rowIs b t n (fun i => .int .i64 ((dg xs i : Nat) : Int))) : Num w (some ⟨b, 0, none⟩) xs :=
  ⟨hd, fun _ => ⟨b, 0, rfl, h.lt, fun i hi => by rw [Nat.zero_add]; exact h.cell (by omega)⟩⟩

/-- What a call hands back that tells the number n in new memory, or in memory that was there: old memory is as it was. -/
def RetN (w : World) (n : Nat) (e : Ending) (w' : World) : Prop :=
  ∃ A c, e = .returned (.slice A (dig n).length c) ∧ (dig n).length ≤ c ∧ Num w' A (dig n) ∧ Below w.heap.size w w'

/-- The same where the world is the same. -/
def RetV (w : World) (n : Nat) (e : Ending) (w' : World) : Prop :=
  ∃ A c, e = .returned (.slice A (dig n).length c) ∧ (dig n).length ≤ c ∧ Num w A (dig n) ∧ w = w'

def RetI (w : World) (n : Int) (e : Ending) (w' : World) : Prop := e = .returned (.int .i64 n) ∧ Below w.heap.size w w'
def RetB (w : World) (b : Bool) (e : Ending) (w' : World) : Prop := e = .returned (.bool b) ∧ Below w.heap.size w w'

theorem bcell {W w1 : World} {B : Nat} (hb : Below B W w1) : (∀ b o, b < B → w1.cell? ⟨b, o, none⟩ = W.cell? ⟨b, o, none⟩) ∧ (∀ b o, b < B → w1.frozen? ⟨b, o, none⟩ = W.frozen? ⟨b, o, none⟩) :=
  ⟨fun b o h => hb.cell (p := ⟨b, o, none⟩) h, fun b o h => hb.frozen (p := ⟨b, o, none⟩) h⟩

/-- A digit as a cell. -/
def dcell (x : Nat) : Value := .int .i64 (x : Int)

/-- Block g is just the digits xs, none frozen. -/
def Blk (w : World) (g : Nat) (xs : List Nat) : Prop := w.heap[g]? = some (.cells (xs.map dcell).toArray 3 (0, 0))

section
variable {w w' : World} {g : Nat} {xs : List Nat}
theorem Blk.lt (h : Blk w g xs) : g < w.heap.size := lt_of_block h
theorem Blk.cell (h : Blk w g xs) {i : Nat} (hi : i < xs.length) : w.cell? ⟨g, i, none⟩ = some (.int .i64 ((dg xs i : Nat) : Int)) := by
  unfold Blk at h
  rw [cell_of_row w g i _ _ _ h, List.getElem?_toArray, List.getElem?_map, List.getElem?_eq_getElem hi, dg_of_lt hi]; rfl
theorem Blk.frozen (h : Blk w g xs) (i : Nat) : w.frozen? ⟨g, i, none⟩ = false := frozen_of_row w g i _ _ h
theorem Blk.of_heap (h : Blk w g xs) (e : w'.heap[g]? = w.heap[g]?) : Blk w' g xs := e.trans h
theorem Blk.below {B : Nat} (h : Blk w g xs) (hb : Below B w w') (hg : g < B) : Blk w' g xs := (hb.block g hg).trans h
theorem Blk.alloc (h : Blk w g xs) (o : Obj) : Blk (w.alloc o) g xs := (Below.heap_alloc w o g h.lt).trans h
theorem Blk.drew (h : Blk w g xs) : Blk w.drew g xs := h
theorem Blk.drewN (h : Blk w g xs) (n : Nat) : Blk (w.drewN n) g xs := h
theorem Blk.set_ (h : Blk w g xs) (i x : Nat) : Blk (w.setCell ⟨g, i, none⟩ (.int .i64 (x : Int))) g (xs.set i x) := by
  unfold Blk at h ⊢
  simp only [World.setCell, Array.getElem?_modify, h]
  simp [dcell, List.map_set]
theorem Blk.far (h : Blk w g xs) {p : Addr} (hp : g ≠ p.block) (u : Value) : Blk (w.setCell p u) g xs := (Below.heap_setCell w p u g hp).trans h
theorem Blk.made (w : World) (n : Nat) : Blk (w.alloc (.cells (madeCells #[.int .i64 0] n) 3)) w.heap.size (List.replicate n 0) := by
  have h1 : madeCells #[.int .i64 0] n = ((List.replicate n 0).map dcell).toArray := by
    apply Array.ext'
    rw [toList_madeCells_one, List.map_replicate]; rfl
  unfold Blk
  rw [heap_alloc_new, h1]
theorem Blk.num (h : Blk w g xs) (hd : Digs xs) : Num w (some ⟨g, 0, none⟩) xs :=
  ⟨hd, fun _ => ⟨g, 0, rfl, h.lt, fun i hi => by rw [Nat.zero_add]; exact h.cell hi⟩⟩
theorem Blk.num_drop (h : Blk w g xs) (hd : Digs xs) (k : Nat) : Num w (some ⟨g, k, none⟩) (xs.drop k) :=
  ⟨hd.drop k, fun _ => ⟨g, k, rfl, h.lt, fun i hi => by
    rw [List.length_drop] at hi
    rw [dg_drop]
    exact h.cell (by omega)⟩⟩
end

/-- The element type's row of the table. -/
theorem info_u64 : (Tryz.prog.info? 3).map (fun i => (i.zero, i.size, i.bytes)) = some (some (.int .i64 0), 1, 8) := by kernel_rfl
theorem under_u64s : Tryz.prog.underlying 68 = some (.slice 3) := by kernel_rfl

/-- make([]uint64, n). -/
theorem run_make_u64 (n : Nat) (hn : n ≤ 35184372088832) (w : World) :
    (Instr.makeSlice 68 (.int .i64 (n : Int)) (.int .i64 (n : Int))).run Tryz.prog w = .ok (.slice (some ⟨w.heap.size, 0, none⟩) n n) (w.alloc (.cells (madeCells #[.int .i64 0] n) 3)) :=
  run_make_row' _ _ _ 8 under_u64s info_u64 rfl .i64 .i64 n (by omega) (by omega) w

theorem run_make_u64' (z : Int) (n : Nat) (hz : z = n) (hn : n ≤ 35184372088832) (w : World) :
    (Instr.makeSlice 68 (.int .i64 z) (.int .i64 z)).run Tryz.prog w = .ok (.slice (some ⟨w.heap.size, 0, none⟩) n n) (w.alloc (.cells (madeCells #[.int .i64 0] n) 3)) := by
  subst hz
  exact run_make_u64 n hn w

theorem Blk.made2 (w : World) (o : Obj) (n : Nat) : Blk ((w.alloc o).alloc (.cells (madeCells #[.int .i64 0] n) 3)) (w.heap.size + 1) (List.replicate n 0) := by
  have h := Blk.made (w.alloc o) n
  rwa [show (w.alloc o).heap.size = w.heap.size + 1 by simp] at h
theorem cell_made2 (w : World) (v : Value) (t : TypeId) {o : Obj} : ((w.alloc (.cells #[v] t)).alloc o).cell? ⟨w.heap.size, 0, none⟩ = some v :=
  cell_of_one (heap_alloc2_old w _ _)

/-- Just block g may have turned. -/
structure Only (g : Nat) (w w' : World) : Prop where
  os : w'.os = w.os
  tape : w'.tape = w.tape
  output : w'.output = w.output
  size : w'.heap.size = w.heap.size
  block : ∀ i, i ≠ g → w'.heap[i]? = w.heap[i]?
theorem Only.refl (g : Nat) (w : World) : Only g w w := ⟨rfl, rfl, rfl, rfl, fun _ _ => rfl⟩
theorem Only.drew {g : Nat} {w w' : World} (h : Only g w w') : Only g w w'.drew := ⟨h.os, h.tape, h.output, h.size, h.block⟩
theorem Only.drewN {g : Nat} {w w' : World} (h : Only g w w') (n : Nat) : Only g w (w'.drewN n) := ⟨h.os, h.tape, h.output, h.size, h.block⟩
theorem Only.set {g : Nat} {w w' : World} (h : Only g w w') (i : Nat) (v : Value) : Only g w (w'.setCell ⟨g, i, none⟩ v) :=
  ⟨h.os, h.tape, h.output, by simpa [World.setCell] using h.size, fun j hj => (Below.heap_setCell w' _ v j hj).trans (h.block j hj)⟩
theorem Only.trans {g : Nat} {a b c : World} (h : Only g a b) (k : Only g b c) : Only g a c :=
  ⟨k.os.trans h.os, k.tape.trans h.tape, k.output.trans h.output, k.size.trans h.size, fun i hi => (k.block i hi).trans (h.block i hi)⟩
theorem Only.below {g B : Nat} {w w' : World} (h : Only g w w') (hB : B ≤ g) : Below B w w' :=
  ⟨h.os, h.tape, h.output, Nat.le_of_eq h.size.symm, fun i hi => h.block i (by omega)⟩
theorem Only.cell {g : Nat} {w w' : World} (h : Only g w w') {p : Addr} (hp : p.block ≠ g) : w'.cell? p = w.cell? p := World.cell?_of_block (h.block p.block hp)
theorem Only.num {g : Nat} {w w' : World} (h : Only g w w') {A : Option Addr} {xs : List Nat} (hA : Num w A xs) (hne : ∀ p, A = some p → p.block ≠ g) : Num w' A xs :=
  ⟨hA.1, fun hn => by
    obtain ⟨b, off, e, hlt, hc⟩ := hA.2 hn
    have hbg : b ≠ g := hne _ e
    exact ⟨b, off, e, by rw [h.size]; exact hlt, fun i hi => (h.cell (p := ⟨b, off + i, none⟩) hbg).trans (hc i hi)⟩⟩
theorem Blk.below_drew {w : World} {g : Nat} {xs : List Nat} (h : Blk w g xs) : Blk w.drew g xs := h
theorem Only.blk {g g' : Nat} {w w' : World} (h : Only g w w') {xs : List Nat} (hb : Blk w g' xs) (hne : g' ≠ g) : Blk w' g' xs := (h.block g' hne).trans hb

end Go.Proofs.YtmbnlhedbedcdaaGreat.E

/- The document's answer: trim, of digits of 8 bits. -/
namespace Go.Proofs.YtmbnlhedbedcdaaGreat.E
open Go.RowKit

/-- The same slice, cut. -/
def RetA (w : World) (A : Option Addr) (n : Nat) (e : Ending) (w' : World) : Prop :=
  ∃ c, e = .returned (.slice A (dig n).length c) ∧ (dig n).length ≤ c ∧ Num w A (dig n) ∧ w = w'

set_option maxHeartbeats 400000 in
theorem trim_at (w : World) (A : Option Addr) (c : Nat) (xs : List Nat) (h : Num w A xs) (hn : xs.length ≤ 1099511627776) (hc : xs.length ≤ c) :
    Calls Tryz.prog 178 #[.slice A xs.length c] w (RetA w A (val xs)) := by
  have hd := h.1
  have HX := Lib.hid h
  clear h
  go_enter Tryz.func178, Tryz.ntmps178
  go_wp2
  go_loop [3] (fun n => ∃ k : Nat, k ≤ xs.length ∧ n = .int .i64 k ∧ Hid (val (xs.take k) = val xs)) (fun n => (intOf n).toNat)
  case atStart => exact ⟨xs.length, Nat.le_refl _, rfl, by rw [List.take_length]; exact rfl⟩
  case round =>
    obtain ⟨k, hk, rfl, hv⟩ := hrel
    by_cases h0 : k = 0
    · subst h0
      go_wp2
      go_ret
      have h1 := dig_take_of hd hk hv.out (.inl rfl)
      rw [List.take_zero] at h1
      refine ⟨c, ?_, by rw [h1]; exact Nat.zero_le _, by rw [h1]; exact Num.nil _ _, rfl⟩
      rw [h1]; rfl
    · obtain ⟨b, off, rfl, hb, hcell⟩ := HX.out.at_ (by omega)
      have hck := hcell (k - 1) (by omega)
      clear hcell
      by_cases hz : dg xs (k - 1) = 0
      · have hz' : (((dg xs (k - 1) : Nat) : Int) == 0) = true := by rw [hz]; rfl
        have HZ := Lib.hid hz
        clear hz
        go_wp2
        go_round
        case rel => exact ⟨k - 1, by omega, by congr 1; omega, (val_take_pred h0 HZ.out).trans hv.out⟩
        case measure => simp [intOf]; omega
      · have hz' : (((dg xs (k - 1) : Nat) : Int) == 0) = false := by
          rw [beq_eq_false_iff_ne]; omega
        go_wp2
        go_ret
        have h1 := dig_take_of hd hk hv.out (.inr hz)
        have h2 : (dig (val xs)).length = k := by rw [h1, List.length_take]; omega
        refine ⟨c, ?_, by omega, by rw [h1]; exact HX.out.take k, rfl⟩
        rw [h2]; rfl

theorem trim_any (w : World) (A : Option Addr) (c : Nat) (xs : List Nat) (h : Num w A xs) (hn : xs.length ≤ 1099511627776) (hc : xs.length ≤ c) :
    Calls Tryz.prog 178 #[.slice A xs.length c] w (RetV w (val xs)) :=
  (trim_at w A c xs h hn hc).mono fun _ _ ⟨c', h1, h2, h3, h4⟩ => ⟨A, c', h1, h2, h3, h4⟩
end Go.Proofs.YtmbnlhedbedcdaaGreat.E

/- The document's answer: Small: the digits of 8 bits of a number. -/
namespace Go.Proofs.YtmbnlhedbedcdaaGreat.E
open Go.RowKit

/-- The first k digits of 8 bits of x. -/
def bytes (x : Nat) : Nat → List Nat
  | 0 => []
  | k + 1 => bytes x k ++ [x / 256 ^ k % 256]
theorem bytes_length (x k : Nat) : (bytes x k).length = k := by induction k with
  | zero => rfl
  | succ k ih => simp [bytes, ih]
theorem bytes_digs (x k : Nat) : Digs (bytes x k) := by
  induction k with
  | zero => exact Digs.nil
  | succ k ih => exact ih.snoc (by rw [B64_eq]; exact Nat.mod_lt _ (by omega))
theorem bytes_val (x k : Nat) : val (bytes x k) = x % 256 ^ k := by
  induction k with
  | zero => simp [bytes, val_nil, Nat.mod_one]
  | succ k ih =>
    rw [bytes, val_snoc, ih, bytes_length, B64_eq, Nat.pow_succ, Nat.mod_mul]
/-- All digits of 8 bits of a list of digits of 64. -/
def small : List Nat → List Nat
  | [] => []
  | x :: r => bytes x 8 ++ small r
theorem small_length (xs : List Nat) : (small xs).length = 8 * xs.length := by
  induction xs with
  | nil => rfl
  | cons x r ih => simp only [small, List.length_append, bytes_length, ih, List.length_cons]; omega
theorem small_digs (xs : List Nat) : Digs (small xs) := by
  induction xs with
  | nil => exact Digs.nil
  | cons x r ih => exact (bytes_digs x 8).append ih
theorem small_val {xs : List Nat} (h : Go.Proofs.YtmbnlhedbedcdaaGreat.Digs xs) : val (small xs) = Go.Proofs.YtmbnlhedbedcdaaGreat.val xs := by
  induction xs with
  | nil => rfl
  | cons x r ih =>
    have hx := h.head
    rw [small, val_append, bytes_val, bytes_length, ih h.tail, Go.Proofs.YtmbnlhedbedcdaaGreat.val_cons, B64_eq, Go.Proofs.YtmbnlhedbedcdaaGreat.B64_eq]
    rw [Go.Proofs.YtmbnlhedbedcdaaGreat.B64_eq] at hx
    rw [Nat.mod_eq_of_lt (by omega)]
theorem small_snoc (xs : List Nat) (x : Nat) : small (xs ++ [x]) = small xs ++ bytes x 8 := by
  induction xs with
  | nil => simp [small]
  | cons y r ih => simp only [List.cons_append, small, ih, List.append_assoc]

/-- What has been gathered is a number's digits. -/
theorem num_of_own {w : World} {base : Nat} {v : Value} {n : Nat} {xs : List Nat} (hd : Digs xs) (h : w.ownsRow base 3 1 v n (xs.map dcell)) :
    ∃ A c, v = .slice A xs.length c ∧ xs.length ≤ c ∧ Num w A xs := by
  obtain ⟨hl, h⟩ := h
  rw [List.length_map] at hl
  have hn : n = xs.length := by omega
  subst hn
  rcases h with ⟨rfl, h0⟩ | ⟨g, cap, cur, rfl, hb, hg, hc, hm, hs, ht⟩
  · exact ⟨none, 0, by rw [h0], by omega, by rw [List.length_eq_zero_iff.1 h0]; exact Num.nil _ _⟩
  · refine ⟨some ⟨g, 0, none⟩, cap, rfl, hc, hd, fun _ => ⟨g, 0, rfl, lt_of_block hg, fun i hi => ?_⟩⟩
    rw [Nat.zero_add, cell_of_row w g i _ _ _ hg]
    rw [Nat.mul_one] at ht
    have h2 : cur.toList[i]? = (xs.map dcell)[i]? := by rw [← ht, List.getElem?_take_of_lt hi]
    rw [← Array.getElem?_toList, h2, List.getElem?_map, List.getElem?_eq_getElem hi, dg_of_lt hi]
    rfl

theorem app_cell (w : World) (v : Value) (t : TypeId) : ∀ (j : Nat) (u : Value), [v][j]? = some u → (w.alloc (.cells #[v] t)).cell? ((⟨w.heap.size, 0, none⟩ : Addr).add j) = some u := by
  intro j u hj
  match j, hj with
  | 0, hj =>
    simp only [List.getElem?_cons_zero, Option.some.injEq] at hj
    subst hj
    rw [Go.Proofs.YtmbnlhedbedcdaaGreat.addr_add]
    exact cell_of_one (heap_alloc_new w _)
theorem app_one (k : IntKind) (z : Int) : ∀ u ∈ [Value.int k z], u.oneCell' = true := by intro u hu; simp only [List.mem_singleton] at hu; subst hu; rfl
theorem own_block {w : World} {base : Nat} {e : TypeId} {v : Value} {n : Nat} {xs : List Value} (h : w.ownsRow base e 1 v n xs) : ∀ k, v.ownBlock = some k → base ≤ k := by
  intro k hk
  rcases h.2 with ⟨rfl, _⟩ | ⟨g, cap, cur, rfl, hb, _⟩
  · cases hk
  · have hk : g = k := by simpa [Value.ownBlock] using hk
    omega
theorem below_app {B base : Nat} {w wr w1 : World} {o : Obj} {e : TypeId} {v : Value} {n : Nat} {xs : List Value} (hb : Below B w wr) (hB : B ≤ wr.heap.size) (hbase : B ≤ base) (ho : wr.ownsRow base e 1 v n xs) (hg : (wr.alloc o).grownBy w1 v.ownBlock) : Below B w w1 :=
  (hb.alloc hB o).grown hg (by simp; omega) (fun k hk => Nat.le_trans hbase (own_block ho k hk))
end Go.Proofs.YtmbnlhedbedcdaaGreat.E

/- The document's answer: Small, walked. -/
namespace Go.Proofs.YtmbnlhedbedcdaaGreat.E
open Go.RowKit

theorem take_snoc {xs : List Nat} {k : Nat} (h : k < xs.length) : xs.take (k + 1) = xs.take k ++ [Go.Proofs.YtmbnlhedbedcdaaGreat.dg xs k] := by
  rw [Go.Proofs.YtmbnlhedbedcdaaGreat.dg_of_lt h, List.take_add_one, List.getElem?_eq_getElem h]; rfl
theorem pow256 (j : Nat) : 256 ^ (j + 1) = 256 ^ j * 256 := Nat.pow_succ _ _

set_option maxRecDepth 100000 in
set_option maxHeartbeats 4000000 in
theorem small_any (w : World) (A : Option Addr) (c : Nat) (xs : List Nat) (ha : Go.Proofs.YtmbnlhedbedcdaaGreat.Num w A xs) (hn : xs.length ≤ 1000000) :
    Calls Tryz.prog 164 #[.slice A xs.length c] w (RetN w (Go.Proofs.YtmbnlhedbedcdaaGreat.val xs)) := by
  have HA := Lib.hid ha
  clear ha
  obtain ⟨i0, hi0, hz0, hz1, hz2⟩ := info_parts info_u64
  go_enter Tryz.func164, Tryz.ntmps164
  go_wp2_with fail
  go_loopw [3, 4] (fun v i wr => ∃ k : Nat, k ≤ xs.length ∧ i = .int .i64 k ∧ wr.ownsRow w.heap.size 3 1 v (8 * k) ((small (xs.take k)).map dcell) ∧ Below w.heap.size w wr) (fun _ i _ => xs.length - (intOf i).toNat)
  case atStart => exact ⟨0, Nat.zero_le _, rfl, World.ownsRow_nil _ _ _ _, Below.refl _ _⟩
  case round =>
    obtain ⟨k, hk, rfl, hown, hbel⟩ := hrel
    by_cases hlt : k < xs.length
    · have hlt' : (k : Int) < (xs.length : Int) := by omega
      obtain ⟨b1, o1, rfl, hb1, hcell⟩ := HA.out.at_ (by omega)
      have hx := ((hbel.cell (p := ⟨b1, o1 + k, none⟩) hb1).trans (hcell k hlt))
      have hxd := Go.Proofs.YtmbnlhedbedcdaaGreat.dg_lt HA.out.1 k
      have HTS := Lib.hid (take_snoc hlt)
      obtain ⟨X, hX⟩ : ∃ X, Go.Proofs.YtmbnlhedbedcdaaGreat.dg xs k = X := ⟨_, rfl⟩
      rw [hX] at hx hxd HTS
      have HOWN := Lib.hid hown
      have HBEL := Lib.hid hbel
      clear hcell hown hbel hX
      go_wp2_with fail
      go_loopw [3, 5, 6] (fun v x j wr2 => ∃ j' : Nat, j' ≤ 8 ∧ j = .int .i64 j' ∧ x = .int .u64 ((X / 256 ^ j' : Nat) : Int) ∧ wr2.ownsRow w.heap.size 3 1 v (8 * k + j') ((small (xs.take k) ++ bytes X j').map dcell) ∧ Below w.heap.size w wr2) (fun _ _ j _ => 8 - (intOf j).toNat)
      case atStart => exact ⟨0, by omega, rfl, by rw [Nat.pow_zero, Nat.div_one], by simpa [bytes] using HOWN.out, HBEL.out⟩
      case round =>
        obtain ⟨j, hj, rfl, rfl, hown2, hbel2⟩ := hrel
        by_cases hj8 : j < 8
        · have hj8' : (j : Int) < 8 := by omega
          have HO2 := Lib.hid hown2
          have HB2 := Lib.hid hbel2
          obtain ⟨d, hd⟩ : ∃ d, X / 256 ^ j = d := ⟨_, rfl⟩
          have hd64 : d < 18446744073709551616 := by
            rw [← hd]; exact Nat.lt_of_le_of_lt (Nat.div_le_self _ _) (by rw [Go.Proofs.YtmbnlhedbedcdaaGreat.B64_eq] at hxd; exact hxd)
          rewrite [hd]
          have HD := Lib.hid hd
          clear hown2 hbel2 hd
          have hB2 := HB2.out.size
          have HSTEP : Hid ((small (xs.take k) ++ bytes X j).map dcell ++ [.int .i64 ((d : Int) % 256)] = (small (xs.take k) ++ bytes X (j + 1)).map dcell) := by
            show _ = _
            rw [bytes, HD.out, ← List.append_assoc, List.map_append (l₂ := [d % 256])]
            rfl
          have HDIV : Hid (X / 256 ^ (j + 1) = d / 256) := by
            show _ = _
            rw [pow256, ← Nat.div_div_eq_div_mul, HD.out]
          go_wp2_with ((at_builtin; refine wpList_append_own _ rfl (.tmp 21) (.tmp 25) 68 rfl w.heap.size 3 i0 (.int .i64 0) 1 8 under_u64s hi0 hz0 hz1 hz2 rfl (by decide) _ _ _ rfl (HO2.out.alloc _) ⟨wr.heap.size, 0, none⟩ 1 1 [.int .i64 ((d : Int) % 256)] rfl rfl (app_cell _ _ _) (app_one _ _) (by unfold maxLen; omega) (by omega) (by simp; omega) ?_); intro v' w1 hown' hgrow hnil)
          have HOWN' := Lib.hid hown'
          rw [HSTEP.out] at HOWN'
          have HBEL' := Lib.hid (below_app HB2.out hB2 (Nat.le_refl _) HO2.out hgrow)
          clear hown' hgrow hnil
          go_wp2_with fail
          go_roundw
          case rel => exact ⟨j + 1, by omega, by go_num, by rw [HDIV.out]; go_num, HOWN'.out, HBEL'.out⟩
          case measure => simp [intOf]; omega
        · have hj8' : ¬ (j : Int) < 8 := by omega
          have e8 : j = 8 := by omega
          subst e8
          have HO2 := Lib.hid hown2
          rw [show 8 * k + 8 = 8 * (k + 1) by omega, ← small_snoc, ← HTS.out] at HO2
          have HB2 := Lib.hid hbel2
          clear hown2 hbel2
          go_wp2_with fail
          go_roundw
          case rel => exact ⟨k + 1, by omega, by go_num, HO2.out, HB2.out⟩
          case measure => simp [intOf]; omega
    · have hlt' : ¬ (k : Int) < (xs.length : Int) := by omega
      have ek : k = xs.length := by omega
      subst ek
      rw [List.take_length] at hown
      obtain ⟨A2, c2, rfl, hc2, hnum⟩ := num_of_own (small_digs xs) (n := 8 * xs.length) hown
      have hbel' := Lib.hid hbel
      have HT := Lib.hid (trim_any wr A2 c2 (small xs) hnum (by rw [small_length]; omega) hc2)
      rw [small_val HA.out.1] at HT
      clear hown hbel hnum
      go_wp2_with fail
      refine HT.out.mono ?_
      rintro e w4 ⟨A4, c4, rfl, hc4, ha4, rfl⟩
      have HA4 := Lib.hid ha4
      clear ha4
      go_wp2_with fail
      go_ret
      exact ⟨A4, c4, rfl, hc4, HA4.out, hbel'.out⟩
end Go.Proofs.YtmbnlhedbedcdaaGreat.E

/- The document's answer: Large: digits of 8 bits as digits of 64. -/
namespace Go.Proofs.YtmbnlhedbedcdaaGreat.E
open Go.RowKit

/-- A chunk's digits from place j on. -/
def chunk (s : List Nat) (i j : Nat) : Nat := val ((s.drop (i + j)).take (8 - j))
theorem chunk_end (s : List Nat) (i : Nat) : chunk s i 8 = 0 := by unfold chunk; rw [Nat.sub_self, List.take_zero, val_nil]
theorem chunk_step (s : List Nat) (i q : Nat) (h : q < 8) : chunk s i q = dg s (i + q) + 256 * chunk s i (q + 1) := by
  unfold chunk
  rcases Nat.lt_or_ge (i + q) s.length with h1 | h1
  · rw [drop_pred h1, show 8 - q = (8 - (q + 1)) + 1 by omega, List.take_succ_cons, val_cons, B64_eq]
    rw [show i + (q + 1) = i + q + 1 by omega]
  · rw [List.drop_of_length_le h1, List.drop_of_length_le (by omega), dg_of_ge h1]
    simp [val_nil]
theorem chunk_lt {s : List Nat} (hs : Digs s) (i j : Nat) (h : j ≤ 8) : chunk s i j < 256 ^ (8 - j) := by
  have h1 := val_lt ((hs.drop (i + j)).take (8 - j))
  have h2 : B64 ^ ((s.drop (i + j)).take (8 - j)).length ≤ B64 ^ (8 - j) := Nat.pow_le_pow_right B64_pos (by rw [List.length_take]; omega)
  rw [B64_eq] at h1 h2
  unfold chunk
  omega
def pack (s : List Nat) : Nat → List Nat
  | 0 => []
  | m + 1 => pack s m ++ [chunk s (8 * m) 0]
theorem pack_length (s : List Nat) (m : Nat) : (pack s m).length = m := by induction m with
  | zero => rfl
  | succ m ih => simp [pack, ih]
theorem pow_8 (m : Nat) : 256 ^ (8 * m) = Go.Proofs.YtmbnlhedbedcdaaGreat.B64 ^ m := by rw [Nat.pow_mul, Go.Proofs.YtmbnlhedbedcdaaGreat.B64_eq]
theorem pack_digs {s : List Nat} (hs : Digs s) (m : Nat) : Go.Proofs.YtmbnlhedbedcdaaGreat.Digs (pack s m) := by
  induction m with
  | zero => exact Go.Proofs.YtmbnlhedbedcdaaGreat.Digs.nil
  | succ m ih =>
    refine ih.snoc ?_
    have h := chunk_lt hs (8 * m) 0 (by omega)
    rw [Go.Proofs.YtmbnlhedbedcdaaGreat.B64_eq]
    exact h
theorem pack_val (s : List Nat) (m : Nat) (h : m = 0 ∨ 8 * (m - 1) ≤ s.length) : Go.Proofs.YtmbnlhedbedcdaaGreat.val (pack s m) = val (s.take (8 * m)) := by
  induction m with
  | zero => simp [pack, val_nil, Go.Proofs.YtmbnlhedbedcdaaGreat.val_nil]
  | succ m ih =>
    have h8 : 8 * m ≤ s.length := by omega
    rw [pack, Go.Proofs.YtmbnlhedbedcdaaGreat.val_snoc, ih (by omega), pack_length, ← pow_8]
    have e : s.take (8 * (m + 1)) = s.take (8 * m) ++ (s.drop (8 * m)).take 8 := by
      rw [show 8 * (m + 1) = 8 * m + 8 by omega, List.take_add]
    rw [e, val_append, List.length_take, Nat.min_eq_left h8, B64_eq]
    rfl
theorem pack_all {n m : Nat} (hm : (dig n).length ≤ 8 * m) (h : m = 0 ∨ 8 * (m - 1) < (dig n).length) : pack (dig n) m = Go.Proofs.YtmbnlhedbedcdaaGreat.dig n := by
  have hv : Go.Proofs.YtmbnlhedbedcdaaGreat.val (pack (dig n) m) = n := by rw [pack_val _ _ (by omega), List.take_of_length_le hm, val_dig]
  have hd := pack_digs (dig_digs n) m
  have h1 := Go.Proofs.YtmbnlhedbedcdaaGreat.dig_of_top hd (by
    cases m with
    | zero => simp [pack]
    | succ m =>
      rw [pack, List.getLast?_append]
      intro h0
      have h0 : chunk (dig n) (8 * m) 0 = 0 := by simpa using h0
      have h2 : 8 * m < (dig n).length := by omega
      have h3 := pow_le_of_dig h2
      have h4 : val ((dig n).take (8 * m)) = n := by
        have h5 := pack_val (dig n) m (by omega)
        rw [pack, Go.Proofs.YtmbnlhedbedcdaaGreat.val_snoc, h0, Nat.mul_zero, Nat.add_zero, h5] at hv
        exact hv
      have h6 := val_lt ((dig_digs n).take (8 * m))
      rw [h4, List.length_take, Nat.min_eq_left (by omega)] at h6
      omega)
  rw [hv] at h1
  exact h1.symm

theorem num_of_own64 {w : World} {base : Nat} {v : Value} {n : Nat} {xs : List Nat} (hd : Go.Proofs.YtmbnlhedbedcdaaGreat.Digs xs) (h : w.ownsRow base 127 1 v n (xs.map Go.Proofs.YtmbnlhedbedcdaaGreat.dcell)) :
    ∃ A c, v = .slice A xs.length c ∧ xs.length ≤ c ∧ Go.Proofs.YtmbnlhedbedcdaaGreat.Num w A xs := by
  obtain ⟨hl, h⟩ := h
  rw [List.length_map] at hl
  have hn : n = xs.length := by omega
  subst hn
  rcases h with ⟨rfl, h0⟩ | ⟨g, cap, cur, rfl, hb, hg, hc, hm, hs, ht⟩
  · exact ⟨none, 0, by rw [h0], by omega, by rw [List.length_eq_zero_iff.1 h0]; exact Go.Proofs.YtmbnlhedbedcdaaGreat.Num.nil _ _⟩
  · refine ⟨some ⟨g, 0, none⟩, cap, rfl, hc, hd, fun _ => ⟨g, 0, rfl, lt_of_block hg, fun i hi => ?_⟩⟩
    rw [Nat.zero_add, cell_of_row w g i _ _ _ hg]
    rw [Nat.mul_one] at ht
    have h2 : cur.toList[i]? = (xs.map Go.Proofs.YtmbnlhedbedcdaaGreat.dcell)[i]? := by rw [← ht, List.getElem?_take_of_lt hi]
    rw [← Array.getElem?_toList, h2, List.getElem?_map, List.getElem?_eq_getElem hi, Go.Proofs.YtmbnlhedbedcdaaGreat.dg_of_lt hi]
    rfl

set_option maxRecDepth 100000 in
set_option maxHeartbeats 4000000 in
theorem large_any (w : World) (A : Option Addr) (c : Nat) (xs : List Nat) (ha : Num w A xs) (hn : xs.length ≤ 8000000) (hc : xs.length ≤ c) :
    Calls Tryz.prog 163 #[.slice A xs.length c] w (Go.Proofs.YtmbnlhedbedcdaaGreat.RetN w (val xs)) := by
  have HT := Lib.hid (trim_any w A c xs ha (by omega) hc)
  have hdl := dig_length_val ha.1
  obtain ⟨n, hnv⟩ : ∃ n, val xs = n := ⟨_, rfl⟩
  rw [hnv] at HT hdl
  rw [hnv]
  clear ha hnv
  obtain ⟨i0, hi0, hz0, hz1, hz2⟩ := info_parts Go.Proofs.YtmbnlhedbedcdaaGreat.info_u64
  go_enter Tryz.func163, Tryz.ntmps163
  go_wp2_with fail
  refine HT.out.mono ?_
  rintro e w' ⟨A', c', rfl, hc', ha', rfl⟩
  have HA := Lib.hid ha'
  clear ha' HT
  go_wp2_with fail
  go_loopw [3, 4] (fun v i wr => ∃ m : Nat, (m = 0 ∨ 8 * (m - 1) < (dig n).length) ∧ i = .int .i64 ((8 * m : Nat) : Int) ∧ wr.ownsRow w.heap.size 127 1 v m ((pack (dig n) m).map Go.Proofs.YtmbnlhedbedcdaaGreat.dcell) ∧ Below w.heap.size w wr) (fun _ i _ => (dig n).length - (intOf i).toNat)
  case atStart => exact ⟨0, .inl rfl, rfl, World.ownsRow_nil _ _ _ _, Below.refl _ _⟩
  case round =>
    obtain ⟨m, hm, rfl, hown, hbel⟩ := hrel
    by_cases hlt : 8 * m < (dig n).length
    · have hlt' : ((8 * m : Nat) : Int) < ((dig n).length : Int) := by omega
      have HOWN := Lib.hid hown
      have HBEL := Lib.hid hbel
      obtain ⟨i, hi⟩ : ∃ i, 8 * m = i := ⟨_, rfl⟩
      rewrite [hi] at hlt hlt'
      rewrite [hi]
      have HI := Lib.hid hi
      clear hown hbel hi hm
      go_wp2_with fail
      go_loop [5, 6] (fun x k => ∃ j : Nat, j ≤ 8 ∧ x = .int .u64 ((chunk (dig n) i j : Nat) : Int) ∧ k = .int .i64 ((j : Int) - 1)) (fun _ k => (intOf k + 1).toNat)
      case atStart => exact ⟨8, Nat.le_refl _, by rw [chunk_end]; rfl, rfl⟩
      case round =>
        obtain ⟨j, hj, rfl, rfl⟩ := hrel
        cases j with
        | zero =>
          have hb := HBEL.out.size
          have hch := chunk_lt (dig_digs n) i 0 (by omega)
          have HSTEP : Hid ((pack (dig n) m).map Go.Proofs.YtmbnlhedbedcdaaGreat.dcell ++ [.int .u64 ((chunk (dig n) i 0 : Nat) : Int)] = (pack (dig n) (m + 1)).map Go.Proofs.YtmbnlhedbedcdaaGreat.dcell) := by
            show _ = _
            rw [pack, HI.out, List.map_append]
            rfl
          obtain ⟨X, hX⟩ : ∃ X, chunk (dig n) i 0 = X := ⟨_, rfl⟩
          rewrite [hX] at HSTEP
          rewrite [hX]
          have hm8 : m ≤ 1000000 := by have := HI.out; omega
          have hi8 : IntKind.i64.wrap ((i : Int) + 8) = ((i : Int) + 8) := IntWalk.i64_in _ (by omega)
          clear hch hX
          go_wp2_with ((at_builtin; refine wpList_append_own _ rfl (.tmp 36) (.tmp 38) 23 rfl w.heap.size 127 i0 (.int .u64 0) 1 8 Go.Proofs.YtmbnlhedbedcdaaGreat.under_u64s hi0 hz0 hz1 hz2 rfl (by decide) _ _ _ rfl (HOWN.out.alloc _) ⟨wr.heap.size, 0, none⟩ 1 1 [.int .u64 ((X : Nat) : Int)] rfl rfl (app_cell _ _ _) (app_one _ _) (by unfold maxLen; omega) (by omega) (by simp; omega) ?_); intro v' w1 hown' hgrow hnil)
          have HOWN' := Lib.hid hown'
          rw [HSTEP.out] at HOWN'
          have HBEL' := Lib.hid (below_app HBEL.out hb (Nat.le_refl _) HOWN.out hgrow)
          clear hown' hgrow hnil
          go_wp2_with fail
          go_roundw
          case rel => exact ⟨m + 1, .inr (by have := HI.out; omega), by rw [← HI.out]; go_num, HOWN'.out, HBEL'.out⟩
          case measure => simp [intOf]; omega
        | succ q =>
          have hq8 : q < 8 := by omega
          have hcs := chunk_step (dig n) i q hq8
          have hc1 := chunk_lt (dig_digs n) i (q + 1) hj
          have hc0 := chunk_lt (dig_digs n) i q (by omega)
          have hp : 256 ^ (8 - q) ≤ 256 ^ 8 := Nat.pow_le_pow_right (by omega) (by omega)
          have hp8 : 256 ^ 8 = 18446744073709551616 := by decide
          rewrite [show (((q + 1 : Nat) : Int) - 1) = (q : Int) by omega]
          have HCS := Lib.hid hcs
          obtain ⟨R, hR⟩ : ∃ R, chunk (dig n) i (q + 1) = R := ⟨_, rfl⟩
          obtain ⟨R0, hR0⟩ : ∃ R0, chunk (dig n) i q = R0 := ⟨_, rfl⟩
          rewrite [hR] at HCS
          rewrite [hR0] at HCS hc0
          rewrite [hR]
          have hR64 : R0 < 18446744073709551616 := by rw [← hp8]; exact Nat.lt_of_lt_of_le hc0 hp
          have HR0 := Lib.hid hR0
          have e1 : IntKind.u64.wrap ((R : Int) * 256) = (R : Int) * 256 := by
            have := HCS.out
            rw [IntKind.wrap_u64]; omega
          have eiq : IntKind.i64.wrap ((i : Int) + (q : Int)) = ((i + q : Nat) : Int) := by
            have h := IntWalk.i64_in ((i : Int) + (q : Int)) (by omega)
            rw [h]; omega
          clear hcs hc1 hc0 hp hp8 hR hR0 hj
          by_cases hin : i + q < (dig n).length
          · have hin' : ((i + q : Nat) : Int) < ((dig n).length : Int) := by omega
            obtain ⟨b1, o1, rfl, hb1, hcell⟩ := HA.out.at_ (by omega)
            have hx := (HBEL.out.cell (p := ⟨b1, o1 + (i + q), none⟩) hb1).trans (hcell (i + q) hin)
            have hdl2 := dg_lt (dig_digs n) (i + q)
            obtain ⟨d, hd⟩ : ∃ d, dg (dig n) (i + q) = d := ⟨_, rfl⟩
            rewrite [hd] at hx hdl2 HCS
            rw [B64_eq] at hdl2
            have e2 : IntKind.u64.wrap ((d : Nat) : Int) = (d : Int) := by rw [IntKind.wrap_u64]; omega
            have e3 : IntKind.u64.wrap ((R : Int) * 256 + (d : Int)) = (R : Int) * 256 + (d : Int) := by
              have := HCS.out
              rw [IntKind.wrap_u64]; omega
            clear hcell hd
            go_wp2_with fail
            go_round
            case rel => exact ⟨q, by omega, by rw [HR0.out, HCS.out]; congr 1; omega, rfl⟩
            case measure => simp [intOf] <;> omega
          · have hin' : ¬ ((i + q : Nat) : Int) < ((dig n).length : Int) := by omega
            rewrite [dg_of_ge (by omega)] at HCS
            clear e1
            have e1 : IntKind.u64.wrap ((R : Int) * 256) = (R : Int) * 256 := by
              have := HCS.out
              rw [IntKind.wrap_u64]; omega
            go_wp2_with fail
            go_round
            case rel => exact ⟨q, by omega, by rw [HR0.out, HCS.out]; congr 1; omega, rfl⟩
            case measure => simp [intOf] <;> omega
    · have hlt' : ¬ ((8 * m : Nat) : Int) < ((dig n).length : Int) := by omega
      have HPA := Lib.hid (pack_all (n := n) (m := m) (by omega) hm)
      rw [HPA.out] at hown
      have hml : m = (Go.Proofs.YtmbnlhedbedcdaaGreat.dig n).length := by rw [← HPA.out, pack_length]
      obtain ⟨A2, c2, rfl, hc2, hnum⟩ := num_of_own64 (Go.Proofs.YtmbnlhedbedcdaaGreat.dig_digs n) hown
      have HN2 := Lib.hid hnum
      have HBEL := Lib.hid hbel
      obtain ⟨i, hi⟩ : ∃ i, 8 * m = i := ⟨_, rfl⟩
      rewrite [hi] at hlt'
      rewrite [hi]
      clear hown hbel hnum hm hlt hml hi
      go_wp2_with fail
      go_ret
      exact ⟨A2, c2, rfl, hc2, HN2.out, HBEL.out⟩
end Go.Proofs.YtmbnlhedbedcdaaGreat.E

/- The document's answer: which of two numbers is below. -/
namespace Go.Proofs.YtmbnlhedbedcdaaGreat.E
open Go.RowKit

set_option maxHeartbeats 4000000 in
theorem cmp_any (w : World) (A B : Option Addr) (c d a b : Nat) (ha : Num w A (dig a)) (hb : Num w B (dig b)) (hn : (dig a).length ≤ 16000000) (hm : (dig b).length ≤ 16000000) :
    Calls Tryz.prog 168 #[.slice A (dig a).length c, .slice B (dig b).length d] w (RetQ w (cmpv a b)) := by
  have HA := Lib.hid ha
  have HB := Lib.hid hb
  have hm' := hm
  clear ha hb hm'
  by_cases hle : (dig a).length = (dig b).length
  · have HL := Lib.hid hle
    have hbe : (((dig a).length : Int) != ((dig b).length : Int)) = false := by rw [hle]; simp
    clear hle
    go_enter Tryz.func168, Tryz.ntmps168
    go_wp2_with fail
    go_loopw [5] (fun i wr => ∃ k : Nat, k ≤ (dig a).length ∧ i = .int .i64 ((k : Int) - 1) ∧ (∃ q, wr = w.drewN q) ∧ Hid ((dig a).drop k = (dig b).drop k)) (fun i _ => (intOf i + 1).toNat)
    case atStart => exact ⟨(dig a).length, Nat.le_refl _, rfl, ⟨0, rfl⟩, by show _ = _; rw [List.drop_length, HL.out, List.drop_length]⟩
    case round =>
      obtain ⟨k, hk, rfl, ⟨q, rfl⟩, heq⟩ := hrel
      cases k with
      | zero =>
        have hv : Hid (a = b) := by
          show a = b
          have h := heq.out
          rw [List.drop_zero, List.drop_zero] at h
          exact dig_inj h
        clear heq
        go_wp2_with fail
        go_ret
        exact ⟨by rw [Go.Proofs.YtmbnlhedbedcdaaGreat.cmpv_eq hv.out]; rfl, _, rfl⟩
      | succ k =>
        rewrite [show (((k + 1 : Nat) : Int) - 1) = (k : Int) by omega]
        obtain ⟨b1, o1, rfl, _, hc1⟩ := HA.out.at_ (by omega)
        obtain ⟨b2, o2, rfl, _, hc2⟩ := HB.out.at_ (by rw [← HL.out]; omega)
        have h1 := hc1 k (by omega)
        have h2 := hc2 k (by rw [← HL.out]; omega)
        have hl1 : (k : Int) < ((dig a).length : Int) := by omega
        have hl2 : (k : Int) < ((dig b).length : Int) := by rw [← HL.out]; omega
        obtain ⟨x, hx⟩ : ∃ x, dg (dig a) k = x := ⟨_, rfl⟩
        obtain ⟨y, hy⟩ : ∃ y, dg (dig b) k = y := ⟨_, rfl⟩
        rcases Nat.lt_trichotomy x y with hd | hd | hd
        · have HV : Hid (a < b) := by
            have := val_lt_of_part (dig_digs a) HL.out (i := k) (by omega) heq.out (by rw [hx, hy]; exact hd)
            rwa [val_dig, val_dig] at this
          have g1 : (x : Int) < (y : Int) := by omega
          rewrite [hx] at h1
          rewrite [hy] at h2
          clear hc1 hc2 heq hx hy hd
          go_wp2_with fail
          go_quiet (fail)
          go_wp2_with fail
          go_ret
          exact ⟨by rw [Go.Proofs.YtmbnlhedbedcdaaGreat.cmpv_lt HV.out]; rfl, _, by first | rfl | rw [World.drewN_drewN]⟩
        · have HE : Hid ((dig a).drop k = (dig b).drop k) := by
            show _ = _
            rw [drop_pred (xs := dig a) (by omega), drop_pred (xs := dig b) (by rw [← HL.out]; omega), hx, hy, hd, heq.out]
          have g1 : ¬ (x : Int) < (y : Int) := by omega
          have g2 : ¬ (y : Int) < (x : Int) := by omega
          rewrite [hx] at h1
          rewrite [hy] at h2
          clear hc1 hc2 heq hx hy hd
          go_wp2_with fail
          go_quiet (fail)
          go_wp2_with fail
          go_quiet (fail)
          go_wp2_with fail
          go_roundw
          case rel => exact ⟨k, by omega, rfl, ⟨_, rfl⟩, HE⟩
          case measure => simp [intOf]
        · have HV : Hid (b < a) := by
            have := val_lt_of_part (dig_digs b) HL.out.symm (i := k) (by rw [← HL.out]; omega) heq.out.symm (by rw [hx, hy]; exact hd)
            rwa [val_dig, val_dig] at this
          have g1 : ¬ (x : Int) < (y : Int) := by omega
          have g2 : (y : Int) < (x : Int) := by omega
          rewrite [hx] at h1
          rewrite [hy] at h2
          clear hc1 hc2 heq hx hy hd
          go_wp2_with fail
          go_quiet (fail)
          go_wp2_with fail
          go_quiet (fail)
          go_wp2_with fail
          go_ret
          exact ⟨by rw [Go.Proofs.YtmbnlhedbedcdaaGreat.cmpv_gt HV.out]; rfl, _, by first | rfl | rw [World.drewN_drewN, World.drewN_drewN]⟩
  · have hbe : (((dig a).length : Int) != ((dig b).length : Int)) = true := by rw [bne_iff_ne]; omega
    by_cases hlt : (dig a).length < (dig b).length
    · have HV := Lib.hid (Go.Proofs.YtmbnlhedbedcdaaGreat.cmpv_lt (lt_of_dig_length_lt hlt))
      have g1 : ((dig a).length : Int) < ((dig b).length : Int) := by omega
      clear hlt hle
      go_enter Tryz.func168, Tryz.ntmps168
      go_wp2_with fail
      go_ret
      exact ⟨by rw [HV.out]; rfl, 0, rfl⟩
    · have HV := Lib.hid (Go.Proofs.YtmbnlhedbedcdaaGreat.cmpv_gt (lt_of_dig_length_lt (show (dig b).length < (dig a).length by omega)))
      have g1 : ¬ ((dig a).length : Int) < ((dig b).length : Int) := by omega
      clear hlt hle
      go_enter Tryz.func168, Tryz.ntmps168
      go_wp2_with fail
      go_ret
      exact ⟨by rw [HV.out]; rfl, 0, rfl⟩

theorem small_dig {w : World} {n : Nat} {e : Ending} {w' : World} (h : RetN w n e w') : RetN w n e w' := h

/-- The document's Cmp. -/
theorem Cmp_any (w : World) (A B : Option Addr) (c d : Nat) (xs ys : List Nat) (ha : Go.Proofs.YtmbnlhedbedcdaaGreat.Num w A xs) (hb : Go.Proofs.YtmbnlhedbedcdaaGreat.Num w B ys) (hn : xs.length ≤ 1000000) (hm : ys.length ≤ 1000000) :
    Calls Tryz.prog 143 #[.slice A xs.length c, .slice B ys.length d] w (Go.Proofs.YtmbnlhedbedcdaaGreat.RetI w (cmpv (Go.Proofs.YtmbnlhedbedcdaaGreat.val xs) (Go.Proofs.YtmbnlhedbedcdaaGreat.val ys))) := by
  have HB := Lib.hid hb
  have hl1 : (dig (Go.Proofs.YtmbnlhedbedcdaaGreat.val xs)).length ≤ 8000000 := by
    have h := dig_length_val (small_digs xs); rw [small_val ha.1, small_length] at h; omega
  have hl2 : (dig (Go.Proofs.YtmbnlhedbedcdaaGreat.val ys)).length ≤ 8000000 := by
    have h := dig_length_val (small_digs ys); rw [small_val hb.1, small_length] at h; omega
  have H1 := Lib.hid (small_any w A c xs ha hn)
  clear ha hb
  go_enter Tryz.func143, Tryz.ntmps143
  go_wp2_with fail
  refine H1.out.mono ?_
  rintro e w1 ⟨A1, c1, rfl, hc1, h1, hb1⟩
  have HN1 := Lib.hid h1
  have HB1 := Lib.hid hb1
  have H2 := Lib.hid (small_any w1 B d ys (HB.out.below hb1) hm)
  clear h1 hb1 H1
  go_wp2_with fail
  refine H2.out.mono ?_
  rintro e w2 ⟨A2, c2, rfl, hc2, h2, hb2⟩
  have H3 := Lib.hid (cmp_any w2 A1 A2 c1 c2 _ _ (HN1.out.below hb2) h2 (by omega) (by omega))
  have HB2 := Lib.hid (HB1.out.trans (hb2.mono HB1.out.size))
  clear h2 hb2 H2 HN1 HB1
  go_wp2_with fail
  refine H3.out.mono ?_
  rintro e w3 ⟨rfl, q, rfl⟩
  go_wp2_with fail
  go_ret
  exact ⟨rfl, below_drewN HB2.out q⟩
end Go.Proofs.YtmbnlhedbedcdaaGreat.E

/- The document's answer: differences. -/
namespace Go.Proofs.YtmbnlhedbedcdaaGreat.E
open Go.RowKit

theorem digs_sub {a b m r : Nat} {zs : List Nat} (hle : b ≤ a) (hz : Digs zs) (hl : zs.length = (dig a).length) (hr : r ≤ 1) (hm : m = (dig a).length) (h : val zs + val ((dig b).take m) = val ((dig a).take m) + B64 ^ m * r) : val zs = a - b := by
  subst hm
  rw [List.take_length, val_dig] at h
  have hlb := dig_length_mono hle
  rw [List.take_of_length_le hlb, val_dig] at h
  have h1 := val_lt hz
  rw [hl] at h1
  rcases Nat.eq_zero_or_pos r with h0 | h0
  · rw [h0, Nat.mul_zero] at h; omega
  · have : r = 1 := by omega
    rw [this, Nat.mul_one] at h
    omega

/-- A number in new memory. -/
def RetF (w : World) (n : Nat) (e : Ending) (w' : World) : Prop :=
  ∃ A c, e = .returned (.slice A (dig n).length c) ∧ (dig n).length ≤ c ∧ Num w' A (dig n) ∧ Below w.heap.size w w' ∧ ∀ p, A = some p → w.heap.size ≤ p.block

set_option maxRecDepth 100000 in
set_option maxHeartbeats 4000000 in
theorem sub_new (w : World) (A B : Option Addr) (c d a b : Nat) (ha : Num w A (dig a)) (hb : Num w B (dig b)) (hle : b ≤ a) (hn : (dig a).length ≤ 16000000) (hm : (dig b).length ≤ 16000000) :
    Calls Tryz.prog 169 #[.slice A (dig a).length c, .slice B (dig b).length d] w (RetF w (a - b)) := by
  have HA := Lib.hid ha
  have HB := Lib.hid hb
  have HLE := Lib.hid hle
  clear ha hb hle
  obtain ⟨i0, hi0, hz0, hz1, hz2⟩ := info_parts info_u64
  go_enter Tryz.func169, Tryz.ntmps169
  go_wp2_with fail
  go_loopw [5, 6, 7] (fun v br i wr => ∃ (k r : Nat) (zs : List Nat), k ≤ (dig a).length ∧ r ≤ 1 ∧ i = .int .i64 k ∧ br = .int .i64 r ∧ zs.length = k ∧ Digs zs ∧ Hid (val zs + val ((dig b).take k) = val ((dig a).take k) + B64 ^ k * r) ∧
      wr.ownsRow w.heap.size 3 1 v k (zs.map dcell) ∧ Below w.heap.size w wr) (fun _ _ i _ => (dig a).length - (intOf i).toNat)
  case atStart => exact ⟨0, 0, [], Nat.zero_le _, Nat.zero_le _, rfl, rfl, rfl, Digs.nil, by show _ = _; simp [val_nil], World.ownsRow_nil _ _ _ _, Below.refl _ _⟩
  case round =>
    obtain ⟨k, r, zs, hk, hr, rfl, rfl, hzl, hzd, hv, hown, hbel⟩ := hrel
    by_cases hlt : k < (dig a).length
    · have hlt' : (k : Int) < ((dig a).length : Int) := by omega
      obtain ⟨b1, o1, rfl, hb1, hcell⟩ := HA.out.at_ (by omega)
      have hx := (hbel.cell (p := ⟨b1, o1 + k, none⟩) hb1).trans (hcell k hlt)
      have hxd := dg_lt (dig_digs a) k
      have hyd := dg_lt (dig_digs b) k
      have hva := val_take_dg (dig a) k
      have hvb := val_take_dg (dig b) k
      obtain ⟨x, hxe⟩ : ∃ x, dg (dig a) k = x := ⟨_, rfl⟩
      obtain ⟨y, hye⟩ : ∃ y, dg (dig b) k = y := ⟨_, rfl⟩
      rewrite [hxe] at hx hxd hva
      rewrite [hye] at hyd hvb
      rw [B64_eq] at hxd hyd
      obtain ⟨E1, hE1⟩ : ∃ E1 : Int, (x : Int) - (r : Int) = E1 := ⟨_, rfl⟩
      by_cases hy : k < (dig b).length
      · have hy' : (k : Int) < ((dig b).length : Int) := by omega
        obtain ⟨b2, o2, rfl, hb2, hcell2⟩ := HB.out.at_ (by omega)
        obtain ⟨E2, hE2⟩ : ∃ E2 : Int, E1 - (y : Int) = E2 := ⟨_, rfl⟩
        by_cases hneg : E2 < 0
        · have hx2 := (hbel.cell (p := ⟨b2, o2 + k, none⟩) hb2).trans (hcell2 k hy)
          rewrite [hye] at hx2
          obtain ⟨dd, hdd⟩ : ∃ dd, x + 256 - r - y = dd := ⟨_, rfl⟩
          have hv2 : Hid (val (zs ++ [dd]) + val ((dig b).take (k + 1)) = val ((dig a).take (k + 1)) + B64 ^ (k + 1) * 1) := by
            show _ = _
            have e := hv.out
            rw [hva, hvb, val_snoc, hzl, Nat.pow_succ, B64_eq] at *
            have e2 : 256 ^ k * dd + 256 ^ k * y + 256 ^ k * r = 256 ^ k * x + 256 ^ k * (256 * 1) := by
              rw [← Nat.mul_add, ← Nat.mul_add, ← Nat.mul_add]; congr 1; omega
            rw [Nat.mul_assoc]
            omega
          have hzd2 : Hid (Digs (zs ++ [dd])) := hzd.snoc (by rw [B64_eq]; omega)
          have HSTEP : Hid (zs.map dcell ++ [.int .i64 (dd : Int)] = (zs ++ [dd]).map dcell) := by
            show _ = _
            rw [List.map_append]
            rfl
          have HOWN := Lib.hid hown
          have HBEL := Lib.hid hbel
          have hsz := hbel.size
          have hzl2 : Hid ((zs ++ [dd]).length = k + 1) := by show _ = _; simp [hzl]
          have w1 : IntKind.i64.wrap ((x : Int) - (r : Int)) = E1 := by rw [← hE1]; exact IntWalk.i64_in _ (by omega)
          have w2 : IntKind.i64.wrap (E1 - (y : Int)) = E2 := by rw [← hE2, ← hE1]; exact IntWalk.i64_in _ (by omega)
          have w3 : IntKind.i64.wrap (E2 + 256) = (dd : Int) := by
            have h := IntWalk.i64_in (E2 + 256) (by omega)
            rw [h]; omega
          have hrr := Lib.hid hr
          clear hcell hown hbel hxe hye hva hvb hv hzd hyd hzl hxd hdd hr hE1 hcell2 hE2
          go_wp2_with ((at_builtin; refine wpList_append_own _ rfl (.tmp 35) (.tmp 37) 68 rfl w.heap.size 3 i0 (.int .i64 0) 1 8 under_u64s hi0 hz0 hz1 hz2 rfl (by decide) _ _ _ rfl (HOWN.out.alloc _) ⟨wr.heap.size, 0, none⟩ 1 1 [.int .i64 (dd : Int)] rfl rfl (app_cell _ _ _) (app_one _ _) (by unfold maxLen; omega) (by omega) (by simp; omega) ?_); intro v' w1 hown' hgrow hnil)
          have HOWN' := Lib.hid hown'
          rw [HSTEP.out] at HOWN'
          have HBEL' := Lib.hid (below_app HBEL.out hsz (Nat.le_refl _) HOWN.out hgrow)
          clear hown' hgrow hnil
          go_wp2_with fail
          go_roundw
          case rel => exact ⟨k + 1, 1, zs ++ [dd], by omega, by omega, by go_num, rfl, hzl2.out, hzd2.out, hv2.out, HOWN'.out, HBEL'.out⟩
          case measure => simp [intOf]; omega
        · have hx2 := (hbel.cell (p := ⟨b2, o2 + k, none⟩) hb2).trans (hcell2 k hy)
          rewrite [hye] at hx2
          obtain ⟨dd, hdd⟩ : ∃ dd, x - r - y = dd := ⟨_, rfl⟩
          have hv2 : Hid (val (zs ++ [dd]) + val ((dig b).take (k + 1)) = val ((dig a).take (k + 1)) + B64 ^ (k + 1) * 0) := by
            show _ = _
            have e := hv.out
            rw [hva, hvb, val_snoc, hzl, Nat.pow_succ, B64_eq] at *
            have e2 : 256 ^ k * dd + 256 ^ k * y + 256 ^ k * r = 256 ^ k * x + 256 ^ k * (256 * 0) := by
              rw [← Nat.mul_add, ← Nat.mul_add, ← Nat.mul_add]; congr 1; omega
            rw [Nat.mul_assoc]
            omega
          have hzd2 : Hid (Digs (zs ++ [dd])) := hzd.snoc (by rw [B64_eq]; omega)
          have HSTEP : Hid (zs.map dcell ++ [.int .i64 (dd : Int)] = (zs ++ [dd]).map dcell) := by
            show _ = _
            rw [List.map_append]
            rfl
          have HOWN := Lib.hid hown
          have HBEL := Lib.hid hbel
          have hsz := hbel.size
          have hzl2 : Hid ((zs ++ [dd]).length = k + 1) := by show _ = _; simp [hzl]
          have w1 : IntKind.i64.wrap ((x : Int) - (r : Int)) = E1 := by rw [← hE1]; exact IntWalk.i64_in _ (by omega)
          have w2 : IntKind.i64.wrap (E1 - (y : Int)) = E2 := by rw [← hE2, ← hE1]; exact IntWalk.i64_in _ (by omega)
          have w3 : E2 = (dd : Int) := by omega
          have hrr := Lib.hid hr
          clear hcell hown hbel hxe hye hva hvb hv hzd hyd hzl hxd hdd hr hE1 hcell2 hE2
          subst w3
          go_wp2_with ((at_builtin; refine wpList_append_own _ rfl (.tmp 35) (.tmp 37) 68 rfl w.heap.size 3 i0 (.int .i64 0) 1 8 under_u64s hi0 hz0 hz1 hz2 rfl (by decide) _ _ _ rfl (HOWN.out.alloc _) ⟨wr.heap.size, 0, none⟩ 1 1 [.int .i64 (dd : Int)] rfl rfl (app_cell _ _ _) (app_one _ _) (by unfold maxLen; omega) (by omega) (by simp; omega) ?_); intro v' w1 hown' hgrow hnil)
          have HOWN' := Lib.hid hown'
          rw [HSTEP.out] at HOWN'
          have HBEL' := Lib.hid (below_app HBEL.out hsz (Nat.le_refl _) HOWN.out hgrow)
          clear hown' hgrow hnil
          go_wp2_with fail
          go_roundw
          case rel => exact ⟨k + 1, 0, zs ++ [dd], by omega, by omega, by go_num, rfl, hzl2.out, hzd2.out, hv2.out, HOWN'.out, HBEL'.out⟩
          case measure => simp [intOf]; omega
      · have hy' : ¬ (k : Int) < ((dig b).length : Int) := by omega
        have hy0 : y = 0 := by rw [← hye]; exact dg_of_ge (by omega)
        subst hy0
        rw [Nat.mul_zero, Nat.add_zero] at hvb
        by_cases hneg : E1 < 0
        · obtain ⟨dd, hdd⟩ : ∃ dd, x + 256 - r = dd := ⟨_, rfl⟩
          have hv2 : Hid (val (zs ++ [dd]) + val ((dig b).take (k + 1)) = val ((dig a).take (k + 1)) + B64 ^ (k + 1) * 1) := by
            show _ = _
            have e := hv.out
            rw [hva, hvb, val_snoc, hzl, Nat.pow_succ, B64_eq] at *
            have e2 : 256 ^ k * dd + 256 ^ k * r = 256 ^ k * x + 256 ^ k * (256 * 1) := by
              rw [← Nat.mul_add, ← Nat.mul_add]; congr 1; omega
            rw [Nat.mul_assoc]
            omega
          have hzd2 : Hid (Digs (zs ++ [dd])) := hzd.snoc (by rw [B64_eq]; omega)
          have HSTEP : Hid (zs.map dcell ++ [.int .i64 (dd : Int)] = (zs ++ [dd]).map dcell) := by
            show _ = _
            rw [List.map_append]
            rfl
          have HOWN := Lib.hid hown
          have HBEL := Lib.hid hbel
          have hsz := hbel.size
          have hzl2 : Hid ((zs ++ [dd]).length = k + 1) := by show _ = _; simp [hzl]
          have w1 : IntKind.i64.wrap ((x : Int) - (r : Int)) = E1 := by rw [← hE1]; exact IntWalk.i64_in _ (by omega)
          have w3 : IntKind.i64.wrap (E1 + 256) = (dd : Int) := by
            have h := IntWalk.i64_in (E1 + 256) (by omega)
            rw [h]; omega
          have hrr := Lib.hid hr
          clear hcell hown hbel hxe hye hva hvb hv hzd hyd hzl hxd hdd hr hE1 
          go_wp2_with ((at_builtin; refine wpList_append_own _ rfl (.tmp 35) (.tmp 37) 68 rfl w.heap.size 3 i0 (.int .i64 0) 1 8 under_u64s hi0 hz0 hz1 hz2 rfl (by decide) _ _ _ rfl (HOWN.out.alloc _) ⟨wr.heap.size, 0, none⟩ 1 1 [.int .i64 (dd : Int)] rfl rfl (app_cell _ _ _) (app_one _ _) (by unfold maxLen; omega) (by omega) (by simp; omega) ?_); intro v' w1 hown' hgrow hnil)
          have HOWN' := Lib.hid hown'
          rw [HSTEP.out] at HOWN'
          have HBEL' := Lib.hid (below_app HBEL.out hsz (Nat.le_refl _) HOWN.out hgrow)
          clear hown' hgrow hnil
          go_wp2_with fail
          go_roundw
          case rel => exact ⟨k + 1, 1, zs ++ [dd], by omega, by omega, by go_num, rfl, hzl2.out, hzd2.out, hv2.out, HOWN'.out, HBEL'.out⟩
          case measure => simp [intOf]; omega
        · obtain ⟨dd, hdd⟩ : ∃ dd, x - r = dd := ⟨_, rfl⟩
          have hv2 : Hid (val (zs ++ [dd]) + val ((dig b).take (k + 1)) = val ((dig a).take (k + 1)) + B64 ^ (k + 1) * 0) := by
            show _ = _
            have e := hv.out
            rw [hva, hvb, val_snoc, hzl, Nat.pow_succ, B64_eq] at *
            have e2 : 256 ^ k * dd + 256 ^ k * r = 256 ^ k * x + 256 ^ k * (256 * 0) := by
              rw [← Nat.mul_add, ← Nat.mul_add]; congr 1; omega
            rw [Nat.mul_assoc]
            omega
          have hzd2 : Hid (Digs (zs ++ [dd])) := hzd.snoc (by rw [B64_eq]; omega)
          have HSTEP : Hid (zs.map dcell ++ [.int .i64 (dd : Int)] = (zs ++ [dd]).map dcell) := by
            show _ = _
            rw [List.map_append]
            rfl
          have HOWN := Lib.hid hown
          have HBEL := Lib.hid hbel
          have hsz := hbel.size
          have hzl2 : Hid ((zs ++ [dd]).length = k + 1) := by show _ = _; simp [hzl]
          have w1 : IntKind.i64.wrap ((x : Int) - (r : Int)) = E1 := by rw [← hE1]; exact IntWalk.i64_in _ (by omega)
          have w3 : E1 = (dd : Int) := by omega
          have hrr := Lib.hid hr
          clear hcell hown hbel hxe hye hva hvb hv hzd hyd hzl hxd hdd hr hE1 
          subst w3
          go_wp2_with ((at_builtin; refine wpList_append_own _ rfl (.tmp 35) (.tmp 37) 68 rfl w.heap.size 3 i0 (.int .i64 0) 1 8 under_u64s hi0 hz0 hz1 hz2 rfl (by decide) _ _ _ rfl (HOWN.out.alloc _) ⟨wr.heap.size, 0, none⟩ 1 1 [.int .i64 (dd : Int)] rfl rfl (app_cell _ _ _) (app_one _ _) (by unfold maxLen; omega) (by omega) (by simp; omega) ?_); intro v' w1 hown' hgrow hnil)
          have HOWN' := Lib.hid hown'
          rw [HSTEP.out] at HOWN'
          have HBEL' := Lib.hid (below_app HBEL.out hsz (Nat.le_refl _) HOWN.out hgrow)
          clear hown' hgrow hnil
          go_wp2_with fail
          go_roundw
          case rel => exact ⟨k + 1, 0, zs ++ [dd], by omega, by omega, by go_num, rfl, hzl2.out, hzd2.out, hv2.out, HOWN'.out, HBEL'.out⟩
          case measure => simp [intOf]; omega
    · have hlt' : ¬ (k : Int) < ((dig a).length : Int) := by omega
      have hkl : k = (dig a).length := by omega
      have hval := digs_sub HLE.out hzd (by omega) hr hkl hv.out
      have hzl' : zs.length = k := hzl
      obtain ⟨A2, c2, rfl, hc2, hnum⟩ := num_of_own hzd hown
      have HF : Hid (∀ p, A2 = some p → w.heap.size ≤ p.block) := fun p hp => own_block hown p.block (by rw [hp]; rfl)
      have hT := trim_at wr A2 c2 zs hnum (by omega) hc2
      rw [hval] at hT
      have HT := Lib.hid hT
      have HBEL := Lib.hid hbel
      clear hown hbel hnum hval hv hzl' hT hkl hzl hlt
      go_wp2_with fail
      refine HT.out.mono ?_
      rintro e w4 ⟨c4, rfl, hc4, ha4, rfl⟩
      have HA4 := Lib.hid ha4
      clear ha4
      go_wp2_with fail
      go_ret
      exact ⟨A2, c4, rfl, hc4, HA4.out, HBEL.out, HF.out⟩
theorem sub_any (w : World) (A B : Option Addr) (c d a b : Nat) (ha : Num w A (dig a)) (hb : Num w B (dig b)) (hle : b ≤ a) (hn : (dig a).length ≤ 16000000) (hm : (dig b).length ≤ 16000000) :
    Calls Tryz.prog 169 #[.slice A (dig a).length c, .slice B (dig b).length d] w (RetN w (a - b)) :=
  (sub_new w A B c d a b ha hb hle hn hm).mono fun _ _ ⟨A', c', h1, h2, h3, h4, _⟩ => ⟨A', c', h1, h2, h3, h4⟩
end Go.Proofs.YtmbnlhedbedcdaaGreat.E

/- The document's answer: Sub. -/
namespace Go.Proofs.YtmbnlhedbedcdaaGreat.E
open Go.RowKit

theorem dl_small {xs : List Nat} (h : Go.Proofs.YtmbnlhedbedcdaaGreat.Digs xs) : (dig (Go.Proofs.YtmbnlhedbedcdaaGreat.val xs)).length ≤ 8 * xs.length := by
  have h1 := dig_length_val (small_digs xs)
  rwa [small_val h, small_length] at h1
theorem dl8_le {m n : Nat} (h : m ≤ n) : (dig m).length ≤ (dig n).length := dig_length_mono h

set_option maxHeartbeats 2000000 in
theorem Sub_any (w : World) (A B : Option Addr) (c d : Nat) (xs ys : List Nat) (ha : Go.Proofs.YtmbnlhedbedcdaaGreat.Num w A xs) (hb : Go.Proofs.YtmbnlhedbedcdaaGreat.Num w B ys) (hn : xs.length ≤ 1000000) (hm : ys.length ≤ 1000000) :
    Calls Tryz.prog 144 #[.slice A xs.length c, .slice B ys.length d] w (Go.Proofs.YtmbnlhedbedcdaaGreat.RetN w (Go.Proofs.YtmbnlhedbedcdaaGreat.val xs - Go.Proofs.YtmbnlhedbedcdaaGreat.val ys)) := by
  have HB := Lib.hid hb
  have hl1 := dl_small ha.1
  have hl2 := dl_small hb.1
  have H1 := Lib.hid (small_any w A c xs ha hn)
  have HS2 := Lib.hid (fun w1 (h : Below w.heap.size w w1) => small_any w1 B d ys (HB.out.below h) hm)
  obtain ⟨a, hva⟩ : ∃ a, Go.Proofs.YtmbnlhedbedcdaaGreat.val xs = a := ⟨_, rfl⟩
  obtain ⟨b, hvb⟩ : ∃ b, Go.Proofs.YtmbnlhedbedcdaaGreat.val ys = b := ⟨_, rfl⟩
  rw [hva] at hl1 H1
  rw [hvb] at hl2 HS2
  rw [hva, hvb]
  clear ha hb hva hvb
  rcases Nat.lt_or_ge a b with hab | hab
  case' inl => have HCV := Lib.hid (Go.Proofs.YtmbnlhedbedcdaaGreat.cmpv_lt hab)
  case' inr =>
    obtain ⟨v, hcv, hv0⟩ : ∃ v : Int, Go.Proofs.YtmbnlhedbedcdaaGreat.cmpv a b = v ∧ ¬ v < 0 := by
      rcases Nat.lt_or_ge b a with h | h
      · exact ⟨1, Go.Proofs.YtmbnlhedbedcdaaGreat.cmpv_gt h, by omega⟩
      · exact ⟨0, Go.Proofs.YtmbnlhedbedcdaaGreat.cmpv_eq (by omega), by omega⟩
    have HCV := Lib.hid hcv
    clear hcv
  all_goals
    go_enter Tryz.func144, Tryz.ntmps144
    go_wp2_with fail
    refine H1.out.mono ?_
    rintro e w1 ⟨A1, c1, rfl, hc1, h1, hb1⟩
    have HN1 := Lib.hid h1
    have HB1 := Lib.hid hb1
    clear h1 hb1 H1
    go_wp2_with fail
    refine (HS2.out w1 HB1.out).mono ?_
    rintro e w2 ⟨A2, c2, rfl, hc2, h2, hb2⟩
    have HN1' := Lib.hid (HN1.out.below hb2)
    have HN2 := Lib.hid h2
    have HB2 := Lib.hid (HB1.out.trans (hb2.mono HB1.out.size))
    have h3 := cmp_any w2 A1 A2 c1 c2 a b HN1'.out h2 (by omega) (by omega)
    rw [HCV.out] at h3
    have H3 := Lib.hid h3
    clear h2 hb2 HN1 HB1 HS2 h3 HCV
    go_wp2_with fail
    refine H3.out.mono ?_
    rintro e w3 ⟨rfl, q, rfl⟩
  · have H4 := Lib.hid (sub_any (w2.drewN q) A1 A2 c1 c2 a b (HN1'.out.drewN q) (HN2.out.drewN q) hab (by omega) (by omega))
    have hl3 := dl8_le (show a - b ≤ a by omega)
    obtain ⟨r, hr⟩ : ∃ r, a - b = r := ⟨_, rfl⟩
    rw [hr] at H4 hl3
    have HR := Lib.hid hr
    clear hr
    go_wp2_with fail
    refine H4.out.mono ?_
    rintro e w4 ⟨A4, c4, rfl, hc4, h4, hb4⟩
    have h5 := large_any w4 A4 c4 (dig r) h4 (by omega) hc4
    rw [val_dig] at h5
    have H5 := Lib.hid h5
    have HB4 : Hid (Below w.heap.size w w4) := (below_drewN HB2.out q).trans (hb4.mono (below_drewN HB2.out q).size)
    clear h4 hb4 h5
    go_wp2_with fail
    refine H5.out.mono ?_
    rintro e w5 ⟨A5, c5, rfl, hc5, h5, hb5⟩
    have HN5 := Lib.hid h5
    have HB5 := Lib.hid (HB4.out.trans (hb5.mono HB4.out.size))
    clear h5 hb5
    go_wp2_with fail
    go_ret
    rw [HR.out]
    exact ⟨A5, c5, rfl, hc5, HN5.out, HB5.out⟩
  · have HZ : Hid (a - b = 0) := by show _ = _; omega
    clear hab
    go_wp2_with fail
    go_ret
    rw [HZ.out]
    refine ⟨none, 0, by rw [Go.Proofs.YtmbnlhedbedcdaaGreat.dig_zero]; rfl, by rw [Go.Proofs.YtmbnlhedbedcdaaGreat.dig_zero]; simp, by rw [Go.Proofs.YtmbnlhedbedcdaaGreat.dig_zero]; exact Go.Proofs.YtmbnlhedbedcdaaGreat.Num.nil _ _, below_drewN HB2.out q⟩
end Go.Proofs.YtmbnlhedbedcdaaGreat.E

/- The document's answer: Add. -/
namespace Go.Proofs.YtmbnlhedbedcdaaGreat.E
open Go.RowKit

theorem add_stop {a b k r : Nat} {zs : List Nat} (h1 : ¬ k < (dig a).length) (h2 : ¬ k < (dig b).length) (hr : r = 0) (hv : val zs + 256 ^ k * r = val ((dig a).take k) + val ((dig b).take k)) : val zs = a + b := by
  rw [List.take_of_length_le (by omega), List.take_of_length_le (by omega), val_dig, val_dig, hr, Nat.mul_zero] at hv
  omega
theorem add_digit {va vb vz p x y r s : Nat} (hv : vz + p * r = va + vb) (hs : s = r + x + y) : vz + p * (s % 256) + p * 256 * (s / 256) = va + p * x + (vb + p * y) := by
  have e : s % 256 + 256 * (s / 256) = s := Nat.mod_add_div s 256
  have e2 : p * (s % 256) + p * 256 * (s / 256) = p * s := by rw [Nat.mul_assoc, ← Nat.mul_add, e]
  rw [hs, Nat.mul_add, Nat.mul_add] at e2
  rw [hs] at *
  omega

set_option maxRecDepth 100000 in
set_option maxHeartbeats 8000000 in
theorem Add_any (w : World) (A B : Option Addr) (c d : Nat) (xs ys : List Nat) (ha : Go.Proofs.YtmbnlhedbedcdaaGreat.Num w A xs) (hb : Go.Proofs.YtmbnlhedbedcdaaGreat.Num w B ys) (hn : xs.length ≤ 400000) (hm : ys.length ≤ 400000) :
    Calls Tryz.prog 142 #[.slice A xs.length c, .slice B ys.length d] w (Go.Proofs.YtmbnlhedbedcdaaGreat.RetN w (Go.Proofs.YtmbnlhedbedcdaaGreat.val xs + Go.Proofs.YtmbnlhedbedcdaaGreat.val ys)) := by
  have HB := Lib.hid hb
  have hl1 := dl_small ha.1
  have hl2 := dl_small hb.1
  have H1 := Lib.hid (small_any w A c xs ha (by omega))
  have HS2 := Lib.hid (fun w1 (h : Below w.heap.size w w1) => small_any w1 B d ys (HB.out.below h) (by omega))
  obtain ⟨a, hva⟩ : ∃ a, Go.Proofs.YtmbnlhedbedcdaaGreat.val xs = a := ⟨_, rfl⟩
  obtain ⟨b, hvb⟩ : ∃ b, Go.Proofs.YtmbnlhedbedcdaaGreat.val ys = b := ⟨_, rfl⟩
  rw [hva] at hl1 H1
  rw [hvb] at hl2 HS2
  rw [hva, hvb]
  clear ha hb hva hvb
  obtain ⟨i0, hi0, hz0, hz1, hz2⟩ := info_parts info_u64
  go_enter Tryz.func142, Tryz.ntmps142
  go_wp2_with fail
  refine H1.out.mono ?_
  rintro e w1 ⟨A1, c1, rfl, hc1, h1, hb1⟩
  have HN1 := Lib.hid h1
  have HB1 := Lib.hid hb1
  clear h1 hb1 H1
  go_wp2_with fail
  refine (HS2.out w1 HB1.out).mono ?_
  rintro e w2 ⟨A2, c2, rfl, hc2, h2, hb2⟩
  have HA := Lib.hid (HN1.out.below hb2)
  have HBB := Lib.hid h2
  have HB2 := Lib.hid (HB1.out.trans (hb2.mono HB1.out.size))
  clear h2 hb2 HN1 HS2 HB1 HB
  go_wp2_with fail
  go_loopw [7, 8, 9] (fun v cr i wr => ∃ (k r : Nat) (zs : List Nat), k ≤ 3200001 ∧ k ≤ max (dig a).length (dig b).length + 1 ∧ r ≤ 1 ∧ i = .int .i64 k ∧ cr = .int .i64 r ∧ zs.length = k ∧ Digs zs ∧ Hid (val zs + 256 ^ k * r = val ((dig a).take k) + val ((dig b).take k)) ∧
      wr.ownsRow w2.heap.size 3 1 v k (zs.map dcell) ∧ Below w2.heap.size w2 wr ∧ (max (dig a).length (dig b).length < k → r = 0)) (fun _ cr i _ => max (dig a).length (dig b).length + 1 - (intOf i).toNat)
  case atStart => exact ⟨0, 0, [], by omega, by omega, Nat.zero_le _, rfl, rfl, rfl, Digs.nil, by show _ = _; simp [val_nil], World.ownsRow_nil _ _ _ _, Below.refl _ _, fun _ => rfl⟩
  case round =>
    obtain ⟨k, r, zs, hk, hk2, hr, rfl, rfl, hzl, hzd, hv, hown, hbel, hover⟩ := hrel
    by_cases ha1 : k < (dig a).length
    · have ha1' : (k : Int) < ((dig a).length : Int) := by omega
      have da1 : decide ((k : Int) < ((dig a).length : Int)) = true := decide_eq_true ha1'
      by_cases hbb : k < (dig b).length
      · have hbb' : (k : Int) < ((dig b).length : Int) := by omega
        obtain ⟨b1, o1, rfl, hb1, hcell⟩ := HA.out.at_ (by omega)
        have hx := (hbel.cell (p := ⟨b1, o1 + k, none⟩) hb1).trans (hcell k ha1)
        have hxd := dg_lt (dig_digs a) k
        obtain ⟨b2, o2, rfl, hb2, hcell2⟩ := HBB.out.at_ (by omega)
        have hy := (hbel.cell (p := ⟨b2, o2 + k, none⟩) hb2).trans (hcell2 k hbb)
        have hyd := dg_lt (dig_digs b) k
        have hva := val_take_dg (dig a) k
        have hvb := val_take_dg (dig b) k
        obtain ⟨x, hxe⟩ : ∃ x, dg (dig a) k = x := ⟨_, rfl⟩
        rewrite [hxe] at hx hxd hva
        rw [B64_eq] at hxd
        obtain ⟨y, hye⟩ : ∃ y, dg (dig b) k = y := ⟨_, rfl⟩
        rewrite [hye] at hy hyd hvb
        rw [B64_eq] at hyd
        obtain ⟨s, hs⟩ : ∃ s : Nat, r + x + y = s := ⟨_, rfl⟩
        obtain ⟨s1, hs1⟩ : ∃ s1 : Nat, r + x = s1 := ⟨_, rfl⟩
        have ww1 : IntKind.i64.wrap ((r : Int) + (x : Int)) = (s1 : Int) := by
          have h := IntWalk.i64_in ((r : Int) + (x : Int)) (by omega)
          rw [h]; omega
        have ww2 : IntKind.i64.wrap ((s1 : Int) + (y : Int)) = (s : Int) := by
          have h := IntWalk.i64_in ((s1 : Int) + (y : Int)) (by omega)
          rw [h]; omega
        have hs512 : s ≤ 511 := by omega
        have HV2 : Hid (val (zs ++ [s % 256]) + 256 ^ (k + 1) * (s / 256) = val ((dig a).take (k + 1)) + val ((dig b).take (k + 1))) := by
          show _ = _
          rw [hva, hvb, val_snoc, hzl, Nat.pow_succ, B64_eq]
          have h := add_digit (x := x) (y := y) hv.out (show s = r + x + y by omega)
          omega
        have HZD2 : Hid (Digs (zs ++ [s % 256])) := hzd.snoc (by rw [B64_eq]; exact Nat.mod_lt _ (by omega))
        have HZL2 : Hid ((zs ++ [s % 256]).length = k + 1) := by show _ = _; simp [hzl]
        have HR2 : Hid (s / 256 ≤ 1) := by show _ ≤ _; omega
        have HOV2 : Hid (max (dig a).length (dig b).length < k + 1 → s / 256 = 0) := by
          intro h
          omega
        have HSTEP : Hid (zs.map dcell ++ [.int .i64 ((s : Int) % 256)] = (zs ++ [s % 256]).map dcell) := by
          show _ = _
          rw [List.map_append]
          rfl
        have hk3 : k + 1 ≤ 3200001 ∧ k + 1 ≤ max (dig a).length (dig b).length + 1 := by omega
        have HK3 := Lib.hid hk3
        have hsz := Nat.le_refl w2.heap.size
        have hsz2 := hbel.size
        have HOWN := Lib.hid hown
        have HBEL := Lib.hid hbel
        clear hown hbel hzl hzd hv hover hva hvb hcell hxe hxd hcell2 hye hyd hs1
        have hrr := Lib.hid hr
        clear hr hs hk3 hk2
        go_wp2_with ((at_builtin; refine wpList_append_own _ rfl (.tmp 52) (.tmp 55) 68 rfl w2.heap.size 3 i0 (.int .i64 0) 1 8 under_u64s hi0 hz0 hz1 hz2 rfl (by decide) _ _ _ rfl (HOWN.out.alloc _) ⟨wr.heap.size, 0, none⟩ 1 1 [.int .i64 ((s : Int) % 256)] rfl rfl (app_cell _ _ _) (app_one _ _) (by unfold maxLen; omega) (by omega) (by simp; omega) ?_); intro v' w3 hown' hgrow hnil)
        have HOWN' := Lib.hid hown'
        rw [HSTEP.out] at HOWN'
        have HBEL' := Lib.hid (below_app HBEL.out hsz2 hsz HOWN.out hgrow)
        clear hown' hgrow hnil
        go_wp2_with fail
        go_roundw
        case rel => exact ⟨k + 1, s / 256, zs ++ [s % 256], HK3.out.1, HK3.out.2, HR2.out, by go_num, by go_num, HZL2.out, HZD2.out, HV2.out, HOWN'.out, HBEL'.out, HOV2.out⟩
        case measure =>
          have h3 := HK3.out
          simp [intOf]; omega
      · have hbb' : ¬ (k : Int) < ((dig b).length : Int) := by omega
        obtain ⟨b1, o1, rfl, hb1, hcell⟩ := HA.out.at_ (by omega)
        have hx := (hbel.cell (p := ⟨b1, o1 + k, none⟩) hb1).trans (hcell k ha1)
        have hxd := dg_lt (dig_digs a) k
        have hva := val_take_dg (dig a) k
        have hvb := val_take_dg (dig b) k
        obtain ⟨x, hxe⟩ : ∃ x, dg (dig a) k = x := ⟨_, rfl⟩
        rewrite [hxe] at hx hxd hva
        rw [B64_eq] at hxd
        rewrite [dg_of_ge (xs := dig b) (by omega)] at hvb
        obtain ⟨s, hs⟩ : ∃ s : Nat, r + x = s := ⟨_, rfl⟩
        have ww1 : IntKind.i64.wrap ((r : Int) + (x : Int)) = (s : Int) := by
          have h := IntWalk.i64_in ((r : Int) + (x : Int)) (by omega)
          rw [h]; omega
        have hs512 : s ≤ 511 := by omega
        have HV2 : Hid (val (zs ++ [s % 256]) + 256 ^ (k + 1) * (s / 256) = val ((dig a).take (k + 1)) + val ((dig b).take (k + 1))) := by
          show _ = _
          rw [hva, hvb, val_snoc, hzl, Nat.pow_succ, B64_eq]
          have h := add_digit (x := x) (y := 0) hv.out (show s = r + x + 0 by omega)
          omega
        have HZD2 : Hid (Digs (zs ++ [s % 256])) := hzd.snoc (by rw [B64_eq]; exact Nat.mod_lt _ (by omega))
        have HZL2 : Hid ((zs ++ [s % 256]).length = k + 1) := by show _ = _; simp [hzl]
        have HR2 : Hid (s / 256 ≤ 1) := by show _ ≤ _; omega
        have HOV2 : Hid (max (dig a).length (dig b).length < k + 1 → s / 256 = 0) := by
          intro h
          omega
        have HSTEP : Hid (zs.map dcell ++ [.int .i64 ((s : Int) % 256)] = (zs ++ [s % 256]).map dcell) := by
          show _ = _
          rw [List.map_append]
          rfl
        have hk3 : k + 1 ≤ 3200001 ∧ k + 1 ≤ max (dig a).length (dig b).length + 1 := by omega
        have HK3 := Lib.hid hk3
        have hsz := Nat.le_refl w2.heap.size
        have hsz2 := hbel.size
        have HOWN := Lib.hid hown
        have HBEL := Lib.hid hbel
        clear hown hbel hzl hzd hv hover hva hvb hcell hxe hxd
        have hrr := Lib.hid hr
        clear hr hs hk3 hk2
        go_wp2_with ((at_builtin; refine wpList_append_own _ rfl (.tmp 52) (.tmp 55) 68 rfl w2.heap.size 3 i0 (.int .i64 0) 1 8 under_u64s hi0 hz0 hz1 hz2 rfl (by decide) _ _ _ rfl (HOWN.out.alloc _) ⟨wr.heap.size, 0, none⟩ 1 1 [.int .i64 ((s : Int) % 256)] rfl rfl (app_cell _ _ _) (app_one _ _) (by unfold maxLen; omega) (by omega) (by simp; omega) ?_); intro v' w3 hown' hgrow hnil)
        have HOWN' := Lib.hid hown'
        rw [HSTEP.out] at HOWN'
        have HBEL' := Lib.hid (below_app HBEL.out hsz2 hsz HOWN.out hgrow)
        clear hown' hgrow hnil
        go_wp2_with fail
        go_roundw
        case rel => exact ⟨k + 1, s / 256, zs ++ [s % 256], HK3.out.1, HK3.out.2, HR2.out, by go_num, by go_num, HZL2.out, HZD2.out, HV2.out, HOWN'.out, HBEL'.out, HOV2.out⟩
        case measure =>
          have h3 := HK3.out
          simp [intOf]; omega
    · have ha1' : ¬ (k : Int) < ((dig a).length : Int) := by omega
      have da1 : decide ((k : Int) < ((dig a).length : Int)) = false := decide_eq_false ha1'
      by_cases hbb : k < (dig b).length
      · have hbb' : (k : Int) < ((dig b).length : Int) := by omega
        have db1 : decide ((k : Int) < ((dig b).length : Int)) = true := decide_eq_true hbb'
        obtain ⟨b2, o2, rfl, hb2, hcell2⟩ := HBB.out.at_ (by omega)
        have hy := (hbel.cell (p := ⟨b2, o2 + k, none⟩) hb2).trans (hcell2 k hbb)
        have hyd := dg_lt (dig_digs b) k
        have hva := val_take_dg (dig a) k
        have hvb := val_take_dg (dig b) k
        rewrite [dg_of_ge (xs := dig a) (by omega)] at hva
        obtain ⟨y, hye⟩ : ∃ y, dg (dig b) k = y := ⟨_, rfl⟩
        rewrite [hye] at hy hyd hvb
        rw [B64_eq] at hyd
        obtain ⟨s, hs⟩ : ∃ s : Nat, r + y = s := ⟨_, rfl⟩
        have ww1 : IntKind.i64.wrap ((r : Int) + (y : Int)) = (s : Int) := by
          have h := IntWalk.i64_in ((r : Int) + (y : Int)) (by omega)
          rw [h]; omega
        have hs512 : s ≤ 511 := by omega
        have HV2 : Hid (val (zs ++ [s % 256]) + 256 ^ (k + 1) * (s / 256) = val ((dig a).take (k + 1)) + val ((dig b).take (k + 1))) := by
          show _ = _
          rw [hva, hvb, val_snoc, hzl, Nat.pow_succ, B64_eq]
          have h := add_digit (x := 0) (y := y) hv.out (show s = r + 0 + y by omega)
          omega
        have HZD2 : Hid (Digs (zs ++ [s % 256])) := hzd.snoc (by rw [B64_eq]; exact Nat.mod_lt _ (by omega))
        have HZL2 : Hid ((zs ++ [s % 256]).length = k + 1) := by show _ = _; simp [hzl]
        have HR2 : Hid (s / 256 ≤ 1) := by show _ ≤ _; omega
        have HOV2 : Hid (max (dig a).length (dig b).length < k + 1 → s / 256 = 0) := by
          intro h
          omega
        have HSTEP : Hid (zs.map dcell ++ [.int .i64 ((s : Int) % 256)] = (zs ++ [s % 256]).map dcell) := by
          show _ = _
          rw [List.map_append]
          rfl
        have hk3 : k + 1 ≤ 3200001 ∧ k + 1 ≤ max (dig a).length (dig b).length + 1 := by omega
        have HK3 := Lib.hid hk3
        have hsz := Nat.le_refl w2.heap.size
        have hsz2 := hbel.size
        have HOWN := Lib.hid hown
        have HBEL := Lib.hid hbel
        clear hown hbel hzl hzd hv hover hva hvb hcell2 hye hyd
        have hrr := Lib.hid hr
        clear hr hs hk3 hk2
        go_wp2_with ((at_builtin; refine wpList_append_own _ rfl (.tmp 52) (.tmp 55) 68 rfl w2.heap.size 3 i0 (.int .i64 0) 1 8 under_u64s hi0 hz0 hz1 hz2 rfl (by decide) _ _ _ rfl (HOWN.out.alloc _) ⟨wr.heap.size, 0, none⟩ 1 1 [.int .i64 ((s : Int) % 256)] rfl rfl (app_cell _ _ _) (app_one _ _) (by unfold maxLen; omega) (by omega) (by simp; omega) ?_); intro v' w3 hown' hgrow hnil)
        have HOWN' := Lib.hid hown'
        rw [HSTEP.out] at HOWN'
        have HBEL' := Lib.hid (below_app HBEL.out hsz2 hsz HOWN.out hgrow)
        clear hown' hgrow hnil
        go_wp2_with fail
        go_roundw
        case rel => exact ⟨k + 1, s / 256, zs ++ [s % 256], HK3.out.1, HK3.out.2, HR2.out, by go_num, by go_num, HZL2.out, HZD2.out, HV2.out, HOWN'.out, HBEL'.out, HOV2.out⟩
        case measure =>
          have h3 := HK3.out
          simp [intOf]; omega
      · have hbb' : ¬ (k : Int) < ((dig b).length : Int) := by omega
        have db1 : decide ((k : Int) < ((dig b).length : Int)) = false := decide_eq_false hbb'
        by_cases hr0 : 0 < r
        · have hr0' : (0 : Int) < (r : Int) := by omega
          have dr1 : decide ((0 : Int) < (r : Int)) = true := decide_eq_true hr0'
          have hva := val_take_dg (dig a) k
          have hvb := val_take_dg (dig b) k
          rewrite [dg_of_ge (xs := dig a) (by omega)] at hva
          rewrite [dg_of_ge (xs := dig b) (by omega)] at hvb
          obtain ⟨s, hs⟩ : ∃ s : Nat, r = s := ⟨_, rfl⟩
          have hs512 : s ≤ 511 := by omega
          have HV2 : Hid (val (zs ++ [s % 256]) + 256 ^ (k + 1) * (s / 256) = val ((dig a).take (k + 1)) + val ((dig b).take (k + 1))) := by
            show _ = _
            rw [hva, hvb, val_snoc, hzl, Nat.pow_succ, B64_eq]
            have h := add_digit (x := 0) (y := 0) hv.out (show s = r + 0 + 0 by omega)
            omega
          have HZD2 : Hid (Digs (zs ++ [s % 256])) := hzd.snoc (by rw [B64_eq]; exact Nat.mod_lt _ (by omega))
          have HZL2 : Hid ((zs ++ [s % 256]).length = k + 1) := by show _ = _; simp [hzl]
          have HR2 : Hid (s / 256 ≤ 1) := by show _ ≤ _; omega
          have HOV2 : Hid (max (dig a).length (dig b).length < k + 1 → s / 256 = 0) := by
            intro h
            omega
          have HSTEP : Hid (zs.map dcell ++ [.int .i64 ((s : Int) % 256)] = (zs ++ [s % 256]).map dcell) := by
            show _ = _
            rw [List.map_append]
            rfl
          have hk3 : k + 1 ≤ 3200001 ∧ k + 1 ≤ max (dig a).length (dig b).length + 1 := by omega
          have HK3 := Lib.hid hk3
          have hsz := Nat.le_refl w2.heap.size
          have hsz2 := hbel.size
          have HOWN := Lib.hid hown
          have HBEL := Lib.hid hbel
          clear hown hbel hzl hzd hv hover hva hvb 
          subst hs
          clear hk3 hk2
          go_wp2_with ((at_builtin; refine wpList_append_own _ rfl (.tmp 52) (.tmp 55) 68 rfl w2.heap.size 3 i0 (.int .i64 0) 1 8 under_u64s hi0 hz0 hz1 hz2 rfl (by decide) _ _ _ rfl (HOWN.out.alloc _) ⟨wr.heap.size, 0, none⟩ 1 1 [.int .i64 ((r : Int) % 256)] rfl rfl (app_cell _ _ _) (app_one _ _) (by unfold maxLen; omega) (by omega) (by simp; omega) ?_); intro v' w3 hown' hgrow hnil)
          have HOWN' := Lib.hid hown'
          rw [HSTEP.out] at HOWN'
          have HBEL' := Lib.hid (below_app HBEL.out hsz2 hsz HOWN.out hgrow)
          clear hown' hgrow hnil
          go_wp2_with fail
          go_roundw
          case rel => exact ⟨k + 1, r / 256, zs ++ [r % 256], HK3.out.1, HK3.out.2, HR2.out, by go_num, by go_num, HZL2.out, HZD2.out, HV2.out, HOWN'.out, HBEL'.out, HOV2.out⟩
          case measure =>
            have h3 := HK3.out
            simp [intOf]; omega
        · have hr0' : ¬ (0 : Int) < (r : Int) := by omega
          have dr1 : decide ((0 : Int) < (r : Int)) = false := decide_eq_false hr0'
          have hval := add_stop ha1 hbb (by omega) hv.out
          have hzl' : zs.length ≤ 16000000 := by omega
          obtain ⟨A3, c3, rfl, hc3, hnum⟩ := num_of_own hzd hown
          have hT := large_any wr A3 c3 zs hnum (by omega) hc3
          rw [hval] at hT
          have HT := Lib.hid hT
          have HBEL := Lib.hid (HB2.out.trans (hbel.mono HB2.out.size))
          clear hown hbel hnum hval hv hzl' hT hzl hover
          go_wp2_with fail
          refine HT.out.mono ?_
          rintro e w4 ⟨A4, c4, rfl, hc4, ha4, hb4⟩
          have HA4 := Lib.hid ha4
          have HB4 := Lib.hid (HBEL.out.trans (hb4.mono HBEL.out.size))
          clear ha4 hb4
          go_wp2_with fail
          go_ret
          exact ⟨A4, c4, rfl, hc4, HA4.out, HB4.out⟩
end Go.Proofs.YtmbnlhedbedcdaaGreat.E

/- The document's answer: twice, and a bit. -/
namespace Go.Proofs.YtmbnlhedbedcdaaGreat.E
open Go.RowKit

theorem twice_digit {va vz p x r s t : Nat} (hv : vz + p * r = 2 * va + t) (hs : s = 2 * x + r) : vz + p * (s % 256) + p * 256 * (s / 256) = 2 * (va + p * x) + t := by
  have e : s % 256 + 256 * (s / 256) = s := Nat.mod_add_div s 256
  have e2 : p * (s % 256) + p * 256 * (s / 256) = p * s := by rw [Nat.mul_assoc, ← Nat.mul_add, e]
  rw [hs, Nat.mul_add, Nat.mul_left_comm] at e2
  rw [hs] at *
  omega

set_option maxRecDepth 100000 in
set_option maxHeartbeats 4000000 in
theorem twice_any (w : World) (A : Option Addr) (c a t : Nat) (ha : Num w A (dig a)) (ht : t ≤ 1) (hn : (dig a).length ≤ 16000000) :
    Calls Tryz.prog 181 #[.slice A (dig a).length c, .int .i64 t] w (RetN w (2 * a + t)) := by
  have HA := Lib.hid ha
  have HTT := Lib.hid ht
  clear ha ht
  obtain ⟨i0, hi0, hz0, hz1, hz2⟩ := info_parts info_u64
  go_enter Tryz.func181, Tryz.ntmps181
  go_wp2_with fail
  go_loopw [1, 5, 6] (fun bv v i wr => ∃ (k r : Nat) (zs : List Nat), k ≤ (dig a).length ∧ r ≤ 1 ∧ i = .int .i64 k ∧ bv = .int .i64 r ∧ zs.length = k ∧ Digs zs ∧ Hid (val zs + 256 ^ k * r = 2 * val ((dig a).take k) + t) ∧
      wr.ownsRow w.heap.size 3 1 v k (zs.map dcell) ∧ Below w.heap.size w wr) (fun _ _ i _ => (dig a).length - (intOf i).toNat)
  case atStart => exact ⟨0, t, [], Nat.zero_le _, HTT.out, rfl, rfl, rfl, Digs.nil, by show _ = _; simp [val_nil], World.ownsRow_nil _ _ _ _, Below.refl _ _⟩
  case round =>
    obtain ⟨k, r, zs, hk, hr, rfl, rfl, hzl, hzd, hv, hown, hbel⟩ := hrel
    by_cases hlt : k < (dig a).length
    · have hlt' : (k : Int) < ((dig a).length : Int) := by omega
      obtain ⟨b1, o1, rfl, hb1, hcell⟩ := HA.out.at_ (by omega)
      have hx := (hbel.cell (p := ⟨b1, o1 + k, none⟩) hb1).trans (hcell k hlt)
      have hxd := dg_lt (dig_digs a) k
      have hva := val_take_dg (dig a) k
      obtain ⟨x, hxe⟩ : ∃ x, dg (dig a) k = x := ⟨_, rfl⟩
      rewrite [hxe] at hx hxd hva
      rw [B64_eq] at hxd
      obtain ⟨s, hs⟩ : ∃ s : Nat, 2 * x + r = s := ⟨_, rfl⟩
      obtain ⟨s1, hs1⟩ : ∃ s1 : Nat, 2 * x = s1 := ⟨_, rfl⟩
      have ww1 : IntKind.i64.wrap (2 * (x : Int)) = (s1 : Int) := by
        have h := IntWalk.i64_in (2 * (x : Int)) (by omega)
        rw [h]; omega
      have ww2 : IntKind.i64.wrap ((s1 : Int) + (r : Int)) = (s : Int) := by
        have h := IntWalk.i64_in ((s1 : Int) + (r : Int)) (by omega)
        rw [h]; omega
      have hs512 : s ≤ 511 := by omega
      have HV2 : Hid (val (zs ++ [s % 256]) + 256 ^ (k + 1) * (s / 256) = 2 * val ((dig a).take (k + 1)) + t) := by
        show _ = _
        rw [hva, val_snoc, hzl, Nat.pow_succ, B64_eq]
        exact twice_digit (x := x) hv.out hs.symm
      have HZD2 : Hid (Digs (zs ++ [s % 256])) := hzd.snoc (by rw [B64_eq]; exact Nat.mod_lt _ (by omega))
      have HZL2 : Hid ((zs ++ [s % 256]).length = k + 1) := by show _ = _; simp [hzl]
      have HR2 : Hid (s / 256 ≤ 1) := by show _ ≤ _; omega
      have HSTEP : Hid (zs.map dcell ++ [.int .i64 ((s : Int) % 256)] = (zs ++ [s % 256]).map dcell) := by
        show _ = _
        rw [List.map_append]
        rfl
      have hsz := hbel.size
      have HOWN := Lib.hid hown
      have HBEL := Lib.hid hbel
      have hrr := Lib.hid hr
      clear hown hbel hzl hzd hv hva hcell hxe hxd hs hs1 hr
      go_wp2_with ((at_builtin; refine wpList_append_own _ rfl (.tmp 21) (.tmp 24) 68 rfl w.heap.size 3 i0 (.int .i64 0) 1 8 under_u64s hi0 hz0 hz1 hz2 rfl (by decide) _ _ _ rfl (HOWN.out.alloc _) ⟨wr.heap.size, 0, none⟩ 1 1 [.int .i64 ((s : Int) % 256)] rfl rfl (app_cell _ _ _) (app_one _ _) (by unfold maxLen; omega) (by omega) (by simp; omega) ?_); intro v' w3 hown' hgrow hnil)
      have HOWN' := Lib.hid hown'
      rw [HSTEP.out] at HOWN'
      have HBEL' := Lib.hid (below_app HBEL.out hsz (Nat.le_refl _) HOWN.out hgrow)
      clear hown' hgrow hnil
      go_wp2_with fail
      go_roundw
      case rel => exact ⟨k + 1, s / 256, zs ++ [s % 256], by omega, HR2.out, by go_num, by go_num, HZL2.out, HZD2.out, HV2.out, HOWN'.out, HBEL'.out⟩
      case measure => simp [intOf]; omega
    · have hlt' : ¬ (k : Int) < ((dig a).length : Int) := by omega
      have hval : Hid (val (zs ++ [r]) = 2 * a + t) := by
        show _ = _
        have h := hv.out
        rw [List.take_of_length_le (by omega), val_dig] at h
        rw [val_snoc, hzl, B64_eq]; exact h
      have HZD2 : Hid (Digs (zs ++ [r])) := hzd.snoc (by rw [B64_eq]; omega)
      have hzl2 : Hid ((zs ++ [r]).length ≤ 16000001) := by show _ ≤ _; simp [hzl]; omega
      have HSTEP : Hid (zs.map dcell ++ [.int .i64 (r : Int)] = (zs ++ [r]).map dcell) := by
        show _ = _
        rw [List.map_append]
        rfl
      have hsz := hbel.size
      have HOWN := Lib.hid hown
      have HBEL := Lib.hid hbel
      clear hown hbel hzl hzd hv
      go_wp2_with ((at_builtin; refine wpList_append_own _ rfl (.tmp 28) (.tmp 30) 68 rfl w.heap.size 3 i0 (.int .i64 0) 1 8 under_u64s hi0 hz0 hz1 hz2 rfl (by decide) _ _ _ rfl (HOWN.out.alloc _) ⟨wr.heap.size, 0, none⟩ 1 1 [.int .i64 (r : Int)] rfl rfl (app_cell _ _ _) (app_one _ _) (by unfold maxLen; omega) (by omega) (by simp; omega) ?_); intro v' w3 hown' hgrow hnil)
      rw [HSTEP.out] at hown'
      obtain ⟨A3, c3, rfl, hc3, hnum⟩ := num_of_own HZD2.out hown'
      have hT := trim_any w3 A3 c3 (zs ++ [r]) hnum (by have := hzl2.out; omega) hc3
      rw [hval.out] at hT
      have HT := Lib.hid hT
      have HBEL' := Lib.hid (below_app HBEL.out hsz (Nat.le_refl _) HOWN.out hgrow)
      clear hown' hgrow hnil hnum hT
      refine HT.out.mono ?_
      rintro e w4 ⟨A4, c4, rfl, hc4, ha4, rfl⟩
      have HA4 := Lib.hid ha4
      clear ha4
      go_wp2_with fail
      go_ret
      exact ⟨A4, c4, rfl, hc4, HA4.out, HBEL'.out⟩
end Go.Proofs.YtmbnlhedbedcdaaGreat.E

/- The document's answer: Bits. -/
namespace Go.Proofs.YtmbnlhedbedcdaaGreat.E
open Go.RowKit

theorem blen_pos8 {m : Nat} (h : m ≠ 0) : 0 < blen m := by unfold blen; rw [if_neg h]; omega
theorem blen_half {d : Nat} (h : d ≠ 0) : blen d = blen (d / 2) + 1 := by
  unfold blen
  rw [if_neg h]
  by_cases h2 : d / 2 = 0
  · rw [if_pos h2]
    have h3 : d = 1 := by omega
    rw [h3]; decide
  · rw [if_neg h2]
    have h3 : 2 ≤ d := by omega
    rw [Nat.log2_def, if_pos h3]
theorem blen_scale (m k : Nat) (h : m ≠ 0) : blen (m * 2 ^ k) = blen m + k := by
  induction k with
  | zero => simp
  | succ k ih =>
    have hp : m * 2 ^ (k + 1) ≠ 0 := Nat.mul_ne_zero h (Nat.pos_iff_ne_zero.1 (Nat.pow_pos (by omega)))
    rw [blen_half hp, show m * 2 ^ (k + 1) / 2 = m * 2 ^ k by rw [Nat.pow_succ, ← Nat.mul_assoc]; exact Nat.mul_div_cancel _ (by omega), ih]
    omega
theorem blen_mono_lt {n k : Nat} (h : 2 ^ k ≤ n) : k < blen n := by
  rcases Nat.lt_or_ge k (blen n) with h1 | h1
  · exact h1
  · have h2 := blen_lt n
    have h3 : 2 ^ blen n ≤ 2 ^ k := Nat.pow_le_pow_right (by omega) h1
    omega
theorem pow256_2 (k : Nat) : 256 ^ k = 2 ^ (8 * k) := by rw [Nat.pow_mul]
/-- A number's length in bits: that of its highest digit, and 8 for each below. -/
theorem blen_top8 {a : Nat} (h : (dig a).length ≠ 0) : blen a = ((dig a).length - 1) * 8 + blen (dg (dig a) ((dig a).length - 1)) := by
  obtain ⟨l, hl⟩ : ∃ l, (dig a).length = l + 1 := ⟨(dig a).length - 1, by omega⟩
  have htop : dg (dig a) l ≠ 0 := by
    intro h0
    have h1 := dig_top a
    rw [List.getLast?_eq_getElem?, List.getElem?_eq_getElem (by omega)] at h1
    rw [dg_of_lt (by omega)] at h0
    simp only [hl, Nat.add_sub_cancel] at h1
    exact h1 (by rw [h0])
  have hv := val_take_dg (dig a) l
  rw [List.take_of_length_le (by omega), val_dig, B64_eq] at hv
  have hlo := val_lt ((dig_digs a).take l)
  rw [List.length_take, Nat.min_eq_left (by omega), B64_eq] at hlo
  rw [hl, Nat.add_sub_cancel]
  obtain ⟨d, hd⟩ : ∃ d, dg (dig a) l = d := ⟨_, rfl⟩
  rw [hd] at htop hv ⊢
  have hd1 := blen_lt d
  have hd2 : 2 ^ (blen d - 1) ≤ d := blen_le (by have := blen_pos8 htop; omega)
  have hbp := blen_pos8 htop
  rw [pow256_2] at hv hlo
  have e1 : 2 ^ (8 * l) * d < 2 ^ (8 * l) * 2 ^ blen d := Nat.mul_lt_mul_of_pos_left hd1 (Nat.pow_pos (by omega))
  have hub : a < 2 ^ (l * 8 + blen d) := by
    rw [Nat.pow_add, Nat.mul_comm l 8]
    have e3 : 2 ^ (8 * l) * (d + 1) ≤ 2 ^ (8 * l) * 2 ^ blen d := Nat.mul_le_mul_left _ hd1
    rw [Nat.mul_add, Nat.mul_one] at e3
    omega
  have hlb : 2 ^ (l * 8 + blen d - 1) ≤ a := by
    rw [show l * 8 + blen d - 1 = 8 * l + (blen d - 1) by omega, Nat.pow_add]
    have e4 := Nat.mul_le_mul_left (2 ^ (8 * l)) hd2
    omega
  have h1 := blen_mono_lt hlb
  have h2 := blen_le_of_lt hub
  omega

set_option maxHeartbeats 2000000 in
theorem Bits_any (w : World) (A : Option Addr) (c : Nat) (xs : List Nat) (ha : Go.Proofs.YtmbnlhedbedcdaaGreat.Num w A xs) (hn : xs.length ≤ 1000000) :
    Calls Tryz.prog 162 #[.slice A xs.length c] w (Go.Proofs.YtmbnlhedbedcdaaGreat.RetI w ((blen (Go.Proofs.YtmbnlhedbedcdaaGreat.val xs) : Nat) : Int)) := by
  have hl1 := dl_small ha.1
  have H1 := Lib.hid (small_any w A c xs ha (by omega))
  obtain ⟨a, hva⟩ : ∃ a, Go.Proofs.YtmbnlhedbedcdaaGreat.val xs = a := ⟨_, rfl⟩
  rw [hva] at hl1 H1
  rw [hva]
  clear ha hva
  by_cases h0 : (dig a).length = 0
  · have hz : (((dig a).length : Int) == 0) = true := by rw [h0]; rfl
    have HA0 : Hid (blen a = 0) := by show _ = _; rw [dig_nil_iff.1 h0]; exact Go.Proofs.YtmbnlhedbedcdaaGreat.blen_zero
    clear h0
    go_enter Tryz.func162, Tryz.ntmps162
    go_wp2_with fail
    refine H1.out.mono ?_
    rintro e w1 ⟨A1, c1, rfl, hc1, h1, hb1⟩
    have HB1 := Lib.hid hb1
    clear h1 hb1
    go_wp2_with fail
    go_ret
    rw [HA0.out]
    exact ⟨rfl, HB1.out⟩
  · have hz : (((dig a).length : Int) == 0) = false := by rw [beq_eq_false_iff_ne]; omega
    have HTOP := Lib.hid (blen_top8 h0)
    go_enter Tryz.func162, Tryz.ntmps162
    go_wp2_with fail
    refine H1.out.mono ?_
    rintro e w1 ⟨A1, c1, rfl, hc1, h1, hb1⟩
    have HB1 := Lib.hid hb1
    obtain ⟨b1, o1, rfl, hb1', hcell⟩ := h1.at_ (by omega)
    have hx := hcell ((dig a).length - 1) (by omega)
    have hxd := dg_lt (dig_digs a) ((dig a).length - 1)
    obtain ⟨x, hxe⟩ : ∃ x, dg (dig a) ((dig a).length - 1) = x := ⟨_, rfl⟩
    obtain ⟨l, hl⟩ : ∃ l, (dig a).length - 1 = l := ⟨_, rfl⟩
    rw [hxe] at hx hxd HTOP
    rw [hl] at hx HTOP
    have hll : (dig a).length = l + 1 := by omega
    have ww1 : IntKind.i64.wrap (((dig a).length : Int) - 1) = (l : Int) := by
      have h := IntWalk.i64_in (((dig a).length : Int) - 1) (by omega)
      rw [h]; omega
    have hlt : (l : Int) < ((dig a).length : Int) := by omega
    have hl8 : l ≤ 8000000 := by omega
    rw [B64_eq] at hxd
    clear h1 hb1 hcell hxe hl hll h0 hl1
    go_wp2_with fail
    go_loop [4, 5] (fun n d => ∃ m e : Nat, n = .int .i64 m ∧ d = .int .i64 e ∧ e < 256 ∧ m + blen e ≤ 64000300 ∧ Hid (m + blen e = blen a)) (fun _ d => (intOf d).toNat)
    case atStart =>
      have hbx : blen x ≤ 8 := blen_le_of_lt (by omega)
      exact ⟨8 * l, x, by go_num, rfl, hxd, by omega, by show _ = _; rw [HTOP.out]; omega⟩
    case round =>
      obtain ⟨m, e, rfl, rfl, he, hm, hv⟩ := hrel
      by_cases he0 : e = 0
      · subst he0
        have HM : Hid (blen a = m) := by show _ = _; rw [← hv.out, Go.Proofs.YtmbnlhedbedcdaaGreat.blen_zero]; rfl
        clear hv
        go_wp2_with fail
        go_ret
        rw [HM.out]
        exact ⟨rfl, HB1.out⟩
      · have hbe := blen_half he0
        have t1 : (0 : Int) < (e : Int) := by omega
        have hm1 : m < 64000300 := by omega
        have HV2 : Hid ((m + 1) + blen (e / 2) = blen a) := by show _ = _; rw [← hv.out]; omega
        have HM2 : Hid ((m + 1) + blen (e / 2) ≤ 64000300) := by show _ ≤ _; omega
        clear hbe hv hm
        go_wp2_with fail
        go_round
        case rel => exact ⟨m + 1, e / 2, by go_num, by go_num, by omega, HM2.out, HV2.out⟩
        case measure => simp [intOf]; omega
end Go.Proofs.YtmbnlhedbedcdaaGreat.E

/- The document's answer: Shr. -/
namespace Go.Proofs.YtmbnlhedbedcdaaGreat.E
open Go.RowKit

/-- A digit of what is shifted down: of two digits of the number. -/
theorem shr_digit (x y r s : Nat) (hs : s < 8) : (x + 256 * y + 65536 * r) / 2 ^ s % 256 = (x + 256 * y) / 2 ^ s % 256 := by
  have h : s = 0 ∨ s = 1 ∨ s = 2 ∨ s = 3 ∨ s = 4 ∨ s = 5 ∨ s = 6 ∨ s = 7 := by omega
  rcases h with h | h | h | h | h | h | h | h <;> subst h <;> simp only [Nat.pow_zero, Nat.reducePow] <;> omega
theorem val_drop_dg (xs : List Nat) (k : Nat) : val (xs.drop k) = dg xs k + 256 * val (xs.drop (k + 1)) := by
  by_cases h : k < xs.length
  · rw [drop_pred h, val_cons, B64_eq]
  · rw [List.drop_eq_nil_of_le (by omega), List.drop_eq_nil_of_le (by omega), dg_of_ge (by omega), val_nil]
theorem val_div_pow {xs : List Nat} (h : Digs xs) (k : Nat) : val xs / 256 ^ k = val (xs.drop k) := by
  by_cases hk : k ≤ xs.length
  · have h1 := val_take_add xs k
    have h2 := val_lt (h.take k)
    rw [Nat.min_eq_left hk, B64_eq] at h1
    rw [List.length_take, Nat.min_eq_left hk, B64_eq] at h2
    rw [h1, Nat.add_mul_div_left _ _ (Nat.pow_pos (by omega)), Nat.div_eq_of_lt h2, Nat.zero_add]
  · have h2 := val_lt h
    rw [B64_eq] at h2
    have h3 : 256 ^ xs.length ≤ 256 ^ k := Nat.pow_le_pow_right (by omega) (by omega)
    rw [List.drop_eq_nil_of_le (by omega), val_nil]
    exact Nat.div_eq_of_lt (by omega)
/-- One digit more of what is shifted down. -/
theorem shr_step {xs zs : List Nat} (h : Digs xs) {s : Nat} (hs : s < 8) (hv : val zs = val xs / 2 ^ s % 256 ^ zs.length) :
    val (zs ++ [(dg xs zs.length + 256 * dg xs (zs.length + 1)) / 2 ^ s % 256]) = val xs / 2 ^ s % 256 ^ (zs.length + 1) := by
  rw [val_snoc, hv, B64_eq, Nat.pow_succ, Nat.mod_mul]
  congr 2
  have h1 : val xs / 2 ^ s / 256 ^ zs.length = val (xs.drop zs.length) / 2 ^ s := by
    rw [Nat.div_div_eq_div_mul, Nat.mul_comm, ← Nat.div_div_eq_div_mul, val_div_pow h]
  rw [h1, val_drop_dg, val_drop_dg xs (zs.length + 1), Nat.mul_add, ← Nat.mul_assoc, ← Nat.add_assoc, shr_digit _ _ _ _ hs]
theorem shr_end {xs zs : List Nat} (h : Digs xs) {s : Nat} (hl : zs.length = xs.length) (hv : val zs = val xs / 2 ^ s % 256 ^ zs.length) : val zs = val xs / 2 ^ s := by
  have h1 := val_lt h
  rw [B64_eq, ← hl] at h1
  rw [hv]
  exact Nat.mod_eq_of_lt (Nat.lt_of_le_of_lt (Nat.div_le_self _ _) h1)
/-- Whole digits are dropped first. -/
theorem shr_drop (a n : Nat) : val ((dig a).drop (n / 8)) / 2 ^ (n % 8) = a / 2 ^ n := by
  have h := val_div_pow (dig_digs a) (n / 8)
  rw [val_dig] at h
  rw [← h, Nat.div_div_eq_div_mul, pow256_2, ← Nat.pow_add]
  congr 2; omega
theorem shr_all {a n : Nat} (h : 8 * (dig a).length ≤ n) : a / 2 ^ n = 0 := by
  have h1 := val_lt (dig_digs a)
  rw [val_dig, B64_eq, pow256_2] at h1
  exact Nat.div_eq_of_lt (Nat.lt_of_lt_of_le h1 (Nat.pow_le_pow_right (by omega) h))

theorem shr_cast (u s : Nat) : ((u : Int) / 2 ^ s).tmod 256 = ((u / 2 ^ s % 256 : Nat) : Int) := by
  have h : (u : Int) / 2 ^ s = ((u / 2 ^ s : Nat) : Int) := by norm_cast
  rw [h]
  generalize u / 2 ^ s = v
  rw [Int.tmod_eq_emod_of_nonneg (by omega)]
  omega
theorem shr_cast2 (x y s : Nat) : (((x : Int) + 256 * (y : Int)) / 2 ^ s).tmod 256 = (((x + 256 * y) / 2 ^ s % 256 : Nat) : Int) := by
  have h := shr_cast (x + 256 * y) s
  rw [show ((x + 256 * y : Nat) : Int) = (x : Int) + 256 * (y : Int) by omega] at h
  exact h

set_option maxRecDepth 100000 in
set_option maxHeartbeats 4000000 in
theorem Shr_any (w : World) (A : Option Addr) (c : Nat) (xs : List Nat) (n : Int) (ha : Go.Proofs.YtmbnlhedbedcdaaGreat.Num w A xs) (hn : xs.length ≤ 1000000) :
    Calls Tryz.prog 179 #[.slice A xs.length c, .int .i64 n] w (Go.Proofs.YtmbnlhedbedcdaaGreat.RetN w (Go.Proofs.YtmbnlhedbedcdaaGreat.val xs / 2 ^ n.toNat)) := by
  have hl1 := dl_small ha.1
  have H1 := Lib.hid (small_any w A c xs ha (by omega))
  obtain ⟨a, hva⟩ : ∃ a, Go.Proofs.YtmbnlhedbedcdaaGreat.val xs = a := ⟨_, rfl⟩
  rw [hva] at hl1 H1
  rw [hva]
  clear ha hva
  have ww0 : IntKind.i64.wrap (8 * ((dig a).length : Int)) = 8 * ((dig a).length : Int) := IntWalk.i64_in _ (by omega)
  by_cases h0 : 8 * ((dig a).length : Int) ≤ n
  · have HA0 : Hid (a / 2 ^ n.toNat = 0) := by show _ = _; exact shr_all (by omega)
    go_enter Tryz.func179, Tryz.ntmps179
    go_wp2_with fail
    refine H1.out.mono ?_
    rintro e w1 ⟨A1, c1, rfl, hc1, h1, hb1⟩
    have HB1 := Lib.hid hb1
    clear h1 hb1
    go_wp2_with fail
    go_ret
    rw [HA0.out]
    refine ⟨none, 0, ?_, ?_, ?_, HB1.out⟩
    · rw [Go.Proofs.YtmbnlhedbedcdaaGreat.dig_zero]; rfl
    · rw [Go.Proofs.YtmbnlhedbedcdaaGreat.dig_zero]; simp
    · rw [Go.Proofs.YtmbnlhedbedcdaaGreat.dig_zero]; exact Go.Proofs.YtmbnlhedbedcdaaGreat.Num.nil _ _
  · by_cases h1n : n < 1
    · have HA0 : Hid (a / 2 ^ n.toNat = a) := by show _ = _; rw [show n.toNat = 0 by omega]; simp
      go_enter Tryz.func179, Tryz.ntmps179
      go_wp2_with fail
      refine H1.out.mono ?_
      rintro e w1 ⟨A1, c1, rfl, hc1, h1, hb1⟩
      have HB1 := Lib.hid hb1
      have HL := Lib.hid (large_any w1 A1 c1 (dig a) h1 (by omega) hc1)
      clear h1 hb1
      go_wp2_with fail
      rw [val_dig] at HL
      refine HL.out.mono ?_
      rintro e w2 ⟨A2, c2, rfl, hc2, h2, hb2⟩
      have HC2 := Lib.hid hc2
      have HN2 := Lib.hid h2
      have HB2 := Lib.hid (HB1.out.trans (hb2.mono HB1.out.size))
      clear hc2 h2 hb2
      go_wp2_with fail
      go_ret
      rw [HA0.out]
      exact ⟨A2, c2, rfl, HC2.out, HN2.out, HB2.out⟩
    · obtain ⟨m, rfl⟩ : ∃ m : Nat, n = m := ⟨n.toNat, by omega⟩
      rw [Int.toNat_natCast]
      obtain ⟨q, hq⟩ : ∃ q, m / 8 = q := ⟨_, rfl⟩
      obtain ⟨s, hs⟩ : ∃ s, m % 8 = s := ⟨_, rfl⟩
      have hsd := shr_drop a m
      rw [hq, hs] at hsd
      have HSD := Lib.hid hsd
      have hqn : q < (dig a).length := by omega
      go_enter Tryz.func179, Tryz.ntmps179
      go_wp2_with fail
      refine H1.out.mono ?_
      rintro e w1 ⟨A1, c1, rfl, hc1, h1, hb1⟩
      have HB1 := Lib.hid hb1
      have HN1 := Lib.hid h1
      obtain ⟨b1, o1, rfl, hb1', hcell⟩ := h1.at_ (by omega)
      obtain ⟨i0, hi0, hz0, hz1, hz2⟩ := info_parts info_u64
      have hdd : Digs ((dig a).drop (m / 8)) := (dig_digs a).drop _
      have HDD := Lib.hid hdd
      have hxl : ((dig a).drop (m / 8)).length = (dig a).length - m / 8 := by rw [List.length_drop]
      have HCELL : Hid (∀ k, k < (dig a).length - m / 8 → w1.cell? ⟨b1, o1 + m / 8 + k, none⟩ = some (.int .i64 ((dg ((dig a).drop (m / 8)) k : Nat) : Int))) := by
        intro k hk
        have h := hcell (m / 8 + k) (by omega)
        rw [dg_drop, Nat.add_assoc]
        exact h
      have hdgs : ∀ k, dg ((dig a).drop (m / 8)) k < 256 := fun k => by have h := dg_lt hdd k; rw [B64_eq] at h; exact h
      have HDGS := Lib.hid hdgs
      rw [← hq, ← hs] at HSD
      have hs8 : m % 8 < 8 := Nat.mod_lt _ (by omega)
      obtain ⟨ds, hds⟩ : ∃ ds, (dig a).drop (m / 8) = ds := ⟨_, rfl⟩
      rw [hds] at HCELL hxl HDD HDGS HSD
      clear h1 hb1 hcell hsd hdd hdgs hds hs hq hqn
      go_wp2_with fail
      go_loopw [6, 7] (fun v i wr => ∃ (k : Nat) (zs : List Nat), k ≤ (dig a).length - m / 8 ∧ i = .int .i64 k ∧ zs.length = k ∧ Digs zs ∧ Hid (val zs = val ds / 2 ^ (m % 8) % 256 ^ zs.length) ∧
          wr.ownsRow w1.heap.size 3 1 v k (zs.map dcell) ∧ Below w1.heap.size w1 wr) (fun _ i _ => (dig a).length - m / 8 - (intOf i).toNat)
      case atStart => exact ⟨0, [], Nat.zero_le _, rfl, rfl, Digs.nil, by show _ = _; simp [val_nil, Nat.mod_one], World.ownsRow_nil _ _ _ _, Below.refl _ _⟩
      case round =>
        obtain ⟨k, zs, hk, rfl, hzl, hzd, hv, hown, hbel⟩ := hrel
        by_cases hlt : k < (dig a).length - m / 8
        · have hlt' : (k : Int) < (((dig a).length - m / 8 : Nat) : Int) := by omega
          have hx := (hbel.cell (p := ⟨b1, o1 + m / 8 + k, none⟩) hb1').trans (HCELL.out k hlt)
          have hxd := HDGS.out k
          have hstep := shr_step HDD.out hs8 hv.out
          rw [hzl] at hstep
          obtain ⟨x, hxe⟩ : ∃ x, dg ds k = x := ⟨_, rfl⟩
          rw [hxe] at hx hxd hstep
          by_cases hlt2 : k + 1 < (dig a).length - m / 8
          · have hlt2' : (k : Int) + 1 < (((dig a).length - m / 8 : Nat) : Int) := by omega
            have hy := (hbel.cell (p := ⟨b1, o1 + m / 8 + (k + 1), none⟩) hb1').trans (HCELL.out (k + 1) hlt2)
            have hyd := HDGS.out (k + 1)
            obtain ⟨y, hye⟩ : ∃ y, dg ds (k + 1) = y := ⟨_, rfl⟩
            rw [hye] at hy hyd hstep
            have HV2 := Lib.hid hstep
            have HZD2 : Hid (Digs (zs ++ [(x + 256 * y) / 2 ^ (m % 8) % 256])) := hzd.snoc (by rw [B64_eq]; exact Nat.mod_lt _ (by omega))
            have HZL2 : Hid ((zs ++ [(x + 256 * y) / 2 ^ (m % 8) % 256]).length = k + 1) := by show _ = _; simp [hzl]
            have HSTEP : Hid (zs.map dcell ++ [.int .i64 ((((x : Int) + 256 * (y : Int)) / 2 ^ (m % 8)).tmod 256)] = (zs ++ [(x + 256 * y) / 2 ^ (m % 8) % 256]).map dcell) := by
              show _ = _
              rw [List.map_append, shr_cast2]
              rfl
            have hsz := hbel.size
            have HOWN := Lib.hid hown
            have HBEL := Lib.hid hbel
            clear hown hbel hzl hzd hv hstep hxe hye
            go_wp2_with ((at_builtin; refine wpList_append_own _ rfl (.tmp 47) (.tmp 54) 68 rfl w1.heap.size 3 i0 (.int .i64 0) 1 8 under_u64s hi0 hz0 hz1 hz2 rfl (by decide) _ _ _ rfl (HOWN.out.alloc _) ⟨wr.heap.size, 0, none⟩ 1 1 [.int .i64 ((((x : Int) + 256 * (y : Int)) / 2 ^ (m % 8)).tmod 256)] rfl rfl (app_cell _ _ _) (app_one _ _) (by unfold maxLen; omega) (by omega) (by simp; omega) ?_); intro v' w3 hown' hgrow hnil)
            have HOWN' := Lib.hid hown'
            rw [HSTEP.out] at HOWN'
            have HBEL' := Lib.hid (below_app HBEL.out hsz (Nat.le_refl _) HOWN.out hgrow)
            clear hown' hgrow hnil
            go_wp2_with fail
            go_roundw
            case rel => exact ⟨k + 1, zs ++ [(x + 256 * y) / 2 ^ (m % 8) % 256], by omega, by go_num, HZL2.out, HZD2.out, by rw [HZL2.out]; exact HV2.out, HOWN'.out, HBEL'.out⟩
            case measure => simp [intOf]; omega
          · have hlt2' : ¬ (k : Int) + 1 < (((dig a).length - m / 8 : Nat) : Int) := by omega
            rw [dg_of_ge (xs := ds) (i := k + 1) (by omega), Nat.mul_zero, Nat.add_zero] at hstep
            have HV2 := Lib.hid hstep
            have HZD2 : Hid (Digs (zs ++ [x / 2 ^ (m % 8) % 256])) := hzd.snoc (by rw [B64_eq]; exact Nat.mod_lt _ (by omega))
            have HZL2 : Hid ((zs ++ [x / 2 ^ (m % 8) % 256]).length = k + 1) := by show _ = _; simp [hzl]
            have HSTEP : Hid (zs.map dcell ++ [.int .i64 (((x : Int) / 2 ^ (m % 8)).tmod 256)] = (zs ++ [x / 2 ^ (m % 8) % 256]).map dcell) := by
              show _ = _
              rw [List.map_append, shr_cast]
              rfl
            have hsz := hbel.size
            have HOWN := Lib.hid hown
            have HBEL := Lib.hid hbel
            clear hown hbel hzl hzd hv hstep hxe
            go_wp2_with ((at_builtin; refine wpList_append_own _ rfl (.tmp 47) (.tmp 54) 68 rfl w1.heap.size 3 i0 (.int .i64 0) 1 8 under_u64s hi0 hz0 hz1 hz2 rfl (by decide) _ _ _ rfl (HOWN.out.alloc _) ⟨wr.heap.size, 0, none⟩ 1 1 [.int .i64 (((x : Int) / 2 ^ (m % 8)).tmod 256)] rfl rfl (app_cell _ _ _) (app_one _ _) (by unfold maxLen; omega) (by omega) (by simp; omega) ?_); intro v' w3 hown' hgrow hnil)
            have HOWN' := Lib.hid hown'
            rw [HSTEP.out] at HOWN'
            have HBEL' := Lib.hid (below_app HBEL.out hsz (Nat.le_refl _) HOWN.out hgrow)
            clear hown' hgrow hnil
            go_wp2_with fail
            go_roundw
            case rel => exact ⟨k + 1, zs ++ [x / 2 ^ (m % 8) % 256], by omega, by go_num, HZL2.out, HZD2.out, by rw [HZL2.out]; exact HV2.out, HOWN'.out, HBEL'.out⟩
            case measure => simp [intOf]; omega
        · have hlt' : ¬ (k : Int) < (((dig a).length - m / 8 : Nat) : Int) := by omega
          have hval := shr_end HDD.out (by omega) hv.out
          rw [HSD.out] at hval
          obtain ⟨A3, c3, rfl, hc3, hnum⟩ := num_of_own hzd hown
          have hT := large_any wr A3 c3 zs hnum (by omega) hc3
          rw [hval] at hT
          have HT := Lib.hid hT
          have HBEL := Lib.hid (HB1.out.trans (hbel.mono HB1.out.size))
          clear hown hbel hnum hval hv hT hzl hzd
          go_wp2_with fail
          refine HT.out.mono ?_
          rintro e w4 ⟨A4, c4, rfl, hc4, ha4, hb4⟩
          have HA4 := Lib.hid ha4
          have HB4 := Lib.hid (HBEL.out.trans (hb4.mono HBEL.out.size))
          clear ha4 hb4
          go_wp2_with fail
          go_ret
          exact ⟨A4, c4, rfl, hc4, HA4.out, HB4.out⟩
end Go.Proofs.YtmbnlhedbedcdaaGreat.E

/- The document's answer: what Gcd by halves and differences keeps. -/
namespace Go.Proofs.YtmbnlhedbedcdaaGreat.E
open Go.RowKit

theorem cop2 {y : Nat} (h : y % 2 = 1) : Nat.Coprime 2 y := by
  show Nat.gcd 2 y = 1
  rw [Nat.gcd_rec, h]; decide
/-- Both even: 2 comes out. -/
theorem gcd_both {x y : Nat} (hx : x % 2 = 0) (hy : y % 2 = 0) : Nat.gcd x y = 2 * Nat.gcd (x / 2) (y / 2) := by
  have e1 : x = 2 * (x / 2) := by omega
  have e2 : y = 2 * (y / 2) := by omega
  rw [← Nat.gcd_mul_left, ← e1, ← e2]
theorem gcd_left {x y : Nat} (hx : x % 2 = 0) (hy : y % 2 = 1) : Nat.gcd (x / 2) y = Nat.gcd x y := by
  have e1 : x = 2 * (x / 2) := by omega
  have h := (cop2 hy).gcd_mul_left_cancel (x / 2)
  rw [← e1] at h
  exact h.symm
theorem gcd_right {x y : Nat} (hx : x % 2 = 1) (hy : y % 2 = 0) : Nat.gcd x (y / 2) = Nat.gcd x y := by
  rw [Nat.gcd_comm, gcd_left hy hx, Nat.gcd_comm]
theorem gcd_less {x y : Nat} (h : y ≤ x) : Nat.gcd (x - y) y = Nat.gcd x y := by
  have e : x = y + (x - y) := by omega
  have h1 : Nat.gcd (y + (x - y)) y = Nat.gcd (x - y) y := by simp
  rw [← e] at h1
  exact h1.symm
theorem gcd_more {x y : Nat} (h : x ≤ y) : Nat.gcd x (y - x) = Nat.gcd x y := by
  rw [Nat.gcd_comm, gcd_less h, Nat.gcd_comm]
theorem gcd_end {x y : Nat} (h : x = 0 ∨ y = 0) : x + y = Nat.gcd x y := by
  rcases h with h | h <;> subst h <;> simp
/-- The lowest digit tells whether the number is even. -/
theorem dig64_even (a : Nat) : Go.Proofs.YtmbnlhedbedcdaaGreat.dg (Go.Proofs.YtmbnlhedbedcdaaGreat.dig a) 0 % 2 = a % 2 := by
  have h := Go.Proofs.YtmbnlhedbedcdaaGreat.val_take_dg (Go.Proofs.YtmbnlhedbedcdaaGreat.dig a) 0
  have h2 := Go.Proofs.YtmbnlhedbedcdaaGreat.val_take_add (Go.Proofs.YtmbnlhedbedcdaaGreat.dig a) 1
  rw [Go.Proofs.YtmbnlhedbedcdaaGreat.val_dig] at h2
  by_cases h0 : (Go.Proofs.YtmbnlhedbedcdaaGreat.dig a).length = 0
  · rw [Go.Proofs.YtmbnlhedbedcdaaGreat.dg_of_ge (by omega), Go.Proofs.YtmbnlhedbedcdaaGreat.dig_nil_iff.1 h0]
  · rw [Nat.min_eq_left (by omega)] at h2
    simp only [List.take_zero, Go.Proofs.YtmbnlhedbedcdaaGreat.val_nil, Nat.pow_zero, Nat.one_mul, Nat.zero_add] at h
    rw [h, Go.Proofs.YtmbnlhedbedcdaaGreat.B64_eq] at h2
    omega
end Go.Proofs.YtmbnlhedbedcdaaGreat.E

/- The document's answer: what Mul's two loops keep. -/
namespace Go.Proofs.YtmbnlhedbedcdaaGreat.E
open Go.RowKit

/-- One digit put in the place of another. -/
theorem val_set {cs : List Nat} {j : Nat} (v : Nat) (h : j < cs.length) : val (cs.set j v) + 256 ^ j * dg cs j = val cs + 256 ^ j * v := by
  have h1 := val_take_add cs j
  rw [Nat.min_eq_left (by omega), drop_pred h, val_cons, B64_eq] at h1
  have h2 := val_take_add (cs.set j v) j
  rw [Nat.min_eq_left (by simp; omega), drop_pred (by simp; omega), val_cons, B64_eq, List.take_set_of_le (Nat.le_refl j), List.drop_set_of_lt (by omega)] at h2
  have h3 : dg (cs.set j v) j = v := by rw [dg_of_lt (by simp; omega)]; simp
  rw [h3] at h2
  rw [h1, h2, Nat.mul_add, Nat.mul_add]
  omega
theorem Digs.set_ {cs : List Nat} (h : Digs cs) (j v : Nat) (hv : v < 256) : Digs (cs.set j v) := by
  intro y hy
  rcases List.mem_or_eq_of_mem_set hy with h1 | h1
  · exact h y h1
  · rw [h1, B64_eq]; exact hv
/-- One digit of one row of the product: o is what stood there, s what is put together. -/
theorem mul_digit {V W B p o x y cy s : Nat} (hv : V + p * cy = B) (hs : s = o + cy + x * y) (hW : W + p * o = V + p * (s % 256)) :
    W + p * 256 * (s / 256) = B + p * (x * y) := by
  have h1 : p * s = p * (s % 256) + p * 256 * (s / 256) := by
    rw [Nat.mul_assoc, ← Nat.mul_add]; congr 1; omega
  have h2 : p * s = p * o + p * cy + p * (x * y) := by rw [hs, Nat.mul_add, Nat.mul_add]
  omega
/-- What is carried behind the last digit is carried one digit far at most. -/
theorem mul_carry {V p cy T N i k l : Nat} (hp : p = 256 ^ (i + k)) (hv : V + p * cy = T) (hT : T < 256 ^ (i + 1 + l)) (hc : 0 < cy) (hN : N = l) : k ≤ N := by
  subst hN hp
  rcases Nat.lt_or_ge N k with h | h
  · exfalso
    have h1 : 256 ^ (i + 1 + N) ≤ 256 ^ (i + k) := Nat.pow_le_pow_right (by omega) (by omega)
    have h2 : 256 ^ (i + k) * 1 ≤ 256 ^ (i + k) * cy := Nat.mul_le_mul_left _ hc
    omega
  · exact h
end Go.Proofs.YtmbnlhedbedcdaaGreat.E

/- The document's answer: what Shl's two loops keep. -/
namespace Go.Proofs.YtmbnlhedbedcdaaGreat.E
open Go.RowKit

/-- A nought ahead of the digits: 256 times. -/
theorem dig_nought {v : Nat} (h : v ≠ 0) : dig (256 * v) = 0 :: dig v := by
  rw [dig_pos (by omega), B64_eq]
  congr 1
  · omega
  · congr 1; omega
theorem dig_ne {v : Nat} (h : (dig v).length ≠ 0) : v ≠ 0 := fun h0 => h (dig_nil_iff.2 h0)
/-- 8 places at a time: what is kept is the number times its power. -/
theorem shl_eight {v n T : Nat} (h : v * 2 ^ n = T) (hn : 8 ≤ n) : 256 * v * 2 ^ (n - 8) = T := by
  rw [← h, show n = 8 + (n - 8) by omega, Nat.pow_add, Nat.add_sub_cancel_left, Nat.mul_comm 256 v, Nat.mul_assoc]
theorem shl_one {v n T : Nat} (h : v * 2 ^ n = T) (hn : 0 < n) : (2 * v + 0) * 2 ^ (n - 1) = T := by
  rw [← h, show n = 1 + (n - 1) by omega, Nat.pow_add, Nat.add_sub_cancel_left, Nat.add_zero, Nat.mul_comm 2 v, Nat.mul_assoc]
theorem shl_none {v n T : Nat} (h : v * 2 ^ n = T) (hn : n = 0 ∨ v = 0) : v = T := by
  rcases hn with h0 | h0 <;> subst h0 <;> simp at h <;> exact h
/-- Never more digits than the end has. -/
theorem shl_len {v n T : Nat} (h : v * 2 ^ n = T) : (dig v).length ≤ (dig T).length := by
  apply dig_length_mono
  rw [← h]
  exact Nat.le_mul_of_pos_right _ (Nat.pow_pos (by omega))
theorem shl_top {v n : Nat} : (dig (v * 2 ^ n)).length ≤ (dig v).length + (n / 8 + 1) := by
  apply dig_length_le
  have h1 := val_lt (dig_digs v)
  rw [val_dig] at h1
  rw [Nat.pow_add]
  have h2 : 2 ^ n ≤ B64 ^ (n / 8 + 1) := by
    rw [B64_eq, pow256_2]
    exact Nat.pow_le_pow_right (by omega) (by omega)
  have h3 : 0 < 2 ^ n := Nat.pow_pos (by omega)
  exact Nat.lt_of_lt_of_le (Nat.mul_lt_mul_of_pos_right h1 h3) (Nat.mul_le_mul_left _ h2)
end Go.Proofs.YtmbnlhedbedcdaaGreat.E
