/- Part 1 of the proof: RMath, Num. -/
namespace Go.Proofs.YthjiacmhhpfokaaGreat
open List renaming getElem?_eq_getElem → gE, length_take → lK, length_cons → lC
open Nat renaming mul_add → mA, mul_assoc → mS
namespace Q
theorem low {n d : Int} (hd : 0 < d) : n / ((Nat.gcd n.natAbs d.natAbs : Nat) : Int) = (Rat.divInt n d).num ∧ d / ((Nat.gcd n.natAbs d.natAbs : Nat) : Int) = (((Rat.divInt n d).den : Nat) : Int) := by
 obtain ⟨k, rfl⟩ := Int.eq_ofNat_of_zero_le (Int.le_of_lt hd)
 have hk : k ≠ 0 := by omega
 rw [Rat.divInt_ofNat, Rat.mkRat_def, dif_neg hk, Rat.normalize_eq]
 constructor
 ·rfl
 ·show (k : Int) / _ = ((k / _ : Nat) : Int)
  rw [Int.natCast_ediv]; rfl
theorem gcd_pos {n d : Int} (hd : 0 < d) : 0 < Nat.gcd n.natAbs d.natAbs := Nat.gcd_pos_of_pos_right _ (by omega)
theorem low_back {n d : Int} (hd : 0 < d) : n = (Rat.divInt n d).num * ((Nat.gcd n.natAbs d.natAbs : Nat) : Int) ∧ d = (((Rat.divInt n d).den : Nat) : Int) * ((Nat.gcd n.natAbs d.natAbs : Nat) : Int) := by
 have h := low (n := n) hd
 rw [← h.1, ← h.2]
 constructor
 ·exact (Int.ediv_mul_cancel (Int.dvd_natAbs.1 (by exact_mod_cast Nat.gcd_dvd_left _ _))).symm
 ·exact (Int.ediv_mul_cancel (Int.dvd_natAbs.1 (by exact_mod_cast Nat.gcd_dvd_right _ _))).symm
theorem low_le {n d : Int} (hd : 0 < d) : (Rat.divInt n d).num.natAbs ≤ n.natAbs ∧ (Rat.divInt n d).den ≤ d.natAbs := by
 have h := low_back (n := n) hd
 have hg := gcd_pos (n := n) hd
 generalize Nat.gcd n.natAbs d.natAbs = g at h hg
 generalize Rat.divInt n d = q at h
 have h1 : n.natAbs = q.num.natAbs * g := by
  have := congrArg Int.natAbs h.1
  rwa [Int.natAbs_mul, Int.natAbs_natCast] at this
 have h2 : d.natAbs = q.den * g := by
  have := congrArg Int.natAbs h.2
  rwa [Int.natAbs_mul, Int.natAbs_natCast, Int.natAbs_natCast] at this
 rw [h1, h2]
 exact ⟨Nat.le_mul_of_pos_right _ hg, Nat.le_mul_of_pos_right _ hg⟩
theorem div_one (n : Int) : Rat.divInt n 1 = (n : Rat) := by rw [Rat.divInt_eq_div]; show (n:Rat) / ((1 : Int) : Rat) = n; grind
theorem div_mul {d : Int} (n : Int) (h : d ≠ 0) : Rat.divInt n d * (d : Rat) = (n : Rat) := by
 rw [Rat.divInt_eq_div]
 have : (d : Rat) ≠ 0 := by intro h2; exact h (Rat.intCast_inj.1 (by rw [h2]; rfl))
 grind
theorem div_lt {n d m e : Int} (hd : 0 < d) (he : 0 < e) : Rat.divInt n d < Rat.divInt m e ↔ n * e < m * d := by
 have h1 := div_mul n (d := d) (by omega)
 have h2 := div_mul m (d := e) (by omega)
 have hp : (0 : Rat) < (d : Rat) * (e : Rat) := by rw [← Rat.intCast_mul]; exact Rat.intCast_pos.2 (Int.mul_pos hd he)
 rw [← Rat.mul_lt_mul_right hp, ← Rat.intCast_lt_intCast, Rat.intCast_mul, Rat.intCast_mul, ← h1, ← h2]
 have e1 : Rat.divInt n d * ((d : Rat) * (e : Rat)) = Rat.divInt n d * (d : Rat) * (e : Rat) := by grind
 have e2 : Rat.divInt m e * ((d : Rat) * (e : Rat)) = Rat.divInt m e * (e : Rat) * (d : Rat) := by grind
 rw [e1, e2]
theorem div_eq {n d m e : Int} (hd : 0 < d) (he : 0 < e) : Rat.divInt n d = Rat.divInt m e ↔ n * e = m * d := Rat.divInt_eq_divInt_iff (by omega) (by omega)
def qsign (q : Rat) : Int := q.num.sign
def qcmp (y z : Rat) : Int := if y < z then -1 else if y = z then 0 else 1
theorem sign_pos {n d : Int} (hd : 0 < d) : qsign (Rat.divInt n d) = n.sign := by
 have h := low_back (n := n) hd
 have hg := gcd_pos (n := n) hd
 unfold qsign
 conv => rhs; rw [h.1]
 rw [Int.sign_mul, Int.sign_eq_one_of_pos (a := ((Nat.gcd n.natAbs d.natAbs : Nat) : Int)) (by omega), Int.mul_one]
theorem sign_div (n d : Int) : qsign (Rat.divInt n d) = n.sign * d.sign := by
 rcases Int.lt_trichotomy d 0 with h | h | h
 ·have h1 := Rat.neg_divInt_neg n d
  rw [← h1, sign_pos (by omega), Int.sign_eq_neg_one_of_neg h, Int.sign_neg]; omega
 ·rw [h, Rat.divInt_zero]; simp [qsign]
 ·rw [sign_pos h, Int.sign_eq_one_of_pos h, Int.mul_one]
theorem qcmp_lt {y z : Rat} (h : y < z) : qcmp y z = -1 := if_pos h
theorem qcmp_eq (y : Rat) : qcmp y y = 0 := by unfold qcmp; rw [if_neg (Rat.lt_irrefl), if_pos rfl]
theorem qcmp_gt {y z : Rat} (h : z < y) : qcmp y z = 1 := by
 unfold qcmp
 rw [if_neg (fun h2 => Rat.lt_irrefl (a := y) (by grind)), if_neg (fun h2 => by subst h2; exact Rat.lt_irrefl h)]
theorem tri (y z : Rat) : y < z ∨ y = z ∨ z < y := by grind
theorem qcmp_zero_iff {y z : Rat} : qcmp y z = 0 ↔ y = z := by
 rcases tri y z with h | h | h
 ·rw [qcmp_lt h]; exact ⟨fun h => by omega, fun h2 => by subst h2; exact absurd h Rat.lt_irrefl⟩
 ·subst h; rw [qcmp_eq]; exact ⟨fun _ => rfl, fun _ => rfl⟩
 ·rw [qcmp_gt h]; exact ⟨fun h => by omega, fun h2 => by subst h2; exact absurd h Rat.lt_irrefl⟩
theorem qsign_pos_iff {q : Rat} : 0 < qsign q ↔ 0 < q := by
 unfold qsign
 rw [Int.sign_pos_iff, Rat.lt_iff]
 simp
theorem qsign_neg_iff {q : Rat} : qsign q < 0 ↔ q < 0 := by
 unfold qsign
 rw [Int.sign_neg_iff, Rat.lt_iff]
 simp
theorem qsign_zero_iff {q : Rat} : qsign q = 0 ↔ q = 0 := by
 unfold qsign
 rw [Int.sign_eq_zero_iff_zero]
 exact Rat.num_eq_zero
theorem qsign_cmp (q : Rat) : qsign q = qcmp q 0 := by
 rcases tri q 0 with h | h | h
 ·rw [qcmp_lt h]; have := qsign_neg_iff.2 h; unfold qsign at *; exact Int.sign_eq_neg_one_of_neg (Int.sign_neg_iff.1 this)
 ·subst h; rw [qcmp_eq]; rfl
 ·rw [qcmp_gt h]; have := qsign_pos_iff.2 h; unfold qsign at *; exact Int.sign_eq_one_of_pos (Int.sign_pos_iff.1 this)
theorem both_add {n d m e g l k : Int} (hd : 0 < d) (he : 0 < e) (hl : e = l * g) (hk : d = k * g) (hp : 0 < l) : Rat.divInt (n * l + m * k) (d * l) = Rat.divInt n d + Rat.divInt m e := by
 rw [Rat.divInt_add_divInt _ _ (by omega) (by omega)]
 refine (div_eq (Int.mul_pos hd hp) (Int.mul_pos hd he)).2 ?_
 rw [hl, hk]; grind
theorem gcd_parts {d e : Int} (hd : 0 < d) (he : 0 < e) : e = e / ((Nat.gcd d.natAbs e.natAbs : Nat) : Int) * ((Nat.gcd d.natAbs e.natAbs : Nat) : Int) ∧ d = d / ((Nat.gcd d.natAbs e.natAbs : Nat) : Int) * ((Nat.gcd d.natAbs e.natAbs : Nat) : Int) ∧ 0 < e / ((Nat.gcd d.natAbs e.natAbs : Nat) : Int) ∧ 0 < d / ((Nat.gcd d.natAbs e.natAbs : Nat) : Int) := by
 have hg : 0 < Nat.gcd d.natAbs e.natAbs := gcd_pos he
 have h1 : e = e / ((Nat.gcd d.natAbs e.natAbs : Nat) : Int) * ((Nat.gcd d.natAbs e.natAbs : Nat) : Int) := (Int.ediv_mul_cancel (Int.dvd_natAbs.1 (by exact_mod_cast Nat.gcd_dvd_right _ _))).symm
 have h2 : d = d / ((Nat.gcd d.natAbs e.natAbs : Nat) : Int) * ((Nat.gcd d.natAbs e.natAbs : Nat) : Int) := (Int.ediv_mul_cancel (Int.dvd_natAbs.1 (by exact_mod_cast Nat.gcd_dvd_left _ _))).symm
 refine ⟨h1, h2, ?_, ?_⟩
 ·rcases Int.lt_or_le 0 (e / ((Nat.gcd d.natAbs e.natAbs : Nat) : Int)) with h | h
  ·exact h
  ·have := Int.mul_nonpos_of_nonpos_of_nonneg h (show (0 : Int) ≤ ((Nat.gcd d.natAbs e.natAbs : Nat) : Int) by omega)
   omega
 ·rcases Int.lt_or_le 0 (d / ((Nat.gcd d.natAbs e.natAbs : Nat) : Int)) with h | h
  ·exact h
  ·have := Int.mul_nonpos_of_nonpos_of_nonneg h (show (0 : Int) ≤ ((Nat.gcd d.natAbs e.natAbs : Nat) : Int) by omega)
   omega
theorem cmp_div {n d m e : Int} (hd : 0 < d) (he : 0 < e) : qcmp (Rat.divInt n d) (Rat.divInt m e) = if n * e < m * d then -1 else if n * e = m * d then 0 else 1 := by
 unfold qcmp
 by_cases h : n * e < m * d
 ·rw [if_pos h, if_pos ((div_lt hd he).2 h)]
 ·rw [if_neg h, if_neg (fun h2 => h ((div_lt hd he).1 h2))]
  by_cases h1 : n * e = m * d
  ·rw [if_pos h1, if_pos ((div_eq hd he).2 h1)]
  ·rw [if_neg h1, if_neg (fun h2 => h1 ((div_eq hd he).1 h2))]
end Q

section
def B64 : Nat := 18446744073709551616
theorem B64_eq : B64 = 18446744073709551616 := rfl
theorem B64_pos : 0 < B64 := by rw [B64_eq]; omega
def val : List Nat → Nat
 | [] => 0
 | x :: r => x + B64 * val r
def Digs (xs : List Nat) : Prop := ∀ x ∈ xs, x < B64
def dig (n : Nat) : List Nat := if n = 0 then [] else n % B64 :: dig (n / B64)
termination_by n
decreasing_by exact Nat.div_lt_self (by omega) (by rw [B64_eq]; omega)
theorem dig_zero : dig 0 = [] := by rw [dig]; simp
theorem dig_pos {n : Nat} (h : n ≠ 0) : dig n = n % B64 :: dig (n / B64) := by rw [dig]; simp [h]
theorem val_nil : val [] = 0 := rfl
theorem val_cons (x : Nat) (r : List Nat) : val (x :: r) = x + B64 * val r := rfl
theorem Digs.nil : Digs [] := fun _ h => by cases h
theorem Digs.cons {x : Nat} {r : List Nat} (hx : x < B64) (hr : Digs r) : Digs (x :: r) := by
 intro y hy
 rcases List.mem_cons.1 hy with rfl | h
 ·exact hx
 ·exact hr y h
theorem Digs.head {x : Nat} {r : List Nat} (h : Digs (x :: r)) : x < B64 := h x (by simp)
theorem Digs.tail {x : Nat} {r : List Nat} (h : Digs (x :: r)) : Digs r := fun y hy => h y (by simp [hy])
theorem Digs.append {xs ys : List Nat} (h : Digs xs) (k : Digs ys) : Digs (xs ++ ys) := by
 intro y hy
 rcases List.mem_append.1 hy with h1 | h1
 ·exact h y h1
 ·exact k y h1
theorem Digs.left {xs ys : List Nat} (h : Digs (xs ++ ys)) : Digs xs := fun y hy => h y (by simp [hy])
theorem Digs.right {xs ys : List Nat} (h : Digs (xs ++ ys)) : Digs ys := fun y hy => h y (by simp [hy])
theorem Digs.take {xs : List Nat} (h : Digs xs) (n : Nat) : Digs (xs.take n) := fun y hy => h y (List.mem_of_mem_take hy)
theorem Digs.drop {xs : List Nat} (h : Digs xs) (n : Nat) : Digs (xs.drop n) := fun y hy => h y (List.mem_of_mem_drop hy)
theorem Digs.get {xs : List Nat} (h : Digs xs) {i : Nat} (hi : i < xs.length) : xs[i] < B64 := h _ (List.getElem_mem hi)
theorem Digs.getD {xs : List Nat} (h : Digs xs) (i : Nat) : xs.getD i 0 < B64 := by
 by_cases hi : i < xs.length
 ·rw [List.getD_eq_getElem?_getD, gE hi]; exact h.get hi
 ·rw [List.getD_eq_getElem?_getD, List.getElem?_eq_none (by omega)]; exact B64_pos
theorem Digs.rep (n : Nat) : Digs (List.replicate n 0) := by
 intro y hy
 rw [List.mem_replicate] at hy
 rw [hy.2]; exact B64_pos
theorem dig_digs (n : Nat) : Digs (dig n) := by
 induction n using Nat.strongRecOn with
 | _ n ih =>
  by_cases h : n = 0
  ·rw [h, dig_zero]; exact Digs.nil
  ·rw [dig_pos h]
   exact Digs.cons (Nat.mod_lt _ B64_pos) (ih _ (Nat.div_lt_self (by omega) (by rw [B64_eq]; omega)))
theorem val_dig (n : Nat) : val (dig n) = n := by
 induction n using Nat.strongRecOn with
 | _ n ih =>
  by_cases h : n = 0
  ·rw [h, dig_zero]; rfl
  ·rw [dig_pos h, val_cons, ih _ (Nat.div_lt_self (by omega) (by rw [B64_eq]; omega))]
   exact Nat.mod_add_div n B64
theorem dig_inj {m n : Nat} (h : dig m = dig n) : m = n := by rw [← val_dig m, h, val_dig]
theorem val_append (xs ys : List Nat) : val (xs ++ ys) = val xs + B64 ^ xs.length * val ys := by
 induction xs with
 | nil => simp [val_nil]
 | cons x r ih =>
  rw [List.cons_append, val_cons, val_cons, ih, lC, Nat.pow_succ, mA]
  have : B64 * (B64 ^ r.length * val ys) = B64 ^ r.length * B64 * val ys := by
   rw [Nat.mul_comm (B64 ^ r.length) B64, mS]
  omega
theorem val_rep (n : Nat) : val (List.replicate n 0) = 0 := by
 induction n with
 | zero => rfl
 | succ n ih => rw [List.replicate_succ, val_cons, ih]; simp
theorem val_lt {xs : List Nat} (h : Digs xs) : val xs < B64 ^ xs.length := by
 induction xs with
 | nil => simp [val_nil]
 | cons x r ih =>
  have h1 := ih h.tail
  have h2 := h.head
  rw [val_cons, lC, Nat.pow_succ]
  have h3 : B64 * val r + B64 ≤ B64 ^ r.length * B64 := by
   rw [Nat.mul_comm (B64 ^ r.length) B64, ← Nat.mul_succ]
   exact Nat.mul_le_mul_left _ h1
  omega
theorem dig_val_snoc {xs : List Nat} (h : Digs xs) (x : Nat) (hx : x < B64) (hx0 : x ≠ 0) : dig (val (xs ++ [x])) = xs ++ [x] := by
 induction xs with
 | nil =>
  rw [List.nil_append, val_cons, val_nil, Nat.mul_zero, Nat.add_zero, dig_pos hx0, Nat.mod_eq_of_lt hx, Nat.div_eq_of_lt hx, dig_zero]
 | cons y r ih =>
  have hy := h.head
  rw [List.cons_append, val_cons]
  have hv : val (r ++ [x]) ≠ 0 := by
   intro e
   have := ih h.tail
   rw [e, dig_zero] at this
   cases r <;> simp at this
  have h0 : y + B64 * val (r ++ [x]) ≠ 0 := by
   have := Nat.mul_pos B64_pos (Nat.pos_of_ne_zero hv)
   omega
  rw [dig_pos h0, Nat.add_mul_mod_self_left, Nat.mod_eq_of_lt hy, Nat.add_mul_div_left _ _ B64_pos, Nat.div_eq_of_lt hy, Nat.zero_add, ih h.tail]
theorem dig_of_top {xs : List Nat} (h : Digs xs) (hl : xs.getLast? ≠ some 0) : dig (val xs) = xs := by
 rcases List.eq_nil_or_concat xs with rfl | ⟨r, x, rfl⟩
 ·rw [val_nil, dig_zero]
 ·rw [List.concat_eq_append] at h hl ⊢
  refine dig_val_snoc h.left x (h.right x (by simp)) ?_
  rintro rfl
  exact hl (by simp)
theorem dig_top (n : Nat) : (dig n).getLast? ≠ some 0 := by
 induction n using Nat.strongRecOn with
 | _ n ih =>
  by_cases h : n = 0
  ·rw [h, dig_zero]; simp
  ·rw [dig_pos h]
   have h1 := ih (n / B64) (Nat.div_lt_self (by omega) (by rw [B64_eq]; omega))
   by_cases h2 : n / B64 = 0
   ·rw [h2, dig_zero]
    simp only [List.getLast?_singleton]
    intro e
    injection e with e
    have := Nat.mod_add_div n B64
    rw [e, h2] at this
    omega
   ·rw [dig_pos h2] at h1 ⊢
    rw [List.getLast?_cons_cons]
    exact h1
theorem dig_length_le {n k : Nat} (h : n < B64 ^ k) : (dig n).length ≤ k := by
 induction k generalizing n with
 | zero =>
  have : n = 0 := by simpa using h
  rw [this, dig_zero]; simp
 | succ k ih =>
  by_cases h0 : n = 0
  ·rw [h0, dig_zero]; simp
  ·rw [dig_pos h0, lC]
   have : n / B64 < B64 ^ k := by
    rw [Nat.div_lt_iff_lt_mul B64_pos, ← Nat.pow_succ]; exact h
   have := ih this
   omega
theorem dig_length_val {xs : List Nat} (h : Digs xs) : (dig (val xs)).length ≤ xs.length := dig_length_le (val_lt h)
theorem pow_le_of_dig {n k : Nat} (h : k < (dig n).length) : B64 ^ k ≤ n := by
 rcases Nat.lt_or_ge n (B64 ^ k) with h1 | h1
 ·have := dig_length_le h1
  omega
 ·exact h1
theorem lt_of_dig_length_lt {m n : Nat} (h : (dig m).length < (dig n).length) : m < n := by
 have h1 := pow_le_of_dig h
 have h2 := val_lt (dig_digs m)
 rw [val_dig] at h2
 exact Nat.lt_of_lt_of_le h2 h1
theorem dig_length_mono {m n : Nat} (h : m ≤ n) : (dig m).length ≤ (dig n).length := by
 rcases Nat.lt_or_ge (dig n).length (dig m).length with h1 | h1
 ·have := lt_of_dig_length_lt h1
  omega
 ·exact h1
theorem dig_nil_iff {n : Nat} : (dig n).length = 0 ↔ n = 0 := by
 constructor
 ·intro h
  have : dig n = [] := List.eq_nil_of_length_eq_zero h
  rw [← val_dig n, this]; rfl
 ·rintro rfl; rw [dig_zero]; rfl
theorem val_take_add (xs : List Nat) (k : Nat) : val xs = val (xs.take k) + B64 ^ (min k xs.length) * val (xs.drop k) := by
 conv => lhs; rw [← List.take_append_drop k xs, val_append, lK]
theorem val_take_succ (xs : List Nat) (k : Nat) (h : k < xs.length) : val (xs.take (k + 1)) = val (xs.take k) + B64 ^ k * xs[k] := by
 rw [List.take_succ_eq_append_getElem h, val_append, lK, Nat.min_eq_left (by omega), val_cons, val_nil]
 simp
theorem val_take_succ_getD (xs : List Nat) (k : Nat) : val (xs.take (k + 1)) = val (xs.take k) + B64 ^ k * xs.getD k 0 := by
 by_cases h : k < xs.length
 ·rw [val_take_succ xs k h, List.getD_eq_getElem?_getD, gE h]; rfl
 ·rw [List.take_of_length_le (by omega), List.take_of_length_le (by omega), List.getD_eq_getElem?_getD, List.getElem?_eq_none (by omega)]
  simp
def dg (xs : List Nat) (i : Nat) : Nat := xs.getD i 0
theorem dg_lt {xs : List Nat} (h : Digs xs) (i : Nat) : dg xs i < B64 := h.getD i
theorem dg_of_lt {xs : List Nat} {i : Nat} (h : i < xs.length) : dg xs i = xs[i] := by
 unfold dg; rw [List.getD_eq_getElem?_getD, gE h]; rfl
theorem dg_of_ge {xs : List Nat} {i : Nat} (h : xs.length ≤ i) : dg xs i = 0 := by
 unfold dg; rw [List.getD_eq_getElem?_getD, List.getElem?_eq_none h]; rfl
theorem val_take_dg (xs : List Nat) (k : Nat) : val (xs.take (k + 1)) = val (xs.take k) + B64 ^ k * dg xs k := val_take_succ_getD xs k
theorem dg_take {xs : List Nat} {k i : Nat} (h : i < k) : dg (xs.take k) i = dg xs i := by
 unfold dg; rw [List.getD_eq_getElem?_getD, List.getD_eq_getElem?_getD, List.getElem?_take_of_lt h]
theorem dg_drop (xs : List Nat) (k i : Nat) : dg (xs.drop k) i = dg xs (k + i) := by
 unfold dg; rw [List.getD_eq_getElem?_getD, List.getD_eq_getElem?_getD, List.getElem?_drop]
theorem ext_dg {xs ys : List Nat} (hl : xs.length = ys.length) (h : ∀ i, i < xs.length → dg xs i = dg ys i) : xs = ys := by
 refine List.ext_getElem hl fun i h1 h2 => ?_
 have := h i h1
 rw [dg_of_lt h1, dg_of_lt h2] at this
 exact this
theorem val_take_pred {xs : List Nat} {k : Nat} (hk : k ≠ 0) (h : dg xs (k - 1) = 0) : val (xs.take (k - 1)) = val (xs.take k) := by
 have := val_take_dg xs (k - 1)
 rw [show k - 1 + 1 = k by omega, h] at this
 omega
theorem dig_take_of {xs : List Nat} (hd : Digs xs) {k : Nat} (hk : k ≤ xs.length) (hv : val (xs.take k) = val xs) (ht : k = 0 ∨ dg xs (k - 1) ≠ 0) : dig (val xs) = xs.take k := by
 rw [← hv]
 refine dig_of_top (hd.take k) ?_
 rcases Nat.eq_zero_or_pos k with h0 | h0
 ·subst h0; simp
 ·rcases ht with ht | ht
  ·omega
  ·rw [List.getLast?_eq_getElem?, lK, Nat.min_eq_left hk]
   intro e
   rw [List.getElem?_take_of_lt (by omega)] at e
   apply ht
   unfold dg
   rw [List.getD_eq_getElem?_getD, e]; rfl
theorem dig_take_self {xs : List Nat} (hd : Digs xs) : dig (val xs) = xs.take (dig (val xs)).length := by
 generalize hn : xs.length = n
 induction n generalizing xs with
 | zero =>
  have : xs = [] := List.eq_nil_of_length_eq_zero hn
  subst this
  simp [val_nil, dig_zero]
 | succ n ih =>
  by_cases h0 : dg xs n = 0
  ·have hv : val (xs.take n) = val xs := by
    have := val_take_dg xs n
    rw [h0, List.take_of_length_le (by omega)] at this
    omega
   have h1 := ih (xs := xs.take n) (hd.take n) (by rw [lK]; omega)
   rw [hv] at h1
   have hle := dig_length_le (n := val xs) (k := n) (by
    have := val_lt (hd.take n)
    rw [hv, lK, Nat.min_eq_left (by omega)] at this
    exact this)
   rw [List.take_take, Nat.min_eq_left hle] at h1
   exact h1
  ·have h1 := dig_take_of hd (k := xs.length) (Nat.le_refl _) (by rw [List.take_length]) (.inr (by rw [hn]; simpa using h0))
   rw [List.take_length] at h1
   rw [h1, List.take_length]
def lo (n : Nat) : Nat := n % B64
def hi (n : Nat) : Nat := n / B64
theorem lo_lt (n : Nat) : lo n < B64 := Nat.mod_lt _ B64_pos
theorem lo_hi (n : Nat) : lo n + B64 * hi n = n := Nat.mod_add_div n B64
theorem lo_of_lt {n : Nat} (h : n < B64) : lo n = n := Nat.mod_eq_of_lt h
theorem hi_of_lt {n : Nat} (h : n < B64) : hi n = 0 := Nat.div_eq_of_lt h
theorem hi_le_one {x y c : Nat} (hx : x < B64) (hy : y < B64) (hc : c ≤ 1) : hi (x + y + c) ≤ 1 := by
 unfold hi
 rw [B64_eq] at *
 omega
def slo (x y b : Nat) : Nat := (x + B64 - y - b) % B64
def sbo (x y b : Nat) : Nat := if x < y + b then 1 else 0
theorem slo_lt (x y b : Nat) : slo x y b < B64 := Nat.mod_lt _ B64_pos
theorem sbo_le (x y b : Nat) : sbo x y b ≤ 1 := by unfold sbo; split <;> omega
theorem slo_sbo {x y b : Nat} (hx : x < B64) (hy : y < B64) (hb : b ≤ 1) : slo x y b + y + b = x + B64 * sbo x y b := by
 unfold slo sbo
 rw [B64_eq] at *
 split
 ·rw [Nat.mod_eq_of_lt (by omega)]; omega
 ·rw [show x + 18446744073709551616 - y - b = (x - y - b) + 18446744073709551616 by omega, Nat.add_mod_right, Nat.mod_eq_of_lt (by omega)]; omega
theorem prod_lt {x y c : Nat} (hx : x < B64) (hy : y < B64) (hc : c < B64) : x * y + c < B64 * B64 := by
 have h1 : x * y ≤ (B64 - 1) * (B64 - 1) := Nat.mul_le_mul (by omega) (by omega)
 have h2 : (B64 - 1) * (B64 - 1) + (B64 - 1) < B64 * B64 := by rw [B64_eq]; omega
 omega
theorem hi_prod_lt {x y c : Nat} (hx : x < B64) (hy : y < B64) (hc : c < B64) : hi (x * y + c) < B64 :=
 Nat.div_lt_of_lt_mul (prod_lt hx hy hc)
theorem hi_prod_lt0 {x y : Nat} (hx : x < B64) (hy : y < B64) : hi (x * y) < B64 := by
 have := hi_prod_lt hx hy B64_pos
 rwa [Nat.add_zero] at this
theorem hi_mul_add {x y c : Nat} : hi (x * y) + hi (lo (x * y) + c) = hi (x * y + c) := by
 have h := lo_hi (x * y)
 unfold hi lo at *
 rw [show x * y + c = (x * y % B64 + c) + B64 * (x * y / B64) by omega, Nat.add_mul_div_left _ _ B64_pos]
 omega
theorem lo_mul_add {x y c : Nat} : lo (lo (x * y) + c) = lo (x * y + c) := by
 unfold lo
 rw [Nat.mod_add_mod]
theorem pow_pos' (k : Nat) : 0 < B64 ^ k := Nat.pow_pos B64_pos
theorem drop_pred {xs : List Nat} {i : Nat} (h : i < xs.length) : xs.drop i = dg xs i :: xs.drop (i + 1) := by
 rw [List.drop_eq_getElem_cons h, dg_of_lt h]
theorem val_lt_of_part {xs ys : List Nat} (hx : Digs xs) (hl : xs.length = ys.length) {i : Nat} (hi : i < xs.length) (hd : xs.drop (i + 1) = ys.drop (i + 1)) (hlt : dg xs i < dg ys i) : val xs < val ys := by
 have h1 := val_take_add xs i
 have h2 := val_take_add ys i
 rw [Nat.min_eq_left (by omega), drop_pred hi, val_cons] at h1
 rw [Nat.min_eq_left (by omega), drop_pred (by omega), val_cons, ← hd] at h2
 have h3 := val_lt (hx.take i)
 rw [lK, Nat.min_eq_left (by omega)] at h3
 generalize val (xs.drop (i + 1)) = v at *
 have h4 : B64 ^ i * (dg xs i + B64 * v) + B64 ^ i ≤ B64 ^ i * (dg ys i + B64 * v) := by
  rw [← Nat.mul_succ]
  exact Nat.mul_le_mul_left _ (by omega)
 omega
def fill (ys : List Nat) (n : Nat) : List Nat := ys ++ List.replicate (n - ys.length) 0
theorem fill_nil (n : Nat) : fill [] n = List.replicate n 0 := by unfold fill; simp
theorem fill_length {ys : List Nat} {n : Nat} (h : ys.length ≤ n) : (fill ys n).length = n := by unfold fill; simp; omega
theorem fill_full {ys : List Nat} {n : Nat} (h : ys.length = n) : fill ys n = ys := by unfold fill; simp [h]
theorem fill_set {ys : List Nat} {n : Nat} (x : Nat) (h : ys.length < n) : (fill ys n).set ys.length x = fill (ys ++ [x]) n := by
 unfold fill
 rw [show n - ys.length = (n - (ys ++ [x]).length) + 1 by simp; omega, List.replicate_succ, List.set_append_right _ _ (Nat.le_refl _), Nat.sub_self, List.set_cons_zero, List.append_assoc]
 rfl
theorem Digs.fill {ys : List Nat} (h : Digs ys) (n : Nat) : Digs (fill ys n) := h.append (Digs.rep _)
theorem val_snoc (ys : List Nat) (x : Nat) : val (ys ++ [x]) = val ys + B64 ^ ys.length * x := by rw [val_append, val_cons, val_nil]; simp
theorem Digs.snoc {ys : List Nat} (h : Digs ys) {x : Nat} (hx : x < B64) : Digs (ys ++ [x]) := h.append (Digs.cons hx Digs.nil)
theorem add_round {v p s x y c l h : Nat} (hv : v + p * c = s) (hl : l + B64 * h = x + y + c) : v + p * l + p * B64 * h = s + p * x + p * y := by
 have : p * l + p * (B64 * h) = p * x + p * y + p * c := by rw [← mA, hl, mA, mA]
 rw [mS]
 omega
theorem sub_round {v t s p b x y l h : Nat} (hv : v + t = s + p * b) (hl : l + y + b = x + B64 * h) : v + p * l + (t + p * y) = s + p * x + p * B64 * h := by
 have : p * l + p * y + p * b = p * x + p * (B64 * h) := by rw [← mA, ← mA, hl, mA]
 rw [mS]
 omega
theorem val_take_of_le {ys : List Nat} {n v : Nat} (h : val ys ≤ v) (hv : v < B64 ^ n) : val (ys.take n) = val ys := by
 by_cases hn : n < ys.length
 ·have h1 := val_take_add ys n
  rw [Nat.min_eq_left (by omega)] at h1
  rcases Nat.eq_zero_or_pos (val (ys.drop n)) with h0 | h0
  ·rw [h0] at h1; omega
  ·have : B64 ^ n * 1 ≤ B64 ^ n * val (ys.drop n) := Nat.mul_le_mul_left _ h0
   omega
 ·rw [List.take_of_length_le (by omega)]
theorem sub_end {z p b x y : Nat} (hz : z < p) (hx : y ≤ x) (hv : z + y = x + p * b) : z = x - y := by
 rcases Nat.eq_zero_or_pos b with h0 | h0
 ·subst h0; omega
 ·have : p * 1 ≤ p * b := Nat.mul_le_mul_left _ h0
  omega
def mid (cs : List Nat) (off : Nat) (zs : List Nat) : List Nat := cs.take off ++ (zs ++ cs.drop (off + zs.length))
theorem mid_nil (cs : List Nat) (off : Nat) : mid cs off [] = cs := by unfold mid; simp
theorem mid_length {cs zs : List Nat} {off : Nat} (h : off + zs.length ≤ cs.length) : (mid cs off zs).length = cs.length := by
 unfold mid; simp; omega
theorem mid_set {cs zs : List Nat} {off : Nat} (h : off + zs.length < cs.length) (x : Nat) : (mid cs off zs).set (off + zs.length) x = mid cs off (zs ++ [x]) := by
 unfold mid
 have h1 : (cs.take off).length = off := by rw [lK]; omega
 rw [List.set_append_right _ _ (by omega), h1, show off + zs.length - off = zs.length by omega, List.set_append_right _ _ (Nat.le_refl _), Nat.sub_self,
  List.drop_eq_getElem_cons h, List.set_cons_zero, List.append_assoc, List.length_append]
 rfl
theorem dg_append_right {xs ys : List Nat} {i : Nat} (h : xs.length ≤ i) : dg (xs ++ ys) i = dg ys (i - xs.length) := by
 unfold dg; rw [List.getD_eq_getElem?_getD, List.getD_eq_getElem?_getD, List.getElem?_append_right h]
theorem dg_mid_above {cs zs : List Nat} {off i : Nat} (h : off + zs.length ≤ i) (hc : off ≤ cs.length) : dg (mid cs off zs) i = dg cs i := by
 unfold mid
 have h1 : (cs.take off).length = off := by rw [lK]; omega
 rw [dg_append_right (by omega), h1, dg_append_right (by omega), dg_drop]
 congr 1
 omega
theorem Digs.mid {cs zs : List Nat} (h : Digs cs) (k : Digs zs) (off : Nat) : Digs (mid cs off zs) := (h.take off).append (k.append (h.drop _))
theorem dg_slice {cs : List Nat} {off n i : Nat} (h : i < n) : dg ((cs.drop off).take n) i = dg cs (off + i) := by rw [dg_take h, dg_drop]
theorem mul_round {v s t p c y x sk low cy l h : Nat} (hv : v + p * c = s + t * x) (h1 : low + B64 * cy = y * x + c) (h2 : l + B64 * h = sk + low) :
  v + p * l + p * B64 * (cy + h) = s + p * sk + (t + p * y) * x := by
 have e1 : p * l + p * (B64 * h) = p * sk + p * low := by rw [← mA, h2, mA]
 have e2 : p * low + p * (B64 * cy) = p * (y * x) + p * c := by rw [← mA, h1, mA]
 rw [mS, mA B64, mA p, Nat.add_mul, mS p y x]
 omega
theorem mul_carry_lt {y x c sk : Nat} (hy : y < B64) (hx : x < B64) (hc : c < B64) (hs : sk < B64) : hi (y * x + c) + hi (sk + lo (y * x + c)) < B64 := by
 have h1 := lo_hi (y * x + c)
 have h2 := lo_hi (sk + lo (y * x + c))
 have h3 := prod_lt hy hx hc
 have h4 : y * x + c + sk < B64 * B64 := by
  have e1 : y * x ≤ (B64 - 1) * (B64 - 1) := Nat.mul_le_mul (by omega) (by omega)
  have e2 : (B64 - 1) * (B64 - 1) + (B64 - 1) + (B64 - 1) < B64 * B64 := by rw [B64_eq]; omega
  omega
 refine Nat.lt_of_mul_lt_mul_left (a := B64) ?_
 rw [mA]
 omega
