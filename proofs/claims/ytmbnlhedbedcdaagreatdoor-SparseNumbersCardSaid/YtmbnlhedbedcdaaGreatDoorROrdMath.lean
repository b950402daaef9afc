/- ratio's order: plain mathematics of it, and a text read back. -/
import Derived.Test.YtmbnlhedbedcdaaGreatDoorRAwake
namespace Go.Proofs.YtmbnlhedbedcdaaGreatDoor.Q
open Go.RowKit
open Go.Proofs.YtmbnlhedbedcdaaGreatDoor.D (textOf parseV parse_text sizeText textOf_pos textOf_neg nd_le)

theorem qcmp_add (p r u : Rat) : qcmp (p + u) (r + u) = qcmp p r := by
  rcases tri p r with h | h | h
  · rw [qcmp_lt h, qcmp_lt (by grind)]
  · rw [h, qcmp_eq, qcmp_eq]
  · rw [qcmp_gt h, qcmp_gt (by grind)]
theorem qcmp_mul (p r u : Rat) : qcmp (p * u) (r * u) = qcmp p r * qsign u := by
  rcases tri u 0 with hu | hu | hu
  · rw [qsign_cmp u, qcmp_lt hu]
    rcases tri p r with h | h | h
    · have h2 : p * -u < r * -u := (Rat.mul_lt_mul_right (by grind)).2 h
      rw [qcmp_lt h, qcmp_gt (by grind)]; rfl
    · rw [h, qcmp_eq, qcmp_eq]; rfl
    · have h2 : r * -u < p * -u := (Rat.mul_lt_mul_right (by grind)).2 h
      rw [qcmp_gt h, qcmp_lt (by grind)]; rfl
  · rw [hu, Rat.mul_zero, Rat.mul_zero, qcmp_eq]
    show 0 = _ * 0
    rw [Int.mul_zero]
  · rw [qsign_cmp u, qcmp_gt hu, Int.mul_one]
    rcases tri p r with h | h | h
    · rw [qcmp_lt h, qcmp_lt ((Rat.mul_lt_mul_right hu).2 h)]
    · rw [h, qcmp_eq, qcmp_eq]
    · rw [qcmp_gt h, qcmp_gt ((Rat.mul_lt_mul_right hu).2 h)]
theorem qcmp_bound (p r : Rat) : -1 ≤ qcmp p r ∧ qcmp p r ≤ 1 := by unfold qcmp; split <;> (try split) <;> omega
theorem qcmp_trans {p r u : Rat} (h1 : ¬ 0 < qcmp p r) (h2 : ¬ 0 < qcmp r u) : qcmp p u ≤ 0 := by
  rw [qcmp_pos_iff] at h1 h2
  have h3 : ¬ 0 < qcmp p u := by rw [qcmp_pos_iff]; grind
  omega
theorem floor_ceil (p : Rat) : (((p.floor : Int) : Rat) = ((p.ceil : Int) : Rat)) ↔ p.den = 1 := by
  rw [Rat.intCast_inj]
  unfold Rat.floor Rat.ceil
  by_cases h : p.den = 1
  · rw [if_pos h, if_pos h]; exact ⟨fun _ => h, fun _ => rfl⟩
  · rw [if_neg h, if_neg h]; exact ⟨fun h2 => by omega, fun h2 => absurd h2 h⟩
theorem floor_1 (p : Rat) : qcmp ((p.floor : Int) : Rat) p ≤ 0 := by
  have h := Rat.floor_le p
  have : ¬ 0 < qcmp ((p.floor : Int) : Rat) p := by rw [qcmp_pos_iff]; grind
  omega
theorem floor_2 (p : Rat) : qcmp p (((p.floor : Int) : Rat) + 1) < 0 := by
  rw [qcmp_neg_iff]
  have h := Rat.lt_floor_add_one p
  rw [Rat.intCast_add] at h
  exact h
theorem ceil_1 (p : Rat) : 0 ≤ qcmp ((p.ceil : Int) : Rat) p := by
  have h := Rat.le_ceil (x := p)
  have : ¬ qcmp ((p.ceil : Int) : Rat) p < 0 := by rw [qcmp_neg_iff]; grind
  omega
theorem ceil_2 (p : Rat) : qcmp (((p.ceil : Int) : Rat) - 1) p < 0 := by
  rw [qcmp_neg_iff]
  have h := floor_2 (-p)
  rw [qcmp_neg_iff] at h
  rw [Rat.ceil_eq_neg_floor_neg, Rat.intCast_neg]
  grind
theorem ceil_zl (p : Rat) (k : Nat) (h : ql p ≤ k) : zl p.ceil ≤ k := by
  rw [Rat.ceil_eq_neg_floor_neg, zl_neg, Rat.floor_def]
  have h5 := zl_quo (-p).num ((-p).den : Int)
  have h6 := num_le (-p)
  rw [ql_neg] at h6
  omega
theorem floor_zl (p : Rat) (k : Nat) (h : ql p ≤ k) : zl p.floor ≤ k := by
  rw [Rat.floor_def]
  have h5 := zl_quo p.num (p.den : Int)
  have h6 := num_le p
  omega
theorem ql_int (z : Int) (k : Nat) (h : zl z ≤ k) (hk : 1 ≤ k) : ql (z : Rat) ≤ k := by
  show max (zl z) (dig 1).length ≤ k
  have e2 : (dig 1).length ≤ 1 := dig_length_le (by rw [B64_eq]; omega)
  omega
/-- No slash stands in a numeral. -/
theorem dec_slash (n : Nat) : (47 : UInt8) ∉ Lib.decDigits n := by
  induction n using Nat.strongRecOn with
  | _ n ih =>
    rw [Lib.decDigits]
    split
    · intro h
      rw [List.mem_singleton] at h
      have h2 : (47 : Nat) = 48 + n := by
        have := congrArg UInt8.toNat h
        rw [UInt8.toNat_ofNat'] at this
        have e : (47 : UInt8).toNat = 47 := rfl
        rw [e, Nat.mod_eq_of_lt (by omega)] at this
        exact this
      omega
    · intro h
      rcases List.mem_append.1 h with h | h
      · exact ih _ (Nat.div_lt_self (by omega) (by omega)) h
      · rw [List.mem_singleton] at h
        have := congrArg UInt8.toNat h
        rw [UInt8.toNat_ofNat'] at this
        have e : (47 : UInt8).toNat = 47 := rfl
        rw [e, Nat.mod_eq_of_lt (by omega)] at this
        omega
theorem text_slash (z : Int) : (47 : UInt8) ∉ textOf z := by
  unfold textOf
  split
  · decide
  · split
    · intro h
      rcases List.mem_cons.1 h with h | h
      · exact absurd h (by decide)
      · exact dec_slash _ h
    · exact dec_slash _
theorem slash_not {l : List UInt8} (h : (47 : UInt8) ∉ l) : slashAt l = none := by
  induction l with
  | nil => rfl
  | cons c r ih =>
    unfold slashAt
    have hc : ¬ (c == 47) = true := by rw [beq_iff_eq]; intro e; exact h (by rw [e]; exact List.mem_cons_self ..)
    rw [if_neg hc, ih (fun h2 => h (List.mem_cons_of_mem _ h2))]
theorem slash_mid {a b : List UInt8} (h : (47 : UInt8) ∉ a) : slashAt (a ++ 47 :: b) = some (a, b) := by
  induction a with
  | nil => rfl
  | cons c r ih =>
    show slashAt (c :: (r ++ 47 :: b)) = _
    unfold slashAt
    have hc : ¬ (c == 47) = true := by rw [beq_iff_eq]; intro e; exact h (by rw [e]; exact List.mem_cons_self ..)
    rw [if_neg hc, ih (fun h2 => h (List.mem_cons_of_mem _ h2))]
theorem len_dec {n k : Nat} (h : (dig n).length ≤ k) (hk : 0 < k) : (Lib.decDigits n).length ≤ 20 * k := by
  rw [Lib.decDigits_length]
  refine nd_le (by omega) ?_
  have h2 := val_lt (dig_digs n)
  rw [val_dig] at h2
  refine Nat.lt_of_lt_of_le h2 ?_
  refine Nat.le_trans (Nat.pow_le_pow_right B64_pos h) ?_
  rw [Nat.pow_mul]
  exact Nat.pow_le_pow_left (by rw [B64_eq]; decide) k
/-- What a text was told of is read of it. -/
theorem parse_back (p : Rat) (h : ql p ≤ 30) : qparse (qtext p) = (p, 0) := by
  have h1 := num_le p
  have h2 := den_le p
  have hz1 : zl p.num ≤ 30 := by omega
  have hz2 : zl (p.den : Int) ≤ 30 := by rw [den_zl]; omega
  have hn : parseV (textOf p.num) = (p.num, 0) := parse_text (Nat.le_trans (len_dec (k := 30) hz1 (by omega)) (by omega))
  have hd : parseV (textOf (p.den : Int)) = ((p.den : Int), 0) := parse_text (Nat.le_trans (len_dec (k := 30) hz2 (by omega)) (by omega))
  unfold qtext qparse
  by_cases hp : p.den = 1
  · rw [if_pos hp, slash_not (text_slash _)]
    show (if (parseV (textOf p.num)).2 = 11 ∨ (parseV [49]).2 = 11 ∨ Lib.hasPrefix [49] [45] = true then ((0 : Rat), (11 : Int)) else if (parseV (textOf p.num)).2 ≠ 0 ∨ (parseV [49]).2 ≠ 0 then (0, 3) else if (parseV [49]).1 = 0 then (0, 10) else (Rat.divInt (parseV (textOf p.num)).1 (parseV [49]).1, 0)) = (p, 0)
    rw [hn]
    have h49 : parseV [49] = (1, 0) := by kernel_rfl
    rw [h49, if_neg (by rintro (h | h | h) <;> cases h), if_neg (by rintro (h | h) <;> exact h rfl), if_neg (by decide)]
    have h3 := Rat.num_divInt_den p
    rw [hp] at h3
    show (Rat.divInt p.num 1, (0 : Int)) = _
    rw [show Rat.divInt p.num 1 = p from h3]
  · rw [if_neg hp, slash_mid (text_slash _)]
    have hden : (0 : Int) < (p.den : Int) := den_pos p
    have hpre : Lib.hasPrefix (textOf (p.den : Int)) [45] = false := by
      have h3 := Go.Proofs.YtmbnlhedbedcdaaGreatDoor.D.parse_text (z := (p.den : Int)) (Nat.le_trans (len_dec (k := 30) hz2 (by omega)) (by omega))
      cases hb : Lib.hasPrefix (textOf (p.den : Int)) [45] with
      | false => rfl
      | true =>
        exfalso
        have h4 : Go.Proofs.YtmbnlhedbedcdaaGreatDoor.D.signed (textOf (p.den : Int)) = true := hb
        have h5 := h3
        unfold parseV at h5
        split at h5
        · split at h5
          · have := congrArg Prod.snd h5; cases this
          · have h6 := congrArg Prod.fst h5
            rw [h4] at h6
            simp [zv] at h6
            omega
        · have := congrArg Prod.snd h5; cases this
    show (if (parseV (textOf p.num)).2 = 11 ∨ (parseV (textOf (p.den : Int))).2 = 11 ∨ Lib.hasPrefix (textOf (p.den : Int)) [45] = true then ((0 : Rat), (11 : Int)) else if (parseV (textOf p.num)).2 ≠ 0 ∨ (parseV (textOf (p.den : Int))).2 ≠ 0 then (0, 3) else if (parseV (textOf (p.den : Int))).1 = 0 then (0, 10) else (Rat.divInt (parseV (textOf p.num)).1 (parseV (textOf (p.den : Int))).1, 0)) = (p, 0)
    rw [hn, hd, hpre, if_neg (by rintro (h | h | h) <;> cases h), if_neg (by rintro (h | h) <;> exact h rfl), if_neg (by show ¬ (p.den : Int) = 0; omega)]
    show (Rat.divInt p.num (p.den : Int), (0 : Int)) = _
    rw [Rat.num_divInt_den]
end Go.Proofs.YtmbnlhedbedcdaaGreatDoor.Q
