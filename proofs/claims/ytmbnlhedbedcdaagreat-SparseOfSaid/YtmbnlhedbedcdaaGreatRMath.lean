/- Plain mathematics of fractions: what a quotient of two whole numbers is in its one form; no program is read here. -/
namespace Go.Proofs.YtmbnlhedbedcdaaGreat.Q

theorem low {n d : Int} (hd : 0 < d) : n / ((Nat.gcd n.natAbs d.natAbs : Nat) : Int) = (Rat.divInt n d).num ∧ d / ((Nat.gcd n.natAbs d.natAbs : Nat) : Int) = (((Rat.divInt n d).den : Nat) : Int) := by
  obtain ⟨k, rfl⟩ := Int.eq_ofNat_of_zero_le (Int.le_of_lt hd)
  have hk : k ≠ 0 := by omega
  rw [Rat.divInt_ofNat, Rat.mkRat_def, dif_neg hk, Rat.normalize_eq]
  constructor
  · rfl
  · show (k : Int) / _ = ((k / _ : Nat) : Int)
    rw [Int.natCast_ediv]; rfl
theorem gcd_pos {n d : Int} (hd : 0 < d) : 0 < Nat.gcd n.natAbs d.natAbs := Nat.gcd_pos_of_pos_right _ (by omega)
theorem low_back {n d : Int} (hd : 0 < d) : n = (Rat.divInt n d).num * ((Nat.gcd n.natAbs d.natAbs : Nat) : Int) ∧ d = (((Rat.divInt n d).den : Nat) : Int) * ((Nat.gcd n.natAbs d.natAbs : Nat) : Int) := by
  have h := low (n := n) hd
  rw [← h.1, ← h.2]
  constructor
  · exact (Int.ediv_mul_cancel (Int.dvd_natAbs.1 (by exact_mod_cast Nat.gcd_dvd_left _ _))).symm
  · exact (Int.ediv_mul_cancel (Int.dvd_natAbs.1 (by exact_mod_cast Nat.gcd_dvd_right _ _))).symm
/-- What is above the line has no more digits than what was. -/
theorem low_le {n d : Int} (hd : 0 < d) : (Rat.divInt n d).num.natAbs ≤ n.natAbs ∧ (Rat.divInt n d).den ≤ d.natAbs := by
  have h := low_back (n := n) hd
  have hg := gcd_pos (n := n) hd
  generalize Nat.gcd n.natAbs d.natAbs = g at h hg
  generalize Rat.divInt n d = q at h
  have h1 : n.natAbs = q.num.natAbs * g := by
    have := congrArg Int.natAbs h.1
    rwa [Int.natAbs_mul, Int.natAbs_natCast] at this
  have h2 : d.natAbs = q.den * g := by
    have := congrArg Int.natAbs h.2
    rwa [Int.natAbs_mul, Int.natAbs_natCast, Int.natAbs_natCast] at this
  rw [h1, h2]
  exact ⟨Nat.le_mul_of_pos_right _ hg, Nat.le_mul_of_pos_right _ hg⟩
theorem div_one (n : Int) : Rat.divInt n 1 = (n : Rat) := by rw [Rat.divInt_eq_div]; show (n:Rat) / ((1 : Int) : Rat) = n; grind
theorem one_num (n : Int) : (Rat.divInt n 1).num = n := by rw [div_one]; rfl
theorem one_den (n : Int) : (Rat.divInt n 1).den = 1 := by rw [div_one]; rfl
theorem div_mul {d : Int} (n : Int) (h : d ≠ 0) : Rat.divInt n d * (d : Rat) = (n : Rat) := by
  rw [Rat.divInt_eq_div]
  have : (d : Rat) ≠ 0 := by intro h2; exact h (Rat.intCast_inj.1 (by rw [h2]; rfl))
  grind
theorem floor_div {n d : Int} (hd : 0 < d) : n / d = (Rat.divInt n d).floor := by
  rw [Rat.floor_def]
  have h := low_back (n := n) hd
  have hg := gcd_pos (n := n) hd
  generalize Nat.gcd n.natAbs d.natAbs = g at h hg
  generalize Rat.divInt n d = q at h
  rw [h.1, h.2]
  exact Int.mul_ediv_mul_of_pos_left _ _ (by omega)
theorem whole_iff {n d : Int} (hd : 0 < d) : n % d = 0 ↔ (Rat.divInt n d).den = 1 := by
  have h := low_back (n := n) hd
  have hg := gcd_pos (n := n) hd
  constructor
  · intro hm
    have h2 : Rat.divInt n d = ((n / d : Int) : Rat) := by
      rw [← div_one]
      exact (Rat.divInt_eq_divInt_iff (by omega) (by omega)).2 (by rw [Int.mul_one]; exact (Int.ediv_mul_cancel (Int.dvd_of_emod_eq_zero hm)).symm)
    rw [h2]; rfl
  · intro h1
    rw [h1] at h
    have h3 : n = (Rat.divInt n d).num * d := by
      have h4 := h.1
      rw [show ((1 : Nat) : Int) * ((Nat.gcd n.natAbs d.natAbs : Nat) : Int) = ((Nat.gcd n.natAbs d.natAbs : Nat) : Int) by omega] at h
      rw [← h.2] at h4
      exact h4
    rw [h3]; exact Int.mul_emod_left _ _
theorem div_lt {n d m e : Int} (hd : 0 < d) (he : 0 < e) : Rat.divInt n d < Rat.divInt m e ↔ n * e < m * d := by
  have h1 := div_mul n (d := d) (by omega)
  have h2 := div_mul m (d := e) (by omega)
  have hp : (0 : Rat) < (d : Rat) * (e : Rat) := by rw [← Rat.intCast_mul]; exact Rat.intCast_pos.2 (Int.mul_pos hd he)
  rw [← Rat.mul_lt_mul_right hp, ← Rat.intCast_lt_intCast, Rat.intCast_mul, Rat.intCast_mul, ← h1, ← h2]
  have e1 : Rat.divInt n d * ((d : Rat) * (e : Rat)) = Rat.divInt n d * (d : Rat) * (e : Rat) := by grind
  have e2 : Rat.divInt m e * ((d : Rat) * (e : Rat)) = Rat.divInt m e * (e : Rat) * (d : Rat) := by grind
  rw [e1, e2]
theorem div_eq {n d m e : Int} (hd : 0 < d) (he : 0 < e) : Rat.divInt n d = Rat.divInt m e ↔ n * e = m * d := Rat.divInt_eq_divInt_iff (by omega) (by omega)

/-- The sign of a fraction; which of two is the greater. -/
def qsign (q : Rat) : Int := q.num.sign
def qcmp (y z : Rat) : Int := if y < z then -1 else if y = z then 0 else 1
theorem sign_pos {n d : Int} (hd : 0 < d) : qsign (Rat.divInt n d) = n.sign := by
  have h := low_back (n := n) hd
  have hg := gcd_pos (n := n) hd
  unfold qsign
  conv => rhs; rw [h.1]
  rw [Int.sign_mul, Int.sign_eq_one_of_pos (a := ((Nat.gcd n.natAbs d.natAbs : Nat) : Int)) (by omega), Int.mul_one]
theorem sign_div (n d : Int) : qsign (Rat.divInt n d) = n.sign * d.sign := by
  rcases Int.lt_trichotomy d 0 with h | h | h
  · have h1 := Rat.neg_divInt_neg n d
    rw [← h1, sign_pos (by omega), Int.sign_eq_neg_one_of_neg h, Int.sign_neg]; omega
  · rw [h, Rat.divInt_zero]; simp [qsign]
  · rw [sign_pos h, Int.sign_eq_one_of_pos h, Int.mul_one]
theorem qcmp_lt {y z : Rat} (h : y < z) : qcmp y z = -1 := if_pos h
theorem qcmp_eq (y : Rat) : qcmp y y = 0 := by unfold qcmp; rw [if_neg (Rat.lt_irrefl), if_pos rfl]
theorem qcmp_gt {y z : Rat} (h : z < y) : qcmp y z = 1 := by
  unfold qcmp
  rw [if_neg (fun h2 => Rat.lt_irrefl (a := y) (by grind)), if_neg (fun h2 => by subst h2; exact Rat.lt_irrefl h)]
theorem tri (y z : Rat) : y < z ∨ y = z ∨ z < y := by grind
theorem qcmp_neg_iff {y z : Rat} : qcmp y z < 0 ↔ y < z := by
  rcases tri y z with h | h | h
  · rw [qcmp_lt h]; exact ⟨fun _ => h, fun _ => by omega⟩
  · subst h; rw [qcmp_eq]; exact ⟨fun h => by omega, fun h => absurd h Rat.lt_irrefl⟩
  · rw [qcmp_gt h]; exact ⟨fun h => by omega, fun h2 => by grind⟩
theorem qcmp_zero_iff {y z : Rat} : qcmp y z = 0 ↔ y = z := by
  rcases tri y z with h | h | h
  · rw [qcmp_lt h]; exact ⟨fun h => by omega, fun h2 => by subst h2; exact absurd h Rat.lt_irrefl⟩
  · subst h; rw [qcmp_eq]; exact ⟨fun _ => rfl, fun _ => rfl⟩
  · rw [qcmp_gt h]; exact ⟨fun h => by omega, fun h2 => by subst h2; exact absurd h Rat.lt_irrefl⟩
theorem qcmp_swap (y z : Rat) : qcmp z y = - qcmp y z := by
  rcases tri y z with h | h | h
  · rw [qcmp_lt h, qcmp_gt h]; rfl
  · subst h; rw [qcmp_eq]; rfl
  · rw [qcmp_lt h, qcmp_gt h]
theorem qcmp_pos_iff {y z : Rat} : 0 < qcmp y z ↔ z < y := by rw [← qcmp_neg_iff, qcmp_swap z y]; omega
theorem qsign_pos_iff {q : Rat} : 0 < qsign q ↔ 0 < q := by
  unfold qsign
  rw [Int.sign_pos_iff, Rat.lt_iff]
  simp
theorem qsign_neg_iff {q : Rat} : qsign q < 0 ↔ q < 0 := by
  unfold qsign
  rw [Int.sign_neg_iff, Rat.lt_iff]
  simp
theorem qsign_zero_iff {q : Rat} : qsign q = 0 ↔ q = 0 := by
  unfold qsign
  rw [Int.sign_eq_zero_iff_zero]
  exact Rat.num_eq_zero
theorem qsign_cmp (q : Rat) : qsign q = qcmp q 0 := by
  rcases tri q 0 with h | h | h
  · rw [qcmp_lt h]; have := qsign_neg_iff.2 h; unfold qsign at *; exact Int.sign_eq_neg_one_of_neg (Int.sign_neg_iff.1 this)
  · subst h; rw [qcmp_eq]; rfl
  · rw [qcmp_gt h]; have := qsign_pos_iff.2 h; unfold qsign at *; exact Int.sign_eq_one_of_pos (Int.sign_pos_iff.1 this)
theorem both_add {n d m e g l k : Int} (hd : 0 < d) (he : 0 < e) (hl : e = l * g) (hk : d = k * g) (hp : 0 < l) : Rat.divInt (n * l + m * k) (d * l) = Rat.divInt n d + Rat.divInt m e := by
  rw [Rat.divInt_add_divInt _ _ (by omega) (by omega)]
  refine (div_eq (Int.mul_pos hd hp) (Int.mul_pos hd he)).2 ?_
  rw [hl, hk]; grind
theorem both_sub {n d m e g l k : Int} (hd : 0 < d) (he : 0 < e) (hl : e = l * g) (hk : d = k * g) (hp : 0 < l) : Rat.divInt (n * l - m * k) (d * l) = Rat.divInt n d - Rat.divInt m e := by
  rw [Rat.divInt_sub_divInt _ _ (by omega) (by omega)]
  refine (div_eq (Int.mul_pos hd hp) (Int.mul_pos hd he)).2 ?_
  rw [hl, hk]; grind
theorem gcd_parts {d e : Int} (hd : 0 < d) (he : 0 < e) : e = e / ((Nat.gcd d.natAbs e.natAbs : Nat) : Int) * ((Nat.gcd d.natAbs e.natAbs : Nat) : Int) ∧ d = d / ((Nat.gcd d.natAbs e.natAbs : Nat) : Int) * ((Nat.gcd d.natAbs e.natAbs : Nat) : Int) ∧ 0 < e / ((Nat.gcd d.natAbs e.natAbs : Nat) : Int) ∧ 0 < d / ((Nat.gcd d.natAbs e.natAbs : Nat) : Int) := by
  have hg : 0 < Nat.gcd d.natAbs e.natAbs := gcd_pos he
  have h1 : e = e / ((Nat.gcd d.natAbs e.natAbs : Nat) : Int) * ((Nat.gcd d.natAbs e.natAbs : Nat) : Int) := (Int.ediv_mul_cancel (Int.dvd_natAbs.1 (by exact_mod_cast Nat.gcd_dvd_right _ _))).symm
  have h2 : d = d / ((Nat.gcd d.natAbs e.natAbs : Nat) : Int) * ((Nat.gcd d.natAbs e.natAbs : Nat) : Int) := (Int.ediv_mul_cancel (Int.dvd_natAbs.1 (by exact_mod_cast Nat.gcd_dvd_left _ _))).symm
  refine ⟨h1, h2, ?_, ?_⟩
  · rcases Int.lt_or_le 0 (e / ((Nat.gcd d.natAbs e.natAbs : Nat) : Int)) with h | h
    · exact h
    · have := Int.mul_nonpos_of_nonpos_of_nonneg h (show (0 : Int) ≤ ((Nat.gcd d.natAbs e.natAbs : Nat) : Int) by omega)
      omega
  · rcases Int.lt_or_le 0 (d / ((Nat.gcd d.natAbs e.natAbs : Nat) : Int)) with h | h
    · exact h
    · have := Int.mul_nonpos_of_nonpos_of_nonneg h (show (0 : Int) ≤ ((Nat.gcd d.natAbs e.natAbs : Nat) : Int) by omega)
      omega
theorem div_quo {n d m e : Int} : Rat.divInt (n * e) (d * m) = Rat.divInt n d / Rat.divInt m e := by
  rw [Rat.div_def, Rat.inv_divInt, Rat.divInt_mul_divInt]
theorem div_neg (n d : Int) : Rat.divInt (-n) d = -Rat.divInt n d := (Rat.neg_divInt n d).symm
theorem cmp_div {n d m e : Int} (hd : 0 < d) (he : 0 < e) : qcmp (Rat.divInt n d) (Rat.divInt m e) = if n * e < m * d then -1 else if n * e = m * d then 0 else 1 := by
  unfold qcmp
  by_cases h : n * e < m * d
  · rw [if_pos h, if_pos ((div_lt hd he).2 h)]
  · rw [if_neg h, if_neg (fun h2 => h ((div_lt hd he).1 h2))]
    by_cases h1 : n * e = m * d
    · rw [if_pos h1, if_pos ((div_eq hd he).2 h1)]
    · rw [if_neg h1, if_neg (fun h2 => h1 ((div_eq hd he).1 h2))]
end Go.Proofs.YtmbnlhedbedcdaaGreat.Q
