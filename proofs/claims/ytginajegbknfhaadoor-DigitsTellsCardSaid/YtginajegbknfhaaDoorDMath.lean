/- Text and Parse, one behind the other: mathematics. -/
import Derived.Test.YtginajegbknfhaaDoorDParse
namespace Go.Proofs.YtginajegbknfhaaDoor.D
open Go.RowKit

theorem ofNat_sub {c : UInt8} (h : isDig c = true) : UInt8.ofNat (48 + (c.toNat - 48)) = c := by
  have h1 := isDig_range h
  rw [show 48 + (c.toNat - 48) = c.toNat by omega]
  exact UInt8.ofNat_toNat
theorem toNat_dig {k : Nat} (h : k < 10) : (UInt8.ofNat (48 + k)).toNat = 48 + k := by
  rw [UInt8.toNat_ofNat']
  omega
theorem isDig_ofNat {k : Nat} (h : k < 10) : isDig (UInt8.ofNat (48 + k)) = true := by
  unfold isDig
  rw [toNat_dig h]
  simp
  omega
theorem dec_all (n : Nat) : (Lib.decDigits n).all isDig = true := by
  induction n using Nat.strongRecOn with
  | _ n ih =>
    by_cases h : n < 10
    · rw [Lib.decDigits_one h, List.all_cons, List.all_nil, isDig_ofNat h]; rfl
    · rw [Lib.decDigits, dif_neg h, List.all_append, ih (n / 10) (by omega), List.all_cons, List.all_nil, isDig_ofNat (Nat.mod_lt n (by omega))]; rfl
theorem dnum_dec (n : Nat) : dnum (Lib.decDigits n) = n := by
  induction n using Nat.strongRecOn with
  | _ n ih =>
    by_cases h : n < 10
    · rw [Lib.decDigits_one h]
      show 10 * 0 + ((UInt8.ofNat (48 + n)).toNat - 48) = n
      rw [toNat_dig h]; omega
    · rw [Lib.decDigits, dif_neg h, dnum_snoc, ih (n / 10) (by omega), toNat_dig (Nat.mod_lt n (by omega))]
      omega
theorem dnum_pos {x : UInt8} {r : List UInt8} (hx : x ≠ 48) (h : (x :: r).all isDig = true) : 0 < dnum (x :: r) := by
  have hd := isDig_range (List.all_eq_true.1 h x (List.mem_cons_self ..))
  have hne : x.toNat ≠ 48 := fun e => hx (UInt8.toNat_inj.1 e)
  have h1 : 0 < 10 ^ r.length := Nat.pow_pos (by omega)
  have h2 : 1 * 10 ^ r.length ≤ (x.toNat - 48) * 10 ^ r.length := Nat.mul_le_mul_right _ (by omega)
  have h3 := dnum_cons x r
  omega
theorem dec_dnum : ∀ (n : Nat) (x : UInt8) (r : List UInt8), r.length = n → (x :: r).all isDig = true → (x ≠ 48 ∨ r = []) → Lib.decDigits (dnum (x :: r)) = x :: r := by
  intro n
  induction n with
  | zero =>
    intro x r hr h _
    have hr0 := List.length_eq_zero_iff.1 hr
    subst hr0
    have hx := List.all_eq_true.1 h x (List.mem_cons_self ..)
    have h1 := isDig_range hx
    have e : dnum [x] = x.toNat - 48 := by show 10 * 0 + (x.toNat - 48) = _; omega
    rw [e, Lib.decDigits_one (by omega), ofNat_sub hx]
  | succ n ih =>
    intro x r hr h hh
    have hne : r ≠ [] := by intro e; rw [e] at hr; simp at hr
    have hx : x ≠ 48 := by rcases hh with h1 | h1; exact h1; exact absurd h1 hne
    have e := List.dropLast_concat_getLast hne
    obtain ⟨c, hc⟩ : ∃ c, r.getLast hne = c := ⟨_, rfl⟩
    obtain ⟨q, hq⟩ : ∃ q, r.dropLast = q := ⟨_, rfl⟩
    rw [hc, hq] at e
    rw [← e] at h ⊢
    have hq2 : (x :: q).all isDig = true ∧ isDig c = true := by
      rw [← List.cons_append, List.all_append] at h
      simpa using h
    have hql : q.length = n := by rw [← hq, List.length_dropLast]; omega
    have h1 := ih x q hql hq2.1 (.inl hx)
    have hp := dnum_pos hx hq2.1
    have hr1 := isDig_range hq2.2
    rw [← List.cons_append, dnum_snoc]
    rw [Lib.decDigits, dif_neg (by omega)]
    rw [show (10 * dnum (x :: q) + (c.toNat - 48)) / 10 = dnum (x :: q) by omega, show (10 * dnum (x :: q) + (c.toNat - 48)) % 10 = c.toNat - 48 by omega, h1, ofNat_sub hq2.2]
/-- A sign and digits. -/
theorem signed_of {l : List UInt8} (h : signed l = true) : l = 45 :: behind l := by
  match l, h with
  | x :: r, h =>
    have hx : x = 45 := by
      unfold signed Lib.hasPrefix at h
      simp [List.isPrefixOf] at h
      exact h.symm
    subst hx
    unfold behind Lib.trimPrefix
    rw [if_pos (by unfold signed at h; exact h)]
    rfl
theorem behind_of {l : List UInt8} (h : signed l = false) : behind l = l := by
  unfold behind Lib.trimPrefix
  rw [if_neg (by unfold signed at h; rw [h]; decide)]
theorem signed_cons (r : List UInt8) : signed (45 :: r) = true := by unfold signed Lib.hasPrefix; simp [List.isPrefixOf]
theorem signed_dig {l : List UInt8} (h : l.all isDig = true) : signed l = false := by
  cases hs : signed l with
  | false => rfl
  | true =>
    have e := signed_of hs
    rw [e] at h
    have := isDig_range (List.all_eq_true.1 h 45 (List.mem_cons_self ..))
    simp at this
theorem behind_cons (r : List UInt8) : behind (45 :: r) = r := by
  exact (List.cons.inj (signed_of (signed_cons r))).2.symm
/-- A numeral is its number's text. -/
theorem text_num {d : List UInt8} {b : Bool} (h : isNumB d b = true) : textOf (zv b (dnum d)) = if b = true then 45 :: d else d := by
  match d, h with
  | x :: r, h =>
    unfold isNumB at h
    simp only [Bool.and_eq_true, Bool.not_eq_true', Bool.and_eq_false_iff, Bool.or_eq_false_iff] at h
    have hx : x ≠ 48 ∨ r = [] := by
      rcases h.1 with h1 | h1
      · left; rw [beq_eq_false_iff_ne] at h1; exact h1
      · right; have := h1.2; simpa using this
    have hdd := dec_dnum _ x r rfl h.2 hx
    cases b with
    | true =>
      have hx2 : x ≠ 48 := by
        rcases h.1 with h1 | h1
        · rw [beq_eq_false_iff_ne] at h1; exact h1
        · exact absurd h1.1 (by decide)
      have hp := dnum_pos hx2 h.2
      have hz : zv true (dnum (x :: r)) < 0 := by unfold zv; simp; omega
      rw [textOf_neg hz, zv_natAbs]
      unfold sizeText
      rw [if_neg (by omega), hdd]
      rfl
    | false =>
      simp only [Bool.false_eq_true, if_false]
      by_cases h0 : dnum (x :: r) = 0
      · have hx48 : x = 48 := by
          rcases Decidable.em (x = 48) with h1 | h1
          · exact h1
          · have := dnum_pos h1 h.2; omega
        have hr : r = [] := by
          rcases hx with h1 | h1
          · exact absurd hx48 h1
          · exact h1
        subst hx48 hr
        rfl
      · have hz : 0 < zv false (dnum (x :: r)) := by unfold zv; simp; omega
        rw [textOf_pos hz, zv_natAbs]
        unfold sizeText
        rw [if_neg h0, hdd]
/-- Text of what Parse tells is the text. -/
theorem text_parse {l : List UInt8} {z : Int} (h : parseV l = (z, 0)) : textOf z = l := by
  unfold parseV at h
  by_cases hn : isNumB (behind l) (signed l) = true
  · rw [if_pos hn] at h
    by_cases hl : 600 < (behind l).length
    · rw [if_pos hl] at h
      injection h with _ h
      exact absurd h (by decide)
    · rw [if_neg hl] at h
      injection h with h _
      rw [← h, text_num hn]
      cases hs : signed l with
      | true => rw [if_pos rfl]; exact (signed_of hs).symm
      | false => simp only [Bool.false_eq_true, if_false]; exact behind_of hs
  · rw [if_neg hn] at h
    injection h with _ h
    exact absurd h (by decide)
theorem num_dec {n : Nat} (h : 0 < n) (b : Bool) : isNumB (Lib.decDigits n) b = true := by
  obtain ⟨d, r, e, hd⟩ := dg_top h
  have ha := dec_all n
  rw [e] at ha ⊢
  unfold isNumB
  have : (d == 48) = false := by rw [beq_eq_false_iff_ne]; exact hd
  simp only [this, Bool.false_and, Bool.not_false, Bool.true_and]
  exact ha
/-- Parse of a number's text is the number. -/
theorem parse_text {z : Int} (h : (Lib.decDigits z.natAbs).length ≤ 600) : parseV (textOf z) = (z, 0) := by
  rcases Int.lt_trichotomy z 0 with hz | hz | hz
  · have hp : 0 < z.natAbs := by omega
    rw [textOf_neg hz]
    unfold sizeText
    rw [if_neg (by omega)]
    unfold parseV
    rw [signed_cons, behind_cons, if_pos (num_dec hp true), if_neg (by omega), dnum_dec]
    congr 1
    unfold zv
    simp; omega
  · subst hz; decide
  · have hp : 0 < z.natAbs := by omega
    rw [textOf_pos hz]
    unfold sizeText
    rw [if_neg (by omega)]
    unfold parseV
    rw [signed_dig (dec_all _), behind_of (signed_dig (dec_all _)), if_pos (num_dec hp false), if_neg (by omega), dnum_dec]
    congr 1
    unfold zv
    simp; omega
end Go.Proofs.YtginajegbknfhaaDoor.D
