/- QLow: several texts in one. -/
import Derived.Test.YtmbnlhedbedcdaaGreatRMath
import Derived.Test.YtmbnlhedbedcdaaGreatWAll
import Derived.Test.YtmbnlhedbedcdaaGreatGAll
/- Fractions in memory: what they count, and what calls hand back; whole's contracts over letters. -/
namespace Go.Proofs.YtmbnlhedbedcdaaGreat.Q
open Go.RowKit

/-- A whole number, in any form, of at most k digits. -/
structure IsZ (w : World) (s : Bool) (A : Option Addr) (n c : Nat) (z : Int) (k : Nat) : Prop where
  ex : ∃ xs, n = xs.length ∧ Num w A xs ∧ zv s (val xs) = z
  le : n ≤ k
  cap : n ≤ c
/-- A whole number in the one form. -/
structure OneZ (w : World) (s : Bool) (A : Option Addr) (n c : Nat) (z : Int) : Prop where
  es : s = zneg z
  en : n = zl z
  num : Num w A (dig z.natAbs)
  cap : n ≤ c
def RetJ (w : World) (z : Int) (e : Ending) (w' : World) : Prop :=
  ∃ s A n c, e = .returned (.agg #[.bool s, .slice A n c]) ∧ OneZ w' s A n c z ∧ Below w.heap.size w w'
def RetJJ (w : World) (y z : Int) (e : Ending) (w' : World) : Prop :=
  ∃ s A n c t B m d, e = .returned (.tuple #[.agg #[.bool s, .slice A n c], .agg #[.bool t, .slice B m d]]) ∧ OneZ w' s A n c y ∧ OneZ w' t B m d z ∧ Below w.heap.size w w'
section
variable {w w' : World} {s : Bool} {A : Option Addr} {n c k l : Nat} {z : Int}
theorem IsZ.below (h : IsZ w s A n c z k) (hb : Below w.heap.size w w') : IsZ w' s A n c z k := ⟨by obtain ⟨xs, h1, h2, h3⟩ := h.ex; exact ⟨xs, h1, h2.below hb, h3⟩, h.le, h.cap⟩
theorem IsZ.mono (h : IsZ w s A n c z k) (hk : k ≤ l) : IsZ w s A n c z l := ⟨h.ex, Nat.le_trans h.le hk, h.cap⟩
theorem IsZ.zl (h : IsZ w s A n c z k) : zl z ≤ k := by
  obtain ⟨xs, h1, h2, h3⟩ := h.ex
  exact Nat.le_trans (zl_val h2.1 h3) (h1 ▸ h.le)
theorem OneZ.below (h : OneZ w s A n c z) (hb : Below w.heap.size w w') : OneZ w' s A n c z := ⟨h.es, h.en, h.num.below hb, h.cap⟩
theorem OneZ.isz (h : OneZ w s A n c z) (hk : Go.Proofs.YtmbnlhedbedcdaaGreat.zl z ≤ k) : IsZ w s A n c z k := ⟨⟨_, h.en, h.num, by rw [h.es]; exact zv_dig z⟩, by rw [h.en]; exact hk, h.cap⟩
theorem IsZ.alloc (h : IsZ w s A n c z k) (o : Obj) : IsZ (w.alloc o) s A n c z k := h.below ((Below.refl _ _).alloc (Nat.le_refl _) o)
theorem OneZ.alloc (h : OneZ w s A n c z) (o : Obj) : OneZ (w.alloc o) s A n c z := h.below ((Below.refl _ _).alloc (Nat.le_refl _) o)
theorem IsZ.drew (h : IsZ w s A n c z k) : IsZ w.drew s A n c z k := h.below ((Below.refl _ _).drew)
theorem OneZ.drew (h : OneZ w s A n c z) : OneZ w.drew s A n c z := h.below ((Below.refl _ _).drew)
end
theorem retj_of {w w' : World} {z : Int} {e : Ending} (h : RetZ w z e w') : RetJ w z e w' := by
  obtain ⟨A, c, rfl, hc, hn, hb⟩ := h
  exact ⟨_, _, _, _, rfl, ⟨rfl, rfl, hn, hc⟩, hb⟩

/-- What is divided by: 1, where there are no digits. -/
def rden (t : Bool) (ys : List Nat) : Int := if ys.length = 0 then 1 else zv t (val ys)
/-- The digits of what is divided by, in the one form. -/
def dden (q : Rat) : List Nat := if q.den = 1 then [] else dig q.den
/-- How many digits a fraction has, above and below the line. -/
def ql (q : Rat) : Nat := max (zl q.num) (dig q.den).length
/-- A fraction, in any form, of at most k digits above and below. -/
structure IsQ (w : World) (s : Bool) (A : Option Addr) (n c : Nat) (t : Bool) (B : Option Addr) (m d : Nat) (q : Rat) (k : Nat) : Prop where
  ex : ∃ xs ys, n = xs.length ∧ m = ys.length ∧ Num w A xs ∧ Num w B ys ∧ Rat.divInt (zv s (val xs)) (rden t ys) = q
  le : n ≤ k
  le2 : m ≤ k
  cap : n ≤ c
  cap2 : m ≤ d
/-- A fraction in the one form. -/
structure OneQ (w : World) (s : Bool) (A : Option Addr) (n c : Nat) (t : Bool) (B : Option Addr) (m d : Nat) (q : Rat) : Prop where
  es : s = zneg q.num
  en : n = zl q.num
  et : t = false
  em : m = (dden q).length
  num : Num w A (dig q.num.natAbs)
  den : Num w B (dden q)
  cap : n ≤ c
  cap2 : m ≤ d
def RetQ (w : World) (q : Rat) (e : Ending) (w' : World) : Prop :=
  ∃ s A n c t B m d, e = .returned (.agg #[.bool s, .slice A n c, .bool t, .slice B m d]) ∧ OneQ w' s A n c t B m d q ∧ Below w.heap.size w w'
theorem dden_le (q : Rat) : (dden q).length ≤ ql q := by
  unfold dden ql
  split
  · simp
  · omega
theorem num_le (q : Rat) : zl q.num ≤ ql q := by unfold ql; omega
theorem den_le (q : Rat) : (dig q.den).length ≤ ql q := by unfold ql; omega
theorem one_val (q : Rat) : Rat.divInt (zv (zneg q.num) (val (dig q.num.natAbs))) (rden false (dden q)) = q := by
  rw [zv_dig]
  by_cases h : q.den = 1
  · have e : dden q = [] := if_pos h
    have h2 := Rat.num_divInt_den q
    rw [h] at h2
    rw [e]
    exact h2
  · have e : dden q = dig q.den := if_neg h
    have hne : (dig q.den).length ≠ 0 := by
      intro h2
      have := dig_nil_iff.1 h2
      exact q.den_nz this
    rw [e]
    unfold rden
    rw [if_neg hne, val_dig]
    exact Rat.num_divInt_den q
section
variable {w w' : World} {s t : Bool} {A B : Option Addr} {n c m d k l : Nat} {q : Rat}
theorem IsQ.below (h : IsQ w s A n c t B m d q k) (hb : Below w.heap.size w w') : IsQ w' s A n c t B m d q k :=
  ⟨by obtain ⟨xs, ys, h1, h2, h3, h4, h5⟩ := h.ex; exact ⟨xs, ys, h1, h2, h3.below hb, h4.below hb, h5⟩, h.le, h.le2, h.cap, h.cap2⟩
theorem IsQ.mono (h : IsQ w s A n c t B m d q k) (hk : k ≤ l) : IsQ w s A n c t B m d q l := ⟨h.ex, Nat.le_trans h.le hk, Nat.le_trans h.le2 hk, h.cap, h.cap2⟩
theorem IsQ.alloc (h : IsQ w s A n c t B m d q k) (o : Obj) : IsQ (w.alloc o) s A n c t B m d q k := h.below ((Below.refl _ _).alloc (Nat.le_refl _) o)
theorem IsQ.drew (h : IsQ w s A n c t B m d q k) : IsQ w.drew s A n c t B m d q k := h.below ((Below.refl _ _).drew)
theorem OneQ.below (h : OneQ w s A n c t B m d q) (hb : Below w.heap.size w w') : OneQ w' s A n c t B m d q :=
  ⟨h.es, h.en, h.et, h.em, h.num.below hb, h.den.below hb, h.cap, h.cap2⟩
theorem OneQ.alloc (h : OneQ w s A n c t B m d q) (o : Obj) : OneQ (w.alloc o) s A n c t B m d q := h.below ((Below.refl _ _).alloc (Nat.le_refl _) o)
theorem OneQ.drew (h : OneQ w s A n c t B m d q) : OneQ w.drew s A n c t B m d q := h.below ((Below.refl _ _).drew)
theorem OneQ.isq (h : OneQ w s A n c t B m d q) (hk : ql q ≤ k) : IsQ w s A n c t B m d q k :=
  ⟨⟨_, _, h.en, h.em, h.num, h.den, by rw [h.es, h.et]; exact one_val q⟩, by rw [h.en]; exact Nat.le_trans (num_le q) hk, by rw [h.em]; exact Nat.le_trans (dden_le q) hk, h.cap, h.cap2⟩
theorem OneQ.top (h : OneQ w s A n c t B m d q) : OneZ w s A n c q.num := ⟨h.es, h.en, h.num, h.cap⟩
end
/-- The sizes of what is reckoned. -/
theorem ql_div {n d : Int} (hd : 0 < d) : ql (Rat.divInt n d) ≤ max (zl n) (zl d) := by
  have h := low_le (n := n) hd
  unfold ql zl
  have h1 := dl_le h.1
  have h2 := dl_le h.2
  omega
theorem ql_neg (q : Rat) : ql (-q) = ql q := by unfold ql zl; rw [Rat.neg_num, Rat.neg_den, Int.natAbs_neg]
theorem den_zl (q : Rat) : zl (q.den : Int) = (dig q.den).length := by unfold zl; rw [Int.natAbs_natCast]
theorem den_pos (q : Rat) : (0 : Int) < (q.den : Int) := by have := q.den_nz; omega
theorem ql_add (y z : Rat) : ql (y + z) ≤ 2 * ql y + 2 * ql z + 1 := by
  have h : y + z = Rat.divInt (y.num * (z.den : Int) + z.num * (y.den : Int)) ((y.den : Int) * (z.den : Int)) := by
    conv => lhs; rw [← Rat.num_divInt_den y, ← Rat.num_divInt_den z]
    exact Rat.divInt_add_divInt _ _ (by have := den_pos y; omega) (by have := den_pos z; omega)
  rw [h]
  refine Nat.le_trans (ql_div (Int.mul_pos (den_pos y) (den_pos z))) ?_
  have h1 := zl_add (y.num * (z.den : Int)) (z.num * (y.den : Int))
  have h2 := zl_mul y.num (z.den : Int)
  have h3 := zl_mul z.num (y.den : Int)
  have h4 := zl_mul (y.den : Int) (z.den : Int)
  have h5 := num_le y
  have h6 := num_le z
  have h7 := den_le y
  have h8 := den_le z
  have h9 := den_zl y
  have h10 := den_zl z
  omega
theorem ql_sub (y z : Rat) : ql (y - z) ≤ 2 * ql y + 2 * ql z + 1 := by
  have h := ql_add y (-z)
  rw [ql_neg] at h
  rwa [Rat.sub_eq_add_neg]
theorem ql_mul (y z : Rat) : ql (y * z) ≤ ql y + ql z := by
  have h : y * z = Rat.divInt (y.num * z.num) ((y.den : Int) * (z.den : Int)) := by
    conv => lhs; rw [← Rat.num_divInt_den y, ← Rat.num_divInt_den z]
    exact Rat.divInt_mul_divInt _ _
  rw [h]
  refine Nat.le_trans (ql_div (Int.mul_pos (den_pos y) (den_pos z))) ?_
  have h2 := zl_mul y.num z.num
  have h4 := zl_mul (y.den : Int) (z.den : Int)
  have h5 := num_le y
  have h6 := num_le z
  have h7 := den_le y
  have h8 := den_le z
  have h9 := den_zl y
  have h10 := den_zl z
  omega
theorem ql_inv (z : Rat) : ql z⁻¹ ≤ ql z := by
  have h : z⁻¹ = Rat.divInt (z.den : Int) z.num := by
    conv => lhs; rw [← Rat.num_divInt_den z]
    exact Rat.inv_divInt _ _
  have h5 := num_le z
  have h7 := den_le z
  have h8 := den_zl z
  rcases Int.lt_trichotomy z.num 0 with hn | hn | hn
  · rw [h, ← Rat.neg_divInt_neg]
    refine Nat.le_trans (ql_div (by omega)) ?_
    rw [zl_neg, zl_neg]
    omega
  · have : z = 0 := Rat.num_eq_zero.1 hn
    subst this
    rw [Rat.inv_zero]
    exact Nat.le_refl _
  · rw [h]
    refine Nat.le_trans (ql_div hn) ?_
    omega
theorem ql_quo (y z : Rat) : ql (y / z) ≤ ql y + ql z := by
  rw [Rat.div_def]
  exact Nat.le_trans (ql_mul _ _) (by have := ql_inv z; omega)
theorem IsQ.ql {w : World} {s t : Bool} {A B : Option Addr} {n c m d k : Nat} {q : Rat} (h : IsQ w s A n c t B m d q k) (hk : 1 ≤ k) : Go.Proofs.YtmbnlhedbedcdaaGreat.Q.ql q ≤ k := by
  obtain ⟨xs, ys, h1, h2, h3, h4, h5⟩ := h.ex
  have l1 := zl_val h3.1 (rfl : zv s (val xs) = _)
  have hle := h.le
  have hle2 := h.le2
  unfold rden at h5
  split at h5
  · rw [← h5]
    refine Nat.le_trans (ql_div (by omega)) ?_
    have : zl 1 ≤ 1 := zl_small (by omega) (by omega)
    omega
  · have l2 := zl_val h4.1 (rfl : zv t (val ys) = _)
    rcases Int.lt_trichotomy (zv t (val ys)) 0 with hn | hn | hn
    · rw [← h5, ← Rat.neg_divInt_neg]
      refine Nat.le_trans (ql_div (by omega)) ?_
      rw [zl_neg, zl_neg]
      omega
    · rw [hn, Rat.divInt_zero] at h5
      rw [← h5]
      have : Go.Proofs.YtmbnlhedbedcdaaGreat.Q.ql 0 = max (zl 0) (dig 1).length := rfl
      have e1 : zl 0 ≤ 1 := zl_small (by omega) (by omega)
      have e2 : (dig 1).length ≤ 1 := dig_length_le (by rw [B64_eq]; omega)
      omega
    · rw [← h5]
      refine Nat.le_trans (ql_div hn) ?_
      omega

/- whole's calls, over letters. -/
section
variable {w : World} {s t : Bool} {A B : Option Addr} {n c m d k : Nat} {y z : Int}
theorem add_j (h1 : IsZ w s A n c y k) (h2 : IsZ w t B m d z k) (hk : k ≤ 3000) : Calls Tryz.prog 99 #[.agg #[.bool s, .slice A n c], .agg #[.bool t, .slice B m d]] w (RetJ w (y + z)) := by
  obtain ⟨xs, rfl, ha, hx⟩ := h1.ex
  obtain ⟨ys, rfl, hb, hy⟩ := h2.ex
  exact (add_z w s t A B c d xs ys y z ha hb hx hy (by have := h1.le; omega) (by have := h2.le; omega) h1.cap h2.cap _ rfl).mono fun _ _ => retj_of
theorem mul_j (h1 : IsZ w s A n c y k) (h2 : IsZ w t B m d z k) (hk : k ≤ 3000) : Calls Tryz.prog 100 #[.agg #[.bool s, .slice A n c], .agg #[.bool t, .slice B m d]] w (RetJ w (y * z)) := by
  obtain ⟨xs, rfl, ha, hx⟩ := h1.ex
  obtain ⟨ys, rfl, hb, hy⟩ := h2.ex
  exact (mul_z w s t A B c d xs ys y z ha hb hx hy (by have := h1.le; omega) (by have := h2.le; omega) h1.cap h2.cap _ rfl).mono fun _ _ => retj_of
theorem cmp_j (h1 : IsZ w s A n c y k) (h2 : IsZ w t B m d z k) (hk : k ≤ 3000) : Calls Tryz.prog 134 #[.agg #[.bool s, .slice A n c], .agg #[.bool t, .slice B m d]] w (RetI w (zcmp y z)) := by
  obtain ⟨xs, rfl, ha, hx⟩ := h1.ex
  obtain ⟨ys, rfl, hb, hy⟩ := h2.ex
  exact cmp_z w s t A B c d xs ys y z ha hb hx hy (by have := h1.le; omega) (by have := h2.le; omega) h1.cap h2.cap _ rfl
theorem divmod_j (h1 : IsZ w s A n c y k) (h2 : IsZ w t B m d z k) (hk : k ≤ 3000) : Calls Tryz.prog 151 #[.agg #[.bool s, .slice A n c], .agg #[.bool t, .slice B m d]] w (RetJJ w (y / z) (zrem y z)) := by
  obtain ⟨xs, rfl, ha, hx⟩ := h1.ex
  obtain ⟨ys, rfl, hb, hy⟩ := h2.ex
  refine (divmod_z w s t A B c d xs ys y z ha hb hx hy (by have := h1.le; omega) (by have := h2.le; omega) h1.cap h2.cap _ _ rfl rfl).mono ?_
  rintro e w' ⟨A1, c1, B1, d1, rfl, hc, hd, h3, h4, h5⟩
  exact ⟨_, _, _, _, _, _, _, _, rfl, ⟨rfl, rfl, h3, hc⟩, ⟨rfl, rfl, h4, hd⟩, h5⟩
theorem norm_j (h1 : IsZ w s A n c y k) (hk : k ≤ 3000) : Calls Tryz.prog 94 #[.agg #[.bool s, .slice A n c]] w (RetJ w y) := by
  obtain ⟨xs, rfl, ha, hx⟩ := h1.ex
  exact (norm_z w s A c xs y ha hx (by have := h1.le; omega) h1.cap _ rfl).mono fun _ _ => retj_of
theorem sign_j (h1 : IsZ w s A n c y k) (hk : k ≤ 3000) (r : Int) (hr : y.sign = r) : Calls Tryz.prog 110 #[.agg #[.bool s, .slice A n c]] w (RetI w r) := by
  obtain ⟨xs, rfl, ha, hx⟩ := h1.ex
  exact sign_z w s A c xs y ha hx (by have := h1.le; omega) h1.cap _ hr
theorem small_j (h1 : IsZ w s A n c y k) (hk : k ≤ 3000) : Calls Tryz.prog 152 #[.agg #[.bool s, .slice A n c]] w (fun e w' => e = .returned (.tuple #[.int .i64 (smallv y), .bool (smallb y)]) ∧ Below w.heap.size w w') := by
  obtain ⟨xs, rfl, ha, hx⟩ := h1.ex
  exact small_any w s A c xs y ha hx (by have := h1.le; omega) h1.cap
end
theorem of_j (w : World) (z : Int) (h1 : -9223372036854775808 ≤ z) (h2 : z ≤ 9223372036854775807) : Calls Tryz.prog 96 #[.int .i64 z] w (RetJ w z) := (of_z w z z rfl h1 h2).mono fun _ _ => retj_of
theorem smallv_one (z : Int) : (smallv z == 1) = decide (z = 1) := by
  unfold smallv
  split
  · rfl
  · rename_i h
    rw [decide_eq_false (by rintro rfl; exact h ⟨by omega, by omega⟩)]
    rfl
end Go.Proofs.YtmbnlhedbedcdaaGreat.Q

/- A fraction's block in memory; what stands when a struct's block is written. -/
namespace Go.Proofs.YtmbnlhedbedcdaaGreat.Q
open Go.RowKit

/-- A block that holds no number. -/
def Box (w : World) (g : Nat) : Prop := ∃ cs T, w.heap[g]? = some (.cells cs T (0, 0)) ∧ ∀ (i : Nat) (k : IntKind) (z : Int), cs[i]? ≠ some (Value.int k z)
theorem Box.far {w : World} {g : Nat} (h : Box w g) {B : Option Addr} {xs : List Nat} (hB : Num w B xs) (hn : xs ≠ []) : ∀ p, B = some p → p.block ≠ g := by
  intro p e hg
  obtain ⟨cs, T, h1, h2⟩ := h
  obtain ⟨b, off, e2, _, hc⟩ := hB.2 hn
  rw [e] at e2
  have e3 := Option.some.inj e2
  subst e3
  have h0 := hc 0 (List.length_pos_iff.2 hn)
  have hg' : b = g := hg
  subst hg'
  rw [cell_of_row w b _ _ _ _ h1] at h0
  exact h2 _ _ _ h0
theorem Num.set {w : World} {g : Nat} {B : Option Addr} {xs : List Nat} (hB : Num w B xs) (h : Box w g) (i : Nat) (v : Value) : Num (w.setCell ⟨g, i, none⟩ v) B xs :=
  ⟨hB.1, fun hn => by
    have hfar := h.far hB hn
    obtain ⟨b, off, e, hlt, hc⟩ := hB.2 hn
    have hbg : b ≠ g := hfar _ e
    exact ⟨b, off, e, by simpa [World.setCell] using hlt, fun j hj => (World.cell?_of_block (Below.heap_setCell _ _ _ b hbg)).trans (hc j hj)⟩⟩
theorem Box.set {w : World} {g : Nat} (h : Box w g) (i : Nat) (v : Value) (hv : ∀ (k : IntKind) (z : Int), v ≠ Value.int k z) : Box (w.setCell ⟨g, i, none⟩ v) g := by
  obtain ⟨cs, T, h1, h2⟩ := h
  refine ⟨_, _, heap_setCell_same w g i _ _ _ h1, ?_⟩
  intro j k z e
  rw [Array.getElem?_setIfInBounds] at e
  split at e
  · split at e
    · exact hv k z (Option.some.inj e)
    · cases e
  · exact h2 j k z e
theorem Box.alloc {w : World} {g : Nat} (h : Box w g) (o : Obj) : Box (w.alloc o) g := by
  obtain ⟨cs, T, h1, h2⟩ := h
  exact ⟨cs, T, (Below.heap_alloc w o g (lt_of_block h1)).trans h1, h2⟩
section
variable {w : World} {s t : Bool} {A B : Option Addr} {n c m d k g : Nat} {z : Int} {q : Rat}
theorem IsZ.set (h : IsZ w s A n c z k) (hb : Box w g) (i : Nat) (v : Value) : IsZ (w.setCell ⟨g, i, none⟩ v) s A n c z k := ⟨by obtain ⟨xs, h1, h2, h3⟩ := h.ex; exact ⟨xs, h1, Num.set h2 hb i v, h3⟩, h.le, h.cap⟩
theorem OneZ.set (h : OneZ w s A n c z) (hb : Box w g) (i : Nat) (v : Value) : OneZ (w.setCell ⟨g, i, none⟩ v) s A n c z := ⟨h.es, h.en, Num.set h.num hb i v, h.cap⟩
theorem IsQ.set (h : IsQ w s A n c t B m d q k) (hb : Box w g) (i : Nat) (v : Value) : IsQ (w.setCell ⟨g, i, none⟩ v) s A n c t B m d q k :=
  ⟨by obtain ⟨xs, ys, h1, h2, h3, h4, h5⟩ := h.ex; exact ⟨xs, ys, h1, h2, Num.set h3 hb i v, Num.set h4 hb i v, h5⟩, h.le, h.le2, h.cap, h.cap2⟩
theorem OneQ.set (h : OneQ w s A n c t B m d q) (hb : Box w g) (i : Nat) (v : Value) : OneQ (w.setCell ⟨g, i, none⟩ v) s A n c t B m d q :=
  ⟨h.es, h.en, h.et, h.em, Num.set h.num hb i v, Num.set h.den hb i v, h.cap, h.cap2⟩
end
theorem _root_.Go.Proofs.YtmbnlhedbedcdaaGreat.Ibx.bx {w : World} {g : Nat} {s : Bool} {A : Option Addr} {n c : Nat} (h : Ibx w g s A n c) : Box w g := ⟨_, _, h, by
  intro i k z e
  rcases i with _ | _ | i
  · cases e
  · cases e
  · rw [Array.getElem?_eq_none (by simp)] at e; cases e⟩
theorem _root_.Go.Proofs.YtmbnlhedbedcdaaGreat.Ibx.s0 {w : World} {g : Nat} {s s' : Bool} {A : Option Addr} {n c : Nat} (h : Ibx w g s A n c) : Ibx (w.setCell ⟨g, 0, none⟩ (.bool s')) g s' A n c := heap_setCell_same w g 0 _ _ _ h

/-- Block g is a fraction's struct. -/
def Qbx (w : World) (g : Nat) (s : Bool) (A : Option Addr) (n c : Nat) (t : Bool) (B : Option Addr) (m d : Nat) : Prop := w.heap[g]? = some (.cells #[.bool s, .slice A n c, .bool t, .slice B m d] 27 (0, 0))
section
variable {w w' : World} {g : Nat} {s t s' t' : Bool} {A B A' B' : Option Addr} {n c m d n' c' m' d' : Nat}
theorem Qbx.bx (h : Qbx w g s A n c t B m d) : Box w g := ⟨_, _, h, by
  intro i k z e
  rcases i with _ | _ | _ | _ | i
  · cases e
  · cases e
  · cases e
  · cases e
  · rw [Array.getElem?_eq_none (by simp)] at e; cases e⟩
theorem Qbx.lt (h : Qbx w g s A n c t B m d) : g < w.heap.size := lt_of_block h
theorem Qbx.c0 (h : Qbx w g s A n c t B m d) : w.cell? ⟨g, 0, none⟩ = some (.bool s) := by unfold Qbx at h; rw [cell_of_row w g 0 _ _ _ h]; rfl
theorem Qbx.c1 (h : Qbx w g s A n c t B m d) : w.cell? ⟨g, 1, none⟩ = some (.slice A n c) := by unfold Qbx at h; rw [cell_of_row w g 1 _ _ _ h]; rfl
theorem Qbx.c2 (h : Qbx w g s A n c t B m d) : w.cell? ⟨g, 2, none⟩ = some (.bool t) := by unfold Qbx at h; rw [cell_of_row w g 2 _ _ _ h]; rfl
theorem Qbx.c3 (h : Qbx w g s A n c t B m d) : w.cell? ⟨g, 3, none⟩ = some (.slice B m d) := by unfold Qbx at h; rw [cell_of_row w g 3 _ _ _ h]; rfl
theorem Qbx.f (h : Qbx w g s A n c t B m d) (i : Nat) : w.frozen? ⟨g, i, none⟩ = false := frozen_of_row w g i _ _ h
theorem Qbx.new (w : World) (g : Nat) (hg : g = w.heap.size) : Qbx (w.alloc (.cells #[.bool s, .slice A n c, .bool t, .slice B m d] 27)) g s A n c t B m d := by subst hg; exact heap_alloc_new w _
theorem Qbx.alloc (h : Qbx w g s A n c t B m d) (o : Obj) : Qbx (w.alloc o) g s A n c t B m d := (Below.heap_alloc w o g h.lt).trans h
theorem Qbx.drew (h : Qbx w g s A n c t B m d) : Qbx w.drew g s A n c t B m d := h
theorem Qbx.below (h : Qbx w g s A n c t B m d) (hb : Below w.heap.size w w') : Qbx w' g s A n c t B m d := (hb.block g h.lt).trans h
theorem Qbx.far (h : Qbx w g s A n c t B m d) {p : Addr} (hp : g ≠ p.block) (v : Value) : Qbx (w.setCell p v) g s A n c t B m d := (Below.heap_setCell w p v g hp).trans h
theorem Qbx.s0 (h : Qbx w g s A n c t B m d) : Qbx (w.setCell ⟨g, 0, none⟩ (.bool s')) g s' A n c t B m d := heap_setCell_same w g 0 _ _ _ h
theorem Qbx.s1 (h : Qbx w g s A n c t B m d) : Qbx (w.setCell ⟨g, 1, none⟩ (.slice A' n' c')) g s A' n' c' t B m d := heap_setCell_same w g 1 _ _ _ h
theorem Qbx.s2 (h : Qbx w g s A n c t B m d) : Qbx (w.setCell ⟨g, 2, none⟩ (.bool t')) g s A n c t' B m d := heap_setCell_same w g 2 _ _ _ h
theorem Qbx.s3 (h : Qbx w g s A n c t B m d) : Qbx (w.setCell ⟨g, 3, none⟩ (.slice B' m' d')) g s A n c t B' m' d' := heap_setCell_same w g 3 _ _ _ h
end
/-- The world with a whole number, a fraction stored in block g. -/
abbrev put2 (w : World) (g : Nat) (s : Bool) (A : Option Addr) (n c : Nat) : World := (w.setCell ⟨g, 0, none⟩ (.bool s)).setCell ⟨g, 1, none⟩ (.slice A n c)
abbrev put4 (w : World) (g : Nat) (s : Bool) (A : Option Addr) (n c : Nat) (t : Bool) (B : Option Addr) (m d : Nat) : World :=
  (((w.setCell ⟨g, 0, none⟩ (.bool s)).setCell ⟨g, 1, none⟩ (.slice A n c)).setCell ⟨g, 2, none⟩ (.bool t)).setCell ⟨g, 3, none⟩ (.slice B m d)
section
variable {w w0 : World} {g g' : Nat} {s t s' t' u : Bool} {A B A' B' C : Option Addr} {n c m d n' c' m' d' k l e : Nat} {z : Int} {q : Rat}
theorem _root_.Go.Proofs.YtmbnlhedbedcdaaGreat.Ibx.put (h : Ibx w g s A n c) : Ibx (put2 w g s' A' n' c') g s' A' n' c' := h.two _ _ _ _
theorem _root_.Go.Proofs.YtmbnlhedbedcdaaGreat.Ibx.put_far (h : Ibx w g s A n c) (hg : g ≠ g') : Ibx (put2 w g' s' A' n' c') g s A n c := (h.far hg _).far hg _
theorem _root_.Go.Proofs.YtmbnlhedbedcdaaGreat.Ibx.put4_far (h : Ibx w g s A n c) (hg : g ≠ g') : Ibx (put4 w g' s' A' n' c' t' B' m' d') g s A n c := (((h.far hg _).far hg _).far hg _).far hg _
theorem Qbx.put (h : Qbx w g s A n c t B m d) : Qbx (put4 w g s' A' n' c' t' B' m' d') g s' A' n' c' t' B' m' d' := h.s0.s1.s2.s3
theorem Qbx.put4_far (h : Qbx w g s A n c t B m d) (hg : g ≠ g') : Qbx (put4 w g' s' A' n' c' t' B' m' d') g s A n c t B m d := (((h.far hg _).far hg _).far hg _).far hg _
theorem Qbx.put2_far (h : Qbx w g s A n c t B m d) (hg : g ≠ g') : Qbx (put2 w g' s' A' n' c') g s A n c t B m d := (h.far hg _).far hg _
theorem bx2 (b : Box w g) : Box (w.setCell ⟨g, 0, none⟩ (.bool s')) g := b.set _ _ (fun _ _ e => by cases e)
theorem Box.on2 (b : Box w g) : Box (put2 w g s' A' n' c') g := (bx2 b).set _ _ (fun _ _ e => by cases e)
theorem Box.three (b : Box w g) : Box ((put2 w g s' A' n' c').setCell ⟨g, 2, none⟩ (.bool t')) g := b.on2.set _ _ (fun _ _ e => by cases e)
theorem IsZ.on2 (h : IsZ w u C l e z k) (b : Box w g) : IsZ (put2 w g s' A' n' c') u C l e z k := (h.set b _ _).set (bx2 b) _ _
theorem OneZ.on2 (h : OneZ w u C l e z) (b : Box w g) : OneZ (put2 w g s' A' n' c') u C l e z := (h.set b _ _).set (bx2 b) _ _
theorem IsZ.on4 (h : IsZ w u C l e z k) (b : Box w g) : IsZ (put4 w g s' A' n' c' t' B' m' d') u C l e z k := ((h.on2 b).set b.on2 _ _).set b.three _ _
theorem OneZ.on4 (h : OneZ w u C l e z) (b : Box w g) : OneZ (put4 w g s' A' n' c' t' B' m' d') u C l e z := ((h.on2 b).set b.on2 _ _).set b.three _ _
theorem IsQ.on2 (h : IsQ w s A n c t B m d q k) (b : Box w g) : IsQ (put2 w g s' A' n' c') s A n c t B m d q k := (h.set b _ _).set (bx2 b) _ _
theorem OneQ.on2 (h : OneQ w s A n c t B m d q) (b : Box w g) : OneQ (put2 w g s' A' n' c') s A n c t B m d q := (h.set b _ _).set (bx2 b) _ _
theorem IsQ.on4 (h : IsQ w s A n c t B m d q k) (b : Box w g) : IsQ (put4 w g s' A' n' c' t' B' m' d') s A n c t B m d q k := ((h.on2 b).set b.on2 _ _).set b.three _ _
theorem OneQ.on4 (h : OneQ w s A n c t B m d q) (b : Box w g) : OneQ (put4 w g s' A' n' c' t' B' m' d') s A n c t B m d q := ((h.on2 b).set b.on2 _ _).set b.three _ _
theorem below_put2 (h : Below w0.heap.size w0 w) (hg : w0.heap.size ≤ g) : Below w0.heap.size w0 (put2 w g s' A' n' c') := (h.setCell hg _).setCell hg _
theorem below_put4 (h : Below w0.heap.size w0 w) (hg : w0.heap.size ≤ g) : Below w0.heap.size w0 (put4 w g s' A' n' c' t' B' m' d') := (((h.setCell hg _).setCell hg _).setCell hg _).setCell hg _
end
theorem below_on {W w3 w4 : World} (h3 : Below W.heap.size W w3) (h : Below w3.heap.size w3 w4) : Below W.heap.size W w4 := h3.trans (h.mono h3.size)
end Go.Proofs.YtmbnlhedbedcdaaGreat.Q

/- ratio.parts, walked. -/
namespace Go.Proofs.YtmbnlhedbedcdaaGreat.Q
open Go.RowKit

/-- What is divided, and what by, the latter above 0. -/
def RetP (w : World) (q : Rat) (k : Nat) (e : Ending) (w' : World) : Prop :=
  ∃ s A n c t B m d y z, e = .returned (.tuple #[.agg #[.bool s, .slice A n c], .agg #[.bool t, .slice B m d]]) ∧ IsZ w' s A n c y k ∧ IsZ w' t B m d z k ∧ 0 < z ∧ Rat.divInt y z = q ∧ Below w.heap.size w w'
/-- The four variables' blocks in parts. -/
structure PS (w wx : World) (p r : Nat) (s : Bool) (A : Option Addr) (n c : Nat) (t : Bool) (B : Option Addr) (m d : Nat) : Prop where
  bel : Below w.heap.size w wx
  i1 : Ibx wx p s A n c
  i2 : Ibx wx r t B m d
  o1 : Ibx wx (w.heap.size + 1) false none 0 0
  o2 : Ibx wx (w.heap.size + 1 + 1) false none 0 0
  ne : p ≠ r
  hp : w.heap.size + 1 + 1 < p
  hr : w.heap.size + 1 + 1 < r
section
variable {w wx wy : World} {p r : Nat} {s t s' t' : Bool} {A B A' B' : Option Addr} {n c m d n' c' m' d' : Nat}
theorem PS.below (h : PS w wx p r s A n c t B m d) (hb : Below wx.heap.size wx wy) : PS w wy p r s A n c t B m d :=
  ⟨below_on h.bel hb, h.i1.below hb, h.i2.below hb, h.o1.below hb, h.o2.below hb, h.ne, h.hp, h.hr⟩
theorem PS.num (h : PS w wx p r s A n c t B m d) : PS w (put2 wx p s' A' n' c') p r s' A' n' c' t B m d :=
  ⟨below_put2 h.bel (by have := h.hp; omega), h.i1.put, h.i2.put_far h.ne.symm, h.o1.put_far (by have := h.hp; omega), h.o2.put_far (by have := h.hp; omega), h.ne, h.hp, h.hr⟩
theorem PS.den (h : PS w wx p r s A n c t B m d) : PS w (put2 wx r t' B' m' d') p r s A n c t' B' m' d' :=
  ⟨below_put2 h.bel (by have := h.hr; omega), h.i1.put_far h.ne, h.i2.put, h.o1.put_far (by have := h.hr; omega), h.o2.put_far (by have := h.hr; omega), h.ne, h.hp, h.hr⟩
theorem PS.turn (h : PS w wx p r s A n c t B m d) : PS w ((wx.setCell ⟨p, 0, none⟩ (.bool s')).setCell ⟨r, 0, none⟩ (.bool t')) p r s' A n c t' B m d :=
  ⟨(h.bel.setCell (show w.heap.size ≤ p by have := h.hp; omega) _).setCell (show w.heap.size ≤ r by have := h.hr; omega) _, h.i1.s0.far h.ne _, (h.i2.far (show r ≠ p from h.ne.symm) _).s0, (h.o1.far (show _ ≠ p by have := h.hp; omega) _).far (show _ ≠ r by have := h.hr; omega) _, (h.o2.far (show _ ≠ p by have := h.hp; omega) _).far (show _ ≠ r by have := h.hr; omega) _, h.ne, h.hp, h.hr⟩
end
theorem IsZ.flip {w : World} {s : Bool} {A : Option Addr} {n c k : Nat} {z : Int} (h : IsZ w s A n c z k) : IsZ w (!s) A n c (-z) k :=
  ⟨by obtain ⟨xs, h1, h2, h3⟩ := h.ex; exact ⟨xs, h1, h2, by rw [← h3]; cases s <;> simp [zv]⟩, h.le, h.cap⟩
theorem IsZ.sgn {w : World} {s : Bool} {A : Option Addr} {n c k : Nat} {z : Int} (h : IsZ w s A n c z k) (hz : z ≠ 0) : s = zneg z := by
  obtain ⟨xs, h1, h2, h3⟩ := h.ex
  rw [← h3] at hz ⊢
  symm
  apply zneg_of
  cases s <;> simp [zv] at * <;> omega
theorem IsZ.nil (w : World) (s : Bool) (A : Option Addr) (c k : Nat) : IsZ w s A 0 c 0 k := ⟨⟨[], rfl, Num.nil _ _, zv_zero s⟩, Nat.zero_le _, Nat.zero_le _⟩
theorem IsQ.two {w : World} {s t : Bool} {A B : Option Addr} {n c m d k : Nat} {q : Rat} (h : IsQ w s A n c t B m d q k) : ∃ y z, IsZ w s A n c y k ∧ IsZ w t B m d z k ∧ Rat.divInt y (if m = 0 then 1 else z) = q := by
  obtain ⟨xs, ys, h1, h2, h3, h4, h5⟩ := h.ex
  refine ⟨_, _, ⟨⟨xs, h1, h3, rfl⟩, h.le, h.cap⟩, ⟨⟨ys, h2, h4, rfl⟩, h.le2, h.cap2⟩, ?_⟩
  rw [h2]
  exact h5

set_option maxRecDepth 100000 in
set_option maxHeartbeats 4000000 in
theorem parts_any (w : World) (s t : Bool) (A B : Option Addr) (n c m d k : Nat) (q : Rat) (h : IsQ w s A n c t B m d q k) (hk : 1 ≤ k) (hk2 : k ≤ 3000) :
    Calls Tryz.prog 92 #[.agg #[.bool s, .slice A n c, .bool t, .slice B m d]] w (RetP w q k) := by
  obtain ⟨y, z, hy, hz, hq⟩ := h.two
  have HY := Lib.hid hy
  have HZ := Lib.hid hz
  have HQ := Lib.hid hq
  clear hy hz hq h
  go_enter Tryz.func92, Tryz.ntmps92
  go_upto_region 1 with fail
  go_cut [4, 5] (fun s4 s5 wx => ∃ (p r : Nat), s4 = .pointer (some ⟨p, 0, none⟩) ∧ s5 = .pointer (some ⟨r, 0, none⟩) ∧ Hid (PS w wx p r s A n c t B m d) ∧ Hid (IsZ wx s A n c y k) ∧ Hid (IsZ wx t B m d z k))
  case first =>
    go_region
    all_goals
      go_wp2_with fail
      go_meet

    · refine ⟨w.heap.size + 1 + 1 + 1, w.heap.size + 1 + 1 + 1 + 1, rfl, rfl, ⟨Below.drew ?_, ?_, ?_, ?_, ?_, by omega, by omega, by omega⟩, (((((HY.out.alloc _).alloc _).alloc _).alloc _).alloc _).drew, (((((HZ.out.alloc _).alloc _).alloc _).alloc _).alloc _).drew⟩
      · exact (((((Below.refl w.heap.size w).alloc (Nat.le_refl _) _).alloc (by simp) _).alloc (by simp; omega) _).alloc (by simp; omega) _).alloc (by simp; omega) _
      · exact (Ibx.alloc (Ibx.new' _ _ _ _ _ _ (by simp)) _).drew
      · exact (Ibx.new' _ _ _ _ _ _ (by simp)).drew
      · exact (Ibx.alloc (Ibx.alloc (Ibx.alloc (Ibx.new' _ _ _ _ _ _ (by simp)) _) _) _).drew
      · exact (Ibx.alloc (Ibx.alloc (Ibx.new' _ _ _ _ _ _ (by simp)) _) _).drew
    · refine ⟨w.heap.size + 1 + 1 + 1 + 1, w.heap.size + 1 + 1 + 1, rfl, rfl, ⟨Below.drew ?_, ?_, ?_, ?_, ?_, by omega, by omega, by omega⟩, (((((HY.out.alloc _).alloc _).alloc _).alloc _).alloc _).drew, (((((HZ.out.alloc _).alloc _).alloc _).alloc _).alloc _).drew⟩
      · exact (((((Below.refl w.heap.size w).alloc (Nat.le_refl _) _).alloc (by simp) _).alloc (by simp; omega) _).alloc (by simp; omega) _).alloc (by simp; omega) _
      · exact (Ibx.new' _ _ _ _ _ _ (by simp)).drew
      · exact (Ibx.alloc (Ibx.new' _ _ _ _ _ _ (by simp)) _).drew
      · exact (Ibx.alloc (Ibx.alloc (Ibx.alloc (Ibx.new' _ _ _ _ _ _ (by simp)) _) _) _).drew
      · exact (Ibx.alloc (Ibx.alloc (Ibx.new' _ _ _ _ _ _ (by simp)) _) _).drew
  case rest =>
    obtain ⟨p, r, rfl, rfl, hps, hy, hz⟩ := hcut
    have HP := hps
    clear HY HZ
    have HY := hy
    have HZ := hz
    clear hps hy hz
    have hpr : p ≠ r := HP.out.ne
    go_upto_block 0 with fail
    go_cut [] (fun wx => ∃ (s' : Bool) (A' : Option Addr) (n' c' : Nat) (t' : Bool) (B' : Option Addr) (m' d' : Nat) (y' z' : Int), Hid (PS w wx p r s' A' n' c' t' B' m' d') ∧ Hid (IsZ wx s' A' n' c' y' k) ∧ Hid (IsZ wx t' B' m' d' z' k) ∧ 0 < z' ∧ Rat.divInt y' z' = q)
    case first =>
      have r0 := HP.out.i2.c0
      have r1 := HP.out.i2.c1
      have fr0 := HP.out.i2.f 0
      have fr1 := HP.out.i2.f 1
      by_cases hm : m = 0
      · have hm0 : ((m : Int) == 0) = true := by rw [hm]; rfl
        have HE : Hid (Rat.divInt y 1 = q) := by show _ = _; rw [← HQ.out, if_pos hm]
        clear hm
        go_wp2_with fail
        refine (of_j _ 1 (by omega) (by omega)).mono ?_
        rintro e w1 ⟨s1, A1, n1, c1, rfl, h1, hb1⟩
        have HP1 := Lib.hid (HP.out.below hb1)
        have HY1 := Lib.hid (HY.out.below hb1)
        have HO1 := Lib.hid (h1.isz (k := k) (Nat.le_trans (zl_small (by omega) (by omega)) hk))
        clear h1 hb1 r0 r1 fr0 fr1
        have r0 := HP1.out.i2.c0
        have r1 := HP1.out.i2.c1
        have fr0 := HP1.out.i2.f 0
        have fr1 := HP1.out.i2.f 1
        go_wp2_with fail
        go_meet
        exact ⟨s, A, n, c, s1, A1, n1, c1, y, 1, HP1.out.den, HY1.out.on2 HP1.out.i2.bx, HO1.out.on2 HP1.out.i2.bx, by omega, HE.out⟩
      · have hm0 : ((m : Int) == 0) = false := by rw [beq_eq_false_iff_ne]; omega
        have HE : Hid (Rat.divInt y z = q) := by show _ = _; rw [← HQ.out, if_neg hm]
        clear hm
        by_cases hz0 : z = 0
        · have HE0 : Hid (Rat.divInt 0 1 = q) := by show _ = _; rw [← HE.out, hz0, Rat.divInt_zero, Rat.zero_divInt]
          have HS : Hid (z.sign = 0) := by show _ = _; rw [hz0]; rfl
          clear hz0
          go_wp2_with fail
          refine (sign_j HZ.out hk2 0 HS.out).mono ?_
          rintro e w1 ⟨rfl, hb1⟩
          have HP1 := Lib.hid (HP.out.below hb1)
          clear hb1 r0 r1 fr0 fr1
          go_wp2_with fail
          refine (of_j _ 1 (by omega) (by omega)).mono ?_
          rintro e w2 ⟨s1, A1, n1, c1, rfl, h1, hb1⟩
          have HP2 := Lib.hid (HP1.out.below hb1)
          have HO1 := Lib.hid (h1.isz (k := k) (Nat.le_trans (zl_small (by omega) (by omega)) hk))
          clear h1 hb1
          have p0 := HP2.out.i1.c0
          have p1 := HP2.out.i1.c1
          have fp0 := HP2.out.i1.f 0
          have fp1 := HP2.out.i1.f 1
          have r0 := HP2.out.i2.c0
          have r1 := HP2.out.i2.c1
          have fr0 := HP2.out.i2.f 0
          have fr1 := HP2.out.i2.f 1
          go_wp2_with fail
          go_meet
          exact ⟨false, none, 0, 0, s1, A1, n1, c1, 0, 1, HP2.out.num.den, IsZ.nil _ _ _ _ _, (HO1.out.on2 HP2.out.i1.bx).on2 HP2.out.num.i2.bx, by omega, HE0.out⟩
        · obtain ⟨sg, hsg⟩ : ∃ sg, z.sign = sg := ⟨_, rfl⟩
          have HS := Lib.hid hsg
          have hs0 : (sg == 0) = false := by rw [beq_eq_false_iff_ne, ← hsg]; exact fun h => hz0 (Int.sign_eq_zero_iff_zero.1 h)
          have hsgn := HZ.out.sgn hz0
          clear hsg
          cases t with
          | false =>
            have hzp : 0 < z := by unfold zneg at hsgn; have := of_decide_eq_false hsgn.symm; omega
            clear hz0 hsgn
            go_wp2_with fail
            refine (sign_j HZ.out hk2 sg HS.out).mono ?_
            rintro e w1 ⟨rfl, hb1⟩
            have HP1 := Lib.hid (HP.out.below hb1)
            have HY1 := Lib.hid (HY.out.below hb1)
            have HZ1 := Lib.hid (HZ.out.below hb1)
            clear hb1 r0 r1 fr0 fr1
            have r0 := HP1.out.i2.c0
            go_wp2_with fail
            go_meet
            exact ⟨s, A, n, c, false, B, m, d, y, z, HP1.out, HY1.out, HZ1.out, hzp, HE.out⟩
          | true =>
            have hzp : z < 0 := by unfold zneg at hsgn; exact of_decide_eq_true hsgn.symm
            have HE2 : Hid (Rat.divInt (-y) (-z) = q) := by show _ = _; rw [Rat.neg_divInt_neg, HE.out]
            clear hz0 hsgn
            go_wp2_with fail
            refine (sign_j HZ.out hk2 sg HS.out).mono ?_
            rintro e w1 ⟨rfl, hb1⟩
            have HP1 := Lib.hid (HP.out.below hb1)
            have HY1 := Lib.hid (HY.out.below hb1)
            have HZ1 := Lib.hid (HZ.out.below hb1)
            clear hb1 r0 r1 fr0 fr1
            have p0 := HP1.out.i1.c0
            have fp0 := HP1.out.i1.f 0
            have r0 := HP1.out.i2.c0
            have fr0 := HP1.out.i2.f 0
            go_wp2_with fail
            go_meet
            exact ⟨!s, A, n, c, false, B, m, d, -y, -z, HP1.out.turn, ((HY1.out.set HP1.out.i1.bx _ _).set (HP1.out.i2.far hpr.symm _).bx _ _).flip, ((HZ1.out.set HP1.out.i1.bx _ _).set (HP1.out.i2.far hpr.symm _).bx _ _).flip, by omega, HE2.out⟩
    case rest =>
      clear HP HY HZ HQ
      obtain ⟨s', A', n', c', t', B', m', d', y', z', HP, HY, HZ, hzp, hqq⟩ := hcut
      have HE := Lib.hid hqq
      clear hqq
      have p0 := HP.out.i1.c0
      have p1 := HP.out.i1.c1
      have r0 := HP.out.i2.c0
      have r1 := HP.out.i2.c1
      have o0 := HP.out.o1.c0
      have o1 := HP.out.o1.c1
      have v0 := HP.out.o2.c0
      have v1 := HP.out.o2.c1
      have fo0 := HP.out.o1.f 0
      have fo1 := HP.out.o1.f 1
      have fv0 := HP.out.o2.f 0
      have fv1 := HP.out.o2.f 1
      have hpp := HP.out.hp
      have hrr := HP.out.hr
      have e1 : w.heap.size + 1 ≠ p := by omega
      have e2 : w.heap.size + 1 + 1 ≠ p := by omega
      have e3 : w.heap.size + 1 ≠ r := by omega
      have e4 : w.heap.size + 1 + 1 ≠ r := by omega
      go_upto_region 8 with fail
      go_region
      all_goals
        go_wp2_with fail
        refine bodyPost_ret (v := .tuple #[.agg #[.bool s', .slice A' n' c'], .agg #[.bool t', .slice B' m' d']]) (by simp [results, Tryz.results92, go_sem, o0, o1, v0, v1]) rfl ?_
        exact ⟨s', A', n', c', t', B', m', d', y', z', rfl, ((HY.out.on2 HP.out.o1.bx).on2 (HP.out.o2.put_far (by omega)).bx).drew, ((HZ.out.on2 HP.out.o1.bx).on2 (HP.out.o2.put_far (by omega)).bx).drew, hzp, HE.out, (below_put2 (below_put2 HP.out.bel (by omega)) (by omega)).drew⟩
end Go.Proofs.YtmbnlhedbedcdaaGreat.Q

/- ratio: isOne, share, lowest, walked. -/
namespace Go.Proofs.YtmbnlhedbedcdaaGreat.Q
open Go.RowKit

theorem gcd_j {w : World} {s t : Bool} {A B : Option Addr} {n c m d k : Nat} {y z : Int} (h1 : IsZ w s A n c y k) (h2 : IsZ w t B m d z k) (hk : k ≤ 3000) (r : Int) (hr : ((Nat.gcd y.natAbs z.natAbs : Nat) : Int) = r) : Calls Tryz.prog 123 #[.agg #[.bool s, .slice A n c], .agg #[.bool t, .slice B m d]] w (RetJ w r) := by
  obtain ⟨xs, rfl, ha, hx⟩ := h1.ex
  obtain ⟨ys, rfl, hb, hy⟩ := h2.ex
  subst hr
  exact (zgcd_any w s t A B c d xs ys y z ha hb hx hy (by have := h1.le; omega) (by have := h2.le; omega) h1.cap h2.cap (fun W e1 e2 => gcd_any W A B c d xs ys e1 e2 (by have := h1.le; omega) (by have := h2.le; omega) h1.cap h2.cap)).mono fun _ _ => retj_of

set_option maxRecDepth 100000 in
set_option maxHeartbeats 4000000 in
theorem isone_j {w : World} {s : Bool} {A : Option Addr} {n c k : Nat} {z : Int} (h : IsZ w s A n c z k) (hk : k ≤ 3000) (b : Bool) (hb : decide (z = 1) = b) :
    Calls Tryz.prog 125 #[.agg #[.bool s, .slice A n c]] w (RetB w b) := by
  have H1 := Lib.hid (small_j (h.alloc (.cells #[.bool s, .slice A n c] 25)) hk)
  have HW : Hid (Below w.heap.size w (w.alloc (.cells #[.bool s, .slice A n c] 25))) := (Below.refl _ _).alloc (Nat.le_refl _) _
  rw [← smallv_one] at hb
  obtain ⟨v, hv⟩ : ∃ v, smallv z = v := ⟨_, rfl⟩
  obtain ⟨u, hu⟩ : ∃ u, smallb z = u := ⟨_, rfl⟩
  rw [hv] at hb
  rw [hv, hu] at H1
  clear h hv hu
  go_enter Tryz.func125, Tryz.ntmps125
  go_wp2_with fail
  refine H1.out.mono ?_
  rintro e w1 ⟨rfl, hb1⟩
  have HW1 := Lib.hid (below_on HW.out hb1)
  clear hb1
  go_wp2_with fail
  go_ret
  exact ⟨rfl, HW1.out⟩

/-- Two structs that came in, and the place for what is told. -/
structure SH (w wx : World) (s : Bool) (A : Option Addr) (n c : Nat) (t : Bool) (B : Option Addr) (m d : Nat) : Prop where
  bel : Below w.heap.size w wx
  i1 : Ibx wx w.heap.size s A n c
  i2 : Ibx wx (w.heap.size + 1) t B m d
  o : Ibx wx (w.heap.size + 1 + 1) false none 0 0
theorem SH.start (w : World) (s : Bool) (A : Option Addr) (n c : Nat) (t : Bool) (B : Option Addr) (m d : Nat) : SH w (((w.alloc (.cells #[.bool s, .slice A n c] 25)).alloc (.cells #[.bool t, .slice B m d] 25)).alloc (.cells #[.bool false, .slice none 0 0] 25)) s A n c t B m d :=
  ⟨(((Below.refl _ _).alloc (Nat.le_refl _) _).alloc (by simp) _).alloc (by simp; omega) _, ((Ibx.new' _ _ _ _ _ _ rfl).alloc _).alloc _, (Ibx.new' _ _ _ _ _ _ (by simp)).alloc _, Ibx.new' _ _ _ _ _ _ (by simp)⟩
theorem SH.below {w wx wy : World} {s t : Bool} {A B : Option Addr} {n c m d : Nat} (h : SH w wx s A n c t B m d) (hb : Below wx.heap.size wx wy) : SH w wy s A n c t B m d :=
  ⟨below_on h.bel hb, h.i1.below hb, h.i2.below hb, h.o.below hb⟩
theorem retj_put {w wx : World} {g : Nat} {s0 : Bool} {A0 : Option Addr} {n0 c0 : Nat} {s : Bool} {A : Option Addr} {n c : Nat} {z : Int} (h : OneZ wx s A n c z) (ho : Ibx wx g s0 A0 n0 c0) (hg : w.heap.size ≤ g) (hb : Below w.heap.size w wx) :
    RetJ w z (.returned (.agg #[.bool s, .slice A n c])) (put2 wx g s A n c) := ⟨s, A, n, c, rfl, h.on2 ho.bx, below_put2 hb hg⟩

set_option maxRecDepth 100000 in
set_option maxHeartbeats 4000000 in
theorem share_j {w : World} {s t : Bool} {A B : Option Addr} {n c m d : Nat} {y z : Int} (h1 : OneZ w s A n c y) (h2 : OneZ w t B m d z) (hy : zl y ≤ 3000) (hz : zl z ≤ 3000) (r : Int) (hr : y / z = r) :
    Calls Tryz.prog 124 #[.agg #[.bool s, .slice A n c], .agg #[.bool t, .slice B m d]] w (RetJ w r) := by
  have HS := Lib.hid (SH.start w s A n c t B m d)
  have HA := Lib.hid (((h1.alloc (.cells #[.bool s, .slice A n c] 25)).alloc (.cells #[.bool t, .slice B m d] 25)).alloc (.cells #[.bool false, .slice none 0 0] 25))
  have HB := Lib.hid (((h2.alloc (.cells #[.bool s, .slice A n c] 25)).alloc (.cells #[.bool t, .slice B m d] 25)).alloc (.cells #[.bool false, .slice none 0 0] 25))
  have HY := Lib.hid hy
  have HZ := Lib.hid hz
  clear h1 h2 hy hz
  by_cases hz1 : z = 1
  · have HD : Hid (decide (z = 1) = true) := decide_eq_true hz1
    have HR : Hid (y = r) := by show _ = _; rw [← hr, hz1, Int.ediv_one]
    clear hr hz1
    go_enter Tryz.func124, Tryz.ntmps124
    go_wp2_with fail
    refine (isone_j (HB.out.isz HZ.out) (by omega) true HD.out).mono ?_
    rintro e w1 ⟨rfl, hb1⟩
    have HS1 := Lib.hid (HS.out.below hb1)
    have HA1 := Lib.hid (HA.out.below hb1)
    clear hb1
    have c0 := HS1.out.i1.c0
    have c1 := HS1.out.i1.c1
    have o0 := HS1.out.o.c0
    have o1 := HS1.out.o.c1
    have f0 := HS1.out.o.f 0
    have f1 := HS1.out.o.f 1
    go_wp2_with fail
    refine bodyPost_ret (v := .agg #[.bool s, .slice A n c]) (by simp [results, Tryz.results124, go_sem, o0, o1]) rfl ?_
    rw [← HR.out]
    exact retj_put HA1.out HS1.out.o (by omega) HS1.out.bel
  · have HD : Hid (decide (z = 1) = false) := decide_eq_false hz1
    have HR := Lib.hid hr
    clear hr hz1
    go_enter Tryz.func124, Tryz.ntmps124
    go_wp2_with fail
    refine (isone_j (HB.out.isz HZ.out) (by omega) false HD.out).mono ?_
    rintro e w1 ⟨rfl, hb1⟩
    have HS1 := Lib.hid (HS.out.below hb1)
    have HA1 := Lib.hid (HA.out.below hb1)
    have HB1 := Lib.hid (HB.out.below hb1)
    clear hb1 HA HB
    have c0 := HS1.out.i1.c0
    have c1 := HS1.out.i1.c1
    have d0 := HS1.out.i2.c0
    have d1 := HS1.out.i2.c1
    go_wp2_with fail
    refine (divmod_j (HA1.out.isz HY.out) (HB1.out.isz HZ.out) (by omega)).mono ?_
    rintro e w2 ⟨s1, A1, n1, c1', t1, B1, m1, d1', rfl, h1, h2, hb2⟩
    rw [HR.out] at h1
    have HS2 := Lib.hid (HS1.out.below hb2)
    have HN := Lib.hid h1
    clear hb2 h1 h2 c0 c1 d0 d1 HS HS1 HA1 HB1
    have HS3 := Lib.hid (HS2.out.below (((Below.refl _ _).alloc (Nat.le_refl _) (.cells #[.bool s1, .slice A1 n1 c1'] 25)).alloc (by simp) (.cells #[.bool t1, .slice B1 m1 d1'] 25)))
    have HN3 := Lib.hid ((HN.out.alloc (.cells #[.bool s1, .slice A1 n1 c1'] 25)).alloc (.cells #[.bool t1, .slice B1 m1 d1'] 25))
    have o0 := HS3.out.o.c0
    have o1 := HS3.out.o.c1
    have f0 := HS3.out.o.f 0
    have f1 := HS3.out.o.f 1
    have hlt := HS2.out.o.lt
    go_wp2_with fail
    refine bodyPost_ret (v := .agg #[.bool s1, .slice A1 n1 c1']) (by simp [results, Tryz.results124, go_sem, o0, o1]) rfl ?_
    exact retj_put HN3.out HS3.out.o (by omega) HS3.out.bel

theorem oneq_of {w : World} {s t : Bool} {A B : Option Addr} {n c m d : Nat} {q : Rat} (h1 : OneZ w s A n c q.num) (h2 : OneZ w t B m d (q.den : Int)) (h : q.den ≠ 1) : OneQ w s A n c t B m d q := by
  have e : dden q = dig q.den := if_neg h
  exact ⟨h1.es, h1.en, by rw [h2.es]; unfold zneg; exact decide_eq_false (by omega), by rw [h2.en, den_zl, e], h1.num, by have := h2.num; rw [Int.natAbs_natCast] at this; rw [e]; exact this, h1.cap, h2.cap⟩
theorem oneq_one {w : World} {s : Bool} {A : Option Addr} {n c : Nat} {q : Rat} (h1 : OneZ w s A n c q.num) (h : q.den = 1) (d : Nat) : OneQ w s A n c false none 0 d q := by
  have e : dden q = [] := if_pos h
  exact ⟨h1.es, h1.en, rfl, by rw [e]; rfl, h1.num, by rw [e]; exact Num.nil _ _, h1.cap, Nat.zero_le _⟩
theorem retq_put {w wx : World} {g : Nat} {s0 : Bool} {A0 : Option Addr} {n0 c0 : Nat} {t0 : Bool} {B0 : Option Addr} {m0 d0 : Nat} {s : Bool} {A : Option Addr} {n c : Nat} {t : Bool} {B : Option Addr} {m d : Nat} {q : Rat} (h : OneQ wx s A n c t B m d q) (ho : Qbx wx g s0 A0 n0 c0 t0 B0 m0 d0) (hg : w.heap.size ≤ g) (hb : Below w.heap.size w wx) :
    RetQ w q (.returned (.agg #[.bool s, .slice A n c, .bool t, .slice B m d])) (put4 wx g s A n c t B m d) := ⟨s, A, n, c, t, B, m, d, rfl, h.on4 ho.bx, below_put4 hb hg⟩

/-- Two structs that came in, and the place for the fraction that is told. -/
structure SQ (w wx : World) (s : Bool) (A : Option Addr) (n c : Nat) (t : Bool) (B : Option Addr) (m d : Nat) : Prop where
  bel : Below w.heap.size w wx
  i1 : Ibx wx w.heap.size s A n c
  i2 : Ibx wx (w.heap.size + 1) t B m d
  o : Qbx wx (w.heap.size + 1 + 1) false none 0 0 false none 0 0
section
variable {w wx wy : World} {s t s' t' : Bool} {A B A' B' : Option Addr} {n c m d n' c' m' d' : Nat}
theorem SQ.start (w : World) (s : Bool) (A : Option Addr) (n c : Nat) (t : Bool) (B : Option Addr) (m d : Nat) : SQ w (((w.alloc (.cells #[.bool s, .slice A n c] 25)).alloc (.cells #[.bool t, .slice B m d] 25)).alloc (.cells #[.bool false, .slice none 0 0, .bool false, .slice none 0 0] 27)) s A n c t B m d :=
  ⟨(((Below.refl _ _).alloc (Nat.le_refl _) _).alloc (by simp) _).alloc (by simp; omega) _, ((Ibx.new' _ _ _ _ _ _ rfl).alloc _).alloc _, (Ibx.new' _ _ _ _ _ _ (by simp)).alloc _, Qbx.new _ _ (by simp)⟩
theorem SQ.below (h : SQ w wx s A n c t B m d) (hb : Below wx.heap.size wx wy) : SQ w wy s A n c t B m d :=
  ⟨below_on h.bel hb, h.i1.below hb, h.i2.below hb, h.o.below hb⟩
theorem SQ.alloc (h : SQ w wx s A n c t B m d) (o : Obj) : SQ w (wx.alloc o) s A n c t B m d := h.below ((Below.refl _ _).alloc (Nat.le_refl _) o)
theorem SQ.drew (h : SQ w wx s A n c t B m d) : SQ w wx.drew s A n c t B m d := h.below ((Below.refl _ _).drew)
theorem SQ.fst (h : SQ w wx s A n c t B m d) : SQ w (put2 wx w.heap.size s' A' n' c') s' A' n' c' t B m d :=
  ⟨below_put2 h.bel (Nat.le_refl _), h.i1.put, h.i2.put_far (by omega), h.o.put2_far (by omega)⟩
theorem SQ.snd (h : SQ w wx s A n c t B m d) : SQ w (put2 wx (w.heap.size + 1) t' B' m' d') s A n c t' B' m' d' :=
  ⟨below_put2 h.bel (by omega), h.i1.put_far (by omega), h.i2.put, h.o.put2_far (by omega)⟩
theorem SQ.k (h : SQ w wx s A n c t B m d) : C4 w.heap.size (.bool s) (.slice A n c) (.bool t) (.slice B m d) wx := ⟨h.i1.c0, h.i1.c1, h.i2.c0, h.i2.c1⟩
end
/-- A load that waits its turn in a region: what it reads is written there, too. -/
def hideL (o : Op) : Op := o
@[go_sem] theorem hideL_eq (o : Op) : hideL o = o := rfl
set_option maxRecDepth 100000 in
set_option maxHeartbeats 8000000 in
theorem lowest_j {w : World} {s t : Bool} {A B : Option Addr} {n c m d : Nat} {y z : Int} {q : Rat} (h1 : OneZ w s A n c y) (h2 : OneZ w t B m d z) (hy : zl y ≤ 3000) (hz : zl z ≤ 3000) (hzp : 0 < z) (hq : Rat.divInt y z = q) :
    Calls Tryz.prog 93 #[.agg #[.bool s, .slice A n c], .agg #[.bool t, .slice B m d]] w (RetQ w q) := by
  have HS := Lib.hid (SQ.start w s A n c t B m d)
  have HA := Lib.hid (((h1.alloc (.cells #[.bool s, .slice A n c] 25)).alloc (.cells #[.bool t, .slice B m d] 25)).alloc (.cells #[.bool false, .slice none 0 0, .bool false, .slice none 0 0] 27))
  have HB := Lib.hid (((h2.alloc (.cells #[.bool s, .slice A n c] 25)).alloc (.cells #[.bool t, .slice B m d] 25)).alloc (.cells #[.bool false, .slice none 0 0, .bool false, .slice none 0 0] 27))
  have HY := Lib.hid hy
  have HZ := Lib.hid hz
  have hlow := low (n := y) hzp
  have hgl : zl (((Nat.gcd y.natAbs z.natAbs : Nat) : Int)) ≤ 3000 := by
    refine Nat.le_trans ?_ hz
    unfold zl
    rw [Int.natAbs_natCast]
    exact dl_le (Nat.gcd_le_right _ (by omega))
  obtain ⟨g, hg⟩ : ∃ g : Int, ((Nat.gcd y.natAbs z.natAbs : Nat) : Int) = g := ⟨_, rfl⟩
  rw [hq, hg] at hlow
  rw [hg] at hgl
  have hle := low_le (n := y) hzp
  rw [hq] at hle
  have HDL : Hid (zl (q.den : Int) ≤ 3000) := by show _ ≤ _; rw [den_zl]; exact Nat.le_trans (dl_le hle.2) hz
  have HG := Lib.hid hg
  have HGL := Lib.hid hgl
  have HN := Lib.hid hlow.1
  have HD := Lib.hid hlow.2
  clear h1 h2 hy hz hlow hgl hg hle hq
  go_enter Tryz.func93, Tryz.ntmps93
  go_wp2_with fail
  refine (gcd_j (HA.out.isz HY.out) (HB.out.isz HZ.out) (by omega) g HG.out).mono ?_
  rintro e w1 ⟨sg, Ag, ng, cg, rfl, h1, hb1⟩
  have HS1 := Lib.hid (HS.out.below hb1)
  have HA1 := Lib.hid (HA.out.below hb1)
  have HB1 := Lib.hid (HB.out.below hb1)
  have H1 := Lib.hid h1
  have HLW : Hid (w.heap.size + 1 + 1 < w1.heap.size) := HS1.out.o.lt
  clear h1 hb1 HS HA HB
  go_upto_region 2 with fail
  go_cut [] (fun wx => ∃ (s1 : Bool) (A1 : Option Addr) (n1 c1 : Nat) (t1 : Bool) (B1 : Option Addr) (m1 d1 : Nat), Hid (SQ w wx s1 A1 n1 c1 t1 B1 m1 d1) ∧ Hid (OneZ wx s1 A1 n1 c1 q.num) ∧ Hid (OneZ wx t1 B1 m1 d1 (q.den : Int)))
  case first =>
    obtain ⟨W, hW⟩ : ∃ W, w1.alloc (.cells #[.bool sg, .slice Ag ng cg] 25) = W := ⟨_, rfl⟩
    have HG2 : Hid (Ibx W w1.heap.size sg Ag ng cg) := by rw [← hW]; exact Ibx.new' _ _ _ _ _ _ rfl
    have HS2 : Hid (SQ w W s A n c t B m d) := by rw [← hW]; exact HS1.out.alloc _
    have HA2 : Hid (OneZ W s A n c y) := by rw [← hW]; exact HA1.out.alloc _
    have HB2 : Hid (OneZ W t B m d z) := by rw [← hW]; exact HB1.out.alloc _
    have HO2 : Hid (OneZ W sg Ag ng cg g) := by rw [← hW]; exact H1.out.alloc _
    rw [hW]
    clear hW HS1 HA1 HB1 H1
    have k0 := HS2.out.i1.c0
    have k1 := HS2.out.i1.c1
    have k2 := HS2.out.i2.c0
    have k3 := HS2.out.i2.c1
    have hlt := HS2.out.i2.lt
    have hlw : w.heap.size + 1 + 1 < w1.heap.size := HLW.out
    rw [show Op.load 25 (Operand.tmp 2) = hideL (Op.load 25 (Operand.tmp 2)) from rfl, show Op.load 25 (Operand.tmp 3) = hideL (Op.load 25 (Operand.tmp 3)) from rfl]
    go_region_held3 (fun V => V.cell? ⟨w1.heap.size, 0, none⟩ = some (.bool sg) ∧ V.cell? ⟨w1.heap.size, 1, none⟩ = some (.slice Ag ng cg))
     (first | (with_reducible exact ⟨HG4.out.c0, HG4.out.c1⟩) | (with_reducible exact ⟨(HG4.out.put_far (by omega)).c0, (HG4.out.put_far (by omega)).c1⟩) | (with_reducible exact ⟨((HG4.out.put_far (by omega)).put_far (by omega)).c0, ((HG4.out.put_far (by omega)).put_far (by omega)).c1⟩) | (with_reducible exact ⟨HG3.out.c0, HG3.out.c1⟩) | (with_reducible exact ⟨HG2.out.drew.c0, HG2.out.drew.c1⟩))
     (first
      | (go_at_call 124; (refine (share_j HB3.out HO3.out HZ.out HGL.out (q.den : Int) HD.out).mono ?_); rintro e w4 ⟨s4, A4, n4, c4, rfl, h4, hb4⟩; have HS4 := Lib.hid (HS3.out.below hb4); have HG4 := Lib.hid (HG3.out.below hb4); have HN4 := Lib.hid (HN3.out.below hb4); have HD4 := Lib.hid h4; have f0 := HS4.out.i1.f 0; have f1 := HS4.out.i1.f 1; have f2 := HS4.out.i2.f 0; have f3 := HS4.out.i2.f 1; have k0 := HS4.out.i1.c0; have k1 := HS4.out.i1.c1; have k2 := HS4.out.i2.c0; have k3 := HS4.out.i2.c1)
      | (go_at_call 124; (refine (share_j HA2.out.drew HO2.out.drew HY.out HGL.out q.num HN.out).mono ?_); rintro e w3 ⟨s3, A3, n3, c3, rfl, h3, hb3⟩; have HS3 := Lib.hid (HS2.out.drew.below hb3); have HG3 := Lib.hid (HG2.out.drew.below hb3); have HB3 := Lib.hid (HB2.out.drew.below hb3); have HO3 := Lib.hid (HO2.out.drew.below hb3); have HN3 := Lib.hid h3; have k2 := HS3.out.i2.c0; have k3 := HS3.out.i2.c1))
    all_goals
      go_wp2_with fail
      go_meet
      exact ⟨s3, A3, n3, c3, s4, A4, n4, c4, HS4.out.fst.snd, (HN4.out.on2 HS4.out.i1.bx).on2 HS4.out.fst.i2.bx, (HD4.out.on2 HS4.out.i1.bx).on2 HS4.out.fst.i2.bx⟩
  case rest =>
    clear HS1 HA1 HB1 H1
    obtain ⟨s1, A1, n1, c1, t1, B1, m1, d1, HS, HN1, HD1⟩ := hcut
    have c0 := HS.out.i1.c0
    have c1' := HS.out.i1.c1
    have c2 := HS.out.i2.c0
    have c3 := HS.out.i2.c1
    by_cases hd1 : q.den = 1
    · have HE : Hid (decide ((q.den : Int) = 1) = true) := decide_eq_true (by omega)
      go_wp2_with fail
      refine (isone_j (HD1.out.isz HDL.out) (by omega) true HE.out).mono ?_
      rintro e w5 ⟨rfl, hb5⟩
      have HS5 := Lib.hid (HS.out.below hb5)
      have HN5 := Lib.hid (HN1.out.below hb5)
      clear hb5 c0 c1' c2 c3
      have c0 := HS5.out.i1.c0
      have c1' := HS5.out.i1.c1
      have c2 := HS5.out.i2.c0
      have c3 := HS5.out.i2.c1
      have f2 := HS5.out.i2.f 0
      have f3 := HS5.out.i2.f 1
      have o0 := HS5.out.o.c0
      have o1 := HS5.out.o.c1
      have o2 := HS5.out.o.c2
      have o3 := HS5.out.o.c3
      have p0 := HS5.out.o.f 0
      have p1 := HS5.out.o.f 1
      have p2 := HS5.out.o.f 2
      have p3 := HS5.out.o.f 3
      go_wp2_with fail
      refine bodyPost_ret (v := .agg #[.bool s1, .slice A1 n1 c1, .bool false, .slice none 0 0]) (by simp [results, Tryz.results93, go_sem, o0, o1, o2, o3]) rfl ?_
      exact retq_put (oneq_one (HN5.out.on2 HS5.out.i2.bx) hd1 0) HS5.out.snd.o (by omega) HS5.out.snd.bel
    · have HE : Hid (decide ((q.den : Int) = 1) = false) := decide_eq_false (by omega)
      go_wp2_with fail
      refine (isone_j (HD1.out.isz HDL.out) (by omega) false HE.out).mono ?_
      rintro e w5 ⟨rfl, hb5⟩
      have HS5 := Lib.hid (HS.out.below hb5)
      have HN5 := Lib.hid (HN1.out.below hb5)
      have HD5 := Lib.hid (HD1.out.below hb5)
      clear hb5 c0 c1' c2 c3
      have c0 := HS5.out.i1.c0
      have c1' := HS5.out.i1.c1
      have c2 := HS5.out.i2.c0
      have c3 := HS5.out.i2.c1
      have o0 := HS5.out.o.c0
      have o1 := HS5.out.o.c1
      have o2 := HS5.out.o.c2
      have o3 := HS5.out.o.c3
      have p0 := HS5.out.o.f 0
      have p1 := HS5.out.o.f 1
      have p2 := HS5.out.o.f 2
      have p3 := HS5.out.o.f 3
      go_wp2_with fail
      refine bodyPost_ret (v := .agg #[.bool s1, .slice A1 n1 c1, .bool t1, .slice B1 m1 d1]) (by simp [results, Tryz.results93, go_sem, o0, o1, o2, o3]) rfl ?_
      exact retq_put (oneq_of HN5.out HD5.out hd1) HS5.out.o (by omega) HS5.out.bel
end Go.Proofs.YtmbnlhedbedcdaaGreat.Q

/- ratio: Norm, Make, Of, Whole, turned, Neg, Sign, Abs, walked. -/
namespace Go.Proofs.YtmbnlhedbedcdaaGreat.Q
open Go.RowKit

/-- One fraction that came in, and the place for the fraction that is told. -/
structure S1 (w wx : World) (s : Bool) (A : Option Addr) (n c : Nat) (t : Bool) (B : Option Addr) (m d : Nat) : Prop where
  bel : Below w.heap.size w wx
  i : Qbx wx w.heap.size s A n c t B m d
  o : Qbx wx (w.heap.size + 1) false none 0 0 false none 0 0
section
variable {w wx wy : World} {s t s' t' : Bool} {A B A' B' : Option Addr} {n c m d n' c' m' d' : Nat}
theorem S1.start (w : World) (s : Bool) (A : Option Addr) (n c : Nat) (t : Bool) (B : Option Addr) (m d : Nat) : S1 w ((w.alloc (.cells #[.bool s, .slice A n c, .bool t, .slice B m d] 27)).alloc (.cells #[.bool false, .slice none 0 0, .bool false, .slice none 0 0] 27)) s A n c t B m d :=
  ⟨((Below.refl _ _).alloc (Nat.le_refl _) _).alloc (by simp) _, (Qbx.new _ _ rfl).alloc _, Qbx.new _ _ (by simp)⟩
theorem S1.below (h : S1 w wx s A n c t B m d) (hb : Below wx.heap.size wx wy) : S1 w wy s A n c t B m d := ⟨below_on h.bel hb, h.i.below hb, h.o.below hb⟩
theorem S1.alloc (h : S1 w wx s A n c t B m d) (o : Obj) : S1 w (wx.alloc o) s A n c t B m d := h.below ((Below.refl _ _).alloc (Nat.le_refl _) o)
theorem S1.drew (h : S1 w wx s A n c t B m d) : S1 w wx.drew s A n c t B m d := h.below ((Below.refl _ _).drew)
end
theorem oneq_zero (w : World) (c d : Nat) : OneQ w false none 0 c false none 0 d 0 := ⟨rfl, by show 0 = (dig 0).length; rw [dig_zero]; rfl, rfl, rfl, by show Num w none (dig 0); rw [dig_zero]; exact Num.nil _ _, Num.nil _ _, Nat.zero_le _, Nat.zero_le _⟩

set_option maxRecDepth 100000 in
set_option maxHeartbeats 4000000 in
theorem norm_q {w : World} {s t : Bool} {A B : Option Addr} {n c m d k : Nat} {q : Rat} (h : IsQ w s A n c t B m d q k) (hk : 1 ≤ k) (hk2 : k ≤ 3000) :
    Calls Tryz.prog 40 #[.agg #[.bool s, .slice A n c, .bool t, .slice B m d]] w (RetQ w q) := by
  have HS := Lib.hid (S1.start w s A n c t B m d)
  have HQ := Lib.hid ((h.alloc (.cells #[.bool s, .slice A n c, .bool t, .slice B m d] 27)).alloc (.cells #[.bool false, .slice none 0 0, .bool false, .slice none 0 0] 27))
  clear h
  go_enter Tryz.func40, Tryz.ntmps40
  go_wp2_with fail
  refine (parts_any _ s t A B n c m d k q HQ.out hk hk2).mono ?_
  rintro e w1 ⟨s1, A1, n1, c1, t1, B1, m1, d1, y, z, rfl, hy, hz, hzp, hq, hb1⟩
  have HS1 := Lib.hid (HS.out.below hb1)
  have HY1 := Lib.hid hy
  have HZ1 := Lib.hid hz
  have HQ1 := Lib.hid hq
  clear hy hz hq hb1 HS HQ
  obtain ⟨W, hW⟩ : ∃ W, (w1.alloc (.cells #[.bool s1, .slice A1 n1 c1] 25)).alloc (.cells #[.bool t1, .slice B1 m1 d1] 25) = W := ⟨_, rfl⟩
  have HI2 : Hid (Ibx W w1.heap.size s1 A1 n1 c1) := by rw [← hW]; exact (Ibx.new' _ _ _ _ _ _ rfl).alloc _
  have HJ2 : Hid (Ibx W (w1.heap.size + 1) t1 B1 m1 d1) := by rw [← hW]; exact Ibx.new' _ _ _ _ _ _ (by simp)
  have HS2 : Hid (S1 w W s A n c t B m d) := by rw [← hW]; exact (HS1.out.alloc _).alloc _
  have HY2 : Hid (IsZ W s1 A1 n1 c1 y k) := by rw [← hW]; exact (HY1.out.alloc _).alloc _
  have HZ2 : Hid (IsZ W t1 B1 m1 d1 z k) := by rw [← hW]; exact (HZ1.out.alloc _).alloc _
  have HLW : Hid (w.heap.size + 1 < w1.heap.size) := HS1.out.o.lt
  have hly := HY1.out.zl
  have hlz := HZ1.out.zl
  clear HS1 HY1 HZ1
  go_upto_region 2 with fail
  clear hW
  go_region_held3 (fun V => V.cell? ⟨w1.heap.size, 0, none⟩ = some (.bool s1) ∧ V.cell? ⟨w1.heap.size, 1, none⟩ = some (.slice A1 n1 c1) ∧ V.cell? ⟨w1.heap.size + 1, 0, none⟩ = some (.bool t1) ∧ V.cell? ⟨w1.heap.size + 1, 1, none⟩ = some (.slice B1 m1 d1))
   (first | (with_reducible exact ⟨(HI5.out.put4_far (by have := HLW.out; omega)).c0, (HI5.out.put4_far (by have := HLW.out; omega)).c1, (HJ5.out.put4_far (by have := HLW.out; omega)).c0, (HJ5.out.put4_far (by have := HLW.out; omega)).c1⟩) | (with_reducible exact ⟨HI5.out.c0, HI5.out.c1, HJ5.out.c0, HJ5.out.c1⟩) | (with_reducible exact ⟨HI4.out.c0, HI4.out.c1, HJ4.out.c0, HJ4.out.c1⟩) | (with_reducible exact ⟨HI3.out.c0, HI3.out.c1, HJ3.out.c0, HJ3.out.c1⟩) | (with_reducible exact ⟨HI2.out.drew.c0, HI2.out.drew.c1, HJ2.out.drew.c0, HJ2.out.drew.c1⟩))
   (first
    | (go_at_call 93; (refine (lowest_j HN4.out HD4.out (by omega) (by omega) hzp HQ1.out).mono ?_); rintro e w5 ⟨s5, A5, n5, c5, t5, B5, m5, d5, rfl, h5, hb5⟩; have HS5 := Lib.hid (HS4.out.below hb5); have HI5 := Lib.hid (HI4.out.below hb5); have HJ5 := Lib.hid (HJ4.out.below hb5); have HR5 := Lib.hid h5; have o0 := HS5.out.o.c0; have o1 := HS5.out.o.c1; have o2 := HS5.out.o.c2; have o3 := HS5.out.o.c3; have f0 := HS5.out.o.f 0; have f1 := HS5.out.o.f 1; have f2 := HS5.out.o.f 2; have f3 := HS5.out.o.f 3)
    | (go_at_call 94; (refine (norm_j HZ3.out hk2).mono ?_); rintro e w4 ⟨s4, A4, n4, c4, rfl, h4, hb4⟩; have HS4 := Lib.hid (HS3.out.below hb4); have HI4 := Lib.hid (HI3.out.below hb4); have HJ4 := Lib.hid (HJ3.out.below hb4); have HN4 := Lib.hid (HN3.out.below hb4); have HD4 := Lib.hid h4)
    | (go_at_call 94; (refine (norm_j HY2.out.drew hk2).mono ?_); rintro e w3 ⟨s3, A3, n3, c3, rfl, h3, hb3⟩; have HS3 := Lib.hid (HS2.out.drew.below hb3); have HI3 := Lib.hid (HI2.out.drew.below hb3); have HJ3 := Lib.hid (HJ2.out.drew.below hb3); have HZ3 := Lib.hid (HZ2.out.drew.below hb3); have HN3 := Lib.hid h3))
  all_goals
    go_wp2_with fail
    refine bodyPost_ret (v := .agg #[.bool s5, .slice A5 n5 c5, .bool t5, .slice B5 m5 d5]) (by simp [results, Tryz.results40, go_sem, o0, o1, o2, o3]) rfl ?_
    exact retq_put HR5.out HS5.out.o (by omega) HS5.out.bel

theorem IsQ.flip {w : World} {s t : Bool} {A B : Option Addr} {n c m d k : Nat} {q : Rat} (h : IsQ w s A n c t B m d q k) : IsQ w (!s) A n c t B m d (-q) k :=
  ⟨by obtain ⟨xs, ys, h1, h2, h3, h4, h5⟩ := h.ex; exact ⟨xs, ys, h1, h2, h3, h4, by rw [← h5, Rat.neg_divInt]; congr 1; cases s <;> simp [zv]⟩, h.le, h.le2, h.cap, h.cap2⟩

theorem IsZ.pair {w : World} {s t : Bool} {A B : Option Addr} {n c m d k : Nat} {y z : Int} (h1 : IsZ w s A n c y k) (h2 : IsZ w t B m d z k) (hz : z ≠ 0) : IsQ w s A n c t B m d (Rat.divInt y z) k := by
  obtain ⟨xs, e1, e2, e3⟩ := h1.ex
  obtain ⟨ys, g1, g2, g3⟩ := h2.ex
  refine ⟨⟨xs, ys, e1, g1, e2, g2, ?_⟩, h1.le, h2.le, h1.cap, h2.cap⟩
  unfold rden
  rw [if_neg, e3, g3]
  intro h
  apply hz
  rw [← g3, List.eq_nil_of_length_eq_zero h]
  exact zv_zero t

set_option maxRecDepth 100000 in
set_option maxHeartbeats 4000000 in
theorem make_q {w : World} {s t : Bool} {A B : Option Addr} {n c m d k : Nat} {y z : Int} (h1 : IsZ w s A n c y k) (h2 : IsZ w t B m d z k) (hk : 1 ≤ k) (hk2 : k ≤ 3000) (q : Rat) (hq : Rat.divInt y z = q) :
    Calls Tryz.prog 95 #[.agg #[.bool s, .slice A n c], .agg #[.bool t, .slice B m d]] w (RetQ w q) := by
  have HS := Lib.hid (SQ.start w s A n c t B m d)
  have HB := Lib.hid (((h2.alloc (.cells #[.bool s, .slice A n c] 25)).alloc (.cells #[.bool t, .slice B m d] 25)).alloc (.cells #[.bool false, .slice none 0 0, .bool false, .slice none 0 0] 27))
  by_cases hz : z = 0
  · have HR : Hid (q = 0) := by show _ = _; rw [← hq, hz, Rat.divInt_zero]
    have HD : Hid (z.sign = 0) := by show _ = _; rw [hz]; rfl
    clear h1 h2 hq hz
    go_enter Tryz.func95, Tryz.ntmps95
    go_wp2_with fail
    refine (sign_j HB.out hk2 0 HD.out).mono ?_
    rintro e w1 ⟨rfl, hb1⟩
    have HS1 := Lib.hid (HS.out.below hb1)
    clear hb1
    have o0 := HS1.out.o.c0
    have o1 := HS1.out.o.c1
    have o2 := HS1.out.o.c2
    have o3 := HS1.out.o.c3
    have f0 := HS1.out.o.f 0
    have f1 := HS1.out.o.f 1
    have f2 := HS1.out.o.f 2
    have f3 := HS1.out.o.f 3
    go_wp2_with fail
    refine bodyPost_ret (v := .agg #[.bool false, .slice none 0 0, .bool false, .slice none 0 0]) (by simp [results, Tryz.results95, go_sem, o0, o1, o2, o3]) rfl ?_
    exact (by rw [HR.out]; exact retq_put (oneq_zero _ 0 0) HS1.out.o (by omega) HS1.out.bel)
  · have HP := Lib.hid ((((h1.pair h2 hz).alloc (.cells #[.bool s, .slice A n c] 25)).alloc (.cells #[.bool t, .slice B m d] 25)).alloc (.cells #[.bool false, .slice none 0 0, .bool false, .slice none 0 0] 27))
    rw [hq] at HP
    obtain ⟨sg, hsg⟩ : ∃ sg, z.sign = sg := ⟨_, rfl⟩
    have HD := Lib.hid hsg
    have hs0 : (sg == 0) = false := by rw [beq_eq_false_iff_ne, ← hsg]; exact fun h => hz (Int.sign_eq_zero_iff_zero.1 h)
    clear h1 h2 hq hz hsg
    go_enter Tryz.func95, Tryz.ntmps95
    go_wp2_with fail
    refine (sign_j HB.out hk2 sg HD.out).mono ?_
    rintro e w1 ⟨rfl, hb1⟩
    have HS1 := Lib.hid (HS.out.below hb1)
    have HP1 := Lib.hid (HP.out.below hb1)
    clear hb1
    have k0 := HS1.out.i1.c0
    have k1 := HS1.out.i1.c1
    have k2 := HS1.out.i2.c0
    have k3 := HS1.out.i2.c1
    go_wp2_with fail
    refine (norm_q HP1.out hk hk2).mono ?_
    rintro e w2 ⟨s2, A2, n2, c2, t2, B2, m2, d2, rfl, h2, hb2⟩
    have HS2 := Lib.hid (HS1.out.below hb2)
    have HR2 := Lib.hid h2
    clear hb2 h2
    have o0 := HS2.out.o.c0
    have o1 := HS2.out.o.c1
    have o2 := HS2.out.o.c2
    have o3 := HS2.out.o.c3
    have f0 := HS2.out.o.f 0
    have f1 := HS2.out.o.f 1
    have f2 := HS2.out.o.f 2
    have f3 := HS2.out.o.f 3
    go_wp2_with fail
    refine bodyPost_ret (v := .agg #[.bool s2, .slice A2 n2 c2, .bool t2, .slice B2 m2 d2]) (by simp [results, Tryz.results95, go_sem, o0, o1, o2, o3]) rfl ?_
    exact retq_put HR2.out HS2.out.o (by omega) HS2.out.bel

structure S0 (w wx : World) : Prop where
  bel : Below w.heap.size w wx
  o : Qbx wx w.heap.size false none 0 0 false none 0 0
theorem S0.start (w : World) : S0 w (w.alloc (.cells #[.bool false, .slice none 0 0, .bool false, .slice none 0 0] 27)) := ⟨(Below.refl _ _).alloc (Nat.le_refl _) _, Qbx.new _ _ rfl⟩
theorem S0.below {w wx wy : World} (h : S0 w wx) (hb : Below wx.heap.size wx wy) : S0 w wy := ⟨below_on h.bel hb, h.o.below hb⟩

set_option maxRecDepth 100000 in
set_option maxHeartbeats 4000000 in
theorem of_q (w : World) (y z : Int) (h1 : -9223372036854775808 ≤ y) (h2 : y ≤ 9223372036854775807) (h3 : -9223372036854775808 ≤ z) (h4 : z ≤ 9223372036854775807) (q : Rat) (hq : Rat.divInt y z = q) :
    Calls Tryz.prog 41 #[.int .i64 y, .int .i64 z] w (RetQ w q) := by
  have HS := Lib.hid (S0.start w)
  have HY : Hid (zl y ≤ 1) := zl_small h1 h2
  have HZ : Hid (zl z ≤ 1) := zl_small h3 h4
  have HO1 := Lib.hid (fun W => of_j W y h1 h2)
  have HO2 := Lib.hid (fun W => of_j W z h3 h4)
  have HQ := Lib.hid hq
  clear h1 h2 h3 h4 hq
  go_enter Tryz.func41, Tryz.ntmps41
  go_wp2_with fail
  refine (HO1.out _).mono ?_
  rintro e w1 ⟨s1, A1, n1, c1, rfl, h1, hb1⟩
  have HS1 := Lib.hid (HS.out.below hb1)
  have HN1 := Lib.hid h1
  clear h1 hb1
  go_wp2_with fail
  refine (HO2.out _).mono ?_
  rintro e w2 ⟨s2, A2, n2, c2, rfl, h2, hb2⟩
  have HS2 := Lib.hid (HS1.out.below hb2)
  have HN2 := Lib.hid (HN1.out.below hb2)
  have HD2 := Lib.hid h2
  clear h2 hb2
  go_wp2_with fail
  refine (make_q (HN2.out.isz HY.out) (HD2.out.isz HZ.out) (by omega) (by omega) q HQ.out).mono ?_
  rintro e w3 ⟨s3, A3, n3, c3, t3, B3, m3, d3, rfl, h3, hb3⟩
  have HS3 := Lib.hid (HS2.out.below hb3)
  have HR3 := Lib.hid h3
  clear h3 hb3
  have o0 := HS3.out.o.c0
  have o1 := HS3.out.o.c1
  have o2 := HS3.out.o.c2
  have o3 := HS3.out.o.c3
  have f0 := HS3.out.o.f 0
  have f1 := HS3.out.o.f 1
  have f2 := HS3.out.o.f 2
  have f3 := HS3.out.o.f 3
  go_wp2_with fail
  refine bodyPost_ret (v := .agg #[.bool s3, .slice A3 n3 c3, .bool t3, .slice B3 m3 d3]) (by simp [results, Tryz.results41, go_sem, o0, o1, o2, o3]) rfl ?_
  exact retq_put HR3.out HS3.out.o (by omega) HS3.out.bel

structure SW (w wx : World) (s : Bool) (A : Option Addr) (n c : Nat) : Prop where
  bel : Below w.heap.size w wx
  i : Ibx wx w.heap.size s A n c
  o : Qbx wx (w.heap.size + 1) false none 0 0 false none 0 0
theorem SW.start (w : World) (s : Bool) (A : Option Addr) (n c : Nat) : SW w ((w.alloc (.cells #[.bool s, .slice A n c] 25)).alloc (.cells #[.bool false, .slice none 0 0, .bool false, .slice none 0 0] 27)) s A n c := ⟨((Below.refl _ _).alloc (Nat.le_refl _) _).alloc (by simp) _, (Ibx.new' _ _ _ _ _ _ rfl).alloc _, Qbx.new _ _ (by simp)⟩
theorem SW.below {w wx wy : World} {s : Bool} {A : Option Addr} {n c : Nat} (h : SW w wx s A n c) (hb : Below wx.heap.size wx wy) : SW w wy s A n c := ⟨below_on h.bel hb, h.i.below hb, h.o.below hb⟩

theorem wrap_signs (y z : Int) : IntKind.i64.wrap (y.sign * z.sign) = y.sign * z.sign := by
  have h1 : -1 ≤ y.sign ∧ y.sign ≤ 1 := by rcases Int.lt_trichotomy y 0 with h | h | h <;> first | (rw [Int.sign_eq_neg_one_of_neg h]; omega) | (rw [Int.sign_eq_one_of_pos h]; omega) | (subst h; decide)
  have h2 : -1 ≤ z.sign ∧ z.sign ≤ 1 := by rcases Int.lt_trichotomy z 0 with h | h | h <;> first | (rw [Int.sign_eq_neg_one_of_neg h]; omega) | (rw [Int.sign_eq_one_of_pos h]; omega) | (subst h; decide)
  have h3 : -1 ≤ y.sign * z.sign ∧ y.sign * z.sign ≤ 1 := by
    rcases (show y.sign = -1 ∨ y.sign = 0 ∨ y.sign = 1 by omega) with h | h | h <;> rw [h] <;> omega
  exact IntWalk.i64_in _ (by omega)

set_option maxRecDepth 100000 in
set_option maxHeartbeats 4000000 in
theorem sign_q {w : World} {s t : Bool} {A B : Option Addr} {n c m d k : Nat} {y : Rat} (h : IsQ w s A n c t B m d y k) (hk2 : k ≤ 3000) (r : Int) (hr : qsign y = r) :
    Calls Tryz.prog 74 #[.agg #[.bool s, .slice A n c, .bool t, .slice B m d]] w (RetI w r) := by
  obtain ⟨a, z, hy, hz, hq⟩ := h.two
  have HW : Hid (Below w.heap.size w (w.alloc (.cells #[.bool s, .slice A n c, .bool t, .slice B m d] 27))) := (Below.refl _ _).alloc (Nat.le_refl _) _
  have HI : Hid (Qbx (w.alloc (.cells #[.bool s, .slice A n c, .bool t, .slice B m d] 27)) w.heap.size s A n c t B m d) := Qbx.new _ _ rfl
  have HY := Lib.hid (hy.alloc (.cells #[.bool s, .slice A n c, .bool t, .slice B m d] 27))
  have HZ := Lib.hid (hz.alloc (.cells #[.bool s, .slice A n c, .bool t, .slice B m d] 27))
  obtain ⟨sa, hsa⟩ : ∃ sa, a.sign = sa := ⟨_, rfl⟩
  have HSA := Lib.hid hsa
  by_cases hm : m = 0
  · have hm0 : ¬ (0 : Int) < (m : Int) := by omega
    have HE : Hid (sa = r) := by show _ = _; rw [if_pos hm] at hq; rw [← hr, ← hq, sign_div, hsa]; show sa = sa * 1; rw [Int.mul_one]
    clear h hy hz hq hr hsa hm
    go_enter Tryz.func74, Tryz.ntmps74
    go_wp2_with fail
    refine (sign_j HY.out hk2 sa HSA.out).mono ?_
    rintro e w1 ⟨rfl, hb1⟩
    have HW1 := Lib.hid (below_on HW.out hb1)
    have HI1 := Lib.hid (HI.out.below hb1)
    clear hb1
    have k2 := HI1.out.c2
    have k3 := HI1.out.c3
    go_wp2_with fail
    go_ret
    rw [← HE.out]
    exact ⟨rfl, HW1.out⟩
  · have hm0 : (0 : Int) < (m : Int) := by omega
    obtain ⟨sz, hsz⟩ : ∃ sz, z.sign = sz := ⟨_, rfl⟩
    have HSZ := Lib.hid hsz
    have hwr : IntKind.i64.wrap (sa * sz) = r := by rw [← hsa, ← hsz, wrap_signs, ← hr, ← hq, if_neg hm, sign_div]
    clear h hy hz hq hr hsa hsz hm
    go_enter Tryz.func74, Tryz.ntmps74
    go_wp2_with fail
    refine (sign_j HY.out hk2 sa HSA.out).mono ?_
    rintro e w1 ⟨rfl, hb1⟩
    have HW1 := Lib.hid (below_on HW.out hb1)
    have HI1 := Lib.hid (HI.out.below hb1)
    have HZ1 := Lib.hid (HZ.out.below hb1)
    clear hb1
    have k2 := HI1.out.c2
    have k3 := HI1.out.c3
    go_wp2_with fail
    refine (sign_j HZ1.out hk2 sz HSZ.out).mono ?_
    rintro e w2 ⟨rfl, hb2⟩
    have HW2 := Lib.hid (below_on HW1.out hb2)
    clear hb2
    go_wp2_with fail
    go_ret
    exact ⟨rfl, HW2.out⟩

end Go.Proofs.YtmbnlhedbedcdaaGreat.Q
