/- ratio: Parse, walked. -/
import Derived.Test.YtmbnlhedbedcdaaGreatDoorRText
import Derived.Test.YtmbnlhedbedcdaaGreatDoorROrd
import Derived.Test.YtmbnlhedbedcdaaGreatDoorLib
namespace Go.Proofs.YtmbnlhedbedcdaaGreatDoor.Q
open Go.RowKit
open Go.Proofs.YtmbnlhedbedcdaaGreatDoor.D (textOf parseV Tab RetS)

/-- Ahead of the first slash, and behind it. -/
def slashAt : List UInt8 → Option (List UInt8 × List UInt8)
  | [] => none
  | c :: r => if c == 47 then some ([], r) else match slashAt r with
    | none => none
    | some (a, b) => some (c :: a, b)
theorem slash_none {l : List UInt8} (h : slashAt l = none) : Lib.indexByte l 47 = -1 := by
  induction l with
  | nil => rfl
  | cons c r ih =>
    unfold slashAt at h
    unfold Lib.indexByte
    by_cases hc : (c == 47) = true
    · rw [if_pos hc] at h; cases h
    · rw [if_neg hc] at h ⊢
      cases hr : slashAt r with
      | none => rw [ih hr]; rfl
      | some p => rw [hr] at h; cases h
theorem slash_some {l a b : List UInt8} (h : slashAt l = some (a, b)) : l = a ++ 47 :: b ∧ Lib.indexByte l 47 = (a.length : Int) := by
  induction l generalizing a b with
  | nil => cases h
  | cons c r ih =>
    unfold slashAt at h
    unfold Lib.indexByte
    by_cases hc : (c == 47) = true
    · rw [if_pos hc] at h ⊢
      obtain ⟨rfl, rfl⟩ : [] = a ∧ r = b := by simpa using h
      exact ⟨by rw [beq_iff_eq] at hc; rw [hc]; rfl, rfl⟩
    · rw [if_neg hc] at h ⊢
      cases hr : slashAt r with
      | none => rw [hr] at h; cases h
      | some p =>
        obtain ⟨a1, b1⟩ := p
        rw [hr] at h
        obtain ⟨rfl, rfl⟩ : c :: a1 = a ∧ b1 = b := by simpa using h
        obtain ⟨h1, h2⟩ := ih hr
        refine ⟨by rw [h1]; rfl, ?_⟩
        rw [h2, if_neg (by rw [beq_iff_eq]; omega), List.length_cons]
        omega
theorem sl_front (a b : List UInt8) : (⟨(a ++ 47 :: b).toArray⟩ : ByteArray).extract 0 a.length = ⟨a.toArray⟩ := by
  apply ByteArray.ext
  simp
theorem sl_back (a b : List UInt8) : (⟨(a ++ 47 :: b).toArray⟩ : ByteArray).extract (a.length + 1) (a.length + (b.length + 1)) = ⟨b.toArray⟩ := by
  apply ByteArray.ext
  simp
  rw [List.take_of_length_le (by omega)]

/-- What Parse tells: the fraction, and an error's number. -/
def qparse (l : List UInt8) : Rat × Int :=
  if (parseV ((slashAt l).getD (l, [49])).1).2 = 11 ∨ (parseV ((slashAt l).getD (l, [49])).2).2 = 11 ∨ Lib.hasPrefix ((slashAt l).getD (l, [49])).2 [45] = true then (0, 11)
  else if (parseV ((slashAt l).getD (l, [49])).1).2 ≠ 0 ∨ (parseV ((slashAt l).getD (l, [49])).2).2 ≠ 0 then (0, 3)
  else if (parseV ((slashAt l).getD (l, [49])).2).1 = 0 then (0, 10)
  else (Rat.divInt (parseV ((slashAt l).getD (l, [49])).1).1 (parseV ((slashAt l).getD (l, [49])).2).1, 0)
theorem hasprefix_at (w : World) (l : List UInt8) (b : Bool) (hb : Lib.hasPrefix l [45] = b) :
    Calls Tryz.prog 109 #[.string ⟨l.toArray⟩, .string ⟨#[45]⟩] w fun e w' => e = .returned (.bool b) ∧ w = w' := by
  refine (Tryz.strings_HasPrefix ⟨l.toArray⟩ ⟨#[45]⟩ w).mono ?_
  rintro e w' ⟨he, hw⟩
  subst hb
  exact ⟨he, hw.symm⟩
/-- Parse's own memory behind both numerals. -/
structure PB (w W : World) (p r : Nat) (s : Bool) (A : Option Addr) (n c : Nat) (t : Bool) (B : Option Addr) (m d : Nat) (y z : Int) : Prop where
  bel : Below w.heap.size w W
  o : Qbx W w.heap.size false none 0 0 false none 0 0
  i1 : Ibx W p s A n c
  i2 : Ibx W r t B m d
  z1 : IsZ W s A n c y 1000
  z2 : IsZ W t B m d z 1000
theorem PB.below {w W W' : World} {p r : Nat} {s t : Bool} {A B : Option Addr} {n c m d : Nat} {y z : Int} (h : PB w W p r s A n c t B m d y z) (hb : Below W.heap.size W W') : PB w W' p r s A n c t B m d y z :=
  ⟨below_on h.bel hb, h.o.below hb, h.i1.below hb, h.i2.below hb, h.z1.below hb, h.z2.below hb⟩

end Go.Proofs.YtmbnlhedbedcdaaGreatDoor.Q