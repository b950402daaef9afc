/- DigitsBack, walked. -/
import Derived.Test.YtbbncggaaibheaaGreatDoorDTop
namespace Go.Proofs.YtbbncggaaibheaaGreatDoor.D
open Go.RowKit
structure BI (w : World) (b : Nat) (s : Bool) (A : Option Addr) (xs : List Nat) (c : Nat) (W : World) : Prop where
 below : Below w.heap.size w W
 box : Ibx W b s A xs.length c
 num : Num W A xs
theorem BI.step {w W W' : World} {b : Nat} {s : Bool} {A : Option Addr} {xs : List Nat} {c : Nat} (h : BI w b s A xs c W) (hb : Below W.heap.size W W') : BI w b s A xs c W' :=
 ⟨h.below.trans (hb.mono h.below.size), h.box.below hb, h.num.below hb⟩
theorem BI.alloc {w W : World} {b : Nat} {s : Bool} {A : Option Addr} {xs : List Nat} {c : Nat} (h : BI w b s A xs c W) (o : Obj) : BI w b s A xs c (W.alloc o) := h.step ((Below.refl _ _).alloc (Nat.le_refl _) _)
theorem BI.drew {w W : World} {b : Nat} {s : Bool} {A : Option Addr} {xs : List Nat} {c : Nat} (h : BI w b s A xs c W) : BI w b s A xs c W.drew := h.step ((Below.refl _ _).drew)
theorem BI.k {w W : World} {b : Nat} {s : Bool} {A : Option Addr} {xs : List Nat} {c : Nat} (h : BI w b s A xs c W) : C2 b (.bool s) (.slice A xs.length c) W := ⟨h.box.c0, h.box.c1⟩
theorem digit_at {k : Nat} (h : k < 10) : (⟨#[48, 49, 50, 51, 52, 53, 54, 55, 56, 57]⟩ : ByteArray).extract k (k + 1) = ⟨#[UInt8.ofNat (48 + k)]⟩ := by
 have hall : ∀ k : Fin 10, (⟨#[48, 49, 50, 51, 52, 53, 54, 55, 56, 57]⟩ : ByteArray).extract k.1 (k.1 + 1) = ⟨#[UInt8.ofNat (48 + k.1)]⟩ := by decide
 exact hall ⟨k, h⟩
theorem cat2 {a b q : List UInt8} (h : a ++ b = q) : (⟨a.toArray⟩ ++ ⟨b.toArray⟩ : ByteArray) = ⟨q.toArray⟩ := by
 subst h
 apply ByteArray.ext
 simp
theorem tail_at (U : List UInt8) : (⟨(45 :: U).toArray⟩ : ByteArray).extract 1 (U.length + 1) = ⟨U.toArray⟩ := by
 apply ByteArray.ext
 simp
end Go.Proofs.YtbbncggaaibheaaGreatDoor.D
