/- DigitsBack, walked. -/
import Derived.Test.YtginajegbknfhaaDoorDAwake
namespace Go.Proofs.YtginajegbknfhaaDoor.D
open Go.RowKit

/-- A whole number's box, its digits. -/
structure BI (w : World) (b : Nat) (s : Bool) (A : Option Addr) (xs : List Nat) (c : Nat) (W : World) : Prop where
  below : Below w.heap.size w W
  box : Ibx W b s A xs.length c
  num : Num W A xs
theorem BI.step {w W W' : World} {b : Nat} {s : Bool} {A : Option Addr} {xs : List Nat} {c : Nat} (h : BI w b s A xs c W) (hb : Below W.heap.size W W') : BI w b s A xs c W' :=
  ⟨h.below.trans (hb.mono h.below.size), h.box.below hb, h.num.below hb⟩
theorem BI.alloc {w W : World} {b : Nat} {s : Bool} {A : Option Addr} {xs : List Nat} {c : Nat} (h : BI w b s A xs c W) (o : Obj) : BI w b s A xs c (W.alloc o) := h.step ((Below.refl _ _).alloc (Nat.le_refl _) _)
theorem BI.drew {w W : World} {b : Nat} {s : Bool} {A : Option Addr} {xs : List Nat} {c : Nat} (h : BI w b s A xs c W) : BI w b s A xs c W.drew := h.step ((Below.refl _ _).drew)
theorem BI.k {w W : World} {b : Nat} {s : Bool} {A : Option Addr} {xs : List Nat} {c : Nat} (h : BI w b s A xs c W) : C2 b (.bool s) (.slice A xs.length c) W := ⟨h.box.c0, h.box.c1⟩
theorem BI.store {w W : World} {b : Nat} {s s' : Bool} {A A' : Option Addr} {xs xs' : List Nat} {c c' : Nat} (h : BI w b s A xs c W) (hb : w.heap.size ≤ b) (hn : Num W A' xs') : BI w b s' A' xs' c' ((W.setCell ⟨b, 0, none⟩ (.bool s')).setCell ⟨b, 1, none⟩ (.slice A' xs'.length c')) :=
  ⟨(h.below.setCell hb _).setCell hb _, h.box.two _ _ _ _, hn.two h.box _ _⟩
theorem C2.under {p : Nat} {v1 v2 : Value} {W W' : World} (h : C2 p v1 v2 W) (hb : Below W.heap.size W W') : C2 p v1 v2 W' := C2.below hb h
theorem d2_of {p q : Nat} {v1 v2 v3 v4 : Value} {W : World} (h1 : C2 p v1 v2 W) (h2 : C2 q v3 v4 W) : W.cell? ⟨p, 0, none⟩ = some v1 ∧ W.cell? ⟨p, 1, none⟩ = some v2 ∧ W.cell? ⟨q, 0, none⟩ = some v3 ∧ W.cell? ⟨q, 1, none⟩ = some v4 := ⟨h1.1, h1.2, h2.1, h2.2⟩
theorem Ibx.newd (w : World) (g : Nat) (hg : g = w.heap.size) : Ibx ((w.alloc (.cells #[.bool false, .slice none 0 0] 25)).drew) g false none 0 0 := Ibx.new' w _ _ _ _ g hg
/-- Behind the sum's store, whichever order was drawn. -/
structure EndF (w : World) (b : Nat) (s : Bool) (A : Option Addr) (xs : List Nat) (c : Nat) (g : Nat) (p : Int) (B : Option Addr) (e : Nat) (W : World) : Prop where
  i : BI w b s A xs c W
  k : C2 g (.bool (zneg p)) (.slice B (dig p.natAbs).length e) W
  num : Num W B (dig p.natAbs)
theorem end_alloc {w W : World} {b : Nat} {s : Bool} {A : Option Addr} {xs : List Nat} {c : Nat} {p : Int} {B : Option Addr} {e : Nat} (h : BI w b s A xs c W) (hn : Num W B (dig p.natAbs)) :
    ∃ g V, W.heap.size = g ∧ W.alloc (.cells #[.bool (zneg p), .slice B (dig p.natAbs).length e] 25) = V ∧ EndF w b s A xs c g p B e V :=
  ⟨_, _, rfl, rfl, h.alloc _, C2.base _ _ _ _, hn.alloc _⟩
theorem end_store {w W : World} {b : Nat} {s : Bool} {A : Option Addr} {xs : List Nat} {c g : Nat} {p : Int} {B : Option Addr} {e : Nat} (h : BI w b s A xs c W) (J : Ibx W g false none 0 0) (hg : w.heap.size ≤ g) (hne : b ≠ g) (hn : Num W B (dig p.natAbs)) :
    ∃ g' V, g = g' ∧ (W.setCell ⟨g, 0, none⟩ (.bool (zneg p))).setCell ⟨g, 1, none⟩ (.slice B (dig p.natAbs).length e) = V ∧ EndF w b s A xs c g' p B e V :=
  ⟨_, _, rfl, rfl, ⟨(h.below.setCell hg _).setCell hg _, (h.box.far hne _).far hne _, h.num.two J _ _⟩, ⟨(J.two _ _ _ _).c0, (J.two _ _ _ _).c1⟩, hn.two J _ _⟩
theorem digit_at {k : Nat} (h : k < 10) : (⟨#[48, 49, 50, 51, 52, 53, 54, 55, 56, 57]⟩ : ByteArray).extract k (k + 1) = ⟨#[UInt8.ofNat (48 + k)]⟩ := by
  have hall : ∀ k : Fin 10, (⟨#[48, 49, 50, 51, 52, 53, 54, 55, 56, 57]⟩ : ByteArray).extract k.1 (k.1 + 1) = ⟨#[UInt8.ofNat (48 + k.1)]⟩ := by decide
  exact hall ⟨k, h⟩
theorem cat2 {a b q : List UInt8} (h : a ++ b = q) : (⟨a.toArray⟩ ++ ⟨b.toArray⟩ : ByteArray) = ⟨q.toArray⟩ := by
  subst h
  apply ByteArray.ext
  simp
theorem tail_at (U : List UInt8) : (⟨(45 :: U).toArray⟩ : ByteArray).extract 1 (U.length + 1) = ⟨U.toArray⟩ := by
  apply ByteArray.ext
  simp
theorem len30 {xs : List Nat} (hd : Digs xs) (h : xs.length ≤ 30) : (Lib.decDigits (val xs)).length ≤ 600 := by
  rw [Lib.decDigits_length]
  refine nd_le (by omega) (Nat.lt_of_lt_of_le (val_lt hd) ?_)
  have h1 : B64 ^ xs.length ≤ B64 ^ 30 := Nat.pow_le_pow_right (by rw [B64_eq]; omega) h
  refine Nat.le_trans h1 ?_
  rw [B64_eq]
  decide +kernel
theorem dec_app (m k : Nat) (hm : 0 < m) (hk : k < 10) : Lib.decDigits (10 * m + k) = Lib.decDigits m ++ [UInt8.ofNat (48 + k)] := by
  rw [Lib.decDigits, dif_neg (by omega), show (10 * m + k) / 10 = m by omega, show (10 * m + k) % 10 = k by omega]
theorem text_app {z : Int} {k : Nat} (hz : 0 < z) (hk : k < 10) : textOf (z * 10 + (k : Int)) = textOf z ++ [UInt8.ofNat (48 + k)] := by
  rw [textOf_pos hz, textOf_pos (by omega)]
  unfold sizeText
  rw [if_neg (by omega), if_neg (by omega), ← dec_app _ _ (by omega) hk]
  congr 1
  omega

end Go.Proofs.YtginajegbknfhaaDoor.D
