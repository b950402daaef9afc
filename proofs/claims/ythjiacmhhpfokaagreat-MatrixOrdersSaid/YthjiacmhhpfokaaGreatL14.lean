/- Part 14 of the proof: WholeI, RVal, RBox. -/
import Derived.Test.YthjiacmhhpfokaaGreatL13
namespace Go.Proofs.YthjiacmhhpfokaaGreat
open Go.Proofs.Tryz renaming prog → tz
open Nat renaming le_trans → lT
open Go.RowKit.Below renaming refl → bR
section
open Go.RowKit
section
variable (w : World) (s t : Bool) (A B : Option Addr) (c d : Nat) (xs ys : List Nat) (y z : Int) (ha : Num w A xs) (hb : Num w B ys) (hx : zv s (val xs) = y) (hy : zv t (val ys) = z) (hn : xs.length ≤ 400000) (hm : ys.length ≤ 400000) (hc : xs.length ≤ c) (hd : ys.length ≤ d)
include ha hb hx hy hn hm hc hd
theorem add_z (r : Int) (hr : y + z = r) : Calls tz 137 #[.agg #[.bool s, .slice A xs.length c], .agg #[.bool t, .slice B ys.length d]] w (RetZ w r) := by subst hr; exact zadd_any w s t A B c d xs ys y z ha hb hx hy hn hm hc hd
theorem mul_z (r : Int) (hr : y * z = r) : Calls tz 141 #[.agg #[.bool s, .slice A xs.length c], .agg #[.bool t, .slice B ys.length d]] w (RetZ w r) := by subst hr; exact zmul_any w s t A B c d xs ys y z ha hb hx hy hn hm hc hd
theorem cmp_z (r : Int) (hr : zcmp y z = r) : Calls tz 153 #[.agg #[.bool s, .slice A xs.length c], .agg #[.bool t, .slice B ys.length d]] w (RetI w r) := by subst hr; exact zcmp_any w s t A B c d xs ys y z ha hb hx hy hn hm hc hd
theorem divmod_z (q r : Int) (hq : y / z = q) (hr : zrem y z = r) : Calls tz 201 #[.agg #[.bool s, .slice A xs.length c], .agg #[.bool t, .slice B ys.length d]] w (RetZZ w q r) := by subst hq; subst hr; exact zdivmod_any w s t A B c d xs ys y z ha hb hx hy hn hm hc hd
end
section
variable (w : World) (s : Bool) (A : Option Addr) (c : Nat) (xs : List Nat) (z : Int) (ha : Num w A xs) (hx : zv s (val xs) = z) (hn : xs.length ≤ 400000) (hc : xs.length ≤ c)
include ha hx hn hc
theorem norm_z (r : Int) (hr : z = r) : Calls tz 134 #[.agg #[.bool s, .slice A xs.length c]] w (RetZ w r) := by subst hr; exact norm_any w s A c xs z ha hx (by omega) hc
theorem sign_z (r : Int) (hr : z.sign = r) : Calls tz 140 #[.agg #[.bool s, .slice A xs.length c]] w (RetI w r) := by subst hr; exact zsign_any w s A c xs z ha hx (by omega) hc
end
theorem of_z (w : World) (n r : Int) (hr : n = r) (h1 : -9223372036854775808 ≤ r) (h2 : r ≤ 9223372036854775807) : Calls tz 126 #[.int .i64 n] w (RetZ w r) := by subst hr; exact of_any w n h1 h2
theorem zl_small {z : Int} (h1 : -9223372036854775808 ≤ z) (h2 : z ≤ 9223372036854775807) : zl z ≤ 1 := dig_length_le (by rw [B64_eq]; omega)
def K3 (p q r : Nat) (v1 v2 v3 v4 v5 v6 : Value) (W : World) : Prop := W.cell? ⟨p, 0, none⟩ = some v1 ∧ W.cell? ⟨p, 1, none⟩ = some v2 ∧ W.cell? ⟨q, 0, none⟩ = some v3 ∧ W.cell? ⟨q, 1, none⟩ = some v4 ∧ W.cell? ⟨r, 0, none⟩ = some v5 ∧ W.cell? ⟨r, 1, none⟩ = some v6
theorem K3.of {p q r : Nat} {v1 v2 v3 v4 v5 v6 : Value} {W : World} (h1 : C2 p v1 v2 W) (h2 : C2 q v3 v4 W) (h3 : C2 r v5 v6 W) : K3 p q r v1 v2 v3 v4 v5 v6 W := ⟨h1.1, h1.2, h2.1, h2.2, h3.1, h3.2⟩
section
variable {p q r : Nat} {v1 v2 v3 v4 v5 v6 : Value} {W W' : World}
theorem K3.a (h : K3 p q r v1 v2 v3 v4 v5 v6 W) : C2 p v1 v2 W := ⟨h.1, h.2.1⟩
theorem K3.b (h : K3 p q r v1 v2 v3 v4 v5 v6 W) : C2 q v3 v4 W := ⟨h.2.2.1, h.2.2.2.1⟩
theorem K3.c (h : K3 p q r v1 v2 v3 v4 v5 v6 W) : C2 r v5 v6 W := ⟨h.2.2.2.2.1, h.2.2.2.2.2⟩
theorem K3.below (hb : Below W.heap.size W W') (h : K3 p q r v1 v2 v3 v4 v5 v6 W) : K3 p q r v1 v2 v3 v4 v5 v6 W' := K3.of (h.a.below hb) (h.b.below hb) (h.c.below hb)
theorem K3.alloc (h : K3 p q r v1 v2 v3 v4 v5 v6 W) (o : Obj) : K3 p q r v1 v2 v3 v4 v5 v6 (W.alloc o) := K3.of (h.a.alloc o) (h.b.alloc o) (h.c.alloc o)
theorem K3.base (w : World) (v1 v2 v3 v4 v5 v6 : Value) (T U V : TypeId) : K3 w.heap.size (w.heap.size + 1) (w.heap.size + 1 + 1) v1 v2 v3 v4 v5 v6 (((w.alloc (.cells #[v1, v2] T)).alloc (.cells #[v3, v4] U)).alloc (.cells #[v5, v6] V)) := by
 have h := C4.base w v1 v2 v3 v4 T U
 have h3 := C2.base ((w.alloc (.cells #[v1, v2] T)).alloc (.cells #[v3, v4] U)) v5 v6 V
 rw [show ((w.alloc (.cells #[v1, v2] T)).alloc (.cells #[v3, v4] U)).heap.size = w.heap.size + 1 + 1 by simp] at h3
 exact K3.of (C2.alloc ⟨h.1, h.2.1⟩ _) (C2.alloc ⟨h.2.2.1, h.2.2.2⟩ _) h3
end
def K4 (p q r o : Nat) (v1 v2 v3 v4 v5 v6 v7 v8 : Value) (W : World) : Prop := W.cell? ⟨p, 0, none⟩ = some v1 ∧ W.cell? ⟨p, 1, none⟩ = some v2 ∧ W.cell? ⟨q, 0, none⟩ = some v3 ∧ W.cell? ⟨q, 1, none⟩ = some v4 ∧ W.cell? ⟨r, 0, none⟩ = some v5 ∧ W.cell? ⟨r, 1, none⟩ = some v6 ∧ W.cell? ⟨o, 0, none⟩ = some v7 ∧ W.cell? ⟨o, 1, none⟩ = some v8
section
variable {p q r o : Nat} {v1 v2 v3 v4 v5 v6 v7 v8 : Value} {W W' : World}
theorem K4.of (h1 : C2 p v1 v2 W) (h2 : C2 q v3 v4 W) (h3 : C2 r v5 v6 W) (h4 : C2 o v7 v8 W) : K4 p q r o v1 v2 v3 v4 v5 v6 v7 v8 W := ⟨h1.1, h1.2, h2.1, h2.2, h3.1, h3.2, h4.1, h4.2⟩
theorem K4.below (hb : Below W.heap.size W W') (h : K4 p q r o v1 v2 v3 v4 v5 v6 v7 v8 W) : K4 p q r o v1 v2 v3 v4 v5 v6 v7 v8 W' :=
 K4.of (C2.below hb ⟨h.1, h.2.1⟩) (C2.below hb ⟨h.2.2.1, h.2.2.2.1⟩) (C2.below hb ⟨h.2.2.2.2.1, h.2.2.2.2.2.1⟩) (C2.below hb ⟨h.2.2.2.2.2.2.1, h.2.2.2.2.2.2.2⟩)
end
end

namespace Q
open Go.RowKit
structure IsZ (w : World) (s : Bool) (A : Option Addr) (n c : Nat) (z : Int) (k : Nat) : Prop where
 ex : ∃ xs, n = xs.length ∧ Num w A xs ∧ zv s (val xs) = z
 le : n ≤ k
 cap : n ≤ c
structure OneZ (w : World) (s : Bool) (A : Option Addr) (n c : Nat) (z : Int) : Prop where
 es : s = zneg z
 en : n = zl z
 num : Num w A (dig z.natAbs)
 cap : n ≤ c
def RetJ (w : World) (z : Int) (e : Ending) (w' : World) : Prop :=
 ∃ s A n c, e = .returned (.agg #[.bool s, .slice A n c]) ∧ OneZ w' s A n c z ∧ Below w.heap.size w w'
def RetJJ (w : World) (y z : Int) (e : Ending) (w' : World) : Prop :=
 ∃ s A n c t B m d, e = .returned (.tuple #[.agg #[.bool s, .slice A n c], .agg #[.bool t, .slice B m d]]) ∧ OneZ w' s A n c y ∧ OneZ w' t B m d z ∧ Below w.heap.size w w'
section
variable {w w' : World} {s : Bool} {A : Option Addr} {n c k l : Nat} {z : Int}
theorem IsZ.below (h : IsZ w s A n c z k) (hb : Below w.heap.size w w') : IsZ w' s A n c z k := ⟨by obtain ⟨xs, h1, h2, h3⟩ := h.ex; exact ⟨xs, h1, h2.below hb, h3⟩, h.le, h.cap⟩
theorem IsZ.mono (h : IsZ w s A n c z k) (hk : k ≤ l) : IsZ w s A n c z l := ⟨h.ex, lT h.le hk, h.cap⟩
theorem IsZ.zl (h : IsZ w s A n c z k) : zl z ≤ k := by
 obtain ⟨xs, h1, h2, h3⟩ := h.ex
 exact lT (zl_val h2.1 h3) (h1 ▸ h.le)
theorem OneZ.below (h : OneZ w s A n c z) (hb : Below w.heap.size w w') : OneZ w' s A n c z := ⟨h.es, h.en, h.num.below hb, h.cap⟩
theorem OneZ.isz (h : OneZ w s A n c z) (hk : YthjiacmhhpfokaaGreat.zl z ≤ k) : IsZ w s A n c z k := ⟨⟨_, h.en, h.num, by rw [h.es]; exact zv_dig z⟩, by rw [h.en]; exact hk, h.cap⟩
theorem IsZ.alloc (h : IsZ w s A n c z k) (o : Obj) : IsZ (w.alloc o) s A n c z k := h.below ((bR _ _).alloc (Nat.le_refl _) o)
theorem OneZ.alloc (h : OneZ w s A n c z) (o : Obj) : OneZ (w.alloc o) s A n c z := h.below ((bR _ _).alloc (Nat.le_refl _) o)
theorem IsZ.drew (h : IsZ w s A n c z k) : IsZ w.drew s A n c z k := h.below ((bR _ _).drew)
theorem OneZ.drew (h : OneZ w s A n c z) : OneZ w.drew s A n c z := h.below ((bR _ _).drew)
end
theorem retj_of {w w' : World} {z : Int} {e : Ending} (h : RetZ w z e w') : RetJ w z e w' := by
 obtain ⟨A, c, rfl, hc, hn, hb⟩ := h
 exact ⟨_, _, _, _, rfl, ⟨rfl, rfl, hn, hc⟩, hb⟩
def rden (t : Bool) (ys : List Nat) : Int := if ys.length = 0 then 1 else zv t (val ys)
def dden (q : Rat) : List Nat := if q.den = 1 then [] else dig q.den
def ql (q : Rat) : Nat := max (zl q.num) (dig q.den).length
structure IsQ (w : World) (s : Bool) (A : Option Addr) (n c : Nat) (t : Bool) (B : Option Addr) (m d : Nat) (q : Rat) (k : Nat) : Prop where
 ex : ∃ xs ys, n = xs.length ∧ m = ys.length ∧ Num w A xs ∧ Num w B ys ∧ Rat.divInt (zv s (val xs)) (rden t ys) = q
 le : n ≤ k
 le2 : m ≤ k
 cap : n ≤ c
 cap2 : m ≤ d
structure OneQ (w : World) (s : Bool) (A : Option Addr) (n c : Nat) (t : Bool) (B : Option Addr) (m d : Nat) (q : Rat) : Prop where
 es : s = zneg q.num
 en : n = zl q.num
 et : t = false
 em : m = (dden q).length
 num : Num w A (dig q.num.natAbs)
 den : Num w B (dden q)
 cap : n ≤ c
 cap2 : m ≤ d
def RetQ (w : World) (q : Rat) (e : Ending) (w' : World) : Prop :=
 ∃ s A n c t B m d, e = .returned (.agg #[.bool s, .slice A n c, .bool t, .slice B m d]) ∧ OneQ w' s A n c t B m d q ∧ Below w.heap.size w w'
theorem dden_le (q : Rat) : (dden q).length ≤ ql q := by
 unfold dden ql
 split
 ·simp
 ·omega
theorem num_le (q : Rat) : zl q.num ≤ ql q := by unfold ql; omega
theorem den_le (q : Rat) : (dig q.den).length ≤ ql q := by unfold ql; omega
theorem one_val (q : Rat) : Rat.divInt (zv (zneg q.num) (val (dig q.num.natAbs))) (rden false (dden q)) = q := by
 rw [zv_dig]
 by_cases h : q.den = 1
 ·have e : dden q = [] := if_pos h
  have h2 := Rat.num_divInt_den q
  rw [h] at h2
  rw [e]
  exact h2
 ·have e : dden q = dig q.den := if_neg h
  have hne : (dig q.den).length ≠ 0 := by
   intro h2
   have := dig_nil_iff.1 h2
   exact q.den_nz this
  rw [e]
  unfold rden
  rw [if_neg hne, val_dig]
  exact Rat.num_divInt_den q
section
variable {w w' : World} {s t : Bool} {A B : Option Addr} {n c m d k l : Nat} {q : Rat}
theorem IsQ.below (h : IsQ w s A n c t B m d q k) (hb : Below w.heap.size w w') : IsQ w' s A n c t B m d q k :=
 ⟨by obtain ⟨xs, ys, h1, h2, h3, h4, h5⟩ := h.ex; exact ⟨xs, ys, h1, h2, h3.below hb, h4.below hb, h5⟩, h.le, h.le2, h.cap, h.cap2⟩
theorem IsQ.mono (h : IsQ w s A n c t B m d q k) (hk : k ≤ l) : IsQ w s A n c t B m d q l := ⟨h.ex, lT h.le hk, lT h.le2 hk, h.cap, h.cap2⟩
theorem IsQ.alloc (h : IsQ w s A n c t B m d q k) (o : Obj) : IsQ (w.alloc o) s A n c t B m d q k := h.below ((bR _ _).alloc (Nat.le_refl _) o)
theorem IsQ.drew (h : IsQ w s A n c t B m d q k) : IsQ w.drew s A n c t B m d q k := h.below ((bR _ _).drew)
theorem OneQ.below (h : OneQ w s A n c t B m d q) (hb : Below w.heap.size w w') : OneQ w' s A n c t B m d q :=
 ⟨h.es, h.en, h.et, h.em, h.num.below hb, h.den.below hb, h.cap, h.cap2⟩
theorem OneQ.alloc (h : OneQ w s A n c t B m d q) (o : Obj) : OneQ (w.alloc o) s A n c t B m d q := h.below ((bR _ _).alloc (Nat.le_refl _) o)
theorem OneQ.isq (h : OneQ w s A n c t B m d q) (hk : ql q ≤ k) : IsQ w s A n c t B m d q k :=
 ⟨⟨_, _, h.en, h.em, h.num, h.den, by rw [h.es, h.et]; exact one_val q⟩, by rw [h.en]; exact lT (num_le q) hk, by rw [h.em]; exact lT (dden_le q) hk, h.cap, h.cap2⟩
theorem OneQ.top (h : OneQ w s A n c t B m d q) : OneZ w s A n c q.num := ⟨h.es, h.en, h.num, h.cap⟩
end
theorem ql_div {n d : Int} (hd : 0 < d) : ql (Rat.divInt n d) ≤ max (zl n) (zl d) := by
 have h := low_le (n := n) hd
 unfold ql zl
 have h1 := dl_le h.1
 have h2 := dl_le h.2
 omega
theorem den_zl (q : Rat) : zl (q.den : Int) = (dig q.den).length := by unfold zl; rw [Int.natAbs_natCast]
theorem den_pos (q : Rat) : (0 : Int) < (q.den : Int) := by have := q.den_nz; omega
theorem ql_mul (y z : Rat) : ql (y * z) ≤ ql y + ql z := by
 have h : y * z = Rat.divInt (y.num * z.num) ((y.den : Int) * (z.den : Int)) := by
  conv => lhs; rw [← Rat.num_divInt_den y, ← Rat.num_divInt_den z]
  exact Rat.divInt_mul_divInt _ _
 rw [h]
 refine lT (ql_div (Int.mul_pos (den_pos y) (den_pos z))) ?_
 have h2 := zl_mul y.num z.num
 have h4 := zl_mul (y.den : Int) (z.den : Int)
 have h5 := num_le y
 have h6 := num_le z
 have h7 := den_le y
 have h8 := den_le z
 have h9 := den_zl y
 have h10 := den_zl z
 omega
theorem IsQ.ql {w : World} {s t : Bool} {A B : Option Addr} {n c m d k : Nat} {q : Rat} (h : IsQ w s A n c t B m d q k) (hk : 1 ≤ k) : Q.ql q ≤ k := by
 obtain ⟨xs, ys, h1, h2, h3, h4, h5⟩ := h.ex
 have l1 := zl_val h3.1 (rfl : zv s (val xs) = _)
 have hle := h.le
 have hle2 := h.le2
 unfold rden at h5
 split at h5
 ·rw [← h5]
  refine lT (ql_div (by omega)) ?_
  have : zl 1 ≤ 1 := zl_small (by omega) (by omega)
  omega
 ·have l2 := zl_val h4.1 (rfl : zv t (val ys) = _)
  rcases Int.lt_trichotomy (zv t (val ys)) 0 with hn | hn | hn
  ·rw [← h5, ← Rat.neg_divInt_neg]
   refine lT (ql_div (by omega)) ?_
   rw [zl_neg, zl_neg]
   omega
  ·rw [hn, Rat.divInt_zero] at h5
   rw [← h5]
   have : Q.ql 0 = max (zl 0) (dig 1).length := rfl
   have e1 : zl 0 ≤ 1 := zl_small (by omega) (by omega)
   have e2 : (dig 1).length ≤ 1 := dig_length_le (by rw [B64_eq]; omega)
   omega
  ·rw [← h5]
   refine lT (ql_div hn) ?_
   omega
section
variable {w : World} {s t : Bool} {A B : Option Addr} {n c m d k : Nat} {y z : Int}
theorem add_j (h1 : IsZ w s A n c y k) (h2 : IsZ w t B m d z k) (hk : k ≤ 3000) : Calls tz 137 #[.agg #[.bool s, .slice A n c], .agg #[.bool t, .slice B m d]] w (RetJ w (y + z)) := by
 obtain ⟨xs, rfl, ha, hx⟩ := h1.ex
 obtain ⟨ys, rfl, hb, hy⟩ := h2.ex
 exact (add_z w s t A B c d xs ys y z ha hb hx hy (by have := h1.le; omega) (by have := h2.le; omega) h1.cap h2.cap _ rfl).mono fun _ _ => retj_of
theorem mul_j (h1 : IsZ w s A n c y k) (h2 : IsZ w t B m d z k) (hk : k ≤ 3000) : Calls tz 141 #[.agg #[.bool s, .slice A n c], .agg #[.bool t, .slice B m d]] w (RetJ w (y * z)) := by
 obtain ⟨xs, rfl, ha, hx⟩ := h1.ex
 obtain ⟨ys, rfl, hb, hy⟩ := h2.ex
 exact (mul_z w s t A B c d xs ys y z ha hb hx hy (by have := h1.le; omega) (by have := h2.le; omega) h1.cap h2.cap _ rfl).mono fun _ _ => retj_of
theorem cmp_j (h1 : IsZ w s A n c y k) (h2 : IsZ w t B m d z k) (hk : k ≤ 3000) : Calls tz 153 #[.agg #[.bool s, .slice A n c], .agg #[.bool t, .slice B m d]] w (RetI w (zcmp y z)) := by
 obtain ⟨xs, rfl, ha, hx⟩ := h1.ex
 obtain ⟨ys, rfl, hb, hy⟩ := h2.ex
 exact cmp_z w s t A B c d xs ys y z ha hb hx hy (by have := h1.le; omega) (by have := h2.le; omega) h1.cap h2.cap _ rfl
theorem divmod_j (h1 : IsZ w s A n c y k) (h2 : IsZ w t B m d z k) (hk : k ≤ 3000) : Calls tz 201 #[.agg #[.bool s, .slice A n c], .agg #[.bool t, .slice B m d]] w (RetJJ w (y / z) (zrem y z)) := by
 obtain ⟨xs, rfl, ha, hx⟩ := h1.ex
 obtain ⟨ys, rfl, hb, hy⟩ := h2.ex
 refine (divmod_z w s t A B c d xs ys y z ha hb hx hy (by have := h1.le; omega) (by have := h2.le; omega) h1.cap h2.cap _ _ rfl rfl).mono ?_
 rintro e w' ⟨A1, c1, B1, d1, rfl, hc, hd, h3, h4, h5⟩
 exact ⟨_, _, _, _, _, _, _, _, rfl, ⟨rfl, rfl, h3, hc⟩, ⟨rfl, rfl, h4, hd⟩, h5⟩
theorem norm_j (h1 : IsZ w s A n c y k) (hk : k ≤ 3000) : Calls tz 134 #[.agg #[.bool s, .slice A n c]] w (RetJ w y) := by
 obtain ⟨xs, rfl, ha, hx⟩ := h1.ex
 exact (norm_z w s A c xs y ha hx (by have := h1.le; omega) h1.cap _ rfl).mono fun _ _ => retj_of
theorem sign_j (h1 : IsZ w s A n c y k) (hk : k ≤ 3000) (r : Int) (hr : y.sign = r) : Calls tz 140 #[.agg #[.bool s, .slice A n c]] w (RetI w r) := by
 obtain ⟨xs, rfl, ha, hx⟩ := h1.ex
 exact sign_z w s A c xs y ha hx (by have := h1.le; omega) h1.cap _ hr
theorem small_j (h1 : IsZ w s A n c y k) (hk : k ≤ 3000) : Calls tz 202 #[.agg #[.bool s, .slice A n c]] w (fun e w' => e = .returned (.tuple #[.int .i64 (smallv y), .bool (smallb y)]) ∧ Below w.heap.size w w') := by
 obtain ⟨xs, rfl, ha, hx⟩ := h1.ex
 exact small_any w s A c xs y ha hx (by have := h1.le; omega) h1.cap
end
theorem of_j (w : World) (z : Int) (h1 : -9223372036854775808 ≤ z) (h2 : z ≤ 9223372036854775807) : Calls tz 126 #[.int .i64 z] w (RetJ w z) := (of_z w z z rfl h1 h2).mono fun _ _ => retj_of
theorem smallv_one (z : Int) : (smallv z == 1) = decide (z = 1) := by
 unfold smallv
 split
 ·rfl
 ·rename_i h
  rw [decide_eq_false (by rintro rfl; exact h ⟨by omega, by omega⟩)]
  rfl
end Q

namespace Q
open Go.RowKit
def Box (w : World) (g : Nat) : Prop := ∃ cs T, w.heap[g]? = some (.cells cs T (0, 0)) ∧ ∀ (i : Nat) (k : IntKind) (z : Int), cs[i]? ≠ some (Value.int k z)
theorem Box.far {w : World} {g : Nat} (h : Box w g) {B : Option Addr} {xs : List Nat} (hB : Num w B xs) (hn : xs ≠ []) : ∀ p, B = some p → p.block ≠ g := by
 intro p e hg
 obtain ⟨cs, T, h1, h2⟩ := h
 obtain ⟨b, off, e2, _, hc⟩ := hB.2 hn
 rw [e] at e2
 have e3 := Option.some.inj e2
 subst e3
 have h0 := hc 0 (List.length_pos_iff.2 hn)
 have hg' : b = g := hg
 subst hg'
 rw [cell_of_row w b _ _ _ _ h1] at h0
 exact h2 _ _ _ h0
theorem Num.set {w : World} {g : Nat} {B : Option Addr} {xs : List Nat} (hB : Num w B xs) (h : Box w g) (i : Nat) (v : Value) : Num (w.setCell ⟨g, i, none⟩ v) B xs :=
 ⟨hB.1, fun hn => by
  have hfar := h.far hB hn
  obtain ⟨b, off, e, hlt, hc⟩ := hB.2 hn
  have hbg : b ≠ g := hfar _ e
  exact ⟨b, off, e, by simpa [World.setCell] using hlt, fun j hj => (World.cell?_of_block (Below.heap_setCell _ _ _ b hbg)).trans (hc j hj)⟩⟩
theorem Box.set {w : World} {g : Nat} (h : Box w g) (i : Nat) (v : Value) (hv : ∀ (k : IntKind) (z : Int), v ≠ Value.int k z) : Box (w.setCell ⟨g, i, none⟩ v) g := by
 obtain ⟨cs, T, h1, h2⟩ := h
 refine ⟨_, _, heap_setCell_same w g i _ _ _ h1, ?_⟩
 intro j k z e
 rw [Array.getElem?_setIfInBounds] at e
 split at e
 ·split at e
  ·exact hv k z (Option.some.inj e)
  ·cases e
 ·exact h2 j k z e
theorem Box.alloc {w : World} {g : Nat} (h : Box w g) (o : Obj) : Box (w.alloc o) g := by
 obtain ⟨cs, T, h1, h2⟩ := h
 exact ⟨cs, T, (Below.heap_alloc w o g (lt_of_block h1)).trans h1, h2⟩
section
variable {w : World} {s t : Bool} {A B : Option Addr} {n c m d k g : Nat} {z : Int} {q : Rat}
theorem IsZ.set (h : IsZ w s A n c z k) (hb : Box w g) (i : Nat) (v : Value) : IsZ (w.setCell ⟨g, i, none⟩ v) s A n c z k := ⟨by obtain ⟨xs, h1, h2, h3⟩ := h.ex; exact ⟨xs, h1, Num.set h2 hb i v, h3⟩, h.le, h.cap⟩
theorem OneZ.set (h : OneZ w s A n c z) (hb : Box w g) (i : Nat) (v : Value) : OneZ (w.setCell ⟨g, i, none⟩ v) s A n c z := ⟨h.es, h.en, Num.set h.num hb i v, h.cap⟩
theorem IsQ.set (h : IsQ w s A n c t B m d q k) (hb : Box w g) (i : Nat) (v : Value) : IsQ (w.setCell ⟨g, i, none⟩ v) s A n c t B m d q k :=
 ⟨by obtain ⟨xs, ys, h1, h2, h3, h4, h5⟩ := h.ex; exact ⟨xs, ys, h1, h2, Num.set h3 hb i v, Num.set h4 hb i v, h5⟩, h.le, h.le2, h.cap, h.cap2⟩
theorem OneQ.set (h : OneQ w s A n c t B m d q) (hb : Box w g) (i : Nat) (v : Value) : OneQ (w.setCell ⟨g, i, none⟩ v) s A n c t B m d q :=
 ⟨h.es, h.en, h.et, h.em, Num.set h.num hb i v, Num.set h.den hb i v, h.cap, h.cap2⟩
end
theorem _root_.Go.Proofs.YthjiacmhhpfokaaGreat.Ibx.bx {w : World} {g : Nat} {s : Bool} {A : Option Addr} {n c : Nat} (h : Ibx w g s A n c) : Box w g := ⟨_, _, h, by
 intro i k z e
 rcases i with _ | _ | i
 ·cases e
 ·cases e
 ·rw [Array.getElem?_eq_none (by simp)] at e; cases e⟩
theorem _root_.Go.Proofs.YthjiacmhhpfokaaGreat.Ibx.s0 {w : World} {g : Nat} {s s' : Bool} {A : Option Addr} {n c : Nat} (h : Ibx w g s A n c) : Ibx (w.setCell ⟨g, 0, none⟩ (.bool s')) g s' A n c := heap_setCell_same w g 0 _ _ _ h
def Qbx (w : World) (g : Nat) (s : Bool) (A : Option Addr) (n c : Nat) (t : Bool) (B : Option Addr) (m d : Nat) : Prop := w.heap[g]? = some (.cells #[.bool s, .slice A n c, .bool t, .slice B m d] 27 (0, 0))
section
variable {w w' : World} {g : Nat} {s t s' t' : Bool} {A B A' B' : Option Addr} {n c m d n' c' m' d' : Nat}
theorem Qbx.bx (h : Qbx w g s A n c t B m d) : Box w g := ⟨_, _, h, by
 intro i k z e
 rcases i with _ | _ | _ | _ | i
 ·cases e
 ·cases e
 ·cases e
 ·cases e
 ·rw [Array.getElem?_eq_none (by simp)] at e; cases e⟩
theorem Qbx.lt (h : Qbx w g s A n c t B m d) : g < w.heap.size := lt_of_block h
theorem Qbx.c0 (h : Qbx w g s A n c t B m d) : w.cell? ⟨g, 0, none⟩ = some (.bool s) := by unfold Qbx at h; rw [cell_of_row w g 0 _ _ _ h]; rfl
theorem Qbx.c1 (h : Qbx w g s A n c t B m d) : w.cell? ⟨g, 1, none⟩ = some (.slice A n c) := by unfold Qbx at h; rw [cell_of_row w g 1 _ _ _ h]; rfl
theorem Qbx.c2 (h : Qbx w g s A n c t B m d) : w.cell? ⟨g, 2, none⟩ = some (.bool t) := by unfold Qbx at h; rw [cell_of_row w g 2 _ _ _ h]; rfl
theorem Qbx.c3 (h : Qbx w g s A n c t B m d) : w.cell? ⟨g, 3, none⟩ = some (.slice B m d) := by unfold Qbx at h; rw [cell_of_row w g 3 _ _ _ h]; rfl
theorem Qbx.f (h : Qbx w g s A n c t B m d) (i : Nat) : w.frozen? ⟨g, i, none⟩ = false := frozen_of_row w g i _ _ h
theorem Qbx.new (w : World) (g : Nat) (hg : g = w.heap.size) : Qbx (w.alloc (.cells #[.bool s, .slice A n c, .bool t, .slice B m d] 27)) g s A n c t B m d := by subst hg; exact heap_alloc_new w _
theorem Qbx.alloc (h : Qbx w g s A n c t B m d) (o : Obj) : Qbx (w.alloc o) g s A n c t B m d := (Below.heap_alloc w o g h.lt).trans h
theorem Qbx.below (h : Qbx w g s A n c t B m d) (hb : Below w.heap.size w w') : Qbx w' g s A n c t B m d := (hb.block g h.lt).trans h
theorem Qbx.far (h : Qbx w g s A n c t B m d) {p : Addr} (hp : g ≠ p.block) (v : Value) : Qbx (w.setCell p v) g s A n c t B m d := (Below.heap_setCell w p v g hp).trans h
theorem Qbx.s0 (h : Qbx w g s A n c t B m d) : Qbx (w.setCell ⟨g, 0, none⟩ (.bool s')) g s' A n c t B m d := heap_setCell_same w g 0 _ _ _ h
theorem Qbx.s1 (h : Qbx w g s A n c t B m d) : Qbx (w.setCell ⟨g, 1, none⟩ (.slice A' n' c')) g s A' n' c' t B m d := heap_setCell_same w g 1 _ _ _ h
theorem Qbx.s2 (h : Qbx w g s A n c t B m d) : Qbx (w.setCell ⟨g, 2, none⟩ (.bool t')) g s A n c t' B m d := heap_setCell_same w g 2 _ _ _ h
theorem Qbx.s3 (h : Qbx w g s A n c t B m d) : Qbx (w.setCell ⟨g, 3, none⟩ (.slice B' m' d')) g s A n c t B' m' d' := heap_setCell_same w g 3 _ _ _ h
end
abbrev put2 (w : World) (g : Nat) (s : Bool) (A : Option Addr) (n c : Nat) : World := (w.setCell ⟨g, 0, none⟩ (.bool s)).setCell ⟨g, 1, none⟩ (.slice A n c)
abbrev put4 (w : World) (g : Nat) (s : Bool) (A : Option Addr) (n c : Nat) (t : Bool) (B : Option Addr) (m d : Nat) : World :=
 (((w.setCell ⟨g, 0, none⟩ (.bool s)).setCell ⟨g, 1, none⟩ (.slice A n c)).setCell ⟨g, 2, none⟩ (.bool t)).setCell ⟨g, 3, none⟩ (.slice B m d)
section
variable {w w0 : World} {g g' : Nat} {s t s' t' u : Bool} {A B A' B' C : Option Addr} {n c m d n' c' m' d' k l e : Nat} {z : Int} {q : Rat}
theorem _root_.Go.Proofs.YthjiacmhhpfokaaGreat.Ibx.put (h : Ibx w g s A n c) : Ibx (put2 w g s' A' n' c') g s' A' n' c' := h.two _ _ _ _
theorem _root_.Go.Proofs.YthjiacmhhpfokaaGreat.Ibx.put_far (h : Ibx w g s A n c) (hg : g ≠ g') : Ibx (put2 w g' s' A' n' c') g s A n c := (h.far hg _).far hg _
theorem _root_.Go.Proofs.YthjiacmhhpfokaaGreat.Ibx.put4_far (h : Ibx w g s A n c) (hg : g ≠ g') : Ibx (put4 w g' s' A' n' c' t' B' m' d') g s A n c := (((h.far hg _).far hg _).far hg _).far hg _
theorem Qbx.put (h : Qbx w g s A n c t B m d) : Qbx (put4 w g s' A' n' c' t' B' m' d') g s' A' n' c' t' B' m' d' := h.s0.s1.s2.s3
theorem Qbx.put4_far (h : Qbx w g s A n c t B m d) (hg : g ≠ g') : Qbx (put4 w g' s' A' n' c' t' B' m' d') g s A n c t B m d := (((h.far hg _).far hg _).far hg _).far hg _
theorem Qbx.put2_far (h : Qbx w g s A n c t B m d) (hg : g ≠ g') : Qbx (put2 w g' s' A' n' c') g s A n c t B m d := (h.far hg _).far hg _
theorem bx2 (b : Box w g) : Box (w.setCell ⟨g, 0, none⟩ (.bool s')) g := b.set _ _ (fun _ _ e => by cases e)
theorem Box.on2 (b : Box w g) : Box (put2 w g s' A' n' c') g := (bx2 b).set _ _ (fun _ _ e => by cases e)
theorem Box.three (b : Box w g) : Box ((put2 w g s' A' n' c').setCell ⟨g, 2, none⟩ (.bool t')) g := b.on2.set _ _ (fun _ _ e => by cases e)
theorem IsZ.on2 (h : IsZ w u C l e z k) (b : Box w g) : IsZ (put2 w g s' A' n' c') u C l e z k := (h.set b _ _).set (bx2 b) _ _
theorem OneZ.on2 (h : OneZ w u C l e z) (b : Box w g) : OneZ (put2 w g s' A' n' c') u C l e z := (h.set b _ _).set (bx2 b) _ _
theorem IsZ.on4 (h : IsZ w u C l e z k) (b : Box w g) : IsZ (put4 w g s' A' n' c' t' B' m' d') u C l e z k := ((h.on2 b).set b.on2 _ _).set b.three _ _
theorem OneZ.on4 (h : OneZ w u C l e z) (b : Box w g) : OneZ (put4 w g s' A' n' c' t' B' m' d') u C l e z := ((h.on2 b).set b.on2 _ _).set b.three _ _
theorem IsQ.on2 (h : IsQ w s A n c t B m d q k) (b : Box w g) : IsQ (put2 w g s' A' n' c') s A n c t B m d q k := (h.set b _ _).set (bx2 b) _ _
theorem OneQ.on2 (h : OneQ w s A n c t B m d q) (b : Box w g) : OneQ (put2 w g s' A' n' c') s A n c t B m d q := (h.set b _ _).set (bx2 b) _ _
theorem IsQ.on4 (h : IsQ w s A n c t B m d q k) (b : Box w g) : IsQ (put4 w g s' A' n' c' t' B' m' d') s A n c t B m d q k := ((h.on2 b).set b.on2 _ _).set b.three _ _
theorem OneQ.on4 (h : OneQ w s A n c t B m d q) (b : Box w g) : OneQ (put4 w g s' A' n' c' t' B' m' d') s A n c t B m d q := ((h.on2 b).set b.on2 _ _).set b.three _ _
theorem below_put2 (h : Below w0.heap.size w0 w) (hg : w0.heap.size ≤ g) : Below w0.heap.size w0 (put2 w g s' A' n' c') := (h.setCell hg _).setCell hg _
theorem below_put4 (h : Below w0.heap.size w0 w) (hg : w0.heap.size ≤ g) : Below w0.heap.size w0 (put4 w g s' A' n' c' t' B' m' d') := (((h.setCell hg _).setCell hg _).setCell hg _).setCell hg _
end
theorem below_on {W w3 w4 : World} (h3 : Below W.heap.size W w3) (h : Below w3.heap.size w3 w4) : Below W.heap.size W w4 := h3.trans (h.mono h3.size)
