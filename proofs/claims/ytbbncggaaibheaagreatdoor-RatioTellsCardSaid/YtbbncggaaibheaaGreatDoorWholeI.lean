/- whole: contracts in the form in which a law's row of calls meets them. -/
import Derived.Test.YtbbncggaaibheaaGreatDoorWholeH
namespace Go.Proofs.YtbbncggaaibheaaGreatDoor
open Go.RowKit

section
variable (w : World) (s t : Bool) (A B : Option Addr) (c d : Nat) (xs ys : List Nat) (y z : Int) (ha : Num w A xs) (hb : Num w B ys) (hx : zv s (val xs) = y) (hy : zv t (val ys) = z) (hn : xs.length ≤ 400000) (hm : ys.length ≤ 400000) (hc : xs.length ≤ c) (hd : ys.length ≤ d)
include ha hb hx hy hn hm hc hd
theorem add_z (r : Int) (hr : y + z = r) : Calls Tryz.prog 74 #[.agg #[.bool s, .slice A xs.length c], .agg #[.bool t, .slice B ys.length d]] w (RetZ w r) := by subst hr; exact zadd_any w s t A B c d xs ys y z ha hb hx hy hn hm hc hd
theorem sub_z (r : Int) (hr : y - z = r) : Calls Tryz.prog 91 #[.agg #[.bool s, .slice A xs.length c], .agg #[.bool t, .slice B ys.length d]] w (RetZ w r) := by subst hr; exact zsub_any w s t A B c d xs ys y z ha hb hx hy hn hm hc hd
theorem mul_z (r : Int) (hr : y * z = r) : Calls Tryz.prog 71 #[.agg #[.bool s, .slice A xs.length c], .agg #[.bool t, .slice B ys.length d]] w (RetZ w r) := by subst hr; exact zmul_any w s t A B c d xs ys y z ha hb hx hy hn hm hc hd
theorem cmp_z (r : Int) (hr : zcmp y z = r) : Calls Tryz.prog 76 #[.agg #[.bool s, .slice A xs.length c], .agg #[.bool t, .slice B ys.length d]] w (RetI w r) := by subst hr; exact zcmp_any w s t A B c d xs ys y z ha hb hx hy hn hm hc hd
theorem divmod_z (q r : Int) (hq : y / z = q) (hr : zrem y z = r) : Calls Tryz.prog 60 #[.agg #[.bool s, .slice A xs.length c], .agg #[.bool t, .slice B ys.length d]] w (RetZZ w q r) := by subst hq; subst hr; exact zdivmod_any w s t A B c d xs ys y z ha hb hx hy hn hm hc hd
/-- Where the lesser of the two has one digit at most. -/
theorem gcd_z (r : Int) (hs : (dig (min (val xs) (val ys))).length ≤ 1) (hr : ((Nat.gcd y.natAbs z.natAbs : Nat) : Int) = r) : Calls Tryz.prog 121 #[.agg #[.bool s, .slice A xs.length c], .agg #[.bool t, .slice B ys.length d]] w (RetZ w r) := by
  subst hr
  exact zgcd_any w s t A B c d xs ys y z ha hb hx hy hn hm hc hd (fun W h1 h2 => gcd_small W A B c d xs ys h1 h2 (by omega) (by omega) hc hd hs)
end
section
variable (w : World) (s : Bool) (A : Option Addr) (c : Nat) (xs : List Nat) (z : Int) (ha : Num w A xs) (hx : zv s (val xs) = z) (hn : xs.length ≤ 400000) (hc : xs.length ≤ c)
include ha hx hn hc
theorem norm_z (r : Int) (hr : z = r) : Calls Tryz.prog 70 #[.agg #[.bool s, .slice A xs.length c]] w (RetZ w r) := by subst hr; exact norm_any w s A c xs z ha hx (by omega) hc
theorem neg_z (r : Int) (hr : -z = r) : Calls Tryz.prog 62 #[.agg #[.bool s, .slice A xs.length c]] w (RetZ w r) := by subst hr; exact neg_any w s A c xs z ha hx (by omega) hc
theorem sign_z (r : Int) (hr : z.sign = r) : Calls Tryz.prog 68 #[.agg #[.bool s, .slice A xs.length c]] w (RetI w r) := by subst hr; exact zsign_any w s A c xs z ha hx (by omega) hc
end
theorem of_z (w : World) (n r : Int) (hr : n = r) (h1 : -9223372036854775808 ≤ r) (h2 : r ≤ 9223372036854775807) : Calls Tryz.prog 9 #[.int .i64 n] w (RetZ w r) := by subst hr; exact of_any w n h1 h2
theorem zl_small {z : Int} (h1 : -9223372036854775808 ≤ z) (h2 : z ≤ 9223372036854775807) : zl z ≤ 1 := dig_length_le (by rw [B64_eq]; omega)
/-- Struct variables' cells, at whatever places. -/
def K3 (p q r : Nat) (v1 v2 v3 v4 v5 v6 : Value) (W : World) : Prop := W.cell? ⟨p, 0, none⟩ = some v1 ∧ W.cell? ⟨p, 1, none⟩ = some v2 ∧ W.cell? ⟨q, 0, none⟩ = some v3 ∧ W.cell? ⟨q, 1, none⟩ = some v4 ∧ W.cell? ⟨r, 0, none⟩ = some v5 ∧ W.cell? ⟨r, 1, none⟩ = some v6
theorem K3.of {p q r : Nat} {v1 v2 v3 v4 v5 v6 : Value} {W : World} (h1 : C2 p v1 v2 W) (h2 : C2 q v3 v4 W) (h3 : C2 r v5 v6 W) : K3 p q r v1 v2 v3 v4 v5 v6 W := ⟨h1.1, h1.2, h2.1, h2.2, h3.1, h3.2⟩
section
variable {p q r : Nat} {v1 v2 v3 v4 v5 v6 : Value} {W W' : World}
theorem K3.a (h : K3 p q r v1 v2 v3 v4 v5 v6 W) : C2 p v1 v2 W := ⟨h.1, h.2.1⟩
theorem K3.b (h : K3 p q r v1 v2 v3 v4 v5 v6 W) : C2 q v3 v4 W := ⟨h.2.2.1, h.2.2.2.1⟩
theorem K3.c (h : K3 p q r v1 v2 v3 v4 v5 v6 W) : C2 r v5 v6 W := ⟨h.2.2.2.2.1, h.2.2.2.2.2⟩
theorem K3.below (hb : Below W.heap.size W W') (h : K3 p q r v1 v2 v3 v4 v5 v6 W) : K3 p q r v1 v2 v3 v4 v5 v6 W' := K3.of (h.a.below hb) (h.b.below hb) (h.c.below hb)
theorem K3.drew (h : K3 p q r v1 v2 v3 v4 v5 v6 W) : K3 p q r v1 v2 v3 v4 v5 v6 W.drew := h
theorem K3.alloc (h : K3 p q r v1 v2 v3 v4 v5 v6 W) (o : Obj) : K3 p q r v1 v2 v3 v4 v5 v6 (W.alloc o) := K3.of (h.a.alloc o) (h.b.alloc o) (h.c.alloc o)
theorem K3.base (w : World) (v1 v2 v3 v4 v5 v6 : Value) (T U V : TypeId) : K3 w.heap.size (w.heap.size + 1) (w.heap.size + 1 + 1) v1 v2 v3 v4 v5 v6 (((w.alloc (.cells #[v1, v2] T)).alloc (.cells #[v3, v4] U)).alloc (.cells #[v5, v6] V)) := by
  have h := C4.base w v1 v2 v3 v4 T U
  have h3 := C2.base ((w.alloc (.cells #[v1, v2] T)).alloc (.cells #[v3, v4] U)) v5 v6 V
  rw [show ((w.alloc (.cells #[v1, v2] T)).alloc (.cells #[v3, v4] U)).heap.size = w.heap.size + 1 + 1 by simp] at h3
  exact K3.of (C2.alloc ⟨h.1, h.2.1⟩ _) (C2.alloc ⟨h.2.2.1, h.2.2.2⟩ _) h3
end
def K4 (p q r o : Nat) (v1 v2 v3 v4 v5 v6 v7 v8 : Value) (W : World) : Prop := W.cell? ⟨p, 0, none⟩ = some v1 ∧ W.cell? ⟨p, 1, none⟩ = some v2 ∧ W.cell? ⟨q, 0, none⟩ = some v3 ∧ W.cell? ⟨q, 1, none⟩ = some v4 ∧ W.cell? ⟨r, 0, none⟩ = some v5 ∧ W.cell? ⟨r, 1, none⟩ = some v6 ∧ W.cell? ⟨o, 0, none⟩ = some v7 ∧ W.cell? ⟨o, 1, none⟩ = some v8
section
variable {p q r o : Nat} {v1 v2 v3 v4 v5 v6 v7 v8 : Value} {W W' : World}
theorem K4.of (h1 : C2 p v1 v2 W) (h2 : C2 q v3 v4 W) (h3 : C2 r v5 v6 W) (h4 : C2 o v7 v8 W) : K4 p q r o v1 v2 v3 v4 v5 v6 v7 v8 W := ⟨h1.1, h1.2, h2.1, h2.2, h3.1, h3.2, h4.1, h4.2⟩
theorem K4.below (hb : Below W.heap.size W W') (h : K4 p q r o v1 v2 v3 v4 v5 v6 v7 v8 W) : K4 p q r o v1 v2 v3 v4 v5 v6 v7 v8 W' :=
  K4.of (C2.below hb ⟨h.1, h.2.1⟩) (C2.below hb ⟨h.2.2.1, h.2.2.2.1⟩) (C2.below hb ⟨h.2.2.2.2.1, h.2.2.2.2.2.1⟩) (C2.below hb ⟨h.2.2.2.2.2.2.1, h.2.2.2.2.2.2.2⟩)
theorem K4.drew (h : K4 p q r o v1 v2 v3 v4 v5 v6 v7 v8 W) : K4 p q r o v1 v2 v3 v4 v5 v6 v7 v8 W.drew := h
end
end Go.Proofs.YtbbncggaaibheaaGreatDoor
