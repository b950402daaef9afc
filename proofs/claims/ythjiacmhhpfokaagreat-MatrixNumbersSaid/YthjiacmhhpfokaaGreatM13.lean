/- Part 13 of the proof: WholeNorm, WholeNeg, WholeAbs, WholeMul, WholeGcd, WholeH, WholeI, RVal. -/
import Derived.Test.YthjiacmhhpfokaaGreatM12
namespace Go.Proofs.YthjiacmhhpfokaaGreat
open Lib renaming hid → lh
open Go.Proofs.Tryz renaming prog → tz
open Nat renaming le_refl → lR, le_trans → lT
open Go.RowKit.Below renaming refl → bR
section
open Go.RowKit
set_option maxHeartbeats 2000000 in
theorem norm_any (w : World) (s : Bool) (A : Option Addr) (c : Nat) (xs : List Nat) (z : Int) (ha : Num w A xs) (hx : zv s (val xs) = z) (hn : xs.length ≤ 1000000) (hc : xs.length ≤ c) :
  Calls tz 134 #[.agg #[.bool s, .slice A xs.length c]] w (RetZ w (z)) := by
 have hd := dig_length_val ha.1
 have HA := Lib.hid ha
 obtain ⟨m, hm⟩ : ∃ m, val xs = m := ⟨_, rfl⟩
 have HM := Lib.hid hm
 rw [hm] at hd hx
 have HX : Hid (zv s m = z) := by
  show _ = _
  first | (rw [← hx]; done) | (rw [← hx]; cases s <;> simp [zv])
 clear ha hx hm
 go_enter Tryz.func134, Tryz.ntmps134
 go_wp2_with fail
 go_region_held3 (fun W => W.cell? ⟨w.heap.size, 0, none⟩ = some (.bool s) ∧ W.cell? ⟨w.heap.size, 1, none⟩ = some (.slice A xs.length c))
  (first | exact C2.alloc (by assumption) _ | exact C2.below hb34 (by assumption) | exact C2.below hb3 (by assumption) | exact C2.drew ((C2.base _ _ _ _).alloc _) | exact C2.far (C2.far (by assumption) (by first | (simp; done) | (simp; omega)) _) (by first | (simp; done) | (simp; omega)) _)
  (first
  | (go_at_call 167; (with_reducible refine (signOf_any _ _).mono ?_); rintro e w1 ⟨rfl, rfl⟩)
  | (go_at_call 168; (with_reducible refine (trim_v _ A c xs m ?_ HM.out hn hc).mono ?_); (repeat (first | exact HA.out | (with_reducible refine Num.drew ?_) | (with_reducible refine Num.alloc ?_ _))); rintro e w3 ⟨A3, c3, rfl, hc3, ha3, hb3⟩)
  | (go_at_call 166; refine (number_at w _ w3 _ (w.heap.size + 1) c3 m s false A3 none 0 0 ?_ ?_ ?_ hb3 ha3 (by omega) hc3).mono ?_; (repeat (first | exact Sbx.new' _ _ _ (by simp) | (with_reducible refine Sbx.drew ?_) | (with_reducible refine Sbx.alloc ?_ _))); (repeat (first | exact Ibx.new' _ _ _ _ _ _ (by simp) | (with_reducible refine Ibx.drew ?_) | (with_reducible refine Ibx.alloc ?_ _))); (repeat (first | exact bR _ _ | (with_reducible refine Below.drew ?_) | (with_reducible refine Below.alloc ?_ (by first | exact lR _ | (simp; done) | (simp; omega)) _))); rintro e w4 ⟨rfl, n4, I4, hb4, hb34⟩; have c0 := I4.c0; have c1 := I4.c1; have f0 := I4.f 0; have f1 := I4.f 1))
 all_goals
  go_wp2_with fail
  refine bodyPost_ret (v := .agg #[.bool (zneg (zv s m)), .slice A3 (dig m).length c3]) (by simp [results, Tryz.results134, go_sem, c0, c1]) rfl ?_
  exact retz_of HX.out hc3 n4 I4 (by omega) hb4 _ _ rfl
end

section
open Go.RowKit
end

section
open Go.RowKit
end

section
open Go.RowKit
set_option maxHeartbeats 4000000 in
theorem zmul_any (w : World) (s t : Bool) (A B : Option Addr) (c d : Nat) (xs ys : List Nat) (y z : Int) (ha : Num w A xs) (hb : Num w B ys) (hx : zv s (val xs) = y) (hy : zv t (val ys) = z) (hn : xs.length ≤ 400000) (hm : ys.length ≤ 400000) (hc : xs.length ≤ c) (hd : ys.length ≤ d) :
  Calls tz 141 #[.agg #[.bool s, .slice A xs.length c], .agg #[.bool t, .slice B ys.length d]] w (RetZ w (y * z)) := by
 have hd1 := dig_length_val ha.1
 have hd2 := dig_length_val hb.1
 have HA := lh ha
 have HB := lh hb
 obtain ⟨a, hva⟩ : ∃ a, val xs = a := ⟨_, rfl⟩
 obtain ⟨b, hvb⟩ : ∃ b, val ys = b := ⟨_, rfl⟩
 rw [hva] at hd1 hx
 rw [hvb] at hd2 hy
 obtain ⟨m, hmm⟩ : ∃ m, m = a * b := ⟨_, rfl⟩
 have hdm : (dig m).length ≤ 8589934592 := by
  rw [hmm]; have := dl_mul a b; omega
 have HX : Hid (zv (s != t) m = y * z) := by
  show _ = _
  rw [hmm, ← hx, ← hy]
  cases s <;> cases t <;> simp [zv, Int.neg_mul, Int.mul_neg]
 have HMM := lh hmm
 have HVA := lh hva
 have HVB := lh hvb
 clear ha hb hx hy hva hvb hmm
 go_enter Tryz.func141, Tryz.ntmps141
 go_wp2_with fail
 go_region_held3 (fun W => W.cell? ⟨w.heap.size, 0, none⟩ = some (.bool s) ∧ W.cell? ⟨w.heap.size, 1, none⟩ = some (.slice A xs.length c) ∧ W.cell? ⟨w.heap.size + 1, 0, none⟩ = some (.bool t) ∧ W.cell? ⟨w.heap.size + 1, 1, none⟩ = some (.slice B ys.length d))
  (first | exact C4.alloc (by assumption) _ | exact C4.below hb34 (by assumption) | exact C4.below hb3 (by assumption) | exact C4.drew ((C4.base _ _ _ _ _ _ _).alloc _) | exact C4.far (C4.far (by assumption) (by first | (simp; done) | (simp; omega)) (by first | (simp; done) | (simp; omega)) _) (by first | (simp; done) | (simp; omega)) (by first | (simp; done) | (simp; omega)) _)
  (first
  | (go_at_call 167; (with_reducible refine (signOf_any _ _).mono ?_); rintro e w1 ⟨rfl, rfl⟩)
  | (go_at_call 178; (refine (mul_v _ A B c d xs ys a b ?_ ?_ HVA.out HVB.out (by omega) (by omega) hc hd).mono ?_); (repeat (first | exact HA.out | (with_reducible refine Num.drew ?_) | (with_reducible refine Num.alloc ?_ _))); (repeat (first | exact HB.out | (with_reducible refine Num.drew ?_) | (with_reducible refine Num.alloc ?_ _))); (rw [← HMM.out]); rintro e w3 ⟨A3, c3, rfl, hc3, ha3, hb3⟩)
  | (go_at_call 166; refine (number_at w _ w3 _ (w.heap.size + 1 + 1) c3 m (s != t) false A3 none 0 0 ?_ ?_ ?_ hb3 ha3 (by omega) hc3).mono ?_; (repeat (first | exact Sbx.new' _ _ _ (by simp) | (with_reducible refine Sbx.drew ?_) | (with_reducible refine Sbx.alloc ?_ _))); (repeat (first | exact Ibx.new' _ _ _ _ _ _ (by simp) | (with_reducible refine Ibx.drew ?_) | (with_reducible refine Ibx.alloc ?_ _))); (repeat (first | exact bR _ _ | (with_reducible refine Below.drew ?_) | (with_reducible refine Below.alloc ?_ (by first | exact lR _ | (simp; done) | (simp; omega)) _))); rintro e w4 ⟨rfl, n4, I4, hb4, hb34⟩; have c0 := I4.c0; have c1 := I4.c1; have f0 := I4.f 0; have f1 := I4.f 1))
 all_goals
  go_wp2_with fail
  refine bodyPost_ret (v := .agg #[.bool (zneg (zv (s != t) m)), .slice A3 (dig m).length c3]) (by simp [results, Tryz.results141, go_sem, c0, c1]) rfl ?_
  exact retz_of HX.out hc3 n4 I4 (by omega) hb4 _ _ rfl
end

section
open Go.RowKit
set_option maxHeartbeats 4000000 in
theorem zgcd_any (w : World) (s t : Bool) (A B : Option Addr) (c d : Nat) (xs ys : List Nat) (y z : Int) (ha : Num w A xs) (hb : Num w B ys) (hx : zv s (val xs) = y) (hy : zv t (val ys) = z) (hn : xs.length ≤ 400000) (hm : ys.length ≤ 400000) (hc : xs.length ≤ c) (hd : ys.length ≤ d)
  (HG : Hid (∀ W, Num W A xs → Num W B ys → Calls tz 200 #[.slice A xs.length c, .slice B ys.length d] W (RetN W (Nat.gcd (val xs) (val ys))))) :
  Calls tz 170 #[.agg #[.bool s, .slice A xs.length c], .agg #[.bool t, .slice B ys.length d]] w (RetZ w (((Nat.gcd y.natAbs z.natAbs : Nat) : Int))) := by
 have hd1 := dig_length_val ha.1
 have hd2 := dig_length_val hb.1
 have HA := lh ha
 have HB := lh hb
 obtain ⟨a, hva⟩ : ∃ a, val xs = a := ⟨_, rfl⟩
 obtain ⟨b, hvb⟩ : ∃ b, val ys = b := ⟨_, rfl⟩
 rw [hva] at hd1 hx
 rw [hvb] at hd2 hy
 obtain ⟨m, hmm⟩ : ∃ m, m = Nat.gcd a b := ⟨_, rfl⟩
 have hdm : (dig m).length ≤ 8589934592 := by
  have h0 : (dig m).length ≤ max (dig a).length (dig b).length := by
   rw [hmm]
   rcases Nat.eq_zero_or_pos a with h | h
   ·rw [h, Nat.gcd_zero_left]; exact Nat.le_max_right _ _
   ·exact lT (dl_le (Nat.gcd_le_left b h)) (Nat.le_max_left _ _)
  omega
 have HX : Hid (zv false m = ((Nat.gcd y.natAbs z.natAbs : Nat) : Int)) := by
  show _ = _
  rw [hmm, ← hx, ← hy]
  rw [zv_natAbs, zv_natAbs]; simp [zv]
 have HMM := lh hmm
 have HVA := lh hva
 have HVB := lh hvb
 clear ha hb hx hy hva hvb hmm
 go_enter Tryz.func170, Tryz.ntmps170
 go_wp2_with fail
 go_region_held3 (fun W => W.cell? ⟨w.heap.size, 0, none⟩ = some (.bool s) ∧ W.cell? ⟨w.heap.size, 1, none⟩ = some (.slice A xs.length c) ∧ W.cell? ⟨w.heap.size + 1, 0, none⟩ = some (.bool t) ∧ W.cell? ⟨w.heap.size + 1, 1, none⟩ = some (.slice B ys.length d))
  (first | exact C4.alloc (by assumption) _ | exact C4.below hb34 (by assumption) | exact C4.below hb3 (by assumption) | exact C4.drew ((C4.base _ _ _ _ _ _ _).alloc _) | exact C4.far (C4.far (by assumption) (by first | (simp; done) | (simp; omega)) (by first | (simp; done) | (simp; omega)) _) (by first | (simp; done) | (simp; omega)) (by first | (simp; done) | (simp; omega)) _)
  (first
  | (go_at_call 167; (with_reducible refine (signOf_any _ _).mono ?_); rintro e w1 ⟨rfl, rfl⟩)
  | (go_at_call 200; (have h0 := hc; have h1 := hd; refine (HG.out _ ?_ ?_).mono ?_); (repeat (first | exact HA.out | (with_reducible refine Num.drew ?_) | (with_reducible refine Num.alloc ?_ _))); (repeat (first | exact HB.out | (with_reducible refine Num.drew ?_) | (with_reducible refine Num.alloc ?_ _))); (rw [HVA.out, HVB.out, ← HMM.out]); rintro e w3 ⟨A3, c3, rfl, hc3, ha3, hb3⟩)
  | (go_at_call 166; refine (number_at w _ w3 _ (w.heap.size + 1 + 1) c3 m false false A3 none 0 0 ?_ ?_ ?_ hb3 ha3 (by omega) hc3).mono ?_; (repeat (first | exact Sbx.new' _ _ _ (by simp) | (with_reducible refine Sbx.drew ?_) | (with_reducible refine Sbx.alloc ?_ _))); (repeat (first | exact Ibx.new' _ _ _ _ _ _ (by simp) | (with_reducible refine Ibx.drew ?_) | (with_reducible refine Ibx.alloc ?_ _))); (repeat (first | exact bR _ _ | (with_reducible refine Below.drew ?_) | (with_reducible refine Below.alloc ?_ (by first | exact lR _ | (simp; done) | (simp; omega)) _))); rintro e w4 ⟨rfl, n4, I4, hb4, hb34⟩; have c0 := I4.c0; have c1 := I4.c1; have f0 := I4.f 0; have f1 := I4.f 1))
 all_goals
  go_wp2_with fail
  refine bodyPost_ret (v := .agg #[.bool (zneg (zv false m)), .slice A3 (dig m).length c3]) (by simp [results, Tryz.results170, go_sem, c0, c1]) rfl ?_
  exact retz_of HX.out hc3 n4 I4 (by omega) hb4 _ _ rfl
end

section
open Go.RowKit
abbrev zl (z : Int) : Nat := (dig z.natAbs).length
theorem zl_add (y z : Int) : zl (y + z) ≤ zl y + zl z + 1 := lT (dl_le (Int.natAbs_add_le y z)) (dl_add _ _)
theorem zl_mul (y z : Int) : zl (y * z) ≤ zl y + zl z := by unfold zl; rw [Int.natAbs_mul]; exact dl_mul _ _
theorem zl_neg (z : Int) : zl (-z) = zl z := by unfold zl; rw [Int.natAbs_neg]
theorem zl_val {s : Bool} {xs : List Nat} {z : Int} (hd : Digs xs) (h : zv s (val xs) = z) : zl z ≤ xs.length := by
 unfold zl; rw [← h, zv_natAbs]; exact dig_length_val hd
theorem zv_dig (z : Int) : zv (zneg z) (val (dig z.natAbs)) = z := by rw [val_dig, zv_zneg]
end

section
open Go.RowKit
section
variable (w : World) (s t : Bool) (A B : Option Addr) (c d : Nat) (xs ys : List Nat) (y z : Int) (ha : Num w A xs) (hb : Num w B ys) (hx : zv s (val xs) = y) (hy : zv t (val ys) = z) (hn : xs.length ≤ 400000) (hm : ys.length ≤ 400000) (hc : xs.length ≤ c) (hd : ys.length ≤ d)
include ha hb hx hy hn hm hc hd
theorem add_z (r : Int) (hr : y + z = r) : Calls tz 137 #[.agg #[.bool s, .slice A xs.length c], .agg #[.bool t, .slice B ys.length d]] w (RetZ w r) := by subst hr; exact zadd_any w s t A B c d xs ys y z ha hb hx hy hn hm hc hd
theorem mul_z (r : Int) (hr : y * z = r) : Calls tz 141 #[.agg #[.bool s, .slice A xs.length c], .agg #[.bool t, .slice B ys.length d]] w (RetZ w r) := by subst hr; exact zmul_any w s t A B c d xs ys y z ha hb hx hy hn hm hc hd
theorem divmod_z (q r : Int) (hq : y / z = q) (hr : zrem y z = r) : Calls tz 201 #[.agg #[.bool s, .slice A xs.length c], .agg #[.bool t, .slice B ys.length d]] w (RetZZ w q r) := by subst hq; subst hr; exact zdivmod_any w s t A B c d xs ys y z ha hb hx hy hn hm hc hd
end
section
variable (w : World) (s : Bool) (A : Option Addr) (c : Nat) (xs : List Nat) (z : Int) (ha : Num w A xs) (hx : zv s (val xs) = z) (hn : xs.length ≤ 400000) (hc : xs.length ≤ c)
include ha hx hn hc
theorem norm_z (r : Int) (hr : z = r) : Calls tz 134 #[.agg #[.bool s, .slice A xs.length c]] w (RetZ w r) := by subst hr; exact norm_any w s A c xs z ha hx (by omega) hc
theorem sign_z (r : Int) (hr : z.sign = r) : Calls tz 140 #[.agg #[.bool s, .slice A xs.length c]] w (RetI w r) := by subst hr; exact zsign_any w s A c xs z ha hx (by omega) hc
end
theorem of_z (w : World) (n r : Int) (hr : n = r) (h1 : -9223372036854775808 ≤ r) (h2 : r ≤ 9223372036854775807) : Calls tz 126 #[.int .i64 n] w (RetZ w r) := by subst hr; exact of_any w n h1 h2
theorem zl_small {z : Int} (h1 : -9223372036854775808 ≤ z) (h2 : z ≤ 9223372036854775807) : zl z ≤ 1 := dig_length_le (by rw [B64_eq]; omega)
def K3 (p q r : Nat) (v1 v2 v3 v4 v5 v6 : Value) (W : World) : Prop := W.cell? ⟨p, 0, none⟩ = some v1 ∧ W.cell? ⟨p, 1, none⟩ = some v2 ∧ W.cell? ⟨q, 0, none⟩ = some v3 ∧ W.cell? ⟨q, 1, none⟩ = some v4 ∧ W.cell? ⟨r, 0, none⟩ = some v5 ∧ W.cell? ⟨r, 1, none⟩ = some v6
theorem K3.of {p q r : Nat} {v1 v2 v3 v4 v5 v6 : Value} {W : World} (h1 : C2 p v1 v2 W) (h2 : C2 q v3 v4 W) (h3 : C2 r v5 v6 W) : K3 p q r v1 v2 v3 v4 v5 v6 W := ⟨h1.1, h1.2, h2.1, h2.2, h3.1, h3.2⟩
section
variable {p q r : Nat} {v1 v2 v3 v4 v5 v6 : Value} {W W' : World}
theorem K3.a (h : K3 p q r v1 v2 v3 v4 v5 v6 W) : C2 p v1 v2 W := ⟨h.1, h.2.1⟩
theorem K3.b (h : K3 p q r v1 v2 v3 v4 v5 v6 W) : C2 q v3 v4 W := ⟨h.2.2.1, h.2.2.2.1⟩
theorem K3.c (h : K3 p q r v1 v2 v3 v4 v5 v6 W) : C2 r v5 v6 W := ⟨h.2.2.2.2.1, h.2.2.2.2.2⟩
theorem K3.below (hb : Below W.heap.size W W') (h : K3 p q r v1 v2 v3 v4 v5 v6 W) : K3 p q r v1 v2 v3 v4 v5 v6 W' := K3.of (h.a.below hb) (h.b.below hb) (h.c.below hb)
theorem K3.alloc (h : K3 p q r v1 v2 v3 v4 v5 v6 W) (o : Obj) : K3 p q r v1 v2 v3 v4 v5 v6 (W.alloc o) := K3.of (h.a.alloc o) (h.b.alloc o) (h.c.alloc o)
theorem K3.base (w : World) (v1 v2 v3 v4 v5 v6 : Value) (T U V : TypeId) : K3 w.heap.size (w.heap.size + 1) (w.heap.size + 1 + 1) v1 v2 v3 v4 v5 v6 (((w.alloc (.cells #[v1, v2] T)).alloc (.cells #[v3, v4] U)).alloc (.cells #[v5, v6] V)) := by
 have h := C4.base w v1 v2 v3 v4 T U
 have h3 := C2.base ((w.alloc (.cells #[v1, v2] T)).alloc (.cells #[v3, v4] U)) v5 v6 V
 rw [show ((w.alloc (.cells #[v1, v2] T)).alloc (.cells #[v3, v4] U)).heap.size = w.heap.size + 1 + 1 by simp] at h3
 exact K3.of (C2.alloc ⟨h.1, h.2.1⟩ _) (C2.alloc ⟨h.2.2.1, h.2.2.2⟩ _) h3
end
def K4 (p q r o : Nat) (v1 v2 v3 v4 v5 v6 v7 v8 : Value) (W : World) : Prop := W.cell? ⟨p, 0, none⟩ = some v1 ∧ W.cell? ⟨p, 1, none⟩ = some v2 ∧ W.cell? ⟨q, 0, none⟩ = some v3 ∧ W.cell? ⟨q, 1, none⟩ = some v4 ∧ W.cell? ⟨r, 0, none⟩ = some v5 ∧ W.cell? ⟨r, 1, none⟩ = some v6 ∧ W.cell? ⟨o, 0, none⟩ = some v7 ∧ W.cell? ⟨o, 1, none⟩ = some v8
section
variable {p q r o : Nat} {v1 v2 v3 v4 v5 v6 v7 v8 : Value} {W W' : World}
theorem K4.of (h1 : C2 p v1 v2 W) (h2 : C2 q v3 v4 W) (h3 : C2 r v5 v6 W) (h4 : C2 o v7 v8 W) : K4 p q r o v1 v2 v3 v4 v5 v6 v7 v8 W := ⟨h1.1, h1.2, h2.1, h2.2, h3.1, h3.2, h4.1, h4.2⟩
theorem K4.below (hb : Below W.heap.size W W') (h : K4 p q r o v1 v2 v3 v4 v5 v6 v7 v8 W) : K4 p q r o v1 v2 v3 v4 v5 v6 v7 v8 W' :=
 K4.of (C2.below hb ⟨h.1, h.2.1⟩) (C2.below hb ⟨h.2.2.1, h.2.2.2.1⟩) (C2.below hb ⟨h.2.2.2.2.1, h.2.2.2.2.2.1⟩) (C2.below hb ⟨h.2.2.2.2.2.2.1, h.2.2.2.2.2.2.2⟩)
end
end

namespace Q
open Go.RowKit
structure IsZ (w : World) (s : Bool) (A : Option Addr) (n c : Nat) (z : Int) (k : Nat) : Prop where
 ex : ∃ xs, n = xs.length ∧ Num w A xs ∧ zv s (val xs) = z
 le : n ≤ k
 cap : n ≤ c
structure OneZ (w : World) (s : Bool) (A : Option Addr) (n c : Nat) (z : Int) : Prop where
 es : s = zneg z
 en : n = zl z
 num : Num w A (dig z.natAbs)
 cap : n ≤ c
def RetJ (w : World) (z : Int) (e : Ending) (w' : World) : Prop :=
 ∃ s A n c, e = .returned (.agg #[.bool s, .slice A n c]) ∧ OneZ w' s A n c z ∧ Below w.heap.size w w'
def RetJJ (w : World) (y z : Int) (e : Ending) (w' : World) : Prop :=
 ∃ s A n c t B m d, e = .returned (.tuple #[.agg #[.bool s, .slice A n c], .agg #[.bool t, .slice B m d]]) ∧ OneZ w' s A n c y ∧ OneZ w' t B m d z ∧ Below w.heap.size w w'
section
variable {w w' : World} {s : Bool} {A : Option Addr} {n c k l : Nat} {z : Int}
theorem IsZ.below (h : IsZ w s A n c z k) (hb : Below w.heap.size w w') : IsZ w' s A n c z k := ⟨by obtain ⟨xs, h1, h2, h3⟩ := h.ex; exact ⟨xs, h1, h2.below hb, h3⟩, h.le, h.cap⟩
theorem IsZ.mono (h : IsZ w s A n c z k) (hk : k ≤ l) : IsZ w s A n c z l := ⟨h.ex, lT h.le hk, h.cap⟩
theorem IsZ.zl (h : IsZ w s A n c z k) : zl z ≤ k := by
 obtain ⟨xs, h1, h2, h3⟩ := h.ex
 exact lT (zl_val h2.1 h3) (h1 ▸ h.le)
theorem OneZ.below (h : OneZ w s A n c z) (hb : Below w.heap.size w w') : OneZ w' s A n c z := ⟨h.es, h.en, h.num.below hb, h.cap⟩
theorem OneZ.isz (h : OneZ w s A n c z) (hk : YthjiacmhhpfokaaGreat.zl z ≤ k) : IsZ w s A n c z k := ⟨⟨_, h.en, h.num, by rw [h.es]; exact zv_dig z⟩, by rw [h.en]; exact hk, h.cap⟩
theorem IsZ.alloc (h : IsZ w s A n c z k) (o : Obj) : IsZ (w.alloc o) s A n c z k := h.below ((bR _ _).alloc (lR _) o)
theorem OneZ.alloc (h : OneZ w s A n c z) (o : Obj) : OneZ (w.alloc o) s A n c z := h.below ((bR _ _).alloc (lR _) o)
theorem IsZ.drew (h : IsZ w s A n c z k) : IsZ w.drew s A n c z k := h.below ((bR _ _).drew)
theorem OneZ.drew (h : OneZ w s A n c z) : OneZ w.drew s A n c z := h.below ((bR _ _).drew)
end
theorem retj_of {w w' : World} {z : Int} {e : Ending} (h : RetZ w z e w') : RetJ w z e w' := by
 obtain ⟨A, c, rfl, hc, hn, hb⟩ := h
 exact ⟨_, _, _, _, rfl, ⟨rfl, rfl, hn, hc⟩, hb⟩
def rden (t : Bool) (ys : List Nat) : Int := if ys.length = 0 then 1 else zv t (val ys)
def dden (q : Rat) : List Nat := if q.den = 1 then [] else dig q.den
def ql (q : Rat) : Nat := max (zl q.num) (dig q.den).length
structure IsQ (w : World) (s : Bool) (A : Option Addr) (n c : Nat) (t : Bool) (B : Option Addr) (m d : Nat) (q : Rat) (k : Nat) : Prop where
 ex : ∃ xs ys, n = xs.length ∧ m = ys.length ∧ Num w A xs ∧ Num w B ys ∧ Rat.divInt (zv s (val xs)) (rden t ys) = q
 le : n ≤ k
 le2 : m ≤ k
 cap : n ≤ c
 cap2 : m ≤ d
structure OneQ (w : World) (s : Bool) (A : Option Addr) (n c : Nat) (t : Bool) (B : Option Addr) (m d : Nat) (q : Rat) : Prop where
 es : s = zneg q.num
 en : n = zl q.num
 et : t = false
 em : m = (dden q).length
 num : Num w A (dig q.num.natAbs)
 den : Num w B (dden q)
 cap : n ≤ c
 cap2 : m ≤ d
def RetQ (w : World) (q : Rat) (e : Ending) (w' : World) : Prop :=
 ∃ s A n c t B m d, e = .returned (.agg #[.bool s, .slice A n c, .bool t, .slice B m d]) ∧ OneQ w' s A n c t B m d q ∧ Below w.heap.size w w'
theorem dden_le (q : Rat) : (dden q).length ≤ ql q := by
 unfold dden ql
 split
 ·simp
 ·omega
theorem num_le (q : Rat) : zl q.num ≤ ql q := by unfold ql; omega
theorem den_le (q : Rat) : (dig q.den).length ≤ ql q := by unfold ql; omega
theorem one_val (q : Rat) : Rat.divInt (zv (zneg q.num) (val (dig q.num.natAbs))) (rden false (dden q)) = q := by
 rw [zv_dig]
 by_cases h : q.den = 1
 ·have e : dden q = [] := if_pos h
  have h2 := Rat.num_divInt_den q
  rw [h] at h2
  rw [e]
  exact h2
 ·have e : dden q = dig q.den := if_neg h
  have hne : (dig q.den).length ≠ 0 := by
   intro h2
   have := dig_nil_iff.1 h2
   exact q.den_nz this
  rw [e]
  unfold rden
  rw [if_neg hne, val_dig]
  exact Rat.num_divInt_den q
section
variable {w w' : World} {s t : Bool} {A B : Option Addr} {n c m d k l : Nat} {q : Rat}
theorem IsQ.below (h : IsQ w s A n c t B m d q k) (hb : Below w.heap.size w w') : IsQ w' s A n c t B m d q k :=
 ⟨by obtain ⟨xs, ys, h1, h2, h3, h4, h5⟩ := h.ex; exact ⟨xs, ys, h1, h2, h3.below hb, h4.below hb, h5⟩, h.le, h.le2, h.cap, h.cap2⟩
theorem IsQ.mono (h : IsQ w s A n c t B m d q k) (hk : k ≤ l) : IsQ w s A n c t B m d q l := ⟨h.ex, lT h.le hk, lT h.le2 hk, h.cap, h.cap2⟩
theorem IsQ.alloc (h : IsQ w s A n c t B m d q k) (o : Obj) : IsQ (w.alloc o) s A n c t B m d q k := h.below ((bR _ _).alloc (lR _) o)
theorem OneQ.below (h : OneQ w s A n c t B m d q) (hb : Below w.heap.size w w') : OneQ w' s A n c t B m d q :=
 ⟨h.es, h.en, h.et, h.em, h.num.below hb, h.den.below hb, h.cap, h.cap2⟩
theorem OneQ.alloc (h : OneQ w s A n c t B m d q) (o : Obj) : OneQ (w.alloc o) s A n c t B m d q := h.below ((bR _ _).alloc (lR _) o)
theorem OneQ.isq (h : OneQ w s A n c t B m d q) (hk : ql q ≤ k) : IsQ w s A n c t B m d q k :=
 ⟨⟨_, _, h.en, h.em, h.num, h.den, by rw [h.es, h.et]; exact one_val q⟩, by rw [h.en]; exact lT (num_le q) hk, by rw [h.em]; exact lT (dden_le q) hk, h.cap, h.cap2⟩
theorem OneQ.top (h : OneQ w s A n c t B m d q) : OneZ w s A n c q.num := ⟨h.es, h.en, h.num, h.cap⟩
end
theorem ql_div {n d : Int} (hd : 0 < d) : ql (Rat.divInt n d) ≤ max (zl n) (zl d) := by
 have h := low_le (n := n) hd
 unfold ql zl
 have h1 := dl_le h.1
 have h2 := dl_le h.2
 omega
theorem den_zl (q : Rat) : zl (q.den : Int) = (dig q.den).length := by unfold zl; rw [Int.natAbs_natCast]
theorem den_pos (q : Rat) : (0 : Int) < (q.den : Int) := by have := q.den_nz; omega
theorem ql_mul (y z : Rat) : ql (y * z) ≤ ql y + ql z := by
 have h : y * z = Rat.divInt (y.num * z.num) ((y.den : Int) * (z.den : Int)) := by
  conv => lhs; rw [← Rat.num_divInt_den y, ← Rat.num_divInt_den z]
  exact Rat.divInt_mul_divInt _ _
 rw [h]
 refine lT (ql_div (Int.mul_pos (den_pos y) (den_pos z))) ?_
 have h2 := zl_mul y.num z.num
 have h4 := zl_mul (y.den : Int) (z.den : Int)
 have h5 := num_le y
 have h6 := num_le z
 have h7 := den_le y
 have h8 := den_le z
 have h9 := den_zl y
 have h10 := den_zl z
 omega
theorem IsQ.ql {w : World} {s t : Bool} {A B : Option Addr} {n c m d k : Nat} {q : Rat} (h : IsQ w s A n c t B m d q k) (hk : 1 ≤ k) : Q.ql q ≤ k := by
 obtain ⟨xs, ys, h1, h2, h3, h4, h5⟩ := h.ex
 have l1 := zl_val h3.1 (rfl : zv s (val xs) = _)
 have hle := h.le
 have hle2 := h.le2
 unfold rden at h5
 split at h5
 ·rw [← h5]
  refine lT (ql_div (by omega)) ?_
  have : zl 1 ≤ 1 := zl_small (by omega) (by omega)
  omega
 ·have l2 := zl_val h4.1 (rfl : zv t (val ys) = _)
  rcases Int.lt_trichotomy (zv t (val ys)) 0 with hn | hn | hn
  ·rw [← h5, ← Rat.neg_divInt_neg]
   refine lT (ql_div (by omega)) ?_
   rw [zl_neg, zl_neg]
   omega
  ·rw [hn, Rat.divInt_zero] at h5
   rw [← h5]
   have : Q.ql 0 = max (zl 0) (dig 1).length := rfl
   have e1 : zl 0 ≤ 1 := zl_small (by omega) (by omega)
   have e2 : (dig 1).length ≤ 1 := dig_length_le (by rw [B64_eq]; omega)
   omega
  ·rw [← h5]
   refine lT (ql_div hn) ?_
   omega
section
variable {w : World} {s t : Bool} {A B : Option Addr} {n c m d k : Nat} {y z : Int}
theorem add_j (h1 : IsZ w s A n c y k) (h2 : IsZ w t B m d z k) (hk : k ≤ 3000) : Calls tz 137 #[.agg #[.bool s, .slice A n c], .agg #[.bool t, .slice B m d]] w (RetJ w (y + z)) := by
 obtain ⟨xs, rfl, ha, hx⟩ := h1.ex
 obtain ⟨ys, rfl, hb, hy⟩ := h2.ex
 exact (add_z w s t A B c d xs ys y z ha hb hx hy (by have := h1.le; omega) (by have := h2.le; omega) h1.cap h2.cap _ rfl).mono fun _ _ => retj_of
theorem mul_j (h1 : IsZ w s A n c y k) (h2 : IsZ w t B m d z k) (hk : k ≤ 3000) : Calls tz 141 #[.agg #[.bool s, .slice A n c], .agg #[.bool t, .slice B m d]] w (RetJ w (y * z)) := by
 obtain ⟨xs, rfl, ha, hx⟩ := h1.ex
 obtain ⟨ys, rfl, hb, hy⟩ := h2.ex
 exact (mul_z w s t A B c d xs ys y z ha hb hx hy (by have := h1.le; omega) (by have := h2.le; omega) h1.cap h2.cap _ rfl).mono fun _ _ => retj_of
theorem divmod_j (h1 : IsZ w s A n c y k) (h2 : IsZ w t B m d z k) (hk : k ≤ 3000) : Calls tz 201 #[.agg #[.bool s, .slice A n c], .agg #[.bool t, .slice B m d]] w (RetJJ w (y / z) (zrem y z)) := by
 obtain ⟨xs, rfl, ha, hx⟩ := h1.ex
 obtain ⟨ys, rfl, hb, hy⟩ := h2.ex
 refine (divmod_z w s t A B c d xs ys y z ha hb hx hy (by have := h1.le; omega) (by have := h2.le; omega) h1.cap h2.cap _ _ rfl rfl).mono ?_
 rintro e w' ⟨A1, c1, B1, d1, rfl, hc, hd, h3, h4, h5⟩
 exact ⟨_, _, _, _, _, _, _, _, rfl, ⟨rfl, rfl, h3, hc⟩, ⟨rfl, rfl, h4, hd⟩, h5⟩
theorem norm_j (h1 : IsZ w s A n c y k) (hk : k ≤ 3000) : Calls tz 134 #[.agg #[.bool s, .slice A n c]] w (RetJ w y) := by
 obtain ⟨xs, rfl, ha, hx⟩ := h1.ex
 exact (norm_z w s A c xs y ha hx (by have := h1.le; omega) h1.cap _ rfl).mono fun _ _ => retj_of
theorem sign_j (h1 : IsZ w s A n c y k) (hk : k ≤ 3000) (r : Int) (hr : y.sign = r) : Calls tz 140 #[.agg #[.bool s, .slice A n c]] w (RetI w r) := by
 obtain ⟨xs, rfl, ha, hx⟩ := h1.ex
 exact sign_z w s A c xs y ha hx (by have := h1.le; omega) h1.cap _ hr
theorem small_j (h1 : IsZ w s A n c y k) (hk : k ≤ 3000) : Calls tz 202 #[.agg #[.bool s, .slice A n c]] w (fun e w' => e = .returned (.tuple #[.int .i64 (smallv y), .bool (smallb y)]) ∧ Below w.heap.size w w') := by
 obtain ⟨xs, rfl, ha, hx⟩ := h1.ex
 exact small_any w s A c xs y ha hx (by have := h1.le; omega) h1.cap
end
theorem of_j (w : World) (z : Int) (h1 : -9223372036854775808 ≤ z) (h2 : z ≤ 9223372036854775807) : Calls tz 126 #[.int .i64 z] w (RetJ w z) := (of_z w z z rfl h1 h2).mono fun _ _ => retj_of
theorem smallv_one (z : Int) : (smallv z == 1) = decide (z = 1) := by
 unfold smallv
 split
 ·rfl
 ·rename_i h
  rw [decide_eq_false (by rintro rfl; exact h ⟨by omega, by omega⟩)]
  rfl
