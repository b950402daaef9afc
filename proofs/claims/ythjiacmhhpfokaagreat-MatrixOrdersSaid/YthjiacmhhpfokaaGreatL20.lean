/- Part 20 of the proof: RBoth. -/
import Derived.Test.YthjiacmhhpfokaaGreatL19
namespace Go.Proofs.YthjiacmhhpfokaaGreat
open Nat renaming le_refl → lR
open Go.RowKit.Below renaming refl → bR
namespace Q
open Lib renaming hid → lh
set_option maxRecDepth 100000
set_option maxHeartbeats 8000000
open Go.RowKit
theorem zl_quo (y z : Int) : zl (y / z) ≤ zl y := dl_le (Int.natAbs_ediv_le_natAbs y z)
def RetK (w : World) (z : Int) (k : Nat) (e : Ending) (w' : World) : Prop :=
 ∃ s A n c, e = .returned (.agg #[.bool s, .slice A n c]) ∧ IsZ w' s A n c z k ∧ Below w.heap.size w w'
theorem retk_put {w wx : World} {g : Nat} {s0 : Bool} {A0 : Option Addr} {n0 c0 : Nat} {s : Bool} {A : Option Addr} {n c k : Nat} {z : Int} (h : IsZ wx s A n c z k) (ho : Ibx wx g s0 A0 n0 c0) (hg : w.heap.size ≤ g) (hb : Below w.heap.size w wx) :
  RetK w z k (.returned (.agg #[.bool s, .slice A n c])) (put2 wx g s A n c) := ⟨s, A, n, c, rfl, h.on2 ho.bx, below_put2 hb hg⟩
theorem share_i {k : Nat} {w : World} {s t : Bool} {A B : Option Addr} {n c m d : Nat} {y z : Int} (h1 : IsZ w s A n c y k) (h2 : IsZ w t B m d z k) (hk : k ≤ 3000) (r : Int) (hr : y / z = r) :
  Calls Tryz.prog 171 #[.agg #[.bool s, .slice A n c], .agg #[.bool t, .slice B m d]] w (RetK w r k) := by
 have HS := lh (SH.start w s A n c t B m d)
 have HA := lh (((h1.alloc (.cells #[.bool s, .slice A n c] 25)).alloc (.cells #[.bool t, .slice B m d] 25)).alloc (.cells #[.bool false, .slice none 0 0] 25))
 have HB := lh (((h2.alloc (.cells #[.bool s, .slice A n c] 25)).alloc (.cells #[.bool t, .slice B m d] 25)).alloc (.cells #[.bool false, .slice none 0 0] 25))
 have hrk : zl r ≤ k := by rw [← hr]; exact Nat.le_trans (zl_quo y z) h1.zl
 have HRK := lh hrk
 clear h1 h2 hrk
 by_cases hz1 : z = 1
 ·have HD : Hid (decide (z = 1) = true) := decide_eq_true hz1
  have HR : Hid (y = r) := by show _ = _; rw [← hr, hz1, Int.ediv_one]
  clear hr hz1
  go_enter Tryz.func171, Tryz.ntmps171
  go_wp2_with fail
  refine (isone_j HB.out hk true HD.out).mono ?_
  rintro e w1 ⟨rfl, hb1⟩
  have HS1 := lh (HS.out.below hb1)
  have HA1 := lh (HA.out.below hb1)
  clear hb1
  have c0 := HS1.out.i1.c0
  have c1 := HS1.out.i1.c1
  have o0 := HS1.out.o.c0
  have o1 := HS1.out.o.c1
  have f0 := HS1.out.o.f 0
  have f1 := HS1.out.o.f 1
  go_wp2_with fail
  refine bodyPost_ret (v := .agg #[.bool s, .slice A n c]) (by simp [results, Tryz.results171, go_sem, o0, o1]) rfl ?_
  rw [← HR.out]
  exact retk_put HA1.out HS1.out.o (by omega) HS1.out.bel
 ·have HD : Hid (decide (z = 1) = false) := decide_eq_false hz1
  have HR := lh hr
  clear hr hz1
  go_enter Tryz.func171, Tryz.ntmps171
  go_wp2_with fail
  refine (isone_j HB.out hk false HD.out).mono ?_
  rintro e w1 ⟨rfl, hb1⟩
  have HS1 := lh (HS.out.below hb1)
  have HA1 := lh (HA.out.below hb1)
  have HB1 := lh (HB.out.below hb1)
  clear hb1 HA HB
  have c0 := HS1.out.i1.c0
  have c1 := HS1.out.i1.c1
  have d0 := HS1.out.i2.c0
  have d1 := HS1.out.i2.c1
  go_wp2_with fail
  refine (divmod_j HA1.out HB1.out hk).mono ?_
  rintro e w2 ⟨s1, A1, n1, c1', t1, B1, m1, d1', rfl, h1, h2, hb2⟩
  rw [HR.out] at h1
  have HS2 := lh (HS1.out.below hb2)
  have HN := lh h1
  clear hb2 h1 h2 c0 c1 d0 d1 HS HS1 HA1 HB1
  have HS3 := lh (HS2.out.below (((bR _ _).alloc (lR _) (.cells #[.bool s1, .slice A1 n1 c1'] 25)).alloc (by simp) (.cells #[.bool t1, .slice B1 m1 d1'] 25)))
  have HN3 := lh ((HN.out.alloc (.cells #[.bool s1, .slice A1 n1 c1'] 25)).alloc (.cells #[.bool t1, .slice B1 m1 d1'] 25))
  have o0 := HS3.out.o.c0
  have o1 := HS3.out.o.c1
  have f0 := HS3.out.o.f 0
  have f1 := HS3.out.o.f 1
  have hlt := HS2.out.o.lt
  go_wp2_with fail
  refine bodyPost_ret (v := .agg #[.bool s1, .slice A1 n1 c1']) (by simp [results, Tryz.results171, go_sem, o0, o1]) rfl ?_
  exact retk_put (HN3.out.isz HRK.out) HS3.out.o (by omega) HS3.out.bel
theorem do_add_j {w : World} {s t : Bool} {A B : Option Addr} {n c m d k : Nat} {y z : Int} (h1 : IsZ w s A n c y k) (h2 : IsZ w t B m d z k) (hk : k ≤ 3000) (r : Int) (hr : y + z = r) :
  Calls Tryz.prog 136 #[.agg #[.bool s, .slice A n c], .agg #[.bool t, .slice B m d]] w (RetJ w r) := by
 have HS := lh (SH.start w s A n c t B m d)
 have HC := lh (add_j ((((h1.alloc (.cells #[.bool s, .slice A n c] 25)).alloc (.cells #[.bool t, .slice B m d] 25)).alloc (.cells #[.bool false, .slice none 0 0] 25))) ((((h2.alloc (.cells #[.bool s, .slice A n c] 25)).alloc (.cells #[.bool t, .slice B m d] 25)).alloc (.cells #[.bool false, .slice none 0 0] 25))) hk)
 rw [hr] at HC
 clear h1 h2 hr
 go_enter Tryz.func136, Tryz.ntmps136
 go_wp2_with fail
 refine HC.out.mono ?_
 rintro e w1 ⟨s1, A1, n1, c1, rfl, h1, hb1⟩
 have HS1 := lh (HS.out.below hb1)
 have HN := lh h1
 clear h1 hb1
 have o0 := HS1.out.o.c0
 have o1 := HS1.out.o.c1
 have f0 := HS1.out.o.f 0
 have f1 := HS1.out.o.f 1
 go_wp2_with fail
 refine bodyPost_ret (v := .agg #[.bool s1, .slice A1 n1 c1]) (by simp [results, Tryz.results136, go_sem, o0, o1]) rfl ?_
 exact retj_put HN.out HS1.out.o (by omega) HS1.out.bel
structure S2 (w wx : World) (s : Bool) (A : Option Addr) (n c : Nat) (t : Bool) (B : Option Addr) (m d : Nat) (s2 : Bool) (A2 : Option Addr) (n2 c2 : Nat) (t2 : Bool) (B2 : Option Addr) (m2 d2 : Nat) : Prop where
 bel : Below w.heap.size w wx
 i1 : Qbx wx w.heap.size s A n c t B m d
 i2 : Qbx wx (w.heap.size + 1) s2 A2 n2 c2 t2 B2 m2 d2
 o : Qbx wx (w.heap.size + 1 + 1) false none 0 0 false none 0 0
section
variable {w wx wy : World} {s t s2 t2 s' t' : Bool} {A B A2 B2 A' B' : Option Addr} {n c m d n2 c2 m2 d2 n' c' m' d' : Nat}
theorem S2.start (w : World) (s : Bool) (A : Option Addr) (n c : Nat) (t : Bool) (B : Option Addr) (m d : Nat) (s2 : Bool) (A2 : Option Addr) (n2 c2 : Nat) (t2 : Bool) (B2 : Option Addr) (m2 d2 : Nat) :
  S2 w (((w.alloc (.cells #[.bool s, .slice A n c, .bool t, .slice B m d] 27)).alloc (.cells #[.bool s2, .slice A2 n2 c2, .bool t2, .slice B2 m2 d2] 27)).alloc (.cells #[.bool false, .slice none 0 0, .bool false, .slice none 0 0] 27)) s A n c t B m d s2 A2 n2 c2 t2 B2 m2 d2 :=
 ⟨(((bR _ _).alloc (lR _) _).alloc (by simp) _).alloc (by simp; omega) _, ((Qbx.new _ _ rfl).alloc _).alloc _, (Qbx.new _ _ (by simp)).alloc _, Qbx.new _ _ (by simp)⟩
theorem S2.below (h : S2 w wx s A n c t B m d s2 A2 n2 c2 t2 B2 m2 d2) (hb : Below wx.heap.size wx wy) : S2 w wy s A n c t B m d s2 A2 n2 c2 t2 B2 m2 d2 := ⟨below_on h.bel hb, h.i1.below hb, h.i2.below hb, h.o.below hb⟩
theorem S2.alloc (h : S2 w wx s A n c t B m d s2 A2 n2 c2 t2 B2 m2 d2) (o : Obj) : S2 w (wx.alloc o) s A n c t B m d s2 A2 n2 c2 t2 B2 m2 d2 := h.below ((bR _ _).alloc (lR _) o)
theorem S2.drew (h : S2 w wx s A n c t B m d s2 A2 n2 c2 t2 B2 m2 d2) : S2 w wx.drew s A n c t B m d s2 A2 n2 c2 t2 B2 m2 d2 := h.below ((bR _ _).drew)
end
structure D4 (W : World) (g h : Nat) (s1 : Bool) (A1 : Option Addr) (n1 c1 : Nat) (s2 : Bool) (A2 : Option Addr) (n2 c2 : Nat) (s3 : Bool) (A3 : Option Addr) (n3 c3 : Nat) (s4 : Bool) (A4 : Option Addr) (n4 c4 : Nat) (x d y e : Int) (k : Nat) : Prop where
 i1 : Ibx W g s1 A1 n1 c1
 i2 : Ibx W (g + 1) s2 A2 n2 c2
 i3 : Ibx W h s3 A3 n3 c3
 i4 : Ibx W (h + 1) s4 A4 n4 c4
 z1 : IsZ W s1 A1 n1 c1 x k
 z2 : IsZ W s2 A2 n2 c2 d k
 z3 : IsZ W s3 A3 n3 c3 y k
 z4 : IsZ W s4 A4 n4 c4 e k
section
variable {W W' : World} {g h k p : Nat} {s1 s2 s3 s4 s t : Bool} {A1 A2 A3 A4 A B : Option Addr} {n1 c1 n2 c2 n3 c3 n4 c4 n c m l : Nat} {x d y e : Int}
theorem D4.below (H : D4 W g h s1 A1 n1 c1 s2 A2 n2 c2 s3 A3 n3 c3 s4 A4 n4 c4 x d y e k) (hb : Below W.heap.size W W') : D4 W' g h s1 A1 n1 c1 s2 A2 n2 c2 s3 A3 n3 c3 s4 A4 n4 c4 x d y e k :=
 ⟨H.i1.below hb, H.i2.below hb, H.i3.below hb, H.i4.below hb, H.z1.below hb, H.z2.below hb, H.z3.below hb, H.z4.below hb⟩
theorem D4.drew (H : D4 W g h s1 A1 n1 c1 s2 A2 n2 c2 s3 A3 n3 c3 s4 A4 n4 c4 x d y e k) : D4 W.drew g h s1 A1 n1 c1 s2 A2 n2 c2 s3 A3 n3 c3 s4 A4 n4 c4 x d y e k := H.below ((bR _ _).drew)
theorem D4.alloc (H : D4 W g h s1 A1 n1 c1 s2 A2 n2 c2 s3 A3 n3 c3 s4 A4 n4 c4 x d y e k) (o : Obj) : D4 (W.alloc o) g h s1 A1 n1 c1 s2 A2 n2 c2 s3 A3 n3 c3 s4 A4 n4 c4 x d y e k := H.below ((bR _ _).alloc (lR _) o)
theorem D4.keep (H : D4 W g h s1 A1 n1 c1 s2 A2 n2 c2 s3 A3 n3 c3 s4 A4 n4 c4 x d y e k) : W.cell? ⟨g, 0, none⟩ = some (.bool s1) ∧ W.cell? ⟨g, 1, none⟩ = some (.slice A1 n1 c1) ∧ W.cell? ⟨g + 1, 0, none⟩ = some (.bool s2) ∧ W.cell? ⟨g + 1, 1, none⟩ = some (.slice A2 n2 c2) ∧ W.cell? ⟨h, 0, none⟩ = some (.bool s3) ∧ W.cell? ⟨h, 1, none⟩ = some (.slice A3 n3 c3) ∧ W.cell? ⟨h + 1, 0, none⟩ = some (.bool s4) ∧ W.cell? ⟨h + 1, 1, none⟩ = some (.slice A4 n4 c4) :=
 ⟨H.i1.c0, H.i1.c1, H.i2.c0, H.i2.c1, H.i3.c0, H.i3.c1, H.i4.c0, H.i4.c1⟩
theorem D4.keep4 (H : D4 W g h s1 A1 n1 c1 s2 A2 n2 c2 s3 A3 n3 c3 s4 A4 n4 c4 x d y e k) (hg : p < g) (hh : p < h) : (put4 W p s A n c t B m l).cell? ⟨g, 0, none⟩ = some (.bool s1) ∧ (put4 W p s A n c t B m l).cell? ⟨g, 1, none⟩ = some (.slice A1 n1 c1) ∧ (put4 W p s A n c t B m l).cell? ⟨g + 1, 0, none⟩ = some (.bool s2) ∧ (put4 W p s A n c t B m l).cell? ⟨g + 1, 1, none⟩ = some (.slice A2 n2 c2) ∧ (put4 W p s A n c t B m l).cell? ⟨h, 0, none⟩ = some (.bool s3) ∧ (put4 W p s A n c t B m l).cell? ⟨h, 1, none⟩ = some (.slice A3 n3 c3) ∧ (put4 W p s A n c t B m l).cell? ⟨h + 1, 0, none⟩ = some (.bool s4) ∧ (put4 W p s A n c t B m l).cell? ⟨h + 1, 1, none⟩ = some (.slice A4 n4 c4) :=
 have j1 := H.i1.put4_far (g' := p) (s' := s) (A' := A) (n' := n) (c' := c) (t' := t) (B' := B) (m' := m) (d' := l) (by omega)
 have j2 := H.i2.put4_far (g' := p) (s' := s) (A' := A) (n' := n) (c' := c) (t' := t) (B' := B) (m' := m) (d' := l) (by omega)
 have j3 := H.i3.put4_far (g' := p) (s' := s) (A' := A) (n' := n) (c' := c) (t' := t) (B' := B) (m' := m) (d' := l) (by omega)
 have j4 := H.i4.put4_far (g' := p) (s' := s) (A' := A) (n' := n) (c' := c) (t' := t) (B' := B) (m' := m) (d' := l) (by omega)
 ⟨j1.c0, j1.c1, j2.c0, j2.c1, j3.c0, j3.c1, j4.c0, j4.c1⟩
end
theorem mul_q {w : World} {s t s' t' : Bool} {A B A' B' : Option Addr} {n c m d n' c' m' d' k : Nat} {p r : Rat} (h1 : IsQ w s A n c t B m d p k) (h2 : IsQ w s' A' n' c' t' B' m' d' r k) (hk : 1 ≤ k) (hk2 : k ≤ 700) (q : Rat) (hq : p * r = q) :
  Calls Tryz.prog 85 #[.agg #[.bool s, .slice A n c, .bool t, .slice B m d], .agg #[.bool s', .slice A' n' c', .bool t', .slice B' m' d']] w (RetQ w q) := by
 have HS := lh (S2.start w s A n c t B m d s' A' n' c' t' B' m' d')
 have HP := lh (((h1.alloc (.cells #[.bool s, .slice A n c, .bool t, .slice B m d] 27)).alloc (.cells #[.bool s', .slice A' n' c', .bool t', .slice B' m' d'] 27)).alloc (.cells #[.bool false, .slice none 0 0, .bool false, .slice none 0 0] 27))
 have HR := lh (((h2.alloc (.cells #[.bool s, .slice A n c, .bool t, .slice B m d] 27)).alloc (.cells #[.bool s', .slice A' n' c', .bool t', .slice B' m' d'] 27)).alloc (.cells #[.bool false, .slice none 0 0, .bool false, .slice none 0 0] 27))
 have HQ := lh hq
 clear h1 h2 hq
 go_enter Tryz.func85, Tryz.ntmps85
 go_wp2_with fail
 refine (parts_any _ s t A B n c m d k p HP.out hk (by omega)).mono ?_
 rintro e w1 ⟨s1, A1, n1, c1, s2, A2, n2, c2, x, dx, rfl, hx, hdx, hdp, hqp, hb1⟩
 have HS1 := lh (HS.out.below hb1)
 have HX1 := lh hx
 have HDX1 := lh hdx
 have HR1 := lh (HR.out.below hb1)
 clear hx hdx hb1 HS HP HR
 obtain ⟨V, hV⟩ : ∃ V, (w1.alloc (.cells #[.bool s1, .slice A1 n1 c1] 25)).alloc (.cells #[.bool s2, .slice A2 n2 c2] 25) = V := ⟨_, rfl⟩
 have HV : Hid (Below w1.heap.size w1 V) := by rw [← hV]; exact ((bR _ _).alloc (lR _) _).alloc (by simp) _
 have HI1 : Hid (Ibx V w1.heap.size s1 A1 n1 c1) := by rw [← hV]; exact (Ibx.new' _ _ _ _ _ _ rfl).alloc _
 have HJ1 : Hid (Ibx V (w1.heap.size + 1) s2 A2 n2 c2) := by rw [← hV]; exact Ibx.new' _ _ _ _ _ _ (by simp)
 have HS2 := lh (HS1.out.below HV.out)
 have HX2 := lh (HX1.out.below HV.out)
 have HDX2 := lh (HDX1.out.below HV.out)
 have HR2 := lh (HR1.out.below HV.out)
 have HLW : Hid (w.heap.size + 1 + 1 < w1.heap.size) := HS1.out.o.lt
 have k0 := HS2.out.i2.c0
 have k1 := HS2.out.i2.c1
 have k2 := HS2.out.i2.c2
 have k3 := HS2.out.i2.c3
 clear HS1 HX1 HDX1 HR1 HV
 go_wp2_with fail
 refine (parts_any _ s' t' A' B' n' c' m' d' k r HR2.out hk (by omega)).mono ?_
 rintro e w2 ⟨s3, A3, n3, c3, s4, A4, n4, c4, y, ey, rfl, hy, hey, hep, hqr, hb2⟩
 clear hV
 have HS3 := lh (HS2.out.below hb2)
 have HI3 := lh (HI1.out.below hb2)
 have HJ3 := lh (HJ1.out.below hb2)
 have HX3 := lh (HX2.out.below hb2)
 have HDX3 := lh (HDX2.out.below hb2)
 have HY3 := lh hy
 have HEY3 := lh hey
 have HLW2 : Hid (w.heap.size + 1 + 1 < w2.heap.size) := HS3.out.o.lt
 clear hy hey hb2 HS2 HI1 HJ1 HX2 HDX2 HR2 k0 k1 k2 k3
 obtain ⟨W, hW⟩ : ∃ W, (w2.alloc (.cells #[.bool s3, .slice A3 n3 c3] 25)).alloc (.cells #[.bool s4, .slice A4 n4 c4] 25) = W := ⟨_, rfl⟩
 have HV : Hid (Below w2.heap.size w2 W) := by rw [← hW]; exact ((bR _ _).alloc (lR _) _).alloc (by simp) _
 have HI4 : Hid (Ibx W w2.heap.size s3 A3 n3 c3) := by rw [← hW]; exact (Ibx.new' _ _ _ _ _ _ rfl).alloc _
 have HJ4 : Hid (Ibx W (w2.heap.size + 1) s4 A4 n4 c4) := by rw [← hW]; exact Ibx.new' _ _ _ _ _ _ (by simp)
 have HS := lh (HS3.out.below HV.out)
 have HD : Hid (D4 W w1.heap.size w2.heap.size s1 A1 n1 c1 s2 A2 n2 c2 s3 A3 n3 c3 s4 A4 n4 c4 x dx y ey k) := ⟨HI3.out.below HV.out, HJ3.out.below HV.out, HI4.out, HJ4.out, HX3.out.below HV.out, HDX3.out.below HV.out, HY3.out.below HV.out, HEY3.out.below HV.out⟩
 have HQP := lh hqp
 have HQR := lh hqr
 clear HS3 HI3 HJ3 HI4 HJ4 HX3 HDX3 HY3 HEY3 HV hqp hqr
 obtain ⟨N, hN⟩ : ∃ N, x * y = N := ⟨_, rfl⟩
 obtain ⟨M, hM⟩ : ∃ M, dx * ey = M := ⟨_, rfl⟩
 have HE : Hid (Rat.divInt N M = q) := by
  show _ = _
  rw [← HQ.out, ← HQP.out, ← HQR.out, ← hN, ← hM]
  exact (Rat.divInt_mul_divInt _ _).symm
 have HNL : Hid (zl N ≤ 3000) := by show _ ≤ _; rw [← hN]; have h1 := zl_mul x y; have h2 := HD.out.z1.zl; have h3 := HD.out.z3.zl; omega
 have HML : Hid (zl M ≤ 3000) := by show _ ≤ _; rw [← hM]; have h1 := zl_mul dx ey; have h2 := HD.out.z2.zl; have h3 := HD.out.z4.zl; omega
 have hMp : 0 < M := by rw [← hM]; exact Int.mul_pos hdp hep
 have HN := lh hN
 have HM := lh hM
 clear hN hM
 go_upto_region 3 with fail
 clear hW
 go_region_held3 (fun V => V.cell? ⟨w1.heap.size, 0, none⟩ = some (.bool s1) ∧ V.cell? ⟨w1.heap.size, 1, none⟩ = some (.slice A1 n1 c1) ∧ V.cell? ⟨w1.heap.size + 1, 0, none⟩ = some (.bool s2) ∧ V.cell? ⟨w1.heap.size + 1, 1, none⟩ = some (.slice A2 n2 c2) ∧ V.cell? ⟨w2.heap.size, 0, none⟩ = some (.bool s3) ∧ V.cell? ⟨w2.heap.size, 1, none⟩ = some (.slice A3 n3 c3) ∧ V.cell? ⟨w2.heap.size + 1, 0, none⟩ = some (.bool s4) ∧ V.cell? ⟨w2.heap.size + 1, 1, none⟩ = some (.slice A4 n4 c4))
  (first | (with_reducible exact HD8.out.keep4 HLW.out HLW2.out) | (with_reducible exact HD8.out.keep) | (with_reducible exact HD6.out.keep) | (with_reducible exact HD5.out.keep) | (with_reducible exact HD.out.drew.keep))
  (first
  | (go_at_call 133; (refine (lowest_j HN6.out HM6.out HNL.out HML.out hMp HE.out).mono ?_); rintro e w8 ⟨s8, A8, n8, c8, t8, B8, m8, d8, rfl, h8, hb8⟩; have HS8 := lh (HS6.out.below hb8); have HD8 := lh (HD6.out.below hb8); have HR8 := lh h8; have o0 := HS8.out.o.c0; have o1 := HS8.out.o.c1; have o2 := HS8.out.o.c2; have o3 := HS8.out.o.c3; have f0 := HS8.out.o.f 0; have f1 := HS8.out.o.f 1; have f2 := HS8.out.o.f 2; have f3 := HS8.out.o.f 3)
  | (go_at_call 141; (refine (mul_j HD5.out.z2 HD5.out.z4 (by omega)).mono ?_); rintro e w6 ⟨s6, A6, n6, c6, rfl, h6, hb6⟩; rw [HM.out] at h6; have HS6 := lh (HS5.out.below hb6); have HD6 := lh (HD5.out.below hb6); have HN6 := lh (HN5.out.below hb6); have HM6 := lh h6)
  | (go_at_call 141; (refine (mul_j HD.out.drew.z1 HD.out.drew.z3 (by omega)).mono ?_); rintro e w5 ⟨s5, A5, n5, c5, rfl, h5, hb5⟩; rw [HN.out] at h5; have HS5 := lh (HS.out.drew.below hb5); have HD5 := lh (HD.out.drew.below hb5); have HN5 := lh h5))
 all_goals
  go_wp2_with fail
  refine bodyPost_ret (v := .agg #[.bool s8, .slice A8 n8 c8, .bool t8, .slice B8 m8 d8]) (by simp [results, Tryz.results85, go_sem, o0, o1, o2, o3]) rfl ?_
  exact retq_put HR8.out HS8.out.o (by omega) HS8.out.bel
