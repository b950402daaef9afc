/- Part 18 of the proof: RLow. -/
import Derived.Test.YthjiacmhhpfokaaGreatM14
import Derived.Test.YthjiacmhhpfokaaGreatM17
namespace Go.Proofs.YthjiacmhhpfokaaGreat
open Nat renaming le_refl → lR
open Go.RowKit.Below renaming refl → bR
namespace Q
open Lib renaming hid → lh
set_option maxRecDepth 100000
set_option maxHeartbeats 8000000
open Go.RowKit
theorem gcd_j {w : World} {s t : Bool} {A B : Option Addr} {n c m d k : Nat} {y z : Int} (h1 : IsZ w s A n c y k) (h2 : IsZ w t B m d z k) (hk : k ≤ 3000) (r : Int) (hr : ((Nat.gcd y.natAbs z.natAbs : Nat) : Int) = r) : Calls Tryz.prog 170 #[.agg #[.bool s, .slice A n c], .agg #[.bool t, .slice B m d]] w (RetJ w r) := by
 obtain ⟨xs, rfl, ha, hx⟩ := h1.ex
 obtain ⟨ys, rfl, hb, hy⟩ := h2.ex
 subst hr
 exact (zgcd_any w s t A B c d xs ys y z ha hb hx hy (by have := h1.le; omega) (by have := h2.le; omega) h1.cap h2.cap (fun W e1 e2 => gcd_any W A B c d xs ys e1 e2 (by have := h1.le; omega) (by have := h2.le; omega) h1.cap h2.cap)).mono fun _ _ => retj_of
theorem isone_j {w : World} {s : Bool} {A : Option Addr} {n c k : Nat} {z : Int} (h : IsZ w s A n c z k) (hk : k ≤ 3000) (b : Bool) (hb : decide (z = 1) = b) :
  Calls Tryz.prog 172 #[.agg #[.bool s, .slice A n c]] w (RetB w b) := by
 have H1 := lh (small_j (h.alloc (.cells #[.bool s, .slice A n c] 25)) hk)
 have HW : Hid (Below w.heap.size w (w.alloc (.cells #[.bool s, .slice A n c] 25))) := (bR _ _).alloc (lR _) _
 rw [← smallv_one] at hb
 obtain ⟨v, hv⟩ : ∃ v, smallv z = v := ⟨_, rfl⟩
 obtain ⟨u, hu⟩ : ∃ u, smallb z = u := ⟨_, rfl⟩
 rw [hv] at hb
 rw [hv, hu] at H1
 clear h hv hu
 go_enter Tryz.func172, Tryz.ntmps172
 go_wp2_with fail
 refine H1.out.mono ?_
 rintro e w1 ⟨rfl, hb1⟩
 have HW1 := lh (below_on HW.out hb1)
 clear hb1
 go_wp2_with fail
 go_ret
 exact ⟨rfl, HW1.out⟩
structure SH (w wx : World) (s : Bool) (A : Option Addr) (n c : Nat) (t : Bool) (B : Option Addr) (m d : Nat) : Prop where
 bel : Below w.heap.size w wx
 i1 : Ibx wx w.heap.size s A n c
 i2 : Ibx wx (w.heap.size + 1) t B m d
 o : Ibx wx (w.heap.size + 1 + 1) false none 0 0
theorem SH.start (w : World) (s : Bool) (A : Option Addr) (n c : Nat) (t : Bool) (B : Option Addr) (m d : Nat) : SH w (((w.alloc (.cells #[.bool s, .slice A n c] 25)).alloc (.cells #[.bool t, .slice B m d] 25)).alloc (.cells #[.bool false, .slice none 0 0] 25)) s A n c t B m d :=
 ⟨(((bR _ _).alloc (lR _) _).alloc (by simp) _).alloc (by simp; omega) _, ((Ibx.new' _ _ _ _ _ _ rfl).alloc _).alloc _, (Ibx.new' _ _ _ _ _ _ (by simp)).alloc _, Ibx.new' _ _ _ _ _ _ (by simp)⟩
theorem SH.below {w wx wy : World} {s t : Bool} {A B : Option Addr} {n c m d : Nat} (h : SH w wx s A n c t B m d) (hb : Below wx.heap.size wx wy) : SH w wy s A n c t B m d :=
 ⟨below_on h.bel hb, h.i1.below hb, h.i2.below hb, h.o.below hb⟩
theorem retj_put {w wx : World} {g : Nat} {s0 : Bool} {A0 : Option Addr} {n0 c0 : Nat} {s : Bool} {A : Option Addr} {n c : Nat} {z : Int} (h : OneZ wx s A n c z) (ho : Ibx wx g s0 A0 n0 c0) (hg : w.heap.size ≤ g) (hb : Below w.heap.size w wx) :
  RetJ w z (.returned (.agg #[.bool s, .slice A n c])) (put2 wx g s A n c) := ⟨s, A, n, c, rfl, h.on2 ho.bx, below_put2 hb hg⟩
theorem share_j {w : World} {s t : Bool} {A B : Option Addr} {n c m d : Nat} {y z : Int} (h1 : OneZ w s A n c y) (h2 : OneZ w t B m d z) (hy : zl y ≤ 3000) (hz : zl z ≤ 3000) (r : Int) (hr : y / z = r) :
  Calls Tryz.prog 171 #[.agg #[.bool s, .slice A n c], .agg #[.bool t, .slice B m d]] w (RetJ w r) := by
 have HS := lh (SH.start w s A n c t B m d)
 have HA := lh (((h1.alloc (.cells #[.bool s, .slice A n c] 25)).alloc (.cells #[.bool t, .slice B m d] 25)).alloc (.cells #[.bool false, .slice none 0 0] 25))
 have HB := lh (((h2.alloc (.cells #[.bool s, .slice A n c] 25)).alloc (.cells #[.bool t, .slice B m d] 25)).alloc (.cells #[.bool false, .slice none 0 0] 25))
 have HY := lh hy
 have HZ := lh hz
 clear h1 h2 hy hz
 by_cases hz1 : z = 1
 ·have HD : Hid (decide (z = 1) = true) := decide_eq_true hz1
  have HR : Hid (y = r) := by show _ = _; rw [← hr, hz1, Int.ediv_one]
  clear hr hz1
  go_enter Tryz.func171, Tryz.ntmps171
  go_wp2_with fail
  refine (isone_j (HB.out.isz HZ.out) (by omega) true HD.out).mono ?_
  rintro e w1 ⟨rfl, hb1⟩
  have HS1 := lh (HS.out.below hb1)
  have HA1 := lh (HA.out.below hb1)
  clear hb1
  have c0 := HS1.out.i1.c0
  have c1 := HS1.out.i1.c1
  have o0 := HS1.out.o.c0
  have o1 := HS1.out.o.c1
  have f0 := HS1.out.o.f 0
  have f1 := HS1.out.o.f 1
  go_wp2_with fail
  refine bodyPost_ret (v := .agg #[.bool s, .slice A n c]) (by simp [results, Tryz.results171, go_sem, o0, o1]) rfl ?_
  rw [← HR.out]
  exact retj_put HA1.out HS1.out.o (by omega) HS1.out.bel
 ·have HD : Hid (decide (z = 1) = false) := decide_eq_false hz1
  have HR := lh hr
  clear hr hz1
  go_enter Tryz.func171, Tryz.ntmps171
  go_wp2_with fail
  refine (isone_j (HB.out.isz HZ.out) (by omega) false HD.out).mono ?_
  rintro e w1 ⟨rfl, hb1⟩
  have HS1 := lh (HS.out.below hb1)
  have HA1 := lh (HA.out.below hb1)
  have HB1 := lh (HB.out.below hb1)
  clear hb1 HA HB
  have c0 := HS1.out.i1.c0
  have c1 := HS1.out.i1.c1
  have d0 := HS1.out.i2.c0
  have d1 := HS1.out.i2.c1
  go_wp2_with fail
  refine (divmod_j (HA1.out.isz HY.out) (HB1.out.isz HZ.out) (by omega)).mono ?_
  rintro e w2 ⟨s1, A1, n1, c1', t1, B1, m1, d1', rfl, h1, h2, hb2⟩
  rw [HR.out] at h1
  have HS2 := lh (HS1.out.below hb2)
  have HN := lh h1
  clear hb2 h1 h2 c0 c1 d0 d1 HS HS1 HA1 HB1
  have HS3 := lh (HS2.out.below (((bR _ _).alloc (lR _) (.cells #[.bool s1, .slice A1 n1 c1'] 25)).alloc (by simp) (.cells #[.bool t1, .slice B1 m1 d1'] 25)))
  have HN3 := lh ((HN.out.alloc (.cells #[.bool s1, .slice A1 n1 c1'] 25)).alloc (.cells #[.bool t1, .slice B1 m1 d1'] 25))
  have o0 := HS3.out.o.c0
  have o1 := HS3.out.o.c1
  have f0 := HS3.out.o.f 0
  have f1 := HS3.out.o.f 1
  have hlt := HS2.out.o.lt
  go_wp2_with fail
  refine bodyPost_ret (v := .agg #[.bool s1, .slice A1 n1 c1']) (by simp [results, Tryz.results171, go_sem, o0, o1]) rfl ?_
  exact retj_put HN3.out HS3.out.o (by omega) HS3.out.bel
theorem oneq_of {w : World} {s t : Bool} {A B : Option Addr} {n c m d : Nat} {q : Rat} (h1 : OneZ w s A n c q.num) (h2 : OneZ w t B m d (q.den : Int)) (h : q.den ≠ 1) : OneQ w s A n c t B m d q := by
 have e : dden q = dig q.den := if_neg h
 exact ⟨h1.es, h1.en, by rw [h2.es]; unfold zneg; exact decide_eq_false (by omega), by rw [h2.en, den_zl, e], h1.num, by have := h2.num; rw [Int.natAbs_natCast] at this; rw [e]; exact this, h1.cap, h2.cap⟩
theorem oneq_one {w : World} {s : Bool} {A : Option Addr} {n c : Nat} {q : Rat} (h1 : OneZ w s A n c q.num) (h : q.den = 1) (d : Nat) : OneQ w s A n c false none 0 d q := by
 have e : dden q = [] := if_pos h
 exact ⟨h1.es, h1.en, rfl, by rw [e]; rfl, h1.num, by rw [e]; exact Num.nil _ _, h1.cap, Nat.zero_le _⟩
theorem retq_put {w wx : World} {g : Nat} {s0 : Bool} {A0 : Option Addr} {n0 c0 : Nat} {t0 : Bool} {B0 : Option Addr} {m0 d0 : Nat} {s : Bool} {A : Option Addr} {n c : Nat} {t : Bool} {B : Option Addr} {m d : Nat} {q : Rat} (h : OneQ wx s A n c t B m d q) (ho : Qbx wx g s0 A0 n0 c0 t0 B0 m0 d0) (hg : w.heap.size ≤ g) (hb : Below w.heap.size w wx) :
  RetQ w q (.returned (.agg #[.bool s, .slice A n c, .bool t, .slice B m d])) (put4 wx g s A n c t B m d) := ⟨s, A, n, c, t, B, m, d, rfl, h.on4 ho.bx, below_put4 hb hg⟩
structure SQ (w wx : World) (s : Bool) (A : Option Addr) (n c : Nat) (t : Bool) (B : Option Addr) (m d : Nat) : Prop where
 bel : Below w.heap.size w wx
 i1 : Ibx wx w.heap.size s A n c
 i2 : Ibx wx (w.heap.size + 1) t B m d
 o : Qbx wx (w.heap.size + 1 + 1) false none 0 0 false none 0 0
section
variable {w wx wy : World} {s t s' t' : Bool} {A B A' B' : Option Addr} {n c m d n' c' m' d' : Nat}
theorem SQ.start (w : World) (s : Bool) (A : Option Addr) (n c : Nat) (t : Bool) (B : Option Addr) (m d : Nat) : SQ w (((w.alloc (.cells #[.bool s, .slice A n c] 25)).alloc (.cells #[.bool t, .slice B m d] 25)).alloc (.cells #[.bool false, .slice none 0 0, .bool false, .slice none 0 0] 27)) s A n c t B m d :=
 ⟨(((bR _ _).alloc (lR _) _).alloc (by simp) _).alloc (by simp; omega) _, ((Ibx.new' _ _ _ _ _ _ rfl).alloc _).alloc _, (Ibx.new' _ _ _ _ _ _ (by simp)).alloc _, Qbx.new _ _ (by simp)⟩
theorem SQ.below (h : SQ w wx s A n c t B m d) (hb : Below wx.heap.size wx wy) : SQ w wy s A n c t B m d :=
 ⟨below_on h.bel hb, h.i1.below hb, h.i2.below hb, h.o.below hb⟩
theorem SQ.alloc (h : SQ w wx s A n c t B m d) (o : Obj) : SQ w (wx.alloc o) s A n c t B m d := h.below ((bR _ _).alloc (lR _) o)
theorem SQ.drew (h : SQ w wx s A n c t B m d) : SQ w wx.drew s A n c t B m d := h.below ((bR _ _).drew)
theorem SQ.fst (h : SQ w wx s A n c t B m d) : SQ w (put2 wx w.heap.size s' A' n' c') s' A' n' c' t B m d :=
 ⟨below_put2 h.bel (lR _), h.i1.put, h.i2.put_far (by omega), h.o.put2_far (by omega)⟩
theorem SQ.snd (h : SQ w wx s A n c t B m d) : SQ w (put2 wx (w.heap.size + 1) t' B' m' d') s A n c t' B' m' d' :=
 ⟨below_put2 h.bel (by omega), h.i1.put_far (by omega), h.i2.put, h.o.put2_far (by omega)⟩
theorem SQ.k (h : SQ w wx s A n c t B m d) : C4 w.heap.size (.bool s) (.slice A n c) (.bool t) (.slice B m d) wx := ⟨h.i1.c0, h.i1.c1, h.i2.c0, h.i2.c1⟩
end
def hideL (o : Op) : Op := o
@[go_sem] theorem hideL_eq (o : Op) : hideL o = o := rfl
theorem lowest_j {w : World} {s t : Bool} {A B : Option Addr} {n c m d : Nat} {y z : Int} {q : Rat} (h1 : OneZ w s A n c y) (h2 : OneZ w t B m d z) (hy : zl y ≤ 3000) (hz : zl z ≤ 3000) (hzp : 0 < z) (hq : Rat.divInt y z = q) :
  Calls Tryz.prog 133 #[.agg #[.bool s, .slice A n c], .agg #[.bool t, .slice B m d]] w (RetQ w q) := by
 have HS := lh (SQ.start w s A n c t B m d)
 have HA := lh (((h1.alloc (.cells #[.bool s, .slice A n c] 25)).alloc (.cells #[.bool t, .slice B m d] 25)).alloc (.cells #[.bool false, .slice none 0 0, .bool false, .slice none 0 0] 27))
 have HB := lh (((h2.alloc (.cells #[.bool s, .slice A n c] 25)).alloc (.cells #[.bool t, .slice B m d] 25)).alloc (.cells #[.bool false, .slice none 0 0, .bool false, .slice none 0 0] 27))
 have HY := lh hy
 have HZ := lh hz
 have hlow := low (n := y) hzp
 have hgl : zl (((Nat.gcd y.natAbs z.natAbs : Nat) : Int)) ≤ 3000 := by
  refine Nat.le_trans ?_ hz
  unfold zl
  rw [Int.natAbs_natCast]
  exact dl_le (Nat.gcd_le_right _ (by omega))
 obtain ⟨g, hg⟩ : ∃ g : Int, ((Nat.gcd y.natAbs z.natAbs : Nat) : Int) = g := ⟨_, rfl⟩
 rw [hq, hg] at hlow
 rw [hg] at hgl
 have hle := low_le (n := y) hzp
 rw [hq] at hle
 have HDL : Hid (zl (q.den : Int) ≤ 3000) := by show _ ≤ _; rw [den_zl]; exact Nat.le_trans (dl_le hle.2) hz
 have HG := lh hg
 have HGL := lh hgl
 have HN := lh hlow.1
 have HD := lh hlow.2
 clear h1 h2 hy hz hlow hgl hg hle hq
 go_enter Tryz.func133, Tryz.ntmps133
 go_wp2_with fail
 refine (gcd_j (HA.out.isz HY.out) (HB.out.isz HZ.out) (by omega) g HG.out).mono ?_
 rintro e w1 ⟨sg, Ag, ng, cg, rfl, h1, hb1⟩
 have HS1 := lh (HS.out.below hb1)
 have HA1 := lh (HA.out.below hb1)
 have HB1 := lh (HB.out.below hb1)
 have H1 := lh h1
 have HLW : Hid (w.heap.size + 1 + 1 < w1.heap.size) := HS1.out.o.lt
 clear h1 hb1 HS HA HB
 go_upto_region 2 with fail
 go_cut [] (fun wx => ∃ (s1 : Bool) (A1 : Option Addr) (n1 c1 : Nat) (t1 : Bool) (B1 : Option Addr) (m1 d1 : Nat), Hid (SQ w wx s1 A1 n1 c1 t1 B1 m1 d1) ∧ Hid (OneZ wx s1 A1 n1 c1 q.num) ∧ Hid (OneZ wx t1 B1 m1 d1 (q.den : Int)))
 case first =>
  obtain ⟨W, hW⟩ : ∃ W, w1.alloc (.cells #[.bool sg, .slice Ag ng cg] 25) = W := ⟨_, rfl⟩
  have HG2 : Hid (Ibx W w1.heap.size sg Ag ng cg) := by rw [← hW]; exact Ibx.new' _ _ _ _ _ _ rfl
  have HS2 : Hid (SQ w W s A n c t B m d) := by rw [← hW]; exact HS1.out.alloc _
  have HA2 : Hid (OneZ W s A n c y) := by rw [← hW]; exact HA1.out.alloc _
  have HB2 : Hid (OneZ W t B m d z) := by rw [← hW]; exact HB1.out.alloc _
  have HO2 : Hid (OneZ W sg Ag ng cg g) := by rw [← hW]; exact H1.out.alloc _
  rw [hW]
  clear hW HS1 HA1 HB1 H1
  have k0 := HS2.out.i1.c0
  have k1 := HS2.out.i1.c1
  have k2 := HS2.out.i2.c0
  have k3 := HS2.out.i2.c1
  have hlt := HS2.out.i2.lt
  have hlw : w.heap.size + 1 + 1 < w1.heap.size := HLW.out
  rw [show Op.load 25 (Operand.tmp 2) = hideL (Op.load 25 (Operand.tmp 2)) from rfl, show Op.load 25 (Operand.tmp 3) = hideL (Op.load 25 (Operand.tmp 3)) from rfl]
  go_region_held3 (fun V => V.cell? ⟨w1.heap.size, 0, none⟩ = some (.bool sg) ∧ V.cell? ⟨w1.heap.size, 1, none⟩ = some (.slice Ag ng cg))
   (first | (with_reducible exact ⟨HG4.out.c0, HG4.out.c1⟩) | (with_reducible exact ⟨(HG4.out.put_far (by omega)).c0, (HG4.out.put_far (by omega)).c1⟩) | (with_reducible exact ⟨((HG4.out.put_far (by omega)).put_far (by omega)).c0, ((HG4.out.put_far (by omega)).put_far (by omega)).c1⟩) | (with_reducible exact ⟨HG3.out.c0, HG3.out.c1⟩) | (with_reducible exact ⟨HG2.out.drew.c0, HG2.out.drew.c1⟩))
   (first
   | (go_at_call 171; (refine (share_j HB3.out HO3.out HZ.out HGL.out (q.den : Int) HD.out).mono ?_); rintro e w4 ⟨s4, A4, n4, c4, rfl, h4, hb4⟩; have HS4 := lh (HS3.out.below hb4); have HG4 := lh (HG3.out.below hb4); have HN4 := lh (HN3.out.below hb4); have HD4 := lh h4; have f0 := HS4.out.i1.f 0; have f1 := HS4.out.i1.f 1; have f2 := HS4.out.i2.f 0; have f3 := HS4.out.i2.f 1; have k0 := HS4.out.i1.c0; have k1 := HS4.out.i1.c1; have k2 := HS4.out.i2.c0; have k3 := HS4.out.i2.c1)
   | (go_at_call 171; (refine (share_j HA2.out.drew HO2.out.drew HY.out HGL.out q.num HN.out).mono ?_); rintro e w3 ⟨s3, A3, n3, c3, rfl, h3, hb3⟩; have HS3 := lh (HS2.out.drew.below hb3); have HG3 := lh (HG2.out.drew.below hb3); have HB3 := lh (HB2.out.drew.below hb3); have HO3 := lh (HO2.out.drew.below hb3); have HN3 := lh h3; have k2 := HS3.out.i2.c0; have k3 := HS3.out.i2.c1))
  all_goals
   go_wp2_with fail
   go_meet
   exact ⟨s3, A3, n3, c3, s4, A4, n4, c4, HS4.out.fst.snd, (HN4.out.on2 HS4.out.i1.bx).on2 HS4.out.fst.i2.bx, (HD4.out.on2 HS4.out.i1.bx).on2 HS4.out.fst.i2.bx⟩
 case rest =>
  clear HS1 HA1 HB1 H1
  obtain ⟨s1, A1, n1, c1, t1, B1, m1, d1, HS, HN1, HD1⟩ := hcut
  have c0 := HS.out.i1.c0
  have c1' := HS.out.i1.c1
  have c2 := HS.out.i2.c0
  have c3 := HS.out.i2.c1
  by_cases hd1 : q.den = 1
  ·have HE : Hid (decide ((q.den : Int) = 1) = true) := decide_eq_true (by omega)
   go_wp2_with fail
   refine (isone_j (HD1.out.isz HDL.out) (by omega) true HE.out).mono ?_
   rintro e w5 ⟨rfl, hb5⟩
   have HS5 := lh (HS.out.below hb5)
   have HN5 := lh (HN1.out.below hb5)
   clear hb5 c0 c1' c2 c3
   have c0 := HS5.out.i1.c0
   have c1' := HS5.out.i1.c1
   have c2 := HS5.out.i2.c0
   have c3 := HS5.out.i2.c1
   have f2 := HS5.out.i2.f 0
   have f3 := HS5.out.i2.f 1
   have o0 := HS5.out.o.c0
   have o1 := HS5.out.o.c1
   have o2 := HS5.out.o.c2
   have o3 := HS5.out.o.c3
   have p0 := HS5.out.o.f 0
   have p1 := HS5.out.o.f 1
   have p2 := HS5.out.o.f 2
   have p3 := HS5.out.o.f 3
   go_wp2_with fail
   refine bodyPost_ret (v := .agg #[.bool s1, .slice A1 n1 c1, .bool false, .slice none 0 0]) (by simp [results, Tryz.results133, go_sem, o0, o1, o2, o3]) rfl ?_
   exact retq_put (oneq_one (HN5.out.on2 HS5.out.i2.bx) hd1 0) HS5.out.snd.o (by omega) HS5.out.snd.bel
  ·have HE : Hid (decide ((q.den : Int) = 1) = false) := decide_eq_false (by omega)
   go_wp2_with fail
   refine (isone_j (HD1.out.isz HDL.out) (by omega) false HE.out).mono ?_
   rintro e w5 ⟨rfl, hb5⟩
   have HS5 := lh (HS.out.below hb5)
   have HN5 := lh (HN1.out.below hb5)
   have HD5 := lh (HD1.out.below hb5)
   clear hb5 c0 c1' c2 c3
   have c0 := HS5.out.i1.c0
   have c1' := HS5.out.i1.c1
   have c2 := HS5.out.i2.c0
   have c3 := HS5.out.i2.c1
   have o0 := HS5.out.o.c0
   have o1 := HS5.out.o.c1
   have o2 := HS5.out.o.c2
   have o3 := HS5.out.o.c3
   have p0 := HS5.out.o.f 0
   have p1 := HS5.out.o.f 1
   have p2 := HS5.out.o.f 2
   have p3 := HS5.out.o.f 3
   go_wp2_with fail
   refine bodyPost_ret (v := .agg #[.bool s1, .slice A1 n1 c1, .bool t1, .slice B1 m1 d1]) (by simp [results, Tryz.results133, go_sem, o0, o1, o2, o3]) rfl ?_
   exact retq_put (oneq_of HN5.out HD5.out hd1) HS5.out.o (by omega) HS5.out.bel
