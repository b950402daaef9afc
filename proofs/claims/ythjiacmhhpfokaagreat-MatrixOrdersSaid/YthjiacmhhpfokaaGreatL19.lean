/- Part 19 of the proof: RNorm. -/
import Derived.Test.YthjiacmhhpfokaaGreatL18
namespace Go.Proofs.YthjiacmhhpfokaaGreat
open Go.RowKit.Below renaming refl → bR
namespace Q
open Lib renaming hid → lh
set_option maxRecDepth 100000
set_option maxHeartbeats 4000000
open Go.RowKit
structure S1 (w wx : World) (s : Bool) (A : Option Addr) (n c : Nat) (t : Bool) (B : Option Addr) (m d : Nat) : Prop where
 bel : Below w.heap.size w wx
 i : Qbx wx w.heap.size s A n c t B m d
 o : Qbx wx (w.heap.size + 1) false none 0 0 false none 0 0
section
variable {w wx wy : World} {s t s' t' : Bool} {A B A' B' : Option Addr} {n c m d n' c' m' d' : Nat}
theorem S1.start (w : World) (s : Bool) (A : Option Addr) (n c : Nat) (t : Bool) (B : Option Addr) (m d : Nat) : S1 w ((w.alloc (.cells #[.bool s, .slice A n c, .bool t, .slice B m d] 27)).alloc (.cells #[.bool false, .slice none 0 0, .bool false, .slice none 0 0] 27)) s A n c t B m d :=
 ⟨((bR _ _).alloc (Nat.le_refl _) _).alloc (by simp) _, (Qbx.new _ _ rfl).alloc _, Qbx.new _ _ (by simp)⟩
theorem S1.below (h : S1 w wx s A n c t B m d) (hb : Below wx.heap.size wx wy) : S1 w wy s A n c t B m d := ⟨below_on h.bel hb, h.i.below hb, h.o.below hb⟩
theorem S1.alloc (h : S1 w wx s A n c t B m d) (o : Obj) : S1 w (wx.alloc o) s A n c t B m d := h.below ((bR _ _).alloc (Nat.le_refl _) o)
theorem S1.drew (h : S1 w wx s A n c t B m d) : S1 w wx.drew s A n c t B m d := h.below ((bR _ _).drew)
end
theorem oneq_zero (w : World) (c d : Nat) : OneQ w false none 0 c false none 0 d 0 := ⟨rfl, by show 0 = (dig 0).length; rw [dig_zero]; rfl, rfl, rfl, by show Num w none (dig 0); rw [dig_zero]; exact Num.nil _ _, Num.nil _ _, Nat.zero_le _, Nat.zero_le _⟩
theorem norm_q {w : World} {s t : Bool} {A B : Option Addr} {n c m d k : Nat} {q : Rat} (h : IsQ w s A n c t B m d q k) (hk : 1 ≤ k) (hk2 : k ≤ 3000) :
  Calls Tryz.prog 80 #[.agg #[.bool s, .slice A n c, .bool t, .slice B m d]] w (RetQ w q) := by
 have HS := lh (S1.start w s A n c t B m d)
 have HQ := lh ((h.alloc (.cells #[.bool s, .slice A n c, .bool t, .slice B m d] 27)).alloc (.cells #[.bool false, .slice none 0 0, .bool false, .slice none 0 0] 27))
 clear h
 go_enter Tryz.func80, Tryz.ntmps80
 go_wp2_with fail
 refine (parts_any _ s t A B n c m d k q HQ.out hk hk2).mono ?_
 rintro e w1 ⟨s1, A1, n1, c1, t1, B1, m1, d1, y, z, rfl, hy, hz, hzp, hq, hb1⟩
 have HS1 := lh (HS.out.below hb1)
 have HY1 := lh hy
 have HZ1 := lh hz
 have HQ1 := lh hq
 clear hy hz hq hb1 HS HQ
 obtain ⟨W, hW⟩ : ∃ W, (w1.alloc (.cells #[.bool s1, .slice A1 n1 c1] 25)).alloc (.cells #[.bool t1, .slice B1 m1 d1] 25) = W := ⟨_, rfl⟩
 have HI2 : Hid (Ibx W w1.heap.size s1 A1 n1 c1) := by rw [← hW]; exact (Ibx.new' _ _ _ _ _ _ rfl).alloc _
 have HJ2 : Hid (Ibx W (w1.heap.size + 1) t1 B1 m1 d1) := by rw [← hW]; exact Ibx.new' _ _ _ _ _ _ (by simp)
 have HS2 : Hid (S1 w W s A n c t B m d) := by rw [← hW]; exact (HS1.out.alloc _).alloc _
 have HY2 : Hid (IsZ W s1 A1 n1 c1 y k) := by rw [← hW]; exact (HY1.out.alloc _).alloc _
 have HZ2 : Hid (IsZ W t1 B1 m1 d1 z k) := by rw [← hW]; exact (HZ1.out.alloc _).alloc _
 have HLW : Hid (w.heap.size + 1 < w1.heap.size) := HS1.out.o.lt
 have hly := HY1.out.zl
 have hlz := HZ1.out.zl
 clear HS1 HY1 HZ1
 go_upto_region 2 with fail
 clear hW
 go_region_held3 (fun V => V.cell? ⟨w1.heap.size, 0, none⟩ = some (.bool s1) ∧ V.cell? ⟨w1.heap.size, 1, none⟩ = some (.slice A1 n1 c1) ∧ V.cell? ⟨w1.heap.size + 1, 0, none⟩ = some (.bool t1) ∧ V.cell? ⟨w1.heap.size + 1, 1, none⟩ = some (.slice B1 m1 d1))
  (first | (with_reducible exact ⟨(HI5.out.put4_far (by have := HLW.out; omega)).c0, (HI5.out.put4_far (by have := HLW.out; omega)).c1, (HJ5.out.put4_far (by have := HLW.out; omega)).c0, (HJ5.out.put4_far (by have := HLW.out; omega)).c1⟩) | (with_reducible exact ⟨HI5.out.c0, HI5.out.c1, HJ5.out.c0, HJ5.out.c1⟩) | (with_reducible exact ⟨HI4.out.c0, HI4.out.c1, HJ4.out.c0, HJ4.out.c1⟩) | (with_reducible exact ⟨HI3.out.c0, HI3.out.c1, HJ3.out.c0, HJ3.out.c1⟩) | (with_reducible exact ⟨HI2.out.drew.c0, HI2.out.drew.c1, HJ2.out.drew.c0, HJ2.out.drew.c1⟩))
  (first
  | (go_at_call 133; (refine (lowest_j HN4.out HD4.out (by omega) (by omega) hzp HQ1.out).mono ?_); rintro e w5 ⟨s5, A5, n5, c5, t5, B5, m5, d5, rfl, h5, hb5⟩; have HS5 := lh (HS4.out.below hb5); have HI5 := lh (HI4.out.below hb5); have HJ5 := lh (HJ4.out.below hb5); have HR5 := lh h5; have o0 := HS5.out.o.c0; have o1 := HS5.out.o.c1; have o2 := HS5.out.o.c2; have o3 := HS5.out.o.c3; have f0 := HS5.out.o.f 0; have f1 := HS5.out.o.f 1; have f2 := HS5.out.o.f 2; have f3 := HS5.out.o.f 3)
  | (go_at_call 134; (refine (norm_j HZ3.out hk2).mono ?_); rintro e w4 ⟨s4, A4, n4, c4, rfl, h4, hb4⟩; have HS4 := lh (HS3.out.below hb4); have HI4 := lh (HI3.out.below hb4); have HJ4 := lh (HJ3.out.below hb4); have HN4 := lh (HN3.out.below hb4); have HD4 := lh h4)
  | (go_at_call 134; (refine (norm_j HY2.out.drew hk2).mono ?_); rintro e w3 ⟨s3, A3, n3, c3, rfl, h3, hb3⟩; have HS3 := lh (HS2.out.drew.below hb3); have HI3 := lh (HI2.out.drew.below hb3); have HJ3 := lh (HJ2.out.drew.below hb3); have HZ3 := lh (HZ2.out.drew.below hb3); have HN3 := lh h3))
 all_goals
  go_wp2_with fail
  refine bodyPost_ret (v := .agg #[.bool s5, .slice A5 n5 c5, .bool t5, .slice B5 m5 d5]) (by simp [results, Tryz.results80, go_sem, o0, o1, o2, o3]) rfl ?_
  exact retq_put HR5.out HS5.out.o (by omega) HS5.out.bel
theorem IsZ.pair {w : World} {s t : Bool} {A B : Option Addr} {n c m d k : Nat} {y z : Int} (h1 : IsZ w s A n c y k) (h2 : IsZ w t B m d z k) (hz : z ≠ 0) : IsQ w s A n c t B m d (Rat.divInt y z) k := by
 obtain ⟨xs, e1, e2, e3⟩ := h1.ex
 obtain ⟨ys, g1, g2, g3⟩ := h2.ex
 refine ⟨⟨xs, ys, e1, g1, e2, g2, ?_⟩, h1.le, h2.le, h1.cap, h2.cap⟩
 unfold rden
 rw [if_neg, e3, g3]
 intro h
 apply hz
 rw [← g3, List.eq_nil_of_length_eq_zero h]
 exact zv_zero t
theorem make_q {w : World} {s t : Bool} {A B : Option Addr} {n c m d k : Nat} {y z : Int} (h1 : IsZ w s A n c y k) (h2 : IsZ w t B m d z k) (hk : 1 ≤ k) (hk2 : k ≤ 3000) (q : Rat) (hq : Rat.divInt y z = q) :
  Calls Tryz.prog 125 #[.agg #[.bool s, .slice A n c], .agg #[.bool t, .slice B m d]] w (RetQ w q) := by
 have HS := lh (SQ.start w s A n c t B m d)
 have HB := lh (((h2.alloc (.cells #[.bool s, .slice A n c] 25)).alloc (.cells #[.bool t, .slice B m d] 25)).alloc (.cells #[.bool false, .slice none 0 0, .bool false, .slice none 0 0] 27))
 by_cases hz : z = 0
 ·have HR : Hid (q = 0) := by show _ = _; rw [← hq, hz, Rat.divInt_zero]
  have HD : Hid (z.sign = 0) := by show _ = _; rw [hz]; rfl
  clear h1 h2 hq hz
  go_enter Tryz.func125, Tryz.ntmps125
  go_wp2_with fail
  refine (sign_j HB.out hk2 0 HD.out).mono ?_
  rintro e w1 ⟨rfl, hb1⟩
  have HS1 := lh (HS.out.below hb1)
  clear hb1
  have o0 := HS1.out.o.c0
  have o1 := HS1.out.o.c1
  have o2 := HS1.out.o.c2
  have o3 := HS1.out.o.c3
  have f0 := HS1.out.o.f 0
  have f1 := HS1.out.o.f 1
  have f2 := HS1.out.o.f 2
  have f3 := HS1.out.o.f 3
  go_wp2_with fail
  refine bodyPost_ret (v := .agg #[.bool false, .slice none 0 0, .bool false, .slice none 0 0]) (by simp [results, Tryz.results125, go_sem, o0, o1, o2, o3]) rfl ?_
  exact (by rw [HR.out]; exact retq_put (oneq_zero _ 0 0) HS1.out.o (by omega) HS1.out.bel)
 ·have HP := lh ((((h1.pair h2 hz).alloc (.cells #[.bool s, .slice A n c] 25)).alloc (.cells #[.bool t, .slice B m d] 25)).alloc (.cells #[.bool false, .slice none 0 0, .bool false, .slice none 0 0] 27))
  rw [hq] at HP
  obtain ⟨sg, hsg⟩ : ∃ sg, z.sign = sg := ⟨_, rfl⟩
  have HD := lh hsg
  have hs0 : (sg == 0) = false := by rw [beq_eq_false_iff_ne, ← hsg]; exact fun h => hz (Int.sign_eq_zero_iff_zero.1 h)
  clear h1 h2 hq hz hsg
  go_enter Tryz.func125, Tryz.ntmps125
  go_wp2_with fail
  refine (sign_j HB.out hk2 sg HD.out).mono ?_
  rintro e w1 ⟨rfl, hb1⟩
  have HS1 := lh (HS.out.below hb1)
  have HP1 := lh (HP.out.below hb1)
  clear hb1
  have k0 := HS1.out.i1.c0
  have k1 := HS1.out.i1.c1
  have k2 := HS1.out.i2.c0
  have k3 := HS1.out.i2.c1
  go_wp2_with fail
  refine (norm_q HP1.out hk hk2).mono ?_
  rintro e w2 ⟨s2, A2, n2, c2, t2, B2, m2, d2, rfl, h2, hb2⟩
  have HS2 := lh (HS1.out.below hb2)
  have HR2 := lh h2
  clear hb2 h2
  have o0 := HS2.out.o.c0
  have o1 := HS2.out.o.c1
  have o2 := HS2.out.o.c2
  have o3 := HS2.out.o.c3
  have f0 := HS2.out.o.f 0
  have f1 := HS2.out.o.f 1
  have f2 := HS2.out.o.f 2
  have f3 := HS2.out.o.f 3
  go_wp2_with fail
  refine bodyPost_ret (v := .agg #[.bool s2, .slice A2 n2 c2, .bool t2, .slice B2 m2 d2]) (by simp [results, Tryz.results125, go_sem, o0, o1, o2, o3]) rfl ?_
  exact retq_put HR2.out HS2.out.o (by omega) HS2.out.bel
structure S0 (w wx : World) : Prop where
 bel : Below w.heap.size w wx
 o : Qbx wx w.heap.size false none 0 0 false none 0 0
theorem S0.start (w : World) : S0 w (w.alloc (.cells #[.bool false, .slice none 0 0, .bool false, .slice none 0 0] 27)) := ⟨(bR _ _).alloc (Nat.le_refl _) _, Qbx.new _ _ rfl⟩
theorem S0.below {w wx wy : World} (h : S0 w wx) (hb : Below wx.heap.size wx wy) : S0 w wy := ⟨below_on h.bel hb, h.o.below hb⟩
theorem of_q (w : World) (y z : Int) (h1 : -9223372036854775808 ≤ y) (h2 : y ≤ 9223372036854775807) (h3 : -9223372036854775808 ≤ z) (h4 : z ≤ 9223372036854775807) (q : Rat) (hq : Rat.divInt y z = q) :
  Calls Tryz.prog 71 #[.int .i64 y, .int .i64 z] w (RetQ w q) := by
 have HS := lh (S0.start w)
 have HY : Hid (zl y ≤ 1) := zl_small h1 h2
 have HZ : Hid (zl z ≤ 1) := zl_small h3 h4
 have HO1 := lh (fun W => of_j W y h1 h2)
 have HO2 := lh (fun W => of_j W z h3 h4)
 have HQ := lh hq
 clear h1 h2 h3 h4 hq
 go_enter Tryz.func71, Tryz.ntmps71
 go_wp2_with fail
 refine (HO1.out _).mono ?_
 rintro e w1 ⟨s1, A1, n1, c1, rfl, h1, hb1⟩
 have HS1 := lh (HS.out.below hb1)
 have HN1 := lh h1
 clear h1 hb1
 go_wp2_with fail
 refine (HO2.out _).mono ?_
 rintro e w2 ⟨s2, A2, n2, c2, rfl, h2, hb2⟩
 have HS2 := lh (HS1.out.below hb2)
 have HN2 := lh (HN1.out.below hb2)
 have HD2 := lh h2
 clear h2 hb2
 go_wp2_with fail
 refine (make_q (HN2.out.isz HY.out) (HD2.out.isz HZ.out) (by omega) (by omega) q HQ.out).mono ?_
 rintro e w3 ⟨s3, A3, n3, c3, t3, B3, m3, d3, rfl, h3, hb3⟩
 have HS3 := lh (HS2.out.below hb3)
 have HR3 := lh h3
 clear h3 hb3
 have o0 := HS3.out.o.c0
 have o1 := HS3.out.o.c1
 have o2 := HS3.out.o.c2
 have o3 := HS3.out.o.c3
 have f0 := HS3.out.o.f 0
 have f1 := HS3.out.o.f 1
 have f2 := HS3.out.o.f 2
 have f3 := HS3.out.o.f 3
 go_wp2_with fail
 refine bodyPost_ret (v := .agg #[.bool s3, .slice A3 n3 c3, .bool t3, .slice B3 m3 d3]) (by simp [results, Tryz.results71, go_sem, o0, o1, o2, o3]) rfl ?_
 exact retq_put HR3.out HS3.out.o (by omega) HS3.out.bel
structure SW (w wx : World) (s : Bool) (A : Option Addr) (n c : Nat) : Prop where
 bel : Below w.heap.size w wx
 i : Ibx wx w.heap.size s A n c
 o : Qbx wx (w.heap.size + 1) false none 0 0 false none 0 0
theorem SW.below {w wx wy : World} {s : Bool} {A : Option Addr} {n c : Nat} (h : SW w wx s A n c) (hb : Below wx.heap.size wx wy) : SW w wy s A n c := ⟨below_on h.bel hb, h.i.below hb, h.o.below hb⟩
theorem wrap_signs (y z : Int) : IntKind.i64.wrap (y.sign * z.sign) = y.sign * z.sign := by
 have h1 : -1 ≤ y.sign ∧ y.sign ≤ 1 := by rcases Int.lt_trichotomy y 0 with h | h | h <;> first | (rw [Int.sign_eq_neg_one_of_neg h]; omega) | (rw [Int.sign_eq_one_of_pos h]; omega) | (subst h; decide)
 have h2 : -1 ≤ z.sign ∧ z.sign ≤ 1 := by rcases Int.lt_trichotomy z 0 with h | h | h <;> first | (rw [Int.sign_eq_neg_one_of_neg h]; omega) | (rw [Int.sign_eq_one_of_pos h]; omega) | (subst h; decide)
 have h3 : -1 ≤ y.sign * z.sign ∧ y.sign * z.sign ≤ 1 := by
  rcases (show y.sign = -1 ∨ y.sign = 0 ∨ y.sign = 1 by omega) with h | h | h <;> rw [h] <;> omega
 exact IntWalk.i64_in _ (by omega)
theorem sign_q {w : World} {s t : Bool} {A B : Option Addr} {n c m d k : Nat} {y : Rat} (h : IsQ w s A n c t B m d y k) (hk2 : k ≤ 3000) (r : Int) (hr : qsign y = r) :
  Calls Tryz.prog 84 #[.agg #[.bool s, .slice A n c, .bool t, .slice B m d]] w (RetI w r) := by
 obtain ⟨a, z, hy, hz, hq⟩ := h.two
 have HW : Hid (Below w.heap.size w (w.alloc (.cells #[.bool s, .slice A n c, .bool t, .slice B m d] 27))) := (bR _ _).alloc (Nat.le_refl _) _
 have HI : Hid (Qbx (w.alloc (.cells #[.bool s, .slice A n c, .bool t, .slice B m d] 27)) w.heap.size s A n c t B m d) := Qbx.new _ _ rfl
 have HY := lh (hy.alloc (.cells #[.bool s, .slice A n c, .bool t, .slice B m d] 27))
 have HZ := lh (hz.alloc (.cells #[.bool s, .slice A n c, .bool t, .slice B m d] 27))
 obtain ⟨sa, hsa⟩ : ∃ sa, a.sign = sa := ⟨_, rfl⟩
 have HSA := lh hsa
 by_cases hm : m = 0
 ·have hm0 : ¬ (0 : Int) < (m : Int) := by omega
  have HE : Hid (sa = r) := by show _ = _; rw [if_pos hm] at hq; rw [← hr, ← hq, sign_div, hsa]; show sa = sa * 1; rw [Int.mul_one]
  clear h hy hz hq hr hsa hm
  go_enter Tryz.func84, Tryz.ntmps84
  go_wp2_with fail
  refine (sign_j HY.out hk2 sa HSA.out).mono ?_
  rintro e w1 ⟨rfl, hb1⟩
  have HW1 := lh (below_on HW.out hb1)
  have HI1 := lh (HI.out.below hb1)
  clear hb1
  have k2 := HI1.out.c2
  have k3 := HI1.out.c3
  go_wp2_with fail
  go_ret
  rw [← HE.out]
  exact ⟨rfl, HW1.out⟩
 ·have hm0 : (0 : Int) < (m : Int) := by omega
  obtain ⟨sz, hsz⟩ : ∃ sz, z.sign = sz := ⟨_, rfl⟩
  have HSZ := lh hsz
  have hwr : IntKind.i64.wrap (sa * sz) = r := by rw [← hsa, ← hsz, wrap_signs, ← hr, ← hq, if_neg hm, sign_div]
  clear h hy hz hq hr hsa hsz hm
  go_enter Tryz.func84, Tryz.ntmps84
  go_wp2_with fail
  refine (sign_j HY.out hk2 sa HSA.out).mono ?_
  rintro e w1 ⟨rfl, hb1⟩
  have HW1 := lh (below_on HW.out hb1)
  have HI1 := lh (HI.out.below hb1)
  have HZ1 := lh (HZ.out.below hb1)
  clear hb1
  have k2 := HI1.out.c2
  have k3 := HI1.out.c3
  go_wp2_with fail
  refine (sign_j HZ1.out hk2 sz HSZ.out).mono ?_
  rintro e w2 ⟨rfl, hb2⟩
  have HW2 := lh (below_on HW1.out hb2)
  clear hb2
  go_wp2_with fail
  go_ret
  exact ⟨rfl, HW2.out⟩
