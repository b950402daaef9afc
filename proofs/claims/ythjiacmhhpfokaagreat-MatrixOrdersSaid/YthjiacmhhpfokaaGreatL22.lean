/- Part 22 of the proof: RAdd. -/
import Derived.Test.YthjiacmhhpfokaaGreatL20
namespace Go.Proofs.YthjiacmhhpfokaaGreat
open Nat renaming le_refl → lR, le_trans → lT
open Go.RowKit.Below renaming refl → bR
namespace Q
open Lib renaming hid → lh
set_option maxRecDepth 100000
set_option maxHeartbeats 8000000
open Go.RowKit
structure BS (w W : World) (g h e l : Nat) (s1 : Bool) (A1 : Option Addr) (n1 c1 : Nat) (s2 : Bool) (A2 : Option Addr) (n2 c2 : Nat) (s3 : Bool) (A3 : Option Addr) (n3 c3 : Nat) (s4 : Bool) (A4 : Option Addr) (n4 c4 : Nat) (s5 : Bool) (A5 : Option Addr) (n5 c5 : Nat) (x d y cm lf : Int) (k : Nat) : Prop where
 bel : Below w.heap.size w W
 o : Qbx W (w.heap.size + 1 + 1) false none 0 0 false none 0 0
 i1 : Ibx W g s1 A1 n1 c1
 i2 : Ibx W (g + 1) s2 A2 n2 c2
 i3 : Ibx W h s3 A3 n3 c3
 i4 : Ibx W e s4 A4 n4 c4
 i5 : Ibx W l s5 A5 n5 c5
 z1 : IsZ W s1 A1 n1 c1 x k
 z2 : IsZ W s2 A2 n2 c2 d k
 z3 : IsZ W s3 A3 n3 c3 y k
 z4 : IsZ W s4 A4 n4 c4 cm k
 z5 : IsZ W s5 A5 n5 c5 lf k
 hg : w.heap.size + 1 + 1 < g
 hh : w.heap.size + 1 + 1 < h
 he : w.heap.size + 1 + 1 < e
 hl : w.heap.size + 1 + 1 < l
section
variable {w W W' : World} {g h e l k p : Nat} {s1 s2 s3 s4 s5 s t : Bool} {A1 A2 A3 A4 A5 A B : Option Addr} {n1 c1 n2 c2 n3 c3 n4 c4 n5 c5 n c m u : Nat} {x d y cm lf : Int}
theorem BS.below (H : BS w W g h e l s1 A1 n1 c1 s2 A2 n2 c2 s3 A3 n3 c3 s4 A4 n4 c4 s5 A5 n5 c5 x d y cm lf k) (hb : Below W.heap.size W W') : BS w W' g h e l s1 A1 n1 c1 s2 A2 n2 c2 s3 A3 n3 c3 s4 A4 n4 c4 s5 A5 n5 c5 x d y cm lf k :=
 ⟨below_on H.bel hb, H.o.below hb, H.i1.below hb, H.i2.below hb, H.i3.below hb, H.i4.below hb, H.i5.below hb, H.z1.below hb, H.z2.below hb, H.z3.below hb, H.z4.below hb, H.z5.below hb, H.hg, H.hh, H.he, H.hl⟩
theorem BS.alloc (H : BS w W g h e l s1 A1 n1 c1 s2 A2 n2 c2 s3 A3 n3 c3 s4 A4 n4 c4 s5 A5 n5 c5 x d y cm lf k) (o : Obj) : BS w (W.alloc o) g h e l s1 A1 n1 c1 s2 A2 n2 c2 s3 A3 n3 c3 s4 A4 n4 c4 s5 A5 n5 c5 x d y cm lf k := H.below ((bR _ _).alloc (lR _) o)
theorem BS.drew (H : BS w W g h e l s1 A1 n1 c1 s2 A2 n2 c2 s3 A3 n3 c3 s4 A4 n4 c4 s5 A5 n5 c5 x d y cm lf k) : BS w W.drew g h e l s1 A1 n1 c1 s2 A2 n2 c2 s3 A3 n3 c3 s4 A4 n4 c4 s5 A5 n5 c5 x d y cm lf k := H.below ((bR _ _).drew)
theorem BS.keep (H : BS w W g h e l s1 A1 n1 c1 s2 A2 n2 c2 s3 A3 n3 c3 s4 A4 n4 c4 s5 A5 n5 c5 x d y cm lf k) : W.cell? ⟨g, 0, none⟩ = some (.bool s1) ∧ W.cell? ⟨g, 1, none⟩ = some (.slice A1 n1 c1) ∧ W.cell? ⟨g + 1, 0, none⟩ = some (.bool s2) ∧ W.cell? ⟨g + 1, 1, none⟩ = some (.slice A2 n2 c2) ∧ W.cell? ⟨h, 0, none⟩ = some (.bool s3) ∧ W.cell? ⟨h, 1, none⟩ = some (.slice A3 n3 c3) ∧ W.cell? ⟨e, 0, none⟩ = some (.bool s4) ∧ W.cell? ⟨e, 1, none⟩ = some (.slice A4 n4 c4) ∧ W.cell? ⟨l, 0, none⟩ = some (.bool s5) ∧ W.cell? ⟨l, 1, none⟩ = some (.slice A5 n5 c5) :=
 ⟨H.i1.c0, H.i1.c1, H.i2.c0, H.i2.c1, H.i3.c0, H.i3.c1, H.i4.c0, H.i4.c1, H.i5.c0, H.i5.c1⟩
theorem BS.young (H : BS w W g h e l s1 A1 n1 c1 s2 A2 n2 c2 s3 A3 n3 c3 s4 A4 n4 c4 s5 A5 n5 c5 x d y cm lf k) (b : Box W p) (h1 : g ≠ p) (h2 : g + 1 ≠ p) (h3 : h ≠ p) (h4 : e ≠ p) (h5 : l ≠ p) (h6 : w.heap.size + 1 + 1 < p) : BS w (Q.put2 W p s A n c) g h e l s1 A1 n1 c1 s2 A2 n2 c2 s3 A3 n3 c3 s4 A4 n4 c4 s5 A5 n5 c5 x d y cm lf k :=
 ⟨below_put2 H.bel (by omega), H.o.put2_far (by omega), H.i1.put_far h1, H.i2.put_far h2, H.i3.put_far h3, H.i4.put_far h4, H.i5.put_far h5, H.z1.on2 b, H.z2.on2 b, H.z3.on2 b, H.z4.on2 b, H.z5.on2 b, H.hg, H.hh, H.he, H.hl⟩
theorem BS.lts (H : BS w W g h e l s1 A1 n1 c1 s2 A2 n2 c2 s3 A3 n3 c3 s4 A4 n4 c4 s5 A5 n5 c5 x d y cm lf k) : g < W.heap.size ∧ g + 1 < W.heap.size ∧ h < W.heap.size ∧ e < W.heap.size ∧ l < W.heap.size ∧ w.heap.size + 1 + 1 < W.heap.size := ⟨H.i1.lt, H.i2.lt, H.i3.lt, H.i4.lt, H.i5.lt, H.o.lt⟩
theorem BS.youngS (H : BS w W g h e l s1 A1 n1 c1 s2 A2 n2 c2 s3 A3 n3 c3 s4 A4 n4 c4 s5 A5 n5 c5 x d y cm lf k) {X : World} (HX : BS w X g h e l s1 A1 n1 c1 s2 A2 n2 c2 s3 A3 n3 c3 s4 A4 n4 c4 s5 A5 n5 c5 x d y cm lf k) (b : Box W X.heap.size) : BS w (Q.put2 W X.heap.size s A n c) g h e l s1 A1 n1 c1 s2 A2 n2 c2 s3 A3 n3 c3 s4 A4 n4 c4 s5 A5 n5 c5 x d y cm lf k := by
 have := HX.lts
 exact H.young b (by omega) (by omega) (by omega) (by omega) (by omega) (by omega)
end
theorem new_box (W : World) : Ibx (W.alloc (.cells #[.bool false, .slice none 0 0] 25)) W.heap.size false none 0 0 := Ibx.new' _ _ _ _ _ _ rfl
theorem both_add_q {w : World} {s t s' t' : Bool} {A B A' B' : Option Addr} {n c m d n' c' m' d' k : Nat} {p r : Rat} (h1 : IsQ w s A n c t B m d p k) (h2 : IsQ w s' A' n' c' t' B' m' d' r k) (hk : 1 ≤ k) (hk2 : k ≤ 700) (q : Rat) (hq : p + r = q) :
  Calls Tryz.prog 135 #[.agg #[.bool s, .slice A n c, .bool t, .slice B m d], .agg #[.bool s', .slice A' n' c', .bool t', .slice B' m' d'], .func (.func 136) #[] #[]] w (RetQ w q) := by
 have HS := lh (S2.start w s A n c t B m d s' A' n' c' t' B' m' d')
 have HP := lh (((h1.alloc (.cells #[.bool s, .slice A n c, .bool t, .slice B m d] 27)).alloc (.cells #[.bool s', .slice A' n' c', .bool t', .slice B' m' d'] 27)).alloc (.cells #[.bool false, .slice none 0 0, .bool false, .slice none 0 0] 27))
 have HR := lh (((h2.alloc (.cells #[.bool s, .slice A n c, .bool t, .slice B m d] 27)).alloc (.cells #[.bool s', .slice A' n' c', .bool t', .slice B' m' d'] 27)).alloc (.cells #[.bool false, .slice none 0 0, .bool false, .slice none 0 0] 27))
 have HQ := lh hq
 by_cases hm : m = 0
 ·have e1 : ((m : Int) == 0) = true := by rw [hm]; rfl
  by_cases hm' : m' = 0
  ·have e2 : ((m' : Int) == 0) = true := by rw [hm']; rfl
   obtain ⟨a, z, hy, hz, hqq⟩ := h1.two
   obtain ⟨a2, z2, hy2, hz2, hqq2⟩ := h2.two
   rw [if_pos hm] at hqq
   rw [if_pos hm'] at hqq2
   obtain ⟨N, hN⟩ : ∃ N : Int, a + a2 = N := ⟨_, rfl⟩
   have hNq : q = (N : Rat) := by rw [← hq, ← hqq, ← hqq2, ← hN, div_one, div_one]; simp [Rat.intCast_add]
   have HQ1 : Hid (N = q.num) := by show _ = _; rw [hNq]; rfl
   have HQ2 : Hid (q.den = 1) := by show _ = _; rw [hNq]; rfl
   have HY := lh (((hy.alloc (.cells #[.bool s, .slice A n c, .bool t, .slice B m d] 27)).alloc (.cells #[.bool s', .slice A' n' c', .bool t', .slice B' m' d'] 27)).alloc (.cells #[.bool false, .slice none 0 0, .bool false, .slice none 0 0] 27))
   have HY2 := lh (((hy2.alloc (.cells #[.bool s, .slice A n c, .bool t, .slice B m d] 27)).alloc (.cells #[.bool s', .slice A' n' c', .bool t', .slice B' m' d'] 27)).alloc (.cells #[.bool false, .slice none 0 0, .bool false, .slice none 0 0] 27))
   have HN := lh hN
   clear h1 h2 hq hm hm' hy hz hqq hy2 hz2 hqq2 hN hNq HP HR
   go_enter Tryz.func135, Tryz.ntmps135
   go_wp2_with fail
   refine (do_add_j HY.out HY2.out (by omega) N HN.out).mono ?_
   rintro e w1 ⟨s1, A1, n1, c1, rfl, h1, hb1⟩
   rw [HQ1.out] at h1
   have HS1 := lh (HS.out.below hb1)
   have HR1 := lh h1
   clear h1 hb1
   have o0 := HS1.out.o.c0
   have o1 := HS1.out.o.c1
   have o2 := HS1.out.o.c2
   have o3 := HS1.out.o.c3
   have f0 := HS1.out.o.f 0
   have f1 := HS1.out.o.f 1
   have f2 := HS1.out.o.f 2
   have f3 := HS1.out.o.f 3
   go_wp2_with fail
   refine bodyPost_ret (v := .agg #[.bool s1, .slice A1 n1 c1, .bool false, .slice none 0 0]) (by simp [results, Tryz.results135, go_sem, o0, o1, o2, o3]) rfl ?_
   exact retq_put (oneq_one HR1.out HQ2.out 0) HS1.out.o (by omega) HS1.out.bel
  ·have e2 : ((m' : Int) == 0) = false := by rw [beq_eq_false_iff_ne]; omega
   clear h1 h2 hq hm hm'
   go_enter Tryz.func135, Tryz.ntmps135
   go_wp2_with fail
   refine (parts_any _ s t A B n c m d k p HP.out hk (by omega)).mono ?_
   rintro e w1 ⟨s1, A1, n1, c1, s2, A2, n2, c2, x, dx, rfl, hx, hdx, hdp, hqp, hb1⟩
   have HS1 := lh (HS.out.below hb1)
   have HX1 := lh hx
   have HDX1 := lh hdx
   have HR1 := lh (HR.out.below hb1)
   clear hx hdx hb1 HS HP HR
   obtain ⟨V, hV⟩ : ∃ V, (w1.alloc (.cells #[.bool s1, .slice A1 n1 c1] 25)).alloc (.cells #[.bool s2, .slice A2 n2 c2] 25) = V := ⟨_, rfl⟩
   have HV : Hid (Below w1.heap.size w1 V) := by rw [← hV]; exact ((bR _ _).alloc (lR _) _).alloc (by simp) _
   have HI1 : Hid (Ibx V w1.heap.size s1 A1 n1 c1) := by rw [← hV]; exact (Ibx.new' _ _ _ _ _ _ rfl).alloc _
   have HJ1 : Hid (Ibx V (w1.heap.size + 1) s2 A2 n2 c2) := by rw [← hV]; exact Ibx.new' _ _ _ _ _ _ (by simp)
   have HS2 := lh (HS1.out.below HV.out)
   have HX2 := lh (HX1.out.below HV.out)
   have HDX2 := lh (HDX1.out.below HV.out)
   have HR2 := lh (HR1.out.below HV.out)
   have HLW : Hid (w.heap.size + 1 + 1 < w1.heap.size) := HS1.out.o.lt
   have k0 := HS2.out.i2.c0
   have k1 := HS2.out.i2.c1
   have k2 := HS2.out.i2.c2
   have k3 := HS2.out.i2.c3
   clear HS1 HX1 HDX1 HR1 HV
   go_wp2_with fail
   refine (parts_any _ s' t' A' B' n' c' m' d' k r HR2.out hk (by omega)).mono ?_
   rintro e w2 ⟨s3, A3, n3, c3, s4, A4, n4, c4, y, ey, rfl, hy, hey, hep, hqr, hb2⟩
   clear hV
   have HS3 := lh (HS2.out.below hb2)
   have HI3 := lh (HI1.out.below hb2)
   have HJ3 := lh (HJ1.out.below hb2)
   have HX3 := lh (HX2.out.below hb2)
   have HDX3 := lh (HDX2.out.below hb2)
   have HY3 := lh hy
   have HEY3 := lh hey
   have HLW2 : Hid (w.heap.size + 1 + 1 < w2.heap.size) := HS3.out.o.lt
   clear hy hey hb2 HS2 HI1 HJ1 HX2 HDX2 HR2 k0 k1 k2 k3
   obtain ⟨W, hW⟩ : ∃ W, (w2.alloc (.cells #[.bool s3, .slice A3 n3 c3] 25)).alloc (.cells #[.bool s4, .slice A4 n4 c4] 25) = W := ⟨_, rfl⟩
   have HV : Hid (Below w2.heap.size w2 W) := by rw [← hW]; exact ((bR _ _).alloc (lR _) _).alloc (by simp) _
   have HI4 : Hid (Ibx W w2.heap.size s3 A3 n3 c3) := by rw [← hW]; exact (Ibx.new' _ _ _ _ _ _ rfl).alloc _
   have HJ4 : Hid (Ibx W (w2.heap.size + 1) s4 A4 n4 c4) := by rw [← hW]; exact Ibx.new' _ _ _ _ _ _ (by simp)
   have HS := lh (HS3.out.below HV.out)
   have HD : Hid (D4 W w1.heap.size w2.heap.size s1 A1 n1 c1 s2 A2 n2 c2 s3 A3 n3 c3 s4 A4 n4 c4 x dx y ey k) := ⟨HI3.out.below HV.out, HJ3.out.below HV.out, HI4.out, HJ4.out, HX3.out.below HV.out, HDX3.out.below HV.out, HY3.out.below HV.out, HEY3.out.below HV.out⟩
   have HQP := lh hqp
   have HQR := lh hqr
   clear HS3 HI3 HJ3 HI4 HJ4 HX3 HDX3 HY3 HEY3 HV hqp hqr
   obtain ⟨hg1, hg2, hg3, hg4⟩ := gcd_parts hdp hep
   obtain ⟨cm, hcm⟩ : ∃ cm : Int, ((Nat.gcd dx.natAbs ey.natAbs : Nat) : Int) = cm := ⟨_, rfl⟩
   rw [hcm] at hg1 hg2 hg3 hg4
   obtain ⟨lf, hlf⟩ : ∃ lf : Int, ey / cm = lf := ⟨_, rfl⟩
   obtain ⟨sd, hsd⟩ : ∃ sd : Int, dx / cm = sd := ⟨_, rfl⟩
   rw [hlf] at hg1 hg3
   rw [hsd] at hg2 hg4
   have HCM := lh hcm
   have HLF := lh hlf
   have HSD := lh hsd
   have hll : zl lf ≤ k := by rw [← hlf]; exact lT (zl_quo _ _) HD.out.z4.zl
   have hcl : zl cm ≤ k := by
    rw [← hcm]
    refine lT ?_ HD.out.z2.zl
    unfold zl
    rw [Int.natAbs_natCast]
    exact dl_le (Nat.gcd_le_left _ (by omega))
   have hsl : zl sd ≤ k := by rw [← hsd]; exact lT (zl_quo _ _) HD.out.z2.zl
   have HLL := lh hll
   have HCL := lh hcl
   have HSL := lh hsl
   obtain ⟨N1, hN1⟩ : ∃ N1, x * lf = N1 := ⟨_, rfl⟩
   obtain ⟨N2, hN2⟩ : ∃ N2, y * sd = N2 := ⟨_, rfl⟩
   obtain ⟨N, hN⟩ : ∃ N, N1 + N2 = N := ⟨_, rfl⟩
   obtain ⟨M, hM⟩ : ∃ M, dx * lf = M := ⟨_, rfl⟩
   have hN1l : zl N1 ≤ 1400 := by rw [← hN1]; have h1 := zl_mul x lf; have h2 := HD.out.z1.zl; omega
   have hN2l : zl N2 ≤ 1400 := by rw [← hN2]; have h1 := zl_mul y sd; have h2 := HD.out.z3.zl; omega
   have hNl : zl N ≤ 3000 := by rw [← hN]; have h1 := zl_add N1 N2; omega
   have hMl : zl M ≤ 3000 := by rw [← hM]; have h1 := zl_mul dx lf; have h2 := HD.out.z2.zl; omega
   have HN1L := lh hN1l
   have HN2L := lh hN2l
   have HNL := lh hNl
   have HML := lh hMl
   have hMp : 0 < M := by rw [← hM]; exact Int.mul_pos hdp hg3
   have HE : Hid (Rat.divInt N M = q) := by
    show _ = _
    rw [← HQ.out, ← HQP.out, ← HQR.out, ← hN, ← hM, ← hN1, ← hN2]
    exact both_add hdp hep hg1 hg2 hg3
   have HN1 := lh hN1
   have HN2 := lh hN2
   have HN := lh hN
   have HM := lh hM
   clear hcm hlf hsd hll hcl hsl hN1 hN2 hN hM hN1l hN2l hNl hMl hg1 hg2
   have k0 := HD.out.i2.c0
   have k1 := HD.out.i2.c1
   have k2 := HD.out.i4.c0
   have k3 := HD.out.i4.c1
   go_wp2_with fail
   refine (gcd_j HD.out.z2 HD.out.z4 (by omega) cm HCM.out).mono ?_
   rintro e w3 ⟨s5, A5, n5, c5, rfl, h5, hb5⟩
   clear hW k0 k1 k2 k3
   have HS3 := lh (HS.out.below hb5)
   have HD3 := lh (HD.out.below hb5)
   have HC3 := lh (h5.isz HCL.out)
   have HLW3 : Hid (w.heap.size + 1 + 1 < w3.heap.size) := HS3.out.o.lt
   clear h5 hb5 HS HD
   obtain ⟨V, hV⟩ : ∃ V, w3.alloc (.cells #[.bool s5, .slice A5 n5 c5] 25) = V := ⟨_, rfl⟩
   have HS4 : Hid (S2 w V s A n c t B m d s' A' n' c' t' B' m' d') := by rw [← hV]; exact HS3.out.alloc _
   have HD4 : Hid (D4 V w1.heap.size w2.heap.size s1 A1 n1 c1 s2 A2 n2 c2 s3 A3 n3 c3 s4 A4 n4 c4 x dx y ey k) := by rw [← hV]; exact HD3.out.alloc _
   have HC4 : Hid (IsZ V s5 A5 n5 c5 cm k) := by rw [← hV]; exact HC3.out.alloc _
   have HI4 : Hid (Ibx V w3.heap.size s5 A5 n5 c5) := by rw [← hV]; exact Ibx.new' _ _ _ _ _ _ rfl
   clear HS3 HD3 HC3
   have k0 := HD4.out.i4.c0
   have k1 := HD4.out.i4.c1
   have k2 := HI4.out.c0
   have k3 := HI4.out.c1
   go_wp2_with fail
   refine (share_i HD4.out.z4 HC4.out (by omega) lf HLF.out).mono ?_
   rintro e w4 ⟨s6, A6, n6, c6, rfl, h6, hb6⟩
   clear hV k0 k1 k2 k3
   have HS5 := lh (HS4.out.below hb6)
   have HD5 := lh (HD4.out.below hb6)
   have HC5 := lh (HC4.out.below hb6)
   have HI5 := lh (HI4.out.below hb6)
   have HL5 := lh h6
   clear h6 hb6 HS4 HD4 HC4 HI4
   obtain ⟨U, hU⟩ : ∃ U, w4.alloc (.cells #[.bool s6, .slice A6 n6 c6] 25) = U := ⟨_, rfl⟩
   have HB : Hid (BS w U w1.heap.size w2.heap.size w3.heap.size w4.heap.size s1 A1 n1 c1 s2 A2 n2 c2 s3 A3 n3 c3 s5 A5 n5 c5 s6 A6 n6 c6 x dx y cm lf k) := by
    rw [← hU]
    exact ⟨HS5.out.bel.alloc HS5.out.bel.size _, HS5.out.o.alloc _, HD5.out.i1.alloc _, HD5.out.i2.alloc _, HD5.out.i3.alloc _, HI5.out.alloc _, Ibx.new' _ _ _ _ _ _ rfl, HD5.out.z1.alloc _, HD5.out.z2.alloc _, HD5.out.z3.alloc _, HC5.out.alloc _, HL5.out.alloc _, HLW.out, HLW2.out, HLW3.out, HS5.out.o.lt⟩
   have HG1 : Hid (w1.heap.size < w4.heap.size) := HD5.out.i1.lt
   have HG2 : Hid (w1.heap.size + 1 < w4.heap.size) := HD5.out.i2.lt
   have HG3 : Hid (w2.heap.size < w4.heap.size) := HD5.out.i3.lt
   have HG4 : Hid (w3.heap.size < w4.heap.size) := HI5.out.lt
   clear HS5 HD5 HC5 HI5 HL5
   go_upto_region 7 with fail
   clear hU
   go_cut [13] (fun s13 wx => ∃ (b : Nat) (s9 : Bool) (A9 : Option Addr) (n9 c9 : Nat), s13 = .pointer (some ⟨b, 0, none⟩) ∧ Hid (w.heap.size + 1 + 1 < b) ∧ Hid (BS w wx w1.heap.size w2.heap.size w3.heap.size w4.heap.size s1 A1 n1 c1 s2 A2 n2 c2 s3 A3 n3 c3 s5 A5 n5 c5 s6 A6 n6 c6 x dx y cm lf k) ∧ Hid (Ibx wx b s9 A9 n9 c9) ∧ Hid (OneZ wx s9 A9 n9 c9 N))
   case first =>
    go_region_held3 (fun V => V.cell? ⟨w1.heap.size, 0, none⟩ = some (.bool s1) ∧ V.cell? ⟨w1.heap.size, 1, none⟩ = some (.slice A1 n1 c1) ∧ V.cell? ⟨w1.heap.size + 1, 0, none⟩ = some (.bool s2) ∧ V.cell? ⟨w1.heap.size + 1, 1, none⟩ = some (.slice A2 n2 c2) ∧ V.cell? ⟨w2.heap.size, 0, none⟩ = some (.bool s3) ∧ V.cell? ⟨w2.heap.size, 1, none⟩ = some (.slice A3 n3 c3) ∧ V.cell? ⟨w3.heap.size, 0, none⟩ = some (.bool s5) ∧ V.cell? ⟨w3.heap.size, 1, none⟩ = some (.slice A5 n5 c5) ∧ V.cell? ⟨w4.heap.size, 0, none⟩ = some (.bool s6) ∧ V.cell? ⟨w4.heap.size, 1, none⟩ = some (.slice A6 n6 c6))
     (first | (with_reducible exact (HBD.out.youngS HB.out J.out.bx).keep) | (with_reducible exact (HBD.out.youngS HBA.out J.out.bx).keep) | (with_reducible exact (HBD.out.youngS HBB.out J.out.bx).keep) | (with_reducible exact (HBD.out.youngS HBC.out J.out.bx).keep) | (with_reducible exact (HBD.out.alloc _).keep) | (with_reducible exact HBD.out.keep) | (with_reducible exact (HBC.out.alloc _).keep) | (with_reducible exact HBC.out.keep) | (with_reducible exact (HBB.out.alloc _).keep) | (with_reducible exact HBB.out.keep) | (with_reducible exact (HBA.out.alloc _).keep) | (with_reducible exact HBA.out.keep) | (with_reducible exact (HB.out.alloc _).drew.keep) | (with_reducible exact HB.out.drew.keep))
     (first
     | (go_at_call 136; (first | (with_reducible refine (do_add_j (HAC.out.isz HN1L.out) (HCC.out.isz HN2L.out) (by omega) N HN.out).mono ?_) | (with_reducible refine (do_add_j ((HAC.out.alloc _).isz HN1L.out) ((HCC.out.alloc _).isz HN2L.out) (by omega) N HN.out).mono ?_)); rintro e wD ⟨sD, AD, nD, cD, rfl, hD, hbD⟩; (first | have HBD := lh (HBC.out.below hbD) | have HBD := lh ((HBC.out.alloc _).below hbD)); (first | have J := lh (J.out.below hbD) | have J := lh ((new_box wC).below hbD) | skip); have HOD := lh hD; (first | (have g0 := J.out.c0; have g1 := J.out.c1; have fg0 := J.out.f 0; have fg1 := J.out.f 1) | skip))
     | (go_at_call 141; (first | (with_reducible refine (mul_j HBB.out.z3 HSB.out (by omega)).mono ?_) | (with_reducible refine (mul_j (HBB.out.alloc _).z3 (HSB.out.alloc _) (by omega)).mono ?_)); rintro e wC ⟨sC, AC, nC, cC, rfl, hC, hbC⟩; rw [HN2.out] at hC; (first | have HBC := lh (HBB.out.below hbC) | have HBC := lh ((HBB.out.alloc _).below hbC)); (first | have HAC := lh (HAB.out.below hbC) | have HAC := lh ((HAB.out.alloc _).below hbC)); (first | have J := lh (J.out.below hbC) | have J := lh ((new_box wB).below hbC) | skip); have HCC := lh hC)
     | (go_at_call 171; (first | (with_reducible refine (share_i HBA.out.z2 HBA.out.z4 (by omega) sd HSD.out).mono ?_) | (with_reducible refine (share_i (HBA.out.alloc _).z2 (HBA.out.alloc _).z4 (by omega) sd HSD.out).mono ?_)); rintro e wB ⟨sB, AB, nB, cB, rfl, hB, hbB⟩; (first | have HBB := lh (HBA.out.below hbB) | have HBB := lh ((HBA.out.alloc _).below hbB)); (first | have HAB := lh (HAA.out.below hbB) | have HAB := lh ((HAA.out.alloc _).below hbB)); (first | have J := lh (J.out.below hbB) | have J := lh ((new_box wA).below hbB) | skip); have HSB := lh hB)
     | (go_at_call 141; (first | (with_reducible refine (mul_j HB.out.drew.z1 HB.out.drew.z5 (by omega)).mono ?_) | (with_reducible refine (mul_j (HB.out.alloc _).drew.z1 (HB.out.alloc _).drew.z5 (by omega)).mono ?_)); rintro e wA ⟨sA, AA, nA, cA, rfl, hA, hbA⟩; rw [HN1.out] at hA; (first | have HBA := lh (HB.out.drew.below hbA) | have HBA := lh ((HB.out.alloc _).drew.below hbA)); (first | have J := lh ((new_box U).drew.below hbA) | skip); have HAA := lh hA))
    all_goals
     go_wp2_with fail
     go_meet
     first
      | exact ⟨wD.heap.size, sD, AD, nD, cD, rfl, HBD.out.lts.2.2.2.2.2, HBD.out.alloc _, Ibx.new' _ _ _ _ _ _ rfl, HOD.out.alloc _⟩
      | exact ⟨U.heap.size, sD, AD, nD, cD, rfl, HB.out.lts.2.2.2.2.2, HBD.out.youngS HB.out J.out.bx, J.out.put, HOD.out.on2 J.out.bx⟩
      | exact ⟨wA.heap.size, sD, AD, nD, cD, rfl, HBA.out.lts.2.2.2.2.2, HBD.out.youngS HBA.out J.out.bx, J.out.put, HOD.out.on2 J.out.bx⟩
      | exact ⟨wB.heap.size, sD, AD, nD, cD, rfl, HBB.out.lts.2.2.2.2.2, HBD.out.youngS HBB.out J.out.bx, J.out.put, HOD.out.on2 J.out.bx⟩
      | exact ⟨wC.heap.size, sD, AD, nD, cD, rfl, HBC.out.lts.2.2.2.2.2, HBD.out.youngS HBC.out J.out.bx, J.out.put, HOD.out.on2 J.out.bx⟩
   case rest =>
    clear HB
    obtain ⟨b, s9, A9, n9, c9, rfl, hb, HB, HI, HO⟩ := hcut
    go_upto_region 8 with fail
    go_region_held3 (fun V => V.cell? ⟨b, 0, none⟩ = some (.bool s9) ∧ V.cell? ⟨b, 1, none⟩ = some (.slice A9 n9 c9) ∧ V.cell? ⟨w1.heap.size + 1, 0, none⟩ = some (.bool s2) ∧ V.cell? ⟨w1.heap.size + 1, 1, none⟩ = some (.slice A2 n2 c2) ∧ V.cell? ⟨w4.heap.size, 0, none⟩ = some (.bool s6) ∧ V.cell? ⟨w4.heap.size, 1, none⟩ = some (.slice A6 n6 c6))
     (first | (with_reducible exact ⟨(HIF.out.put4_far (by have := hb.out; omega)).c0, (HIF.out.put4_far (by have := hb.out; omega)).c1, (HBF.out.i2.put4_far (by have := HBF.out.hg; omega)).c0, (HBF.out.i2.put4_far (by have := HBF.out.hg; omega)).c1, (HBF.out.i5.put4_far (by have := HBF.out.hl; omega)).c0, (HBF.out.i5.put4_far (by have := HBF.out.hl; omega)).c1⟩) | (with_reducible exact ⟨HIF.out.c0, HIF.out.c1, HBF.out.i2.c0, HBF.out.i2.c1, HBF.out.i5.c0, HBF.out.i5.c1⟩) | (with_reducible exact ⟨HIE.out.c0, HIE.out.c1, HBE.out.i2.c0, HBE.out.i2.c1, HBE.out.i5.c0, HBE.out.i5.c1⟩) | (with_reducible exact ⟨HI.out.drew.c0, HI.out.drew.c1, HB.out.drew.i2.c0, HB.out.drew.i2.c1, HB.out.drew.i5.c0, HB.out.drew.i5.c1⟩))
     (first
     | (go_at_call 133; (with_reducible refine (lowest_j HOE.out HME.out HNL.out HML.out hMp HE.out).mono ?_); rintro e wF ⟨sF, AF, nF, cF, tF, BF, mF, dF, rfl, hF, hbF⟩; have HBF := lh (HBE.out.below hbF); have HIF := lh (HIE.out.below hbF); have HRF := lh hF; have o0 := HBF.out.o.c0; have o1 := HBF.out.o.c1; have o2 := HBF.out.o.c2; have o3 := HBF.out.o.c3; have f0 := HBF.out.o.f 0; have f1 := HBF.out.o.f 1; have f2 := HBF.out.o.f 2; have f3 := HBF.out.o.f 3)
     | (go_at_call 141; (with_reducible refine (mul_j HB.out.drew.z2 HB.out.drew.z5 (by omega)).mono ?_); rintro e wE ⟨sE, AE, nE, cE, rfl, hE, hbE⟩; rw [HM.out] at hE; have HBE := lh (HB.out.drew.below hbE); have HIE := lh (HI.out.drew.below hbE); have HOE := lh (HO.out.drew.below hbE); have HME := lh hE))
    all_goals
     go_wp2_with fail
     refine bodyPost_ret (v := .agg #[.bool sF, .slice AF nF cF, .bool tF, .slice BF mF dF]) (by simp [results, Tryz.results135, go_sem, o0, o1, o2, o3]) rfl ?_
     exact retq_put HRF.out HBF.out.o (by omega) HBF.out.bel
 ·have e1 : ((m : Int) == 0) = false := by rw [beq_eq_false_iff_ne]; omega
  clear h1 h2 hq hm
  go_enter Tryz.func135, Tryz.ntmps135
  go_wp2_with fail
  refine (parts_any _ s t A B n c m d k p HP.out hk (by omega)).mono ?_
  rintro e w1 ⟨s1, A1, n1, c1, s2, A2, n2, c2, x, dx, rfl, hx, hdx, hdp, hqp, hb1⟩
  have HS1 := lh (HS.out.below hb1)
  have HX1 := lh hx
  have HDX1 := lh hdx
  have HR1 := lh (HR.out.below hb1)
  clear hx hdx hb1 HS HP HR
  obtain ⟨V, hV⟩ : ∃ V, (w1.alloc (.cells #[.bool s1, .slice A1 n1 c1] 25)).alloc (.cells #[.bool s2, .slice A2 n2 c2] 25) = V := ⟨_, rfl⟩
  have HV : Hid (Below w1.heap.size w1 V) := by rw [← hV]; exact ((bR _ _).alloc (lR _) _).alloc (by simp) _
  have HI1 : Hid (Ibx V w1.heap.size s1 A1 n1 c1) := by rw [← hV]; exact (Ibx.new' _ _ _ _ _ _ rfl).alloc _
  have HJ1 : Hid (Ibx V (w1.heap.size + 1) s2 A2 n2 c2) := by rw [← hV]; exact Ibx.new' _ _ _ _ _ _ (by simp)
  have HS2 := lh (HS1.out.below HV.out)
  have HX2 := lh (HX1.out.below HV.out)
  have HDX2 := lh (HDX1.out.below HV.out)
  have HR2 := lh (HR1.out.below HV.out)
  have HLW : Hid (w.heap.size + 1 + 1 < w1.heap.size) := HS1.out.o.lt
  have k0 := HS2.out.i2.c0
  have k1 := HS2.out.i2.c1
  have k2 := HS2.out.i2.c2
  have k3 := HS2.out.i2.c3
  clear HS1 HX1 HDX1 HR1 HV
  go_wp2_with fail
  refine (parts_any _ s' t' A' B' n' c' m' d' k r HR2.out hk (by omega)).mono ?_
  rintro e w2 ⟨s3, A3, n3, c3, s4, A4, n4, c4, y, ey, rfl, hy, hey, hep, hqr, hb2⟩
  clear hV
  have HS3 := lh (HS2.out.below hb2)
  have HI3 := lh (HI1.out.below hb2)
  have HJ3 := lh (HJ1.out.below hb2)
  have HX3 := lh (HX2.out.below hb2)
  have HDX3 := lh (HDX2.out.below hb2)
  have HY3 := lh hy
  have HEY3 := lh hey
  have HLW2 : Hid (w.heap.size + 1 + 1 < w2.heap.size) := HS3.out.o.lt
  clear hy hey hb2 HS2 HI1 HJ1 HX2 HDX2 HR2 k0 k1 k2 k3
  obtain ⟨W, hW⟩ : ∃ W, (w2.alloc (.cells #[.bool s3, .slice A3 n3 c3] 25)).alloc (.cells #[.bool s4, .slice A4 n4 c4] 25) = W := ⟨_, rfl⟩
  have HV : Hid (Below w2.heap.size w2 W) := by rw [← hW]; exact ((bR _ _).alloc (lR _) _).alloc (by simp) _
  have HI4 : Hid (Ibx W w2.heap.size s3 A3 n3 c3) := by rw [← hW]; exact (Ibx.new' _ _ _ _ _ _ rfl).alloc _
  have HJ4 : Hid (Ibx W (w2.heap.size + 1) s4 A4 n4 c4) := by rw [← hW]; exact Ibx.new' _ _ _ _ _ _ (by simp)
  have HS := lh (HS3.out.below HV.out)
  have HD : Hid (D4 W w1.heap.size w2.heap.size s1 A1 n1 c1 s2 A2 n2 c2 s3 A3 n3 c3 s4 A4 n4 c4 x dx y ey k) := ⟨HI3.out.below HV.out, HJ3.out.below HV.out, HI4.out, HJ4.out, HX3.out.below HV.out, HDX3.out.below HV.out, HY3.out.below HV.out, HEY3.out.below HV.out⟩
  have HQP := lh hqp
  have HQR := lh hqr
  clear HS3 HI3 HJ3 HI4 HJ4 HX3 HDX3 HY3 HEY3 HV hqp hqr
  obtain ⟨hg1, hg2, hg3, hg4⟩ := gcd_parts hdp hep
  obtain ⟨cm, hcm⟩ : ∃ cm : Int, ((Nat.gcd dx.natAbs ey.natAbs : Nat) : Int) = cm := ⟨_, rfl⟩
  rw [hcm] at hg1 hg2 hg3 hg4
  obtain ⟨lf, hlf⟩ : ∃ lf : Int, ey / cm = lf := ⟨_, rfl⟩
  obtain ⟨sd, hsd⟩ : ∃ sd : Int, dx / cm = sd := ⟨_, rfl⟩
  rw [hlf] at hg1 hg3
  rw [hsd] at hg2 hg4
  have HCM := lh hcm
  have HLF := lh hlf
  have HSD := lh hsd
  have hll : zl lf ≤ k := by rw [← hlf]; exact lT (zl_quo _ _) HD.out.z4.zl
  have hcl : zl cm ≤ k := by
   rw [← hcm]
   refine lT ?_ HD.out.z2.zl
   unfold zl
   rw [Int.natAbs_natCast]
   exact dl_le (Nat.gcd_le_left _ (by omega))
  have hsl : zl sd ≤ k := by rw [← hsd]; exact lT (zl_quo _ _) HD.out.z2.zl
  have HLL := lh hll
  have HCL := lh hcl
  have HSL := lh hsl
  obtain ⟨N1, hN1⟩ : ∃ N1, x * lf = N1 := ⟨_, rfl⟩
  obtain ⟨N2, hN2⟩ : ∃ N2, y * sd = N2 := ⟨_, rfl⟩
  obtain ⟨N, hN⟩ : ∃ N, N1 + N2 = N := ⟨_, rfl⟩
  obtain ⟨M, hM⟩ : ∃ M, dx * lf = M := ⟨_, rfl⟩
  have hN1l : zl N1 ≤ 1400 := by rw [← hN1]; have h1 := zl_mul x lf; have h2 := HD.out.z1.zl; omega
  have hN2l : zl N2 ≤ 1400 := by rw [← hN2]; have h1 := zl_mul y sd; have h2 := HD.out.z3.zl; omega
  have hNl : zl N ≤ 3000 := by rw [← hN]; have h1 := zl_add N1 N2; omega
  have hMl : zl M ≤ 3000 := by rw [← hM]; have h1 := zl_mul dx lf; have h2 := HD.out.z2.zl; omega
  have HN1L := lh hN1l
  have HN2L := lh hN2l
  have HNL := lh hNl
  have HML := lh hMl
  have hMp : 0 < M := by rw [← hM]; exact Int.mul_pos hdp hg3
  have HE : Hid (Rat.divInt N M = q) := by
   show _ = _
   rw [← HQ.out, ← HQP.out, ← HQR.out, ← hN, ← hM, ← hN1, ← hN2]
   exact both_add hdp hep hg1 hg2 hg3
  have HN1 := lh hN1
  have HN2 := lh hN2
  have HN := lh hN
  have HM := lh hM
  clear hcm hlf hsd hll hcl hsl hN1 hN2 hN hM hN1l hN2l hNl hMl hg1 hg2
  have k0 := HD.out.i2.c0
  have k1 := HD.out.i2.c1
  have k2 := HD.out.i4.c0
  have k3 := HD.out.i4.c1
  go_wp2_with fail
  refine (gcd_j HD.out.z2 HD.out.z4 (by omega) cm HCM.out).mono ?_
  rintro e w3 ⟨s5, A5, n5, c5, rfl, h5, hb5⟩
  clear hW k0 k1 k2 k3
  have HS3 := lh (HS.out.below hb5)
  have HD3 := lh (HD.out.below hb5)
  have HC3 := lh (h5.isz HCL.out)
  have HLW3 : Hid (w.heap.size + 1 + 1 < w3.heap.size) := HS3.out.o.lt
  clear h5 hb5 HS HD
  obtain ⟨V, hV⟩ : ∃ V, w3.alloc (.cells #[.bool s5, .slice A5 n5 c5] 25) = V := ⟨_, rfl⟩
  have HS4 : Hid (S2 w V s A n c t B m d s' A' n' c' t' B' m' d') := by rw [← hV]; exact HS3.out.alloc _
  have HD4 : Hid (D4 V w1.heap.size w2.heap.size s1 A1 n1 c1 s2 A2 n2 c2 s3 A3 n3 c3 s4 A4 n4 c4 x dx y ey k) := by rw [← hV]; exact HD3.out.alloc _
  have HC4 : Hid (IsZ V s5 A5 n5 c5 cm k) := by rw [← hV]; exact HC3.out.alloc _
  have HI4 : Hid (Ibx V w3.heap.size s5 A5 n5 c5) := by rw [← hV]; exact Ibx.new' _ _ _ _ _ _ rfl
  clear HS3 HD3 HC3
  have k0 := HD4.out.i4.c0
  have k1 := HD4.out.i4.c1
  have k2 := HI4.out.c0
  have k3 := HI4.out.c1
  go_wp2_with fail
  refine (share_i HD4.out.z4 HC4.out (by omega) lf HLF.out).mono ?_
  rintro e w4 ⟨s6, A6, n6, c6, rfl, h6, hb6⟩
  clear hV k0 k1 k2 k3
  have HS5 := lh (HS4.out.below hb6)
  have HD5 := lh (HD4.out.below hb6)
  have HC5 := lh (HC4.out.below hb6)
  have HI5 := lh (HI4.out.below hb6)
  have HL5 := lh h6
  clear h6 hb6 HS4 HD4 HC4 HI4
  obtain ⟨U, hU⟩ : ∃ U, w4.alloc (.cells #[.bool s6, .slice A6 n6 c6] 25) = U := ⟨_, rfl⟩
  have HB : Hid (BS w U w1.heap.size w2.heap.size w3.heap.size w4.heap.size s1 A1 n1 c1 s2 A2 n2 c2 s3 A3 n3 c3 s5 A5 n5 c5 s6 A6 n6 c6 x dx y cm lf k) := by
   rw [← hU]
   exact ⟨HS5.out.bel.alloc HS5.out.bel.size _, HS5.out.o.alloc _, HD5.out.i1.alloc _, HD5.out.i2.alloc _, HD5.out.i3.alloc _, HI5.out.alloc _, Ibx.new' _ _ _ _ _ _ rfl, HD5.out.z1.alloc _, HD5.out.z2.alloc _, HD5.out.z3.alloc _, HC5.out.alloc _, HL5.out.alloc _, HLW.out, HLW2.out, HLW3.out, HS5.out.o.lt⟩
  have HG1 : Hid (w1.heap.size < w4.heap.size) := HD5.out.i1.lt
  have HG2 : Hid (w1.heap.size + 1 < w4.heap.size) := HD5.out.i2.lt
  have HG3 : Hid (w2.heap.size < w4.heap.size) := HD5.out.i3.lt
  have HG4 : Hid (w3.heap.size < w4.heap.size) := HI5.out.lt
  clear HS5 HD5 HC5 HI5 HL5
  go_upto_region 7 with fail
  clear hU
  go_cut [13] (fun s13 wx => ∃ (b : Nat) (s9 : Bool) (A9 : Option Addr) (n9 c9 : Nat), s13 = .pointer (some ⟨b, 0, none⟩) ∧ Hid (w.heap.size + 1 + 1 < b) ∧ Hid (BS w wx w1.heap.size w2.heap.size w3.heap.size w4.heap.size s1 A1 n1 c1 s2 A2 n2 c2 s3 A3 n3 c3 s5 A5 n5 c5 s6 A6 n6 c6 x dx y cm lf k) ∧ Hid (Ibx wx b s9 A9 n9 c9) ∧ Hid (OneZ wx s9 A9 n9 c9 N))
  case first =>
   go_region_held3 (fun V => V.cell? ⟨w1.heap.size, 0, none⟩ = some (.bool s1) ∧ V.cell? ⟨w1.heap.size, 1, none⟩ = some (.slice A1 n1 c1) ∧ V.cell? ⟨w1.heap.size + 1, 0, none⟩ = some (.bool s2) ∧ V.cell? ⟨w1.heap.size + 1, 1, none⟩ = some (.slice A2 n2 c2) ∧ V.cell? ⟨w2.heap.size, 0, none⟩ = some (.bool s3) ∧ V.cell? ⟨w2.heap.size, 1, none⟩ = some (.slice A3 n3 c3) ∧ V.cell? ⟨w3.heap.size, 0, none⟩ = some (.bool s5) ∧ V.cell? ⟨w3.heap.size, 1, none⟩ = some (.slice A5 n5 c5) ∧ V.cell? ⟨w4.heap.size, 0, none⟩ = some (.bool s6) ∧ V.cell? ⟨w4.heap.size, 1, none⟩ = some (.slice A6 n6 c6))
    (first | (with_reducible exact (HBD.out.youngS HB.out J.out.bx).keep) | (with_reducible exact (HBD.out.youngS HBA.out J.out.bx).keep) | (with_reducible exact (HBD.out.youngS HBB.out J.out.bx).keep) | (with_reducible exact (HBD.out.youngS HBC.out J.out.bx).keep) | (with_reducible exact (HBD.out.alloc _).keep) | (with_reducible exact HBD.out.keep) | (with_reducible exact (HBC.out.alloc _).keep) | (with_reducible exact HBC.out.keep) | (with_reducible exact (HBB.out.alloc _).keep) | (with_reducible exact HBB.out.keep) | (with_reducible exact (HBA.out.alloc _).keep) | (with_reducible exact HBA.out.keep) | (with_reducible exact (HB.out.alloc _).drew.keep) | (with_reducible exact HB.out.drew.keep))
    (first
    | (go_at_call 136; (first | (with_reducible refine (do_add_j (HAC.out.isz HN1L.out) (HCC.out.isz HN2L.out) (by omega) N HN.out).mono ?_) | (with_reducible refine (do_add_j ((HAC.out.alloc _).isz HN1L.out) ((HCC.out.alloc _).isz HN2L.out) (by omega) N HN.out).mono ?_)); rintro e wD ⟨sD, AD, nD, cD, rfl, hD, hbD⟩; (first | have HBD := lh (HBC.out.below hbD) | have HBD := lh ((HBC.out.alloc _).below hbD)); (first | have J := lh (J.out.below hbD) | have J := lh ((new_box wC).below hbD) | skip); have HOD := lh hD; (first | (have g0 := J.out.c0; have g1 := J.out.c1; have fg0 := J.out.f 0; have fg1 := J.out.f 1) | skip))
    | (go_at_call 141; (first | (with_reducible refine (mul_j HBB.out.z3 HSB.out (by omega)).mono ?_) | (with_reducible refine (mul_j (HBB.out.alloc _).z3 (HSB.out.alloc _) (by omega)).mono ?_)); rintro e wC ⟨sC, AC, nC, cC, rfl, hC, hbC⟩; rw [HN2.out] at hC; (first | have HBC := lh (HBB.out.below hbC) | have HBC := lh ((HBB.out.alloc _).below hbC)); (first | have HAC := lh (HAB.out.below hbC) | have HAC := lh ((HAB.out.alloc _).below hbC)); (first | have J := lh (J.out.below hbC) | have J := lh ((new_box wB).below hbC) | skip); have HCC := lh hC)
    | (go_at_call 171; (first | (with_reducible refine (share_i HBA.out.z2 HBA.out.z4 (by omega) sd HSD.out).mono ?_) | (with_reducible refine (share_i (HBA.out.alloc _).z2 (HBA.out.alloc _).z4 (by omega) sd HSD.out).mono ?_)); rintro e wB ⟨sB, AB, nB, cB, rfl, hB, hbB⟩; (first | have HBB := lh (HBA.out.below hbB) | have HBB := lh ((HBA.out.alloc _).below hbB)); (first | have HAB := lh (HAA.out.below hbB) | have HAB := lh ((HAA.out.alloc _).below hbB)); (first | have J := lh (J.out.below hbB) | have J := lh ((new_box wA).below hbB) | skip); have HSB := lh hB)
    | (go_at_call 141; (first | (with_reducible refine (mul_j HB.out.drew.z1 HB.out.drew.z5 (by omega)).mono ?_) | (with_reducible refine (mul_j (HB.out.alloc _).drew.z1 (HB.out.alloc _).drew.z5 (by omega)).mono ?_)); rintro e wA ⟨sA, AA, nA, cA, rfl, hA, hbA⟩; rw [HN1.out] at hA; (first | have HBA := lh (HB.out.drew.below hbA) | have HBA := lh ((HB.out.alloc _).drew.below hbA)); (first | have J := lh ((new_box U).drew.below hbA) | skip); have HAA := lh hA))
   all_goals
    go_wp2_with fail
    go_meet
    first
     | exact ⟨wD.heap.size, sD, AD, nD, cD, rfl, HBD.out.lts.2.2.2.2.2, HBD.out.alloc _, Ibx.new' _ _ _ _ _ _ rfl, HOD.out.alloc _⟩
     | exact ⟨U.heap.size, sD, AD, nD, cD, rfl, HB.out.lts.2.2.2.2.2, HBD.out.youngS HB.out J.out.bx, J.out.put, HOD.out.on2 J.out.bx⟩
     | exact ⟨wA.heap.size, sD, AD, nD, cD, rfl, HBA.out.lts.2.2.2.2.2, HBD.out.youngS HBA.out J.out.bx, J.out.put, HOD.out.on2 J.out.bx⟩
     | exact ⟨wB.heap.size, sD, AD, nD, cD, rfl, HBB.out.lts.2.2.2.2.2, HBD.out.youngS HBB.out J.out.bx, J.out.put, HOD.out.on2 J.out.bx⟩
     | exact ⟨wC.heap.size, sD, AD, nD, cD, rfl, HBC.out.lts.2.2.2.2.2, HBD.out.youngS HBC.out J.out.bx, J.out.put, HOD.out.on2 J.out.bx⟩
  case rest =>
   clear HB
   obtain ⟨b, s9, A9, n9, c9, rfl, hb, HB, HI, HO⟩ := hcut
   go_upto_region 8 with fail
   go_region_held3 (fun V => V.cell? ⟨b, 0, none⟩ = some (.bool s9) ∧ V.cell? ⟨b, 1, none⟩ = some (.slice A9 n9 c9) ∧ V.cell? ⟨w1.heap.size + 1, 0, none⟩ = some (.bool s2) ∧ V.cell? ⟨w1.heap.size + 1, 1, none⟩ = some (.slice A2 n2 c2) ∧ V.cell? ⟨w4.heap.size, 0, none⟩ = some (.bool s6) ∧ V.cell? ⟨w4.heap.size, 1, none⟩ = some (.slice A6 n6 c6))
    (first | (with_reducible exact ⟨(HIF.out.put4_far (by have := hb.out; omega)).c0, (HIF.out.put4_far (by have := hb.out; omega)).c1, (HBF.out.i2.put4_far (by have := HBF.out.hg; omega)).c0, (HBF.out.i2.put4_far (by have := HBF.out.hg; omega)).c1, (HBF.out.i5.put4_far (by have := HBF.out.hl; omega)).c0, (HBF.out.i5.put4_far (by have := HBF.out.hl; omega)).c1⟩) | (with_reducible exact ⟨HIF.out.c0, HIF.out.c1, HBF.out.i2.c0, HBF.out.i2.c1, HBF.out.i5.c0, HBF.out.i5.c1⟩) | (with_reducible exact ⟨HIE.out.c0, HIE.out.c1, HBE.out.i2.c0, HBE.out.i2.c1, HBE.out.i5.c0, HBE.out.i5.c1⟩) | (with_reducible exact ⟨HI.out.drew.c0, HI.out.drew.c1, HB.out.drew.i2.c0, HB.out.drew.i2.c1, HB.out.drew.i5.c0, HB.out.drew.i5.c1⟩))
    (first
    | (go_at_call 133; (with_reducible refine (lowest_j HOE.out HME.out HNL.out HML.out hMp HE.out).mono ?_); rintro e wF ⟨sF, AF, nF, cF, tF, BF, mF, dF, rfl, hF, hbF⟩; have HBF := lh (HBE.out.below hbF); have HIF := lh (HIE.out.below hbF); have HRF := lh hF; have o0 := HBF.out.o.c0; have o1 := HBF.out.o.c1; have o2 := HBF.out.o.c2; have o3 := HBF.out.o.c3; have f0 := HBF.out.o.f 0; have f1 := HBF.out.o.f 1; have f2 := HBF.out.o.f 2; have f3 := HBF.out.o.f 3)
    | (go_at_call 141; (with_reducible refine (mul_j HB.out.drew.z2 HB.out.drew.z5 (by omega)).mono ?_); rintro e wE ⟨sE, AE, nE, cE, rfl, hE, hbE⟩; rw [HM.out] at hE; have HBE := lh (HB.out.drew.below hbE); have HIE := lh (HI.out.drew.below hbE); have HOE := lh (HO.out.drew.below hbE); have HME := lh hE))
   all_goals
    go_wp2_with fail
    refine bodyPost_ret (v := .agg #[.bool sF, .slice AF nF cF, .bool tF, .slice BF mF dF]) (by simp [results, Tryz.results135, go_sem, o0, o1, o2, o3]) rfl ?_
    exact retq_put HRF.out HBF.out.o (by omega) HBF.out.bel
theorem add_q {w : World} {s t s' t' : Bool} {A B A' B' : Option Addr} {n c m d n' c' m' d' k : Nat} {p r : Rat} (h1 : IsQ w s A n c t B m d p k) (h2 : IsQ w s' A' n' c' t' B' m' d' r k) (hk : 1 ≤ k) (hk2 : k ≤ 700) (q : Rat) (hq : p + r = q) :
  Calls Tryz.prog 81 #[.agg #[.bool s, .slice A n c, .bool t, .slice B m d], .agg #[.bool s', .slice A' n' c', .bool t', .slice B' m' d']] w (RetQ w q) := by
 have HS := lh (S2.start w s A n c t B m d s' A' n' c' t' B' m' d')
 have HP := lh (((h1.alloc (.cells #[.bool s, .slice A n c, .bool t, .slice B m d] 27)).alloc (.cells #[.bool s', .slice A' n' c', .bool t', .slice B' m' d'] 27)).alloc (.cells #[.bool false, .slice none 0 0, .bool false, .slice none 0 0] 27))
 have HR := lh (((h2.alloc (.cells #[.bool s, .slice A n c, .bool t, .slice B m d] 27)).alloc (.cells #[.bool s', .slice A' n' c', .bool t', .slice B' m' d'] 27)).alloc (.cells #[.bool false, .slice none 0 0, .bool false, .slice none 0 0] 27))
 have HQ := lh hq
 clear h1 h2 hq
 go_enter Tryz.func81, Tryz.ntmps81
 go_wp2_with fail
 refine (both_add_q HP.out HR.out hk hk2 q HQ.out).mono ?_
 rintro e w1 ⟨s1, A1, n1, c1, t1, B1, m1, d1, rfl, h1, hb1⟩
 have HS1 := lh (HS.out.below hb1)
 have HR1 := lh h1
 clear h1 hb1
 have o0 := HS1.out.o.c0
 have o1 := HS1.out.o.c1
 have o2 := HS1.out.o.c2
 have o3 := HS1.out.o.c3
 have f0 := HS1.out.o.f 0
 have f1 := HS1.out.o.f 1
 have f2 := HS1.out.o.f 2
 have f3 := HS1.out.o.f 3
 go_wp2_with fail
 refine bodyPost_ret (v := .agg #[.bool s1, .slice A1 n1 c1, .bool t1, .slice B1 m1 d1]) (by simp [results, Tryz.results81, go_sem, o0, o1, o2, o3]) rfl ?_
 exact retq_put HR1.out HS1.out.o (by omega) HS1.out.bel
