/- Part 21 of the proof: ROrd, RSame. -/
import Derived.Test.YthjiacmhhpfokaaGreatL20
namespace Go.Proofs.YthjiacmhhpfokaaGreat
open Lib renaming hid → lh
open Go.Proofs.Tryz renaming prog → tz
open Nat renaming le_refl → lR
open Go.RowKit.Below renaming refl → bR
namespace Q
set_option maxRecDepth 100000
set_option maxHeartbeats 8000000
open Go.RowKit
theorem cmp_signs {p r : Rat} (h : qsign p ≠ qsign r) : zcmp (qsign p) (qsign r) = qcmp p r := by
 rcases tri p 0 with h1 | h1 | h1 <;> rcases tri r 0 with h2 | h2 | h2
 ·exact absurd (by rw [qsign_cmp, qsign_cmp, qcmp_lt h1, qcmp_lt h2]) h
 ·rw [qcmp_lt (show p < r by grind), qsign_cmp p, qcmp_lt h1, h2]; rfl
 ·rw [qcmp_lt (show p < r by grind), qsign_cmp p, qcmp_lt h1, qsign_cmp r, qcmp_gt h2]; rfl
 ·rw [qcmp_gt (show r < p by grind), qsign_cmp r, qcmp_lt h2, h1]; rfl
 ·exact absurd (by rw [h1, h2]) h
 ·rw [qcmp_lt (show p < r by grind), qsign_cmp r, qcmp_gt h2, h1]; rfl
 ·rw [qcmp_gt (show r < p by grind), qsign_cmp p, qcmp_gt h1, qsign_cmp r, qcmp_lt h2]; rfl
 ·rw [qcmp_gt (show r < p by grind), qsign_cmp p, qcmp_gt h1, h2]; rfl
 ·exact absurd (by rw [qsign_cmp, qsign_cmp, qcmp_gt h1, qcmp_gt h2]) h
theorem zcmp_div {n d m e : Int} (hd : 0 < d) (he : 0 < e) : zcmp (n * e) (m * d) = qcmp (Rat.divInt n d) (Rat.divInt m e) := by
 rw [cmp_div hd he]
 unfold zcmp
 split
 ·rfl
 ·split <;> split <;> omega
structure P2 (w wx : World) (s : Bool) (A : Option Addr) (n c : Nat) (t : Bool) (B : Option Addr) (m d : Nat) (s2 : Bool) (A2 : Option Addr) (n2 c2 : Nat) (t2 : Bool) (B2 : Option Addr) (m2 d2 : Nat) : Prop where
 bel : Below w.heap.size w wx
 i1 : Qbx wx w.heap.size s A n c t B m d
 i2 : Qbx wx (w.heap.size + 1) s2 A2 n2 c2 t2 B2 m2 d2
section
variable {w wx wy : World} {s t s2 t2 : Bool} {A B A2 B2 : Option Addr} {n c m d n2 c2 m2 d2 : Nat}
theorem P2.start (w : World) (s : Bool) (A : Option Addr) (n c : Nat) (t : Bool) (B : Option Addr) (m d : Nat) (s2 : Bool) (A2 : Option Addr) (n2 c2 : Nat) (t2 : Bool) (B2 : Option Addr) (m2 d2 : Nat) :
  P2 w ((w.alloc (.cells #[.bool s, .slice A n c, .bool t, .slice B m d] 27)).alloc (.cells #[.bool s2, .slice A2 n2 c2, .bool t2, .slice B2 m2 d2] 27)) s A n c t B m d s2 A2 n2 c2 t2 B2 m2 d2 :=
 ⟨((bR _ _).alloc (lR _) _).alloc (by simp) _, (Qbx.new _ _ rfl).alloc _, Qbx.new _ _ (by simp)⟩
theorem P2.below (h : P2 w wx s A n c t B m d s2 A2 n2 c2 t2 B2 m2 d2) (hb : Below wx.heap.size wx wy) : P2 w wy s A n c t B m d s2 A2 n2 c2 t2 B2 m2 d2 := ⟨below_on h.bel hb, h.i1.below hb, h.i2.below hb⟩
theorem P2.drew (h : P2 w wx s A n c t B m d s2 A2 n2 c2 t2 B2 m2 d2) : P2 w wx.drew s A n c t B m d s2 A2 n2 c2 t2 B2 m2 d2 := h.below ((bR _ _).drew)
theorem P2.keep (h : P2 w wx s A n c t B m d s2 A2 n2 c2 t2 B2 m2 d2) : wx.cell? ⟨w.heap.size, 0, none⟩ = some (.bool s) ∧ wx.cell? ⟨w.heap.size, 1, none⟩ = some (.slice A n c) ∧ wx.cell? ⟨w.heap.size, 2, none⟩ = some (.bool t) ∧ wx.cell? ⟨w.heap.size, 3, none⟩ = some (.slice B m d) ∧ wx.cell? ⟨w.heap.size + 1, 0, none⟩ = some (.bool s2) ∧ wx.cell? ⟨w.heap.size + 1, 1, none⟩ = some (.slice A2 n2 c2) ∧ wx.cell? ⟨w.heap.size + 1, 2, none⟩ = some (.bool t2) ∧ wx.cell? ⟨w.heap.size + 1, 3, none⟩ = some (.slice B2 m2 d2) :=
 ⟨h.i1.c0, h.i1.c1, h.i1.c2, h.i1.c3, h.i2.c0, h.i2.c1, h.i2.c2, h.i2.c3⟩
end
theorem cmp_q {w : World} {s t s' t' : Bool} {A B A' B' : Option Addr} {n c m d n' c' m' d' k : Nat} {p r : Rat} (h1 : IsQ w s A n c t B m d p k) (h2 : IsQ w s' A' n' c' t' B' m' d' r k) (hk : 1 ≤ k) (hk2 : k ≤ 700) (kk : Int) (hq : qcmp p r = kk) :
  Calls tz 107 #[.agg #[.bool s, .slice A n c, .bool t, .slice B m d], .agg #[.bool s', .slice A' n' c', .bool t', .slice B' m' d']] w (RetI w kk) := by
 have HS := lh (P2.start w s A n c t B m d s' A' n' c' t' B' m' d')
 have HP := lh ((h1.alloc (.cells #[.bool s, .slice A n c, .bool t, .slice B m d] 27)).alloc (.cells #[.bool s', .slice A' n' c', .bool t', .slice B' m' d'] 27))
 have HR := lh ((h2.alloc (.cells #[.bool s, .slice A n c, .bool t, .slice B m d] 27)).alloc (.cells #[.bool s', .slice A' n' c', .bool t', .slice B' m' d'] 27))
 have HQ := lh hq
 obtain ⟨sy, hsy⟩ : ∃ sy, qsign p = sy := ⟨_, rfl⟩
 obtain ⟨sz, hsz⟩ : ∃ sz, qsign r = sz := ⟨_, rfl⟩
 have HSY := lh hsy
 have HSZ := lh hsz
 by_cases hne : sy = sz
 ·have b1 : (sy == sz) = true := by rw [hne]; exact beq_self_eq_true _
  have b2 : (sy != sz) = false := by rw [hne]; exact bne_self_eq_false _
  clear h1 h2 hq hsy hsz hne
  go_enter Tryz.func107, Tryz.ntmps107
  go_wp2_with fail
  go_region_held3 (fun V => V.cell? ⟨w.heap.size, 0, none⟩ = some (.bool s) ∧ V.cell? ⟨w.heap.size, 1, none⟩ = some (.slice A n c) ∧ V.cell? ⟨w.heap.size, 2, none⟩ = some (.bool t) ∧ V.cell? ⟨w.heap.size, 3, none⟩ = some (.slice B m d) ∧ V.cell? ⟨w.heap.size + 1, 0, none⟩ = some (.bool s') ∧ V.cell? ⟨w.heap.size + 1, 1, none⟩ = some (.slice A' n' c') ∧ V.cell? ⟨w.heap.size + 1, 2, none⟩ = some (.bool t') ∧ V.cell? ⟨w.heap.size + 1, 3, none⟩ = some (.slice B' m' d'))
   (first | (with_reducible exact HSb.out.keep) | (with_reducible exact HSa.out.keep) | (with_reducible exact HS.out.drew.keep))
   (first
   | (go_at_call 84; (with_reducible refine (sign_q HRa.out (by omega) sz HSZ.out).mono ?_); rintro e wb ⟨rfl, hbb⟩; have HSb := lh (HSa.out.below hbb); have HPb := lh (HPa.out.below hbb); have HRb := lh (HRa.out.below hbb))
   | (go_at_call 84; (with_reducible refine (sign_q HP.out.drew (by omega) sy HSY.out).mono ?_); rintro e wa ⟨rfl, hba⟩; have HSa := lh (HS.out.drew.below hba); have HPa := lh (HP.out.drew.below hba); have HRa := lh (HR.out.drew.below hba)))
  all_goals
   clear HS HP HR HSa HPa HRa
   have HS := HSb
   have HP := HPb
   have HR := HRb
   clear HSb HPb HRb
   have k0 := HS.out.i1.c0
   have k1 := HS.out.i1.c1
   have k2 := HS.out.i1.c2
   have k3 := HS.out.i1.c3
   go_wp2_with fail
   refine (parts_any _ s t A B n c m d k p HP.out hk (by omega)).mono ?_
   rintro e w1 ⟨s1, A1, n1, c1, s2, A2, n2, c2, x, dx, rfl, hx, hdx, hdp, hqp, hb1⟩
   have HS1 := lh (HS.out.below hb1)
   have HX1 := lh hx
   have HDX1 := lh hdx
   have HR1 := lh (HR.out.below hb1)
   clear hx hdx hb1 HS HP HR
   obtain ⟨V, hV⟩ : ∃ V, (w1.alloc (.cells #[.bool s1, .slice A1 n1 c1] 25)).alloc (.cells #[.bool s2, .slice A2 n2 c2] 25) = V := ⟨_, rfl⟩
   have HV : Hid (Below w1.heap.size w1 V) := by rw [← hV]; exact ((bR _ _).alloc (lR _) _).alloc (by simp) _
   have HI1 : Hid (Ibx V w1.heap.size s1 A1 n1 c1) := by rw [← hV]; exact (Ibx.new' _ _ _ _ _ _ rfl).alloc _
   have HJ1 : Hid (Ibx V (w1.heap.size + 1) s2 A2 n2 c2) := by rw [← hV]; exact Ibx.new' _ _ _ _ _ _ (by simp)
   have HS2 := lh (HS1.out.below HV.out)
   have HX2 := lh (HX1.out.below HV.out)
   have HDX2 := lh (HDX1.out.below HV.out)
   have HR2 := lh (HR1.out.below HV.out)
   have HLW : Hid (w.heap.size + 1 < w1.heap.size) := HS1.out.i2.lt
   have k0 := HS2.out.i2.c0
   have k1 := HS2.out.i2.c1
   have k2 := HS2.out.i2.c2
   have k3 := HS2.out.i2.c3
   clear HS1 HX1 HDX1 HR1 HV
   go_wp2_with fail
   refine (parts_any _ s' t' A' B' n' c' m' d' k r HR2.out hk (by omega)).mono ?_
   rintro e w2 ⟨s3, A3, n3, c3, s4, A4, n4, c4, y, ey, rfl, hy, hey, hep, hqr, hb2⟩
   clear hV
   have HS3 := lh (HS2.out.below hb2)
   have HI3 := lh (HI1.out.below hb2)
   have HJ3 := lh (HJ1.out.below hb2)
   have HX3 := lh (HX2.out.below hb2)
   have HDX3 := lh (HDX2.out.below hb2)
   have HY3 := lh hy
   have HEY3 := lh hey
   have HLW2 : Hid (w.heap.size + 1 < w2.heap.size) := HS3.out.i2.lt
   clear hy hey hb2 HS2 HI1 HJ1 HX2 HDX2 HR2 k0 k1 k2 k3
   obtain ⟨W, hW⟩ : ∃ W, (w2.alloc (.cells #[.bool s3, .slice A3 n3 c3] 25)).alloc (.cells #[.bool s4, .slice A4 n4 c4] 25) = W := ⟨_, rfl⟩
   have HV : Hid (Below w2.heap.size w2 W) := by rw [← hW]; exact ((bR _ _).alloc (lR _) _).alloc (by simp) _
   have HI4 : Hid (Ibx W w2.heap.size s3 A3 n3 c3) := by rw [← hW]; exact (Ibx.new' _ _ _ _ _ _ rfl).alloc _
   have HJ4 : Hid (Ibx W (w2.heap.size + 1) s4 A4 n4 c4) := by rw [← hW]; exact Ibx.new' _ _ _ _ _ _ (by simp)
   have HS := lh (HS3.out.below HV.out)
   have HD : Hid (D4 W w1.heap.size w2.heap.size s1 A1 n1 c1 s2 A2 n2 c2 s3 A3 n3 c3 s4 A4 n4 c4 x dx y ey k) := ⟨HI3.out.below HV.out, HJ3.out.below HV.out, HI4.out, HJ4.out, HX3.out.below HV.out, HDX3.out.below HV.out, HY3.out.below HV.out, HEY3.out.below HV.out⟩
   have HQP := lh hqp
   have HQR := lh hqr
   clear HS3 HI3 HJ3 HI4 HJ4 HX3 HDX3 HY3 HEY3 HV hqp hqr
   obtain ⟨N, hN⟩ : ∃ N, x * ey = N := ⟨_, rfl⟩
   obtain ⟨M, hM⟩ : ∃ M, y * dx = M := ⟨_, rfl⟩
   have HE : Hid (zcmp N M = kk) := by
    show _ = _
    rw [← HQ.out, ← HQP.out, ← HQR.out, ← hN, ← hM]
    exact zcmp_div hdp hep
   have HNL : Hid (zl N ≤ 3000) := by show _ ≤ _; rw [← hN]; have h1 := zl_mul x ey; have h2 := HD.out.z1.zl; have h3 := HD.out.z4.zl; omega
   have HML : Hid (zl M ≤ 3000) := by show _ ≤ _; rw [← hM]; have h1 := zl_mul y dx; have h2 := HD.out.z3.zl; have h3 := HD.out.z2.zl; omega
   have HN := lh hN
   have HM := lh hM
   clear hN hM
   go_upto_region 6 with fail
   clear hW
   go_region_held3 (fun V => V.cell? ⟨w1.heap.size, 0, none⟩ = some (.bool s1) ∧ V.cell? ⟨w1.heap.size, 1, none⟩ = some (.slice A1 n1 c1) ∧ V.cell? ⟨w1.heap.size + 1, 0, none⟩ = some (.bool s2) ∧ V.cell? ⟨w1.heap.size + 1, 1, none⟩ = some (.slice A2 n2 c2) ∧ V.cell? ⟨w2.heap.size, 0, none⟩ = some (.bool s3) ∧ V.cell? ⟨w2.heap.size, 1, none⟩ = some (.slice A3 n3 c3) ∧ V.cell? ⟨w2.heap.size + 1, 0, none⟩ = some (.bool s4) ∧ V.cell? ⟨w2.heap.size + 1, 1, none⟩ = some (.slice A4 n4 c4))
    (first | (with_reducible exact HD8.out.keep) | (with_reducible exact HD6.out.keep) | (with_reducible exact HD5.out.keep) | (with_reducible exact HD.out.drew.keep))
    (first
    | (go_at_call 153; (with_reducible refine (cmp_j (HN6.out.isz HNL.out) (HM6.out.isz HML.out) (by omega)).mono ?_); rintro e w8 ⟨rfl, hb8⟩; have HS8 := lh (HS6.out.below hb8); have HD8 := lh (HD6.out.below hb8))
    | (go_at_call 141; (with_reducible refine (mul_j HD5.out.z3 HD5.out.z2 (by omega)).mono ?_); rintro e w6 ⟨s6, A6, n6, c6, rfl, h6, hb6⟩; rw [HM.out] at h6; have HS6 := lh (HS5.out.below hb6); have HD6 := lh (HD5.out.below hb6); have HN6 := lh (HN5.out.below hb6); have HM6 := lh h6)
    | (go_at_call 141; (with_reducible refine (mul_j HD.out.drew.z1 HD.out.drew.z4 (by omega)).mono ?_); rintro e w5 ⟨s5, A5, n5, c5, rfl, h5, hb5⟩; rw [HN.out] at h5; have HS5 := lh (HS.out.drew.below hb5); have HD5 := lh (HD.out.drew.below hb5); have HN5 := lh h5))
   all_goals
    go_wp2_with fail
    go_ret
    rw [HE.out]
    exact ⟨rfl, HS8.out.bel⟩
 ·have HK : Hid (zcmp sy sz = kk) := by show _ = _; rw [← hq, ← hsy, ← hsz]; exact cmp_signs (by rw [hsy, hsz]; exact hne)
  have b1 : (sy == sz) = false := beq_eq_false_iff_ne.2 hne
  have b2 : (sy != sz) = true := bne_iff_ne.2 hne
  clear h1 h2 hq hsy hsz hne
  go_enter Tryz.func107, Tryz.ntmps107
  go_wp2_with fail
  go_region_held3 (fun V => V.cell? ⟨w.heap.size, 0, none⟩ = some (.bool s) ∧ V.cell? ⟨w.heap.size, 1, none⟩ = some (.slice A n c) ∧ V.cell? ⟨w.heap.size, 2, none⟩ = some (.bool t) ∧ V.cell? ⟨w.heap.size, 3, none⟩ = some (.slice B m d) ∧ V.cell? ⟨w.heap.size + 1, 0, none⟩ = some (.bool s') ∧ V.cell? ⟨w.heap.size + 1, 1, none⟩ = some (.slice A' n' c') ∧ V.cell? ⟨w.heap.size + 1, 2, none⟩ = some (.bool t') ∧ V.cell? ⟨w.heap.size + 1, 3, none⟩ = some (.slice B' m' d'))
   (first | (with_reducible exact HSb.out.keep) | (with_reducible exact HSa.out.keep) | (with_reducible exact HS.out.drew.keep))
   (first
   | (go_at_call 84; (with_reducible refine (sign_q HRa.out (by omega) sz HSZ.out).mono ?_); rintro e wb ⟨rfl, hbb⟩; have HSb := lh (HSa.out.below hbb); have HPb := lh (HPa.out.below hbb); have HRb := lh (HRa.out.below hbb))
   | (go_at_call 84; (with_reducible refine (sign_q HP.out.drew (by omega) sy HSY.out).mono ?_); rintro e wa ⟨rfl, hba⟩; have HSa := lh (HS.out.drew.below hba); have HPa := lh (HP.out.drew.below hba); have HRa := lh (HR.out.drew.below hba)))
  all_goals
   go_wp2_with fail
   refine (compare_any _ _ _).mono ?_
   rintro e wc ⟨rfl, rfl⟩
   go_wp2_with fail
   go_ret
   rw [HK.out]
   exact ⟨rfl, HSb.out.bel⟩
theorem same_q {w : World} {s t s' t' : Bool} {A B A' B' : Option Addr} {n c m d n' c' m' d' k : Nat} {p r : Rat} (h1 : IsQ w s A n c t B m d p k) (h2 : IsQ w s' A' n' c' t' B' m' d' r k) (hk : 1 ≤ k) (hk2 : k ≤ 700) (b : Bool) (hq : decide (p = r) = b) :
  Calls tz 63 #[.agg #[.bool s, .slice A n c, .bool t, .slice B m d], .agg #[.bool s', .slice A' n' c', .bool t', .slice B' m' d']] w (RetB w b) := by
 have HS := lh (P2.start w s A n c t B m d s' A' n' c' t' B' m' d')
 have HP := lh ((h1.alloc (.cells #[.bool s, .slice A n c, .bool t, .slice B m d] 27)).alloc (.cells #[.bool s', .slice A' n' c', .bool t', .slice B' m' d'] 27))
 have HR := lh ((h2.alloc (.cells #[.bool s, .slice A n c, .bool t, .slice B m d] 27)).alloc (.cells #[.bool s', .slice A' n' c', .bool t', .slice B' m' d'] 27))
 obtain ⟨kk, hkk⟩ : ∃ kk, qcmp p r = kk := ⟨_, rfl⟩
 have HK := lh hkk
 have HB : Hid ((kk == 0) = b) := by
  show _ = _
  rw [← hq, ← hkk]
  by_cases h : p = r
  ·rw [decide_eq_true h, qcmp_zero_iff.2 h]; rfl
  ·rw [decide_eq_false h, beq_eq_false_iff_ne]; exact fun h2 => h (qcmp_zero_iff.1 h2)
 clear h1 h2 hq hkk
 go_enter Tryz.func63, Tryz.ntmps63
 go_wp2_with fail
 refine (cmp_q HP.out HR.out hk hk2 kk HK.out).mono ?_
 rintro e w1 ⟨rfl, hb1⟩
 have HS1 := lh (HS.out.below hb1)
 clear hb1
 go_wp2_with fail
 go_ret
 rw [HB.out]
 exact ⟨rfl, HS1.out.bel⟩
structure SF (w wx : World) (s : Bool) (A : Option Addr) (n c : Nat) (t : Bool) (B : Option Addr) (m d : Nat) : Prop where
 bel : Below w.heap.size w wx
 i : Qbx wx w.heap.size s A n c t B m d
 o : Ibx wx (w.heap.size + 1) false none 0 0
theorem SF.below {w wx wy : World} {s t : Bool} {A B : Option Addr} {n c m d : Nat} (h : SF w wx s A n c t B m d) (hb : Below wx.heap.size wx wy) : SF w wy s A n c t B m d := ⟨below_on h.bel hb, h.i.below hb, h.o.below hb⟩
end Q

namespace Q
set_option maxRecDepth 100000
set_option maxHeartbeats 2000000
open Go.RowKit
theorem same_no (w : World) (A B : Option Addr) (c d : Nat) (xs ys : List Nat) (ha : Num w A xs) (hb : Num w B ys) (hn : xs.length ≤ 1099511627776) (hl : xs.length = ys.length) (hne : xs ≠ ys) :
  Calls tz 146 #[.slice A xs.length c, .slice B xs.length d] w (RetB w false) := by
 have HA := lh ha
 have HB := lh hb
 have HL := lh hl
 have HN := lh hne
 clear ha hb hl hne
 go_enter Tryz.func146, Tryz.ntmps146
 go_wp2
 go_loopw [5] (fun i wr => ∃ k : Nat, k ≤ xs.length ∧ i = .int .i64 k ∧ Below w.heap.size w wr ∧ Hid (∀ j, j < k → dg xs j = dg ys j)) (fun i _ => xs.length - (intOf i).toNat)
 case atStart => exact ⟨0, Nat.zero_le _, rfl, bR _ _, fun j hj => absurd hj (Nat.not_lt_zero j)⟩
 case round =>
  obtain ⟨k, hk, rfl, hbw, HK⟩ := hrel
  by_cases hlt : k < xs.length
  ·obtain ⟨b, off, rfl, hbl, hc1⟩ := HA.out.at_ (by omega)
   obtain ⟨b', off', rfl, hbl', hc2⟩ := HB.out.at_ (by have := HL.out; omega)
   have h1 := (hbw.cell (p := ⟨b, off + k, none⟩) hbl).trans (hc1 k hlt)
   have h2 := (hbw.cell (p := ⟨b', off' + k, none⟩) hbl').trans (hc2 k (by have := HL.out; omega))
   have hlt' : (k : Int) < (xs.length : Int) := by omega
   clear hc1 hc2
   have HBW := lh hbw
   clear hbw
   obtain ⟨x, hx⟩ : ∃ x : Int, ((dg xs k : Nat) : Int) = x := ⟨_, rfl⟩
   obtain ⟨y, hy⟩ : ∃ y : Int, ((dg ys k : Nat) : Int) = y := ⟨_, rfl⟩
   rw [hx] at h1
   rw [hy] at h2
   by_cases hxy : x = y
   ·have HE : Hid (dg xs k = dg ys k) := by show _ = _; omega
    have b1 : (x == y) = true := beq_iff_eq.2 hxy
    have b2 : (x != y) = false := by rw [hxy]; exact bne_self_eq_false _
    clear hx hy hxy
    go_wp2
    go_quiet (fail)
    go_wp2
    go_roundw
    case rel =>
     refine ⟨k + 1, by omega, by go_num, below_drewN HBW.out _, fun j hj => ?_⟩
     rcases Nat.lt_or_ge j k with h | h
     ·exact HK.out j h
     ·rw [show j = k by omega]; exact HE.out
    case measure => simp [intOf]; omega
   ·have b1 : (x == y) = false := beq_eq_false_iff_ne.2 hxy
    have b2 : (x != y) = true := bne_iff_ne.2 hxy
    clear hx hy hxy
    go_wp2
    go_quiet (fail)
    go_wp2
    go_ret
    exact ⟨rfl, below_drewN HBW.out _⟩
  ·exact absurd (ext_dg HL.out (fun j hj => HK.out j (by omega))) HN.out
theorem same_len (w : World) (A B : Option Addr) (n c m d : Nat) (hl : n ≠ m) :
  Calls tz 146 #[.slice A n c, .slice B m d] w (RetB w false) := by
 have b1 : ((n : Int) == (m : Int)) = false := beq_eq_false_iff_ne.2 (by omega)
 have b2 : ((n : Int) != (m : Int)) = true := bne_iff_ne.2 (by omega)
 clear hl
 go_enter Tryz.func146, Tryz.ntmps146
 go_wp2
 go_ret
 exact ⟨rfl, bR _ _⟩
theorem words_j {w : World} {A B : Option Addr} {n c m d : Nat} {a b : Nat} (ha : Num w A (dig a)) (hb : Num w B (dig b)) (hn : n = (dig a).length) (hm : m = (dig b).length) (hl : n ≤ 1000000) (v : Bool) (hv : decide (a = b) = v) :
  Calls tz 146 #[.slice A n c, .slice B m d] w (RetB w v) := by
 subst hn hm hv
 by_cases h : a = b
 ·subst h
  rw [decide_eq_true rfl]
  exact same_yes w A B c d (dig a) ha hb (by omega)
 ·rw [decide_eq_false h]
  by_cases h2 : (dig a).length = (dig b).length
  ·have h3 := same_no w A B c d (dig a) (dig b) ha hb (by omega) h2 (fun e => h (dig_inj e))
   rw [h2] at h3 ⊢
   exact h3
  ·exact same_len w A B _ c _ d h2
structure PI (w wx : World) (s : Bool) (A : Option Addr) (n c : Nat) (t : Bool) (B : Option Addr) (m d : Nat) : Prop where
 bel : Below w.heap.size w wx
 i1 : Ibx wx w.heap.size s A n c
 i2 : Ibx wx (w.heap.size + 1) t B m d
theorem PI.start (w : World) (s : Bool) (A : Option Addr) (n c : Nat) (t : Bool) (B : Option Addr) (m d : Nat) : PI w ((w.alloc (.cells #[.bool s, .slice A n c] 25)).alloc (.cells #[.bool t, .slice B m d] 25)) s A n c t B m d :=
 ⟨((bR _ _).alloc (lR _) _).alloc (by simp) _, (Ibx.new' _ _ _ _ _ _ rfl).alloc _, Ibx.new' _ _ _ _ _ _ (by simp)⟩
theorem int_j {w : World} {s t : Bool} {A B : Option Addr} {n c m d : Nat} {y z : Int} (h1 : OneZ w s A n c y) (h2 : OneZ w t B m d z) (hl : zl y ≤ 100000) (v : Bool) (hv : decide (y = z) = v) :
  Calls tz 93 #[.agg #[.bool s, .slice A n c], .agg #[.bool t, .slice B m d]] w (RetB w v) := by
 have HP := lh (PI.start w s A n c t B m d)
 obtain ⟨u, hu⟩ : ∃ u, decide (y.natAbs = z.natAbs) = u := ⟨_, rfl⟩
 have HC := lh (words_j (c := c) (d := d) ((h1.num.alloc (.cells #[.bool s, .slice A n c] 25)).alloc (.cells #[.bool t, .slice B m d] 25)) ((h2.num.alloc (.cells #[.bool s, .slice A n c] 25)).alloc (.cells #[.bool t, .slice B m d] 25)) h1.en h2.en (by rw [h1.en]; omega) u hu)
 by_cases hst : s = t
 ·have HV : Hid (u = v) := by
   show _ = _
   rw [← hu, ← hv]
   have e1 := h1.es
   have e2 := h2.es
   rw [hst, e2] at e1
   have h3 := zv_zneg y
   have h4 := zv_zneg z
   by_cases h : y.natAbs = z.natAbs
   ·rw [decide_eq_true h, decide_eq_true]; rw [← h3, ← h4, e1, h]
   ·rw [decide_eq_false h, decide_eq_false]; intro h5; exact h (by rw [h5])
  have b1 : (s == t) = true := by rw [hst]; cases t <;> rfl
  clear h1 h2 hu hv hst
  go_enter Tryz.func93, Tryz.ntmps93
  go_wp2_with fail
  refine HC.out.mono ?_
  rintro e w1 ⟨rfl, hb1⟩
  have HB := lh (below_on HP.out.bel hb1)
  clear hb1
  go_wp2_with fail
  go_ret
  rw [HV.out]
  exact ⟨rfl, HB.out⟩
 ·have HV : Hid (false = v) := by
   show _ = _
   rw [← hv, decide_eq_false]
   intro h5
   exact hst (by rw [h1.es, h2.es, h5])
  have b1 : (s == t) = false := by cases s <;> cases t <;> first | rfl | exact absurd rfl hst
  clear h1 h2 hu hv hst HC
  go_enter Tryz.func93, Tryz.ntmps93
  go_wp2_with fail
  go_ret
  rw [← HV.out]
  exact ⟨rfl, HP.out.bel⟩
def dval (q : Rat) : Int := if q.den = 1 then 0 else (q.den : Int)
theorem OneQ.bot {w : World} {s t : Bool} {A B : Option Addr} {n c m d : Nat} {q : Rat} (h : OneQ w s A n c t B m d q) : OneZ w t B m d (dval q) := by
 have e := h.em
 have h5 := h.den
 unfold dden at e h5
 unfold dval
 by_cases hd : q.den = 1
 ·rw [if_pos hd] at e h5 ⊢
  exact ⟨by rw [h.et]; rfl, by rw [e]; show 0 = (dig 0).length; rw [dig_zero]; rfl, by show Num w B (dig 0); rw [dig_zero]; exact h5, h.cap2⟩
 ·rw [if_neg hd] at e h5 ⊢
  exact ⟨by rw [h.et]; unfold zneg; exact (decide_eq_false (by omega)).symm, by rw [e, den_zl], by rw [Int.natAbs_natCast]; exact h5, h.cap2⟩
theorem rat_eq (p r : Rat) : (p = r) ↔ (p.num = r.num ∧ dval p = dval r) := by
 constructor
 ·rintro rfl; exact ⟨rfl, rfl⟩
 ·rintro ⟨h1, h2⟩
  refine Rat.ext h1 ?_
  unfold dval at h2
  have := p.den_nz
  have := r.den_nz
  split at h2 <;> split at h2 <;> omega
theorem dval_le (q : Rat) : zl (dval q) ≤ ql q := by
 unfold dval
 split
 ·show (dig 0).length ≤ _; rw [dig_zero]; exact Nat.zero_le _
 ·rw [den_zl]; exact den_le q
theorem rat_j {w : World} {s t s' t' : Bool} {A B A' B' : Option Addr} {n c m d n' c' m' d' : Nat} {p r : Rat} (h1 : OneQ w s A n c t B m d p) (h2 : OneQ w s' A' n' c' t' B' m' d' r) (hl : ql p ≤ 100000) (v : Bool) (hv : decide (p = r) = v) :
  Calls tz 28 #[.agg #[.bool s, .slice A n c, .bool t, .slice B m d], .agg #[.bool s', .slice A' n' c', .bool t', .slice B' m' d']] w (RetB w v) := by
 have HP := lh (P2.start w s A n c t B m d s' A' n' c' t' B' m' d')
 have HT := lh ((h1.top.alloc (.cells #[.bool s, .slice A n c, .bool t, .slice B m d] 27)).alloc (.cells #[.bool s', .slice A' n' c', .bool t', .slice B' m' d'] 27))
 have HT2 := lh ((h2.top.alloc (.cells #[.bool s, .slice A n c, .bool t, .slice B m d] 27)).alloc (.cells #[.bool s', .slice A' n' c', .bool t', .slice B' m' d'] 27))
 have HB := lh ((h1.bot.alloc (.cells #[.bool s, .slice A n c, .bool t, .slice B m d] 27)).alloc (.cells #[.bool s', .slice A' n' c', .bool t', .slice B' m' d'] 27))
 have HB2 := lh ((h2.bot.alloc (.cells #[.bool s, .slice A n c, .bool t, .slice B m d] 27)).alloc (.cells #[.bool s', .slice A' n' c', .bool t', .slice B' m' d'] 27))
 have HL1 : Hid (zl p.num ≤ 100000) := Nat.le_trans (num_le p) hl
 have HL2 : Hid (zl (dval p) ≤ 100000) := Nat.le_trans (dval_le p) hl
 clear h1 h2 hl
 by_cases hn : p.num = r.num
 ·have HN : Hid (decide (p.num = r.num) = true) := decide_eq_true hn
  have HV : Hid (decide (dval p = dval r) = v) := by
   show _ = _
   rw [← hv]
   by_cases hd : dval p = dval r
   ·rw [decide_eq_true hd, decide_eq_true ((rat_eq p r).2 ⟨hn, hd⟩)]
   ·rw [decide_eq_false hd, decide_eq_false (fun h => hd ((rat_eq p r).1 h).2)]
  clear hn hv
  go_enter Tryz.func28, Tryz.ntmps28
  go_wp2_with fail
  refine (int_j HT.out HT2.out HL1.out true HN.out).mono ?_
  rintro e w1 ⟨rfl, hb1⟩
  have HP1 := lh (HP.out.below hb1)
  have HB1 := lh (HB.out.below hb1)
  have HB3 := lh (HB2.out.below hb1)
  clear hb1
  have k2 := HP1.out.i1.c2
  have k3 := HP1.out.i1.c3
  have j2 := HP1.out.i2.c2
  have j3 := HP1.out.i2.c3
  go_wp2_with fail
  refine (int_j HB1.out HB3.out HL2.out v HV.out).mono ?_
  rintro e w2 ⟨rfl, hb2⟩
  have HW := lh (below_on HP1.out.bel hb2)
  clear hb2
  go_wp2_with fail
  go_ret
  exact ⟨rfl, HW.out⟩
 ·have HN : Hid (decide (p.num = r.num) = false) := decide_eq_false hn
  have HV : Hid (false = v) := by show _ = _; rw [← hv, decide_eq_false (fun h => hn ((rat_eq p r).1 h).1)]
  clear hn hv
  go_enter Tryz.func28, Tryz.ntmps28
  go_wp2_with fail
  refine (int_j HT.out HT2.out HL1.out false HN.out).mono ?_
  rintro e w1 ⟨rfl, hb1⟩
  have HP1 := lh (HP.out.below hb1)
  clear hb1
  go_wp2_with fail
  go_ret
  rw [← HV.out]
  exact ⟨rfl, HP1.out.bel⟩
theorem shortrat_j (w : World) (s t : Bool) (A B : Option Addr) (n c m d : Nat) (k : Nat) (v : Bool) (hv : decide (n ≤ k ∧ m ≤ k) = v) :
  Calls tz 14 #[.agg #[.bool s, .slice A n c, .bool t, .slice B m d], .int .i64 (k : Int)] w (RetB w v) := by
 have HW : Hid (Below w.heap.size w (w.alloc (.cells #[.bool s, .slice A n c, .bool t, .slice B m d] 27))) := (bR _ _).alloc (lR _) _
 by_cases h1 : n ≤ k
 ·have g1 : (n : Int) ≤ (k : Int) := by omega
  by_cases h2 : m ≤ k
  ·have g2 : (m : Int) ≤ (k : Int) := by omega
   have HV : Hid (true = v) := by show _ = _; rw [← hv, decide_eq_true ⟨h1, h2⟩]
   clear h1 h2 hv
   go_enter Tryz.func14, Tryz.ntmps14
   go_wp2_with fail
   go_ret
   rw [← HV.out]
   exact ⟨rfl, HW.out⟩
  ·have g2 : ¬ (m : Int) ≤ (k : Int) := by omega
   have HV : Hid (false = v) := by show _ = _; rw [← hv, decide_eq_false (fun h => h2 h.2)]
   clear h1 h2 hv
   go_enter Tryz.func14, Tryz.ntmps14
   go_wp2_with fail
   go_ret
   rw [← HV.out]
   exact ⟨rfl, HW.out⟩
 ·have g1 : ¬ (n : Int) ≤ (k : Int) := by omega
  have HV : Hid (false = v) := by show _ = _; rw [← hv, decide_eq_false (fun h => h1 h.1)]
  clear h1 hv
  go_enter Tryz.func14, Tryz.ntmps14
  go_wp2_with fail
  go_ret
  rw [← HV.out]
  exact ⟨rfl, HW.out⟩
