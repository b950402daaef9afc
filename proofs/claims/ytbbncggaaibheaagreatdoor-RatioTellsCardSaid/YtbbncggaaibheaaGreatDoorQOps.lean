/- QOps: several texts in one. -/
import Derived.Test.YtbbncggaaibheaaGreatDoorRBoth
import Derived.Test.YtbbncggaaibheaaGreatDoorWholeC
import Derived.Test.YtbbncggaaibheaaGreatDoorQLow
import Derived.Test.YtbbncggaaibheaaGreatDoorDTop
import Derived.Test.YtbbncggaaibheaaGreatDoorLib
/- ratio: Div, Cmp, Same, Max, Min, Floor, Ceil, IsWhole, walked. -/
namespace Go.Proofs.YtbbncggaaibheaaGreatDoor.Q
open Go.RowKit

theorem sign_one (y : Rat) : qsign y = -1 ∨ qsign y = 0 ∨ qsign y = 1 := by
  rcases tri y 0 with h | h | h
  · left; rw [qsign_cmp, qcmp_lt h]
  · right; left; rw [h]; rfl
  · right; right; rw [qsign_cmp, qcmp_gt h]
theorem cmp_signs {p r : Rat} (h : qsign p ≠ qsign r) : zcmp (qsign p) (qsign r) = qcmp p r := by
  rcases tri p 0 with h1 | h1 | h1 <;> rcases tri r 0 with h2 | h2 | h2
  · exact absurd (by rw [qsign_cmp, qsign_cmp, qcmp_lt h1, qcmp_lt h2]) h
  · rw [qcmp_lt (show p < r by grind), qsign_cmp p, qcmp_lt h1, h2]; rfl
  · rw [qcmp_lt (show p < r by grind), qsign_cmp p, qcmp_lt h1, qsign_cmp r, qcmp_gt h2]; rfl
  · rw [qcmp_gt (show r < p by grind), qsign_cmp r, qcmp_lt h2, h1]; rfl
  · exact absurd (by rw [h1, h2]) h
  · rw [qcmp_lt (show p < r by grind), qsign_cmp r, qcmp_gt h2, h1]; rfl
  · rw [qcmp_gt (show r < p by grind), qsign_cmp p, qcmp_gt h1, qsign_cmp r, qcmp_lt h2]; rfl
  · rw [qcmp_gt (show r < p by grind), qsign_cmp p, qcmp_gt h1, h2]; rfl
  · exact absurd (by rw [qsign_cmp, qsign_cmp, qcmp_gt h1, qcmp_gt h2]) h
theorem zcmp_div {n d m e : Int} (hd : 0 < d) (he : 0 < e) : zcmp (n * e) (m * d) = qcmp (Rat.divInt n d) (Rat.divInt m e) := by
  rw [cmp_div hd he]
  unfold zcmp
  split
  · rfl
  · split <;> split <;> omega

/-- Two fractions that came in. -/
structure P2 (w wx : World) (s : Bool) (A : Option Addr) (n c : Nat) (t : Bool) (B : Option Addr) (m d : Nat) (s2 : Bool) (A2 : Option Addr) (n2 c2 : Nat) (t2 : Bool) (B2 : Option Addr) (m2 d2 : Nat) : Prop where
  bel : Below w.heap.size w wx
  i1 : Qbx wx w.heap.size s A n c t B m d
  i2 : Qbx wx (w.heap.size + 1) s2 A2 n2 c2 t2 B2 m2 d2
section
variable {w wx wy : World} {s t s2 t2 : Bool} {A B A2 B2 : Option Addr} {n c m d n2 c2 m2 d2 : Nat}
theorem P2.start (w : World) (s : Bool) (A : Option Addr) (n c : Nat) (t : Bool) (B : Option Addr) (m d : Nat) (s2 : Bool) (A2 : Option Addr) (n2 c2 : Nat) (t2 : Bool) (B2 : Option Addr) (m2 d2 : Nat) :
    P2 w ((w.alloc (.cells #[.bool s, .slice A n c, .bool t, .slice B m d] 28)).alloc (.cells #[.bool s2, .slice A2 n2 c2, .bool t2, .slice B2 m2 d2] 28)) s A n c t B m d s2 A2 n2 c2 t2 B2 m2 d2 :=
  ⟨((Below.refl _ _).alloc (Nat.le_refl _) _).alloc (by simp) _, (Qbx.new _ _ rfl).alloc _, Qbx.new _ _ (by simp)⟩
theorem P2.below (h : P2 w wx s A n c t B m d s2 A2 n2 c2 t2 B2 m2 d2) (hb : Below wx.heap.size wx wy) : P2 w wy s A n c t B m d s2 A2 n2 c2 t2 B2 m2 d2 := ⟨below_on h.bel hb, h.i1.below hb, h.i2.below hb⟩
theorem P2.drew (h : P2 w wx s A n c t B m d s2 A2 n2 c2 t2 B2 m2 d2) : P2 w wx.drew s A n c t B m d s2 A2 n2 c2 t2 B2 m2 d2 := h.below ((Below.refl _ _).drew)
theorem P2.keep (h : P2 w wx s A n c t B m d s2 A2 n2 c2 t2 B2 m2 d2) : wx.cell? ⟨w.heap.size, 0, none⟩ = some (.bool s) ∧ wx.cell? ⟨w.heap.size, 1, none⟩ = some (.slice A n c) ∧ wx.cell? ⟨w.heap.size, 2, none⟩ = some (.bool t) ∧ wx.cell? ⟨w.heap.size, 3, none⟩ = some (.slice B m d) ∧ wx.cell? ⟨w.heap.size + 1, 0, none⟩ = some (.bool s2) ∧ wx.cell? ⟨w.heap.size + 1, 1, none⟩ = some (.slice A2 n2 c2) ∧ wx.cell? ⟨w.heap.size + 1, 2, none⟩ = some (.bool t2) ∧ wx.cell? ⟨w.heap.size + 1, 3, none⟩ = some (.slice B2 m2 d2) :=
  ⟨h.i1.c0, h.i1.c1, h.i1.c2, h.i1.c3, h.i2.c0, h.i2.c1, h.i2.c2, h.i2.c3⟩
end

set_option maxRecDepth 100000 in
set_option maxHeartbeats 8000000 in
theorem cmp_q {w : World} {s t s' t' : Bool} {A B A' B' : Option Addr} {n c m d n' c' m' d' k : Nat} {p r : Rat} (h1 : IsQ w s A n c t B m d p k) (h2 : IsQ w s' A' n' c' t' B' m' d' r k) (hk : 1 ≤ k) (hk2 : k ≤ 700) (kk : Int) (hq : qcmp p r = kk) :
    Calls Tryz.prog 24 #[.agg #[.bool s, .slice A n c, .bool t, .slice B m d], .agg #[.bool s', .slice A' n' c', .bool t', .slice B' m' d']] w (RetI w kk) := by
  have HS := Lib.hid (P2.start w s A n c t B m d s' A' n' c' t' B' m' d')
  have HP := Lib.hid ((h1.alloc (.cells #[.bool s, .slice A n c, .bool t, .slice B m d] 28)).alloc (.cells #[.bool s', .slice A' n' c', .bool t', .slice B' m' d'] 28))
  have HR := Lib.hid ((h2.alloc (.cells #[.bool s, .slice A n c, .bool t, .slice B m d] 28)).alloc (.cells #[.bool s', .slice A' n' c', .bool t', .slice B' m' d'] 28))
  have HQ := Lib.hid hq
  obtain ⟨sy, hsy⟩ : ∃ sy, qsign p = sy := ⟨_, rfl⟩
  obtain ⟨sz, hsz⟩ : ∃ sz, qsign r = sz := ⟨_, rfl⟩
  have HSY := Lib.hid hsy
  have HSZ := Lib.hid hsz
  by_cases hne : sy = sz
  · have b1 : (sy == sz) = true := by rw [hne]; exact beq_self_eq_true _
    have b2 : (sy != sz) = false := by rw [hne]; exact bne_self_eq_false _
    clear h1 h2 hq hsy hsz hne
    go_enter Tryz.func24, Tryz.ntmps24
    go_wp2_with fail
    go_region_held3 (fun V => V.cell? ⟨w.heap.size, 0, none⟩ = some (.bool s) ∧ V.cell? ⟨w.heap.size, 1, none⟩ = some (.slice A n c) ∧ V.cell? ⟨w.heap.size, 2, none⟩ = some (.bool t) ∧ V.cell? ⟨w.heap.size, 3, none⟩ = some (.slice B m d) ∧ V.cell? ⟨w.heap.size + 1, 0, none⟩ = some (.bool s') ∧ V.cell? ⟨w.heap.size + 1, 1, none⟩ = some (.slice A' n' c') ∧ V.cell? ⟨w.heap.size + 1, 2, none⟩ = some (.bool t') ∧ V.cell? ⟨w.heap.size + 1, 3, none⟩ = some (.slice B' m' d'))
     (first | (with_reducible exact HSb.out.keep) | (with_reducible exact HSa.out.keep) | (with_reducible exact HS.out.drew.keep))
     (first
      | (go_at_call 11; (with_reducible refine (sign_q HRa.out (by omega) sz HSZ.out).mono ?_); rintro e wb ⟨rfl, hbb⟩; have HSb := Lib.hid (HSa.out.below hbb); have HPb := Lib.hid (HPa.out.below hbb); have HRb := Lib.hid (HRa.out.below hbb))
      | (go_at_call 11; (with_reducible refine (sign_q HP.out.drew (by omega) sy HSY.out).mono ?_); rintro e wa ⟨rfl, hba⟩; have HSa := Lib.hid (HS.out.drew.below hba); have HPa := Lib.hid (HP.out.drew.below hba); have HRa := Lib.hid (HR.out.drew.below hba)))
    all_goals
      clear HS HP HR HSa HPa HRa
      have HS := HSb
      have HP := HPb
      have HR := HRb
      clear HSb HPb HRb
      have k0 := HS.out.i1.c0
      have k1 := HS.out.i1.c1
      have k2 := HS.out.i1.c2
      have k3 := HS.out.i1.c3
      go_wp2_with fail
      refine (parts_any _ s t A B n c m d k p HP.out hk (by omega)).mono ?_
      rintro e w1 ⟨s1, A1, n1, c1, s2, A2, n2, c2, x, dx, rfl, hx, hdx, hdp, hqp, hb1⟩
      have HS1 := Lib.hid (HS.out.below hb1)
      have HX1 := Lib.hid hx
      have HDX1 := Lib.hid hdx
      have HR1 := Lib.hid (HR.out.below hb1)
      clear hx hdx hb1 HS HP HR
      obtain ⟨V, hV⟩ : ∃ V, (w1.alloc (.cells #[.bool s1, .slice A1 n1 c1] 25)).alloc (.cells #[.bool s2, .slice A2 n2 c2] 25) = V := ⟨_, rfl⟩
      have HV : Hid (Below w1.heap.size w1 V) := by rw [← hV]; exact ((Below.refl _ _).alloc (Nat.le_refl _) _).alloc (by simp) _
      have HI1 : Hid (Ibx V w1.heap.size s1 A1 n1 c1) := by rw [← hV]; exact (Ibx.new' _ _ _ _ _ _ rfl).alloc _
      have HJ1 : Hid (Ibx V (w1.heap.size + 1) s2 A2 n2 c2) := by rw [← hV]; exact Ibx.new' _ _ _ _ _ _ (by simp)
      have HS2 := Lib.hid (HS1.out.below HV.out)
      have HX2 := Lib.hid (HX1.out.below HV.out)
      have HDX2 := Lib.hid (HDX1.out.below HV.out)
      have HR2 := Lib.hid (HR1.out.below HV.out)
      have HLW : Hid (w.heap.size + 1 < w1.heap.size) := HS1.out.i2.lt
      have k0 := HS2.out.i2.c0
      have k1 := HS2.out.i2.c1
      have k2 := HS2.out.i2.c2
      have k3 := HS2.out.i2.c3
      clear HS1 HX1 HDX1 HR1 HV
      go_wp2_with fail
      refine (parts_any _ s' t' A' B' n' c' m' d' k r HR2.out hk (by omega)).mono ?_
      rintro e w2 ⟨s3, A3, n3, c3, s4, A4, n4, c4, y, ey, rfl, hy, hey, hep, hqr, hb2⟩
      clear hV
      have HS3 := Lib.hid (HS2.out.below hb2)
      have HI3 := Lib.hid (HI1.out.below hb2)
      have HJ3 := Lib.hid (HJ1.out.below hb2)
      have HX3 := Lib.hid (HX2.out.below hb2)
      have HDX3 := Lib.hid (HDX2.out.below hb2)
      have HY3 := Lib.hid hy
      have HEY3 := Lib.hid hey
      have HLW2 : Hid (w.heap.size + 1 < w2.heap.size) := HS3.out.i2.lt
      clear hy hey hb2 HS2 HI1 HJ1 HX2 HDX2 HR2 k0 k1 k2 k3
      obtain ⟨W, hW⟩ : ∃ W, (w2.alloc (.cells #[.bool s3, .slice A3 n3 c3] 25)).alloc (.cells #[.bool s4, .slice A4 n4 c4] 25) = W := ⟨_, rfl⟩
      have HV : Hid (Below w2.heap.size w2 W) := by rw [← hW]; exact ((Below.refl _ _).alloc (Nat.le_refl _) _).alloc (by simp) _
      have HI4 : Hid (Ibx W w2.heap.size s3 A3 n3 c3) := by rw [← hW]; exact (Ibx.new' _ _ _ _ _ _ rfl).alloc _
      have HJ4 : Hid (Ibx W (w2.heap.size + 1) s4 A4 n4 c4) := by rw [← hW]; exact Ibx.new' _ _ _ _ _ _ (by simp)
      have HS := Lib.hid (HS3.out.below HV.out)
      have HD : Hid (D4 W w1.heap.size w2.heap.size s1 A1 n1 c1 s2 A2 n2 c2 s3 A3 n3 c3 s4 A4 n4 c4 x dx y ey k) := ⟨HI3.out.below HV.out, HJ3.out.below HV.out, HI4.out, HJ4.out, HX3.out.below HV.out, HDX3.out.below HV.out, HY3.out.below HV.out, HEY3.out.below HV.out⟩
      have HQP := Lib.hid hqp
      have HQR := Lib.hid hqr
      clear HS3 HI3 HJ3 HI4 HJ4 HX3 HDX3 HY3 HEY3 HV hqp hqr
      obtain ⟨N, hN⟩ : ∃ N, x * ey = N := ⟨_, rfl⟩
      obtain ⟨M, hM⟩ : ∃ M, y * dx = M := ⟨_, rfl⟩
      have HE : Hid (zcmp N M = kk) := by
        show _ = _
        rw [← HQ.out, ← HQP.out, ← HQR.out, ← hN, ← hM]
        exact zcmp_div hdp hep
      have HNL : Hid (zl N ≤ 3000) := by show _ ≤ _; rw [← hN]; have h1 := zl_mul x ey; have h2 := HD.out.z1.zl; have h3 := HD.out.z4.zl; omega
      have HML : Hid (zl M ≤ 3000) := by show _ ≤ _; rw [← hM]; have h1 := zl_mul y dx; have h2 := HD.out.z3.zl; have h3 := HD.out.z2.zl; omega
      have HN := Lib.hid hN
      have HM := Lib.hid hM
      clear hN hM
      go_upto_region 6 with fail
      clear hW
      go_region_held3 (fun V => V.cell? ⟨w1.heap.size, 0, none⟩ = some (.bool s1) ∧ V.cell? ⟨w1.heap.size, 1, none⟩ = some (.slice A1 n1 c1) ∧ V.cell? ⟨w1.heap.size + 1, 0, none⟩ = some (.bool s2) ∧ V.cell? ⟨w1.heap.size + 1, 1, none⟩ = some (.slice A2 n2 c2) ∧ V.cell? ⟨w2.heap.size, 0, none⟩ = some (.bool s3) ∧ V.cell? ⟨w2.heap.size, 1, none⟩ = some (.slice A3 n3 c3) ∧ V.cell? ⟨w2.heap.size + 1, 0, none⟩ = some (.bool s4) ∧ V.cell? ⟨w2.heap.size + 1, 1, none⟩ = some (.slice A4 n4 c4))
       (first | (with_reducible exact HD8.out.keep) | (with_reducible exact HD6.out.keep) | (with_reducible exact HD5.out.keep) | (with_reducible exact HD.out.drew.keep))
       (first
        | (go_at_call 76; (with_reducible refine (cmp_j (HN6.out.isz HNL.out) (HM6.out.isz HML.out) (by omega)).mono ?_); rintro e w8 ⟨rfl, hb8⟩; have HS8 := Lib.hid (HS6.out.below hb8); have HD8 := Lib.hid (HD6.out.below hb8))
        | (go_at_call 71; (with_reducible refine (mul_j HD5.out.z3 HD5.out.z2 (by omega)).mono ?_); rintro e w6 ⟨s6, A6, n6, c6, rfl, h6, hb6⟩; rw [HM.out] at h6; have HS6 := Lib.hid (HS5.out.below hb6); have HD6 := Lib.hid (HD5.out.below hb6); have HN6 := Lib.hid (HN5.out.below hb6); have HM6 := Lib.hid h6)
        | (go_at_call 71; (with_reducible refine (mul_j HD.out.drew.z1 HD.out.drew.z4 (by omega)).mono ?_); rintro e w5 ⟨s5, A5, n5, c5, rfl, h5, hb5⟩; rw [HN.out] at h5; have HS5 := Lib.hid (HS.out.drew.below hb5); have HD5 := Lib.hid (HD.out.drew.below hb5); have HN5 := Lib.hid h5))
      all_goals
        go_wp2_with fail
        go_ret
        rw [HE.out]
        exact ⟨rfl, HS8.out.bel⟩
  · have HK : Hid (zcmp sy sz = kk) := by show _ = _; rw [← hq, ← hsy, ← hsz]; exact cmp_signs (by rw [hsy, hsz]; exact hne)
    have b1 : (sy == sz) = false := beq_eq_false_iff_ne.2 hne
    have b2 : (sy != sz) = true := bne_iff_ne.2 hne
    clear h1 h2 hq hsy hsz hne
    go_enter Tryz.func24, Tryz.ntmps24
    go_wp2_with fail
    go_region_held3 (fun V => V.cell? ⟨w.heap.size, 0, none⟩ = some (.bool s) ∧ V.cell? ⟨w.heap.size, 1, none⟩ = some (.slice A n c) ∧ V.cell? ⟨w.heap.size, 2, none⟩ = some (.bool t) ∧ V.cell? ⟨w.heap.size, 3, none⟩ = some (.slice B m d) ∧ V.cell? ⟨w.heap.size + 1, 0, none⟩ = some (.bool s') ∧ V.cell? ⟨w.heap.size + 1, 1, none⟩ = some (.slice A' n' c') ∧ V.cell? ⟨w.heap.size + 1, 2, none⟩ = some (.bool t') ∧ V.cell? ⟨w.heap.size + 1, 3, none⟩ = some (.slice B' m' d'))
     (first | (with_reducible exact HSb.out.keep) | (with_reducible exact HSa.out.keep) | (with_reducible exact HS.out.drew.keep))
     (first
      | (go_at_call 11; (with_reducible refine (sign_q HRa.out (by omega) sz HSZ.out).mono ?_); rintro e wb ⟨rfl, hbb⟩; have HSb := Lib.hid (HSa.out.below hbb); have HPb := Lib.hid (HPa.out.below hbb); have HRb := Lib.hid (HRa.out.below hbb))
      | (go_at_call 11; (with_reducible refine (sign_q HP.out.drew (by omega) sy HSY.out).mono ?_); rintro e wa ⟨rfl, hba⟩; have HSa := Lib.hid (HS.out.drew.below hba); have HPa := Lib.hid (HP.out.drew.below hba); have HRa := Lib.hid (HR.out.drew.below hba)))
    all_goals
      go_wp2_with fail
      refine (compare_any _ _ _).mono ?_
      rintro e wc ⟨rfl, rfl⟩
      go_wp2_with fail
      go_ret
      rw [HK.out]
      exact ⟨rfl, HSb.out.bel⟩

set_option maxRecDepth 100000 in
set_option maxHeartbeats 8000000 in
theorem same_q {w : World} {s t s' t' : Bool} {A B A' B' : Option Addr} {n c m d n' c' m' d' k : Nat} {p r : Rat} (h1 : IsQ w s A n c t B m d p k) (h2 : IsQ w s' A' n' c' t' B' m' d' r k) (hk : 1 ≤ k) (hk2 : k ≤ 700) (b : Bool) (hq : decide (p = r) = b) :
    Calls Tryz.prog 14 #[.agg #[.bool s, .slice A n c, .bool t, .slice B m d], .agg #[.bool s', .slice A' n' c', .bool t', .slice B' m' d']] w (RetB w b) := by
  have HS := Lib.hid (P2.start w s A n c t B m d s' A' n' c' t' B' m' d')
  have HP := Lib.hid ((h1.alloc (.cells #[.bool s, .slice A n c, .bool t, .slice B m d] 28)).alloc (.cells #[.bool s', .slice A' n' c', .bool t', .slice B' m' d'] 28))
  have HR := Lib.hid ((h2.alloc (.cells #[.bool s, .slice A n c, .bool t, .slice B m d] 28)).alloc (.cells #[.bool s', .slice A' n' c', .bool t', .slice B' m' d'] 28))
  obtain ⟨kk, hkk⟩ : ∃ kk, qcmp p r = kk := ⟨_, rfl⟩
  have HK := Lib.hid hkk
  have HB : Hid ((kk == 0) = b) := by
    show _ = _
    rw [← hq, ← hkk]
    by_cases h : p = r
    · rw [decide_eq_true h, qcmp_zero_iff.2 h]; rfl
    · rw [decide_eq_false h, beq_eq_false_iff_ne]; exact fun h2 => h (qcmp_zero_iff.1 h2)
  clear h1 h2 hq hkk
  go_enter Tryz.func14, Tryz.ntmps14
  go_wp2_with fail
  refine (cmp_q HP.out HR.out hk hk2 kk HK.out).mono ?_
  rintro e w1 ⟨rfl, hb1⟩
  have HS1 := Lib.hid (HS.out.below hb1)
  clear hb1
  go_wp2_with fail
  go_ret
  rw [HB.out]
  exact ⟨rfl, HS1.out.bel⟩

set_option maxRecDepth 100000 in
set_option maxHeartbeats 8000000 in
theorem max_q {w : World} {s t s' t' : Bool} {A B A' B' : Option Addr} {n c m d n' c' m' d' k : Nat} {p r : Rat} (h1 : IsQ w s A n c t B m d p k) (h2 : IsQ w s' A' n' c' t' B' m' d' r k) (hk : 1 ≤ k) (hk2 : k ≤ 700) (q : Rat) (hq : (if p < r then r else p) = q) :
    Calls Tryz.prog 21 #[.agg #[.bool s, .slice A n c, .bool t, .slice B m d], .agg #[.bool s', .slice A' n' c', .bool t', .slice B' m' d']] w (RetQ w q) := by
  have HS := Lib.hid (S2.start w s A n c t B m d s' A' n' c' t' B' m' d')
  have HP := Lib.hid (((h1.alloc (.cells #[.bool s, .slice A n c, .bool t, .slice B m d] 28)).alloc (.cells #[.bool s', .slice A' n' c', .bool t', .slice B' m' d'] 28)).alloc (.cells #[.bool false, .slice none 0 0, .bool false, .slice none 0 0] 28))
  have HR := Lib.hid (((h2.alloc (.cells #[.bool s, .slice A n c, .bool t, .slice B m d] 28)).alloc (.cells #[.bool s', .slice A' n' c', .bool t', .slice B' m' d'] 28)).alloc (.cells #[.bool false, .slice none 0 0, .bool false, .slice none 0 0] 28))
  obtain ⟨kk, hkk⟩ : ∃ kk, qcmp p r = kk := ⟨_, rfl⟩
  have HK := Lib.hid hkk
  by_cases hc : p < r
  · have hk0 : kk < 0 := by rw [← hkk]; exact qcmp_neg_iff.2 hc
    have HQ : Hid (r = q) := by show _ = _; rw [← hq, if_pos hc]
    clear h1 h2 hq hkk hc
    go_enter Tryz.func21, Tryz.ntmps21
    go_wp2_with fail
    refine (cmp_q HP.out HR.out hk hk2 kk HK.out).mono ?_
    rintro e w1 ⟨rfl, hb1⟩
    have HS1 := Lib.hid (HS.out.below hb1)
    have HR1 := Lib.hid (HR.out.below hb1)
    clear hb1
    have j0 := HS1.out.i2.c0
    have j1 := HS1.out.i2.c1
    have j2 := HS1.out.i2.c2
    have j3 := HS1.out.i2.c3
    have k0 := HS1.out.i1.c0
    have k1 := HS1.out.i1.c1
    have k2 := HS1.out.i1.c2
    have k3 := HS1.out.i1.c3
    have f0 := HS1.out.i1.f 0
    have f1 := HS1.out.i1.f 1
    have f2 := HS1.out.i1.f 2
    have f3 := HS1.out.i1.f 3
    go_wp2_with fail
    refine (norm_q (HR1.out.on4 HS1.out.i1.bx) hk (by omega)).mono ?_
    rintro e w2 ⟨s2, A2, n2, c2, t2, B2, m2, d2, rfl, h2, hb2⟩
    rw [HQ.out] at h2
    have HO2 := Lib.hid ((HS1.out.o.put4_far (show w.heap.size + 1 + 1 ≠ w.heap.size by omega)).below hb2)
    have HB2 := Lib.hid (below_on (below_put4 HS1.out.bel (Nat.le_refl _)) hb2)
    have HR2 := Lib.hid h2
    clear h2 hb2
    have o0 := HO2.out.c0
    have o1 := HO2.out.c1
    have o2 := HO2.out.c2
    have o3 := HO2.out.c3
    have f0 := HO2.out.f 0
    have f1 := HO2.out.f 1
    have f2 := HO2.out.f 2
    have f3 := HO2.out.f 3
    go_wp2_with fail
    refine bodyPost_ret (v := .agg #[.bool s2, .slice A2 n2 c2, .bool t2, .slice B2 m2 d2]) (by simp [results, Tryz.results21, go_sem, o0, o1, o2, o3]) rfl ?_
    exact retq_put HR2.out HO2.out (by omega) HB2.out
  · have hk0 : ¬ kk < 0 := by rw [← hkk]; exact fun h => hc (qcmp_neg_iff.1 h)
    have HQ : Hid (p = q) := by show _ = _; rw [← hq, if_neg hc]
    clear h1 h2 hq hkk hc
    go_enter Tryz.func21, Tryz.ntmps21
    go_wp2_with fail
    refine (cmp_q HP.out HR.out hk hk2 kk HK.out).mono ?_
    rintro e w1 ⟨rfl, hb1⟩
    have HS1 := Lib.hid (HS.out.below hb1)
    have HP1 := Lib.hid (HP.out.below hb1)
    clear hb1
    have k0 := HS1.out.i1.c0
    have k1 := HS1.out.i1.c1
    have k2 := HS1.out.i1.c2
    have k3 := HS1.out.i1.c3
    go_wp2_with fail
    refine (norm_q HP1.out hk (by omega)).mono ?_
    rintro e w2 ⟨s2, A2, n2, c2, t2, B2, m2, d2, rfl, h2, hb2⟩
    rw [HQ.out] at h2
    have HO2 := Lib.hid (HS1.out.o.below hb2)
    have HB2 := Lib.hid (below_on HS1.out.bel hb2)
    have HR2 := Lib.hid h2
    clear h2 hb2
    have o0 := HO2.out.c0
    have o1 := HO2.out.c1
    have o2 := HO2.out.c2
    have o3 := HO2.out.c3
    have f0 := HO2.out.f 0
    have f1 := HO2.out.f 1
    have f2 := HO2.out.f 2
    have f3 := HO2.out.f 3
    go_wp2_with fail
    refine bodyPost_ret (v := .agg #[.bool s2, .slice A2 n2 c2, .bool t2, .slice B2 m2 d2]) (by simp [results, Tryz.results21, go_sem, o0, o1, o2, o3]) rfl ?_
    exact retq_put HR2.out HO2.out (by omega) HB2.out

set_option maxRecDepth 100000 in
set_option maxHeartbeats 8000000 in
theorem min_q {w : World} {s t s' t' : Bool} {A B A' B' : Option Addr} {n c m d n' c' m' d' k : Nat} {p r : Rat} (h1 : IsQ w s A n c t B m d p k) (h2 : IsQ w s' A' n' c' t' B' m' d' r k) (hk : 1 ≤ k) (hk2 : k ≤ 700) (q : Rat) (hq : (if r < p then r else p) = q) :
    Calls Tryz.prog 22 #[.agg #[.bool s, .slice A n c, .bool t, .slice B m d], .agg #[.bool s', .slice A' n' c', .bool t', .slice B' m' d']] w (RetQ w q) := by
  have HS := Lib.hid (S2.start w s A n c t B m d s' A' n' c' t' B' m' d')
  have HP := Lib.hid (((h1.alloc (.cells #[.bool s, .slice A n c, .bool t, .slice B m d] 28)).alloc (.cells #[.bool s', .slice A' n' c', .bool t', .slice B' m' d'] 28)).alloc (.cells #[.bool false, .slice none 0 0, .bool false, .slice none 0 0] 28))
  have HR := Lib.hid (((h2.alloc (.cells #[.bool s, .slice A n c, .bool t, .slice B m d] 28)).alloc (.cells #[.bool s', .slice A' n' c', .bool t', .slice B' m' d'] 28)).alloc (.cells #[.bool false, .slice none 0 0, .bool false, .slice none 0 0] 28))
  obtain ⟨kk, hkk⟩ : ∃ kk, qcmp p r = kk := ⟨_, rfl⟩
  have HK := Lib.hid hkk
  by_cases hc : r < p
  · have hk0 : 0 < kk := by rw [← hkk]; exact qcmp_pos_iff.2 hc
    have HQ : Hid (r = q) := by show _ = _; rw [← hq, if_pos hc]
    clear h1 h2 hq hkk hc
    go_enter Tryz.func22, Tryz.ntmps22
    go_wp2_with fail
    refine (cmp_q HP.out HR.out hk hk2 kk HK.out).mono ?_
    rintro e w1 ⟨rfl, hb1⟩
    have HS1 := Lib.hid (HS.out.below hb1)
    have HR1 := Lib.hid (HR.out.below hb1)
    clear hb1
    have j0 := HS1.out.i2.c0
    have j1 := HS1.out.i2.c1
    have j2 := HS1.out.i2.c2
    have j3 := HS1.out.i2.c3
    have k0 := HS1.out.i1.c0
    have k1 := HS1.out.i1.c1
    have k2 := HS1.out.i1.c2
    have k3 := HS1.out.i1.c3
    have f0 := HS1.out.i1.f 0
    have f1 := HS1.out.i1.f 1
    have f2 := HS1.out.i1.f 2
    have f3 := HS1.out.i1.f 3
    go_wp2_with fail
    refine (norm_q (HR1.out.on4 HS1.out.i1.bx) hk (by omega)).mono ?_
    rintro e w2 ⟨s2, A2, n2, c2, t2, B2, m2, d2, rfl, h2, hb2⟩
    rw [HQ.out] at h2
    have HO2 := Lib.hid ((HS1.out.o.put4_far (show w.heap.size + 1 + 1 ≠ w.heap.size by omega)).below hb2)
    have HB2 := Lib.hid (below_on (below_put4 HS1.out.bel (Nat.le_refl _)) hb2)
    have HR2 := Lib.hid h2
    clear h2 hb2
    have o0 := HO2.out.c0
    have o1 := HO2.out.c1
    have o2 := HO2.out.c2
    have o3 := HO2.out.c3
    have f0 := HO2.out.f 0
    have f1 := HO2.out.f 1
    have f2 := HO2.out.f 2
    have f3 := HO2.out.f 3
    go_wp2_with fail
    refine bodyPost_ret (v := .agg #[.bool s2, .slice A2 n2 c2, .bool t2, .slice B2 m2 d2]) (by simp [results, Tryz.results22, go_sem, o0, o1, o2, o3]) rfl ?_
    exact retq_put HR2.out HO2.out (by omega) HB2.out
  · have hk0 : ¬ 0 < kk := by rw [← hkk]; exact fun h => hc (qcmp_pos_iff.1 h)
    have HQ : Hid (p = q) := by show _ = _; rw [← hq, if_neg hc]
    clear h1 h2 hq hkk hc
    go_enter Tryz.func22, Tryz.ntmps22
    go_wp2_with fail
    refine (cmp_q HP.out HR.out hk hk2 kk HK.out).mono ?_
    rintro e w1 ⟨rfl, hb1⟩
    have HS1 := Lib.hid (HS.out.below hb1)
    have HP1 := Lib.hid (HP.out.below hb1)
    clear hb1
    have k0 := HS1.out.i1.c0
    have k1 := HS1.out.i1.c1
    have k2 := HS1.out.i1.c2
    have k3 := HS1.out.i1.c3
    go_wp2_with fail
    refine (norm_q HP1.out hk (by omega)).mono ?_
    rintro e w2 ⟨s2, A2, n2, c2, t2, B2, m2, d2, rfl, h2, hb2⟩
    rw [HQ.out] at h2
    have HO2 := Lib.hid (HS1.out.o.below hb2)
    have HB2 := Lib.hid (below_on HS1.out.bel hb2)
    have HR2 := Lib.hid h2
    clear h2 hb2
    have o0 := HO2.out.c0
    have o1 := HO2.out.c1
    have o2 := HO2.out.c2
    have o3 := HO2.out.c3
    have f0 := HO2.out.f 0
    have f1 := HO2.out.f 1
    have f2 := HO2.out.f 2
    have f3 := HO2.out.f 3
    go_wp2_with fail
    refine bodyPost_ret (v := .agg #[.bool s2, .slice A2 n2 c2, .bool t2, .slice B2 m2 d2]) (by simp [results, Tryz.results22, go_sem, o0, o1, o2, o3]) rfl ?_
    exact retq_put HR2.out HO2.out (by omega) HB2.out

/-- One fraction that came in, and the place for a whole number. -/
structure SF (w wx : World) (s : Bool) (A : Option Addr) (n c : Nat) (t : Bool) (B : Option Addr) (m d : Nat) : Prop where
  bel : Below w.heap.size w wx
  i : Qbx wx w.heap.size s A n c t B m d
  o : Ibx wx (w.heap.size + 1) false none 0 0
theorem SF.start (w : World) (s : Bool) (A : Option Addr) (n c : Nat) (t : Bool) (B : Option Addr) (m d : Nat) : SF w ((w.alloc (.cells #[.bool s, .slice A n c, .bool t, .slice B m d] 28)).alloc (.cells #[.bool false, .slice none 0 0] 25)) s A n c t B m d :=
  ⟨((Below.refl _ _).alloc (Nat.le_refl _) _).alloc (by simp) _, (Qbx.new _ _ rfl).alloc _, Ibx.new' _ _ _ _ _ _ (by simp)⟩
theorem SF.below {w wx wy : World} {s t : Bool} {A B : Option Addr} {n c m d : Nat} (h : SF w wx s A n c t B m d) (hb : Below wx.heap.size wx wy) : SF w wy s A n c t B m d := ⟨below_on h.bel hb, h.i.below hb, h.o.below hb⟩
theorem zrem_pos {y z : Int} (hz : 0 < z) : zrem y z = y % z := by unfold zrem; rw [if_neg (by omega)]

set_option maxRecDepth 100000 in
set_option maxHeartbeats 8000000 in
theorem floor_q {w : World} {s t : Bool} {A B : Option Addr} {n c m d k : Nat} {p : Rat} (h1 : IsQ w s A n c t B m d p k) (hk : 1 ≤ k) (hk2 : k ≤ 700) (r : Int) (hr : p.floor = r) :
    Calls Tryz.prog 7 #[.agg #[.bool s, .slice A n c, .bool t, .slice B m d]] w (RetJ w r) := by
  have HS := Lib.hid (SF.start w s A n c t B m d)
  have HP := Lib.hid ((h1.alloc (.cells #[.bool s, .slice A n c, .bool t, .slice B m d] 28)).alloc (.cells #[.bool false, .slice none 0 0] 25))
  have HR := Lib.hid hr
  clear h1 hr
  go_enter Tryz.func7, Tryz.ntmps7
  go_wp2_with fail
  refine (parts_any _ s t A B n c m d k p HP.out hk (by omega)).mono ?_
  rintro e w1 ⟨s1, A1, n1, c1, s2, A2, n2, c2, x, dx, rfl, hx, hdx, hdp, hqp, hb1⟩
  have HS1 := Lib.hid (HS.out.below hb1)
  have HX1 := Lib.hid hx
  have HD1 := Lib.hid hdx
  have HE : Hid (x / dx = r) := by show _ = _; rw [← HR.out, ← hqp]; exact floor_div hdp
  clear hx hdx hb1 HS HP hqp
  go_wp2_with fail
  refine (divmod_j HX1.out HD1.out (by omega)).mono ?_
  rintro e w2 ⟨s3, A3, n3, c3, s4, A4, n4, c4, rfl, h3, h4, hb2⟩
  rw [HE.out] at h3
  have HS2 := Lib.hid (HS1.out.below hb2)
  have HN2 := Lib.hid h3
  clear h3 h4 hb2 HS1 HX1 HD1
  have HB2 : Hid (Below w2.heap.size w2 ((w2.alloc (.cells #[.bool s3, .slice A3 n3 c3] 25)).alloc (.cells #[.bool s4, .slice A4 n4 c4] 25))) := ((Below.refl _ _).alloc (Nat.le_refl _) _).alloc (by simp) _
  have HS3 := Lib.hid (HS2.out.below HB2.out)
  have HN3 := Lib.hid (HN2.out.below HB2.out)
  have hlt := HS2.out.o.lt
  have o0 := HS3.out.o.c0
  have o1 := HS3.out.o.c1
  have f0 := HS3.out.o.f 0
  have f1 := HS3.out.o.f 1
  go_wp2_with fail
  refine bodyPost_ret (v := .agg #[.bool s3, .slice A3 n3 c3]) (by simp [results, Tryz.results7, go_sem, o0, o1]) rfl ?_
  exact retj_put HN3.out HS3.out.o (by omega) HS3.out.bel

set_option maxRecDepth 100000 in
set_option maxHeartbeats 8000000 in
theorem ceil_q {w : World} {s t : Bool} {A B : Option Addr} {n c m d k : Nat} {p : Rat} (h1 : IsQ w s A n c t B m d p k) (hk : 1 ≤ k) (hk2 : k ≤ 700) (r : Int) (hr : p.ceil = r) :
    Calls Tryz.prog 8 #[.agg #[.bool s, .slice A n c, .bool t, .slice B m d]] w (RetJ w r) := by
  have HS := Lib.hid (SF.start w s A n c t B m d)
  have HP := Lib.hid ((h1.flip.alloc (.cells #[.bool s, .slice A n c, .bool t, .slice B m d] 28)).alloc (.cells #[.bool false, .slice none 0 0] 25))
  obtain ⟨fl, hfl⟩ : ∃ fl, (-p).floor = fl := ⟨_, rfl⟩
  have HFL := Lib.hid hfl
  have HR : Hid (-fl = r) := by show _ = _; rw [← hr, ← hfl, Rat.ceil_eq_neg_floor_neg]
  have hql := h1.flip.ql hk
  have HZL : Hid (zl fl ≤ 3000) := by
    show _ ≤ _
    rw [← hfl, Rat.floor_def]
    have h5 := zl_quo (-p).num ((-p).den : Int)
    have h6 := num_le (-p)
    omega
  clear h1 hr hfl hql
  go_enter Tryz.func8, Tryz.ntmps8
  go_wp2_with fail
  refine (turned_any _ s t A B n c m d).mono ?_
  rintro e w1 ⟨rfl, hb1⟩
  have HS1 := Lib.hid (HS.out.below hb1)
  have HP1 := Lib.hid (HP.out.below hb1)
  clear hb1 HS HP
  go_wp2_with fail
  refine (floor_q HP1.out hk hk2 fl HFL.out).mono ?_
  rintro e w2 ⟨s3, A3, n3, c3, rfl, h3, hb2⟩
  have HS2 := Lib.hid (HS1.out.below hb2)
  have HN2 := Lib.hid (h3.isz HZL.out)
  clear h3 hb2
  go_wp2_with fail
  refine (neg_j HN2.out (by omega)).mono ?_
  rintro e w3 ⟨s4, A4, n4, c4, rfl, h4, hb3⟩
  rw [HR.out] at h4
  have HS3 := Lib.hid (HS2.out.below hb3)
  have HN3 := Lib.hid h4
  clear h4 hb3
  have o0 := HS3.out.o.c0
  have o1 := HS3.out.o.c1
  have f0 := HS3.out.o.f 0
  have f1 := HS3.out.o.f 1
  go_wp2_with fail
  refine bodyPost_ret (v := .agg #[.bool s4, .slice A4 n4 c4]) (by simp [results, Tryz.results8, go_sem, o0, o1]) rfl ?_
  exact retj_put HN3.out HS3.out.o (by omega) HS3.out.bel

set_option maxRecDepth 100000 in
set_option maxHeartbeats 8000000 in
theorem iswhole_q {w : World} {s t : Bool} {A B : Option Addr} {n c m d k : Nat} {p : Rat} (h1 : IsQ w s A n c t B m d p k) (hk : 1 ≤ k) (hk2 : k ≤ 700) (b : Bool) (hb : decide (p.den = 1) = b) :
    Calls Tryz.prog 23 #[.agg #[.bool s, .slice A n c, .bool t, .slice B m d]] w (RetB w b) := by
  have HW : Hid (Below w.heap.size w (w.alloc (.cells #[.bool s, .slice A n c, .bool t, .slice B m d] 28))) := (Below.refl _ _).alloc (Nat.le_refl _) _
  have HP := Lib.hid (h1.alloc (.cells #[.bool s, .slice A n c, .bool t, .slice B m d] 28))
  have HB := Lib.hid hb
  clear h1 hb
  go_enter Tryz.func23, Tryz.ntmps23
  go_wp2_with fail
  refine (parts_any _ s t A B n c m d k p HP.out hk (by omega)).mono ?_
  rintro e w1 ⟨s1, A1, n1, c1, s2, A2, n2, c2, x, dx, rfl, hx, hdx, hdp, hqp, hb1⟩
  have HW1 := Lib.hid (below_on HW.out hb1)
  have HX1 := Lib.hid hx
  have HD1 := Lib.hid hdx
  obtain ⟨rm, hrm⟩ : ∃ rm, zrem x dx = rm := ⟨_, rfl⟩
  have HZL : Hid (zl rm ≤ 3000) := by show _ ≤ _; rw [← hrm]; have h1 := zl_rem x dx; have h2 := hx.zl; have h3 := hdx.zl; omega
  obtain ⟨sg, hsg⟩ : ∃ sg, rm.sign = sg := ⟨_, rfl⟩
  have HSG := Lib.hid hsg
  have HE : Hid ((sg == 0) = b) := by
    show _ = _
    rw [← HB.out, ← hsg, ← hrm, zrem_pos hdp, ← hqp]
    by_cases h : (Rat.divInt x dx).den = 1
    · rw [decide_eq_true h, (whole_iff hdp).2 h]; rfl
    · rw [decide_eq_false h, beq_eq_false_iff_ne]; exact fun h2 => h ((whole_iff hdp).1 (Int.sign_eq_zero_iff_zero.1 h2))
  have HRM := Lib.hid hrm
  clear hx hdx hb1 hqp hrm hsg
  go_wp2_with fail
  refine (divmod_j HX1.out HD1.out (by omega)).mono ?_
  rintro e w2 ⟨s3, A3, n3, c3, s4, A4, n4, c4, rfl, h3, h4, hb2⟩
  rw [HRM.out] at h4
  have HB2 : Hid (Below w2.heap.size w2 ((w2.alloc (.cells #[.bool s3, .slice A3 n3 c3] 25)).alloc (.cells #[.bool s4, .slice A4 n4 c4] 25))) := ((Below.refl _ _).alloc (Nat.le_refl _) _).alloc (by simp) _
  have HW3 := Lib.hid (below_on (below_on HW1.out hb2) HB2.out)
  have HN3 := Lib.hid ((h4.isz HZL.out).below HB2.out)
  clear h3 h4 hb2
  go_wp2_with fail
  refine (sign_j HN3.out (by omega) sg HSG.out).mono ?_
  rintro e w4 ⟨rfl, hb4⟩
  have HW4 := Lib.hid (below_on HW3.out hb4)
  clear hb4
  go_wp2_with fail
  go_ret
  rw [HE.out]
  exact ⟨rfl, HW4.out⟩

/-- A fraction and an error's number. -/
def RetQE (w : World) (q : Rat) (code : Int) (e : Ending) (w' : World) : Prop :=
  ∃ s A n c t B m d, e = .returned (.tuple #[.agg #[.bool s, .slice A n c, .bool t, .slice B m d], .int .i64 code]) ∧ OneQ w' s A n c t B m d q ∧ Below w.heap.size w w'
theorem retqe_put {w wx : World} {g : Nat} {s0 : Bool} {A0 : Option Addr} {n0 c0 : Nat} {t0 : Bool} {B0 : Option Addr} {m0 d0 : Nat} {s : Bool} {A : Option Addr} {n c : Nat} {t : Bool} {B : Option Addr} {m d : Nat} {q : Rat} {code : Int} (h : OneQ wx s A n c t B m d q) (ho : Qbx wx g s0 A0 n0 c0 t0 B0 m0 d0) (hg : w.heap.size ≤ g) (hb : Below w.heap.size w wx) :
    RetQE w q code (.returned (.tuple #[.agg #[.bool s, .slice A n c, .bool t, .slice B m d], .int .i64 code])) (put4 wx g s A n c t B m d) := ⟨s, A, n, c, t, B, m, d, rfl, h.on4 ho.bx, below_put4 hb hg⟩

set_option maxRecDepth 100000 in
set_option maxHeartbeats 8000000 in
theorem div_q {w : World} {s t s' t' : Bool} {A B A' B' : Option Addr} {n c m d n' c' m' d' k : Nat} {p r : Rat} (h1 : IsQ w s A n c t B m d p k) (h2 : IsQ w s' A' n' c' t' B' m' d' r k) (hk : 1 ≤ k) (hk2 : k ≤ 700) (q : Rat) (code : Int) (hq : p / r = q) (hc : (if r = 0 then 10 else 0) = code) :
    Calls Tryz.prog 32 #[.agg #[.bool s, .slice A n c, .bool t, .slice B m d], .agg #[.bool s', .slice A' n' c', .bool t', .slice B' m' d']] w (RetQE w q code) := by
  have HS := Lib.hid (S2.start w s A n c t B m d s' A' n' c' t' B' m' d')
  have HP := Lib.hid (((h1.alloc (.cells #[.bool s, .slice A n c, .bool t, .slice B m d] 28)).alloc (.cells #[.bool s', .slice A' n' c', .bool t', .slice B' m' d'] 28)).alloc (.cells #[.bool false, .slice none 0 0, .bool false, .slice none 0 0] 28))
  have HR := Lib.hid (((h2.alloc (.cells #[.bool s, .slice A n c, .bool t, .slice B m d] 28)).alloc (.cells #[.bool s', .slice A' n' c', .bool t', .slice B' m' d'] 28)).alloc (.cells #[.bool false, .slice none 0 0, .bool false, .slice none 0 0] 28))
  by_cases h0 : r = 0
  · have HQ : Hid (q = 0) := by show _ = _; rw [← hq, h0]; exact (by grind)
    have HZ : Hid (qsign r = 0) := by show _ = _; rw [h0]; rfl
    have HC : Hid ((10 : Int) = code) := by show _ = _; rw [← hc, if_pos h0]
    clear h1 h2 hq hc h0
    go_enter Tryz.func32, Tryz.ntmps32
    go_wp2_with fail
    refine (sign_q HR.out (by omega) 0 HZ.out).mono ?_
    rintro e w1 ⟨rfl, hb1⟩
    have HS1 := Lib.hid (HS.out.below hb1)
    clear hb1
    have o0 := HS1.out.o.c0
    have o1 := HS1.out.o.c1
    have o2 := HS1.out.o.c2
    have o3 := HS1.out.o.c3
    have f0 := HS1.out.o.f 0
    have f1 := HS1.out.o.f 1
    have f2 := HS1.out.o.f 2
    have f3 := HS1.out.o.f 3
    go_wp2_with fail
    refine bodyPost_ret (v := .tuple #[.agg #[.bool false, .slice none 0 0, .bool false, .slice none 0 0], .int .i64 10]) (by simp [results, Tryz.results32, go_sem, o0, o1, o2, o3]) rfl ?_
    rw [HQ.out, ← HC.out]
    exact retqe_put (oneq_zero _ 0 0) HS1.out.o (by omega) HS1.out.bel
  · obtain ⟨sg, hsg⟩ : ∃ sg, qsign r = sg := ⟨_, rfl⟩
    have HZ := Lib.hid hsg
    have hs0 : (sg == 0) = false := by rw [beq_eq_false_iff_ne, ← hsg]; exact fun h => h0 (qsign_zero_iff.1 h)
    have HQ := Lib.hid hq
    have HC : Hid ((0 : Int) = code) := by show _ = _; rw [← hc, if_neg h0]
    clear h1 h2 hq hc h0 hsg
    go_enter Tryz.func32, Tryz.ntmps32
    go_wp2_with fail
    refine (sign_q HR.out (by omega) sg HZ.out).mono ?_
    rintro e w1 ⟨rfl, hb1⟩
    have HS1 := Lib.hid (HS.out.below hb1)
    have HP1 := Lib.hid (HP.out.below hb1)
    have HR1 := Lib.hid (HR.out.below hb1)
    clear hb1
    have k0 := HS1.out.i1.c0
    have k1 := HS1.out.i1.c1
    have k2 := HS1.out.i1.c2
    have k3 := HS1.out.i1.c3
    have j0 := HS1.out.i2.c0
    have j1 := HS1.out.i2.c1
    have j2 := HS1.out.i2.c2
    have j3 := HS1.out.i2.c3
    go_wp2_with fail
    refine (quo_q HP1.out HR1.out hk hk2 q HQ.out).mono ?_
    rintro e w2 ⟨s2, A2, n2, c2, t2, B2, m2, d2, rfl, h2, hb2⟩
    have HS2 := Lib.hid (HS1.out.below hb2)
    have HR2 := Lib.hid h2
    clear h2 hb2
    have o0 := HS2.out.o.c0
    have o1 := HS2.out.o.c1
    have o2 := HS2.out.o.c2
    have o3 := HS2.out.o.c3
    have f0 := HS2.out.o.f 0
    have f1 := HS2.out.o.f 1
    have f2 := HS2.out.o.f 2
    have f3 := HS2.out.o.f 3
    go_wp2_with fail
    refine bodyPost_ret (v := .tuple #[.agg #[.bool s2, .slice A2 n2 c2, .bool t2, .slice B2 m2 d2], .int .i64 0]) (by simp [results, Tryz.results32, go_sem, o0, o1, o2, o3]) rfl ?_
    rw [← HC.out]
    exact retqe_put HR2.out HS2.out.o (by omega) HS2.out.bel

end Go.Proofs.YtbbncggaaibheaaGreatDoor.Q

/- ratio: Text, Parse, walked. -/
namespace Go.Proofs.YtbbncggaaibheaaGreatDoor.Q
open Go.RowKit
open Go.Proofs.YtbbncggaaibheaaGreatDoor.D (textOf parseV Tab RetS RetPZ text_at parse_at sizeText nd_le isNumB behind signed dnum num_all dnum_lt dig_len10)

/-- What Text tells. -/
def qtext (p : Rat) : List UInt8 := if p.den = 1 then textOf p.num else textOf p.num ++ 47 :: textOf (p.den : Int)
theorem textOf_len (z : Int) (k : Nat) (hz : zl z ≤ k) (hk : 0 < k) : (textOf z).length ≤ 20 * k + 1 := by
  have h1 : (Lib.decDigits z.natAbs).length ≤ 20 * k := by
    rw [Lib.decDigits_length]
    refine nd_le (by omega) ?_
    have h2 := val_lt (dig_digs z.natAbs)
    rw [val_dig] at h2
    refine Nat.lt_of_lt_of_le h2 ?_
    refine Nat.le_trans (Nat.pow_le_pow_right B64_pos hz) ?_
    rw [Nat.pow_mul]
    exact Nat.pow_le_pow_left (by rw [B64_eq]; decide) k
  unfold textOf
  split
  · simp
  · split
    · rw [List.length_cons]; omega
    · omega
theorem cat_any {a b l : List UInt8} (h : a ++ b = l) : (⟨a.toArray⟩ ++ ⟨b.toArray⟩ : ByteArray) = ⟨l.toArray⟩ := by
  subst h
  apply ByteArray.ext
  simp
theorem text_j {w : World} {s : Bool} {A : Option Addr} {n c k : Nat} {z : Int} (h : IsZ w s A n c z k) (hk : k ≤ 1000) (htab : Tab w) (l : List UInt8) (hl : textOf z = l) :
    Calls Tryz.prog 97 #[.agg #[.bool s, .slice A n c]] w (RetS w l) := by
  obtain ⟨xs, rfl, ha, hx⟩ := h.ex
  exact text_at w s A c xs z l ha hx hl (by have := h.le; omega) h.cap htab
/-- A whole number and an error's number. -/
def RetZE (w : World) (z code : Int) (e : Ending) (w' : World) : Prop :=
  ∃ s A n c, e = .returned (.tuple #[.agg #[.bool s, .slice A n c], .int .i64 code]) ∧ OneZ w' s A n c z ∧ Below w.heap.size w w'
theorem parse_j (w : World) (l : List UInt8) (z code : Int) (hz : parseV l = (z, code)) (hl : l.length ≤ 1000000) :
    Calls Tryz.prog 78 #[.string ⟨l.toArray⟩] w (RetZE w z code) := by
  refine (parse_at w l z code hz hl).mono ?_
  rintro e w' ⟨A, c, rfl, hc, hn, hb⟩
  exact ⟨_, _, _, _, rfl, ⟨rfl, rfl, hn, hc⟩, hb⟩
theorem parse_size (l : List UInt8) : zl (parseV l).1 ≤ 1000 := by
  have h0 : zl 0 ≤ 1000 := by show (dig ((0 : Int).natAbs)).length ≤ 1000; rw [show (0 : Int).natAbs = 0 from rfl, dig_zero]; exact Nat.zero_le _
  unfold parseV
  by_cases hn : isNumB (behind l) (signed l) = true
  · rw [if_pos hn]
    by_cases hl : 600 < (behind l).length
    · rw [if_pos hl]; exact h0
    · rw [if_neg hl]
      show (dig (zv (signed l) (dnum (behind l))).natAbs).length ≤ 1000
      rw [zv_natAbs]
      exact Nat.le_trans (dig_len10 (dnum_lt _ _ rfl (num_all hn))) (by omega)
  · rw [if_neg hn]; exact h0

set_option maxRecDepth 100000 in
set_option maxHeartbeats 8000000 in
theorem text_q {w : World} {s t : Bool} {A B : Option Addr} {n c m d k : Nat} {p : Rat} (h1 : IsQ w s A n c t B m d p k) (hk : 1 ≤ k) (hk2 : k ≤ 700) (htab : Tab w) (l : List UInt8) (hl : qtext p = l) :
    Calls Tryz.prog 48 #[.agg #[.bool s, .slice A n c, .bool t, .slice B m d]] w (RetS w l) := by
  have HW : Hid (Below w.heap.size w (w.alloc (.cells #[.bool s, .slice A n c, .bool t, .slice B m d] 28))) := (Below.refl _ _).alloc (Nat.le_refl _) _
  have HI : Hid (Qbx (w.alloc (.cells #[.bool s, .slice A n c, .bool t, .slice B m d] 28)) w.heap.size s A n c t B m d) := Qbx.new _ _ rfl
  have HP := Lib.hid (h1.alloc (.cells #[.bool s, .slice A n c, .bool t, .slice B m d] 28))
  have HT := Lib.hid htab
  have hql := h1.ql hk
  have h2 := num_le p
  have h3 := den_le p
  have h4 := den_zl p
  obtain ⟨X, hX⟩ : ∃ X, textOf p.num = X := ⟨_, rfl⟩
  obtain ⟨Y, hY⟩ : ∃ Y, textOf (p.den : Int) = Y := ⟨_, rfl⟩
  have hXl := textOf_len p.num k (by omega) (by omega)
  have hYl := textOf_len (p.den : Int) k (by omega) (by omega)
  rw [hX] at hXl
  rw [hY] at hYl
  have HX := Lib.hid hX
  have HY := Lib.hid hY
  have HNL : Hid (zl p.num ≤ 1000) := by show _ ≤ _; omega
  have HDL : Hid (zl (p.den : Int) ≤ 1000) := by show _ ≤ _; omega
  unfold qtext at hl
  rw [hX, hY] at hl
  by_cases hd : p.den = 1
  · rw [if_pos hd] at hl
    have HM : Hid (∀ {w : World} {s t : Bool} {A B : Option Addr} {n c m d : Nat}, OneQ w s A n c t B m d p → ((m : Int) == 0) = true) := by
      intro w s t A B n c m d h
      have := h.em
      unfold dden at this
      rw [if_pos hd] at this
      rw [this]; rfl
    have HL := Lib.hid hl
    clear h1 htab hql h2 h3 h4 hX hY hXl hYl hl hd
    go_enter Tryz.func48, Tryz.ntmps48
    go_wp2_with fail
    refine (norm_q HP.out hk (by omega)).mono ?_
    rintro e w1 ⟨s1, A1, n1, c1, t1, B1, m1, d1, rfl, h1, hb1⟩
    have hm0 := HM.out h1
    have HW1 := Lib.hid (below_put4 (s' := s1) (A' := A1) (n' := n1) (c' := c1) (t' := t1) (B' := B1) (m' := m1) (d' := d1) (below_on HW.out hb1) (Nat.le_refl w.heap.size))
    have HI1 := Lib.hid (HI.out.below hb1)
    have HN1 := Lib.hid (h1.top.on4 (s' := s1) (A' := A1) (n' := n1) (c' := c1) (t' := t1) (B' := B1) (m' := m1) (d' := d1) HI1.out.bx)
    clear h1 hb1
    have o0 := HI1.out.c0
    have o1 := HI1.out.c1
    have o2 := HI1.out.c2
    have o3 := HI1.out.c3
    have f0 := HI1.out.f 0
    have f1 := HI1.out.f 1
    have f2 := HI1.out.f 2
    have f3 := HI1.out.f 3
    go_wp2_with fail
    refine (text_j (HN1.out.isz HNL.out) (by omega) (HT.out.below HW1.out) X HX.out).mono ?_
    rintro e w2 ⟨rfl, hb2⟩
    have HW2 := Lib.hid (below_on HW1.out hb2)
    clear hb2
    go_wp2_with fail
    go_ret
    rw [HL.out]
    exact ⟨rfl, HW2.out⟩
  · rw [if_neg hd] at hl
    have HM : Hid (∀ {w : World} {s t : Bool} {A B : Option Addr} {n c m d : Nat}, OneQ w s A n c t B m d p → ((m : Int) == 0) = false ∧ OneZ w t B m d (p.den : Int)) := by
      intro w s t A B n c m d h
      have e := h.em
      unfold dden at e
      rw [if_neg hd] at e
      have hne : (dig p.den).length ≠ 0 := fun h2 => p.den_nz (dig_nil_iff.1 h2)
      refine ⟨by rw [beq_eq_false_iff_ne]; omega, ?_, by rw [e, den_zl], ?_, h.cap2⟩
      · rw [h.et]; unfold zneg; exact (decide_eq_false (by omega)).symm
      · have h5 := h.den
        unfold dden at h5
        rw [if_neg hd] at h5
        rw [Int.natAbs_natCast]; exact h5
    obtain ⟨U, hU⟩ : ∃ U, X ++ [47] = U := ⟨_, rfl⟩
    have hUl : U.length = X.length + 1 := by rw [← hU]; simp
    have hUY : U ++ Y = l := by rw [← hl, ← hU]; simp
    have c1 := cat_any hU
    have c2 := cat_any hUY
    have b1 : ¬ (9223372036854775807 < X.length + 1) := by omega
    have b2 : ¬ (9223372036854775807 < U.length + Y.length) := by omega
    clear h1 htab hql h2 h3 h4 hX hY hXl hYl hl hd hU hUl hUY
    go_enter Tryz.func48, Tryz.ntmps48
    go_wp2_with fail
    refine (norm_q HP.out hk (by omega)).mono ?_
    rintro e w1 ⟨s1, A1, n1, c1', t1, B1, m1, d1, rfl, h1, hb1⟩
    obtain ⟨hm0, hden⟩ := HM.out h1
    have HW1 := Lib.hid (below_put4 (s' := s1) (A' := A1) (n' := n1) (c' := c1') (t' := t1) (B' := B1) (m' := m1) (d' := d1) (below_on HW.out hb1) (Nat.le_refl w.heap.size))
    have HI1 := Lib.hid (HI.out.below hb1)
    have HN1 := Lib.hid (h1.top.on4 (s' := s1) (A' := A1) (n' := n1) (c' := c1') (t' := t1) (B' := B1) (m' := m1) (d' := d1) HI1.out.bx)
    have HD1 := Lib.hid (hden.on4 (s' := s1) (A' := A1) (n' := n1) (c' := c1') (t' := t1) (B' := B1) (m' := m1) (d' := d1) HI1.out.bx)
    have HJ1 := Lib.hid (HI1.out.put (s' := s1) (A' := A1) (n' := n1) (c' := c1') (t' := t1) (B' := B1) (m' := m1) (d' := d1))
    clear h1 hden hb1
    have o0 := HI1.out.c0
    have o1 := HI1.out.c1
    have o2 := HI1.out.c2
    have o3 := HI1.out.c3
    have f0 := HI1.out.f 0
    have f1 := HI1.out.f 1
    have f2 := HI1.out.f 2
    have f3 := HI1.out.f 3
    go_wp2_with fail
    go_region_held3 (fun V => V.cell? ⟨w.heap.size, 0, none⟩ = some (.bool s1) ∧ V.cell? ⟨w.heap.size, 1, none⟩ = some (.slice A1 n1 c1') ∧ V.cell? ⟨w.heap.size, 2, none⟩ = some (.bool t1) ∧ V.cell? ⟨w.heap.size, 3, none⟩ = some (.slice B1 m1 d1))
     (first | (with_reducible exact ⟨HJ3.out.c0, HJ3.out.c1, HJ3.out.c2, HJ3.out.c3⟩) | (with_reducible exact ⟨HJ2.out.c0, HJ2.out.c1, HJ2.out.c2, HJ2.out.c3⟩) | (with_reducible exact ⟨HJ1.out.drew.c0, HJ1.out.drew.c1, HJ1.out.drew.c2, HJ1.out.drew.c3⟩))
     (first
      | (go_at_call 97; (with_reducible refine (text_j (HD2.out.isz HDL.out) (by omega) (HT.out.below HW2.out) Y HY.out).mono ?_); rintro e w3 ⟨rfl, hb3⟩; have HW3 := Lib.hid (below_on HW2.out hb3); have HJ3 := Lib.hid (HJ2.out.below hb3))
      | (go_at_call 97; (with_reducible refine (text_j (HN1.out.drew.isz HNL.out) (by omega) (HT.out.below HW1.out.drew) X HX.out).mono ?_); rintro e w2 ⟨rfl, hb2⟩; have HW2 := Lib.hid (below_on HW1.out.drew hb2); have HJ2 := Lib.hid (HJ1.out.drew.below hb2); have HD2 := Lib.hid (HD1.out.drew.below hb2)))
    all_goals
      go_wp2_with fail
      go_ret
      exact ⟨rfl, HW3.out⟩

end Go.Proofs.YtbbncggaaibheaaGreatDoor.Q

/- The law's helpers: whether numbers are the same, short. -/
namespace Go.Proofs.YtbbncggaaibheaaGreatDoor.Q
open Go.RowKit
open Go.Proofs.YtbbncggaaibheaaGreatDoor.D (textOf parseV Tab RetS)

set_option maxHeartbeats 800000 in
theorem same_no (w : World) (A B : Option Addr) (c d : Nat) (xs ys : List Nat) (ha : Num w A xs) (hb : Num w B ys) (hn : xs.length ≤ 1099511627776) (hl : xs.length = ys.length) (hne : xs ≠ ys) :
    Calls Tryz.prog 67 #[.slice A xs.length c, .slice B xs.length d] w (RetB w false) := by
  have HA := Lib.hid ha
  have HB := Lib.hid hb
  have HL := Lib.hid hl
  have HN := Lib.hid hne
  clear ha hb hl hne
  go_enter Tryz.func67, Tryz.ntmps67
  go_wp2
  go_loopw [5] (fun i wr => ∃ k : Nat, k ≤ xs.length ∧ i = .int .i64 k ∧ Below w.heap.size w wr ∧ Hid (∀ j, j < k → dg xs j = dg ys j)) (fun i _ => xs.length - (intOf i).toNat)
  case atStart => exact ⟨0, Nat.zero_le _, rfl, Below.refl _ _, fun j hj => absurd hj (Nat.not_lt_zero j)⟩
  case round =>
    obtain ⟨k, hk, rfl, hbw, HK⟩ := hrel
    by_cases hlt : k < xs.length
    · obtain ⟨b, off, rfl, hbl, hc1⟩ := HA.out.at_ (by omega)
      obtain ⟨b', off', rfl, hbl', hc2⟩ := HB.out.at_ (by have := HL.out; omega)
      have h1 := (hbw.cell (p := ⟨b, off + k, none⟩) hbl).trans (hc1 k hlt)
      have h2 := (hbw.cell (p := ⟨b', off' + k, none⟩) hbl').trans (hc2 k (by have := HL.out; omega))
      have hlt' : (k : Int) < (xs.length : Int) := by omega
      clear hc1 hc2
      have HBW := Lib.hid hbw
      clear hbw
      obtain ⟨x, hx⟩ : ∃ x : Int, ((dg xs k : Nat) : Int) = x := ⟨_, rfl⟩
      obtain ⟨y, hy⟩ : ∃ y : Int, ((dg ys k : Nat) : Int) = y := ⟨_, rfl⟩
      rw [hx] at h1
      rw [hy] at h2
      by_cases hxy : x = y
      · have HE : Hid (dg xs k = dg ys k) := by show _ = _; omega
        have b1 : (x == y) = true := beq_iff_eq.2 hxy
        have b2 : (x != y) = false := by rw [hxy]; exact bne_self_eq_false _
        clear hx hy hxy
        go_wp2
        go_quiet (fail)
        go_wp2
        go_roundw
        case rel =>
          refine ⟨k + 1, by omega, by go_num, below_drewN HBW.out _, fun j hj => ?_⟩
          rcases Nat.lt_or_ge j k with h | h
          · exact HK.out j h
          · rw [show j = k by omega]; exact HE.out
        case measure => simp [intOf]; omega
      · have b1 : (x == y) = false := beq_eq_false_iff_ne.2 hxy
        have b2 : (x != y) = true := bne_iff_ne.2 hxy
        clear hx hy hxy
        go_wp2
        go_quiet (fail)
        go_wp2
        go_ret
        exact ⟨rfl, below_drewN HBW.out _⟩
    · exact absurd (ext_dg HL.out (fun j hj => HK.out j (by omega))) HN.out
set_option maxHeartbeats 800000 in
theorem same_len (w : World) (A B : Option Addr) (n c m d : Nat) (hl : n ≠ m) :
    Calls Tryz.prog 67 #[.slice A n c, .slice B m d] w (RetB w false) := by
  have b1 : ((n : Int) == (m : Int)) = false := beq_eq_false_iff_ne.2 (by omega)
  have b2 : ((n : Int) != (m : Int)) = true := bne_iff_ne.2 (by omega)
  clear hl
  go_enter Tryz.func67, Tryz.ntmps67
  go_wp2
  go_ret
  exact ⟨rfl, Below.refl _ _⟩
theorem words_j {w : World} {A B : Option Addr} {n c m d : Nat} {a b : Nat} (ha : Num w A (dig a)) (hb : Num w B (dig b)) (hn : n = (dig a).length) (hm : m = (dig b).length) (hl : n ≤ 1000000) (v : Bool) (hv : decide (a = b) = v) :
    Calls Tryz.prog 67 #[.slice A n c, .slice B m d] w (RetB w v) := by
  subst hn hm hv
  by_cases h : a = b
  · subst h
    rw [decide_eq_true rfl]
    exact same_yes w A B c d (dig a) ha hb (by omega)
  · rw [decide_eq_false h]
    by_cases h2 : (dig a).length = (dig b).length
    · have h3 := same_no w A B c d (dig a) (dig b) ha hb (by omega) h2 (fun e => h (dig_inj e))
      rw [h2] at h3 ⊢
      exact h3
    · exact same_len w A B _ c _ d h2
/-- Two structs that came in. -/
structure PI (w wx : World) (s : Bool) (A : Option Addr) (n c : Nat) (t : Bool) (B : Option Addr) (m d : Nat) : Prop where
  bel : Below w.heap.size w wx
  i1 : Ibx wx w.heap.size s A n c
  i2 : Ibx wx (w.heap.size + 1) t B m d
theorem PI.start (w : World) (s : Bool) (A : Option Addr) (n c : Nat) (t : Bool) (B : Option Addr) (m d : Nat) : PI w ((w.alloc (.cells #[.bool s, .slice A n c] 25)).alloc (.cells #[.bool t, .slice B m d] 25)) s A n c t B m d :=
  ⟨((Below.refl _ _).alloc (Nat.le_refl _) _).alloc (by simp) _, (Ibx.new' _ _ _ _ _ _ rfl).alloc _, Ibx.new' _ _ _ _ _ _ (by simp)⟩

set_option maxRecDepth 100000 in
set_option maxHeartbeats 2000000 in
theorem int_j {w : World} {s t : Bool} {A B : Option Addr} {n c m d : Nat} {y z : Int} (h1 : OneZ w s A n c y) (h2 : OneZ w t B m d z) (hl : zl y ≤ 100000) (v : Bool) (hv : decide (y = z) = v) :
    Calls Tryz.prog 10 #[.agg #[.bool s, .slice A n c], .agg #[.bool t, .slice B m d]] w (RetB w v) := by
  have HP := Lib.hid (PI.start w s A n c t B m d)
  obtain ⟨u, hu⟩ : ∃ u, decide (y.natAbs = z.natAbs) = u := ⟨_, rfl⟩
  have HC := Lib.hid (words_j (c := c) (d := d) ((h1.num.alloc (.cells #[.bool s, .slice A n c] 25)).alloc (.cells #[.bool t, .slice B m d] 25)) ((h2.num.alloc (.cells #[.bool s, .slice A n c] 25)).alloc (.cells #[.bool t, .slice B m d] 25)) h1.en h2.en (by rw [h1.en]; omega) u hu)
  by_cases hst : s = t
  · have HV : Hid (u = v) := by
      show _ = _
      rw [← hu, ← hv]
      have e1 := h1.es
      have e2 := h2.es
      rw [hst, e2] at e1
      have h3 := zv_zneg y
      have h4 := zv_zneg z
      by_cases h : y.natAbs = z.natAbs
      · rw [decide_eq_true h, decide_eq_true]; rw [← h3, ← h4, e1, h]
      · rw [decide_eq_false h, decide_eq_false]; intro h5; exact h (by rw [h5])
    have b1 : (s == t) = true := by rw [hst]; cases t <;> rfl
    clear h1 h2 hu hv hst
    go_enter Tryz.func10, Tryz.ntmps10
    go_wp2_with fail
    refine HC.out.mono ?_
    rintro e w1 ⟨rfl, hb1⟩
    have HB := Lib.hid (below_on HP.out.bel hb1)
    clear hb1
    go_wp2_with fail
    go_ret
    rw [HV.out]
    exact ⟨rfl, HB.out⟩
  · have HV : Hid (false = v) := by
      show _ = _
      rw [← hv, decide_eq_false]
      intro h5
      exact hst (by rw [h1.es, h2.es, h5])
    have b1 : (s == t) = false := by cases s <;> cases t <;> first | rfl | exact absurd rfl hst
    clear h1 h2 hu hv hst HC
    go_enter Tryz.func10, Tryz.ntmps10
    go_wp2_with fail
    go_ret
    rw [← HV.out]
    exact ⟨rfl, HP.out.bel⟩

/-- What stands below the line: 0, where nothing stands. -/
def dval (q : Rat) : Int := if q.den = 1 then 0 else (q.den : Int)
theorem OneQ.bot {w : World} {s t : Bool} {A B : Option Addr} {n c m d : Nat} {q : Rat} (h : OneQ w s A n c t B m d q) : OneZ w t B m d (dval q) := by
  have e := h.em
  have h5 := h.den
  unfold dden at e h5
  unfold dval
  by_cases hd : q.den = 1
  · rw [if_pos hd] at e h5 ⊢
    exact ⟨by rw [h.et]; rfl, by rw [e]; show 0 = (dig 0).length; rw [dig_zero]; rfl, by show Num w B (dig 0); rw [dig_zero]; exact h5, h.cap2⟩
  · rw [if_neg hd] at e h5 ⊢
    exact ⟨by rw [h.et]; unfold zneg; exact (decide_eq_false (by omega)).symm, by rw [e, den_zl], by rw [Int.natAbs_natCast]; exact h5, h.cap2⟩
theorem rat_eq (p r : Rat) : (p = r) ↔ (p.num = r.num ∧ dval p = dval r) := by
  constructor
  · rintro rfl; exact ⟨rfl, rfl⟩
  · rintro ⟨h1, h2⟩
    refine Rat.ext h1 ?_
    unfold dval at h2
    have := p.den_nz
    have := r.den_nz
    split at h2 <;> split at h2 <;> omega
theorem dval_le (q : Rat) : zl (dval q) ≤ ql q := by
  unfold dval
  split
  · show (dig 0).length ≤ _; rw [dig_zero]; exact Nat.zero_le _
  · rw [den_zl]; exact den_le q

set_option maxRecDepth 100000 in
set_option maxHeartbeats 2000000 in
theorem rat_j {w : World} {s t s' t' : Bool} {A B A' B' : Option Addr} {n c m d n' c' m' d' : Nat} {p r : Rat} (h1 : OneQ w s A n c t B m d p) (h2 : OneQ w s' A' n' c' t' B' m' d' r) (hl : ql p ≤ 100000) (v : Bool) (hv : decide (p = r) = v) :
    Calls Tryz.prog 31 #[.agg #[.bool s, .slice A n c, .bool t, .slice B m d], .agg #[.bool s', .slice A' n' c', .bool t', .slice B' m' d']] w (RetB w v) := by
  have HP := Lib.hid (P2.start w s A n c t B m d s' A' n' c' t' B' m' d')
  have HT := Lib.hid ((h1.top.alloc (.cells #[.bool s, .slice A n c, .bool t, .slice B m d] 28)).alloc (.cells #[.bool s', .slice A' n' c', .bool t', .slice B' m' d'] 28))
  have HT2 := Lib.hid ((h2.top.alloc (.cells #[.bool s, .slice A n c, .bool t, .slice B m d] 28)).alloc (.cells #[.bool s', .slice A' n' c', .bool t', .slice B' m' d'] 28))
  have HB := Lib.hid ((h1.bot.alloc (.cells #[.bool s, .slice A n c, .bool t, .slice B m d] 28)).alloc (.cells #[.bool s', .slice A' n' c', .bool t', .slice B' m' d'] 28))
  have HB2 := Lib.hid ((h2.bot.alloc (.cells #[.bool s, .slice A n c, .bool t, .slice B m d] 28)).alloc (.cells #[.bool s', .slice A' n' c', .bool t', .slice B' m' d'] 28))
  have HL1 : Hid (zl p.num ≤ 100000) := Nat.le_trans (num_le p) hl
  have HL2 : Hid (zl (dval p) ≤ 100000) := Nat.le_trans (dval_le p) hl
  clear h1 h2 hl
  by_cases hn : p.num = r.num
  · have HN : Hid (decide (p.num = r.num) = true) := decide_eq_true hn
    have HV : Hid (decide (dval p = dval r) = v) := by
      show _ = _
      rw [← hv]
      by_cases hd : dval p = dval r
      · rw [decide_eq_true hd, decide_eq_true ((rat_eq p r).2 ⟨hn, hd⟩)]
      · rw [decide_eq_false hd, decide_eq_false (fun h => hd ((rat_eq p r).1 h).2)]
    clear hn hv
    go_enter Tryz.func31, Tryz.ntmps31
    go_wp2_with fail
    refine (int_j HT.out HT2.out HL1.out true HN.out).mono ?_
    rintro e w1 ⟨rfl, hb1⟩
    have HP1 := Lib.hid (HP.out.below hb1)
    have HB1 := Lib.hid (HB.out.below hb1)
    have HB3 := Lib.hid (HB2.out.below hb1)
    clear hb1
    have k2 := HP1.out.i1.c2
    have k3 := HP1.out.i1.c3
    have j2 := HP1.out.i2.c2
    have j3 := HP1.out.i2.c3
    go_wp2_with fail
    refine (int_j HB1.out HB3.out HL2.out v HV.out).mono ?_
    rintro e w2 ⟨rfl, hb2⟩
    have HW := Lib.hid (below_on HP1.out.bel hb2)
    clear hb2
    go_wp2_with fail
    go_ret
    exact ⟨rfl, HW.out⟩
  · have HN : Hid (decide (p.num = r.num) = false) := decide_eq_false hn
    have HV : Hid (false = v) := by show _ = _; rw [← hv, decide_eq_false (fun h => hn ((rat_eq p r).1 h).1)]
    clear hn hv
    go_enter Tryz.func31, Tryz.ntmps31
    go_wp2_with fail
    refine (int_j HT.out HT2.out HL1.out false HN.out).mono ?_
    rintro e w1 ⟨rfl, hb1⟩
    have HP1 := Lib.hid (HP.out.below hb1)
    clear hb1
    go_wp2_with fail
    go_ret
    rw [← HV.out]
    exact ⟨rfl, HP1.out.bel⟩

theorem rat_t {w : World} {s t s' t' : Bool} {A B A' B' : Option Addr} {n c m d n' c' m' d' : Nat} {p r : Rat} (h1 : OneQ w s A n c t B m d p) (h2 : OneQ w s' A' n' c' t' B' m' d' r) (hl : ql p ≤ 100000) (e : p = r) :
    Calls Tryz.prog 31 #[.agg #[.bool s, .slice A n c, .bool t, .slice B m d], .agg #[.bool s', .slice A' n' c', .bool t', .slice B' m' d']] w (RetB w true) := rat_j h1 h2 hl true (decide_eq_true e)

set_option maxRecDepth 100000 in
set_option maxHeartbeats 2000000 in
theorem shortrat_j (w : World) (s t : Bool) (A B : Option Addr) (n c m d : Nat) (k : Nat) (v : Bool) (hv : decide (n ≤ k ∧ m ≤ k) = v) :
    Calls Tryz.prog 29 #[.agg #[.bool s, .slice A n c, .bool t, .slice B m d], .int .i64 (k : Int)] w (RetB w v) := by
  have HW : Hid (Below w.heap.size w (w.alloc (.cells #[.bool s, .slice A n c, .bool t, .slice B m d] 28))) := (Below.refl _ _).alloc (Nat.le_refl _) _
  by_cases h1 : n ≤ k
  · have g1 : (n : Int) ≤ (k : Int) := by omega
    by_cases h2 : m ≤ k
    · have g2 : (m : Int) ≤ (k : Int) := by omega
      have HV : Hid (true = v) := by show _ = _; rw [← hv, decide_eq_true ⟨h1, h2⟩]
      clear h1 h2 hv
      go_enter Tryz.func29, Tryz.ntmps29
      go_wp2_with fail
      go_ret
      rw [← HV.out]
      exact ⟨rfl, HW.out⟩
    · have g2 : ¬ (m : Int) ≤ (k : Int) := by omega
      have HV : Hid (false = v) := by show _ = _; rw [← hv, decide_eq_false (fun h => h2 h.2)]
      clear h1 h2 hv
      go_enter Tryz.func29, Tryz.ntmps29
      go_wp2_with fail
      go_ret
      rw [← HV.out]
      exact ⟨rfl, HW.out⟩
  · have g1 : ¬ (n : Int) ≤ (k : Int) := by omega
    have HV : Hid (false = v) := by show _ = _; rw [← hv, decide_eq_false (fun h => h1 h.1)]
    clear h1 hv
    go_enter Tryz.func29, Tryz.ntmps29
    go_wp2_with fail
    go_ret
    rw [← HV.out]
    exact ⟨rfl, HW.out⟩

set_option maxRecDepth 100000 in
set_option maxHeartbeats 2000000 in
theorem is_q {w : World} {s t : Bool} {A B : Option Addr} {n c m d : Nat} {p : Rat} (h1 : OneQ w s A n c t B m d p) (hk : ql p ≤ 500) (htab : Tab w) (l : List UInt8) (hl : qtext p = l) :
    Calls Tryz.prog 12 #[.agg #[.bool s, .slice A n c, .bool t, .slice B m d], .string ⟨l.toArray⟩] w (RetB w true) := by
  have HW : Hid (Below w.heap.size w (w.alloc (.cells #[.bool s, .slice A n c, .bool t, .slice B m d] 28))) := (Below.refl _ _).alloc (Nat.le_refl _) _
  have HI : Hid (Qbx (w.alloc (.cells #[.bool s, .slice A n c, .bool t, .slice B m d] 28)) w.heap.size s A n c t B m d) := Qbx.new _ _ rfl
  have HP := Lib.hid (h1.alloc (.cells #[.bool s, .slice A n c, .bool t, .slice B m d] 28))
  have HT := Lib.hid htab
  have HK := Lib.hid hk
  have HK2 : Hid (ql p ≤ 100000) := by show _ ≤ _; omega
  have HL := Lib.hid hl
  clear h1 hk htab hl
  go_enter Tryz.func12, Tryz.ntmps12
  go_wp2_with fail
  go_region_held3 (fun V => V.cell? ⟨w.heap.size, 0, none⟩ = some (.bool s) ∧ V.cell? ⟨w.heap.size, 1, none⟩ = some (.slice A n c) ∧ V.cell? ⟨w.heap.size, 2, none⟩ = some (.bool t) ∧ V.cell? ⟨w.heap.size, 3, none⟩ = some (.slice B m d))
   (first | (with_reducible exact ⟨HI4.out.c0, HI4.out.c1, HI4.out.c2, HI4.out.c3⟩) | (with_reducible exact ⟨HI3.out.c0, HI3.out.c1, HI3.out.c2, HI3.out.c3⟩) | (with_reducible exact ⟨HI2.out.c0, HI2.out.c1, HI2.out.c2, HI2.out.c3⟩) | (with_reducible exact ⟨HI.out.drew.c0, HI.out.drew.c1, HI.out.drew.c2, HI.out.drew.c3⟩))
   (first
    | (go_at_call 31; (with_reducible refine (rat_t HP3.out HN3.out HK2.out rfl).mono ?_); rintro e w4 ⟨rfl, hb4⟩; have HW4 := Lib.hid (below_on HW3.out hb4); have HI4 := Lib.hid (HI3.out.below hb4))
    | (go_at_call 13; (with_reducible refine (norm_q (HP2.out.isq (k := 501) (by have := HK.out; omega)) (by omega) (by omega)).mono ?_); rintro e w3 ⟨s3, A3, n3, c3, t3, B3, m3, d3, rfl, h3, hb3⟩; have HW3 := Lib.hid (below_on HW2.out hb3); have HI3 := Lib.hid (HI2.out.below hb3); have HP3 := Lib.hid (HP2.out.below hb3); have HN3 := Lib.hid h3)
    | (go_at_call 48; (with_reducible refine (text_q (HP.out.drew.isq (k := 501) (by have := HK.out; omega)) (by omega) (by omega) (HT.out.below HW.out.drew) l HL.out).mono ?_); rintro e w2 ⟨rfl, hb2⟩; have HW2 := Lib.hid (below_on HW.out.drew hb2); have HI2 := Lib.hid (HI.out.drew.below hb2); have HP2 := Lib.hid (HP.out.drew.below hb2)))
  all_goals
    go_wp2_with fail
    go_ret
    exact ⟨rfl, HW4.out⟩

end Go.Proofs.YtbbncggaaibheaaGreatDoor.Q

/- ratio: Parse, walked. -/
namespace Go.Proofs.YtbbncggaaibheaaGreatDoor.Q
open Go.RowKit
open Go.Proofs.YtbbncggaaibheaaGreatDoor.D (textOf parseV Tab RetS)

/-- Ahead of the first slash, and behind it. -/
def slashAt : List UInt8 → Option (List UInt8 × List UInt8)
  | [] => none
  | c :: r => if c == 47 then some ([], r) else match slashAt r with
    | none => none
    | some (a, b) => some (c :: a, b)
theorem slash_none {l : List UInt8} (h : slashAt l = none) : Lib.indexByte l 47 = -1 := by
  induction l with
  | nil => rfl
  | cons c r ih =>
    unfold slashAt at h
    unfold Lib.indexByte
    by_cases hc : (c == 47) = true
    · rw [if_pos hc] at h; cases h
    · rw [if_neg hc] at h ⊢
      cases hr : slashAt r with
      | none => rw [ih hr]; rfl
      | some p => rw [hr] at h; cases h
theorem slash_some {l a b : List UInt8} (h : slashAt l = some (a, b)) : l = a ++ 47 :: b ∧ Lib.indexByte l 47 = (a.length : Int) := by
  induction l generalizing a b with
  | nil => cases h
  | cons c r ih =>
    unfold slashAt at h
    unfold Lib.indexByte
    by_cases hc : (c == 47) = true
    · rw [if_pos hc] at h ⊢
      obtain ⟨rfl, rfl⟩ : [] = a ∧ r = b := by simpa using h
      exact ⟨by rw [beq_iff_eq] at hc; rw [hc]; rfl, rfl⟩
    · rw [if_neg hc] at h ⊢
      cases hr : slashAt r with
      | none => rw [hr] at h; cases h
      | some p =>
        obtain ⟨a1, b1⟩ := p
        rw [hr] at h
        obtain ⟨rfl, rfl⟩ : c :: a1 = a ∧ b1 = b := by simpa using h
        obtain ⟨h1, h2⟩ := ih hr
        refine ⟨by rw [h1]; rfl, ?_⟩
        rw [h2, if_neg (by rw [beq_iff_eq]; omega), List.length_cons]
        omega
theorem sl_front (a b : List UInt8) : (⟨(a ++ 47 :: b).toArray⟩ : ByteArray).extract 0 a.length = ⟨a.toArray⟩ := by
  apply ByteArray.ext
  simp
theorem sl_back (a b : List UInt8) : (⟨(a ++ 47 :: b).toArray⟩ : ByteArray).extract (a.length + 1) (a.length + (b.length + 1)) = ⟨b.toArray⟩ := by
  apply ByteArray.ext
  simp
  rw [List.take_of_length_le (by omega)]

set_option maxRecDepth 100000 in
set_option maxHeartbeats 8000000 in
theorem lcut_miss (w : World) (l : List UInt8) (hs : slashAt l = none) :
    Calls Tryz.prog 127 #[.string ⟨l.toArray⟩, .string ⟨#[47]⟩] w fun e w' => e = .returned (.tuple #[.string ⟨l.toArray⟩, .string ⟨#[]⟩, .bool false]) ∧ Below w.heap.size w w' := by
  have hi := slash_none hs
  have HI := Lib.hid (Tryz.stringslite_Index_one ⟨l.toArray⟩ 47 w)
  rw [show (⟨l.toArray⟩ : ByteArray).data.toList = l from rfl, hi] at HI
  clear hs hi
  go_enter Tryz.func127, Tryz.ntmps127
  go_wp2_with fail
  refine HI.out.mono ?_
  rintro e w' ⟨rfl, rfl⟩
  go_wp2_with fail
  refine bodyPost_ret (v := .tuple #[.string ⟨l.toArray⟩, .string ⟨#[]⟩, .bool false]) (by simp [results, Tryz.results127, go_sem]) rfl ?_
  exact ⟨rfl, Below.refl _ _⟩

set_option maxRecDepth 100000 in
set_option maxHeartbeats 8000000 in
theorem lcut_hit (w : World) (l a b : List UInt8) (hs : slashAt l = some (a, b)) (hl : l.length ≤ 1000000) :
    Calls Tryz.prog 127 #[.string ⟨l.toArray⟩, .string ⟨#[47]⟩] w fun e w' => e = .returned (.tuple #[.string ⟨a.toArray⟩, .string ⟨b.toArray⟩, .bool true]) ∧ Below w.heap.size w w' := by
  obtain ⟨h1, hi⟩ := slash_some hs
  have HI := Lib.hid (Tryz.stringslite_Index_one ⟨l.toArray⟩ 47 w)
  rw [show (⟨l.toArray⟩ : ByteArray).data.toList = l from rfl, hi] at HI
  have e1 := sl_front a b
  have e2 := sl_back a b
  rw [← h1] at e1 e2
  have hlen : l.length = a.length + (b.length + 1) := by rw [h1]; simp
  rw [← hlen] at e2
  have b1 : (0 : Int) ≤ (a.length : Int) := by omega
  have b2 : (a.length : Int) ≤ (l.length : Int) := by omega
  have b3 : (0 : Int) ≤ (a.length : Int) + 1 := by omega
  have b4 : (a.length : Int) + 1 ≤ (l.length : Int) := by omega
  have b5 : IntKind.i64.wrap ((a.length : Int) + 1) = (a.length : Int) + 1 := IntWalk.i64_in _ (by omega)
  clear hs h1 hi hlen hl
  go_enter Tryz.func127, Tryz.ntmps127
  go_wp2_with fail
  refine HI.out.mono ?_
  rintro e w' ⟨rfl, rfl⟩
  go_wp2_with fail
  go_region
  all_goals
    go_wp2_with fail
    refine bodyPost_ret (v := .tuple #[.string ⟨a.toArray⟩, .string ⟨b.toArray⟩, .bool true]) (by simp [results, Tryz.results127, go_sem]) rfl ?_
    exact ⟨rfl, (Below.refl _ _).drew⟩

set_option maxRecDepth 100000 in
set_option maxHeartbeats 8000000 in
theorem scut_miss (w : World) (l : List UInt8) (hs : slashAt l = none) :
    Calls Tryz.prog 77 #[.string ⟨l.toArray⟩, .string ⟨#[47]⟩] w fun e w' => e = .returned (.tuple #[.string ⟨l.toArray⟩, .string ⟨#[]⟩, .bool false]) ∧ Below w.heap.size w w' := by
  have HC := Lib.hid (lcut_miss w l hs)
  clear hs
  go_enter Tryz.func77, Tryz.ntmps77
  go_wp2_with fail
  refine HC.out.mono ?_
  rintro e w1 ⟨rfl, hb⟩
  have HB := Lib.hid hb
  clear hb
  go_wp2_with fail
  refine bodyPost_ret (v := .tuple #[.string ⟨l.toArray⟩, .string ⟨#[]⟩, .bool false]) (by simp [results, Tryz.results77, go_sem]) rfl ?_
  exact ⟨rfl, HB.out⟩

set_option maxRecDepth 100000 in
set_option maxHeartbeats 8000000 in
theorem scut_hit (w : World) (l a b : List UInt8) (hs : slashAt l = some (a, b)) (hl : l.length ≤ 1000000) :
    Calls Tryz.prog 77 #[.string ⟨l.toArray⟩, .string ⟨#[47]⟩] w fun e w' => e = .returned (.tuple #[.string ⟨a.toArray⟩, .string ⟨b.toArray⟩, .bool true]) ∧ Below w.heap.size w w' := by
  have HC := Lib.hid (lcut_hit w l a b hs hl)
  clear hs
  go_enter Tryz.func77, Tryz.ntmps77
  go_wp2_with fail
  refine HC.out.mono ?_
  rintro e w1 ⟨rfl, hb⟩
  have HB := Lib.hid hb
  clear hb
  go_wp2_with fail
  refine bodyPost_ret (v := .tuple #[.string ⟨a.toArray⟩, .string ⟨b.toArray⟩, .bool true]) (by simp [results, Tryz.results77, go_sem]) rfl ?_
  exact ⟨rfl, HB.out⟩

/-- What Parse tells: the fraction, and an error's number. -/
def qparse (l : List UInt8) : Rat × Int :=
  if (parseV ((slashAt l).getD (l, [49])).1).2 = 11 ∨ (parseV ((slashAt l).getD (l, [49])).2).2 = 11 ∨ Lib.hasPrefix ((slashAt l).getD (l, [49])).2 [45] = true then (0, 11)
  else if (parseV ((slashAt l).getD (l, [49])).1).2 ≠ 0 ∨ (parseV ((slashAt l).getD (l, [49])).2).2 ≠ 0 then (0, 3)
  else if (parseV ((slashAt l).getD (l, [49])).2).1 = 0 then (0, 10)
  else (Rat.divInt (parseV ((slashAt l).getD (l, [49])).1).1 (parseV ((slashAt l).getD (l, [49])).2).1, 0)
theorem hasprefix_at (w : World) (l : List UInt8) (b : Bool) (hb : Lib.hasPrefix l [45] = b) :
    Calls Tryz.prog 79 #[.string ⟨l.toArray⟩, .string ⟨#[45]⟩] w fun e w' => e = .returned (.bool b) ∧ w = w' := by
  refine (Tryz.strings_HasPrefix ⟨l.toArray⟩ ⟨#[45]⟩ w).mono ?_
  rintro e w' ⟨he, hw⟩
  subst hb
  exact ⟨he, hw.symm⟩
/-- Parse's own memory behind both numerals. -/
structure PB (w W : World) (p r : Nat) (s : Bool) (A : Option Addr) (n c : Nat) (t : Bool) (B : Option Addr) (m d : Nat) (y z : Int) : Prop where
  bel : Below w.heap.size w W
  o : Qbx W w.heap.size false none 0 0 false none 0 0
  i1 : Ibx W p s A n c
  i2 : Ibx W r t B m d
  z1 : IsZ W s A n c y 1000
  z2 : IsZ W t B m d z 1000
theorem PB.below {w W W' : World} {p r : Nat} {s t : Bool} {A B : Option Addr} {n c m d : Nat} {y z : Int} (h : PB w W p r s A n c t B m d y z) (hb : Below W.heap.size W W') : PB w W' p r s A n c t B m d y z :=
  ⟨below_on h.bel hb, h.o.below hb, h.i1.below hb, h.i2.below hb, h.z1.below hb, h.z2.below hb⟩

set_option maxRecDepth 100000 in
set_option maxHeartbeats 2000000 in
theorem parse_q (w : World) (l : List UInt8) (q : Rat) (code : Int) (hq : qparse l = (q, code)) (hl : l.length ≤ 100000) :
    Calls Tryz.prog 26 #[.string ⟨l.toArray⟩] w (RetQE w q code) := by
  obtain ⟨a, b, hab⟩ : ∃ a b, (slashAt l).getD (l, [49]) = (a, b) := ⟨_, _, rfl⟩
  have hlen : a.length ≤ 100000 ∧ b.length ≤ 100001 := by
    cases hs : slashAt l with
    | none => rw [hs] at hab; obtain ⟨rfl, rfl⟩ : l = a ∧ [49] = b := by simpa using hab
              exact ⟨hl, by simp⟩
    | some p =>
      obtain ⟨a1, b1⟩ := p
      rw [hs] at hab
      obtain ⟨rfl, rfl⟩ : a1 = a ∧ b1 = b := by simpa using hab
      have := (slash_some hs).1
      have h2 : l.length = a1.length + (b1.length + 1) := by rw [this]; simp
      omega
  obtain ⟨y, e1, hp1⟩ : ∃ y e1, parseV a = (y, e1) := ⟨_, _, rfl⟩
  obtain ⟨z, e2, hp2⟩ : ∃ z e2, parseV b = (z, e2) := ⟨_, _, rfl⟩
  have hz1 := parse_size a
  have hz2 := parse_size b
  rw [hp1] at hz1
  rw [hp2] at hz2
  obtain ⟨pf, hpf⟩ : ∃ pf, Lib.hasPrefix b [45] = pf := ⟨_, rfl⟩
  unfold qparse at hq
  rw [hab] at hq
  simp only [hp1, hp2, hpf] at hq
  have HP1 := Lib.hid hp1
  have HP2 := Lib.hid hp2
  have HZ1 := Lib.hid hz1
  have HZ2 := Lib.hid hz2
  have HL1 := Lib.hid hlen.1
  have HL2 := Lib.hid hlen.2
  have HPF := Lib.hid hpf
  have HQ := Lib.hid hq
  have HS0 := Lib.hid (S0.start w)
  have HCUT : Hid (slashAt l = none ∧ a = l ∧ b = [49] ∨ slashAt l = some (a, b)) := by
    show _ ∨ _
    cases hs : slashAt l with
    | none => rw [hs] at hab; obtain ⟨rfl, rfl⟩ : l = a ∧ [49] = b := by simpa using hab
              exact .inl ⟨rfl, rfl, rfl⟩
    | some p => rw [hs] at hab; exact .inr (by rw [show p = (a, b) from hab])
  have HLL := Lib.hid hl
  clear hab hlen hp1 hp2 hz1 hz2 hpf hq hl
  rcases HCUT.out with ⟨hs, rfl, hb⟩ | hs
  · have HC := Lib.hid (fun W => scut_miss W a hs)
    have hb49 : (⟨#[49]⟩ : ByteArray) = ⟨b.toArray⟩ := by rw [hb]
    clear hs HCUT hb
    go_enter Tryz.func26, Tryz.ntmps26
    go_wp2_with fail
    refine (HC.out _).mono ?_
    rintro e w1 ⟨rfl, hb1⟩
    have HS1 := Lib.hid (HS0.out.below hb1)
    clear hb1
    go_wp2_with fail
    refine (parse_j _ a y e1 HP1.out (by have := HL1.out; omega)).mono ?_
    rintro e w2 ⟨s1, A1, n1, c1, rfl, h2, hb2⟩
    have HS2 := Lib.hid (HS1.out.below hb2)
    have HY2 := Lib.hid (h2.isz HZ1.out)
    clear h2 hb2 HS1
    obtain ⟨W, hW⟩ : ∃ W, w2.alloc (.cells #[.bool s1, .slice A1 n1 c1] 25) = W := ⟨_, rfl⟩
    have HI3 : Hid (Ibx W w2.heap.size s1 A1 n1 c1) := by rw [← hW]; exact Ibx.new' _ _ _ _ _ _ rfl
    have HV : Hid (Below w2.heap.size w2 W) := by rw [← hW]; exact (Below.refl _ _).alloc (Nat.le_refl _) _
    have HS3 := Lib.hid (HS2.out.below HV.out)
    have HY3 := Lib.hid (HY2.out.below HV.out)
    clear HS2 HY2 HV
    go_wp2_with fail
    refine (parse_j _ b z e2 HP2.out (by have := HL2.out; omega)).mono ?_
    rintro e w4 ⟨s2, A2, n2, c2, rfl, h4, hb4⟩
    clear hW
    have HI4 := Lib.hid (HI3.out.below hb4)
    have HS4 := Lib.hid (HS3.out.below hb4)
    have HY4 := Lib.hid (HY3.out.below hb4)
    have HZ4 := Lib.hid (h4.isz HZ2.out)
    clear h4 hb4 HS3 HY3 HI3
    obtain ⟨V, hV⟩ : ∃ V, w4.alloc (.cells #[.bool s2, .slice A2 n2 c2] 25) = V := ⟨_, rfl⟩
    have HPB : Hid (PB w V w2.heap.size w4.heap.size s1 A1 n1 c1 s2 A2 n2 c2 y z) := by
      rw [← hV]
      exact ⟨HS4.out.bel.alloc HS4.out.bel.size _, HS4.out.o.alloc _, HI4.out.alloc _, Ibx.new' _ _ _ _ _ _ rfl, HY4.out.alloc _, HZ4.out.alloc _⟩
    clear HS4 HI4 HY4 HZ4
    by_cases h11 : e1 = 11 ∨ e2 = 11 ∨ pf = true
    · obtain ⟨hq1, hq2⟩ : (0 : Rat) = q ∧ (11 : Int) = code := by have h := HQ.out; rw [if_pos h11] at h; simpa using h
      have HRZ : Hid ((0 : Rat) = q) := hq1
      subst hq2
      by_cases x1 : e1 = 11
      · have z1 : (e1 == 11) = true := beq_iff_eq.2 x1
        clear x1 h11 hq1
        go_upto_region 7 with fail
        clear hV
        have o0 := HPB.out.o.c0
        have o1 := HPB.out.o.c1
        have o2 := HPB.out.o.c2
        have o3 := HPB.out.o.c3
        have f0 := HPB.out.o.f 0
        have f1 := HPB.out.o.f 1
        have f2 := HPB.out.o.f 2
        have f3 := HPB.out.o.f 3
        go_wp2_with fail
        refine bodyPost_ret (v := .tuple #[.agg #[.bool false, .slice none 0 0, .bool false, .slice none 0 0], .int .i64 11]) (by simp [results, Tryz.results26, go_sem, o0, o1, o2, o3]) rfl ?_
        exact HRZ.out ▸ retqe_put (oneq_zero _ 0 0) HPB.out.o (Nat.le_refl _) HPB.out.bel
      · have z1 : (e1 == 11) = false := beq_eq_false_iff_ne.2 x1
        by_cases x2 : e2 = 11
        · have z2 : (e2 == 11) = true := beq_iff_eq.2 x2
          clear x1 x2 h11 hq1
          go_upto_region 7 with fail
          clear hV
          have o0 := HPB.out.o.c0
          have o1 := HPB.out.o.c1
          have o2 := HPB.out.o.c2
          have o3 := HPB.out.o.c3
          have f0 := HPB.out.o.f 0
          have f1 := HPB.out.o.f 1
          have f2 := HPB.out.o.f 2
          have f3 := HPB.out.o.f 3
          go_wp2_with fail
          refine bodyPost_ret (v := .tuple #[.agg #[.bool false, .slice none 0 0, .bool false, .slice none 0 0], .int .i64 11]) (by simp [results, Tryz.results26, go_sem, o0, o1, o2, o3]) rfl ?_
          exact HRZ.out ▸ retqe_put (oneq_zero _ 0 0) HPB.out.o (Nat.le_refl _) HPB.out.bel
        · have z2 : (e2 == 11) = false := beq_eq_false_iff_ne.2 x2
          have hpt : pf = true := by rcases h11 with h | h | h; exact absurd h x1; exact absurd h x2; exact h
          subst hpt
          clear x1 x2 h11 hq1
          go_wp2_with fail
          refine (hasprefix_at _ b true HPF.out).mono ?_
          rintro e w5 ⟨rfl, rfl⟩
          clear hV
          have o0 := HPB.out.o.c0
          have o1 := HPB.out.o.c1
          have o2 := HPB.out.o.c2
          have o3 := HPB.out.o.c3
          have f0 := HPB.out.o.f 0
          have f1 := HPB.out.o.f 1
          have f2 := HPB.out.o.f 2
          have f3 := HPB.out.o.f 3
          go_wp2_with fail
          refine bodyPost_ret (v := .tuple #[.agg #[.bool false, .slice none 0 0, .bool false, .slice none 0 0], .int .i64 11]) (by simp [results, Tryz.results26, go_sem, o0, o1, o2, o3]) rfl ?_
          exact HRZ.out ▸ retqe_put (oneq_zero _ 0 0) HPB.out.o (Nat.le_refl _) HPB.out.bel
    · have x1 : e1 ≠ 11 := fun h => h11 (.inl h)
      have x2 : e2 ≠ 11 := fun h => h11 (.inr (.inl h))
      have z1 : (e1 == 11) = false := beq_eq_false_iff_ne.2 x1
      have z2 : (e2 == 11) = false := beq_eq_false_iff_ne.2 x2
      have hpt : pf = false := by cases pf with | false => rfl | true => exact absurd (.inr (.inr rfl)) h11
      have HQ2 := HQ.out
      rw [if_neg h11] at HQ2
      subst hpt
      by_cases h0 : e1 ≠ 0 ∨ e2 ≠ 0
      · obtain ⟨hq1, hq2⟩ : (0 : Rat) = q ∧ (3 : Int) = code := by rw [if_pos h0] at HQ2; simpa using HQ2
        have HRZ : Hid ((0 : Rat) = q) := hq1
        subst hq2
        by_cases y1 : e1 = 0
        · have y2 : e2 ≠ 0 := by rcases h0 with h | h; exact absurd y1 h; exact h
          have g1 : (e1 == 0) = true := beq_iff_eq.2 y1
          have g2 : (e2 == 0) = false := beq_eq_false_iff_ne.2 y2
          have g3 : (e1 != 0) = false := by rw [y1]; rfl
          have g4 : (e2 != 0) = true := bne_iff_ne.2 y2
          clear x1 x2 h11 hq1 HQ2 h0 y1 y2
          go_wp2_with fail
          refine (hasprefix_at _ b false HPF.out).mono ?_
          rintro e w5 ⟨rfl, rfl⟩
          clear hV
          have o0 := HPB.out.o.c0
          have o1 := HPB.out.o.c1
          have o2 := HPB.out.o.c2
          have o3 := HPB.out.o.c3
          have f0 := HPB.out.o.f 0
          have f1 := HPB.out.o.f 1
          have f2 := HPB.out.o.f 2
          have f3 := HPB.out.o.f 3
          go_wp2_with fail
          refine bodyPost_ret (v := .tuple #[.agg #[.bool false, .slice none 0 0, .bool false, .slice none 0 0], .int .i64 3]) (by simp [results, Tryz.results26, go_sem, o0, o1, o2, o3]) rfl ?_
          exact HRZ.out ▸ retqe_put (oneq_zero _ 0 0) HPB.out.o (Nat.le_refl _) HPB.out.bel
        · have g1 : (e1 == 0) = false := beq_eq_false_iff_ne.2 y1
          have g3 : (e1 != 0) = true := bne_iff_ne.2 y1
          clear x1 x2 h11 hq1 HQ2 h0 y1
          go_wp2_with fail
          refine (hasprefix_at _ b false HPF.out).mono ?_
          rintro e w5 ⟨rfl, rfl⟩
          clear hV
          have o0 := HPB.out.o.c0
          have o1 := HPB.out.o.c1
          have o2 := HPB.out.o.c2
          have o3 := HPB.out.o.c3
          have f0 := HPB.out.o.f 0
          have f1 := HPB.out.o.f 1
          have f2 := HPB.out.o.f 2
          have f3 := HPB.out.o.f 3
          go_wp2_with fail
          refine bodyPost_ret (v := .tuple #[.agg #[.bool false, .slice none 0 0, .bool false, .slice none 0 0], .int .i64 3]) (by simp [results, Tryz.results26, go_sem, o0, o1, o2, o3]) rfl ?_
          exact HRZ.out ▸ retqe_put (oneq_zero _ 0 0) HPB.out.o (Nat.le_refl _) HPB.out.bel
      · have y1 : e1 = 0 := by rcases Decidable.em (e1 = 0) with h | h; exact h; exact absurd (.inl h) h0
        have y2 : e2 = 0 := by rcases Decidable.em (e2 = 0) with h | h; exact h; exact absurd (.inr h) h0
        rw [if_neg h0] at HQ2
        subst y1
        subst y2
        clear x1 x2 z1 z2 h11 h0
        by_cases hz : z = 0
        · obtain ⟨hq1, hq2⟩ : (0 : Rat) = q ∧ (10 : Int) = code := by rw [if_pos hz] at HQ2; simpa using HQ2
          have HRZ : Hid ((0 : Rat) = q) := hq1
          have HSG : Hid (z.sign = 0) := by show _ = _; rw [hz]; rfl
          subst hq2
          clear hq1 HQ2 hz
          go_wp2_with fail
          refine (hasprefix_at _ b false HPF.out).mono ?_
          rintro e w5 ⟨rfl, rfl⟩
          clear hV
          have k0 := HPB.out.i2.c0
          have k1 := HPB.out.i2.c1
          go_wp2_with fail
          refine (sign_j HPB.out.z2 (by omega) 0 HSG.out).mono ?_
          rintro e w6 ⟨rfl, hb6⟩
          have HPC := Lib.hid (HPB.out.below hb6)
          clear hb6 k0 k1
          have o0 := HPC.out.o.c0
          have o1 := HPC.out.o.c1
          have o2 := HPC.out.o.c2
          have o3 := HPC.out.o.c3
          have f0 := HPC.out.o.f 0
          have f1 := HPC.out.o.f 1
          have f2 := HPC.out.o.f 2
          have f3 := HPC.out.o.f 3
          go_wp2_with fail
          refine bodyPost_ret (v := .tuple #[.agg #[.bool false, .slice none 0 0, .bool false, .slice none 0 0], .int .i64 10]) (by simp [results, Tryz.results26, go_sem, o0, o1, o2, o3]) rfl ?_
          exact HRZ.out ▸ retqe_put (oneq_zero _ 0 0) HPC.out.o (Nat.le_refl _) HPC.out.bel
        · obtain ⟨hq1, hq2⟩ : Rat.divInt y z = q ∧ (0 : Int) = code := by rw [if_neg hz] at HQ2; simpa using HQ2
          obtain ⟨sg, hsg⟩ : ∃ sg, z.sign = sg := ⟨_, rfl⟩
          have hs0 : (sg == 0) = false := by rw [beq_eq_false_iff_ne, ← hsg]; exact fun h => hz (Int.sign_eq_zero_iff_zero.1 h)
          have HSG := Lib.hid hsg
          have HRQ := Lib.hid hq1
          subst hq2
          clear hq1 HQ2 hz hsg
          go_wp2_with fail
          refine (hasprefix_at _ b false HPF.out).mono ?_
          rintro e w5 ⟨rfl, rfl⟩
          clear hV
          have k0 := HPB.out.i2.c0
          have k1 := HPB.out.i2.c1
          go_wp2_with fail
          refine (sign_j HPB.out.z2 (by omega) sg HSG.out).mono ?_
          rintro e w6 ⟨rfl, hb6⟩
          have HPC := Lib.hid (HPB.out.below hb6)
          clear hb6 k0 k1
          have k0 := HPC.out.i1.c0
          have k1 := HPC.out.i1.c1
          have k2 := HPC.out.i2.c0
          have k3 := HPC.out.i2.c1
          go_wp2_with fail
          refine (make_q HPC.out.z1 HPC.out.z2 (by omega) (by omega) q HRQ.out).mono ?_
          rintro e w7 ⟨s7, A7, n7, c7, t7, B7, m7, d7, rfl, h7, hb7⟩
          have HPD := Lib.hid (HPC.out.below hb7)
          have HR7 := Lib.hid h7
          clear h7 hb7 k0 k1 k2 k3
          have o0 := HPD.out.o.c0
          have o1 := HPD.out.o.c1
          have o2 := HPD.out.o.c2
          have o3 := HPD.out.o.c3
          have f0 := HPD.out.o.f 0
          have f1 := HPD.out.o.f 1
          have f2 := HPD.out.o.f 2
          have f3 := HPD.out.o.f 3
          go_wp2_with fail
          refine bodyPost_ret (v := .tuple #[.agg #[.bool s7, .slice A7 n7 c7, .bool t7, .slice B7 m7 d7], .int .i64 0]) (by simp [results, Tryz.results26, go_sem, o0, o1, o2, o3]) rfl ?_
          exact retqe_put HR7.out HPD.out.o (Nat.le_refl _) HPD.out.bel
  · have HC := Lib.hid (fun W => scut_hit W l a b hs (by have := HLL.out; omega))
    clear hs HCUT
    go_enter Tryz.func26, Tryz.ntmps26
    go_wp2_with fail
    refine (HC.out _).mono ?_
    rintro e w1 ⟨rfl, hb1⟩
    have HS1 := Lib.hid (HS0.out.below hb1)
    clear hb1
    go_wp2_with fail
    refine (parse_j _ a y e1 HP1.out (by have := HL1.out; omega)).mono ?_
    rintro e w2 ⟨s1, A1, n1, c1, rfl, h2, hb2⟩
    have HS2 := Lib.hid (HS1.out.below hb2)
    have HY2 := Lib.hid (h2.isz HZ1.out)
    clear h2 hb2 HS1
    obtain ⟨W, hW⟩ : ∃ W, w2.alloc (.cells #[.bool s1, .slice A1 n1 c1] 25) = W := ⟨_, rfl⟩
    have HI3 : Hid (Ibx W w2.heap.size s1 A1 n1 c1) := by rw [← hW]; exact Ibx.new' _ _ _ _ _ _ rfl
    have HV : Hid (Below w2.heap.size w2 W) := by rw [← hW]; exact (Below.refl _ _).alloc (Nat.le_refl _) _
    have HS3 := Lib.hid (HS2.out.below HV.out)
    have HY3 := Lib.hid (HY2.out.below HV.out)
    clear HS2 HY2 HV
    go_wp2_with fail
    refine (parse_j _ b z e2 HP2.out (by have := HL2.out; omega)).mono ?_
    rintro e w4 ⟨s2, A2, n2, c2, rfl, h4, hb4⟩
    clear hW
    have HI4 := Lib.hid (HI3.out.below hb4)
    have HS4 := Lib.hid (HS3.out.below hb4)
    have HY4 := Lib.hid (HY3.out.below hb4)
    have HZ4 := Lib.hid (h4.isz HZ2.out)
    clear h4 hb4 HS3 HY3 HI3
    obtain ⟨V, hV⟩ : ∃ V, w4.alloc (.cells #[.bool s2, .slice A2 n2 c2] 25) = V := ⟨_, rfl⟩
    have HPB : Hid (PB w V w2.heap.size w4.heap.size s1 A1 n1 c1 s2 A2 n2 c2 y z) := by
      rw [← hV]
      exact ⟨HS4.out.bel.alloc HS4.out.bel.size _, HS4.out.o.alloc _, HI4.out.alloc _, Ibx.new' _ _ _ _ _ _ rfl, HY4.out.alloc _, HZ4.out.alloc _⟩
    clear HS4 HI4 HY4 HZ4
    by_cases h11 : e1 = 11 ∨ e2 = 11 ∨ pf = true
    · obtain ⟨hq1, hq2⟩ : (0 : Rat) = q ∧ (11 : Int) = code := by have h := HQ.out; rw [if_pos h11] at h; simpa using h
      have HRZ : Hid ((0 : Rat) = q) := hq1
      subst hq2
      by_cases x1 : e1 = 11
      · have z1 : (e1 == 11) = true := beq_iff_eq.2 x1
        clear x1 h11 hq1
        go_upto_region 7 with fail
        clear hV
        have o0 := HPB.out.o.c0
        have o1 := HPB.out.o.c1
        have o2 := HPB.out.o.c2
        have o3 := HPB.out.o.c3
        have f0 := HPB.out.o.f 0
        have f1 := HPB.out.o.f 1
        have f2 := HPB.out.o.f 2
        have f3 := HPB.out.o.f 3
        go_wp2_with fail
        refine bodyPost_ret (v := .tuple #[.agg #[.bool false, .slice none 0 0, .bool false, .slice none 0 0], .int .i64 11]) (by simp [results, Tryz.results26, go_sem, o0, o1, o2, o3]) rfl ?_
        exact HRZ.out ▸ retqe_put (oneq_zero _ 0 0) HPB.out.o (Nat.le_refl _) HPB.out.bel
      · have z1 : (e1 == 11) = false := beq_eq_false_iff_ne.2 x1
        by_cases x2 : e2 = 11
        · have z2 : (e2 == 11) = true := beq_iff_eq.2 x2
          clear x1 x2 h11 hq1
          go_upto_region 7 with fail
          clear hV
          have o0 := HPB.out.o.c0
          have o1 := HPB.out.o.c1
          have o2 := HPB.out.o.c2
          have o3 := HPB.out.o.c3
          have f0 := HPB.out.o.f 0
          have f1 := HPB.out.o.f 1
          have f2 := HPB.out.o.f 2
          have f3 := HPB.out.o.f 3
          go_wp2_with fail
          refine bodyPost_ret (v := .tuple #[.agg #[.bool false, .slice none 0 0, .bool false, .slice none 0 0], .int .i64 11]) (by simp [results, Tryz.results26, go_sem, o0, o1, o2, o3]) rfl ?_
          exact HRZ.out ▸ retqe_put (oneq_zero _ 0 0) HPB.out.o (Nat.le_refl _) HPB.out.bel
        · have z2 : (e2 == 11) = false := beq_eq_false_iff_ne.2 x2
          have hpt : pf = true := by rcases h11 with h | h | h; exact absurd h x1; exact absurd h x2; exact h
          subst hpt
          clear x1 x2 h11 hq1
          go_wp2_with fail
          refine (hasprefix_at _ b true HPF.out).mono ?_
          rintro e w5 ⟨rfl, rfl⟩
          clear hV
          have o0 := HPB.out.o.c0
          have o1 := HPB.out.o.c1
          have o2 := HPB.out.o.c2
          have o3 := HPB.out.o.c3
          have f0 := HPB.out.o.f 0
          have f1 := HPB.out.o.f 1
          have f2 := HPB.out.o.f 2
          have f3 := HPB.out.o.f 3
          go_wp2_with fail
          refine bodyPost_ret (v := .tuple #[.agg #[.bool false, .slice none 0 0, .bool false, .slice none 0 0], .int .i64 11]) (by simp [results, Tryz.results26, go_sem, o0, o1, o2, o3]) rfl ?_
          exact HRZ.out ▸ retqe_put (oneq_zero _ 0 0) HPB.out.o (Nat.le_refl _) HPB.out.bel
    · have x1 : e1 ≠ 11 := fun h => h11 (.inl h)
      have x2 : e2 ≠ 11 := fun h => h11 (.inr (.inl h))
      have z1 : (e1 == 11) = false := beq_eq_false_iff_ne.2 x1
      have z2 : (e2 == 11) = false := beq_eq_false_iff_ne.2 x2
      have hpt : pf = false := by cases pf with | false => rfl | true => exact absurd (.inr (.inr rfl)) h11
      have HQ2 := HQ.out
      rw [if_neg h11] at HQ2
      subst hpt
      by_cases h0 : e1 ≠ 0 ∨ e2 ≠ 0
      · obtain ⟨hq1, hq2⟩ : (0 : Rat) = q ∧ (3 : Int) = code := by rw [if_pos h0] at HQ2; simpa using HQ2
        have HRZ : Hid ((0 : Rat) = q) := hq1
        subst hq2
        by_cases y1 : e1 = 0
        · have y2 : e2 ≠ 0 := by rcases h0 with h | h; exact absurd y1 h; exact h
          have g1 : (e1 == 0) = true := beq_iff_eq.2 y1
          have g2 : (e2 == 0) = false := beq_eq_false_iff_ne.2 y2
          have g3 : (e1 != 0) = false := by rw [y1]; rfl
          have g4 : (e2 != 0) = true := bne_iff_ne.2 y2
          clear x1 x2 h11 hq1 HQ2 h0 y1 y2
          go_wp2_with fail
          refine (hasprefix_at _ b false HPF.out).mono ?_
          rintro e w5 ⟨rfl, rfl⟩
          clear hV
          have o0 := HPB.out.o.c0
          have o1 := HPB.out.o.c1
          have o2 := HPB.out.o.c2
          have o3 := HPB.out.o.c3
          have f0 := HPB.out.o.f 0
          have f1 := HPB.out.o.f 1
          have f2 := HPB.out.o.f 2
          have f3 := HPB.out.o.f 3
          go_wp2_with fail
          refine bodyPost_ret (v := .tuple #[.agg #[.bool false, .slice none 0 0, .bool false, .slice none 0 0], .int .i64 3]) (by simp [results, Tryz.results26, go_sem, o0, o1, o2, o3]) rfl ?_
          exact HRZ.out ▸ retqe_put (oneq_zero _ 0 0) HPB.out.o (Nat.le_refl _) HPB.out.bel
        · have g1 : (e1 == 0) = false := beq_eq_false_iff_ne.2 y1
          have g3 : (e1 != 0) = true := bne_iff_ne.2 y1
          clear x1 x2 h11 hq1 HQ2 h0 y1
          go_wp2_with fail
          refine (hasprefix_at _ b false HPF.out).mono ?_
          rintro e w5 ⟨rfl, rfl⟩
          clear hV
          have o0 := HPB.out.o.c0
          have o1 := HPB.out.o.c1
          have o2 := HPB.out.o.c2
          have o3 := HPB.out.o.c3
          have f0 := HPB.out.o.f 0
          have f1 := HPB.out.o.f 1
          have f2 := HPB.out.o.f 2
          have f3 := HPB.out.o.f 3
          go_wp2_with fail
          refine bodyPost_ret (v := .tuple #[.agg #[.bool false, .slice none 0 0, .bool false, .slice none 0 0], .int .i64 3]) (by simp [results, Tryz.results26, go_sem, o0, o1, o2, o3]) rfl ?_
          exact HRZ.out ▸ retqe_put (oneq_zero _ 0 0) HPB.out.o (Nat.le_refl _) HPB.out.bel
      · have y1 : e1 = 0 := by rcases Decidable.em (e1 = 0) with h | h; exact h; exact absurd (.inl h) h0
        have y2 : e2 = 0 := by rcases Decidable.em (e2 = 0) with h | h; exact h; exact absurd (.inr h) h0
        rw [if_neg h0] at HQ2
        subst y1
        subst y2
        clear x1 x2 z1 z2 h11 h0
        by_cases hz : z = 0
        · obtain ⟨hq1, hq2⟩ : (0 : Rat) = q ∧ (10 : Int) = code := by rw [if_pos hz] at HQ2; simpa using HQ2
          have HRZ : Hid ((0 : Rat) = q) := hq1
          have HSG : Hid (z.sign = 0) := by show _ = _; rw [hz]; rfl
          subst hq2
          clear hq1 HQ2 hz
          go_wp2_with fail
          refine (hasprefix_at _ b false HPF.out).mono ?_
          rintro e w5 ⟨rfl, rfl⟩
          clear hV
          have k0 := HPB.out.i2.c0
          have k1 := HPB.out.i2.c1
          go_wp2_with fail
          refine (sign_j HPB.out.z2 (by omega) 0 HSG.out).mono ?_
          rintro e w6 ⟨rfl, hb6⟩
          have HPC := Lib.hid (HPB.out.below hb6)
          clear hb6 k0 k1
          have o0 := HPC.out.o.c0
          have o1 := HPC.out.o.c1
          have o2 := HPC.out.o.c2
          have o3 := HPC.out.o.c3
          have f0 := HPC.out.o.f 0
          have f1 := HPC.out.o.f 1
          have f2 := HPC.out.o.f 2
          have f3 := HPC.out.o.f 3
          go_wp2_with fail
          refine bodyPost_ret (v := .tuple #[.agg #[.bool false, .slice none 0 0, .bool false, .slice none 0 0], .int .i64 10]) (by simp [results, Tryz.results26, go_sem, o0, o1, o2, o3]) rfl ?_
          exact HRZ.out ▸ retqe_put (oneq_zero _ 0 0) HPC.out.o (Nat.le_refl _) HPC.out.bel
        · obtain ⟨hq1, hq2⟩ : Rat.divInt y z = q ∧ (0 : Int) = code := by rw [if_neg hz] at HQ2; simpa using HQ2
          obtain ⟨sg, hsg⟩ : ∃ sg, z.sign = sg := ⟨_, rfl⟩
          have hs0 : (sg == 0) = false := by rw [beq_eq_false_iff_ne, ← hsg]; exact fun h => hz (Int.sign_eq_zero_iff_zero.1 h)
          have HSG := Lib.hid hsg
          have HRQ := Lib.hid hq1
          subst hq2
          clear hq1 HQ2 hz hsg
          go_wp2_with fail
          refine (hasprefix_at _ b false HPF.out).mono ?_
          rintro e w5 ⟨rfl, rfl⟩
          clear hV
          have k0 := HPB.out.i2.c0
          have k1 := HPB.out.i2.c1
          go_wp2_with fail
          refine (sign_j HPB.out.z2 (by omega) sg HSG.out).mono ?_
          rintro e w6 ⟨rfl, hb6⟩
          have HPC := Lib.hid (HPB.out.below hb6)
          clear hb6 k0 k1
          have k0 := HPC.out.i1.c0
          have k1 := HPC.out.i1.c1
          have k2 := HPC.out.i2.c0
          have k3 := HPC.out.i2.c1
          go_wp2_with fail
          refine (make_q HPC.out.z1 HPC.out.z2 (by omega) (by omega) q HRQ.out).mono ?_
          rintro e w7 ⟨s7, A7, n7, c7, t7, B7, m7, d7, rfl, h7, hb7⟩
          have HPD := Lib.hid (HPC.out.below hb7)
          have HR7 := Lib.hid h7
          clear h7 hb7 k0 k1 k2 k3
          have o0 := HPD.out.o.c0
          have o1 := HPD.out.o.c1
          have o2 := HPD.out.o.c2
          have o3 := HPD.out.o.c3
          have f0 := HPD.out.o.f 0
          have f1 := HPD.out.o.f 1
          have f2 := HPD.out.o.f 2
          have f3 := HPD.out.o.f 3
          go_wp2_with fail
          refine bodyPost_ret (v := .tuple #[.agg #[.bool s7, .slice A7 n7 c7, .bool t7, .slice B7 m7 d7], .int .i64 0]) (by simp [results, Tryz.results26, go_sem, o0, o1, o2, o3]) rfl ?_
          exact retqe_put HR7.out HPD.out.o (Nat.le_refl _) HPD.out.bel

end Go.Proofs.YtbbncggaaibheaaGreatDoor.Q
