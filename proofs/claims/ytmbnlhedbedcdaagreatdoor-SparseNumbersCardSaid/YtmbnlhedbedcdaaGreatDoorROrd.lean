/- ratio: Div, Cmp, Same, Max, Min, Floor, Ceil, IsWhole, walked. -/
import Derived.Test.YtmbnlhedbedcdaaGreatDoorRBoth
import Derived.Test.YtmbnlhedbedcdaaGreatDoorWAll
namespace Go.Proofs.YtmbnlhedbedcdaaGreatDoor.Q
open Go.RowKit

theorem sign_one (y : Rat) : qsign y = -1 ∨ qsign y = 0 ∨ qsign y = 1 := by
  rcases tri y 0 with h | h | h
  · left; rw [qsign_cmp, qcmp_lt h]
  · right; left; rw [h]; rfl
  · right; right; rw [qsign_cmp, qcmp_gt h]
theorem cmp_signs {p r : Rat} (h : qsign p ≠ qsign r) : zcmp (qsign p) (qsign r) = qcmp p r := by
  rcases tri p 0 with h1 | h1 | h1 <;> rcases tri r 0 with h2 | h2 | h2
  · exact absurd (by rw [qsign_cmp, qsign_cmp, qcmp_lt h1, qcmp_lt h2]) h
  · rw [qcmp_lt (show p < r by grind), qsign_cmp p, qcmp_lt h1, h2]; rfl
  · rw [qcmp_lt (show p < r by grind), qsign_cmp p, qcmp_lt h1, qsign_cmp r, qcmp_gt h2]; rfl
  · rw [qcmp_gt (show r < p by grind), qsign_cmp r, qcmp_lt h2, h1]; rfl
  · exact absurd (by rw [h1, h2]) h
  · rw [qcmp_lt (show p < r by grind), qsign_cmp r, qcmp_gt h2, h1]; rfl
  · rw [qcmp_gt (show r < p by grind), qsign_cmp p, qcmp_gt h1, qsign_cmp r, qcmp_lt h2]; rfl
  · rw [qcmp_gt (show r < p by grind), qsign_cmp p, qcmp_gt h1, h2]; rfl
  · exact absurd (by rw [qsign_cmp, qsign_cmp, qcmp_gt h1, qcmp_gt h2]) h
theorem zcmp_div {n d m e : Int} (hd : 0 < d) (he : 0 < e) : zcmp (n * e) (m * d) = qcmp (Rat.divInt n d) (Rat.divInt m e) := by
  rw [cmp_div hd he]
  unfold zcmp
  split
  · rfl
  · split <;> split <;> omega

/-- Two fractions that came in. -/
structure P2 (w wx : World) (s : Bool) (A : Option Addr) (n c : Nat) (t : Bool) (B : Option Addr) (m d : Nat) (s2 : Bool) (A2 : Option Addr) (n2 c2 : Nat) (t2 : Bool) (B2 : Option Addr) (m2 d2 : Nat) : Prop where
  bel : Below w.heap.size w wx
  i1 : Qbx wx w.heap.size s A n c t B m d
  i2 : Qbx wx (w.heap.size + 1) s2 A2 n2 c2 t2 B2 m2 d2
section
variable {w wx wy : World} {s t s2 t2 : Bool} {A B A2 B2 : Option Addr} {n c m d n2 c2 m2 d2 : Nat}
theorem P2.start (w : World) (s : Bool) (A : Option Addr) (n c : Nat) (t : Bool) (B : Option Addr) (m d : Nat) (s2 : Bool) (A2 : Option Addr) (n2 c2 : Nat) (t2 : Bool) (B2 : Option Addr) (m2 d2 : Nat) :
    P2 w ((w.alloc (.cells #[.bool s, .slice A n c, .bool t, .slice B m d] 26)).alloc (.cells #[.bool s2, .slice A2 n2 c2, .bool t2, .slice B2 m2 d2] 26)) s A n c t B m d s2 A2 n2 c2 t2 B2 m2 d2 :=
  ⟨((Below.refl _ _).alloc (Nat.le_refl _) _).alloc (by simp) _, (Qbx.new _ _ rfl).alloc _, Qbx.new _ _ (by simp)⟩
theorem P2.below (h : P2 w wx s A n c t B m d s2 A2 n2 c2 t2 B2 m2 d2) (hb : Below wx.heap.size wx wy) : P2 w wy s A n c t B m d s2 A2 n2 c2 t2 B2 m2 d2 := ⟨below_on h.bel hb, h.i1.below hb, h.i2.below hb⟩
theorem P2.drew (h : P2 w wx s A n c t B m d s2 A2 n2 c2 t2 B2 m2 d2) : P2 w wx.drew s A n c t B m d s2 A2 n2 c2 t2 B2 m2 d2 := h.below ((Below.refl _ _).drew)
theorem P2.keep (h : P2 w wx s A n c t B m d s2 A2 n2 c2 t2 B2 m2 d2) : wx.cell? ⟨w.heap.size, 0, none⟩ = some (.bool s) ∧ wx.cell? ⟨w.heap.size, 1, none⟩ = some (.slice A n c) ∧ wx.cell? ⟨w.heap.size, 2, none⟩ = some (.bool t) ∧ wx.cell? ⟨w.heap.size, 3, none⟩ = some (.slice B m d) ∧ wx.cell? ⟨w.heap.size + 1, 0, none⟩ = some (.bool s2) ∧ wx.cell? ⟨w.heap.size + 1, 1, none⟩ = some (.slice A2 n2 c2) ∧ wx.cell? ⟨w.heap.size + 1, 2, none⟩ = some (.bool t2) ∧ wx.cell? ⟨w.heap.size + 1, 3, none⟩ = some (.slice B2 m2 d2) :=
  ⟨h.i1.c0, h.i1.c1, h.i1.c2, h.i1.c3, h.i2.c0, h.i2.c1, h.i2.c2, h.i2.c3⟩
end

set_option maxRecDepth 100000 in
set_option maxHeartbeats 8000000 in
theorem cmp_q {w : World} {s t s' t' : Bool} {A B A' B' : Option Addr} {n c m d n' c' m' d' k : Nat} {p r : Rat} (h1 : IsQ w s A n c t B m d p k) (h2 : IsQ w s' A' n' c' t' B' m' d' r k) (hk : 1 ≤ k) (hk2 : k ≤ 700) (kk : Int) (hq : qcmp p r = kk) :
    Calls Tryz.prog 57 #[.agg #[.bool s, .slice A n c, .bool t, .slice B m d], .agg #[.bool s', .slice A' n' c', .bool t', .slice B' m' d']] w (RetI w kk) := by
  have HS := Lib.hid (P2.start w s A n c t B m d s' A' n' c' t' B' m' d')
  have HP := Lib.hid ((h1.alloc (.cells #[.bool s, .slice A n c, .bool t, .slice B m d] 26)).alloc (.cells #[.bool s', .slice A' n' c', .bool t', .slice B' m' d'] 26))
  have HR := Lib.hid ((h2.alloc (.cells #[.bool s, .slice A n c, .bool t, .slice B m d] 26)).alloc (.cells #[.bool s', .slice A' n' c', .bool t', .slice B' m' d'] 26))
  have HQ := Lib.hid hq
  obtain ⟨sy, hsy⟩ : ∃ sy, qsign p = sy := ⟨_, rfl⟩
  obtain ⟨sz, hsz⟩ : ∃ sz, qsign r = sz := ⟨_, rfl⟩
  have HSY := Lib.hid hsy
  have HSZ := Lib.hid hsz
  by_cases hne : sy = sz
  · have b1 : (sy == sz) = true := by rw [hne]; exact beq_self_eq_true _
    have b2 : (sy != sz) = false := by rw [hne]; exact bne_self_eq_false _
    clear h1 h2 hq hsy hsz hne
    go_enter Tryz.func57, Tryz.ntmps57
    go_wp2_with fail
    go_region_held3 (fun V => V.cell? ⟨w.heap.size, 0, none⟩ = some (.bool s) ∧ V.cell? ⟨w.heap.size, 1, none⟩ = some (.slice A n c) ∧ V.cell? ⟨w.heap.size, 2, none⟩ = some (.bool t) ∧ V.cell? ⟨w.heap.size, 3, none⟩ = some (.slice B m d) ∧ V.cell? ⟨w.heap.size + 1, 0, none⟩ = some (.bool s') ∧ V.cell? ⟨w.heap.size + 1, 1, none⟩ = some (.slice A' n' c') ∧ V.cell? ⟨w.heap.size + 1, 2, none⟩ = some (.bool t') ∧ V.cell? ⟨w.heap.size + 1, 3, none⟩ = some (.slice B' m' d'))
     (first | (with_reducible exact HSb.out.keep) | (with_reducible exact HSa.out.keep) | (with_reducible exact HS.out.drew.keep))
     (first
      | (go_at_call 7; (with_reducible refine (sign_q HRa.out (by omega) sz HSZ.out).mono ?_); rintro e wb ⟨rfl, hbb⟩; have HSb := Lib.hid (HSa.out.below hbb); have HPb := Lib.hid (HPa.out.below hbb); have HRb := Lib.hid (HRa.out.below hbb))
      | (go_at_call 7; (with_reducible refine (sign_q HP.out.drew (by omega) sy HSY.out).mono ?_); rintro e wa ⟨rfl, hba⟩; have HSa := Lib.hid (HS.out.drew.below hba); have HPa := Lib.hid (HP.out.drew.below hba); have HRa := Lib.hid (HR.out.drew.below hba)))
    all_goals
      clear HS HP HR HSa HPa HRa
      have HS := HSb
      have HP := HPb
      have HR := HRb
      clear HSb HPb HRb
      have k0 := HS.out.i1.c0
      have k1 := HS.out.i1.c1
      have k2 := HS.out.i1.c2
      have k3 := HS.out.i1.c3
      go_wp2_with fail
      refine (parts_any _ s t A B n c m d k p HP.out hk (by omega)).mono ?_
      rintro e w1 ⟨s1, A1, n1, c1, s2, A2, n2, c2, x, dx, rfl, hx, hdx, hdp, hqp, hb1⟩
      have HS1 := Lib.hid (HS.out.below hb1)
      have HX1 := Lib.hid hx
      have HDX1 := Lib.hid hdx
      have HR1 := Lib.hid (HR.out.below hb1)
      clear hx hdx hb1 HS HP HR
      obtain ⟨V, hV⟩ : ∃ V, (w1.alloc (.cells #[.bool s1, .slice A1 n1 c1] 24)).alloc (.cells #[.bool s2, .slice A2 n2 c2] 24) = V := ⟨_, rfl⟩
      have HV : Hid (Below w1.heap.size w1 V) := by rw [← hV]; exact ((Below.refl _ _).alloc (Nat.le_refl _) _).alloc (by simp) _
      have HI1 : Hid (Ibx V w1.heap.size s1 A1 n1 c1) := by rw [← hV]; exact (Ibx.new' _ _ _ _ _ _ rfl).alloc _
      have HJ1 : Hid (Ibx V (w1.heap.size + 1) s2 A2 n2 c2) := by rw [← hV]; exact Ibx.new' _ _ _ _ _ _ (by simp)
      have HS2 := Lib.hid (HS1.out.below HV.out)
      have HX2 := Lib.hid (HX1.out.below HV.out)
      have HDX2 := Lib.hid (HDX1.out.below HV.out)
      have HR2 := Lib.hid (HR1.out.below HV.out)
      have HLW : Hid (w.heap.size + 1 < w1.heap.size) := HS1.out.i2.lt
      have k0 := HS2.out.i2.c0
      have k1 := HS2.out.i2.c1
      have k2 := HS2.out.i2.c2
      have k3 := HS2.out.i2.c3
      clear HS1 HX1 HDX1 HR1 HV
      go_wp2_with fail
      refine (parts_any _ s' t' A' B' n' c' m' d' k r HR2.out hk (by omega)).mono ?_
      rintro e w2 ⟨s3, A3, n3, c3, s4, A4, n4, c4, y, ey, rfl, hy, hey, hep, hqr, hb2⟩
      clear hV
      have HS3 := Lib.hid (HS2.out.below hb2)
      have HI3 := Lib.hid (HI1.out.below hb2)
      have HJ3 := Lib.hid (HJ1.out.below hb2)
      have HX3 := Lib.hid (HX2.out.below hb2)
      have HDX3 := Lib.hid (HDX2.out.below hb2)
      have HY3 := Lib.hid hy
      have HEY3 := Lib.hid hey
      have HLW2 : Hid (w.heap.size + 1 < w2.heap.size) := HS3.out.i2.lt
      clear hy hey hb2 HS2 HI1 HJ1 HX2 HDX2 HR2 k0 k1 k2 k3
      obtain ⟨W, hW⟩ : ∃ W, (w2.alloc (.cells #[.bool s3, .slice A3 n3 c3] 24)).alloc (.cells #[.bool s4, .slice A4 n4 c4] 24) = W := ⟨_, rfl⟩
      have HV : Hid (Below w2.heap.size w2 W) := by rw [← hW]; exact ((Below.refl _ _).alloc (Nat.le_refl _) _).alloc (by simp) _
      have HI4 : Hid (Ibx W w2.heap.size s3 A3 n3 c3) := by rw [← hW]; exact (Ibx.new' _ _ _ _ _ _ rfl).alloc _
      have HJ4 : Hid (Ibx W (w2.heap.size + 1) s4 A4 n4 c4) := by rw [← hW]; exact Ibx.new' _ _ _ _ _ _ (by simp)
      have HS := Lib.hid (HS3.out.below HV.out)
      have HD : Hid (D4 W w1.heap.size w2.heap.size s1 A1 n1 c1 s2 A2 n2 c2 s3 A3 n3 c3 s4 A4 n4 c4 x dx y ey k) := ⟨HI3.out.below HV.out, HJ3.out.below HV.out, HI4.out, HJ4.out, HX3.out.below HV.out, HDX3.out.below HV.out, HY3.out.below HV.out, HEY3.out.below HV.out⟩
      have HQP := Lib.hid hqp
      have HQR := Lib.hid hqr
      clear HS3 HI3 HJ3 HI4 HJ4 HX3 HDX3 HY3 HEY3 HV hqp hqr
      obtain ⟨N, hN⟩ : ∃ N, x * ey = N := ⟨_, rfl⟩
      obtain ⟨M, hM⟩ : ∃ M, y * dx = M := ⟨_, rfl⟩
      have HE : Hid (zcmp N M = kk) := by
        show _ = _
        rw [← HQ.out, ← HQP.out, ← HQR.out, ← hN, ← hM]
        exact zcmp_div hdp hep
      have HNL : Hid (zl N ≤ 3000) := by show _ ≤ _; rw [← hN]; have h1 := zl_mul x ey; have h2 := HD.out.z1.zl; have h3 := HD.out.z4.zl; omega
      have HML : Hid (zl M ≤ 3000) := by show _ ≤ _; rw [← hM]; have h1 := zl_mul y dx; have h2 := HD.out.z3.zl; have h3 := HD.out.z2.zl; omega
      have HN := Lib.hid hN
      have HM := Lib.hid hM
      clear hN hM
      go_upto_region 6 with fail
      clear hW
      go_region_held3 (fun V => V.cell? ⟨w1.heap.size, 0, none⟩ = some (.bool s1) ∧ V.cell? ⟨w1.heap.size, 1, none⟩ = some (.slice A1 n1 c1) ∧ V.cell? ⟨w1.heap.size + 1, 0, none⟩ = some (.bool s2) ∧ V.cell? ⟨w1.heap.size + 1, 1, none⟩ = some (.slice A2 n2 c2) ∧ V.cell? ⟨w2.heap.size, 0, none⟩ = some (.bool s3) ∧ V.cell? ⟨w2.heap.size, 1, none⟩ = some (.slice A3 n3 c3) ∧ V.cell? ⟨w2.heap.size + 1, 0, none⟩ = some (.bool s4) ∧ V.cell? ⟨w2.heap.size + 1, 1, none⟩ = some (.slice A4 n4 c4))
       (first | (with_reducible exact HD8.out.keep) | (with_reducible exact HD6.out.keep) | (with_reducible exact HD5.out.keep) | (with_reducible exact HD.out.drew.keep))
       (first
        | (go_at_call 83; (with_reducible refine (cmp_j (HN6.out.isz HNL.out) (HM6.out.isz HML.out) (by omega)).mono ?_); rintro e w8 ⟨rfl, hb8⟩; have HS8 := Lib.hid (HS6.out.below hb8); have HD8 := Lib.hid (HD6.out.below hb8))
        | (go_at_call 53; (with_reducible refine (mul_j HD5.out.z3 HD5.out.z2 (by omega)).mono ?_); rintro e w6 ⟨s6, A6, n6, c6, rfl, h6, hb6⟩; rw [HM.out] at h6; have HS6 := Lib.hid (HS5.out.below hb6); have HD6 := Lib.hid (HD5.out.below hb6); have HN6 := Lib.hid (HN5.out.below hb6); have HM6 := Lib.hid h6)
        | (go_at_call 53; (with_reducible refine (mul_j HD.out.drew.z1 HD.out.drew.z4 (by omega)).mono ?_); rintro e w5 ⟨s5, A5, n5, c5, rfl, h5, hb5⟩; rw [HN.out] at h5; have HS5 := Lib.hid (HS.out.drew.below hb5); have HD5 := Lib.hid (HD.out.drew.below hb5); have HN5 := Lib.hid h5))
      all_goals
        go_wp2_with fail
        go_ret
        rw [HE.out]
        exact ⟨rfl, HS8.out.bel⟩
  · have HK : Hid (zcmp sy sz = kk) := by show _ = _; rw [← hq, ← hsy, ← hsz]; exact cmp_signs (by rw [hsy, hsz]; exact hne)
    have b1 : (sy == sz) = false := beq_eq_false_iff_ne.2 hne
    have b2 : (sy != sz) = true := bne_iff_ne.2 hne
    clear h1 h2 hq hsy hsz hne
    go_enter Tryz.func57, Tryz.ntmps57
    go_wp2_with fail
    go_region_held3 (fun V => V.cell? ⟨w.heap.size, 0, none⟩ = some (.bool s) ∧ V.cell? ⟨w.heap.size, 1, none⟩ = some (.slice A n c) ∧ V.cell? ⟨w.heap.size, 2, none⟩ = some (.bool t) ∧ V.cell? ⟨w.heap.size, 3, none⟩ = some (.slice B m d) ∧ V.cell? ⟨w.heap.size + 1, 0, none⟩ = some (.bool s') ∧ V.cell? ⟨w.heap.size + 1, 1, none⟩ = some (.slice A' n' c') ∧ V.cell? ⟨w.heap.size + 1, 2, none⟩ = some (.bool t') ∧ V.cell? ⟨w.heap.size + 1, 3, none⟩ = some (.slice B' m' d'))
     (first | (with_reducible exact HSb.out.keep) | (with_reducible exact HSa.out.keep) | (with_reducible exact HS.out.drew.keep))
     (first
      | (go_at_call 7; (with_reducible refine (sign_q HRa.out (by omega) sz HSZ.out).mono ?_); rintro e wb ⟨rfl, hbb⟩; have HSb := Lib.hid (HSa.out.below hbb); have HPb := Lib.hid (HPa.out.below hbb); have HRb := Lib.hid (HRa.out.below hbb))
      | (go_at_call 7; (with_reducible refine (sign_q HP.out.drew (by omega) sy HSY.out).mono ?_); rintro e wa ⟨rfl, hba⟩; have HSa := Lib.hid (HS.out.drew.below hba); have HPa := Lib.hid (HP.out.drew.below hba); have HRa := Lib.hid (HR.out.drew.below hba)))
    all_goals
      go_wp2_with fail
      refine (compare_any _ _ _).mono ?_
      rintro e wc ⟨rfl, rfl⟩
      go_wp2_with fail
      go_ret
      rw [HK.out]
      exact ⟨rfl, HSb.out.bel⟩

set_option maxRecDepth 100000 in
set_option maxHeartbeats 8000000 in
theorem same_q {w : World} {s t s' t' : Bool} {A B A' B' : Option Addr} {n c m d n' c' m' d' k : Nat} {p r : Rat} (h1 : IsQ w s A n c t B m d p k) (h2 : IsQ w s' A' n' c' t' B' m' d' r k) (hk : 1 ≤ k) (hk2 : k ≤ 700) (b : Bool) (hq : decide (p = r) = b) :
    Calls Tryz.prog 34 #[.agg #[.bool s, .slice A n c, .bool t, .slice B m d], .agg #[.bool s', .slice A' n' c', .bool t', .slice B' m' d']] w (RetB w b) := by
  have HS := Lib.hid (P2.start w s A n c t B m d s' A' n' c' t' B' m' d')
  have HP := Lib.hid ((h1.alloc (.cells #[.bool s, .slice A n c, .bool t, .slice B m d] 26)).alloc (.cells #[.bool s', .slice A' n' c', .bool t', .slice B' m' d'] 26))
  have HR := Lib.hid ((h2.alloc (.cells #[.bool s, .slice A n c, .bool t, .slice B m d] 26)).alloc (.cells #[.bool s', .slice A' n' c', .bool t', .slice B' m' d'] 26))
  obtain ⟨kk, hkk⟩ : ∃ kk, qcmp p r = kk := ⟨_, rfl⟩
  have HK := Lib.hid hkk
  have HB : Hid ((kk == 0) = b) := by
    show _ = _
    rw [← hq, ← hkk]
    by_cases h : p = r
    · rw [decide_eq_true h, qcmp_zero_iff.2 h]; rfl
    · rw [decide_eq_false h, beq_eq_false_iff_ne]; exact fun h2 => h (qcmp_zero_iff.1 h2)
  clear h1 h2 hq hkk
  go_enter Tryz.func34, Tryz.ntmps34
  go_wp2_with fail
  refine (cmp_q HP.out HR.out hk hk2 kk HK.out).mono ?_
  rintro e w1 ⟨rfl, hb1⟩
  have HS1 := Lib.hid (HS.out.below hb1)
  clear hb1
  go_wp2_with fail
  go_ret
  rw [HB.out]
  exact ⟨rfl, HS1.out.bel⟩

/-- One fraction that came in, and the place for a whole number. -/
structure SF (w wx : World) (s : Bool) (A : Option Addr) (n c : Nat) (t : Bool) (B : Option Addr) (m d : Nat) : Prop where
  bel : Below w.heap.size w wx
  i : Qbx wx w.heap.size s A n c t B m d
  o : Ibx wx (w.heap.size + 1) false none 0 0
theorem SF.start (w : World) (s : Bool) (A : Option Addr) (n c : Nat) (t : Bool) (B : Option Addr) (m d : Nat) : SF w ((w.alloc (.cells #[.bool s, .slice A n c, .bool t, .slice B m d] 26)).alloc (.cells #[.bool false, .slice none 0 0] 24)) s A n c t B m d :=
  ⟨((Below.refl _ _).alloc (Nat.le_refl _) _).alloc (by simp) _, (Qbx.new _ _ rfl).alloc _, Ibx.new' _ _ _ _ _ _ (by simp)⟩
theorem SF.below {w wx wy : World} {s t : Bool} {A B : Option Addr} {n c m d : Nat} (h : SF w wx s A n c t B m d) (hb : Below wx.heap.size wx wy) : SF w wy s A n c t B m d := ⟨below_on h.bel hb, h.i.below hb, h.o.below hb⟩
theorem zrem_pos {y z : Int} (hz : 0 < z) : zrem y z = y % z := by unfold zrem; rw [if_neg (by omega)]

/-- A fraction and an error's number. -/
def RetQE (w : World) (q : Rat) (code : Int) (e : Ending) (w' : World) : Prop :=
  ∃ s A n c t B m d, e = .returned (.tuple #[.agg #[.bool s, .slice A n c, .bool t, .slice B m d], .int .i64 code]) ∧ OneQ w' s A n c t B m d q ∧ Below w.heap.size w w'
theorem retqe_put {w wx : World} {g : Nat} {s0 : Bool} {A0 : Option Addr} {n0 c0 : Nat} {t0 : Bool} {B0 : Option Addr} {m0 d0 : Nat} {s : Bool} {A : Option Addr} {n c : Nat} {t : Bool} {B : Option Addr} {m d : Nat} {q : Rat} {code : Int} (h : OneQ wx s A n c t B m d q) (ho : Qbx wx g s0 A0 n0 c0 t0 B0 m0 d0) (hg : w.heap.size ≤ g) (hb : Below w.heap.size w wx) :
    RetQE w q code (.returned (.tuple #[.agg #[.bool s, .slice A n c, .bool t, .slice B m d], .int .i64 code])) (put4 wx g s A n c t B m d) := ⟨s, A, n, c, t, B, m, d, rfl, h.on4 ho.bx, below_put4 hb hg⟩

end Go.Proofs.YtmbnlhedbedcdaaGreatDoor.Q