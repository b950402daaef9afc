/- RatioField, walked. -/
import Derived.Test.YtngkmkbpcejkeaaGreatDoorRThree
namespace Go.Proofs.YtngkmkbpcejkeaaGreatDoor.Q
open Go.RowKit
open Go.Proofs.YtngkmkbpcejkeaaGreatDoor.D (Tab)

theorem ql_zero : ql (0 : Rat) ≤ 1 := by
  show max (zl 0) (dig 1).length ≤ 1
  have e1 : zl 0 ≤ 1 := zl_small (by omega) (by omega)
  have e2 : (dig 1).length ≤ 1 := dig_length_le (by rw [B64_eq]; omega)
  omega
theorem isq_zero (w : World) (k : Nat) {q : Rat} (h : 0 = q) : IsQ w false none 0 0 false none 0 0 q k := by
  subst h
  exact ⟨⟨[], [], rfl, rfl, Num.nil _ _, Num.nil _ _, Rat.zero_divInt _⟩, Nat.zero_le _, Nat.zero_le _, Nat.le_refl _, Nat.le_refl _⟩

set_option maxRecDepth 100000 in
set_option maxHeartbeats 8000000 in
theorem field_core (w : World) (sa : Bool) (Aa : Option Addr) (na ca : Nat) (ta : Bool) (Ba : Option Addr) (ma da : Nat) (sb : Bool) (Ab : Option Addr) (nb cb : Nat) (tb : Bool) (Bb : Option Addr) (mb db : Nat) (sc : Bool) (Ac : Option Addr) (nc cc : Nat) (tc : Bool) (Bc : Option Addr) (mc dc : Nat) (p r u : Rat) (h1 : IsQ w sa Aa na ca ta Ba ma da p 12) (h2 : IsQ w sb Ab nb cb tb Bb mb db r 12) (h3 : IsQ w sc Ac nc cc tc Bc mc dc u 12) (htab : Tab w) :
    Calls Tryz.prog 6 #[.agg #[.bool sa, .slice Aa na ca, .bool ta, .slice Ba ma da], .agg #[.bool sb, .slice Ab nb cb, .bool tb, .slice Bb mb db], .agg #[.bool sc, .slice Ac nc cc, .bool tc, .slice Bc mc dc]] w (RetB w true) := by
  have HL_p : Hid (ql p ≤ 12) := h1.ql (by omega)
  have HL_r : Hid (ql r ≤ 12) := h2.ql (by omega)
  have HL_u : Hid (ql u ≤ 12) := h3.ql (by omega)
  have HT := Lib.hid htab
  have HX := Lib.hid (Q3.start h1 h2 h3)
  have HSH : Hid (decide ((na ≤ 12 ∧ ma ≤ 12) ∧ (nb ≤ 12 ∧ mb ≤ 12) ∧ (nc ≤ 12 ∧ mc ≤ 12)) = true) := decide_eq_true ⟨⟨h1.le, h1.le2⟩, ⟨h2.le, h2.le2⟩, h3.le, h3.le2⟩
  obtain ⟨s1, he_s1⟩ : ∃ v : Rat, p + r = v := ⟨_, rfl⟩
  have HE_s1 := Lib.hid he_s1
  have HL_s1 : Hid (ql s1 ≤ 49) := by
    show _ ≤ _
    have h := (Nat.le_trans (ql_add p r) (by have := HL_p.out; have := HL_r.out; omega) : ql (p + r) ≤ 49)
    rw [he_s1] at h
    omega
  obtain ⟨s2, he_s2⟩ : ∃ v : Rat, r + p = v := ⟨_, rfl⟩
  have HE_s2 := Lib.hid he_s2
  have HL_s2 : Hid (ql s2 ≤ 49) := by
    show _ ≤ _
    have h := (Nat.le_trans (ql_add r p) (by have := HL_r.out; have := HL_p.out; omega) : ql (r + p) ≤ 49)
    rw [he_s2] at h
    omega
  obtain ⟨s3, he_s3⟩ : ∃ v : Rat, s1 + u = v := ⟨_, rfl⟩
  have HE_s3 := Lib.hid he_s3
  have HL_s3 : Hid (ql s3 ≤ 123) := by
    show _ ≤ _
    have h := (Nat.le_trans (ql_add s1 u) (by have := HL_s1.out; have := HL_u.out; omega) : ql (s1 + u) ≤ 123)
    rw [he_s3] at h
    omega
  obtain ⟨s4, he_s4⟩ : ∃ v : Rat, r + u = v := ⟨_, rfl⟩
  have HE_s4 := Lib.hid he_s4
  have HL_s4 : Hid (ql s4 ≤ 49) := by
    show _ ≤ _
    have h := (Nat.le_trans (ql_add r u) (by have := HL_r.out; have := HL_u.out; omega) : ql (r + u) ≤ 49)
    rw [he_s4] at h
    omega
  obtain ⟨s5, he_s5⟩ : ∃ v : Rat, p + s4 = v := ⟨_, rfl⟩
  have HE_s5 := Lib.hid he_s5
  have HL_s5 : Hid (ql s5 ≤ 123) := by
    show _ ≤ _
    have h := (Nat.le_trans (ql_add p s4) (by have := HL_p.out; have := HL_s4.out; omega) : ql (p + s4) ≤ 123)
    rw [he_s5] at h
    omega
  obtain ⟨d0, he_d0⟩ : ∃ v : Rat, p - p = v := ⟨_, rfl⟩
  have HE_d0 := Lib.hid he_d0
  have HL_d0 : Hid (ql d0 ≤ 49) := by
    show _ ≤ _
    have h := (Nat.le_trans (ql_sub p p) (by have := HL_p.out; have := HL_p.out; omega) : ql (p - p) ≤ 49)
    rw [he_d0] at h
    omega
  obtain ⟨d1, he_d1⟩ : ∃ v : Rat, s1 - r = v := ⟨_, rfl⟩
  have HE_d1 := Lib.hid he_d1
  have HL_d1 : Hid (ql d1 ≤ 123) := by
    show _ ≤ _
    have h := (Nat.le_trans (ql_sub s1 r) (by have := HL_s1.out; have := HL_r.out; omega) : ql (s1 - r) ≤ 123)
    rw [he_d1] at h
    omega
  obtain ⟨m1, he_m1⟩ : ∃ v : Rat, p * r = v := ⟨_, rfl⟩
  have HE_m1 := Lib.hid he_m1
  have HL_m1 : Hid (ql m1 ≤ 24) := by
    show _ ≤ _
    have h := (Nat.le_trans (ql_mul p r) (by have := HL_p.out; have := HL_r.out; omega) : ql (p * r) ≤ 24)
    rw [he_m1] at h
    omega
  obtain ⟨m2, he_m2⟩ : ∃ v : Rat, r * p = v := ⟨_, rfl⟩
  have HE_m2 := Lib.hid he_m2
  have HL_m2 : Hid (ql m2 ≤ 24) := by
    show _ ≤ _
    have h := (Nat.le_trans (ql_mul r p) (by have := HL_r.out; have := HL_p.out; omega) : ql (r * p) ≤ 24)
    rw [he_m2] at h
    omega
  obtain ⟨m3, he_m3⟩ : ∃ v : Rat, m1 * u = v := ⟨_, rfl⟩
  have HE_m3 := Lib.hid he_m3
  have HL_m3 : Hid (ql m3 ≤ 36) := by
    show _ ≤ _
    have h := (Nat.le_trans (ql_mul m1 u) (by have := HL_m1.out; have := HL_u.out; omega) : ql (m1 * u) ≤ 36)
    rw [he_m3] at h
    omega
  obtain ⟨m4, he_m4⟩ : ∃ v : Rat, r * u = v := ⟨_, rfl⟩
  have HE_m4 := Lib.hid he_m4
  have HL_m4 : Hid (ql m4 ≤ 24) := by
    show _ ≤ _
    have h := (Nat.le_trans (ql_mul r u) (by have := HL_r.out; have := HL_u.out; omega) : ql (r * u) ≤ 24)
    rw [he_m4] at h
    omega
  obtain ⟨m5, he_m5⟩ : ∃ v : Rat, p * m4 = v := ⟨_, rfl⟩
  have HE_m5 := Lib.hid he_m5
  have HL_m5 : Hid (ql m5 ≤ 36) := by
    show _ ≤ _
    have h := (Nat.le_trans (ql_mul p m4) (by have := HL_p.out; have := HL_m4.out; omega) : ql (p * m4) ≤ 36)
    rw [he_m5] at h
    omega
  obtain ⟨m6, he_m6⟩ : ∃ v : Rat, p * s4 = v := ⟨_, rfl⟩
  have HE_m6 := Lib.hid he_m6
  have HL_m6 : Hid (ql m6 ≤ 61) := by
    show _ ≤ _
    have h := (Nat.le_trans (ql_mul p s4) (by have := HL_p.out; have := HL_s4.out; omega) : ql (p * s4) ≤ 61)
    rw [he_m6] at h
    omega
  obtain ⟨m7, he_m7⟩ : ∃ v : Rat, p * u = v := ⟨_, rfl⟩
  have HE_m7 := Lib.hid he_m7
  have HL_m7 : Hid (ql m7 ≤ 24) := by
    show _ ≤ _
    have h := (Nat.le_trans (ql_mul p u) (by have := HL_p.out; have := HL_u.out; omega) : ql (p * u) ≤ 24)
    rw [he_m7] at h
    omega
  obtain ⟨s6, he_s6⟩ : ∃ v : Rat, m1 + m7 = v := ⟨_, rfl⟩
  have HE_s6 := Lib.hid he_s6
  have HL_s6 : Hid (ql s6 ≤ 97) := by
    show _ ≤ _
    have h := (Nat.le_trans (ql_add m1 m7) (by have := HL_m1.out; have := HL_m7.out; omega) : ql (m1 + m7) ≤ 97)
    rw [he_s6] at h
    omega
  obtain ⟨q1, he_q1⟩ : ∃ v : Rat, p / r = v := ⟨_, rfl⟩
  have HE_q1 := Lib.hid he_q1
  have HL_q1 : Hid (ql q1 ≤ 24) := by
    show _ ≤ _
    have h := (Nat.le_trans (ql_quo p r) (by have := HL_p.out; have := HL_r.out; omega) : ql (p / r) ≤ 24)
    rw [he_q1] at h
    omega
  obtain ⟨n1, he_n1⟩ : ∃ v : Rat, -p = v := ⟨_, rfl⟩
  have HE_n1 := Lib.hid he_n1
  have HL_n1 : Hid (ql n1 ≤ 12) := by
    show _ ≤ _
    have h := (Nat.le_trans (Nat.le_of_eq (ql_neg p)) HL_p.out : ql (-p) ≤ 12)
    rw [he_n1] at h
    omega
  obtain ⟨z0, he_z0⟩ : ∃ v : Rat, (0 : Rat) = v := ⟨_, rfl⟩
  have HE_z0 := Lib.hid he_z0
  have HL_z0 : Hid (ql z0 ≤ 1) := by
    show _ ≤ _
    have h := ql_zero
    rw [he_z0] at h
    omega
  obtain ⟨d2, he_d2⟩ : ∃ v : Rat, z0 - p = v := ⟨_, rfl⟩
  have HE_d2 := Lib.hid he_d2
  have HL_d2 : Hid (ql d2 ≤ 27) := by
    show _ ≤ _
    have h := (Nat.le_trans (ql_sub z0 p) (by have := HL_z0.out; have := HL_p.out; omega) : ql (z0 - p) ≤ 27)
    rw [he_d2] at h
    omega
  obtain ⟨one, he_one⟩ : ∃ v : Rat, Rat.divInt (1) (1) = v := ⟨_, rfl⟩
  have HE_one := Lib.hid he_one
  have HL_one : Hid (ql one ≤ 1) := by
    show _ ≤ _
    have h := ql_of (n := 1) (d := 1) (by omega) (by omega) (by omega) (by omega)
    rw [he_one] at h
    omega
  obtain ⟨m8, he_m8⟩ : ∃ v : Rat, p * one = v := ⟨_, rfl⟩
  have HE_m8 := Lib.hid he_m8
  have HL_m8 : Hid (ql m8 ≤ 13) := by
    show _ ≤ _
    have h := (Nat.le_trans (ql_mul p one) (by have := HL_p.out; have := HL_one.out; omega) : ql (p * one) ≤ 13)
    rw [he_m8] at h
    omega
  obtain ⟨m9, he_m9⟩ : ∃ v : Rat, q1 * r = v := ⟨_, rfl⟩
  have HE_m9 := Lib.hid he_m9
  have HL_m9 : Hid (ql m9 ≤ 36) := by
    show _ ≤ _
    have h := (Nat.le_trans (ql_mul q1 r) (by have := HL_q1.out; have := HL_r.out; omega) : ql (q1 * r) ≤ 36)
    rw [he_m9] at h
    omega
  obtain ⟨q2, he_q2⟩ : ∃ v : Rat, m1 / r = v := ⟨_, rfl⟩
  have HE_q2 := Lib.hid he_q2
  have HL_q2 : Hid (ql q2 ≤ 36) := by
    show _ ≤ _
    have h := (Nat.le_trans (ql_quo m1 r) (by have := HL_m1.out; have := HL_r.out; omega) : ql (m1 / r) ≤ 36)
    rw [he_q2] at h
    omega
  have E1 : Hid (s1 = s2) := by
    show _ = _
    rw [← he_s1, ← he_s2]
    grind
  have E2 : Hid (s3 = s5) := by
    show _ = _
    rw [← he_s3, ← he_s5, ← he_s1, ← he_s4]
    grind
  have E3 : Hid (qsign d0 = 0) := by
    show _ = _
    rw [← he_d0, Rat.sub_self]
    rfl
  have E4 : Hid (d1 = p) := by
    show _ = _
    rw [← he_d1, ← he_s1]
    grind
  have E5 : Hid (n1 = d2) := by
    show _ = _
    rw [← he_n1, ← he_d2, ← he_z0]
    grind
  have F1 : Hid (m1 = m2) := by
    show _ = _
    rw [← he_m1, ← he_m2]
    grind
  have F2 : Hid (m3 = m5) := by
    show _ = _
    rw [← he_m3, ← he_m5, ← he_m1, ← he_m4]
    grind
  have F3 : Hid (m6 = s6) := by
    show _ = _
    rw [← he_m6, ← he_s6, ← he_s4, ← he_m1, ← he_m7]
    grind
  have F4 : Hid (m8 = p) := by
    show _ = _
    rw [← he_m8, ← he_one, div_one]
    exact Rat.mul_one p
  have G1 : Hid (r ≠ 0 → m9 = p) := by
    show _ → _
    intro hr
    rw [← he_m9, ← he_q1]
    exact Rat.div_mul_cancel hr
  have G2 : Hid (r ≠ 0 → q2 = p) := by
    show _ → _
    intro hr
    rw [← he_q2, ← he_m1]
    exact Rat.mul_div_cancel hr
  have G3 : Hid (r = 0 → qsign q1 = 0) := by
    show _ → _
    intro hr
    rw [← he_q1, hr, Rat.div_def, Rat.inv_zero, Rat.mul_zero]
    rfl
  obtain ⟨sg, hsg⟩ : ∃ sg, qsign r = sg := ⟨_, rfl⟩
  have HSG := Lib.hid hsg
  clear hsg
  obtain ⟨vs, hvs⟩ : ∃ vs, decide (p = r) = vs := ⟨_, rfl⟩
  have HVS := Lib.hid hvs
  clear hvs
  clear h1 h2 h3 htab he_s1 he_s2 he_s3 he_s4 he_s5 he_d0 he_d1 he_m1 he_m2 he_m3 he_m4 he_m5 he_m6 he_m7 he_s6 he_q1 he_n1 he_z0 he_d2 he_one he_m8 he_m9 he_q2
  go_enter Tryz.func6, Tryz.ntmps6
  go_wp2_with fail
  refine (short_j _ sa Aa na ca ta Ba ma da sb Ab nb cb tb Bb mb db sc Ac nc cc tc Bc mc dc true HSH.out).mono ?_
  rintro e w1 ⟨rfl, hbx⟩
  replace HX := Lib.hid (HX.out.below hbx)
  clear hbx
  go_upto_region 4 with fail
  go_cut [8] from 17 to 65 (fun s8 wx => s8 = .bool true ∧ Hid (Q3 w wx sa Aa na ca ta Ba ma da sb Ab nb cb tb Bb mb db sc Ac nc cc tc Bc mc dc p r u 12))
  case first =>
    as_aux_lemma =>
      replace HX := Lib.hid HX.out.drew
      refine wp_region_held_drew (S := (fun V => V.cell? ⟨w.heap.size, 0, none⟩ = some (.bool sa) ∧ V.cell? ⟨w.heap.size, 1, none⟩ = some (.slice Aa na ca) ∧ V.cell? ⟨w.heap.size, 2, none⟩ = some (.bool ta) ∧ V.cell? ⟨w.heap.size, 3, none⟩ = some (.slice Ba ma da) ∧ V.cell? ⟨w.heap.size + 1, 0, none⟩ = some (.bool sb) ∧ V.cell? ⟨w.heap.size + 1, 1, none⟩ = some (.slice Ab nb cb) ∧ V.cell? ⟨w.heap.size + 1, 2, none⟩ = some (.bool tb) ∧ V.cell? ⟨w.heap.size + 1, 3, none⟩ = some (.slice Bb mb db) ∧ V.cell? ⟨w.heap.size + 1 + 1, 0, none⟩ = some (.bool sc) ∧ V.cell? ⟨w.heap.size + 1 + 1, 1, none⟩ = some (.slice Ac nc cc) ∧ V.cell? ⟨w.heap.size + 1 + 1, 2, none⟩ = some (.bool tc) ∧ V.cell? ⟨w.heap.size + 1 + 1, 3, none⟩ = some (.slice Bc mc dc))) (by kernel_rfl) (by with_reducible exact HX.out.keep) (fun hHeld => ?_)
      refine' wpAnyH_take (i := 0) (v := _) rfl (by kernel_rfl) (by kernel_rfl) (by kernel_rfl) (fun _ _ _ h => h) (Or.inl ⟨by rfl, ?hy1⟩) (by assumption) ?rest1
      case hy1 => (intro w hSw; (try dsimp only at hSw); try simp only [List.getElem_toArray, List.getElem_cons_zero]; go_simp; (try with_reducible rfl))
      try simp only [List.getElem_toArray, List.getElem_cons_zero]
      try simp only [Act.put, List.setIfInBounds_toArray, List.set_cons_zero, List.set_cons_succ]
      refine' wpAnyH_take (i := 1) (v := _) rfl (by kernel_rfl) (by kernel_rfl) (by kernel_rfl) (fun _ _ _ h => h) (Or.inl ⟨by rfl, ?hy2⟩) (by assumption) ?rest2
      case hy2 => (intro w hSw; (try dsimp only at hSw); try simp only [List.getElem_toArray, List.getElem_cons_zero, List.getElem_cons_succ]; go_simp; (try with_reducible rfl))
      try simp only [List.getElem_toArray, List.getElem_cons_zero, List.getElem_cons_succ]
      try simp only [Act.put, List.setIfInBounds_toArray, List.set_cons_zero, List.set_cons_succ]
      refine' wpAnyH_take (i := 2) (v := _) rfl (by kernel_rfl) (by kernel_rfl) (by kernel_rfl) (fun _ _ _ h => h) (Or.inl ⟨by rfl, ?hy3⟩) (by assumption) ?rest3
      case hy3 => (intro w hSw; (try dsimp only at hSw); try simp only [List.getElem_toArray, List.getElem_cons_zero, List.getElem_cons_succ]; go_simp; (try with_reducible rfl))
      try simp only [List.getElem_toArray, List.getElem_cons_zero, List.getElem_cons_succ]
      try simp only [Act.put, List.setIfInBounds_toArray, List.set_cons_zero, List.set_cons_succ]
      refine' wpAnyH_take (i := 4) (v := _) rfl (by kernel_rfl) (by kernel_rfl) (by kernel_rfl) (fun _ _ _ h => h) (Or.inl ⟨by rfl, ?hy4⟩) (by assumption) ?rest4
      case hy4 => (intro w hSw; (try dsimp only at hSw); try simp only [List.getElem_toArray, List.getElem_cons_zero, List.getElem_cons_succ]; go_simp; (try with_reducible rfl))
      try simp only [List.getElem_toArray, List.getElem_cons_zero, List.getElem_cons_succ]
      try simp only [Act.put, List.setIfInBounds_toArray, List.set_cons_zero, List.set_cons_succ]
      refine' wpAnyH_take (i := 5) (v := _) rfl (by kernel_rfl) (by kernel_rfl) (by kernel_rfl) (fun _ _ _ h => h) (Or.inl ⟨by rfl, ?hy5⟩) (by assumption) ?rest5
      case hy5 => (intro w hSw; (try dsimp only at hSw); try simp only [List.getElem_toArray, List.getElem_cons_zero, List.getElem_cons_succ]; go_simp; (try with_reducible rfl))
      try simp only [List.getElem_toArray, List.getElem_cons_zero, List.getElem_cons_succ]
      try simp only [Act.put, List.setIfInBounds_toArray, List.set_cons_zero, List.set_cons_succ]
      refine wpAnyH_ready (rs := [3]) (by kernel_rfl) (by simp) ?_
      refine AllReadyH.cons rfl (fun K hK => ?_) AllReadyH.nil
      try simp only [List.getElem_toArray, List.getElem_cons_zero, List.getElem_cons_succ]
      go_simp
      with_reducible refine (add_q (HX.out.a.mono (l := 700) (by omega)) (HX.out.b.mono (l := 700) (by omega)) (by omega) (by omega) s1 HE_s1.out).mono ?_
      rintro e w2 ⟨s_x1, A_x1, n_x1, c_x1, t_x1, B_x1, m_x1, d_x1, rfl, h_x1, hbx⟩
      replace HX := Lib.hid (HX.out.below hbx)
      have H_x1 := Lib.hid h_x1
      clear hbx
      refine hK.out _ _ (by with_reducible exact HX.out.keep) (fun hHeld => ?_)
      clear hK K
      try simp only [Act.put, List.setIfInBounds_toArray, List.set_cons_zero, List.set_cons_succ]
      refine wpAnyH_ready (rs := [6]) (by kernel_rfl) (by simp) ?_
      refine AllReadyH.cons rfl (fun K hK => ?_) AllReadyH.nil
      try simp only [List.getElem_toArray, List.getElem_cons_zero, List.getElem_cons_succ]
      go_simp
      with_reducible refine (add_q (HX.out.b.mono (l := 700) (by omega)) (HX.out.a.mono (l := 700) (by omega)) (by omega) (by omega) s2 HE_s2.out).mono ?_
      rintro e w3 ⟨s_x2, A_x2, n_x2, c_x2, t_x2, B_x2, m_x2, d_x2, rfl, h_x2, hbx⟩
      replace HX := Lib.hid (HX.out.below hbx)
      replace H_x1 := Lib.hid (H_x1.out.below hbx)
      have H_x2 := Lib.hid h_x2
      clear hbx
      refine hK.out _ _ (by with_reducible exact HX.out.keep) (fun hHeld => ?_)
      clear hK K
      try simp only [Act.put, List.setIfInBounds_toArray, List.set_cons_zero, List.set_cons_succ]
      refine wpAnyH_ready (rs := [7]) (by kernel_rfl) (by simp) ?_
      refine AllReadyH.cons rfl (fun K hK => ?_) AllReadyH.nil
      try simp only [List.getElem_toArray, List.getElem_cons_zero, List.getElem_cons_succ]
      go_simp
      with_reducible refine (rat_t H_x1.out H_x2.out (Nat.le_trans HL_s1.out (by omega)) E1.out).mono ?_
      rintro e w4 ⟨rfl, hbx⟩
      replace HX := Lib.hid (HX.out.below hbx)
      replace H_x1 := Lib.hid (H_x1.out.below hbx)
      replace H_x2 := Lib.hid (H_x2.out.below hbx)
      clear hbx
      refine hK.out _ _ (by with_reducible exact HX.out.keep) (fun hHeld => ?_)
      clear hK K
      try simp only [Act.put, List.setIfInBounds_toArray, List.set_cons_zero, List.set_cons_succ]
      refine' wpAnyH_take (i := 8) (v := _) rfl (by kernel_rfl) (by kernel_rfl) (by kernel_rfl) (fun _ _ _ h => h) (Or.inl ⟨by rfl, ?hy6⟩) (by assumption) ?rest6
      case hy6 => (intro w hSw; (try dsimp only at hSw); try simp only [List.getElem_toArray, List.getElem_cons_zero, List.getElem_cons_succ]; go_simp; (try with_reducible rfl))
      try simp only [List.getElem_toArray, List.getElem_cons_zero, List.getElem_cons_succ]
      try simp only [Act.put, List.setIfInBounds_toArray, List.set_cons_zero, List.set_cons_succ]
      refine' wpAnyH_take (i := 9) (v := _) rfl (by kernel_rfl) (by kernel_rfl) (by kernel_rfl) (fun _ _ _ h => h) (Or.inl ⟨by rfl, ?hy7⟩) (by assumption) ?rest7
      case hy7 => (intro w hSw; (try dsimp only at hSw); try simp only [List.getElem_toArray, List.getElem_cons_zero, List.getElem_cons_succ]; go_simp; (try with_reducible rfl))
      try simp only [List.getElem_toArray, List.getElem_cons_zero, List.getElem_cons_succ]
      try simp only [Act.put, List.setIfInBounds_toArray, List.set_cons_zero, List.set_cons_succ]
      refine' wpAnyH_take (i := 10) (v := _) rfl (by kernel_rfl) (by kernel_rfl) (by kernel_rfl) (fun _ _ _ h => h) (Or.inl ⟨by rfl, ?hy8⟩) (by assumption) ?rest8
      case hy8 => (intro w hSw; (try dsimp only at hSw); try simp only [List.getElem_toArray, List.getElem_cons_zero, List.getElem_cons_succ]; go_simp; (try with_reducible rfl))
      try simp only [List.getElem_toArray, List.getElem_cons_zero, List.getElem_cons_succ]
      try simp only [Act.put, List.setIfInBounds_toArray, List.set_cons_zero, List.set_cons_succ]
      refine' wpAnyH_take (i := 11) (v := _) rfl (by kernel_rfl) (by kernel_rfl) (by kernel_rfl) (fun _ _ _ h => h) (Or.inl ⟨by rfl, ?hy9⟩) (by assumption) ?rest9
      case hy9 => (intro w hSw; (try dsimp only at hSw); try simp only [List.getElem_toArray, List.getElem_cons_zero, List.getElem_cons_succ]; go_simp; (try with_reducible rfl))
      try simp only [List.getElem_toArray, List.getElem_cons_zero, List.getElem_cons_succ]
      try simp only [Act.put, List.setIfInBounds_toArray, List.set_cons_zero, List.set_cons_succ]
      refine' wpAnyH_take (i := 13) (v := _) rfl (by kernel_rfl) (by kernel_rfl) (by kernel_rfl) (fun _ _ _ h => h) (Or.inl ⟨by rfl, ?hy10⟩) (by assumption) ?rest10
      case hy10 => (intro w hSw; (try dsimp only at hSw); try simp only [List.getElem_toArray, List.getElem_cons_zero, List.getElem_cons_succ]; go_simp; (try with_reducible rfl))
      try simp only [List.getElem_toArray, List.getElem_cons_zero, List.getElem_cons_succ]
      try simp only [Act.put, List.setIfInBounds_toArray, List.set_cons_zero, List.set_cons_succ]
      refine' wpAnyH_take (i := 15) (v := _) rfl (by kernel_rfl) (by kernel_rfl) (by kernel_rfl) (fun _ _ _ h => h) (Or.inl ⟨by rfl, ?hy11⟩) (by assumption) ?rest11
      case hy11 => (intro w hSw; (try dsimp only at hSw); try simp only [List.getElem_toArray, List.getElem_cons_zero, List.getElem_cons_succ]; go_simp; (try with_reducible rfl))
      try simp only [List.getElem_toArray, List.getElem_cons_zero, List.getElem_cons_succ]
      try simp only [Act.put, List.setIfInBounds_toArray, List.set_cons_zero, List.set_cons_succ]
      refine' wpAnyH_take (i := 16) (v := _) rfl (by kernel_rfl) (by kernel_rfl) (by kernel_rfl) (fun _ _ _ h => h) (Or.inl ⟨by rfl, ?hy12⟩) (by assumption) ?rest12
      case hy12 => (intro w hSw; (try dsimp only at hSw); try simp only [List.getElem_toArray, List.getElem_cons_zero, List.getElem_cons_succ]; go_simp; (try with_reducible rfl))
      try simp only [List.getElem_toArray, List.getElem_cons_zero, List.getElem_cons_succ]
      try simp only [Act.put, List.setIfInBounds_toArray, List.set_cons_zero, List.set_cons_succ]
      refine' wpAnyH_take (i := 17) (v := _) rfl (by kernel_rfl) (by kernel_rfl) (by kernel_rfl) (fun _ _ _ h => h) (Or.inl ⟨by rfl, ?hy13⟩) (by assumption) ?rest13
      case hy13 => (intro w hSw; (try dsimp only at hSw); try simp only [List.getElem_toArray, List.getElem_cons_zero, List.getElem_cons_succ]; go_simp; (try with_reducible rfl))
      try simp only [List.getElem_toArray, List.getElem_cons_zero, List.getElem_cons_succ]
      try simp only [Act.put, List.setIfInBounds_toArray, List.set_cons_zero, List.set_cons_succ]
      refine wpAnyH_ready (rs := [12]) (by kernel_rfl) (by simp) ?_
      refine AllReadyH.cons rfl (fun K hK => ?_) AllReadyH.nil
      try simp only [List.getElem_toArray, List.getElem_cons_zero, List.getElem_cons_succ]
      go_simp
      with_reducible refine (add_q (HX.out.a.mono (l := 700) (by omega)) (HX.out.b.mono (l := 700) (by omega)) (by omega) (by omega) s1 HE_s1.out).mono ?_
      rintro e w5 ⟨s_x3, A_x3, n_x3, c_x3, t_x3, B_x3, m_x3, d_x3, rfl, h_x3, hbx⟩
      replace HX := Lib.hid (HX.out.below hbx)
      have H_x3 := Lib.hid h_x3
      clear hbx
      refine hK.out _ _ (by with_reducible exact HX.out.keep) (fun hHeld => ?_)
      clear hK K
      try simp only [Act.put, List.setIfInBounds_toArray, List.set_cons_zero, List.set_cons_succ]
      refine wpAnyH_ready (rs := [14]) (by kernel_rfl) (by simp) ?_
      refine AllReadyH.cons rfl (fun K hK => ?_) AllReadyH.nil
      try simp only [List.getElem_toArray, List.getElem_cons_zero, List.getElem_cons_succ]
      go_simp
      with_reducible refine (add_q (H_x3.out.isq (k := 700) (Nat.le_trans HL_s1.out (by omega))) (HX.out.c.mono (l := 700) (by omega)) (by omega) (by omega) s3 HE_s3.out).mono ?_
      rintro e w6 ⟨s_x4, A_x4, n_x4, c_x4, t_x4, B_x4, m_x4, d_x4, rfl, h_x4, hbx⟩
      replace HX := Lib.hid (HX.out.below hbx)
      replace H_x3 := Lib.hid (H_x3.out.below hbx)
      have H_x4 := Lib.hid h_x4
      clear hbx
      refine hK.out _ _ (by with_reducible exact HX.out.keep) (fun hHeld => ?_)
      clear hK K
      try simp only [Act.put, List.setIfInBounds_toArray, List.set_cons_zero, List.set_cons_succ]
      refine wpAnyH_ready (rs := [18]) (by kernel_rfl) (by simp) ?_
      refine AllReadyH.cons rfl (fun K hK => ?_) AllReadyH.nil
      try simp only [List.getElem_toArray, List.getElem_cons_zero, List.getElem_cons_succ]
      go_simp
      with_reducible refine (add_q (HX.out.b.mono (l := 700) (by omega)) (HX.out.c.mono (l := 700) (by omega)) (by omega) (by omega) s4 HE_s4.out).mono ?_
      rintro e w7 ⟨s_x5, A_x5, n_x5, c_x5, t_x5, B_x5, m_x5, d_x5, rfl, h_x5, hbx⟩
      replace HX := Lib.hid (HX.out.below hbx)
      replace H_x4 := Lib.hid (H_x4.out.below hbx)
      have H_x5 := Lib.hid h_x5
      clear hbx
      refine hK.out _ _ (by with_reducible exact HX.out.keep) (fun hHeld => ?_)
      clear hK K
      try simp only [Act.put, List.setIfInBounds_toArray, List.set_cons_zero, List.set_cons_succ]
      refine wpAnyH_ready (rs := [19]) (by kernel_rfl) (by simp) ?_
      refine AllReadyH.cons rfl (fun K hK => ?_) AllReadyH.nil
      try simp only [List.getElem_toArray, List.getElem_cons_zero, List.getElem_cons_succ]
      go_simp
      with_reducible refine (add_q (HX.out.a.mono (l := 700) (by omega)) (H_x5.out.isq (k := 700) (Nat.le_trans HL_s4.out (by omega))) (by omega) (by omega) s5 HE_s5.out).mono ?_
      rintro e w8 ⟨s_x6, A_x6, n_x6, c_x6, t_x6, B_x6, m_x6, d_x6, rfl, h_x6, hbx⟩
      replace HX := Lib.hid (HX.out.below hbx)
      replace H_x4 := Lib.hid (H_x4.out.below hbx)
      replace H_x5 := Lib.hid (H_x5.out.below hbx)
      have H_x6 := Lib.hid h_x6
      clear hbx
      refine hK.out _ _ (by with_reducible exact HX.out.keep) (fun hHeld => ?_)
      clear hK K
      try simp only [Act.put, List.setIfInBounds_toArray, List.set_cons_zero, List.set_cons_succ]
      refine wpAnyH_ready (rs := [20]) (by kernel_rfl) (by simp) ?_
      refine AllReadyH.cons rfl (fun K hK => ?_) AllReadyH.nil
      try simp only [List.getElem_toArray, List.getElem_cons_zero, List.getElem_cons_succ]
      go_simp
      with_reducible refine (rat_t H_x4.out H_x6.out (Nat.le_trans HL_s3.out (by omega)) E2.out).mono ?_
      rintro e w9 ⟨rfl, hbx⟩
      replace HX := Lib.hid (HX.out.below hbx)
      replace H_x4 := Lib.hid (H_x4.out.below hbx)
      replace H_x5 := Lib.hid (H_x5.out.below hbx)
      replace H_x6 := Lib.hid (H_x6.out.below hbx)
      clear hbx
      refine hK.out _ _ (by with_reducible exact HX.out.keep) (fun hHeld => ?_)
      clear hK K
      try simp only [Act.put, List.setIfInBounds_toArray, List.set_cons_zero, List.set_cons_succ]
      refine' wpAnyH_take (i := 21) (v := _) rfl (by kernel_rfl) (by kernel_rfl) (by kernel_rfl) (fun _ _ _ h => h) (Or.inl ⟨by rfl, ?hy14⟩) (by assumption) ?rest14
      case hy14 => (intro w hSw; (try dsimp only at hSw); try simp only [List.getElem_toArray, List.getElem_cons_zero, List.getElem_cons_succ]; go_simp; (try with_reducible rfl))
      try simp only [List.getElem_toArray, List.getElem_cons_zero, List.getElem_cons_succ]
      try simp only [Act.put, List.setIfInBounds_toArray, List.set_cons_zero, List.set_cons_succ]
      refine' wpAnyH_take (i := 22) (v := _) rfl (by kernel_rfl) (by kernel_rfl) (by kernel_rfl) (fun _ _ _ h => h) (Or.inl ⟨by rfl, ?hy15⟩) (by assumption) ?rest15
      case hy15 => (intro w hSw; (try dsimp only at hSw); try simp only [List.getElem_toArray, List.getElem_cons_zero, List.getElem_cons_succ]; go_simp; (try with_reducible rfl))
      try simp only [List.getElem_toArray, List.getElem_cons_zero, List.getElem_cons_succ]
      try simp only [Act.put, List.setIfInBounds_toArray, List.set_cons_zero, List.set_cons_succ]
      refine' wpAnyH_take (i := 23) (v := _) rfl (by kernel_rfl) (by kernel_rfl) (by kernel_rfl) (fun _ _ _ h => h) (Or.inl ⟨by rfl, ?hy16⟩) (by assumption) ?rest16
      case hy16 => (intro w hSw; (try dsimp only at hSw); try simp only [List.getElem_toArray, List.getElem_cons_zero, List.getElem_cons_succ]; go_simp; (try with_reducible rfl))
      try simp only [List.getElem_toArray, List.getElem_cons_zero, List.getElem_cons_succ]
      try simp only [Act.put, List.setIfInBounds_toArray, List.set_cons_zero, List.set_cons_succ]
      refine' wpAnyH_take (i := 24) (v := _) rfl (by kernel_rfl) (by kernel_rfl) (by kernel_rfl) (fun _ _ _ h => h) (Or.inl ⟨by rfl, ?hy17⟩) (by assumption) ?rest17
      case hy17 => (intro w hSw; (try dsimp only at hSw); try simp only [List.getElem_toArray, List.getElem_cons_zero, List.getElem_cons_succ]; go_simp; (try with_reducible rfl))
      try simp only [List.getElem_toArray, List.getElem_cons_zero, List.getElem_cons_succ]
      try simp only [Act.put, List.setIfInBounds_toArray, List.set_cons_zero, List.set_cons_succ]
      refine wpAnyH_ready (rs := [25]) (by kernel_rfl) (by simp) ?_
      refine AllReadyH.cons rfl (fun K hK => ?_) AllReadyH.nil
      try simp only [List.getElem_toArray, List.getElem_cons_zero, List.getElem_cons_succ]
      go_simp
      with_reducible refine (sub_q (HX.out.a.mono (l := 700) (by omega)) (HX.out.a.mono (l := 700) (by omega)) (by omega) (by omega) d0 HE_d0.out).mono ?_
      rintro e w10 ⟨s_x7, A_x7, n_x7, c_x7, t_x7, B_x7, m_x7, d_x7, rfl, h_x7, hbx⟩
      replace HX := Lib.hid (HX.out.below hbx)
      have H_x7 := Lib.hid h_x7
      clear hbx
      refine hK.out _ _ (by with_reducible exact HX.out.keep) (fun hHeld => ?_)
      clear hK K
      try simp only [Act.put, List.setIfInBounds_toArray, List.set_cons_zero, List.set_cons_succ]
      refine wpAnyH_ready (rs := [26]) (by kernel_rfl) (by simp) ?_
      refine AllReadyH.cons rfl (fun K hK => ?_) AllReadyH.nil
      try simp only [List.getElem_toArray, List.getElem_cons_zero, List.getElem_cons_succ]
      go_simp
      with_reducible refine (sign_q (H_x7.out.isq (k := 700) (Nat.le_trans HL_d0.out (by omega))) (by omega) (0) E3.out).mono ?_
      rintro e w11 ⟨rfl, hbx⟩
      replace HX := Lib.hid (HX.out.below hbx)
      replace H_x7 := Lib.hid (H_x7.out.below hbx)
      clear hbx
      refine hK.out _ _ (by with_reducible exact HX.out.keep) (fun hHeld => ?_)
      clear hK K
      try simp only [Act.put, List.setIfInBounds_toArray, List.set_cons_zero, List.set_cons_succ]
      refine' wpAnyH_take (i := 27) (v := _) rfl (by kernel_rfl) (by kernel_rfl) (by kernel_rfl) (fun _ _ _ h => h) (Or.inl ⟨by rfl, ?hy18⟩) (by assumption) ?rest18
      case hy18 => (intro w hSw; (try dsimp only at hSw); try simp only [List.getElem_toArray, List.getElem_cons_zero, List.getElem_cons_succ]; go_simp; (try with_reducible rfl))
      try simp only [List.getElem_toArray, List.getElem_cons_zero, List.getElem_cons_succ]
      try simp only [Act.put, List.setIfInBounds_toArray, List.set_cons_zero, List.set_cons_succ]
      refine' wpAnyH_take (i := 28) (v := _) rfl (by kernel_rfl) (by kernel_rfl) (by kernel_rfl) (fun _ _ _ h => h) (Or.inl ⟨by rfl, ?hy19⟩) (by assumption) ?rest19
      case hy19 => (intro w hSw; (try dsimp only at hSw); try simp only [List.getElem_toArray, List.getElem_cons_zero, List.getElem_cons_succ]; go_simp; (try with_reducible rfl))
      try simp only [List.getElem_toArray, List.getElem_cons_zero, List.getElem_cons_succ]
      try simp only [Act.put, List.setIfInBounds_toArray, List.set_cons_zero, List.set_cons_succ]
      refine' wpAnyH_take (i := 29) (v := _) rfl (by kernel_rfl) (by kernel_rfl) (by kernel_rfl) (fun _ _ _ h => h) (Or.inl ⟨by rfl, ?hy20⟩) (by assumption) ?rest20
      case hy20 => (intro w hSw; (try dsimp only at hSw); try simp only [List.getElem_toArray, List.getElem_cons_zero, List.getElem_cons_succ]; go_simp; (try with_reducible rfl))
      try simp only [List.getElem_toArray, List.getElem_cons_zero, List.getElem_cons_succ]
      try simp only [Act.put, List.setIfInBounds_toArray, List.set_cons_zero, List.set_cons_succ]
      refine' wpAnyH_take (i := 30) (v := _) rfl (by kernel_rfl) (by kernel_rfl) (by kernel_rfl) (fun _ _ _ h => h) (Or.inl ⟨by rfl, ?hy21⟩) (by assumption) ?rest21
      case hy21 => (intro w hSw; (try dsimp only at hSw); try simp only [List.getElem_toArray, List.getElem_cons_zero, List.getElem_cons_succ]; go_simp; (try with_reducible rfl))
      try simp only [List.getElem_toArray, List.getElem_cons_zero, List.getElem_cons_succ]
      try simp only [Act.put, List.setIfInBounds_toArray, List.set_cons_zero, List.set_cons_succ]
      refine' wpAnyH_take (i := 31) (v := _) rfl (by kernel_rfl) (by kernel_rfl) (by kernel_rfl) (fun _ _ _ h => h) (Or.inl ⟨by rfl, ?hy22⟩) (by assumption) ?rest22
      case hy22 => (intro w hSw; (try dsimp only at hSw); try simp only [List.getElem_toArray, List.getElem_cons_zero, List.getElem_cons_succ]; go_simp; (try with_reducible rfl))
      try simp only [List.getElem_toArray, List.getElem_cons_zero, List.getElem_cons_succ]
      try simp only [Act.put, List.setIfInBounds_toArray, List.set_cons_zero, List.set_cons_succ]
      refine' wpAnyH_take (i := 32) (v := _) rfl (by kernel_rfl) (by kernel_rfl) (by kernel_rfl) (fun _ _ _ h => h) (Or.inl ⟨by rfl, ?hy23⟩) (by assumption) ?rest23
      case hy23 => (intro w hSw; (try dsimp only at hSw); try simp only [List.getElem_toArray, List.getElem_cons_zero, List.getElem_cons_succ]; go_simp; (try with_reducible rfl))
      try simp only [List.getElem_toArray, List.getElem_cons_zero, List.getElem_cons_succ]
      try simp only [Act.put, List.setIfInBounds_toArray, List.set_cons_zero, List.set_cons_succ]
      refine' wpAnyH_take (i := 34) (v := _) rfl (by kernel_rfl) (by kernel_rfl) (by kernel_rfl) (fun _ _ _ h => h) (Or.inl ⟨by rfl, ?hy24⟩) (by assumption) ?rest24
      case hy24 => (intro w hSw; (try dsimp only at hSw); try simp only [List.getElem_toArray, List.getElem_cons_zero, List.getElem_cons_succ]; go_simp; (try with_reducible rfl))
      try simp only [List.getElem_toArray, List.getElem_cons_zero, List.getElem_cons_succ]
      try simp only [Act.put, List.setIfInBounds_toArray, List.set_cons_zero, List.set_cons_succ]
      refine' wpAnyH_take (i := 36) (v := _) rfl (by kernel_rfl) (by kernel_rfl) (by kernel_rfl) (fun _ _ _ h => h) (Or.inl ⟨by rfl, ?hy25⟩) (by assumption) ?rest25
      case hy25 => (intro w hSw; (try dsimp only at hSw); try simp only [List.getElem_toArray, List.getElem_cons_zero, List.getElem_cons_succ]; go_simp; (try with_reducible rfl))
      try simp only [List.getElem_toArray, List.getElem_cons_zero, List.getElem_cons_succ]
      try simp only [Act.put, List.setIfInBounds_toArray, List.set_cons_zero, List.set_cons_succ]
      refine wpAnyH_ready (rs := [33]) (by kernel_rfl) (by simp) ?_
      refine AllReadyH.cons rfl (fun K hK => ?_) AllReadyH.nil
      try simp only [List.getElem_toArray, List.getElem_cons_zero, List.getElem_cons_succ]
      go_simp
      with_reducible refine (add_q (HX.out.a.mono (l := 700) (by omega)) (HX.out.b.mono (l := 700) (by omega)) (by omega) (by omega) s1 HE_s1.out).mono ?_
      rintro e w12 ⟨s_x8, A_x8, n_x8, c_x8, t_x8, B_x8, m_x8, d_x8, rfl, h_x8, hbx⟩
      replace HX := Lib.hid (HX.out.below hbx)
      have H_x8 := Lib.hid h_x8
      clear hbx
      refine hK.out _ _ (by with_reducible exact HX.out.keep) (fun hHeld => ?_)
      clear hK K
      try simp only [Act.put, List.setIfInBounds_toArray, List.set_cons_zero, List.set_cons_succ]
      refine wpAnyH_ready (rs := [35]) (by kernel_rfl) (by simp) ?_
      refine AllReadyH.cons rfl (fun K hK => ?_) AllReadyH.nil
      try simp only [List.getElem_toArray, List.getElem_cons_zero, List.getElem_cons_succ]
      go_simp
      with_reducible refine (sub_q (H_x8.out.isq (k := 700) (Nat.le_trans HL_s1.out (by omega))) (HX.out.b.mono (l := 700) (by omega)) (by omega) (by omega) d1 HE_d1.out).mono ?_
      rintro e w13 ⟨s_x9, A_x9, n_x9, c_x9, t_x9, B_x9, m_x9, d_x9, rfl, h_x9, hbx⟩
      replace HX := Lib.hid (HX.out.below hbx)
      replace H_x8 := Lib.hid (H_x8.out.below hbx)
      have H_x9 := Lib.hid h_x9
      clear hbx
      refine hK.out _ _ (by with_reducible exact HX.out.keep) (fun hHeld => ?_)
      clear hK K
      try simp only [Act.put, List.setIfInBounds_toArray, List.set_cons_zero, List.set_cons_succ]
      refine wpAnyH_ready (rs := [37]) (by kernel_rfl) (by simp) ?_
      refine AllReadyH.cons rfl (fun K hK => ?_) AllReadyH.nil
      try simp only [List.getElem_toArray, List.getElem_cons_zero, List.getElem_cons_succ]
      go_simp
      with_reducible refine (norm_q (HX.out.a.mono (l := 700) (by omega)) (by omega) (by omega)).mono ?_
      rintro e w14 ⟨s_x10, A_x10, n_x10, c_x10, t_x10, B_x10, m_x10, d_x10, rfl, h_x10, hbx⟩
      replace HX := Lib.hid (HX.out.below hbx)
      replace H_x8 := Lib.hid (H_x8.out.below hbx)
      replace H_x9 := Lib.hid (H_x9.out.below hbx)
      have H_x10 := Lib.hid h_x10
      clear hbx
      refine hK.out _ _ (by with_reducible exact HX.out.keep) (fun hHeld => ?_)
      clear hK K
      try simp only [Act.put, List.setIfInBounds_toArray, List.set_cons_zero, List.set_cons_succ]
      refine wpAnyH_ready (rs := [38]) (by kernel_rfl) (by simp) ?_
      refine AllReadyH.cons rfl (fun K hK => ?_) AllReadyH.nil
      try simp only [List.getElem_toArray, List.getElem_cons_zero, List.getElem_cons_succ]
      go_simp
      with_reducible refine (rat_t H_x9.out H_x10.out (Nat.le_trans HL_d1.out (by omega)) E4.out).mono ?_
      rintro e w15 ⟨rfl, hbx⟩
      replace HX := Lib.hid (HX.out.below hbx)
      replace H_x8 := Lib.hid (H_x8.out.below hbx)
      replace H_x9 := Lib.hid (H_x9.out.below hbx)
      replace H_x10 := Lib.hid (H_x10.out.below hbx)
      clear hbx
      refine hK.out _ _ (by with_reducible exact HX.out.keep) (fun hHeld => ?_)
      clear hK K
      try simp only [Act.put, List.setIfInBounds_toArray, List.set_cons_zero, List.set_cons_succ]
      refine' wpAnyH_take (i := 39) (v := _) rfl (by kernel_rfl) (by kernel_rfl) (by kernel_rfl) (fun _ _ _ h => h) (Or.inl ⟨by rfl, ?hy26⟩) (by assumption) ?rest26
      case hy26 => (intro w hSw; (try dsimp only at hSw); try simp only [List.getElem_toArray, List.getElem_cons_zero, List.getElem_cons_succ]; go_simp; (try with_reducible rfl))
      try simp only [List.getElem_toArray, List.getElem_cons_zero, List.getElem_cons_succ]
      try simp only [Act.put, List.setIfInBounds_toArray, List.set_cons_zero, List.set_cons_succ]
      refine' wpAnyH_take (i := 40) (v := _) rfl (by kernel_rfl) (by kernel_rfl) (by kernel_rfl) (fun _ _ _ h => h) (Or.inl ⟨by rfl, ?hy27⟩) (by assumption) ?rest27
      case hy27 => (intro w hSw; (try dsimp only at hSw); try simp only [List.getElem_toArray, List.getElem_cons_zero, List.getElem_cons_succ]; go_simp; (try with_reducible rfl))
      try simp only [List.getElem_toArray, List.getElem_cons_zero, List.getElem_cons_succ]
      try simp only [Act.put, List.setIfInBounds_toArray, List.set_cons_zero, List.set_cons_succ]
      refine' wpAnyH_take (i := 41) (v := _) rfl (by kernel_rfl) (by kernel_rfl) (by kernel_rfl) (fun _ _ _ h => h) (Or.inl ⟨by rfl, ?hy28⟩) (by assumption) ?rest28
      case hy28 => (intro w hSw; (try dsimp only at hSw); try simp only [List.getElem_toArray, List.getElem_cons_zero, List.getElem_cons_succ]; go_simp; (try with_reducible rfl))
      try simp only [List.getElem_toArray, List.getElem_cons_zero, List.getElem_cons_succ]
      try simp only [Act.put, List.setIfInBounds_toArray, List.set_cons_zero, List.set_cons_succ]
      refine' wpAnyH_take (i := 42) (v := _) rfl (by kernel_rfl) (by kernel_rfl) (by kernel_rfl) (fun _ _ _ h => h) (Or.inl ⟨by rfl, ?hy29⟩) (by assumption) ?rest29
      case hy29 => (intro w hSw; (try dsimp only at hSw); try simp only [List.getElem_toArray, List.getElem_cons_zero, List.getElem_cons_succ]; go_simp; (try with_reducible rfl))
      try simp only [List.getElem_toArray, List.getElem_cons_zero, List.getElem_cons_succ]
      try simp only [Act.put, List.setIfInBounds_toArray, List.set_cons_zero, List.set_cons_succ]
      refine' wpAnyH_take (i := 44) (v := _) rfl (by kernel_rfl) (by kernel_rfl) (by kernel_rfl) (fun _ _ _ h => h) (Or.inl ⟨by rfl, ?hy30⟩) (by assumption) ?rest30
      case hy30 => (intro w hSw; (try dsimp only at hSw); try simp only [List.getElem_toArray, List.getElem_cons_zero, List.getElem_cons_succ]; go_simp; (try with_reducible rfl))
      try simp only [List.getElem_toArray, List.getElem_cons_zero, List.getElem_cons_succ]
      try simp only [Act.put, List.setIfInBounds_toArray, List.set_cons_zero, List.set_cons_succ]
      refine' wpAnyH_take (i := 45) (v := _) rfl (by kernel_rfl) (by kernel_rfl) (by kernel_rfl) (fun _ _ _ h => h) (Or.inl ⟨by rfl, ?hy31⟩) (by assumption) ?rest31
      case hy31 => (intro w hSw; (try dsimp only at hSw); try simp only [List.getElem_toArray, List.getElem_cons_zero, List.getElem_cons_succ]; go_simp; (try with_reducible rfl))
      try simp only [List.getElem_toArray, List.getElem_cons_zero, List.getElem_cons_succ]
      try simp only [Act.put, List.setIfInBounds_toArray, List.set_cons_zero, List.set_cons_succ]
      refine wpAnyH_ready (rs := [43]) (by kernel_rfl) (by simp) ?_
      refine AllReadyH.cons rfl (fun K hK => ?_) AllReadyH.nil
      try simp only [List.getElem_toArray, List.getElem_cons_zero, List.getElem_cons_succ]
      go_simp
      with_reducible refine (neg_q (HX.out.a.mono (l := 700) (by omega)) (by omega) (by omega) n1 HE_n1.out).mono ?_
      rintro e w16 ⟨s_x11, A_x11, n_x11, c_x11, t_x11, B_x11, m_x11, d_x11, rfl, h_x11, hbx⟩
      replace HX := Lib.hid (HX.out.below hbx)
      have H_x11 := Lib.hid h_x11
      clear hbx
      refine hK.out _ _ (by with_reducible exact HX.out.keep) (fun hHeld => ?_)
      clear hK K
      try simp only [Act.put, List.setIfInBounds_toArray, List.set_cons_zero, List.set_cons_succ]
      refine wpAnyH_ready (rs := [46]) (by kernel_rfl) (by simp) ?_
      refine AllReadyH.cons rfl (fun K hK => ?_) AllReadyH.nil
      try simp only [List.getElem_toArray, List.getElem_cons_zero, List.getElem_cons_succ]
      go_simp
      with_reducible refine (sub_q (isq_zero _ 700 HE_z0.out) (HX.out.a.mono (l := 700) (by omega)) (by omega) (by omega) d2 HE_d2.out).mono ?_
      rintro e w17 ⟨s_x12, A_x12, n_x12, c_x12, t_x12, B_x12, m_x12, d_x12, rfl, h_x12, hbx⟩
      replace HX := Lib.hid (HX.out.below hbx)
      replace H_x11 := Lib.hid (H_x11.out.below hbx)
      have H_x12 := Lib.hid h_x12
      clear hbx
      refine hK.out _ _ (by with_reducible exact HX.out.keep) (fun hHeld => ?_)
      clear hK K
      try simp only [Act.put, List.setIfInBounds_toArray, List.set_cons_zero, List.set_cons_succ]
      refine wpAnyH_ready (rs := [47]) (by kernel_rfl) (by simp) ?_
      refine AllReadyH.cons rfl (fun K hK => ?_) AllReadyH.nil
      try simp only [List.getElem_toArray, List.getElem_cons_zero, List.getElem_cons_succ]
      go_simp
      with_reducible refine (rat_t H_x11.out H_x12.out (Nat.le_trans HL_n1.out (by omega)) E5.out).mono ?_
      rintro e w18 ⟨rfl, hbx⟩
      replace HX := Lib.hid (HX.out.below hbx)
      replace H_x11 := Lib.hid (H_x11.out.below hbx)
      replace H_x12 := Lib.hid (H_x12.out.below hbx)
      clear hbx
      refine hK.out _ _ (by with_reducible exact HX.out.keep) (fun hHeld => ?_)
      clear hK K
      try simp only [Act.put, List.setIfInBounds_toArray, List.set_cons_zero, List.set_cons_succ]
      refine' wpAnyH_take (i := 48) (v := _) rfl (by kernel_rfl) (by kernel_rfl) (by kernel_rfl) (fun _ _ _ h => h) (Or.inl ⟨by rfl, ?hy32⟩) (by assumption) ?rest32
      case hy32 => (intro w hSw; (try dsimp only at hSw); try simp only [List.getElem_toArray, List.getElem_cons_zero, List.getElem_cons_succ]; go_simp; (try with_reducible rfl))
      try simp only [List.getElem_toArray, List.getElem_cons_zero, List.getElem_cons_succ]
      try simp only [Act.put, List.setIfInBounds_toArray, List.set_cons_zero, List.set_cons_succ]
      refine' wpAnyH_take (i := 49) (v := _) rfl (by kernel_rfl) (by kernel_rfl) (by kernel_rfl) (fun _ _ _ h => h) (Or.inl ⟨by rfl, ?hy33⟩) (by assumption) ?rest33
      case hy33 => (intro w hSw; (try dsimp only at hSw); try simp only [List.getElem_toArray, List.getElem_cons_zero, List.getElem_cons_succ]; go_simp; (try with_reducible rfl))
      try simp only [List.getElem_toArray, List.getElem_cons_zero, List.getElem_cons_succ]
      try simp only [Act.put, List.setIfInBounds_toArray, List.set_cons_zero, List.set_cons_succ]
      refine wpAnyH_done (by kernel_rfl) ?_ _
      go_wp2_with fail
      go_meet
      exact ⟨rfl, HX.out⟩
  case rest =>
    clear HX
    obtain ⟨rfl, HX⟩ := hcut
    go_upto_region 5 with fail
    go_cut [9] from 66 to 112 (fun s9 wx => s9 = .bool true ∧ Hid (Q3 w wx sa Aa na ca ta Ba ma da sb Ab nb cb tb Bb mb db sc Ac nc cc tc Bc mc dc p r u 12))
    case first =>
      as_aux_lemma =>
        replace HX := Lib.hid HX.out.drew
        refine wp_region_held_drew (S := (fun V => V.cell? ⟨w.heap.size, 0, none⟩ = some (.bool sa) ∧ V.cell? ⟨w.heap.size, 1, none⟩ = some (.slice Aa na ca) ∧ V.cell? ⟨w.heap.size, 2, none⟩ = some (.bool ta) ∧ V.cell? ⟨w.heap.size, 3, none⟩ = some (.slice Ba ma da) ∧ V.cell? ⟨w.heap.size + 1, 0, none⟩ = some (.bool sb) ∧ V.cell? ⟨w.heap.size + 1, 1, none⟩ = some (.slice Ab nb cb) ∧ V.cell? ⟨w.heap.size + 1, 2, none⟩ = some (.bool tb) ∧ V.cell? ⟨w.heap.size + 1, 3, none⟩ = some (.slice Bb mb db) ∧ V.cell? ⟨w.heap.size + 1 + 1, 0, none⟩ = some (.bool sc) ∧ V.cell? ⟨w.heap.size + 1 + 1, 1, none⟩ = some (.slice Ac nc cc) ∧ V.cell? ⟨w.heap.size + 1 + 1, 2, none⟩ = some (.bool tc) ∧ V.cell? ⟨w.heap.size + 1 + 1, 3, none⟩ = some (.slice Bc mc dc))) (by kernel_rfl) (by with_reducible exact HX.out.keep) (fun hHeld => ?_)
        refine' wpAnyH_take (i := 0) (v := _) rfl (by kernel_rfl) (by kernel_rfl) (by kernel_rfl) (fun _ _ _ h => h) (Or.inl ⟨by rfl, ?hy34⟩) (by assumption) ?rest34
        case hy34 => (intro w hSw; (try dsimp only at hSw); try simp only [List.getElem_toArray, List.getElem_cons_zero]; go_simp; (try with_reducible rfl))
        try simp only [List.getElem_toArray, List.getElem_cons_zero]
        try simp only [Act.put, List.setIfInBounds_toArray, List.set_cons_zero, List.set_cons_succ]
        refine' wpAnyH_take (i := 1) (v := _) rfl (by kernel_rfl) (by kernel_rfl) (by kernel_rfl) (fun _ _ _ h => h) (Or.inl ⟨by rfl, ?hy35⟩) (by assumption) ?rest35
        case hy35 => (intro w hSw; (try dsimp only at hSw); try simp only [List.getElem_toArray, List.getElem_cons_zero, List.getElem_cons_succ]; go_simp; (try with_reducible rfl))
        try simp only [List.getElem_toArray, List.getElem_cons_zero, List.getElem_cons_succ]
        try simp only [Act.put, List.setIfInBounds_toArray, List.set_cons_zero, List.set_cons_succ]
        refine' wpAnyH_take (i := 2) (v := _) rfl (by kernel_rfl) (by kernel_rfl) (by kernel_rfl) (fun _ _ _ h => h) (Or.inl ⟨by rfl, ?hy36⟩) (by assumption) ?rest36
        case hy36 => (intro w hSw; (try dsimp only at hSw); try simp only [List.getElem_toArray, List.getElem_cons_zero, List.getElem_cons_succ]; go_simp; (try with_reducible rfl))
        try simp only [List.getElem_toArray, List.getElem_cons_zero, List.getElem_cons_succ]
        try simp only [Act.put, List.setIfInBounds_toArray, List.set_cons_zero, List.set_cons_succ]
        refine' wpAnyH_take (i := 4) (v := _) rfl (by kernel_rfl) (by kernel_rfl) (by kernel_rfl) (fun _ _ _ h => h) (Or.inl ⟨by rfl, ?hy37⟩) (by assumption) ?rest37
        case hy37 => (intro w hSw; (try dsimp only at hSw); try simp only [List.getElem_toArray, List.getElem_cons_zero, List.getElem_cons_succ]; go_simp; (try with_reducible rfl))
        try simp only [List.getElem_toArray, List.getElem_cons_zero, List.getElem_cons_succ]
        try simp only [Act.put, List.setIfInBounds_toArray, List.set_cons_zero, List.set_cons_succ]
        refine' wpAnyH_take (i := 5) (v := _) rfl (by kernel_rfl) (by kernel_rfl) (by kernel_rfl) (fun _ _ _ h => h) (Or.inl ⟨by rfl, ?hy38⟩) (by assumption) ?rest38
        case hy38 => (intro w hSw; (try dsimp only at hSw); try simp only [List.getElem_toArray, List.getElem_cons_zero, List.getElem_cons_succ]; go_simp; (try with_reducible rfl))
        try simp only [List.getElem_toArray, List.getElem_cons_zero, List.getElem_cons_succ]
        try simp only [Act.put, List.setIfInBounds_toArray, List.set_cons_zero, List.set_cons_succ]
        refine wpAnyH_ready (rs := [3]) (by kernel_rfl) (by simp) ?_
        refine AllReadyH.cons rfl (fun K hK => ?_) AllReadyH.nil
        try simp only [List.getElem_toArray, List.getElem_cons_zero, List.getElem_cons_succ]
        go_simp
        with_reducible refine (mul_q (HX.out.a.mono (l := 700) (by omega)) (HX.out.b.mono (l := 700) (by omega)) (by omega) (by omega) m1 HE_m1.out).mono ?_
        rintro e w19 ⟨s_x1, A_x1, n_x1, c_x1, t_x1, B_x1, m_x1, d_x1, rfl, h_x1, hbx⟩
        replace HX := Lib.hid (HX.out.below hbx)
        have H_x1 := Lib.hid h_x1
        clear hbx
        refine hK.out _ _ (by with_reducible exact HX.out.keep) (fun hHeld => ?_)
        clear hK K
        try simp only [Act.put, List.setIfInBounds_toArray, List.set_cons_zero, List.set_cons_succ]
        refine wpAnyH_ready (rs := [6]) (by kernel_rfl) (by simp) ?_
        refine AllReadyH.cons rfl (fun K hK => ?_) AllReadyH.nil
        try simp only [List.getElem_toArray, List.getElem_cons_zero, List.getElem_cons_succ]
        go_simp
        with_reducible refine (mul_q (HX.out.b.mono (l := 700) (by omega)) (HX.out.a.mono (l := 700) (by omega)) (by omega) (by omega) m2 HE_m2.out).mono ?_
        rintro e w20 ⟨s_x2, A_x2, n_x2, c_x2, t_x2, B_x2, m_x2, d_x2, rfl, h_x2, hbx⟩
        replace HX := Lib.hid (HX.out.below hbx)
        replace H_x1 := Lib.hid (H_x1.out.below hbx)
        have H_x2 := Lib.hid h_x2
        clear hbx
        refine hK.out _ _ (by with_reducible exact HX.out.keep) (fun hHeld => ?_)
        clear hK K
        try simp only [Act.put, List.setIfInBounds_toArray, List.set_cons_zero, List.set_cons_succ]
        refine wpAnyH_ready (rs := [7]) (by kernel_rfl) (by simp) ?_
        refine AllReadyH.cons rfl (fun K hK => ?_) AllReadyH.nil
        try simp only [List.getElem_toArray, List.getElem_cons_zero, List.getElem_cons_succ]
        go_simp
        with_reducible refine (rat_t H_x1.out H_x2.out (Nat.le_trans HL_m1.out (by omega)) F1.out).mono ?_
        rintro e w21 ⟨rfl, hbx⟩
        replace HX := Lib.hid (HX.out.below hbx)
        replace H_x1 := Lib.hid (H_x1.out.below hbx)
        replace H_x2 := Lib.hid (H_x2.out.below hbx)
        clear hbx
        refine hK.out _ _ (by with_reducible exact HX.out.keep) (fun hHeld => ?_)
        clear hK K
        try simp only [Act.put, List.setIfInBounds_toArray, List.set_cons_zero, List.set_cons_succ]
        refine' wpAnyH_take (i := 8) (v := _) rfl (by kernel_rfl) (by kernel_rfl) (by kernel_rfl) (fun _ _ _ h => h) (Or.inl ⟨by rfl, ?hy39⟩) (by assumption) ?rest39
        case hy39 => (intro w hSw; (try dsimp only at hSw); try simp only [List.getElem_toArray, List.getElem_cons_zero, List.getElem_cons_succ]; go_simp; (try with_reducible rfl))
        try simp only [List.getElem_toArray, List.getElem_cons_zero, List.getElem_cons_succ]
        try simp only [Act.put, List.setIfInBounds_toArray, List.set_cons_zero, List.set_cons_succ]
        refine' wpAnyH_take (i := 9) (v := _) rfl (by kernel_rfl) (by kernel_rfl) (by kernel_rfl) (fun _ _ _ h => h) (Or.inl ⟨by rfl, ?hy40⟩) (by assumption) ?rest40
        case hy40 => (intro w hSw; (try dsimp only at hSw); try simp only [List.getElem_toArray, List.getElem_cons_zero, List.getElem_cons_succ]; go_simp; (try with_reducible rfl))
        try simp only [List.getElem_toArray, List.getElem_cons_zero, List.getElem_cons_succ]
        try simp only [Act.put, List.setIfInBounds_toArray, List.set_cons_zero, List.set_cons_succ]
        refine' wpAnyH_take (i := 10) (v := _) rfl (by kernel_rfl) (by kernel_rfl) (by kernel_rfl) (fun _ _ _ h => h) (Or.inl ⟨by rfl, ?hy41⟩) (by assumption) ?rest41
        case hy41 => (intro w hSw; (try dsimp only at hSw); try simp only [List.getElem_toArray, List.getElem_cons_zero, List.getElem_cons_succ]; go_simp; (try with_reducible rfl))
        try simp only [List.getElem_toArray, List.getElem_cons_zero, List.getElem_cons_succ]
        try simp only [Act.put, List.setIfInBounds_toArray, List.set_cons_zero, List.set_cons_succ]
        refine' wpAnyH_take (i := 11) (v := _) rfl (by kernel_rfl) (by kernel_rfl) (by kernel_rfl) (fun _ _ _ h => h) (Or.inl ⟨by rfl, ?hy42⟩) (by assumption) ?rest42
        case hy42 => (intro w hSw; (try dsimp only at hSw); try simp only [List.getElem_toArray, List.getElem_cons_zero, List.getElem_cons_succ]; go_simp; (try with_reducible rfl))
        try simp only [List.getElem_toArray, List.getElem_cons_zero, List.getElem_cons_succ]
        try simp only [Act.put, List.setIfInBounds_toArray, List.set_cons_zero, List.set_cons_succ]
        refine' wpAnyH_take (i := 13) (v := _) rfl (by kernel_rfl) (by kernel_rfl) (by kernel_rfl) (fun _ _ _ h => h) (Or.inl ⟨by rfl, ?hy43⟩) (by assumption) ?rest43
        case hy43 => (intro w hSw; (try dsimp only at hSw); try simp only [List.getElem_toArray, List.getElem_cons_zero, List.getElem_cons_succ]; go_simp; (try with_reducible rfl))
        try simp only [List.getElem_toArray, List.getElem_cons_zero, List.getElem_cons_succ]
        try simp only [Act.put, List.setIfInBounds_toArray, List.set_cons_zero, List.set_cons_succ]
        refine' wpAnyH_take (i := 15) (v := _) rfl (by kernel_rfl) (by kernel_rfl) (by kernel_rfl) (fun _ _ _ h => h) (Or.inl ⟨by rfl, ?hy44⟩) (by assumption) ?rest44
        case hy44 => (intro w hSw; (try dsimp only at hSw); try simp only [List.getElem_toArray, List.getElem_cons_zero, List.getElem_cons_succ]; go_simp; (try with_reducible rfl))
        try simp only [List.getElem_toArray, List.getElem_cons_zero, List.getElem_cons_succ]
        try simp only [Act.put, List.setIfInBounds_toArray, List.set_cons_zero, List.set_cons_succ]
        refine' wpAnyH_take (i := 16) (v := _) rfl (by kernel_rfl) (by kernel_rfl) (by kernel_rfl) (fun _ _ _ h => h) (Or.inl ⟨by rfl, ?hy45⟩) (by assumption) ?rest45
        case hy45 => (intro w hSw; (try dsimp only at hSw); try simp only [List.getElem_toArray, List.getElem_cons_zero, List.getElem_cons_succ]; go_simp; (try with_reducible rfl))
        try simp only [List.getElem_toArray, List.getElem_cons_zero, List.getElem_cons_succ]
        try simp only [Act.put, List.setIfInBounds_toArray, List.set_cons_zero, List.set_cons_succ]
        refine' wpAnyH_take (i := 17) (v := _) rfl (by kernel_rfl) (by kernel_rfl) (by kernel_rfl) (fun _ _ _ h => h) (Or.inl ⟨by rfl, ?hy46⟩) (by assumption) ?rest46
        case hy46 => (intro w hSw; (try dsimp only at hSw); try simp only [List.getElem_toArray, List.getElem_cons_zero, List.getElem_cons_succ]; go_simp; (try with_reducible rfl))
        try simp only [List.getElem_toArray, List.getElem_cons_zero, List.getElem_cons_succ]
        try simp only [Act.put, List.setIfInBounds_toArray, List.set_cons_zero, List.set_cons_succ]
        refine wpAnyH_ready (rs := [12]) (by kernel_rfl) (by simp) ?_
        refine AllReadyH.cons rfl (fun K hK => ?_) AllReadyH.nil
        try simp only [List.getElem_toArray, List.getElem_cons_zero, List.getElem_cons_succ]
        go_simp
        with_reducible refine (mul_q (HX.out.a.mono (l := 700) (by omega)) (HX.out.b.mono (l := 700) (by omega)) (by omega) (by omega) m1 HE_m1.out).mono ?_
        rintro e w22 ⟨s_x3, A_x3, n_x3, c_x3, t_x3, B_x3, m_x3, d_x3, rfl, h_x3, hbx⟩
        replace HX := Lib.hid (HX.out.below hbx)
        have H_x3 := Lib.hid h_x3
        clear hbx
        refine hK.out _ _ (by with_reducible exact HX.out.keep) (fun hHeld => ?_)
        clear hK K
        try simp only [Act.put, List.setIfInBounds_toArray, List.set_cons_zero, List.set_cons_succ]
        refine wpAnyH_ready (rs := [14]) (by kernel_rfl) (by simp) ?_
        refine AllReadyH.cons rfl (fun K hK => ?_) AllReadyH.nil
        try simp only [List.getElem_toArray, List.getElem_cons_zero, List.getElem_cons_succ]
        go_simp
        with_reducible refine (mul_q (H_x3.out.isq (k := 700) (Nat.le_trans HL_m1.out (by omega))) (HX.out.c.mono (l := 700) (by omega)) (by omega) (by omega) m3 HE_m3.out).mono ?_
        rintro e w23 ⟨s_x4, A_x4, n_x4, c_x4, t_x4, B_x4, m_x4, d_x4, rfl, h_x4, hbx⟩
        replace HX := Lib.hid (HX.out.below hbx)
        replace H_x3 := Lib.hid (H_x3.out.below hbx)
        have H_x4 := Lib.hid h_x4
        clear hbx
        refine hK.out _ _ (by with_reducible exact HX.out.keep) (fun hHeld => ?_)
        clear hK K
        try simp only [Act.put, List.setIfInBounds_toArray, List.set_cons_zero, List.set_cons_succ]
        refine wpAnyH_ready (rs := [18]) (by kernel_rfl) (by simp) ?_
        refine AllReadyH.cons rfl (fun K hK => ?_) AllReadyH.nil
        try simp only [List.getElem_toArray, List.getElem_cons_zero, List.getElem_cons_succ]
        go_simp
        with_reducible refine (mul_q (HX.out.b.mono (l := 700) (by omega)) (HX.out.c.mono (l := 700) (by omega)) (by omega) (by omega) m4 HE_m4.out).mono ?_
        rintro e w24 ⟨s_x5, A_x5, n_x5, c_x5, t_x5, B_x5, m_x5, d_x5, rfl, h_x5, hbx⟩
        replace HX := Lib.hid (HX.out.below hbx)
        replace H_x4 := Lib.hid (H_x4.out.below hbx)
        have H_x5 := Lib.hid h_x5
        clear hbx
        refine hK.out _ _ (by with_reducible exact HX.out.keep) (fun hHeld => ?_)
        clear hK K
        try simp only [Act.put, List.setIfInBounds_toArray, List.set_cons_zero, List.set_cons_succ]
        refine wpAnyH_ready (rs := [19]) (by kernel_rfl) (by simp) ?_
        refine AllReadyH.cons rfl (fun K hK => ?_) AllReadyH.nil
        try simp only [List.getElem_toArray, List.getElem_cons_zero, List.getElem_cons_succ]
        go_simp
        with_reducible refine (mul_q (HX.out.a.mono (l := 700) (by omega)) (H_x5.out.isq (k := 700) (Nat.le_trans HL_m4.out (by omega))) (by omega) (by omega) m5 HE_m5.out).mono ?_
        rintro e w25 ⟨s_x6, A_x6, n_x6, c_x6, t_x6, B_x6, m_x6, d_x6, rfl, h_x6, hbx⟩
        replace HX := Lib.hid (HX.out.below hbx)
        replace H_x4 := Lib.hid (H_x4.out.below hbx)
        replace H_x5 := Lib.hid (H_x5.out.below hbx)
        have H_x6 := Lib.hid h_x6
        clear hbx
        refine hK.out _ _ (by with_reducible exact HX.out.keep) (fun hHeld => ?_)
        clear hK K
        try simp only [Act.put, List.setIfInBounds_toArray, List.set_cons_zero, List.set_cons_succ]
        refine wpAnyH_ready (rs := [20]) (by kernel_rfl) (by simp) ?_
        refine AllReadyH.cons rfl (fun K hK => ?_) AllReadyH.nil
        try simp only [List.getElem_toArray, List.getElem_cons_zero, List.getElem_cons_succ]
        go_simp
        with_reducible refine (rat_t H_x4.out H_x6.out (Nat.le_trans HL_m3.out (by omega)) F2.out).mono ?_
        rintro e w26 ⟨rfl, hbx⟩
        replace HX := Lib.hid (HX.out.below hbx)
        replace H_x4 := Lib.hid (H_x4.out.below hbx)
        replace H_x5 := Lib.hid (H_x5.out.below hbx)
        replace H_x6 := Lib.hid (H_x6.out.below hbx)
        clear hbx
        refine hK.out _ _ (by with_reducible exact HX.out.keep) (fun hHeld => ?_)
        clear hK K
        try simp only [Act.put, List.setIfInBounds_toArray, List.set_cons_zero, List.set_cons_succ]
        refine' wpAnyH_take (i := 21) (v := _) rfl (by kernel_rfl) (by kernel_rfl) (by kernel_rfl) (fun _ _ _ h => h) (Or.inl ⟨by rfl, ?hy47⟩) (by assumption) ?rest47
        case hy47 => (intro w hSw; (try dsimp only at hSw); try simp only [List.getElem_toArray, List.getElem_cons_zero, List.getElem_cons_succ]; go_simp; (try with_reducible rfl))
        try simp only [List.getElem_toArray, List.getElem_cons_zero, List.getElem_cons_succ]
        try simp only [Act.put, List.setIfInBounds_toArray, List.set_cons_zero, List.set_cons_succ]
        refine' wpAnyH_take (i := 22) (v := _) rfl (by kernel_rfl) (by kernel_rfl) (by kernel_rfl) (fun _ _ _ h => h) (Or.inl ⟨by rfl, ?hy48⟩) (by assumption) ?rest48
        case hy48 => (intro w hSw; (try dsimp only at hSw); try simp only [List.getElem_toArray, List.getElem_cons_zero, List.getElem_cons_succ]; go_simp; (try with_reducible rfl))
        try simp only [List.getElem_toArray, List.getElem_cons_zero, List.getElem_cons_succ]
        try simp only [Act.put, List.setIfInBounds_toArray, List.set_cons_zero, List.set_cons_succ]
        refine' wpAnyH_take (i := 23) (v := _) rfl (by kernel_rfl) (by kernel_rfl) (by kernel_rfl) (fun _ _ _ h => h) (Or.inl ⟨by rfl, ?hy49⟩) (by assumption) ?rest49
        case hy49 => (intro w hSw; (try dsimp only at hSw); try simp only [List.getElem_toArray, List.getElem_cons_zero, List.getElem_cons_succ]; go_simp; (try with_reducible rfl))
        try simp only [List.getElem_toArray, List.getElem_cons_zero, List.getElem_cons_succ]
        try simp only [Act.put, List.setIfInBounds_toArray, List.set_cons_zero, List.set_cons_succ]
        refine' wpAnyH_take (i := 24) (v := _) rfl (by kernel_rfl) (by kernel_rfl) (by kernel_rfl) (fun _ _ _ h => h) (Or.inl ⟨by rfl, ?hy50⟩) (by assumption) ?rest50
        case hy50 => (intro w hSw; (try dsimp only at hSw); try simp only [List.getElem_toArray, List.getElem_cons_zero, List.getElem_cons_succ]; go_simp; (try with_reducible rfl))
        try simp only [List.getElem_toArray, List.getElem_cons_zero, List.getElem_cons_succ]
        try simp only [Act.put, List.setIfInBounds_toArray, List.set_cons_zero, List.set_cons_succ]
        refine' wpAnyH_take (i := 25) (v := _) rfl (by kernel_rfl) (by kernel_rfl) (by kernel_rfl) (fun _ _ _ h => h) (Or.inl ⟨by rfl, ?hy51⟩) (by assumption) ?rest51
        case hy51 => (intro w hSw; (try dsimp only at hSw); try simp only [List.getElem_toArray, List.getElem_cons_zero, List.getElem_cons_succ]; go_simp; (try with_reducible rfl))
        try simp only [List.getElem_toArray, List.getElem_cons_zero, List.getElem_cons_succ]
        try simp only [Act.put, List.setIfInBounds_toArray, List.set_cons_zero, List.set_cons_succ]
        refine' wpAnyH_take (i := 26) (v := _) rfl (by kernel_rfl) (by kernel_rfl) (by kernel_rfl) (fun _ _ _ h => h) (Or.inl ⟨by rfl, ?hy52⟩) (by assumption) ?rest52
        case hy52 => (intro w hSw; (try dsimp only at hSw); try simp only [List.getElem_toArray, List.getElem_cons_zero, List.getElem_cons_succ]; go_simp; (try with_reducible rfl))
        try simp only [List.getElem_toArray, List.getElem_cons_zero, List.getElem_cons_succ]
        try simp only [Act.put, List.setIfInBounds_toArray, List.set_cons_zero, List.set_cons_succ]
        refine' wpAnyH_take (i := 29) (v := _) rfl (by kernel_rfl) (by kernel_rfl) (by kernel_rfl) (fun _ _ _ h => h) (Or.inl ⟨by rfl, ?hy53⟩) (by assumption) ?rest53
        case hy53 => (intro w hSw; (try dsimp only at hSw); try simp only [List.getElem_toArray, List.getElem_cons_zero, List.getElem_cons_succ]; go_simp; (try with_reducible rfl))
        try simp only [List.getElem_toArray, List.getElem_cons_zero, List.getElem_cons_succ]
        try simp only [Act.put, List.setIfInBounds_toArray, List.set_cons_zero, List.set_cons_succ]
        refine' wpAnyH_take (i := 30) (v := _) rfl (by kernel_rfl) (by kernel_rfl) (by kernel_rfl) (fun _ _ _ h => h) (Or.inl ⟨by rfl, ?hy54⟩) (by assumption) ?rest54
        case hy54 => (intro w hSw; (try dsimp only at hSw); try simp only [List.getElem_toArray, List.getElem_cons_zero, List.getElem_cons_succ]; go_simp; (try with_reducible rfl))
        try simp only [List.getElem_toArray, List.getElem_cons_zero, List.getElem_cons_succ]
        try simp only [Act.put, List.setIfInBounds_toArray, List.set_cons_zero, List.set_cons_succ]
        refine' wpAnyH_take (i := 32) (v := _) rfl (by kernel_rfl) (by kernel_rfl) (by kernel_rfl) (fun _ _ _ h => h) (Or.inl ⟨by rfl, ?hy55⟩) (by assumption) ?rest55
        case hy55 => (intro w hSw; (try dsimp only at hSw); try simp only [List.getElem_toArray, List.getElem_cons_zero, List.getElem_cons_succ]; go_simp; (try with_reducible rfl))
        try simp only [List.getElem_toArray, List.getElem_cons_zero, List.getElem_cons_succ]
        try simp only [Act.put, List.setIfInBounds_toArray, List.set_cons_zero, List.set_cons_succ]
        refine' wpAnyH_take (i := 33) (v := _) rfl (by kernel_rfl) (by kernel_rfl) (by kernel_rfl) (fun _ _ _ h => h) (Or.inl ⟨by rfl, ?hy56⟩) (by assumption) ?rest56
        case hy56 => (intro w hSw; (try dsimp only at hSw); try simp only [List.getElem_toArray, List.getElem_cons_zero, List.getElem_cons_succ]; go_simp; (try with_reducible rfl))
        try simp only [List.getElem_toArray, List.getElem_cons_zero, List.getElem_cons_succ]
        try simp only [Act.put, List.setIfInBounds_toArray, List.set_cons_zero, List.set_cons_succ]
        refine wpAnyH_ready (rs := [27]) (by kernel_rfl) (by simp) ?_
        refine AllReadyH.cons rfl (fun K hK => ?_) AllReadyH.nil
        try simp only [List.getElem_toArray, List.getElem_cons_zero, List.getElem_cons_succ]
        go_simp
        with_reducible refine (add_q (HX.out.b.mono (l := 700) (by omega)) (HX.out.c.mono (l := 700) (by omega)) (by omega) (by omega) s4 HE_s4.out).mono ?_
        rintro e w27 ⟨s_x7, A_x7, n_x7, c_x7, t_x7, B_x7, m_x7, d_x7, rfl, h_x7, hbx⟩
        replace HX := Lib.hid (HX.out.below hbx)
        have H_x7 := Lib.hid h_x7
        clear hbx
        refine hK.out _ _ (by with_reducible exact HX.out.keep) (fun hHeld => ?_)
        clear hK K
        try simp only [Act.put, List.setIfInBounds_toArray, List.set_cons_zero, List.set_cons_succ]
        refine wpAnyH_ready (rs := [28]) (by kernel_rfl) (by simp) ?_
        refine AllReadyH.cons rfl (fun K hK => ?_) AllReadyH.nil
        try simp only [List.getElem_toArray, List.getElem_cons_zero, List.getElem_cons_succ]
        go_simp
        with_reducible refine (mul_q (HX.out.a.mono (l := 700) (by omega)) (H_x7.out.isq (k := 700) (Nat.le_trans HL_s4.out (by omega))) (by omega) (by omega) m6 HE_m6.out).mono ?_
        rintro e w28 ⟨s_x8, A_x8, n_x8, c_x8, t_x8, B_x8, m_x8, d_x8, rfl, h_x8, hbx⟩
        replace HX := Lib.hid (HX.out.below hbx)
        replace H_x7 := Lib.hid (H_x7.out.below hbx)
        have H_x8 := Lib.hid h_x8
        clear hbx
        refine hK.out _ _ (by with_reducible exact HX.out.keep) (fun hHeld => ?_)
        clear hK K
        try simp only [Act.put, List.setIfInBounds_toArray, List.set_cons_zero, List.set_cons_succ]
        refine wpAnyH_ready (rs := [31]) (by kernel_rfl) (by simp) ?_
        refine AllReadyH.cons rfl (fun K hK => ?_) AllReadyH.nil
        try simp only [List.getElem_toArray, List.getElem_cons_zero, List.getElem_cons_succ]
        go_simp
        with_reducible refine (mul_q (HX.out.a.mono (l := 700) (by omega)) (HX.out.b.mono (l := 700) (by omega)) (by omega) (by omega) m1 HE_m1.out).mono ?_
        rintro e w29 ⟨s_x9, A_x9, n_x9, c_x9, t_x9, B_x9, m_x9, d_x9, rfl, h_x9, hbx⟩
        replace HX := Lib.hid (HX.out.below hbx)
        replace H_x8 := Lib.hid (H_x8.out.below hbx)
        have H_x9 := Lib.hid h_x9
        clear hbx
        refine hK.out _ _ (by with_reducible exact HX.out.keep) (fun hHeld => ?_)
        clear hK K
        try simp only [Act.put, List.setIfInBounds_toArray, List.set_cons_zero, List.set_cons_succ]
        refine wpAnyH_ready (rs := [34]) (by kernel_rfl) (by simp) ?_
        refine AllReadyH.cons rfl (fun K hK => ?_) AllReadyH.nil
        try simp only [List.getElem_toArray, List.getElem_cons_zero, List.getElem_cons_succ]
        go_simp
        with_reducible refine (mul_q (HX.out.a.mono (l := 700) (by omega)) (HX.out.c.mono (l := 700) (by omega)) (by omega) (by omega) m7 HE_m7.out).mono ?_
        rintro e w30 ⟨s_x10, A_x10, n_x10, c_x10, t_x10, B_x10, m_x10, d_x10, rfl, h_x10, hbx⟩
        replace HX := Lib.hid (HX.out.below hbx)
        replace H_x8 := Lib.hid (H_x8.out.below hbx)
        replace H_x9 := Lib.hid (H_x9.out.below hbx)
        have H_x10 := Lib.hid h_x10
        clear hbx
        refine hK.out _ _ (by with_reducible exact HX.out.keep) (fun hHeld => ?_)
        clear hK K
        try simp only [Act.put, List.setIfInBounds_toArray, List.set_cons_zero, List.set_cons_succ]
        refine wpAnyH_ready (rs := [35]) (by kernel_rfl) (by simp) ?_
        refine AllReadyH.cons rfl (fun K hK => ?_) AllReadyH.nil
        try simp only [List.getElem_toArray, List.getElem_cons_zero, List.getElem_cons_succ]
        go_simp
        with_reducible refine (add_q (H_x9.out.isq (k := 700) (Nat.le_trans HL_m1.out (by omega))) (H_x10.out.isq (k := 700) (Nat.le_trans HL_m7.out (by omega))) (by omega) (by omega) s6 HE_s6.out).mono ?_
        rintro e w31 ⟨s_x11, A_x11, n_x11, c_x11, t_x11, B_x11, m_x11, d_x11, rfl, h_x11, hbx⟩
        replace HX := Lib.hid (HX.out.below hbx)
        replace H_x8 := Lib.hid (H_x8.out.below hbx)
        replace H_x9 := Lib.hid (H_x9.out.below hbx)
        replace H_x10 := Lib.hid (H_x10.out.below hbx)
        have H_x11 := Lib.hid h_x11
        clear hbx
        refine hK.out _ _ (by with_reducible exact HX.out.keep) (fun hHeld => ?_)
        clear hK K
        try simp only [Act.put, List.setIfInBounds_toArray, List.set_cons_zero, List.set_cons_succ]
        refine wpAnyH_ready (rs := [36]) (by kernel_rfl) (by simp) ?_
        refine AllReadyH.cons rfl (fun K hK => ?_) AllReadyH.nil
        try simp only [List.getElem_toArray, List.getElem_cons_zero, List.getElem_cons_succ]
        go_simp
        with_reducible refine (rat_t H_x8.out H_x11.out (Nat.le_trans HL_m6.out (by omega)) F3.out).mono ?_
        rintro e w32 ⟨rfl, hbx⟩
        replace HX := Lib.hid (HX.out.below hbx)
        replace H_x8 := Lib.hid (H_x8.out.below hbx)
        replace H_x9 := Lib.hid (H_x9.out.below hbx)
        replace H_x10 := Lib.hid (H_x10.out.below hbx)
        replace H_x11 := Lib.hid (H_x11.out.below hbx)
        clear hbx
        refine hK.out _ _ (by with_reducible exact HX.out.keep) (fun hHeld => ?_)
        clear hK K
        try simp only [Act.put, List.setIfInBounds_toArray, List.set_cons_zero, List.set_cons_succ]
        refine' wpAnyH_take (i := 37) (v := _) rfl (by kernel_rfl) (by kernel_rfl) (by kernel_rfl) (fun _ _ _ h => h) (Or.inl ⟨by rfl, ?hy57⟩) (by assumption) ?rest57
        case hy57 => (intro w hSw; (try dsimp only at hSw); try simp only [List.getElem_toArray, List.getElem_cons_zero, List.getElem_cons_succ]; go_simp; (try with_reducible rfl))
        try simp only [List.getElem_toArray, List.getElem_cons_zero, List.getElem_cons_succ]
        try simp only [Act.put, List.setIfInBounds_toArray, List.set_cons_zero, List.set_cons_succ]
        refine' wpAnyH_take (i := 38) (v := _) rfl (by kernel_rfl) (by kernel_rfl) (by kernel_rfl) (fun _ _ _ h => h) (Or.inl ⟨by rfl, ?hy58⟩) (by assumption) ?rest58
        case hy58 => (intro w hSw; (try dsimp only at hSw); try simp only [List.getElem_toArray, List.getElem_cons_zero, List.getElem_cons_succ]; go_simp; (try with_reducible rfl))
        try simp only [List.getElem_toArray, List.getElem_cons_zero, List.getElem_cons_succ]
        try simp only [Act.put, List.setIfInBounds_toArray, List.set_cons_zero, List.set_cons_succ]
        refine' wpAnyH_take (i := 39) (v := _) rfl (by kernel_rfl) (by kernel_rfl) (by kernel_rfl) (fun _ _ _ h => h) (Or.inl ⟨by rfl, ?hy59⟩) (by assumption) ?rest59
        case hy59 => (intro w hSw; (try dsimp only at hSw); try simp only [List.getElem_toArray, List.getElem_cons_zero, List.getElem_cons_succ]; go_simp; (try with_reducible rfl))
        try simp only [List.getElem_toArray, List.getElem_cons_zero, List.getElem_cons_succ]
        try simp only [Act.put, List.setIfInBounds_toArray, List.set_cons_zero, List.set_cons_succ]
        refine' wpAnyH_take (i := 40) (v := _) rfl (by kernel_rfl) (by kernel_rfl) (by kernel_rfl) (fun _ _ _ h => h) (Or.inl ⟨by rfl, ?hy60⟩) (by assumption) ?rest60
        case hy60 => (intro w hSw; (try dsimp only at hSw); try simp only [List.getElem_toArray, List.getElem_cons_zero, List.getElem_cons_succ]; go_simp; (try with_reducible rfl))
        try simp only [List.getElem_toArray, List.getElem_cons_zero, List.getElem_cons_succ]
        try simp only [Act.put, List.setIfInBounds_toArray, List.set_cons_zero, List.set_cons_succ]
        refine' wpAnyH_take (i := 43) (v := _) rfl (by kernel_rfl) (by kernel_rfl) (by kernel_rfl) (fun _ _ _ h => h) (Or.inl ⟨by rfl, ?hy61⟩) (by assumption) ?rest61
        case hy61 => (intro w hSw; (try dsimp only at hSw); try simp only [List.getElem_toArray, List.getElem_cons_zero, List.getElem_cons_succ]; go_simp; (try with_reducible rfl))
        try simp only [List.getElem_toArray, List.getElem_cons_zero, List.getElem_cons_succ]
        try simp only [Act.put, List.setIfInBounds_toArray, List.set_cons_zero, List.set_cons_succ]
        refine wpAnyH_ready (rs := [41]) (by kernel_rfl) (by simp) ?_
        refine AllReadyH.cons rfl (fun K hK => ?_) AllReadyH.nil
        try simp only [List.getElem_toArray, List.getElem_cons_zero, List.getElem_cons_succ]
        go_simp
        with_reducible refine (of_q _ (1) (1) (by omega) (by omega) (by omega) (by omega) one HE_one.out).mono ?_
        rintro e w33 ⟨s_x12, A_x12, n_x12, c_x12, t_x12, B_x12, m_x12, d_x12, rfl, h_x12, hbx⟩
        replace HX := Lib.hid (HX.out.below hbx)
        have H_x12 := Lib.hid h_x12
        clear hbx
        refine hK.out _ _ (by with_reducible exact HX.out.keep) (fun hHeld => ?_)
        clear hK K
        try simp only [Act.put, List.setIfInBounds_toArray, List.set_cons_zero, List.set_cons_succ]
        refine wpAnyH_ready (rs := [42]) (by kernel_rfl) (by simp) ?_
        refine AllReadyH.cons rfl (fun K hK => ?_) AllReadyH.nil
        try simp only [List.getElem_toArray, List.getElem_cons_zero, List.getElem_cons_succ]
        go_simp
        with_reducible refine (mul_q (HX.out.a.mono (l := 700) (by omega)) (H_x12.out.isq (k := 700) (Nat.le_trans HL_one.out (by omega))) (by omega) (by omega) m8 HE_m8.out).mono ?_
        rintro e w34 ⟨s_x13, A_x13, n_x13, c_x13, t_x13, B_x13, m_x13, d_x13, rfl, h_x13, hbx⟩
        replace HX := Lib.hid (HX.out.below hbx)
        replace H_x12 := Lib.hid (H_x12.out.below hbx)
        have H_x13 := Lib.hid h_x13
        clear hbx
        refine hK.out _ _ (by with_reducible exact HX.out.keep) (fun hHeld => ?_)
        clear hK K
        try simp only [Act.put, List.setIfInBounds_toArray, List.set_cons_zero, List.set_cons_succ]
        refine wpAnyH_ready (rs := [44]) (by kernel_rfl) (by simp) ?_
        refine AllReadyH.cons rfl (fun K hK => ?_) AllReadyH.nil
        try simp only [List.getElem_toArray, List.getElem_cons_zero, List.getElem_cons_succ]
        go_simp
        with_reducible refine (norm_q (HX.out.a.mono (l := 700) (by omega)) (by omega) (by omega)).mono ?_
        rintro e w35 ⟨s_x14, A_x14, n_x14, c_x14, t_x14, B_x14, m_x14, d_x14, rfl, h_x14, hbx⟩
        replace HX := Lib.hid (HX.out.below hbx)
        replace H_x12 := Lib.hid (H_x12.out.below hbx)
        replace H_x13 := Lib.hid (H_x13.out.below hbx)
        have H_x14 := Lib.hid h_x14
        clear hbx
        refine hK.out _ _ (by with_reducible exact HX.out.keep) (fun hHeld => ?_)
        clear hK K
        try simp only [Act.put, List.setIfInBounds_toArray, List.set_cons_zero, List.set_cons_succ]
        refine wpAnyH_ready (rs := [45]) (by kernel_rfl) (by simp) ?_
        refine AllReadyH.cons rfl (fun K hK => ?_) AllReadyH.nil
        try simp only [List.getElem_toArray, List.getElem_cons_zero, List.getElem_cons_succ]
        go_simp
        with_reducible refine (rat_t H_x13.out H_x14.out (Nat.le_trans HL_m8.out (by omega)) F4.out).mono ?_
        rintro e w36 ⟨rfl, hbx⟩
        replace HX := Lib.hid (HX.out.below hbx)
        replace H_x12 := Lib.hid (H_x12.out.below hbx)
        replace H_x13 := Lib.hid (H_x13.out.below hbx)
        replace H_x14 := Lib.hid (H_x14.out.below hbx)
        clear hbx
        refine hK.out _ _ (by with_reducible exact HX.out.keep) (fun hHeld => ?_)
        clear hK K
        try simp only [Act.put, List.setIfInBounds_toArray, List.set_cons_zero, List.set_cons_succ]
        refine' wpAnyH_take (i := 46) (v := _) rfl (by kernel_rfl) (by kernel_rfl) (by kernel_rfl) (fun _ _ _ h => h) (Or.inl ⟨by rfl, ?hy62⟩) (by assumption) ?rest62
        case hy62 => (intro w hSw; (try dsimp only at hSw); try simp only [List.getElem_toArray, List.getElem_cons_zero, List.getElem_cons_succ]; go_simp; (try with_reducible rfl))
        try simp only [List.getElem_toArray, List.getElem_cons_zero, List.getElem_cons_succ]
        try simp only [Act.put, List.setIfInBounds_toArray, List.set_cons_zero, List.set_cons_succ]
        refine' wpAnyH_take (i := 47) (v := _) rfl (by kernel_rfl) (by kernel_rfl) (by kernel_rfl) (fun _ _ _ h => h) (Or.inl ⟨by rfl, ?hy63⟩) (by assumption) ?rest63
        case hy63 => (intro w hSw; (try dsimp only at hSw); try simp only [List.getElem_toArray, List.getElem_cons_zero, List.getElem_cons_succ]; go_simp; (try with_reducible rfl))
        try simp only [List.getElem_toArray, List.getElem_cons_zero, List.getElem_cons_succ]
        try simp only [Act.put, List.setIfInBounds_toArray, List.set_cons_zero, List.set_cons_succ]
        refine wpAnyH_done (by kernel_rfl) ?_ _
        go_wp2_with fail
        go_meet
        exact ⟨rfl, HX.out⟩
    case rest =>
      clear HX
      obtain ⟨rfl, HX⟩ := hcut
      go_upto_region 6 with fail
      go_cut [10] from 113 to 149 (fun s10 wx => s10 = .bool true ∧ Hid (Q3 w wx sa Aa na ca ta Ba ma da sb Ab nb cb tb Bb mb db sc Ac nc cc tc Bc mc dc p r u 12))
      case first =>
        as_aux_lemma =>
          by_cases hr : r = 0
          · have HS0 : Hid (qsign r = 0) := by show _ = _; rw [hr]; rfl
            have HG3 : Hid (qsign q1 = 0) := G3.out hr
            clear hr
            replace HX := Lib.hid HX.out.drew
            refine wp_region_held_drew (S := (fun V => V.cell? ⟨w.heap.size, 0, none⟩ = some (.bool sa) ∧ V.cell? ⟨w.heap.size, 1, none⟩ = some (.slice Aa na ca) ∧ V.cell? ⟨w.heap.size, 2, none⟩ = some (.bool ta) ∧ V.cell? ⟨w.heap.size, 3, none⟩ = some (.slice Ba ma da) ∧ V.cell? ⟨w.heap.size + 1, 0, none⟩ = some (.bool sb) ∧ V.cell? ⟨w.heap.size + 1, 1, none⟩ = some (.slice Ab nb cb) ∧ V.cell? ⟨w.heap.size + 1, 2, none⟩ = some (.bool tb) ∧ V.cell? ⟨w.heap.size + 1, 3, none⟩ = some (.slice Bb mb db) ∧ V.cell? ⟨w.heap.size + 1 + 1, 0, none⟩ = some (.bool sc) ∧ V.cell? ⟨w.heap.size + 1 + 1, 1, none⟩ = some (.slice Ac nc cc) ∧ V.cell? ⟨w.heap.size + 1 + 1, 2, none⟩ = some (.bool tc) ∧ V.cell? ⟨w.heap.size + 1 + 1, 3, none⟩ = some (.slice Bc mc dc))) (by kernel_rfl) (by with_reducible exact HX.out.keep) (fun hHeld => ?_)
            refine' wpAnyH_take (i := 0) (v := _) rfl (by kernel_rfl) (by kernel_rfl) (by kernel_rfl) (fun _ _ _ h => h) (Or.inl ⟨by rfl, ?hy64⟩) (by assumption) ?rest64
            case hy64 => (intro w hSw; (try dsimp only at hSw); try simp only [List.getElem_toArray, List.getElem_cons_zero]; go_simp; (try with_reducible rfl))
            try simp only [List.getElem_toArray, List.getElem_cons_zero]
            try simp only [Act.put, List.setIfInBounds_toArray, List.set_cons_zero, List.set_cons_succ]
            refine wpAnyH_ready (rs := [1]) (by kernel_rfl) (by simp) ?_
            refine AllReadyH.cons rfl (fun K hK => ?_) AllReadyH.nil
            try simp only [List.getElem_toArray, List.getElem_cons_zero, List.getElem_cons_succ]
            go_simp
            with_reducible refine (sign_q (HX.out.b.mono (l := 700) (by omega)) (by omega) (0) HS0.out).mono ?_
            rintro e w37 ⟨rfl, hbx⟩
            replace HX := Lib.hid (HX.out.below hbx)
            clear hbx
            refine hK.out _ _ (by with_reducible exact HX.out.keep) (fun hHeld => ?_)
            clear hK K
            try simp only [Act.put, List.setIfInBounds_toArray, List.set_cons_zero, List.set_cons_succ]
            refine' wpAnyH_take (i := 2) (v := _) rfl (by kernel_rfl) (by kernel_rfl) (by kernel_rfl) (fun _ _ _ h => h) (Or.inl ⟨by rfl, ?hy65⟩) (by assumption) ?rest65
            case hy65 => (intro w hSw; (try dsimp only at hSw); try simp only [List.getElem_toArray, List.getElem_cons_zero, List.getElem_cons_succ]; go_simp; (try with_reducible rfl))
            try simp only [List.getElem_toArray, List.getElem_cons_zero, List.getElem_cons_succ]
            try simp only [Act.put, List.setIfInBounds_toArray, List.set_cons_zero, List.set_cons_succ]
            refine' wpAnyH_take (i := 3) (v := _) rfl (by kernel_rfl) (by kernel_rfl) (by kernel_rfl) (fun _ _ _ h => h) (Or.inl ⟨by rfl, ?hy66⟩) (by assumption) ?rest66
            case hy66 => (intro w hSw; (try dsimp only at hSw); try simp only [List.getElem_toArray, List.getElem_cons_zero, List.getElem_cons_succ]; go_simp; (try with_reducible rfl))
            try simp only [List.getElem_toArray, List.getElem_cons_zero, List.getElem_cons_succ]
            try simp only [Act.put, List.setIfInBounds_toArray, List.set_cons_zero, List.set_cons_succ]
            refine' wpAnyH_take (i := 4) (v := _) rfl (by kernel_rfl) (by kernel_rfl) (by kernel_rfl) (fun _ _ _ h => h) (Or.inl ⟨by rfl, ?hy67⟩) (by assumption) ?rest67
            case hy67 => (intro w hSw; (try dsimp only at hSw); try simp only [List.getElem_toArray, List.getElem_cons_zero, List.getElem_cons_succ]; go_simp; (try with_reducible rfl))
            try simp only [List.getElem_toArray, List.getElem_cons_zero, List.getElem_cons_succ]
            try simp only [Act.put, List.setIfInBounds_toArray, List.set_cons_zero, List.set_cons_succ]
            refine' wpAnyH_take (i := 5) (v := _) rfl (by kernel_rfl) (by kernel_rfl) (by kernel_rfl) (fun _ _ _ h => h) (Or.inl ⟨by rfl, ?hy68⟩) (by assumption) ?rest68
            case hy68 => (intro w hSw; (try dsimp only at hSw); try simp only [List.getElem_toArray, List.getElem_cons_zero, List.getElem_cons_succ]; go_simp; (try with_reducible rfl))
            try simp only [List.getElem_toArray, List.getElem_cons_zero, List.getElem_cons_succ]
            try simp only [Act.put, List.setIfInBounds_toArray, List.set_cons_zero, List.set_cons_succ]
            refine wpAnyH_ready (rs := [6]) (by kernel_rfl) (by simp) ?_
            refine AllReadyH.cons rfl (fun K hK => ?_) AllReadyH.nil
            try simp only [List.getElem_toArray, List.getElem_cons_zero, List.getElem_cons_succ]
            go_simp
            with_reducible refine (quo_q (HX.out.a.mono (l := 700) (by omega)) (HX.out.b.mono (l := 700) (by omega)) (by omega) (by omega) q1 HE_q1.out).mono ?_
            rintro e w38 ⟨s_x1, A_x1, n_x1, c_x1, t_x1, B_x1, m_x1, d_x1, rfl, h_x1, hbx⟩
            replace HX := Lib.hid (HX.out.below hbx)
            have H_x1 := Lib.hid h_x1
            clear hbx
            refine hK.out _ _ (by with_reducible exact HX.out.keep) (fun hHeld => ?_)
            clear hK K
            try simp only [Act.put, List.setIfInBounds_toArray, List.set_cons_zero, List.set_cons_succ]
            refine wpAnyH_ready (rs := [7]) (by kernel_rfl) (by simp) ?_
            refine AllReadyH.cons rfl (fun K hK => ?_) AllReadyH.nil
            try simp only [List.getElem_toArray, List.getElem_cons_zero, List.getElem_cons_succ]
            go_simp
            with_reducible refine (sign_q (H_x1.out.isq (k := 700) (Nat.le_trans HL_q1.out (by omega))) (by omega) (0) HG3.out).mono ?_
            rintro e w39 ⟨rfl, hbx⟩
            replace HX := Lib.hid (HX.out.below hbx)
            replace H_x1 := Lib.hid (H_x1.out.below hbx)
            clear hbx
            refine hK.out _ _ (by with_reducible exact HX.out.keep) (fun hHeld => ?_)
            clear hK K
            try simp only [Act.put, List.setIfInBounds_toArray, List.set_cons_zero, List.set_cons_succ]
            refine' wpAnyH_take (i := 8) (v := _) rfl (by kernel_rfl) (by kernel_rfl) (by kernel_rfl) (fun _ _ _ h => h) (Or.inl ⟨by rfl, ?hy69⟩) (by assumption) ?rest69
            case hy69 => (intro w hSw; (try dsimp only at hSw); try simp only [List.getElem_toArray, List.getElem_cons_zero, List.getElem_cons_succ]; go_simp; (try with_reducible rfl))
            try simp only [List.getElem_toArray, List.getElem_cons_zero, List.getElem_cons_succ]
            try simp only [Act.put, List.setIfInBounds_toArray, List.set_cons_zero, List.set_cons_succ]
            refine' wpAnyH_take (i := 9) (v := _) rfl (by kernel_rfl) (by kernel_rfl) (by kernel_rfl) (fun _ _ _ h => h) (Or.inl ⟨by rfl, ?hy70⟩) (by assumption) ?rest70
            case hy70 => (intro w hSw; (try dsimp only at hSw); try simp only [List.getElem_toArray, List.getElem_cons_zero, List.getElem_cons_succ]; go_simp; (try with_reducible rfl))
            try simp only [List.getElem_toArray, List.getElem_cons_zero, List.getElem_cons_succ]
            try simp only [Act.put, List.setIfInBounds_toArray, List.set_cons_zero, List.set_cons_succ]
            refine' wpAnyH_take (i := 10) (v := _) rfl (by kernel_rfl) (by kernel_rfl) (by kernel_rfl) (fun _ _ _ h => h) (Or.inl ⟨by rfl, ?hy71⟩) (by assumption) ?rest71
            case hy71 => (intro w hSw; (try dsimp only at hSw); try simp only [List.getElem_toArray, List.getElem_cons_zero, List.getElem_cons_succ]; go_simp; (try with_reducible rfl))
            try simp only [List.getElem_toArray, List.getElem_cons_zero, List.getElem_cons_succ]
            try simp only [Act.put, List.setIfInBounds_toArray, List.set_cons_zero, List.set_cons_succ]
            refine wpAnyH_take (i := 11) (v := undef) rfl (by kernel_rfl) (by kernel_rfl) (by kernel_rfl) (fun _ _ _ h => h) (Or.inr ⟨by rfl, rfl⟩) (by assumption) ?_
            try simp only [List.getElem_toArray, List.getElem_cons_zero, List.getElem_cons_succ]
            try simp only [Act.put, List.setIfInBounds_toArray, List.set_cons_zero, List.set_cons_succ]
            refine wpAnyH_take (i := 12) (v := undef) rfl (by kernel_rfl) (by kernel_rfl) (by kernel_rfl) (fun _ _ _ h => h) (Or.inr ⟨by rfl, rfl⟩) (by assumption) ?_
            try simp only [List.getElem_toArray, List.getElem_cons_zero, List.getElem_cons_succ]
            try simp only [Act.put, List.setIfInBounds_toArray, List.set_cons_zero, List.set_cons_succ]
            refine wpAnyH_take (i := 13) (v := undef) rfl (by kernel_rfl) (by kernel_rfl) (by kernel_rfl) (fun _ _ _ h => h) (Or.inr ⟨by rfl, rfl⟩) (by assumption) ?_
            try simp only [List.getElem_toArray, List.getElem_cons_zero, List.getElem_cons_succ]
            try simp only [Act.put, List.setIfInBounds_toArray, List.set_cons_zero, List.set_cons_succ]
            refine wpAnyH_take (i := 14) (v := undef) rfl (by kernel_rfl) (by kernel_rfl) (by kernel_rfl) (fun _ _ _ h => h) (Or.inr ⟨by rfl, rfl⟩) (by assumption) ?_
            try simp only [List.getElem_toArray, List.getElem_cons_zero, List.getElem_cons_succ]
            try simp only [Act.put, List.setIfInBounds_toArray, List.set_cons_zero, List.set_cons_succ]
            refine wpAnyH_take (i := 15) (v := undef) rfl (by kernel_rfl) (by kernel_rfl) (by kernel_rfl) (fun _ _ _ h => h) (Or.inr ⟨by rfl, rfl⟩) (by assumption) ?_
            try simp only [List.getElem_toArray, List.getElem_cons_zero, List.getElem_cons_succ]
            try simp only [Act.put, List.setIfInBounds_toArray, List.set_cons_zero, List.set_cons_succ]
            refine wpAnyH_take (i := 16) (v := undef) rfl (by kernel_rfl) (by kernel_rfl) (by kernel_rfl) (fun _ _ _ h => h) (Or.inr ⟨by rfl, rfl⟩) (by assumption) ?_
            try simp only [List.getElem_toArray, List.getElem_cons_zero, List.getElem_cons_succ]
            try simp only [Act.put, List.setIfInBounds_toArray, List.set_cons_zero, List.set_cons_succ]
            refine wpAnyH_take (i := 17) (v := undef) rfl (by kernel_rfl) (by kernel_rfl) (by kernel_rfl) (fun _ _ _ h => h) (Or.inr ⟨by rfl, rfl⟩) (by assumption) ?_
            try simp only [List.getElem_toArray, List.getElem_cons_zero, List.getElem_cons_succ]
            try simp only [Act.put, List.setIfInBounds_toArray, List.set_cons_zero, List.set_cons_succ]
            refine wpAnyH_take (i := 18) (v := undef) rfl (by kernel_rfl) (by kernel_rfl) (by kernel_rfl) (fun _ _ _ h => h) (Or.inr ⟨by rfl, rfl⟩) (by assumption) ?_
            try simp only [List.getElem_toArray, List.getElem_cons_zero, List.getElem_cons_succ]
            try simp only [Act.put, List.setIfInBounds_toArray, List.set_cons_zero, List.set_cons_succ]
            refine wpAnyH_take (i := 19) (v := undef) rfl (by kernel_rfl) (by kernel_rfl) (by kernel_rfl) (fun _ _ _ h => h) (Or.inr ⟨by rfl, rfl⟩) (by assumption) ?_
            try simp only [List.getElem_toArray, List.getElem_cons_zero, List.getElem_cons_succ]
            try simp only [Act.put, List.setIfInBounds_toArray, List.set_cons_zero, List.set_cons_succ]
            refine wpAnyH_take (i := 20) (v := undef) rfl (by kernel_rfl) (by kernel_rfl) (by kernel_rfl) (fun _ _ _ h => h) (Or.inr ⟨by rfl, rfl⟩) (by assumption) ?_
            try simp only [List.getElem_toArray, List.getElem_cons_zero, List.getElem_cons_succ]
            try simp only [Act.put, List.setIfInBounds_toArray, List.set_cons_zero, List.set_cons_succ]
            refine wpAnyH_take (i := 21) (v := undef) rfl (by kernel_rfl) (by kernel_rfl) (by kernel_rfl) (fun _ _ _ h => h) (Or.inr ⟨by rfl, rfl⟩) (by assumption) ?_
            try simp only [List.getElem_toArray, List.getElem_cons_zero, List.getElem_cons_succ]
            try simp only [Act.put, List.setIfInBounds_toArray, List.set_cons_zero, List.set_cons_succ]
            refine wpAnyH_take (i := 22) (v := undef) rfl (by kernel_rfl) (by kernel_rfl) (by kernel_rfl) (fun _ _ _ h => h) (Or.inr ⟨by rfl, rfl⟩) (by assumption) ?_
            try simp only [List.getElem_toArray, List.getElem_cons_zero, List.getElem_cons_succ]
            try simp only [Act.put, List.setIfInBounds_toArray, List.set_cons_zero, List.set_cons_succ]
            refine wpAnyH_take (i := 23) (v := undef) rfl (by kernel_rfl) (by kernel_rfl) (by kernel_rfl) (fun _ _ _ h => h) (Or.inr ⟨by rfl, rfl⟩) (by assumption) ?_
            try simp only [List.getElem_toArray, List.getElem_cons_zero, List.getElem_cons_succ]
            try simp only [Act.put, List.setIfInBounds_toArray, List.set_cons_zero, List.set_cons_succ]
            refine wpAnyH_take (i := 24) (v := undef) rfl (by kernel_rfl) (by kernel_rfl) (by kernel_rfl) (fun _ _ _ h => h) (Or.inr ⟨by rfl, rfl⟩) (by assumption) ?_
            try simp only [List.getElem_toArray, List.getElem_cons_zero, List.getElem_cons_succ]
            try simp only [Act.put, List.setIfInBounds_toArray, List.set_cons_zero, List.set_cons_succ]
            refine wpAnyH_take (i := 25) (v := undef) rfl (by kernel_rfl) (by kernel_rfl) (by kernel_rfl) (fun _ _ _ h => h) (Or.inr ⟨by rfl, rfl⟩) (by assumption) ?_
            try simp only [List.getElem_toArray, List.getElem_cons_zero, List.getElem_cons_succ]
            try simp only [Act.put, List.setIfInBounds_toArray, List.set_cons_zero, List.set_cons_succ]
            refine wpAnyH_take (i := 26) (v := undef) rfl (by kernel_rfl) (by kernel_rfl) (by kernel_rfl) (fun _ _ _ h => h) (Or.inr ⟨by rfl, rfl⟩) (by assumption) ?_
            try simp only [List.getElem_toArray, List.getElem_cons_zero, List.getElem_cons_succ]
            try simp only [Act.put, List.setIfInBounds_toArray, List.set_cons_zero, List.set_cons_succ]
            refine wpAnyH_take (i := 27) (v := undef) rfl (by kernel_rfl) (by kernel_rfl) (by kernel_rfl) (fun _ _ _ h => h) (Or.inr ⟨by rfl, rfl⟩) (by assumption) ?_
            try simp only [List.getElem_toArray, List.getElem_cons_zero, List.getElem_cons_succ]
            try simp only [Act.put, List.setIfInBounds_toArray, List.set_cons_zero, List.set_cons_succ]
            refine wpAnyH_take (i := 28) (v := undef) rfl (by kernel_rfl) (by kernel_rfl) (by kernel_rfl) (fun _ _ _ h => h) (Or.inr ⟨by rfl, rfl⟩) (by assumption) ?_
            try simp only [List.getElem_toArray, List.getElem_cons_zero, List.getElem_cons_succ]
            try simp only [Act.put, List.setIfInBounds_toArray, List.set_cons_zero, List.set_cons_succ]
            refine wpAnyH_take (i := 29) (v := undef) rfl (by kernel_rfl) (by kernel_rfl) (by kernel_rfl) (fun _ _ _ h => h) (Or.inr ⟨by rfl, rfl⟩) (by assumption) ?_
            try simp only [List.getElem_toArray, List.getElem_cons_zero, List.getElem_cons_succ]
            try simp only [Act.put, List.setIfInBounds_toArray, List.set_cons_zero, List.set_cons_succ]
            refine wpAnyH_take (i := 30) (v := undef) rfl (by kernel_rfl) (by kernel_rfl) (by kernel_rfl) (fun _ _ _ h => h) (Or.inr ⟨by rfl, rfl⟩) (by assumption) ?_
            try simp only [List.getElem_toArray, List.getElem_cons_zero, List.getElem_cons_succ]
            try simp only [Act.put, List.setIfInBounds_toArray, List.set_cons_zero, List.set_cons_succ]
            refine wpAnyH_take (i := 31) (v := undef) rfl (by kernel_rfl) (by kernel_rfl) (by kernel_rfl) (fun _ _ _ h => h) (Or.inr ⟨by rfl, rfl⟩) (by assumption) ?_
            try simp only [List.getElem_toArray, List.getElem_cons_zero, List.getElem_cons_succ]
            try simp only [Act.put, List.setIfInBounds_toArray, List.set_cons_zero, List.set_cons_succ]
            refine wpAnyH_take (i := 32) (v := undef) rfl (by kernel_rfl) (by kernel_rfl) (by kernel_rfl) (fun _ _ _ h => h) (Or.inr ⟨by rfl, rfl⟩) (by assumption) ?_
            try simp only [List.getElem_toArray, List.getElem_cons_zero, List.getElem_cons_succ]
            try simp only [Act.put, List.setIfInBounds_toArray, List.set_cons_zero, List.set_cons_succ]
            refine wpAnyH_take (i := 33) (v := undef) rfl (by kernel_rfl) (by kernel_rfl) (by kernel_rfl) (fun _ _ _ h => h) (Or.inr ⟨by rfl, rfl⟩) (by assumption) ?_
            try simp only [List.getElem_toArray, List.getElem_cons_zero, List.getElem_cons_succ]
            try simp only [Act.put, List.setIfInBounds_toArray, List.set_cons_zero, List.set_cons_succ]
            refine wpAnyH_take (i := 34) (v := undef) rfl (by kernel_rfl) (by kernel_rfl) (by kernel_rfl) (fun _ _ _ h => h) (Or.inr ⟨by rfl, rfl⟩) (by assumption) ?_
            try simp only [List.getElem_toArray, List.getElem_cons_zero, List.getElem_cons_succ]
            try simp only [Act.put, List.setIfInBounds_toArray, List.set_cons_zero, List.set_cons_succ]
            refine wpAnyH_take (i := 35) (v := undef) rfl (by kernel_rfl) (by kernel_rfl) (by kernel_rfl) (fun _ _ _ h => h) (Or.inr ⟨by rfl, rfl⟩) (by assumption) ?_
            try simp only [List.getElem_toArray, List.getElem_cons_zero, List.getElem_cons_succ]
            try simp only [Act.put, List.setIfInBounds_toArray, List.set_cons_zero, List.set_cons_succ]
            refine' wpAnyH_take (i := 36) (v := _) rfl (by kernel_rfl) (by kernel_rfl) (by kernel_rfl) (fun _ _ _ h => h) (Or.inl ⟨by rfl, ?hy72⟩) (by assumption) ?rest72
            case hy72 => (intro w hSw; (try dsimp only at hSw); try simp only [List.getElem_toArray, List.getElem_cons_zero, List.getElem_cons_succ]; go_simp; (try with_reducible rfl))
            try simp only [List.getElem_toArray, List.getElem_cons_zero, List.getElem_cons_succ]
            try simp only [Act.put, List.setIfInBounds_toArray, List.set_cons_zero, List.set_cons_succ]
            refine' wpAnyH_take (i := 37) (v := _) rfl (by kernel_rfl) (by kernel_rfl) (by kernel_rfl) (fun _ _ _ h => h) (Or.inl ⟨by rfl, ?hy73⟩) (by assumption) ?rest73
            case hy73 => (intro w hSw; (try dsimp only at hSw); try simp only [List.getElem_toArray, List.getElem_cons_zero, List.getElem_cons_succ]; go_simp; (try with_reducible rfl))
            try simp only [List.getElem_toArray, List.getElem_cons_zero, List.getElem_cons_succ]
            try simp only [Act.put, List.setIfInBounds_toArray, List.set_cons_zero, List.set_cons_succ]
            refine wpAnyH_done (by kernel_rfl) ?_ _
            go_wp2_with fail
            go_meet
            exact ⟨rfl, HX.out⟩
          · have HG1 : Hid (m9 = p) := G1.out hr
            have HG2 : Hid (q2 = p) := G2.out hr
            have hs0 : (sg == 0) = false := by rw [beq_eq_false_iff_ne, ← HSG.out]; exact fun h => hr (qsign_zero_iff.1 h)
            have hs1 : (sg != 0) = true := by rw [bne_iff_ne, ← HSG.out]; exact fun h => hr (qsign_zero_iff.1 h)
            clear hr
            replace HX := Lib.hid HX.out.drew
            refine wp_region_held_drew (S := (fun V => V.cell? ⟨w.heap.size, 0, none⟩ = some (.bool sa) ∧ V.cell? ⟨w.heap.size, 1, none⟩ = some (.slice Aa na ca) ∧ V.cell? ⟨w.heap.size, 2, none⟩ = some (.bool ta) ∧ V.cell? ⟨w.heap.size, 3, none⟩ = some (.slice Ba ma da) ∧ V.cell? ⟨w.heap.size + 1, 0, none⟩ = some (.bool sb) ∧ V.cell? ⟨w.heap.size + 1, 1, none⟩ = some (.slice Ab nb cb) ∧ V.cell? ⟨w.heap.size + 1, 2, none⟩ = some (.bool tb) ∧ V.cell? ⟨w.heap.size + 1, 3, none⟩ = some (.slice Bb mb db) ∧ V.cell? ⟨w.heap.size + 1 + 1, 0, none⟩ = some (.bool sc) ∧ V.cell? ⟨w.heap.size + 1 + 1, 1, none⟩ = some (.slice Ac nc cc) ∧ V.cell? ⟨w.heap.size + 1 + 1, 2, none⟩ = some (.bool tc) ∧ V.cell? ⟨w.heap.size + 1 + 1, 3, none⟩ = some (.slice Bc mc dc))) (by kernel_rfl) (by with_reducible exact HX.out.keep) (fun hHeld => ?_)
            refine' wpAnyH_take (i := 0) (v := _) rfl (by kernel_rfl) (by kernel_rfl) (by kernel_rfl) (fun _ _ _ h => h) (Or.inl ⟨by rfl, ?hy74⟩) (by assumption) ?rest74
            case hy74 => (intro w hSw; (try dsimp only at hSw); try simp only [List.getElem_toArray, List.getElem_cons_zero]; go_simp; (try with_reducible rfl))
            try simp only [List.getElem_toArray, List.getElem_cons_zero]
            try simp only [Act.put, List.setIfInBounds_toArray, List.set_cons_zero, List.set_cons_succ]
            refine wpAnyH_ready (rs := [1]) (by kernel_rfl) (by simp) ?_
            refine AllReadyH.cons rfl (fun K hK => ?_) AllReadyH.nil
            try simp only [List.getElem_toArray, List.getElem_cons_zero, List.getElem_cons_succ]
            go_simp
            with_reducible refine (sign_q (HX.out.b.mono (l := 700) (by omega)) (by omega) (sg) HSG.out).mono ?_
            rintro e w40 ⟨rfl, hbx⟩
            replace HX := Lib.hid (HX.out.below hbx)
            clear hbx
            refine hK.out _ _ (by with_reducible exact HX.out.keep) (fun hHeld => ?_)
            clear hK K
            try simp only [Act.put, List.setIfInBounds_toArray, List.set_cons_zero, List.set_cons_succ]
            refine' wpAnyH_take (i := 2) (v := _) rfl (by kernel_rfl) (by kernel_rfl) (by kernel_rfl) (fun _ _ _ h => h) (Or.inl ⟨by rfl, ?hy75⟩) (by assumption) ?rest75
            case hy75 => (intro w hSw; (try dsimp only at hSw); try simp only [List.getElem_toArray, List.getElem_cons_zero, List.getElem_cons_succ]; go_simp; (try with_reducible rfl))
            try simp only [List.getElem_toArray, List.getElem_cons_zero, List.getElem_cons_succ]
            try simp only [Act.put, List.setIfInBounds_toArray, List.set_cons_zero, List.set_cons_succ]
            refine' wpAnyH_take (i := 3) (v := _) rfl (by kernel_rfl) (by kernel_rfl) (by kernel_rfl) (fun _ _ _ h => h) (Or.inl ⟨by rfl, ?hy76⟩) (by assumption) ?rest76
            case hy76 => (intro w hSw; (try dsimp only at hSw); try simp only [List.getElem_toArray, List.getElem_cons_zero, List.getElem_cons_succ]; go_simp; (try with_reducible rfl))
            try simp only [List.getElem_toArray, List.getElem_cons_zero, List.getElem_cons_succ]
            try simp only [Act.put, List.setIfInBounds_toArray, List.set_cons_zero, List.set_cons_succ]
            refine wpAnyH_take (i := 4) (v := undef) rfl (by kernel_rfl) (by kernel_rfl) (by kernel_rfl) (fun _ _ _ h => h) (Or.inr ⟨by rfl, rfl⟩) (by assumption) ?_
            try simp only [List.getElem_toArray, List.getElem_cons_zero, List.getElem_cons_succ]
            try simp only [Act.put, List.setIfInBounds_toArray, List.set_cons_zero, List.set_cons_succ]
            refine wpAnyH_take (i := 5) (v := undef) rfl (by kernel_rfl) (by kernel_rfl) (by kernel_rfl) (fun _ _ _ h => h) (Or.inr ⟨by rfl, rfl⟩) (by assumption) ?_
            try simp only [List.getElem_toArray, List.getElem_cons_zero, List.getElem_cons_succ]
            try simp only [Act.put, List.setIfInBounds_toArray, List.set_cons_zero, List.set_cons_succ]
            refine wpAnyH_take (i := 6) (v := undef) rfl (by kernel_rfl) (by kernel_rfl) (by kernel_rfl) (fun _ _ _ h => h) (Or.inr ⟨by rfl, rfl⟩) (by assumption) ?_
            try simp only [List.getElem_toArray, List.getElem_cons_zero, List.getElem_cons_succ]
            try simp only [Act.put, List.setIfInBounds_toArray, List.set_cons_zero, List.set_cons_succ]
            refine wpAnyH_take (i := 7) (v := undef) rfl (by kernel_rfl) (by kernel_rfl) (by kernel_rfl) (fun _ _ _ h => h) (Or.inr ⟨by rfl, rfl⟩) (by assumption) ?_
            try simp only [List.getElem_toArray, List.getElem_cons_zero, List.getElem_cons_succ]
            try simp only [Act.put, List.setIfInBounds_toArray, List.set_cons_zero, List.set_cons_succ]
            refine wpAnyH_take (i := 8) (v := undef) rfl (by kernel_rfl) (by kernel_rfl) (by kernel_rfl) (fun _ _ _ h => h) (Or.inr ⟨by rfl, rfl⟩) (by assumption) ?_
            try simp only [List.getElem_toArray, List.getElem_cons_zero, List.getElem_cons_succ]
            try simp only [Act.put, List.setIfInBounds_toArray, List.set_cons_zero, List.set_cons_succ]
            refine' wpAnyH_take (i := 9) (v := _) rfl (by kernel_rfl) (by kernel_rfl) (by kernel_rfl) (fun _ _ _ h => h) (Or.inl ⟨by rfl, ?hy77⟩) (by assumption) ?rest77
            case hy77 => (intro w hSw; (try dsimp only at hSw); try simp only [List.getElem_toArray, List.getElem_cons_zero, List.getElem_cons_succ]; go_simp; (try with_reducible rfl))
            try simp only [List.getElem_toArray, List.getElem_cons_zero, List.getElem_cons_succ]
            try simp only [Act.put, List.setIfInBounds_toArray, List.set_cons_zero, List.set_cons_succ]
            refine' wpAnyH_take (i := 10) (v := _) rfl (by kernel_rfl) (by kernel_rfl) (by kernel_rfl) (fun _ _ _ h => h) (Or.inl ⟨by rfl, ?hy78⟩) (by assumption) ?rest78
            case hy78 => (intro w hSw; (try dsimp only at hSw); try simp only [List.getElem_toArray, List.getElem_cons_zero, List.getElem_cons_succ]; go_simp; (try with_reducible rfl))
            try simp only [List.getElem_toArray, List.getElem_cons_zero, List.getElem_cons_succ]
            try simp only [Act.put, List.setIfInBounds_toArray, List.set_cons_zero, List.set_cons_succ]
            refine' wpAnyH_take (i := 11) (v := _) rfl (by kernel_rfl) (by kernel_rfl) (by kernel_rfl) (fun _ _ _ h => h) (Or.inl ⟨by rfl, ?hy79⟩) (by assumption) ?rest79
            case hy79 => (intro w hSw; (try dsimp only at hSw); try simp only [List.getElem_toArray, List.getElem_cons_zero, List.getElem_cons_succ]; go_simp; (try with_reducible rfl))
            try simp only [List.getElem_toArray, List.getElem_cons_zero, List.getElem_cons_succ]
            try simp only [Act.put, List.setIfInBounds_toArray, List.set_cons_zero, List.set_cons_succ]
            refine wpAnyH_ready (rs := [12]) (by kernel_rfl) (by simp) ?_
            refine AllReadyH.cons rfl (fun K hK => ?_) AllReadyH.nil
            try simp only [List.getElem_toArray, List.getElem_cons_zero, List.getElem_cons_succ]
            go_simp
            with_reducible refine (sign_q (HX.out.b.mono (l := 700) (by omega)) (by omega) (sg) HSG.out).mono ?_
            rintro e w41 ⟨rfl, hbx⟩
            replace HX := Lib.hid (HX.out.below hbx)
            clear hbx
            refine hK.out _ _ (by with_reducible exact HX.out.keep) (fun hHeld => ?_)
            clear hK K
            try simp only [Act.put, List.setIfInBounds_toArray, List.set_cons_zero, List.set_cons_succ]
            refine' wpAnyH_take (i := 13) (v := _) rfl (by kernel_rfl) (by kernel_rfl) (by kernel_rfl) (fun _ _ _ h => h) (Or.inl ⟨by rfl, ?hy80⟩) (by assumption) ?rest80
            case hy80 => (intro w hSw; (try dsimp only at hSw); try simp only [List.getElem_toArray, List.getElem_cons_zero, List.getElem_cons_succ]; go_simp; (try with_reducible rfl))
            try simp only [List.getElem_toArray, List.getElem_cons_zero, List.getElem_cons_succ]
            try simp only [Act.put, List.setIfInBounds_toArray, List.set_cons_zero, List.set_cons_succ]
            refine' wpAnyH_take (i := 14) (v := _) rfl (by kernel_rfl) (by kernel_rfl) (by kernel_rfl) (fun _ _ _ h => h) (Or.inl ⟨by rfl, ?hy81⟩) (by assumption) ?rest81
            case hy81 => (intro w hSw; (try dsimp only at hSw); try simp only [List.getElem_toArray, List.getElem_cons_zero, List.getElem_cons_succ]; go_simp; (try with_reducible rfl))
            try simp only [List.getElem_toArray, List.getElem_cons_zero, List.getElem_cons_succ]
            try simp only [Act.put, List.setIfInBounds_toArray, List.set_cons_zero, List.set_cons_succ]
            refine' wpAnyH_take (i := 15) (v := _) rfl (by kernel_rfl) (by kernel_rfl) (by kernel_rfl) (fun _ _ _ h => h) (Or.inl ⟨by rfl, ?hy82⟩) (by assumption) ?rest82
            case hy82 => (intro w hSw; (try dsimp only at hSw); try simp only [List.getElem_toArray, List.getElem_cons_zero, List.getElem_cons_succ]; go_simp; (try with_reducible rfl))
            try simp only [List.getElem_toArray, List.getElem_cons_zero, List.getElem_cons_succ]
            try simp only [Act.put, List.setIfInBounds_toArray, List.set_cons_zero, List.set_cons_succ]
            refine' wpAnyH_take (i := 16) (v := _) rfl (by kernel_rfl) (by kernel_rfl) (by kernel_rfl) (fun _ _ _ h => h) (Or.inl ⟨by rfl, ?hy83⟩) (by assumption) ?rest83
            case hy83 => (intro w hSw; (try dsimp only at hSw); try simp only [List.getElem_toArray, List.getElem_cons_zero, List.getElem_cons_succ]; go_simp; (try with_reducible rfl))
            try simp only [List.getElem_toArray, List.getElem_cons_zero, List.getElem_cons_succ]
            try simp only [Act.put, List.setIfInBounds_toArray, List.set_cons_zero, List.set_cons_succ]
            refine' wpAnyH_take (i := 17) (v := _) rfl (by kernel_rfl) (by kernel_rfl) (by kernel_rfl) (fun _ _ _ h => h) (Or.inl ⟨by rfl, ?hy84⟩) (by assumption) ?rest84
            case hy84 => (intro w hSw; (try dsimp only at hSw); try simp only [List.getElem_toArray, List.getElem_cons_zero, List.getElem_cons_succ]; go_simp; (try with_reducible rfl))
            try simp only [List.getElem_toArray, List.getElem_cons_zero, List.getElem_cons_succ]
            try simp only [Act.put, List.setIfInBounds_toArray, List.set_cons_zero, List.set_cons_succ]
            refine' wpAnyH_take (i := 19) (v := _) rfl (by kernel_rfl) (by kernel_rfl) (by kernel_rfl) (fun _ _ _ h => h) (Or.inl ⟨by rfl, ?hy85⟩) (by assumption) ?rest85
            case hy85 => (intro w hSw; (try dsimp only at hSw); try simp only [List.getElem_toArray, List.getElem_cons_zero, List.getElem_cons_succ]; go_simp; (try with_reducible rfl))
            try simp only [List.getElem_toArray, List.getElem_cons_zero, List.getElem_cons_succ]
            try simp only [Act.put, List.setIfInBounds_toArray, List.set_cons_zero, List.set_cons_succ]
            refine' wpAnyH_take (i := 21) (v := _) rfl (by kernel_rfl) (by kernel_rfl) (by kernel_rfl) (fun _ _ _ h => h) (Or.inl ⟨by rfl, ?hy86⟩) (by assumption) ?rest86
            case hy86 => (intro w hSw; (try dsimp only at hSw); try simp only [List.getElem_toArray, List.getElem_cons_zero, List.getElem_cons_succ]; go_simp; (try with_reducible rfl))
            try simp only [List.getElem_toArray, List.getElem_cons_zero, List.getElem_cons_succ]
            try simp only [Act.put, List.setIfInBounds_toArray, List.set_cons_zero, List.set_cons_succ]
            refine wpAnyH_ready (rs := [18]) (by kernel_rfl) (by simp) ?_
            refine AllReadyH.cons rfl (fun K hK => ?_) AllReadyH.nil
            try simp only [List.getElem_toArray, List.getElem_cons_zero, List.getElem_cons_succ]
            go_simp
            with_reducible refine (quo_q (HX.out.a.mono (l := 700) (by omega)) (HX.out.b.mono (l := 700) (by omega)) (by omega) (by omega) q1 HE_q1.out).mono ?_
            rintro e w42 ⟨s_x1, A_x1, n_x1, c_x1, t_x1, B_x1, m_x1, d_x1, rfl, h_x1, hbx⟩
            replace HX := Lib.hid (HX.out.below hbx)
            have H_x1 := Lib.hid h_x1
            clear hbx
            refine hK.out _ _ (by with_reducible exact HX.out.keep) (fun hHeld => ?_)
            clear hK K
            try simp only [Act.put, List.setIfInBounds_toArray, List.set_cons_zero, List.set_cons_succ]
            refine wpAnyH_ready (rs := [20]) (by kernel_rfl) (by simp) ?_
            refine AllReadyH.cons rfl (fun K hK => ?_) AllReadyH.nil
            try simp only [List.getElem_toArray, List.getElem_cons_zero, List.getElem_cons_succ]
            go_simp
            with_reducible refine (mul_q (H_x1.out.isq (k := 700) (Nat.le_trans HL_q1.out (by omega))) (HX.out.b.mono (l := 700) (by omega)) (by omega) (by omega) m9 HE_m9.out).mono ?_
            rintro e w43 ⟨s_x2, A_x2, n_x2, c_x2, t_x2, B_x2, m_x2, d_x2, rfl, h_x2, hbx⟩
            replace HX := Lib.hid (HX.out.below hbx)
            replace H_x1 := Lib.hid (H_x1.out.below hbx)
            have H_x2 := Lib.hid h_x2
            clear hbx
            refine hK.out _ _ (by with_reducible exact HX.out.keep) (fun hHeld => ?_)
            clear hK K
            try simp only [Act.put, List.setIfInBounds_toArray, List.set_cons_zero, List.set_cons_succ]
            refine wpAnyH_ready (rs := [22]) (by kernel_rfl) (by simp) ?_
            refine AllReadyH.cons rfl (fun K hK => ?_) AllReadyH.nil
            try simp only [List.getElem_toArray, List.getElem_cons_zero, List.getElem_cons_succ]
            go_simp
            with_reducible refine (norm_q (HX.out.a.mono (l := 700) (by omega)) (by omega) (by omega)).mono ?_
            rintro e w44 ⟨s_x3, A_x3, n_x3, c_x3, t_x3, B_x3, m_x3, d_x3, rfl, h_x3, hbx⟩
            replace HX := Lib.hid (HX.out.below hbx)
            replace H_x1 := Lib.hid (H_x1.out.below hbx)
            replace H_x2 := Lib.hid (H_x2.out.below hbx)
            have H_x3 := Lib.hid h_x3
            clear hbx
            refine hK.out _ _ (by with_reducible exact HX.out.keep) (fun hHeld => ?_)
            clear hK K
            try simp only [Act.put, List.setIfInBounds_toArray, List.set_cons_zero, List.set_cons_succ]
            refine wpAnyH_ready (rs := [23]) (by kernel_rfl) (by simp) ?_
            refine AllReadyH.cons rfl (fun K hK => ?_) AllReadyH.nil
            try simp only [List.getElem_toArray, List.getElem_cons_zero, List.getElem_cons_succ]
            go_simp
            with_reducible refine (rat_t H_x2.out H_x3.out (Nat.le_trans HL_m9.out (by omega)) HG1.out).mono ?_
            rintro e w45 ⟨rfl, hbx⟩
            replace HX := Lib.hid (HX.out.below hbx)
            replace H_x1 := Lib.hid (H_x1.out.below hbx)
            replace H_x2 := Lib.hid (H_x2.out.below hbx)
            replace H_x3 := Lib.hid (H_x3.out.below hbx)
            clear hbx
            refine hK.out _ _ (by with_reducible exact HX.out.keep) (fun hHeld => ?_)
            clear hK K
            try simp only [Act.put, List.setIfInBounds_toArray, List.set_cons_zero, List.set_cons_succ]
            refine' wpAnyH_take (i := 24) (v := _) rfl (by kernel_rfl) (by kernel_rfl) (by kernel_rfl) (fun _ _ _ h => h) (Or.inl ⟨by rfl, ?hy87⟩) (by assumption) ?rest87
            case hy87 => (intro w hSw; (try dsimp only at hSw); try simp only [List.getElem_toArray, List.getElem_cons_zero, List.getElem_cons_succ]; go_simp; (try with_reducible rfl))
            try simp only [List.getElem_toArray, List.getElem_cons_zero, List.getElem_cons_succ]
            try simp only [Act.put, List.setIfInBounds_toArray, List.set_cons_zero, List.set_cons_succ]
            refine' wpAnyH_take (i := 25) (v := _) rfl (by kernel_rfl) (by kernel_rfl) (by kernel_rfl) (fun _ _ _ h => h) (Or.inl ⟨by rfl, ?hy88⟩) (by assumption) ?rest88
            case hy88 => (intro w hSw; (try dsimp only at hSw); try simp only [List.getElem_toArray, List.getElem_cons_zero, List.getElem_cons_succ]; go_simp; (try with_reducible rfl))
            try simp only [List.getElem_toArray, List.getElem_cons_zero, List.getElem_cons_succ]
            try simp only [Act.put, List.setIfInBounds_toArray, List.set_cons_zero, List.set_cons_succ]
            refine' wpAnyH_take (i := 26) (v := _) rfl (by kernel_rfl) (by kernel_rfl) (by kernel_rfl) (fun _ _ _ h => h) (Or.inl ⟨by rfl, ?hy89⟩) (by assumption) ?rest89
            case hy89 => (intro w hSw; (try dsimp only at hSw); try simp only [List.getElem_toArray, List.getElem_cons_zero, List.getElem_cons_succ]; go_simp; (try with_reducible rfl))
            try simp only [List.getElem_toArray, List.getElem_cons_zero, List.getElem_cons_succ]
            try simp only [Act.put, List.setIfInBounds_toArray, List.set_cons_zero, List.set_cons_succ]
            refine' wpAnyH_take (i := 27) (v := _) rfl (by kernel_rfl) (by kernel_rfl) (by kernel_rfl) (fun _ _ _ h => h) (Or.inl ⟨by rfl, ?hy90⟩) (by assumption) ?rest90
            case hy90 => (intro w hSw; (try dsimp only at hSw); try simp only [List.getElem_toArray, List.getElem_cons_zero, List.getElem_cons_succ]; go_simp; (try with_reducible rfl))
            try simp only [List.getElem_toArray, List.getElem_cons_zero, List.getElem_cons_succ]
            try simp only [Act.put, List.setIfInBounds_toArray, List.set_cons_zero, List.set_cons_succ]
            refine' wpAnyH_take (i := 28) (v := _) rfl (by kernel_rfl) (by kernel_rfl) (by kernel_rfl) (fun _ _ _ h => h) (Or.inl ⟨by rfl, ?hy91⟩) (by assumption) ?rest91
            case hy91 => (intro w hSw; (try dsimp only at hSw); try simp only [List.getElem_toArray, List.getElem_cons_zero, List.getElem_cons_succ]; go_simp; (try with_reducible rfl))
            try simp only [List.getElem_toArray, List.getElem_cons_zero, List.getElem_cons_succ]
            try simp only [Act.put, List.setIfInBounds_toArray, List.set_cons_zero, List.set_cons_succ]
            refine' wpAnyH_take (i := 30) (v := _) rfl (by kernel_rfl) (by kernel_rfl) (by kernel_rfl) (fun _ _ _ h => h) (Or.inl ⟨by rfl, ?hy92⟩) (by assumption) ?rest92
            case hy92 => (intro w hSw; (try dsimp only at hSw); try simp only [List.getElem_toArray, List.getElem_cons_zero, List.getElem_cons_succ]; go_simp; (try with_reducible rfl))
            try simp only [List.getElem_toArray, List.getElem_cons_zero, List.getElem_cons_succ]
            try simp only [Act.put, List.setIfInBounds_toArray, List.set_cons_zero, List.set_cons_succ]
            refine' wpAnyH_take (i := 32) (v := _) rfl (by kernel_rfl) (by kernel_rfl) (by kernel_rfl) (fun _ _ _ h => h) (Or.inl ⟨by rfl, ?hy93⟩) (by assumption) ?rest93
            case hy93 => (intro w hSw; (try dsimp only at hSw); try simp only [List.getElem_toArray, List.getElem_cons_zero, List.getElem_cons_succ]; go_simp; (try with_reducible rfl))
            try simp only [List.getElem_toArray, List.getElem_cons_zero, List.getElem_cons_succ]
            try simp only [Act.put, List.setIfInBounds_toArray, List.set_cons_zero, List.set_cons_succ]
            refine wpAnyH_ready (rs := [29]) (by kernel_rfl) (by simp) ?_
            refine AllReadyH.cons rfl (fun K hK => ?_) AllReadyH.nil
            try simp only [List.getElem_toArray, List.getElem_cons_zero, List.getElem_cons_succ]
            go_simp
            with_reducible refine (mul_q (HX.out.a.mono (l := 700) (by omega)) (HX.out.b.mono (l := 700) (by omega)) (by omega) (by omega) m1 HE_m1.out).mono ?_
            rintro e w46 ⟨s_x4, A_x4, n_x4, c_x4, t_x4, B_x4, m_x4, d_x4, rfl, h_x4, hbx⟩
            replace HX := Lib.hid (HX.out.below hbx)
            have H_x4 := Lib.hid h_x4
            clear hbx
            refine hK.out _ _ (by with_reducible exact HX.out.keep) (fun hHeld => ?_)
            clear hK K
            try simp only [Act.put, List.setIfInBounds_toArray, List.set_cons_zero, List.set_cons_succ]
            refine wpAnyH_ready (rs := [31]) (by kernel_rfl) (by simp) ?_
            refine AllReadyH.cons rfl (fun K hK => ?_) AllReadyH.nil
            try simp only [List.getElem_toArray, List.getElem_cons_zero, List.getElem_cons_succ]
            go_simp
            with_reducible refine (quo_q (H_x4.out.isq (k := 700) (Nat.le_trans HL_m1.out (by omega))) (HX.out.b.mono (l := 700) (by omega)) (by omega) (by omega) q2 HE_q2.out).mono ?_
            rintro e w47 ⟨s_x5, A_x5, n_x5, c_x5, t_x5, B_x5, m_x5, d_x5, rfl, h_x5, hbx⟩
            replace HX := Lib.hid (HX.out.below hbx)
            replace H_x4 := Lib.hid (H_x4.out.below hbx)
            have H_x5 := Lib.hid h_x5
            clear hbx
            refine hK.out _ _ (by with_reducible exact HX.out.keep) (fun hHeld => ?_)
            clear hK K
            try simp only [Act.put, List.setIfInBounds_toArray, List.set_cons_zero, List.set_cons_succ]
            refine wpAnyH_ready (rs := [33]) (by kernel_rfl) (by simp) ?_
            refine AllReadyH.cons rfl (fun K hK => ?_) AllReadyH.nil
            try simp only [List.getElem_toArray, List.getElem_cons_zero, List.getElem_cons_succ]
            go_simp
            with_reducible refine (norm_q (HX.out.a.mono (l := 700) (by omega)) (by omega) (by omega)).mono ?_
            rintro e w48 ⟨s_x6, A_x6, n_x6, c_x6, t_x6, B_x6, m_x6, d_x6, rfl, h_x6, hbx⟩
            replace HX := Lib.hid (HX.out.below hbx)
            replace H_x4 := Lib.hid (H_x4.out.below hbx)
            replace H_x5 := Lib.hid (H_x5.out.below hbx)
            have H_x6 := Lib.hid h_x6
            clear hbx
            refine hK.out _ _ (by with_reducible exact HX.out.keep) (fun hHeld => ?_)
            clear hK K
            try simp only [Act.put, List.setIfInBounds_toArray, List.set_cons_zero, List.set_cons_succ]
            refine wpAnyH_ready (rs := [34]) (by kernel_rfl) (by simp) ?_
            refine AllReadyH.cons rfl (fun K hK => ?_) AllReadyH.nil
            try simp only [List.getElem_toArray, List.getElem_cons_zero, List.getElem_cons_succ]
            go_simp
            with_reducible refine (rat_t H_x5.out H_x6.out (Nat.le_trans HL_q2.out (by omega)) HG2.out).mono ?_
            rintro e w49 ⟨rfl, hbx⟩
            replace HX := Lib.hid (HX.out.below hbx)
            replace H_x4 := Lib.hid (H_x4.out.below hbx)
            replace H_x5 := Lib.hid (H_x5.out.below hbx)
            replace H_x6 := Lib.hid (H_x6.out.below hbx)
            clear hbx
            refine hK.out _ _ (by with_reducible exact HX.out.keep) (fun hHeld => ?_)
            clear hK K
            try simp only [Act.put, List.setIfInBounds_toArray, List.set_cons_zero, List.set_cons_succ]
            refine' wpAnyH_take (i := 35) (v := _) rfl (by kernel_rfl) (by kernel_rfl) (by kernel_rfl) (fun _ _ _ h => h) (Or.inl ⟨by rfl, ?hy94⟩) (by assumption) ?rest94
            case hy94 => (intro w hSw; (try dsimp only at hSw); try simp only [List.getElem_toArray, List.getElem_cons_zero, List.getElem_cons_succ]; go_simp; (try with_reducible rfl))
            try simp only [List.getElem_toArray, List.getElem_cons_zero, List.getElem_cons_succ]
            try simp only [Act.put, List.setIfInBounds_toArray, List.set_cons_zero, List.set_cons_succ]
            refine' wpAnyH_take (i := 36) (v := _) rfl (by kernel_rfl) (by kernel_rfl) (by kernel_rfl) (fun _ _ _ h => h) (Or.inl ⟨by rfl, ?hy95⟩) (by assumption) ?rest95
            case hy95 => (intro w hSw; (try dsimp only at hSw); try simp only [List.getElem_toArray, List.getElem_cons_zero, List.getElem_cons_succ]; go_simp; (try with_reducible rfl))
            try simp only [List.getElem_toArray, List.getElem_cons_zero, List.getElem_cons_succ]
            try simp only [Act.put, List.setIfInBounds_toArray, List.set_cons_zero, List.set_cons_succ]
            refine' wpAnyH_take (i := 37) (v := _) rfl (by kernel_rfl) (by kernel_rfl) (by kernel_rfl) (fun _ _ _ h => h) (Or.inl ⟨by rfl, ?hy96⟩) (by assumption) ?rest96
            case hy96 => (intro w hSw; (try dsimp only at hSw); try simp only [List.getElem_toArray, List.getElem_cons_zero, List.getElem_cons_succ]; go_simp; (try with_reducible rfl))
            try simp only [List.getElem_toArray, List.getElem_cons_zero, List.getElem_cons_succ]
            try simp only [Act.put, List.setIfInBounds_toArray, List.set_cons_zero, List.set_cons_succ]
            refine wpAnyH_done (by kernel_rfl) ?_ _
            go_wp2_with fail
            go_meet
            exact ⟨rfl, HX.out⟩
      case rest =>
        clear HX
        obtain ⟨rfl, HX⟩ := hcut
        go_upto_region 7 with fail
        as_aux_lemma =>
          replace HX := Lib.hid HX.out.drew
          refine wp_region_held_drew (S := (fun V => V.cell? ⟨w.heap.size, 0, none⟩ = some (.bool sa) ∧ V.cell? ⟨w.heap.size, 1, none⟩ = some (.slice Aa na ca) ∧ V.cell? ⟨w.heap.size, 2, none⟩ = some (.bool ta) ∧ V.cell? ⟨w.heap.size, 3, none⟩ = some (.slice Ba ma da) ∧ V.cell? ⟨w.heap.size + 1, 0, none⟩ = some (.bool sb) ∧ V.cell? ⟨w.heap.size + 1, 1, none⟩ = some (.slice Ab nb cb) ∧ V.cell? ⟨w.heap.size + 1, 2, none⟩ = some (.bool tb) ∧ V.cell? ⟨w.heap.size + 1, 3, none⟩ = some (.slice Bb mb db) ∧ V.cell? ⟨w.heap.size + 1 + 1, 0, none⟩ = some (.bool sc) ∧ V.cell? ⟨w.heap.size + 1 + 1, 1, none⟩ = some (.slice Ac nc cc) ∧ V.cell? ⟨w.heap.size + 1 + 1, 2, none⟩ = some (.bool tc) ∧ V.cell? ⟨w.heap.size + 1 + 1, 3, none⟩ = some (.slice Bc mc dc))) (by kernel_rfl) (by with_reducible exact HX.out.keep) (fun hHeld => ?_)
          refine' wpAnyH_take (i := 0) (v := _) rfl (by kernel_rfl) (by kernel_rfl) (by kernel_rfl) (fun _ _ _ h => h) (Or.inl ⟨by rfl, ?hy97⟩) (by assumption) ?rest97
          case hy97 => (intro w hSw; (try dsimp only at hSw); try simp only [List.getElem_toArray, List.getElem_cons_zero]; go_simp; (try with_reducible rfl))
          try simp only [List.getElem_toArray, List.getElem_cons_zero]
          try simp only [Act.put, List.setIfInBounds_toArray, List.set_cons_zero, List.set_cons_succ]
          refine' wpAnyH_take (i := 1) (v := _) rfl (by kernel_rfl) (by kernel_rfl) (by kernel_rfl) (fun _ _ _ h => h) (Or.inl ⟨by rfl, ?hy98⟩) (by assumption) ?rest98
          case hy98 => (intro w hSw; (try dsimp only at hSw); try simp only [List.getElem_toArray, List.getElem_cons_zero, List.getElem_cons_succ]; go_simp; (try with_reducible rfl))
          try simp only [List.getElem_toArray, List.getElem_cons_zero, List.getElem_cons_succ]
          try simp only [Act.put, List.setIfInBounds_toArray, List.set_cons_zero, List.set_cons_succ]
          refine' wpAnyH_take (i := 2) (v := _) rfl (by kernel_rfl) (by kernel_rfl) (by kernel_rfl) (fun _ _ _ h => h) (Or.inl ⟨by rfl, ?hy99⟩) (by assumption) ?rest99
          case hy99 => (intro w hSw; (try dsimp only at hSw); try simp only [List.getElem_toArray, List.getElem_cons_zero, List.getElem_cons_succ]; go_simp; (try with_reducible rfl))
          try simp only [List.getElem_toArray, List.getElem_cons_zero, List.getElem_cons_succ]
          try simp only [Act.put, List.setIfInBounds_toArray, List.set_cons_zero, List.set_cons_succ]
          refine' wpAnyH_take (i := 3) (v := _) rfl (by kernel_rfl) (by kernel_rfl) (by kernel_rfl) (fun _ _ _ h => h) (Or.inl ⟨by rfl, ?hy100⟩) (by assumption) ?rest100
          case hy100 => (intro w hSw; (try dsimp only at hSw); try simp only [List.getElem_toArray, List.getElem_cons_zero, List.getElem_cons_succ]; go_simp; (try with_reducible rfl))
          try simp only [List.getElem_toArray, List.getElem_cons_zero, List.getElem_cons_succ]
          try simp only [Act.put, List.setIfInBounds_toArray, List.set_cons_zero, List.set_cons_succ]
          refine' wpAnyH_take (i := 4) (v := _) rfl (by kernel_rfl) (by kernel_rfl) (by kernel_rfl) (fun _ _ _ h => h) (Or.inl ⟨by rfl, ?hy101⟩) (by assumption) ?rest101
          case hy101 => (intro w hSw; (try dsimp only at hSw); try simp only [List.getElem_toArray, List.getElem_cons_zero, List.getElem_cons_succ]; go_simp; (try with_reducible rfl))
          try simp only [List.getElem_toArray, List.getElem_cons_zero, List.getElem_cons_succ]
          try simp only [Act.put, List.setIfInBounds_toArray, List.set_cons_zero, List.set_cons_succ]
          refine' wpAnyH_take (i := 5) (v := _) rfl (by kernel_rfl) (by kernel_rfl) (by kernel_rfl) (fun _ _ _ h => h) (Or.inl ⟨by rfl, ?hy102⟩) (by assumption) ?rest102
          case hy102 => (intro w hSw; (try dsimp only at hSw); try simp only [List.getElem_toArray, List.getElem_cons_zero, List.getElem_cons_succ]; go_simp; (try with_reducible rfl))
          try simp only [List.getElem_toArray, List.getElem_cons_zero, List.getElem_cons_succ]
          try simp only [Act.put, List.setIfInBounds_toArray, List.set_cons_zero, List.set_cons_succ]
          refine' wpAnyH_take (i := 6) (v := _) rfl (by kernel_rfl) (by kernel_rfl) (by kernel_rfl) (fun _ _ _ h => h) (Or.inl ⟨by rfl, ?hy103⟩) (by assumption) ?rest103
          case hy103 => (intro w hSw; (try dsimp only at hSw); try simp only [List.getElem_toArray, List.getElem_cons_zero, List.getElem_cons_succ]; go_simp; (try with_reducible rfl))
          try simp only [List.getElem_toArray, List.getElem_cons_zero, List.getElem_cons_succ]
          try simp only [Act.put, List.setIfInBounds_toArray, List.set_cons_zero, List.set_cons_succ]
          refine' wpAnyH_take (i := 7) (v := _) rfl (by kernel_rfl) (by kernel_rfl) (by kernel_rfl) (fun _ _ _ h => h) (Or.inl ⟨by rfl, ?hy104⟩) (by assumption) ?rest104
          case hy104 => (intro w hSw; (try dsimp only at hSw); try simp only [List.getElem_toArray, List.getElem_cons_zero, List.getElem_cons_succ]; go_simp; (try with_reducible rfl))
          try simp only [List.getElem_toArray, List.getElem_cons_zero, List.getElem_cons_succ]
          try simp only [Act.put, List.setIfInBounds_toArray, List.set_cons_zero, List.set_cons_succ]
          refine' wpAnyH_take (i := 8) (v := _) rfl (by kernel_rfl) (by kernel_rfl) (by kernel_rfl) (fun _ _ _ h => h) (Or.inl ⟨by rfl, ?hy105⟩) (by assumption) ?rest105
          case hy105 => (intro w hSw; (try dsimp only at hSw); try simp only [List.getElem_toArray, List.getElem_cons_zero, List.getElem_cons_succ]; go_simp; (try with_reducible rfl))
          try simp only [List.getElem_toArray, List.getElem_cons_zero, List.getElem_cons_succ]
          try simp only [Act.put, List.setIfInBounds_toArray, List.set_cons_zero, List.set_cons_succ]
          refine' wpAnyH_take (i := 9) (v := _) rfl (by kernel_rfl) (by kernel_rfl) (by kernel_rfl) (fun _ _ _ h => h) (Or.inl ⟨by rfl, ?hy106⟩) (by assumption) ?rest106
          case hy106 => (intro w hSw; (try dsimp only at hSw); try simp only [List.getElem_toArray, List.getElem_cons_zero, List.getElem_cons_succ]; go_simp; (try with_reducible rfl))
          try simp only [List.getElem_toArray, List.getElem_cons_zero, List.getElem_cons_succ]
          try simp only [Act.put, List.setIfInBounds_toArray, List.set_cons_zero, List.set_cons_succ]
          refine' wpAnyH_take (i := 11) (v := _) rfl (by kernel_rfl) (by kernel_rfl) (by kernel_rfl) (fun _ _ _ h => h) (Or.inl ⟨by rfl, ?hy107⟩) (by assumption) ?rest107
          case hy107 => (intro w hSw; (try dsimp only at hSw); try simp only [List.getElem_toArray, List.getElem_cons_zero, List.getElem_cons_succ]; go_simp; (try with_reducible rfl))
          try simp only [List.getElem_toArray, List.getElem_cons_zero, List.getElem_cons_succ]
          try simp only [Act.put, List.setIfInBounds_toArray, List.set_cons_zero, List.set_cons_succ]
          refine' wpAnyH_take (i := 12) (v := _) rfl (by kernel_rfl) (by kernel_rfl) (by kernel_rfl) (fun _ _ _ h => h) (Or.inl ⟨by rfl, ?hy108⟩) (by assumption) ?rest108
          case hy108 => (intro w hSw; (try dsimp only at hSw); try simp only [List.getElem_toArray, List.getElem_cons_zero, List.getElem_cons_succ]; go_simp; (try with_reducible rfl))
          try simp only [List.getElem_toArray, List.getElem_cons_zero, List.getElem_cons_succ]
          try simp only [Act.put, List.setIfInBounds_toArray, List.set_cons_zero, List.set_cons_succ]
          refine' wpAnyH_take (i := 14) (v := _) rfl (by kernel_rfl) (by kernel_rfl) (by kernel_rfl) (fun _ _ _ h => h) (Or.inl ⟨by rfl, ?hy109⟩) (by assumption) ?rest109
          case hy109 => (intro w hSw; (try dsimp only at hSw); try simp only [List.getElem_toArray, List.getElem_cons_zero, List.getElem_cons_succ]; go_simp; (try with_reducible rfl))
          try simp only [List.getElem_toArray, List.getElem_cons_zero, List.getElem_cons_succ]
          try simp only [Act.put, List.setIfInBounds_toArray, List.set_cons_zero, List.set_cons_succ]
          refine wpAnyH_ready (rs := [10]) (by kernel_rfl) (by simp) ?_
          refine AllReadyH.cons rfl (fun K hK => ?_) AllReadyH.nil
          try simp only [List.getElem_toArray, List.getElem_cons_zero, List.getElem_cons_succ]
          go_simp
          with_reducible refine (same_q (HX.out.a.mono (l := 700) (by omega)) (HX.out.b.mono (l := 700) (by omega)) (by omega) (by omega) (vs) HVS.out).mono ?_
          rintro e w50 ⟨rfl, hbx⟩
          replace HX := Lib.hid (HX.out.below hbx)
          clear hbx
          refine hK.out _ _ (by with_reducible exact HX.out.keep) (fun hHeld => ?_)
          clear hK K
          try simp only [Act.put, List.setIfInBounds_toArray, List.set_cons_zero, List.set_cons_succ]
          refine wpAnyH_ready (rs := [13]) (by kernel_rfl) (by simp) ?_
          refine AllReadyH.cons rfl (fun K hK => ?_) AllReadyH.nil
          try simp only [List.getElem_toArray, List.getElem_cons_zero, List.getElem_cons_succ]
          go_simp
          with_reducible refine (norm_q (HX.out.a.mono (l := 700) (by omega)) (by omega) (by omega)).mono ?_
          rintro e w51 ⟨s_x1, A_x1, n_x1, c_x1, t_x1, B_x1, m_x1, d_x1, rfl, h_x1, hbx⟩
          replace HX := Lib.hid (HX.out.below hbx)
          have H_x1 := Lib.hid h_x1
          clear hbx
          refine hK.out _ _ (by with_reducible exact HX.out.keep) (fun hHeld => ?_)
          clear hK K
          try simp only [Act.put, List.setIfInBounds_toArray, List.set_cons_zero, List.set_cons_succ]
          refine wpAnyH_ready (rs := [15]) (by kernel_rfl) (by simp) ?_
          refine AllReadyH.cons rfl (fun K hK => ?_) AllReadyH.nil
          try simp only [List.getElem_toArray, List.getElem_cons_zero, List.getElem_cons_succ]
          go_simp
          with_reducible refine (norm_q (HX.out.b.mono (l := 700) (by omega)) (by omega) (by omega)).mono ?_
          rintro e w52 ⟨s_x2, A_x2, n_x2, c_x2, t_x2, B_x2, m_x2, d_x2, rfl, h_x2, hbx⟩
          replace HX := Lib.hid (HX.out.below hbx)
          replace H_x1 := Lib.hid (H_x1.out.below hbx)
          have H_x2 := Lib.hid h_x2
          clear hbx
          refine hK.out _ _ (by with_reducible exact HX.out.keep) (fun hHeld => ?_)
          clear hK K
          try simp only [Act.put, List.setIfInBounds_toArray, List.set_cons_zero, List.set_cons_succ]
          refine wpAnyH_ready (rs := [16]) (by kernel_rfl) (by simp) ?_
          refine AllReadyH.cons rfl (fun K hK => ?_) AllReadyH.nil
          try simp only [List.getElem_toArray, List.getElem_cons_zero, List.getElem_cons_succ]
          go_simp
          with_reducible refine (rat_j H_x1.out H_x2.out (Nat.le_trans HL_p.out (by omega)) vs HVS.out).mono ?_
          rintro e w53 ⟨rfl, hbx⟩
          replace HX := Lib.hid (HX.out.below hbx)
          replace H_x1 := Lib.hid (H_x1.out.below hbx)
          replace H_x2 := Lib.hid (H_x2.out.below hbx)
          clear hbx
          refine hK.out _ _ (by with_reducible exact HX.out.keep) (fun hHeld => ?_)
          clear hK K
          try simp only [Act.put, List.setIfInBounds_toArray, List.set_cons_zero, List.set_cons_succ]
          refine' wpAnyH_take (i := 17) (v := _) rfl (by kernel_rfl) (by kernel_rfl) (by kernel_rfl) (fun _ _ _ h => h) (Or.inl ⟨by rfl, ?hy110⟩) (by assumption) ?rest110
          case hy110 => (intro w hSw; (try dsimp only at hSw); try simp only [List.getElem_toArray, List.getElem_cons_zero, List.getElem_cons_succ]; go_simp; (try with_reducible rfl))
          try simp only [List.getElem_toArray, List.getElem_cons_zero, List.getElem_cons_succ]
          try simp only [Act.put, List.setIfInBounds_toArray, List.set_cons_zero, List.set_cons_succ]
          refine' wpAnyH_take (i := 18) (v := _) rfl (by kernel_rfl) (by kernel_rfl) (by kernel_rfl) (fun _ _ _ h => h) (Or.inl ⟨by rfl, ?hy111⟩) (by assumption) ?rest111
          case hy111 => (intro w hSw; (try dsimp only at hSw); try simp only [List.getElem_toArray, List.getElem_cons_zero, List.getElem_cons_succ]; go_simp; (try with_reducible rfl))
          try simp only [List.getElem_toArray, List.getElem_cons_zero, List.getElem_cons_succ]
          try simp only [Act.put, List.setIfInBounds_toArray, List.set_cons_zero, List.set_cons_succ]
          refine' wpAnyH_take (i := 19) (v := _) rfl (by kernel_rfl) (by kernel_rfl) (by kernel_rfl) (fun _ _ _ h => h) (Or.inl ⟨by rfl, ?hy112⟩) (by assumption) ?rest112
          case hy112 => (intro w hSw; (try dsimp only at hSw); try simp only [List.getElem_toArray, List.getElem_cons_zero, List.getElem_cons_succ]; go_simp; (try with_reducible rfl))
          try simp only [List.getElem_toArray, List.getElem_cons_zero, List.getElem_cons_succ]
          try simp only [Act.put, List.setIfInBounds_toArray, List.set_cons_zero, List.set_cons_succ]
          refine wpAnyH_ready (rs := [20]) (by kernel_rfl) (by simp) ?_
          refine AllReadyH.cons rfl (fun K hK => ?_) AllReadyH.nil
          try simp only [List.getElem_toArray, List.getElem_cons_zero, List.getElem_cons_succ]
          go_simp
          with_reducible refine (awake_q _ (HT.out.below HX.out.bel)).mono ?_
          rintro e w54 ⟨rfl, hbx⟩
          replace HX := Lib.hid (HX.out.below hbx)
          clear hbx
          refine hK.out _ _ (by with_reducible exact HX.out.keep) (fun hHeld => ?_)
          clear hK K
          try simp only [Act.put, List.setIfInBounds_toArray, List.set_cons_zero, List.set_cons_succ]
          refine' wpAnyH_take (i := 21) (v := _) rfl (by kernel_rfl) (by kernel_rfl) (by kernel_rfl) (fun _ _ _ h => h) (Or.inl ⟨by rfl, ?hy113⟩) (by assumption) ?rest113
          case hy113 => (intro w hSw; (try dsimp only at hSw); try simp only [List.getElem_toArray, List.getElem_cons_zero, List.getElem_cons_succ]; go_simp; (try with_reducible rfl))
          try simp only [List.getElem_toArray, List.getElem_cons_zero, List.getElem_cons_succ]
          try simp only [Act.put, List.setIfInBounds_toArray, List.set_cons_zero, List.set_cons_succ]
          refine' wpAnyH_take (i := 22) (v := _) rfl (by kernel_rfl) (by kernel_rfl) (by kernel_rfl) (fun _ _ _ h => h) (Or.inl ⟨by rfl, ?hy114⟩) (by assumption) ?rest114
          case hy114 => (intro w hSw; (try dsimp only at hSw); try simp only [List.getElem_toArray, List.getElem_cons_zero, List.getElem_cons_succ]; go_simp; (try with_reducible rfl))
          try simp only [List.getElem_toArray, List.getElem_cons_zero, List.getElem_cons_succ]
          try simp only [Act.put, List.setIfInBounds_toArray, List.set_cons_zero, List.set_cons_succ]
          refine wpAnyH_done (by kernel_rfl) ?_ _
          go_wp2_with fail
          go_ret
          exact ⟨rfl, HX.out.bel⟩
end Go.Proofs.YtngkmkbpcejkeaaGreatDoor.Q