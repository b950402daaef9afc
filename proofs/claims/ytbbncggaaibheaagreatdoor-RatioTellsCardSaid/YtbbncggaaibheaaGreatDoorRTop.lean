/- RTop: several texts in one. -/
import Derived.Test.YtbbncggaaibheaaGreatDoorQTop
import Derived.Test.YtbbncggaaibheaaGreatDoorPTop
import Derived.Test.YtbbncggaaibheaaGreatDoorOTop
namespace Go.Proofs.YtbbncggaaibheaaGreatDoor.Q
open Go.RowKit
open Go.Proofs.YtbbncggaaibheaaGreatDoor.D (textOf parseV Tab RetS)
open List renaming getElem_toArray → gT, getElem_cons_zero → gZ, getElem_cons_succ → gS, setIfInBounds_toArray → sT, set_cons_zero → sZ, set_cons_succ → sS
theorem tk {P : Program} {ops : Array Oper} {Q : Exit → Act → World → Prop} {md : Region.Mode} {S : World → Prop} (i : Nat) {oi : Oper} {v : Value} {fuel : Nat} {listed : Array Bool} {a : Act} {w : World} (h : wpAnyH P md ops Q S fuel (listed.setIfInBounds i true) (a.put oi.dst v) w) (hi : ops[i]? = some oi := by exact rfl) (hs : Region.noSelect ops = true := by kernel_rfl) (hf : Region.free md ops listed i = true := by kernel_rfl) (hr : (Region.ready md ops listed).contains i = true := by kernel_rfl) (hQ : ∀ c a w, Q (.panic c) (a.put oi.dst v) w → Q (.panic c) a w := by exact fun _ _ _ h => h) (hw : Region.wanted oi (yielded ops a.tmps) = true := by rfl) (hy : ∀ w, S w → (execOp a.eval oi).run P w = .ok (.value v) w := by (intro w hSw; (try dsimp only at hSw); try simp only [gT, gZ, gS]; go_simp; (try with_reducible rfl))) (hS : S w := by assumption) : wpAnyH P md ops Q S (fuel + 1) listed a w :=
 wpAnyH_take hi hs hf hr hQ (Or.inl ⟨hw, hy⟩) hS h
theorem r1 {P : Program} {ops : Array Oper} {Q : Exit → Act → World → Prop} {md : Region.Mode} {S : World → Prop} (i : Nat) {o : Oper} {fuel : Nat} {listed : Array Bool} {a : Act} {w : World} (h : ∀ K' : Act → World → Prop, Shut (∀ a w, S w → (S w → wpAnyH P md ops Q S fuel (listed.setIfInBounds i true) a w) → K' a w) → if Region.wanted o (yielded ops a.tmps) = true then Oper.wp P o a w K' Q else K' (a.put o.dst undef) w) (ho : ops[i]? = some o := by exact rfl) (hr : Region.ready md ops listed = [i] := by kernel_rfl) : wpAnyH P md ops Q S (fuel + 1) listed a w :=
 wpAnyH_ready hr (by simp) (AllReadyH.cons ho h AllReadyH.nil)
set_option maxRecDepth 100000 in
set_option maxHeartbeats 24000000 in
theorem tells_core (w : World) (sa : Bool) (Aa : Option Addr) (na ca : Nat) (ta : Bool) (Ba : Option Addr) (ma da : Nat) (sb : Bool) (Ab : Option Addr) (nb cb : Nat) (tb : Bool) (Bb : Option Addr) (mb db : Nat) (p r : Rat) (l : List UInt8) (h1 : IsQ w sa Aa na ca ta Ba ma da p 5) (h2 : IsQ w sb Ab nb cb tb Bb mb db r 5) (hA : Aa = none → ca = 0) (hA2 : Ba = none → da = 0) (hB : Ab = none → cb = 0) (hB2 : Bb = none → db = 0) (hl : l.length ≤ 1300) (htab : Tab w) :
  Calls Tryz.prog 4 #[.agg #[.bool sa, .slice Aa na ca, .bool ta, .slice Ba ma da], .agg #[.bool sb, .slice Ab nb cb, .bool tb, .slice Bb mb db], .string ⟨l.toArray⟩] w (RetB w true) := by
 have HL_p : Hid (ql p ≤ 5) := h1.ql (by omega)
 have HL_r : Hid (ql r ≤ 5) := h2.ql (by omega)
 have HT := Lib.hid htab
 have HSA : Hid (decide (na ≤ 5 ∧ ma ≤ 5) = true) := decide_eq_true ⟨h1.le, h1.le2⟩
 have HSB : Hid (decide (nb ≤ 5 ∧ mb ≤ 5) = true) := decide_eq_true ⟨h2.le, h2.le2⟩
 obtain ⟨xa, ya, xb, yb, y, z, hX⟩ := T2.start (w := w) (((Below.refl w.heap.size w).alloc (Nat.le_refl _) (.cells #[.bool sa, .slice Aa na ca, .bool ta, .slice Ba ma da] 28)).alloc (by simp) (.cells #[.bool sb, .slice Ab nb cb, .bool tb, .slice Bb mb db] 28)) ((Qbx.new _ _ rfl).alloc _) (Qbx.new _ _ (by simp)) ((h1.alloc _).alloc _) ((h2.alloc _).alloc _)
 have HX := Lib.hid hX
 have HA0 := Lib.hid hA
 have HA1 := Lib.hid hA2
 have HB0 := Lib.hid hB
 have HB1 := Lib.hid hB2
 have HYL : Hid (zl y ≤ 5) := hX.zn.zl
 have HZL : Hid (zl z ≤ 5) := hX.zd.zl
 obtain ⟨ad, he_ad⟩ : ∃ v : Rat, p + r = v := ⟨_, rfl⟩
 have HE_ad := Lib.hid he_ad
 have HL_ad : Hid (ql ad ≤ 21) := by
  show _ ≤ _
  have h := (Nat.le_trans (ql_add p r) (by have := HL_p.out; have := HL_r.out; omega) : ql (p + r) ≤ 21)
  rw [he_ad] at h
  omega
 obtain ⟨su, he_su⟩ : ∃ v : Rat, p - r = v := ⟨_, rfl⟩
 have HE_su := Lib.hid he_su
 have HL_su : Hid (ql su ≤ 21) := by
  show _ ≤ _
  have h := (Nat.le_trans (ql_sub p r) (by have := HL_p.out; have := HL_r.out; omega) : ql (p - r) ≤ 21)
  rw [he_su] at h
  omega
 obtain ⟨mu, he_mu⟩ : ∃ v : Rat, p * r = v := ⟨_, rfl⟩
 have HE_mu := Lib.hid he_mu
 have HL_mu : Hid (ql mu ≤ 10) := by
  show _ ≤ _
  have h := (Nat.le_trans (ql_mul p r) (by have := HL_p.out; have := HL_r.out; omega) : ql (p * r) ≤ 10)
  rw [he_mu] at h
  omega
 obtain ⟨qu, he_qu⟩ : ∃ v : Rat, p / r = v := ⟨_, rfl⟩
 have HE_qu := Lib.hid he_qu
 have HL_qu : Hid (ql qu ≤ 10) := by
  show _ ≤ _
  have h := (Nat.le_trans (ql_quo p r) (by have := HL_p.out; have := HL_r.out; omega) : ql (p / r) ≤ 10)
  rw [he_qu] at h
  omega
 obtain ⟨ng, he_ng⟩ : ∃ v : Rat, -p = v := ⟨_, rfl⟩
 have HE_ng := Lib.hid he_ng
 have HL_ng : Hid (ql ng ≤ 5) := by
  show _ ≤ _
  have h := (Nat.le_trans (Nat.le_of_eq (ql_neg p)) HL_p.out : ql (-p) ≤ 5)
  rw [he_ng] at h
  omega
 obtain ⟨ab, he_ab⟩ : ∃ v : Rat, (if p < 0 then -p else p) = v := ⟨_, rfl⟩
 have HE_ab := Lib.hid he_ab
 have HL_ab : Hid (ql ab ≤ 5) := by
  show _ ≤ _
  have h := (by split; exact (Nat.le_trans (Nat.le_of_eq (ql_neg p)) HL_p.out); exact HL_p.out : ql (if p < 0 then -p else p) ≤ 5)
  rw [he_ab] at h
  omega
 obtain ⟨mx, he_mx⟩ : ∃ v : Rat, (if p < r then r else p) = v := ⟨_, rfl⟩
 have HE_mx := Lib.hid he_mx
 have HL_mx : Hid (ql mx ≤ 5) := by
  show _ ≤ _
  have h := (by split; exact HL_r.out; exact HL_p.out : ql (if p < r then r else p) ≤ 5)
  rw [he_mx] at h
  omega
 obtain ⟨mn, he_mn⟩ : ∃ v : Rat, (if r < p then r else p) = v := ⟨_, rfl⟩
 have HE_mn := Lib.hid he_mn
 have HL_mn : Hid (ql mn ≤ 5) := by
  show _ ≤ _
  have h := (by split; exact HL_r.out; exact HL_p.out : ql (if r < p then r else p) ≤ 5)
  rw [he_mn] at h
  omega
 obtain ⟨mk, he_mk⟩ : ∃ v : Rat, Rat.divInt y z = v := ⟨_, rfl⟩
 have HE_mk := Lib.hid he_mk
 have HL_mk : Hid (ql mk ≤ 5) := by
  show _ ≤ _
  have h := (ql_any HYL.out HZL.out (by omega) : ql (Rat.divInt y z) ≤ 5)
  rw [he_mk] at h
  omega
 obtain ⟨wh, he_wh⟩ : ∃ v : Rat, (y : Rat) = v := ⟨_, rfl⟩
 have HE_wh := Lib.hid he_wh
 have HL_wh : Hid (ql wh ≤ 5) := by
  show _ ≤ _
  have h := ql_int y 5 HYL.out (by omega)
  rw [he_wh] at h
  omega
 obtain ⟨ec, hec⟩ : ∃ ec : Int, (if r = 0 then 10 else 0 : Int) = ec := ⟨_, rfl⟩
 have HEC := Lib.hid hec
 obtain ⟨sgb, hk_sgb⟩ : ∃ v, qsign r = v := ⟨_, rfl⟩
 have HK_sgb := Lib.hid hk_sgb
 obtain ⟨sa1, hk_sa1⟩ : ∃ v, qsign p = v := ⟨_, rfl⟩
 have HK_sa1 := Lib.hid hk_sa1
 obtain ⟨kk, hk_kk⟩ : ∃ v, qcmp p r = v := ⟨_, rfl⟩
 have HK_kk := Lib.hid hk_kk
 obtain ⟨bz, hbz⟩ : ∃ v, decide (r = 0) = v := ⟨_, rfl⟩
 have g1 : (ec == 10) = bz := by rw [← hec, ← hbz]; by_cases h : r = 0 <;> simp [h]
 have g2 : (sgb == 0) = bz := by
  rw [← hk_sgb, ← hbz]
  by_cases h : r = 0
  ·rw [decide_eq_true h, qsign_zero_iff.2 h]; rfl
  ·rw [decide_eq_false h, beq_eq_false_iff_ne]; exact fun h2 => h (qsign_zero_iff.1 h2)
 have g3 : (ec == 0) = !bz := by rw [← hec, ← hbz]; by_cases h : r = 0 <;> simp [h]
 have g4 : (sgb != 0) = !bz := by rw [bne, g2]
 obtain ⟨vb, hvb⟩ : ∃ v, decide (p = r) = v := ⟨_, rfl⟩
 have HVB := Lib.hid hvb
 have g5 : (kk == 0) = vb := by
  rw [← hk_kk, ← hvb]
  by_cases h : p = r
  ·rw [decide_eq_true h, qcmp_zero_iff.2 h]; rfl
  ·rw [decide_eq_false h, beq_eq_false_iff_ne]; exact fun h2 => h (qcmp_zero_iff.1 h2)
 obtain ⟨vw, hvw⟩ : ∃ v, decide (p.den = 1) = v := ⟨_, rfl⟩
 have HVW := Lib.hid hvw
 obtain ⟨fl, hfl⟩ : ∃ v, p.floor = v := ⟨_, rfl⟩
 obtain ⟨ce, hce⟩ : ∃ v, p.ceil = v := ⟨_, rfl⟩
 have HFL := Lib.hid hfl
 have HCE := Lib.hid hce
 have HZF : Hid (zl fl ≤ 5) := by show _ ≤ _; rw [← hfl]; exact floor_zl p 5 HL_p.out
 have HZC : Hid (zl ce ≤ 5) := by show _ ≤ _; rw [← hce]; exact ceil_zl p 5 HL_p.out
 obtain ⟨tx, htx⟩ : ∃ v, qtext p = v := ⟨_, rfl⟩
 have HTX := Lib.hid htx
 obtain ⟨pv, code, hpv⟩ : ∃ v code, qparse l = (v, code) := ⟨_, _, rfl⟩
 have HPV := Lib.hid hpv
 have HPL : Hid (ql pv ≤ 1000) := by
  have h := qparse_len l
  rw [hpv] at h
  exact h
 have HLL := Lib.hid hl
 have hl1 : ¬ (1300 : Int) < (l.length : Int) := by omega
 clear h1 h2 htab hX hA hA2 hB hB2 hec hbz hvb hvw hfl hce htx hpv hl hk_sgb hk_sa1 hk_kk he_ad he_su he_mu he_qu he_ng he_ab he_mx he_mn he_mk he_wh
 go_enter Tryz.func4, Tryz.ntmps4
 go_wp2_with fail
 refine (shortrat_j _ sa ta Aa Ba na ca ma da 5 true HSA.out).mono ?_
 rintro e w1 ⟨rfl, hbx⟩
 replace HX := Lib.hid (HX.out.below hbx)
 clear hbx
 have k0 := HX.out.i1.c0
 have j0 := HX.out.i2.c0
 have k1 := HX.out.i1.c1
 have j1 := HX.out.i2.c1
 have k2 := HX.out.i1.c2
 have j2 := HX.out.i2.c2
 have k3 := HX.out.i1.c3
 have j3 := HX.out.i2.c3
 go_wp2_with fail
 refine (shortrat_j _ sb tb Ab Bb nb cb mb db 5 true HSB.out).mono ?_
 rintro e w2 ⟨rfl, hbx⟩
 replace HX := Lib.hid (HX.out.below hbx)
 clear hbx
 clear k0 k1 k2 k3 j0 j1 j2 j3
 go_upto_region 3 with fail
 go_cut [7, 8] from 33 to 36 (fun s7 s8 wx => ∃ (gx gy : Nat) (Ax : Option Addr) (cx : Nat) (Bx : Option Addr) (dx : Nat) (Ay : Option Addr) (cy : Nat) (By : Option Addr) (dy : Nat), s7 = .pointer (some ⟨gx, 0, none⟩) ∧ s8 = .pointer (some ⟨gy, 0, none⟩) ∧ Hid (T2 w wx sa Aa na ca ta Ba ma da sb Ab nb cb tb Bb mb db xa ya xb yb y z p r) ∧ Hid (Qbx wx gx sa Ax na cx ta Bx ma dx) ∧ Hid (Qbx wx gy sb Ay nb cy tb By mb dy) ∧ Hid (Raw wx Ax na cx Bx ma dx xa ya) ∧ Hid (Raw wx Ay nb cy By mb dy xb yb))
 case first =>
  as_aux_lemma =>
   replace HX := Lib.hid HX.out.drew
   obtain ⟨W0, hW0⟩ : ∃ V, w2.drew = V := ⟨_, rfl⟩
   refine wp_region_held_drew (S := (fun V => V.cell? ⟨w.heap.size, 0, none⟩ = some (.bool sa) ∧ V.cell? ⟨w.heap.size, 1, none⟩ = some (.slice Aa na ca) ∧ V.cell? ⟨w.heap.size, 2, none⟩ = some (.bool ta) ∧ V.cell? ⟨w.heap.size, 3, none⟩ = some (.slice Ba ma da) ∧ V.cell? ⟨w.heap.size + 1, 0, none⟩ = some (.bool sb) ∧ V.cell? ⟨w.heap.size + 1, 1, none⟩ = some (.slice Ab nb cb) ∧ V.cell? ⟨w.heap.size + 1, 2, none⟩ = some (.bool tb) ∧ V.cell? ⟨w.heap.size + 1, 3, none⟩ = some (.slice Bb mb db))) (by kernel_rfl) (by with_reducible exact HX.out.keep) (fun hHeld => ?_)
   rw [hW0] at HX hHeld
   rw [hW0]
   clear hW0
   refine' tk 0 ?_
   try simp only [gT, gZ]
   try simp only [Act.put, sT, sZ, sS]
   refine' tk 2 ?_
   try simp only [gT, gZ, gS]
   try simp only [Act.put, sT, sZ, sS]
   refine wpAnyH_ready (rs := [1, 4, 5]) (by kernel_rfl) (by simp) ?_
   refine (AllReadyH.cons rfl (fun K hK => ?_) (AllReadyH.cons rfl (fun K hK => ?_) (AllReadyH.cons rfl (fun K hK => ?_) AllReadyH.nil)))
   ·try simp only [gT, gZ, gS]
    go_simp
    with_reducible refine (copy_q HX.out.ra HA0.out HA1.out (Nat.le_trans HX.out.a.le (by omega)) (Nat.le_trans HX.out.a.le2 (by omega))).mono ?_
    rintro e W1 ⟨A1, c1, B1, d1, rfl, hr, hbx⟩
    have X1 := Lib.hid (HX.out.below hbx)
    have G1_rx := Lib.hid hr
    clear hbx hr
    refine hK.out _ _ (by with_reducible exact X1.out.keep) (fun hHeld => ?_)
    clear hK K
    try simp only [Act.put, sT, sZ, sS]
    refine wpAnyH_ready (rs := [3, 4, 5]) (by kernel_rfl) (by simp) ?_
    refine (AllReadyH.cons rfl (fun K hK => ?_) (AllReadyH.cons rfl (fun K hK => ?_) (AllReadyH.cons rfl (fun K hK => ?_) AllReadyH.nil)))
    ·try simp only [gT, gZ, gS]
     go_simp
     with_reducible refine (copy_q X1.out.rb HB0.out HB1.out (Nat.le_trans X1.out.b.le (by omega)) (Nat.le_trans X1.out.b.le2 (by omega))).mono ?_
     rintro e W2 ⟨A2, c2, B2, d2, rfl, hr, hbx⟩
     have X2 := Lib.hid (X1.out.below hbx)
     have G2_rx := Lib.hid (G1_rx.out.below hbx)
     have G2_ry := Lib.hid hr
     clear hbx hr
     refine hK.out _ _ (by with_reducible exact X2.out.keep) (fun hHeld => ?_)
     clear hK K
     try simp only [Act.put, sT, sZ, sS]
     refine wpAnyH_ready (rs := [4, 5]) (by kernel_rfl) (by simp) ?_
     refine (AllReadyH.cons rfl (fun K hK => ?_) (AllReadyH.cons rfl (fun K hK => ?_) AllReadyH.nil))
     ·try simp only [gT, gZ, gS]
      go_simp
      obtain ⟨W3, hW3⟩ : ∃ V, W2.alloc (Obj.cells #[.bool false, .slice none 0 0, .bool false, .slice none 0 0] 28) = V := ⟨_, rfl⟩
      rw [hW3]
      have X3 := Lib.hid (X2.out.al hW3)
      have G3_rx := Lib.hid (G2_rx.out.al hW3)
      have G3_ry := Lib.hid (G2_ry.out.al hW3)
      have G3_J7 := Lib.hid (Qbx.fresh hW3)
      refine hK.out _ _ (by with_reducible exact X3.out.keep) (fun hHeld => ?_)
      clear hK K
      try simp only [Act.put, sT, sZ, sS]
      clear hW3
      refine r1 5 (fun K hK => ?_)
      ·try simp only [gT, gZ, gS]
       go_simp
       obtain ⟨W4, hW4⟩ : ∃ V, W3.alloc (Obj.cells #[.bool false, .slice none 0 0, .bool false, .slice none 0 0] 28) = V := ⟨_, rfl⟩
       rw [hW4]
       have X4 := Lib.hid (X3.out.al hW4)
       have G4_rx := Lib.hid (G3_rx.out.al hW4)
       have G4_ry := Lib.hid (G3_ry.out.al hW4)
       have G4_J7 := Lib.hid (G3_J7.out.al hW4)
       have G4_J8 := Lib.hid (Qbx.fresh hW4)
       refine hK.out _ _ (by with_reducible exact X4.out.keep) (fun hHeld => ?_)
       clear hK K
       try simp only [Act.put, sT, sZ, sS]
       clear hW4
       refine r1 6 (fun K hK => ?_)
       try simp only [gT, gZ, gS]
       have v0 := G4_J7.out.c0
       have vf0 := G4_J7.out.f 0
       have v1 := G4_J7.out.c1
       have vf1 := G4_J7.out.f 1
       have v2 := G4_J7.out.c2
       have vf2 := G4_J7.out.f 2
       have v3 := G4_J7.out.c3
       have vf3 := G4_J7.out.f 3
       go_simp
       clear v0 v1 v2 v3 vf0 vf1 vf2 vf3
       obtain ⟨W5, hW5⟩ : ∃ V, put4 W4 W2.heap.size sa A1 na c1 ta B1 ma d1 = V := ⟨_, rfl⟩
       refine (congrArg (K _) hW5).mpr ?_
       have X5 := Lib.hid (X4.out.pt G4_J7.out (X2.out.i2.lt) hW5)
       have G5_M := Lib.hid (G4_J7.out.pt hW5)
       have G5_O := Lib.hid (G4_J8.out.pt_far (Ne.symm (Nat.ne_of_lt (Qbx.lt G3_J7.out))) hW5)
       have G5_rx := Lib.hid (G4_rx.out.pt G4_J7.out hW5)
       have G5_ry := Lib.hid (G4_ry.out.pt G4_J7.out hW5)
       clear hW5
       refine hK.out _ _ (by with_reducible exact X5.out.keep) (fun hHeld => ?_)
       clear hK K
       try simp only [Act.put, sT, sZ, sS]
       refine r1 7 (fun K hK => ?_)
       try simp only [gT, gZ, gS]
       have v0 := G5_O.out.c0
       have vf0 := G5_O.out.f 0
       have v1 := G5_O.out.c1
       have vf1 := G5_O.out.f 1
       have v2 := G5_O.out.c2
       have vf2 := G5_O.out.f 2
       have v3 := G5_O.out.c3
       have vf3 := G5_O.out.f 3
       go_simp
       clear v0 v1 v2 v3 vf0 vf1 vf2 vf3
       obtain ⟨W6, hW6⟩ : ∃ V, put4 W5 W3.heap.size sb A2 nb c2 tb B2 mb d2 = V := ⟨_, rfl⟩
       refine (congrArg (K _) hW6).mpr ?_
       have X6 := Lib.hid (X5.out.pt G5_O.out (X3.out.i2.lt) hW6)
       have G6_M := Lib.hid (G5_O.out.pt hW6)
       have G6_O := Lib.hid (G5_M.out.pt_far (Nat.ne_of_lt (Qbx.lt G3_J7.out)) hW6)
       have G6_rx := Lib.hid (G5_rx.out.pt G5_O.out hW6)
       have G6_ry := Lib.hid (G5_ry.out.pt G5_O.out hW6)
       clear hW6
       refine hK.out _ _ (by with_reducible exact X6.out.keep) (fun hHeld => ?_)
       clear hK K
       try simp only [Act.put, sT, sZ, sS]
       refine wpAnyH_done (by kernel_rfl) ?_ _
       go_wp2_with fail
       go_meet
       exact ⟨W2.heap.size, W3.heap.size, _, _, _, _, _, _, _, _, rfl, rfl, X6, G6_O.out, G6_M.out, G6_rx.out, G6_ry.out⟩
     ·try simp only [gT, gZ, gS]
      go_simp
      obtain ⟨W7, hW7⟩ : ∃ V, W2.alloc (Obj.cells #[.bool false, .slice none 0 0, .bool false, .slice none 0 0] 28) = V := ⟨_, rfl⟩
      rw [hW7]
      have X7 := Lib.hid (X2.out.al hW7)
      have G7_rx := Lib.hid (G2_rx.out.al hW7)
      have G7_ry := Lib.hid (G2_ry.out.al hW7)
      have G7_J8 := Lib.hid (Qbx.fresh hW7)
      refine hK.out _ _ (by with_reducible exact X7.out.keep) (fun hHeld => ?_)
      clear hK K
      try simp only [Act.put, sT, sZ, sS]
      clear hW7
      refine r1 4 (fun K hK => ?_)
      ·try simp only [gT, gZ, gS]
       go_simp
       obtain ⟨W8, hW8⟩ : ∃ V, W7.alloc (Obj.cells #[.bool false, .slice none 0 0, .bool false, .slice none 0 0] 28) = V := ⟨_, rfl⟩
       rw [hW8]
       have X8 := Lib.hid (X7.out.al hW8)
       have G8_rx := Lib.hid (G7_rx.out.al hW8)
       have G8_ry := Lib.hid (G7_ry.out.al hW8)
       have G8_J8 := Lib.hid (G7_J8.out.al hW8)
       have G8_J7 := Lib.hid (Qbx.fresh hW8)
       refine hK.out _ _ (by with_reducible exact X8.out.keep) (fun hHeld => ?_)
       clear hK K
       try simp only [Act.put, sT, sZ, sS]
       clear hW8
       refine r1 6 (fun K hK => ?_)
       try simp only [gT, gZ, gS]
       have v0 := G8_J7.out.c0
       have vf0 := G8_J7.out.f 0
       have v1 := G8_J7.out.c1
       have vf1 := G8_J7.out.f 1
       have v2 := G8_J7.out.c2
       have vf2 := G8_J7.out.f 2
       have v3 := G8_J7.out.c3
       have vf3 := G8_J7.out.f 3
       go_simp
       clear v0 v1 v2 v3 vf0 vf1 vf2 vf3
       obtain ⟨W9, hW9⟩ : ∃ V, put4 W8 W7.heap.size sa A1 na c1 ta B1 ma d1 = V := ⟨_, rfl⟩
       refine (congrArg (K _) hW9).mpr ?_
       have X9 := Lib.hid (X8.out.pt G8_J7.out (X7.out.i2.lt) hW9)
       have G9_M := Lib.hid (G8_J7.out.pt hW9)
       have G9_O := Lib.hid (G8_J8.out.pt_far (Ne.symm (Nat.ne_of_gt (Qbx.lt G7_J8.out))) hW9)
       have G9_rx := Lib.hid (G8_rx.out.pt G8_J7.out hW9)
       have G9_ry := Lib.hid (G8_ry.out.pt G8_J7.out hW9)
       clear hW9
       refine hK.out _ _ (by with_reducible exact X9.out.keep) (fun hHeld => ?_)
       clear hK K
       try simp only [Act.put, sT, sZ, sS]
       refine r1 7 (fun K hK => ?_)
       try simp only [gT, gZ, gS]
       have v0 := G9_O.out.c0
       have vf0 := G9_O.out.f 0
       have v1 := G9_O.out.c1
       have vf1 := G9_O.out.f 1
       have v2 := G9_O.out.c2
       have vf2 := G9_O.out.f 2
       have v3 := G9_O.out.c3
       have vf3 := G9_O.out.f 3
       go_simp
       clear v0 v1 v2 v3 vf0 vf1 vf2 vf3
       obtain ⟨W10, hW10⟩ : ∃ V, put4 W9 W2.heap.size sb A2 nb c2 tb B2 mb d2 = V := ⟨_, rfl⟩
       refine (congrArg (K _) hW10).mpr ?_
       have X10 := Lib.hid (X9.out.pt G9_O.out (X2.out.i2.lt) hW10)
       have G10_M := Lib.hid (G9_O.out.pt hW10)
       have G10_O := Lib.hid (G9_M.out.pt_far (Nat.ne_of_gt (Qbx.lt G7_J8.out)) hW10)
       have G10_rx := Lib.hid (G9_rx.out.pt G9_O.out hW10)
       have G10_ry := Lib.hid (G9_ry.out.pt G9_O.out hW10)
       clear hW10
       refine hK.out _ _ (by with_reducible exact X10.out.keep) (fun hHeld => ?_)
       clear hK K
       try simp only [Act.put, sT, sZ, sS]
       refine wpAnyH_done (by kernel_rfl) ?_ _
       go_wp2_with fail
       go_meet
       exact ⟨W7.heap.size, W2.heap.size, _, _, _, _, _, _, _, _, rfl, rfl, X10, G10_O.out, G10_M.out, G10_rx.out, G10_ry.out⟩
    ·try simp only [gT, gZ, gS]
     go_simp
     obtain ⟨W11, hW11⟩ : ∃ V, W1.alloc (Obj.cells #[.bool false, .slice none 0 0, .bool false, .slice none 0 0] 28) = V := ⟨_, rfl⟩
     rw [hW11]
     have X11 := Lib.hid (X1.out.al hW11)
     have G11_rx := Lib.hid (G1_rx.out.al hW11)
     have G11_J7 := Lib.hid (Qbx.fresh hW11)
     refine hK.out _ _ (by with_reducible exact X11.out.keep) (fun hHeld => ?_)
     clear hK K
     try simp only [Act.put, sT, sZ, sS]
     clear hW11
     refine wpAnyH_ready (rs := [3, 5]) (by kernel_rfl) (by simp) ?_
     refine (AllReadyH.cons rfl (fun K hK => ?_) (AllReadyH.cons rfl (fun K hK => ?_) AllReadyH.nil))
     ·try simp only [gT, gZ, gS]
      go_simp
      with_reducible refine (copy_q X11.out.rb HB0.out HB1.out (Nat.le_trans X11.out.b.le (by omega)) (Nat.le_trans X11.out.b.le2 (by omega))).mono ?_
      rintro e W12 ⟨A12, c12, B12, d12, rfl, hr, hbx⟩
      have X12 := Lib.hid (X11.out.below hbx)
      have G12_rx := Lib.hid (G11_rx.out.below hbx)
      have G12_J7 := Lib.hid (G11_J7.out.below hbx)
      have G12_ry := Lib.hid hr
      clear hbx hr
      refine hK.out _ _ (by with_reducible exact X12.out.keep) (fun hHeld => ?_)
      clear hK K
      try simp only [Act.put, sT, sZ, sS]
      refine r1 5 (fun K hK => ?_)
      ·try simp only [gT, gZ, gS]
       go_simp
       obtain ⟨W13, hW13⟩ : ∃ V, W12.alloc (Obj.cells #[.bool false, .slice none 0 0, .bool false, .slice none 0 0] 28) = V := ⟨_, rfl⟩
       rw [hW13]
       have X13 := Lib.hid (X12.out.al hW13)
       have G13_rx := Lib.hid (G12_rx.out.al hW13)
       have G13_J7 := Lib.hid (G12_J7.out.al hW13)
       have G13_ry := Lib.hid (G12_ry.out.al hW13)
       have G13_J8 := Lib.hid (Qbx.fresh hW13)
       refine hK.out _ _ (by with_reducible exact X13.out.keep) (fun hHeld => ?_)
       clear hK K
       try simp only [Act.put, sT, sZ, sS]
       clear hW13
       refine r1 6 (fun K hK => ?_)
       try simp only [gT, gZ, gS]
       have v0 := G13_J7.out.c0
       have vf0 := G13_J7.out.f 0
       have v1 := G13_J7.out.c1
       have vf1 := G13_J7.out.f 1
       have v2 := G13_J7.out.c2
       have vf2 := G13_J7.out.f 2
       have v3 := G13_J7.out.c3
       have vf3 := G13_J7.out.f 3
       go_simp
       clear v0 v1 v2 v3 vf0 vf1 vf2 vf3
       obtain ⟨W14, hW14⟩ : ∃ V, put4 W13 W1.heap.size sa A1 na c1 ta B1 ma d1 = V := ⟨_, rfl⟩
       refine (congrArg (K _) hW14).mpr ?_
       have X14 := Lib.hid (X13.out.pt G13_J7.out (X1.out.i2.lt) hW14)
       have G14_M := Lib.hid (G13_J7.out.pt hW14)
       have G14_O := Lib.hid (G13_J8.out.pt_far (Ne.symm (Nat.ne_of_lt (Qbx.lt G12_J7.out))) hW14)
       have G14_rx := Lib.hid (G13_rx.out.pt G13_J7.out hW14)
       have G14_ry := Lib.hid (G13_ry.out.pt G13_J7.out hW14)
       clear hW14
       refine hK.out _ _ (by with_reducible exact X14.out.keep) (fun hHeld => ?_)
       clear hK K
       try simp only [Act.put, sT, sZ, sS]
       refine r1 7 (fun K hK => ?_)
       try simp only [gT, gZ, gS]
       have v0 := G14_O.out.c0
       have vf0 := G14_O.out.f 0
       have v1 := G14_O.out.c1
       have vf1 := G14_O.out.f 1
       have v2 := G14_O.out.c2
       have vf2 := G14_O.out.f 2
       have v3 := G14_O.out.c3
       have vf3 := G14_O.out.f 3
       go_simp
       clear v0 v1 v2 v3 vf0 vf1 vf2 vf3
       obtain ⟨W15, hW15⟩ : ∃ V, put4 W14 W12.heap.size sb A12 nb c12 tb B12 mb d12 = V := ⟨_, rfl⟩
       refine (congrArg (K _) hW15).mpr ?_
       have X15 := Lib.hid (X14.out.pt G14_O.out (X12.out.i2.lt) hW15)
       have G15_M := Lib.hid (G14_O.out.pt hW15)
       have G15_O := Lib.hid (G14_M.out.pt_far (Nat.ne_of_lt (Qbx.lt G12_J7.out)) hW15)
       have G15_rx := Lib.hid (G14_rx.out.pt G14_O.out hW15)
       have G15_ry := Lib.hid (G14_ry.out.pt G14_O.out hW15)
       clear hW15
       refine hK.out _ _ (by with_reducible exact X15.out.keep) (fun hHeld => ?_)
       clear hK K
       try simp only [Act.put, sT, sZ, sS]
       refine wpAnyH_done (by kernel_rfl) ?_ _
       go_wp2_with fail
       go_meet
       exact ⟨W1.heap.size, W12.heap.size, _, _, _, _, _, _, _, _, rfl, rfl, X15, G15_O.out, G15_M.out, G15_rx.out, G15_ry.out⟩
     ·try simp only [gT, gZ, gS]
      go_simp
      obtain ⟨W16, hW16⟩ : ∃ V, W11.alloc (Obj.cells #[.bool false, .slice none 0 0, .bool false, .slice none 0 0] 28) = V := ⟨_, rfl⟩
      rw [hW16]
      have X16 := Lib.hid (X11.out.al hW16)
      have G16_rx := Lib.hid (G11_rx.out.al hW16)
      have G16_J7 := Lib.hid (G11_J7.out.al hW16)
      have G16_J8 := Lib.hid (Qbx.fresh hW16)
      refine hK.out _ _ (by with_reducible exact X16.out.keep) (fun hHeld => ?_)
      clear hK K
      try simp only [Act.put, sT, sZ, sS]
      clear hW16
      refine r1 3 (fun K hK => ?_)
      ·try simp only [gT, gZ, gS]
       go_simp
       with_reducible refine (copy_q X16.out.rb HB0.out HB1.out (Nat.le_trans X16.out.b.le (by omega)) (Nat.le_trans X16.out.b.le2 (by omega))).mono ?_
       rintro e W17 ⟨A17, c17, B17, d17, rfl, hr, hbx⟩
       have X17 := Lib.hid (X16.out.below hbx)
       have G17_rx := Lib.hid (G16_rx.out.below hbx)
       have G17_J7 := Lib.hid (G16_J7.out.below hbx)
       have G17_J8 := Lib.hid (G16_J8.out.below hbx)
       have G17_ry := Lib.hid hr
       clear hbx hr
       refine hK.out _ _ (by with_reducible exact X17.out.keep) (fun hHeld => ?_)
       clear hK K
       try simp only [Act.put, sT, sZ, sS]
       refine r1 6 (fun K hK => ?_)
       try simp only [gT, gZ, gS]
       have v0 := G17_J7.out.c0
       have vf0 := G17_J7.out.f 0
       have v1 := G17_J7.out.c1
       have vf1 := G17_J7.out.f 1
       have v2 := G17_J7.out.c2
       have vf2 := G17_J7.out.f 2
       have v3 := G17_J7.out.c3
       have vf3 := G17_J7.out.f 3
       go_simp
       clear v0 v1 v2 v3 vf0 vf1 vf2 vf3
       obtain ⟨W18, hW18⟩ : ∃ V, put4 W17 W1.heap.size sa A1 na c1 ta B1 ma d1 = V := ⟨_, rfl⟩
       refine (congrArg (K _) hW18).mpr ?_
       have X18 := Lib.hid (X17.out.pt G17_J7.out (X1.out.i2.lt) hW18)
       have G18_M := Lib.hid (G17_J7.out.pt hW18)
       have G18_O := Lib.hid (G17_J8.out.pt_far (Ne.symm (Nat.ne_of_lt (Qbx.lt G11_J7.out))) hW18)
       have G18_rx := Lib.hid (G17_rx.out.pt G17_J7.out hW18)
       have G18_ry := Lib.hid (G17_ry.out.pt G17_J7.out hW18)
       clear hW18
       refine hK.out _ _ (by with_reducible exact X18.out.keep) (fun hHeld => ?_)
       clear hK K
       try simp only [Act.put, sT, sZ, sS]
       refine r1 7 (fun K hK => ?_)
       try simp only [gT, gZ, gS]
       have v0 := G18_O.out.c0
       have vf0 := G18_O.out.f 0
       have v1 := G18_O.out.c1
       have vf1 := G18_O.out.f 1
       have v2 := G18_O.out.c2
       have vf2 := G18_O.out.f 2
       have v3 := G18_O.out.c3
       have vf3 := G18_O.out.f 3
       go_simp
       clear v0 v1 v2 v3 vf0 vf1 vf2 vf3
       obtain ⟨W19, hW19⟩ : ∃ V, put4 W18 W11.heap.size sb A17 nb c17 tb B17 mb d17 = V := ⟨_, rfl⟩
       refine (congrArg (K _) hW19).mpr ?_
       have X19 := Lib.hid (X18.out.pt G18_O.out (X11.out.i2.lt) hW19)
       have G19_M := Lib.hid (G18_O.out.pt hW19)
       have G19_O := Lib.hid (G18_M.out.pt_far (Nat.ne_of_lt (Qbx.lt G11_J7.out)) hW19)
       have G19_rx := Lib.hid (G18_rx.out.pt G18_O.out hW19)
       have G19_ry := Lib.hid (G18_ry.out.pt G18_O.out hW19)
       clear hW19
       refine hK.out _ _ (by with_reducible exact X19.out.keep) (fun hHeld => ?_)
       clear hK K
       try simp only [Act.put, sT, sZ, sS]
       refine wpAnyH_done (by kernel_rfl) ?_ _
       go_wp2_with fail
       go_meet
       exact ⟨W1.heap.size, W11.heap.size, _, _, _, _, _, _, _, _, rfl, rfl, X19, G19_O.out, G19_M.out, G19_rx.out, G19_ry.out⟩
    ·try simp only [gT, gZ, gS]
     go_simp
     obtain ⟨W20, hW20⟩ : ∃ V, W1.alloc (Obj.cells #[.bool false, .slice none 0 0, .bool false, .slice none 0 0] 28) = V := ⟨_, rfl⟩
     rw [hW20]
     have X20 := Lib.hid (X1.out.al hW20)
     have G20_rx := Lib.hid (G1_rx.out.al hW20)
     have G20_J8 := Lib.hid (Qbx.fresh hW20)
     refine hK.out _ _ (by with_reducible exact X20.out.keep) (fun hHeld => ?_)
     clear hK K
     try simp only [Act.put, sT, sZ, sS]
     clear hW20
     refine wpAnyH_ready (rs := [3, 4]) (by kernel_rfl) (by simp) ?_
     refine (AllReadyH.cons rfl (fun K hK => ?_) (AllReadyH.cons rfl (fun K hK => ?_) AllReadyH.nil))
     ·try simp only [gT, gZ, gS]
      go_simp
      with_reducible refine (copy_q X20.out.rb HB0.out HB1.out (Nat.le_trans X20.out.b.le (by omega)) (Nat.le_trans X20.out.b.le2 (by omega))).mono ?_
      rintro e W21 ⟨A21, c21, B21, d21, rfl, hr, hbx⟩
      have X21 := Lib.hid (X20.out.below hbx)
      have G21_rx := Lib.hid (G20_rx.out.below hbx)
      have G21_J8 := Lib.hid (G20_J8.out.below hbx)
      have G21_ry := Lib.hid hr
      clear hbx hr
      refine hK.out _ _ (by with_reducible exact X21.out.keep) (fun hHeld => ?_)
      clear hK K
      try simp only [Act.put, sT, sZ, sS]
      refine r1 4 (fun K hK => ?_)
      ·try simp only [gT, gZ, gS]
       go_simp
       obtain ⟨W22, hW22⟩ : ∃ V, W21.alloc (Obj.cells #[.bool false, .slice none 0 0, .bool false, .slice none 0 0] 28) = V := ⟨_, rfl⟩
       rw [hW22]
       have X22 := Lib.hid (X21.out.al hW22)
       have G22_rx := Lib.hid (G21_rx.out.al hW22)
       have G22_J8 := Lib.hid (G21_J8.out.al hW22)
       have G22_ry := Lib.hid (G21_ry.out.al hW22)
       have G22_J7 := Lib.hid (Qbx.fresh hW22)
       refine hK.out _ _ (by with_reducible exact X22.out.keep) (fun hHeld => ?_)
       clear hK K
       try simp only [Act.put, sT, sZ, sS]
       clear hW22
       refine r1 6 (fun K hK => ?_)
       try simp only [gT, gZ, gS]
       have v0 := G22_J7.out.c0
       have vf0 := G22_J7.out.f 0
       have v1 := G22_J7.out.c1
       have vf1 := G22_J7.out.f 1
       have v2 := G22_J7.out.c2
       have vf2 := G22_J7.out.f 2
       have v3 := G22_J7.out.c3
       have vf3 := G22_J7.out.f 3
       go_simp
       clear v0 v1 v2 v3 vf0 vf1 vf2 vf3
       obtain ⟨W23, hW23⟩ : ∃ V, put4 W22 W21.heap.size sa A1 na c1 ta B1 ma d1 = V := ⟨_, rfl⟩
       refine (congrArg (K _) hW23).mpr ?_
       have X23 := Lib.hid (X22.out.pt G22_J7.out (X21.out.i2.lt) hW23)
       have G23_M := Lib.hid (G22_J7.out.pt hW23)
       have G23_O := Lib.hid (G22_J8.out.pt_far (Ne.symm (Nat.ne_of_gt (Qbx.lt G21_J8.out))) hW23)
       have G23_rx := Lib.hid (G22_rx.out.pt G22_J7.out hW23)
       have G23_ry := Lib.hid (G22_ry.out.pt G22_J7.out hW23)
       clear hW23
       refine hK.out _ _ (by with_reducible exact X23.out.keep) (fun hHeld => ?_)
       clear hK K
       try simp only [Act.put, sT, sZ, sS]
       refine r1 7 (fun K hK => ?_)
       try simp only [gT, gZ, gS]
       have v0 := G23_O.out.c0
       have vf0 := G23_O.out.f 0
       have v1 := G23_O.out.c1
       have vf1 := G23_O.out.f 1
       have v2 := G23_O.out.c2
       have vf2 := G23_O.out.f 2
       have v3 := G23_O.out.c3
       have vf3 := G23_O.out.f 3
       go_simp
       clear v0 v1 v2 v3 vf0 vf1 vf2 vf3
       obtain ⟨W24, hW24⟩ : ∃ V, put4 W23 W1.heap.size sb A21 nb c21 tb B21 mb d21 = V := ⟨_, rfl⟩
       refine (congrArg (K _) hW24).mpr ?_
       have X24 := Lib.hid (X23.out.pt G23_O.out (X1.out.i2.lt) hW24)
       have G24_M := Lib.hid (G23_O.out.pt hW24)
       have G24_O := Lib.hid (G23_M.out.pt_far (Nat.ne_of_gt (Qbx.lt G21_J8.out)) hW24)
       have G24_rx := Lib.hid (G23_rx.out.pt G23_O.out hW24)
       have G24_ry := Lib.hid (G23_ry.out.pt G23_O.out hW24)
       clear hW24
       refine hK.out _ _ (by with_reducible exact X24.out.keep) (fun hHeld => ?_)
       clear hK K
       try simp only [Act.put, sT, sZ, sS]
       refine wpAnyH_done (by kernel_rfl) ?_ _
       go_wp2_with fail
       go_meet
       exact ⟨W21.heap.size, W1.heap.size, _, _, _, _, _, _, _, _, rfl, rfl, X24, G24_O.out, G24_M.out, G24_rx.out, G24_ry.out⟩
     ·try simp only [gT, gZ, gS]
      go_simp
      obtain ⟨W25, hW25⟩ : ∃ V, W20.alloc (Obj.cells #[.bool false, .slice none 0 0, .bool false, .slice none 0 0] 28) = V := ⟨_, rfl⟩
      rw [hW25]
      have X25 := Lib.hid (X20.out.al hW25)
      have G25_rx := Lib.hid (G20_rx.out.al hW25)
      have G25_J8 := Lib.hid (G20_J8.out.al hW25)
      have G25_J7 := Lib.hid (Qbx.fresh hW25)
      refine hK.out _ _ (by with_reducible exact X25.out.keep) (fun hHeld => ?_)
      clear hK K
      try simp only [Act.put, sT, sZ, sS]
      clear hW25
      refine r1 3 (fun K hK => ?_)
      ·try simp only [gT, gZ, gS]
       go_simp
       with_reducible refine (copy_q X25.out.rb HB0.out HB1.out (Nat.le_trans X25.out.b.le (by omega)) (Nat.le_trans X25.out.b.le2 (by omega))).mono ?_
       rintro e W26 ⟨A26, c26, B26, d26, rfl, hr, hbx⟩
       have X26 := Lib.hid (X25.out.below hbx)
       have G26_rx := Lib.hid (G25_rx.out.below hbx)
       have G26_J8 := Lib.hid (G25_J8.out.below hbx)
       have G26_J7 := Lib.hid (G25_J7.out.below hbx)
       have G26_ry := Lib.hid hr
       clear hbx hr
       refine hK.out _ _ (by with_reducible exact X26.out.keep) (fun hHeld => ?_)
       clear hK K
       try simp only [Act.put, sT, sZ, sS]
       refine r1 6 (fun K hK => ?_)
       try simp only [gT, gZ, gS]
       have v0 := G26_J7.out.c0
       have vf0 := G26_J7.out.f 0
       have v1 := G26_J7.out.c1
       have vf1 := G26_J7.out.f 1
       have v2 := G26_J7.out.c2
       have vf2 := G26_J7.out.f 2
       have v3 := G26_J7.out.c3
       have vf3 := G26_J7.out.f 3
       go_simp
       clear v0 v1 v2 v3 vf0 vf1 vf2 vf3
       obtain ⟨W27, hW27⟩ : ∃ V, put4 W26 W20.heap.size sa A1 na c1 ta B1 ma d1 = V := ⟨_, rfl⟩
       refine (congrArg (K _) hW27).mpr ?_
       have X27 := Lib.hid (X26.out.pt G26_J7.out (X20.out.i2.lt) hW27)
       have G27_M := Lib.hid (G26_J7.out.pt hW27)
       have G27_O := Lib.hid (G26_J8.out.pt_far (Ne.symm (Nat.ne_of_gt (Qbx.lt G20_J8.out))) hW27)
       have G27_rx := Lib.hid (G26_rx.out.pt G26_J7.out hW27)
       have G27_ry := Lib.hid (G26_ry.out.pt G26_J7.out hW27)
       clear hW27
       refine hK.out _ _ (by with_reducible exact X27.out.keep) (fun hHeld => ?_)
       clear hK K
       try simp only [Act.put, sT, sZ, sS]
       refine r1 7 (fun K hK => ?_)
       try simp only [gT, gZ, gS]
       have v0 := G27_O.out.c0
       have vf0 := G27_O.out.f 0
       have v1 := G27_O.out.c1
       have vf1 := G27_O.out.f 1
       have v2 := G27_O.out.c2
       have vf2 := G27_O.out.f 2
       have v3 := G27_O.out.c3
       have vf3 := G27_O.out.f 3
       go_simp
       clear v0 v1 v2 v3 vf0 vf1 vf2 vf3
       obtain ⟨W28, hW28⟩ : ∃ V, put4 W27 W1.heap.size sb A26 nb c26 tb B26 mb d26 = V := ⟨_, rfl⟩
       refine (congrArg (K _) hW28).mpr ?_
       have X28 := Lib.hid (X27.out.pt G27_O.out (X1.out.i2.lt) hW28)
       have G28_M := Lib.hid (G27_O.out.pt hW28)
       have G28_O := Lib.hid (G27_M.out.pt_far (Nat.ne_of_gt (Qbx.lt G20_J8.out)) hW28)
       have G28_rx := Lib.hid (G27_rx.out.pt G27_O.out hW28)
       have G28_ry := Lib.hid (G27_ry.out.pt G27_O.out hW28)
       clear hW28
       refine hK.out _ _ (by with_reducible exact X28.out.keep) (fun hHeld => ?_)
       clear hK K
       try simp only [Act.put, sT, sZ, sS]
       refine wpAnyH_done (by kernel_rfl) ?_ _
       go_wp2_with fail
       go_meet
       exact ⟨W20.heap.size, W1.heap.size, _, _, _, _, _, _, _, _, rfl, rfl, X28, G28_O.out, G28_M.out, G28_rx.out, G28_ry.out⟩
   ·try simp only [gT, gZ, gS]
    go_simp
    obtain ⟨W29, hW29⟩ : ∃ V, W0.alloc (Obj.cells #[.bool false, .slice none 0 0, .bool false, .slice none 0 0] 28) = V := ⟨_, rfl⟩
    rw [hW29]
    have X29 := Lib.hid (HX.out.al hW29)
    have G29_J7 := Lib.hid (Qbx.fresh hW29)
    refine hK.out _ _ (by with_reducible exact X29.out.keep) (fun hHeld => ?_)
    clear hK K
    try simp only [Act.put, sT, sZ, sS]
    clear hW29
    refine wpAnyH_ready (rs := [1, 5]) (by kernel_rfl) (by simp) ?_
    refine (AllReadyH.cons rfl (fun K hK => ?_) (AllReadyH.cons rfl (fun K hK => ?_) AllReadyH.nil))
    ·try simp only [gT, gZ, gS]
     go_simp
     with_reducible refine (copy_q X29.out.ra HA0.out HA1.out (Nat.le_trans X29.out.a.le (by omega)) (Nat.le_trans X29.out.a.le2 (by omega))).mono ?_
     rintro e W30 ⟨A30, c30, B30, d30, rfl, hr, hbx⟩
     have X30 := Lib.hid (X29.out.below hbx)
     have G30_J7 := Lib.hid (G29_J7.out.below hbx)
     have G30_rx := Lib.hid hr
     clear hbx hr
     refine hK.out _ _ (by with_reducible exact X30.out.keep) (fun hHeld => ?_)
     clear hK K
     try simp only [Act.put, sT, sZ, sS]
     refine wpAnyH_ready (rs := [3, 5]) (by kernel_rfl) (by simp) ?_
     refine (AllReadyH.cons rfl (fun K hK => ?_) (AllReadyH.cons rfl (fun K hK => ?_) AllReadyH.nil))
     ·try simp only [gT, gZ, gS]
      go_simp
      with_reducible refine (copy_q X30.out.rb HB0.out HB1.out (Nat.le_trans X30.out.b.le (by omega)) (Nat.le_trans X30.out.b.le2 (by omega))).mono ?_
      rintro e W31 ⟨A31, c31, B31, d31, rfl, hr, hbx⟩
      have X31 := Lib.hid (X30.out.below hbx)
      have G31_J7 := Lib.hid (G30_J7.out.below hbx)
      have G31_rx := Lib.hid (G30_rx.out.below hbx)
      have G31_ry := Lib.hid hr
      clear hbx hr
      refine hK.out _ _ (by with_reducible exact X31.out.keep) (fun hHeld => ?_)
      clear hK K
      try simp only [Act.put, sT, sZ, sS]
      refine r1 5 (fun K hK => ?_)
      ·try simp only [gT, gZ, gS]
       go_simp
       obtain ⟨W32, hW32⟩ : ∃ V, W31.alloc (Obj.cells #[.bool false, .slice none 0 0, .bool false, .slice none 0 0] 28) = V := ⟨_, rfl⟩
       rw [hW32]
       have X32 := Lib.hid (X31.out.al hW32)
       have G32_J7 := Lib.hid (G31_J7.out.al hW32)
       have G32_rx := Lib.hid (G31_rx.out.al hW32)
       have G32_ry := Lib.hid (G31_ry.out.al hW32)
       have G32_J8 := Lib.hid (Qbx.fresh hW32)
       refine hK.out _ _ (by with_reducible exact X32.out.keep) (fun hHeld => ?_)
       clear hK K
       try simp only [Act.put, sT, sZ, sS]
       clear hW32
       refine r1 6 (fun K hK => ?_)
       try simp only [gT, gZ, gS]
       have v0 := G32_J7.out.c0
       have vf0 := G32_J7.out.f 0
       have v1 := G32_J7.out.c1
       have vf1 := G32_J7.out.f 1
       have v2 := G32_J7.out.c2
       have vf2 := G32_J7.out.f 2
       have v3 := G32_J7.out.c3
       have vf3 := G32_J7.out.f 3
       go_simp
       clear v0 v1 v2 v3 vf0 vf1 vf2 vf3
       obtain ⟨W33, hW33⟩ : ∃ V, put4 W32 W0.heap.size sa A30 na c30 ta B30 ma d30 = V := ⟨_, rfl⟩
       refine (congrArg (K _) hW33).mpr ?_
       have X33 := Lib.hid (X32.out.pt G32_J7.out (HX.out.i2.lt) hW33)
       have G33_M := Lib.hid (G32_J7.out.pt hW33)
       have G33_O := Lib.hid (G32_J8.out.pt_far (Ne.symm (Nat.ne_of_lt (Qbx.lt G31_J7.out))) hW33)
       have G33_rx := Lib.hid (G32_rx.out.pt G32_J7.out hW33)
       have G33_ry := Lib.hid (G32_ry.out.pt G32_J7.out hW33)
       clear hW33
       refine hK.out _ _ (by with_reducible exact X33.out.keep) (fun hHeld => ?_)
       clear hK K
       try simp only [Act.put, sT, sZ, sS]
       refine r1 7 (fun K hK => ?_)
       try simp only [gT, gZ, gS]
       have v0 := G33_O.out.c0
       have vf0 := G33_O.out.f 0
       have v1 := G33_O.out.c1
       have vf1 := G33_O.out.f 1
       have v2 := G33_O.out.c2
       have vf2 := G33_O.out.f 2
       have v3 := G33_O.out.c3
       have vf3 := G33_O.out.f 3
       go_simp
       clear v0 v1 v2 v3 vf0 vf1 vf2 vf3
       obtain ⟨W34, hW34⟩ : ∃ V, put4 W33 W31.heap.size sb A31 nb c31 tb B31 mb d31 = V := ⟨_, rfl⟩
       refine (congrArg (K _) hW34).mpr ?_
       have X34 := Lib.hid (X33.out.pt G33_O.out (X31.out.i2.lt) hW34)
       have G34_M := Lib.hid (G33_O.out.pt hW34)
       have G34_O := Lib.hid (G33_M.out.pt_far (Nat.ne_of_lt (Qbx.lt G31_J7.out)) hW34)
       have G34_rx := Lib.hid (G33_rx.out.pt G33_O.out hW34)
       have G34_ry := Lib.hid (G33_ry.out.pt G33_O.out hW34)
       clear hW34
       refine hK.out _ _ (by with_reducible exact X34.out.keep) (fun hHeld => ?_)
       clear hK K
       try simp only [Act.put, sT, sZ, sS]
       refine wpAnyH_done (by kernel_rfl) ?_ _
       go_wp2_with fail
       go_meet
       exact ⟨W0.heap.size, W31.heap.size, _, _, _, _, _, _, _, _, rfl, rfl, X34, G34_O.out, G34_M.out, G34_rx.out, G34_ry.out⟩
     ·try simp only [gT, gZ, gS]
      go_simp
      obtain ⟨W35, hW35⟩ : ∃ V, W30.alloc (Obj.cells #[.bool false, .slice none 0 0, .bool false, .slice none 0 0] 28) = V := ⟨_, rfl⟩
      rw [hW35]
      have X35 := Lib.hid (X30.out.al hW35)
      have G35_J7 := Lib.hid (G30_J7.out.al hW35)
      have G35_rx := Lib.hid (G30_rx.out.al hW35)
      have G35_J8 := Lib.hid (Qbx.fresh hW35)
      refine hK.out _ _ (by with_reducible exact X35.out.keep) (fun hHeld => ?_)
      clear hK K
      try simp only [Act.put, sT, sZ, sS]
      clear hW35
      refine r1 3 (fun K hK => ?_)
      ·try simp only [gT, gZ, gS]
       go_simp
       with_reducible refine (copy_q X35.out.rb HB0.out HB1.out (Nat.le_trans X35.out.b.le (by omega)) (Nat.le_trans X35.out.b.le2 (by omega))).mono ?_
       rintro e W36 ⟨A36, c36, B36, d36, rfl, hr, hbx⟩
       have X36 := Lib.hid (X35.out.below hbx)
       have G36_J7 := Lib.hid (G35_J7.out.below hbx)
       have G36_rx := Lib.hid (G35_rx.out.below hbx)
       have G36_J8 := Lib.hid (G35_J8.out.below hbx)
       have G36_ry := Lib.hid hr
       clear hbx hr
       refine hK.out _ _ (by with_reducible exact X36.out.keep) (fun hHeld => ?_)
       clear hK K
       try simp only [Act.put, sT, sZ, sS]
       refine r1 6 (fun K hK => ?_)
       try simp only [gT, gZ, gS]
       have v0 := G36_J7.out.c0
       have vf0 := G36_J7.out.f 0
       have v1 := G36_J7.out.c1
       have vf1 := G36_J7.out.f 1
       have v2 := G36_J7.out.c2
       have vf2 := G36_J7.out.f 2
       have v3 := G36_J7.out.c3
       have vf3 := G36_J7.out.f 3
       go_simp
       clear v0 v1 v2 v3 vf0 vf1 vf2 vf3
       obtain ⟨W37, hW37⟩ : ∃ V, put4 W36 W0.heap.size sa A30 na c30 ta B30 ma d30 = V := ⟨_, rfl⟩
       refine (congrArg (K _) hW37).mpr ?_
       have X37 := Lib.hid (X36.out.pt G36_J7.out (HX.out.i2.lt) hW37)
       have G37_M := Lib.hid (G36_J7.out.pt hW37)
       have G37_O := Lib.hid (G36_J8.out.pt_far (Ne.symm (Nat.ne_of_lt (Qbx.lt G30_J7.out))) hW37)
       have G37_rx := Lib.hid (G36_rx.out.pt G36_J7.out hW37)
       have G37_ry := Lib.hid (G36_ry.out.pt G36_J7.out hW37)
       clear hW37
       refine hK.out _ _ (by with_reducible exact X37.out.keep) (fun hHeld => ?_)
       clear hK K
       try simp only [Act.put, sT, sZ, sS]
       refine r1 7 (fun K hK => ?_)
       try simp only [gT, gZ, gS]
       have v0 := G37_O.out.c0
       have vf0 := G37_O.out.f 0
       have v1 := G37_O.out.c1
       have vf1 := G37_O.out.f 1
       have v2 := G37_O.out.c2
       have vf2 := G37_O.out.f 2
       have v3 := G37_O.out.c3
       have vf3 := G37_O.out.f 3
       go_simp
       clear v0 v1 v2 v3 vf0 vf1 vf2 vf3
       obtain ⟨W38, hW38⟩ : ∃ V, put4 W37 W30.heap.size sb A36 nb c36 tb B36 mb d36 = V := ⟨_, rfl⟩
       refine (congrArg (K _) hW38).mpr ?_
       have X38 := Lib.hid (X37.out.pt G37_O.out (X30.out.i2.lt) hW38)
       have G38_M := Lib.hid (G37_O.out.pt hW38)
       have G38_O := Lib.hid (G37_M.out.pt_far (Nat.ne_of_lt (Qbx.lt G30_J7.out)) hW38)
       have G38_rx := Lib.hid (G37_rx.out.pt G37_O.out hW38)
       have G38_ry := Lib.hid (G37_ry.out.pt G37_O.out hW38)
       clear hW38
       refine hK.out _ _ (by with_reducible exact X38.out.keep) (fun hHeld => ?_)
       clear hK K
       try simp only [Act.put, sT, sZ, sS]
       refine wpAnyH_done (by kernel_rfl) ?_ _
       go_wp2_with fail
       go_meet
       exact ⟨W0.heap.size, W30.heap.size, _, _, _, _, _, _, _, _, rfl, rfl, X38, G38_O.out, G38_M.out, G38_rx.out, G38_ry.out⟩
    ·try simp only [gT, gZ, gS]
     go_simp
     obtain ⟨W39, hW39⟩ : ∃ V, W29.alloc (Obj.cells #[.bool false, .slice none 0 0, .bool false, .slice none 0 0] 28) = V := ⟨_, rfl⟩
     rw [hW39]
     have X39 := Lib.hid (X29.out.al hW39)
     have G39_J7 := Lib.hid (G29_J7.out.al hW39)
     have G39_J8 := Lib.hid (Qbx.fresh hW39)
     refine hK.out _ _ (by with_reducible exact X39.out.keep) (fun hHeld => ?_)
     clear hK K
     try simp only [Act.put, sT, sZ, sS]
     clear hW39
     refine r1 1 (fun K hK => ?_)
     ·try simp only [gT, gZ, gS]
      go_simp
      with_reducible refine (copy_q X39.out.ra HA0.out HA1.out (Nat.le_trans X39.out.a.le (by omega)) (Nat.le_trans X39.out.a.le2 (by omega))).mono ?_
      rintro e W40 ⟨A40, c40, B40, d40, rfl, hr, hbx⟩
      have X40 := Lib.hid (X39.out.below hbx)
      have G40_J7 := Lib.hid (G39_J7.out.below hbx)
      have G40_J8 := Lib.hid (G39_J8.out.below hbx)
      have G40_rx := Lib.hid hr
      clear hbx hr
      refine hK.out _ _ (by with_reducible exact X40.out.keep) (fun hHeld => ?_)
      clear hK K
      try simp only [Act.put, sT, sZ, sS]
      refine r1 3 (fun K hK => ?_)
      ·try simp only [gT, gZ, gS]
       go_simp
       with_reducible refine (copy_q X40.out.rb HB0.out HB1.out (Nat.le_trans X40.out.b.le (by omega)) (Nat.le_trans X40.out.b.le2 (by omega))).mono ?_
       rintro e W41 ⟨A41, c41, B41, d41, rfl, hr, hbx⟩
       have X41 := Lib.hid (X40.out.below hbx)
       have G41_J7 := Lib.hid (G40_J7.out.below hbx)
       have G41_J8 := Lib.hid (G40_J8.out.below hbx)
       have G41_rx := Lib.hid (G40_rx.out.below hbx)
       have G41_ry := Lib.hid hr
       clear hbx hr
       refine hK.out _ _ (by with_reducible exact X41.out.keep) (fun hHeld => ?_)
       clear hK K
       try simp only [Act.put, sT, sZ, sS]
       refine r1 6 (fun K hK => ?_)
       try simp only [gT, gZ, gS]
       have v0 := G41_J7.out.c0
       have vf0 := G41_J7.out.f 0
       have v1 := G41_J7.out.c1
       have vf1 := G41_J7.out.f 1
       have v2 := G41_J7.out.c2
       have vf2 := G41_J7.out.f 2
       have v3 := G41_J7.out.c3
       have vf3 := G41_J7.out.f 3
       go_simp
       clear v0 v1 v2 v3 vf0 vf1 vf2 vf3
       obtain ⟨W42, hW42⟩ : ∃ V, put4 W41 W0.heap.size sa A40 na c40 ta B40 ma d40 = V := ⟨_, rfl⟩
       refine (congrArg (K _) hW42).mpr ?_
       have X42 := Lib.hid (X41.out.pt G41_J7.out (HX.out.i2.lt) hW42)
       have G42_M := Lib.hid (G41_J7.out.pt hW42)
       have G42_O := Lib.hid (G41_J8.out.pt_far (Ne.symm (Nat.ne_of_lt (Qbx.lt G29_J7.out))) hW42)
       have G42_rx := Lib.hid (G41_rx.out.pt G41_J7.out hW42)
       have G42_ry := Lib.hid (G41_ry.out.pt G41_J7.out hW42)
       clear hW42
       refine hK.out _ _ (by with_reducible exact X42.out.keep) (fun hHeld => ?_)
       clear hK K
       try simp only [Act.put, sT, sZ, sS]
       refine r1 7 (fun K hK => ?_)
       try simp only [gT, gZ, gS]
       have v0 := G42_O.out.c0
       have vf0 := G42_O.out.f 0
       have v1 := G42_O.out.c1
       have vf1 := G42_O.out.f 1
       have v2 := G42_O.out.c2
       have vf2 := G42_O.out.f 2
       have v3 := G42_O.out.c3
       have vf3 := G42_O.out.f 3
       go_simp
       clear v0 v1 v2 v3 vf0 vf1 vf2 vf3
       obtain ⟨W43, hW43⟩ : ∃ V, put4 W42 W29.heap.size sb A41 nb c41 tb B41 mb d41 = V := ⟨_, rfl⟩
       refine (congrArg (K _) hW43).mpr ?_
       have X43 := Lib.hid (X42.out.pt G42_O.out (X29.out.i2.lt) hW43)
       have G43_M := Lib.hid (G42_O.out.pt hW43)
       have G43_O := Lib.hid (G42_M.out.pt_far (Nat.ne_of_lt (Qbx.lt G29_J7.out)) hW43)
       have G43_rx := Lib.hid (G42_rx.out.pt G42_O.out hW43)
       have G43_ry := Lib.hid (G42_ry.out.pt G42_O.out hW43)
       clear hW43
       refine hK.out _ _ (by with_reducible exact X43.out.keep) (fun hHeld => ?_)
       clear hK K
       try simp only [Act.put, sT, sZ, sS]
       refine wpAnyH_done (by kernel_rfl) ?_ _
       go_wp2_with fail
       go_meet
       exact ⟨W0.heap.size, W29.heap.size, _, _, _, _, _, _, _, _, rfl, rfl, X43, G43_O.out, G43_M.out, G43_rx.out, G43_ry.out⟩
   ·try simp only [gT, gZ, gS]
    go_simp
    obtain ⟨W44, hW44⟩ : ∃ V, W0.alloc (Obj.cells #[.bool false, .slice none 0 0, .bool false, .slice none 0 0] 28) = V := ⟨_, rfl⟩
    rw [hW44]
    have X44 := Lib.hid (HX.out.al hW44)
    have G44_J8 := Lib.hid (Qbx.fresh hW44)
    refine hK.out _ _ (by with_reducible exact X44.out.keep) (fun hHeld => ?_)
    clear hK K
    try simp only [Act.put, sT, sZ, sS]
    clear hW44
    refine wpAnyH_ready (rs := [1, 4]) (by kernel_rfl) (by simp) ?_
    refine (AllReadyH.cons rfl (fun K hK => ?_) (AllReadyH.cons rfl (fun K hK => ?_) AllReadyH.nil))
    ·try simp only [gT, gZ, gS]
     go_simp
     with_reducible refine (copy_q X44.out.ra HA0.out HA1.out (Nat.le_trans X44.out.a.le (by omega)) (Nat.le_trans X44.out.a.le2 (by omega))).mono ?_
     rintro e W45 ⟨A45, c45, B45, d45, rfl, hr, hbx⟩
     have X45 := Lib.hid (X44.out.below hbx)
     have G45_J8 := Lib.hid (G44_J8.out.below hbx)
     have G45_rx := Lib.hid hr
     clear hbx hr
     refine hK.out _ _ (by with_reducible exact X45.out.keep) (fun hHeld => ?_)
     clear hK K
     try simp only [Act.put, sT, sZ, sS]
     refine wpAnyH_ready (rs := [3, 4]) (by kernel_rfl) (by simp) ?_
     refine (AllReadyH.cons rfl (fun K hK => ?_) (AllReadyH.cons rfl (fun K hK => ?_) AllReadyH.nil))
     ·try simp only [gT, gZ, gS]
      go_simp
      with_reducible refine (copy_q X45.out.rb HB0.out HB1.out (Nat.le_trans X45.out.b.le (by omega)) (Nat.le_trans X45.out.b.le2 (by omega))).mono ?_
      rintro e W46 ⟨A46, c46, B46, d46, rfl, hr, hbx⟩
      have X46 := Lib.hid (X45.out.below hbx)
      have G46_J8 := Lib.hid (G45_J8.out.below hbx)
      have G46_rx := Lib.hid (G45_rx.out.below hbx)
      have G46_ry := Lib.hid hr
      clear hbx hr
      refine hK.out _ _ (by with_reducible exact X46.out.keep) (fun hHeld => ?_)
      clear hK K
      try simp only [Act.put, sT, sZ, sS]
      refine r1 4 (fun K hK => ?_)
      ·try simp only [gT, gZ, gS]
       go_simp
       obtain ⟨W47, hW47⟩ : ∃ V, W46.alloc (Obj.cells #[.bool false, .slice none 0 0, .bool false, .slice none 0 0] 28) = V := ⟨_, rfl⟩
       rw [hW47]
       have X47 := Lib.hid (X46.out.al hW47)
       have G47_J8 := Lib.hid (G46_J8.out.al hW47)
       have G47_rx := Lib.hid (G46_rx.out.al hW47)
       have G47_ry := Lib.hid (G46_ry.out.al hW47)
       have G47_J7 := Lib.hid (Qbx.fresh hW47)
       refine hK.out _ _ (by with_reducible exact X47.out.keep) (fun hHeld => ?_)
       clear hK K
       try simp only [Act.put, sT, sZ, sS]
       clear hW47
       refine r1 6 (fun K hK => ?_)
       try simp only [gT, gZ, gS]
       have v0 := G47_J7.out.c0
       have vf0 := G47_J7.out.f 0
       have v1 := G47_J7.out.c1
       have vf1 := G47_J7.out.f 1
       have v2 := G47_J7.out.c2
       have vf2 := G47_J7.out.f 2
       have v3 := G47_J7.out.c3
       have vf3 := G47_J7.out.f 3
       go_simp
       clear v0 v1 v2 v3 vf0 vf1 vf2 vf3
       obtain ⟨W48, hW48⟩ : ∃ V, put4 W47 W46.heap.size sa A45 na c45 ta B45 ma d45 = V := ⟨_, rfl⟩
       refine (congrArg (K _) hW48).mpr ?_
       have X48 := Lib.hid (X47.out.pt G47_J7.out (X46.out.i2.lt) hW48)
       have G48_M := Lib.hid (G47_J7.out.pt hW48)
       have G48_O := Lib.hid (G47_J8.out.pt_far (Ne.symm (Nat.ne_of_gt (Qbx.lt G46_J8.out))) hW48)
       have G48_rx := Lib.hid (G47_rx.out.pt G47_J7.out hW48)
       have G48_ry := Lib.hid (G47_ry.out.pt G47_J7.out hW48)
       clear hW48
       refine hK.out _ _ (by with_reducible exact X48.out.keep) (fun hHeld => ?_)
       clear hK K
       try simp only [Act.put, sT, sZ, sS]
       refine r1 7 (fun K hK => ?_)
       try simp only [gT, gZ, gS]
       have v0 := G48_O.out.c0
       have vf0 := G48_O.out.f 0
       have v1 := G48_O.out.c1
       have vf1 := G48_O.out.f 1
       have v2 := G48_O.out.c2
       have vf2 := G48_O.out.f 2
       have v3 := G48_O.out.c3
       have vf3 := G48_O.out.f 3
       go_simp
       clear v0 v1 v2 v3 vf0 vf1 vf2 vf3
       obtain ⟨W49, hW49⟩ : ∃ V, put4 W48 W0.heap.size sb A46 nb c46 tb B46 mb d46 = V := ⟨_, rfl⟩
       refine (congrArg (K _) hW49).mpr ?_
       have X49 := Lib.hid (X48.out.pt G48_O.out (HX.out.i2.lt) hW49)
       have G49_M := Lib.hid (G48_O.out.pt hW49)
       have G49_O := Lib.hid (G48_M.out.pt_far (Nat.ne_of_gt (Qbx.lt G46_J8.out)) hW49)
       have G49_rx := Lib.hid (G48_rx.out.pt G48_O.out hW49)
       have G49_ry := Lib.hid (G48_ry.out.pt G48_O.out hW49)
       clear hW49
       refine hK.out _ _ (by with_reducible exact X49.out.keep) (fun hHeld => ?_)
       clear hK K
       try simp only [Act.put, sT, sZ, sS]
       refine wpAnyH_done (by kernel_rfl) ?_ _
       go_wp2_with fail
       go_meet
       exact ⟨W46.heap.size, W0.heap.size, _, _, _, _, _, _, _, _, rfl, rfl, X49, G49_O.out, G49_M.out, G49_rx.out, G49_ry.out⟩
     ·try simp only [gT, gZ, gS]
      go_simp
      obtain ⟨W50, hW50⟩ : ∃ V, W45.alloc (Obj.cells #[.bool false, .slice none 0 0, .bool false, .slice none 0 0] 28) = V := ⟨_, rfl⟩
      rw [hW50]
      have X50 := Lib.hid (X45.out.al hW50)
      have G50_J8 := Lib.hid (G45_J8.out.al hW50)
      have G50_rx := Lib.hid (G45_rx.out.al hW50)
      have G50_J7 := Lib.hid (Qbx.fresh hW50)
      refine hK.out _ _ (by with_reducible exact X50.out.keep) (fun hHeld => ?_)
      clear hK K
      try simp only [Act.put, sT, sZ, sS]
      clear hW50
      refine r1 3 (fun K hK => ?_)
      ·try simp only [gT, gZ, gS]
       go_simp
       with_reducible refine (copy_q X50.out.rb HB0.out HB1.out (Nat.le_trans X50.out.b.le (by omega)) (Nat.le_trans X50.out.b.le2 (by omega))).mono ?_
       rintro e W51 ⟨A51, c51, B51, d51, rfl, hr, hbx⟩
       have X51 := Lib.hid (X50.out.below hbx)
       have G51_J8 := Lib.hid (G50_J8.out.below hbx)
       have G51_rx := Lib.hid (G50_rx.out.below hbx)
       have G51_J7 := Lib.hid (G50_J7.out.below hbx)
       have G51_ry := Lib.hid hr
       clear hbx hr
       refine hK.out _ _ (by with_reducible exact X51.out.keep) (fun hHeld => ?_)
       clear hK K
       try simp only [Act.put, sT, sZ, sS]
       refine r1 6 (fun K hK => ?_)
       try simp only [gT, gZ, gS]
       have v0 := G51_J7.out.c0
       have vf0 := G51_J7.out.f 0
       have v1 := G51_J7.out.c1
       have vf1 := G51_J7.out.f 1
       have v2 := G51_J7.out.c2
       have vf2 := G51_J7.out.f 2
       have v3 := G51_J7.out.c3
       have vf3 := G51_J7.out.f 3
       go_simp
       clear v0 v1 v2 v3 vf0 vf1 vf2 vf3
       obtain ⟨W52, hW52⟩ : ∃ V, put4 W51 W45.heap.size sa A45 na c45 ta B45 ma d45 = V := ⟨_, rfl⟩
       refine (congrArg (K _) hW52).mpr ?_
       have X52 := Lib.hid (X51.out.pt G51_J7.out (X45.out.i2.lt) hW52)
       have G52_M := Lib.hid (G51_J7.out.pt hW52)
       have G52_O := Lib.hid (G51_J8.out.pt_far (Ne.symm (Nat.ne_of_gt (Qbx.lt G45_J8.out))) hW52)
       have G52_rx := Lib.hid (G51_rx.out.pt G51_J7.out hW52)
       have G52_ry := Lib.hid (G51_ry.out.pt G51_J7.out hW52)
       clear hW52
       refine hK.out _ _ (by with_reducible exact X52.out.keep) (fun hHeld => ?_)
       clear hK K
       try simp only [Act.put, sT, sZ, sS]
       refine r1 7 (fun K hK => ?_)
       try simp only [gT, gZ, gS]
       have v0 := G52_O.out.c0
       have vf0 := G52_O.out.f 0
       have v1 := G52_O.out.c1
       have vf1 := G52_O.out.f 1
       have v2 := G52_O.out.c2
       have vf2 := G52_O.out.f 2
       have v3 := G52_O.out.c3
       have vf3 := G52_O.out.f 3
       go_simp
       clear v0 v1 v2 v3 vf0 vf1 vf2 vf3
       obtain ⟨W53, hW53⟩ : ∃ V, put4 W52 W0.heap.size sb A51 nb c51 tb B51 mb d51 = V := ⟨_, rfl⟩
       refine (congrArg (K _) hW53).mpr ?_
       have X53 := Lib.hid (X52.out.pt G52_O.out (HX.out.i2.lt) hW53)
       have G53_M := Lib.hid (G52_O.out.pt hW53)
       have G53_O := Lib.hid (G52_M.out.pt_far (Nat.ne_of_gt (Qbx.lt G45_J8.out)) hW53)
       have G53_rx := Lib.hid (G52_rx.out.pt G52_O.out hW53)
       have G53_ry := Lib.hid (G52_ry.out.pt G52_O.out hW53)
       clear hW53
       refine hK.out _ _ (by with_reducible exact X53.out.keep) (fun hHeld => ?_)
       clear hK K
       try simp only [Act.put, sT, sZ, sS]
       refine wpAnyH_done (by kernel_rfl) ?_ _
       go_wp2_with fail
       go_meet
       exact ⟨W45.heap.size, W0.heap.size, _, _, _, _, _, _, _, _, rfl, rfl, X53, G53_O.out, G53_M.out, G53_rx.out, G53_ry.out⟩
    ·try simp only [gT, gZ, gS]
     go_simp
     obtain ⟨W54, hW54⟩ : ∃ V, W44.alloc (Obj.cells #[.bool false, .slice none 0 0, .bool false, .slice none 0 0] 28) = V := ⟨_, rfl⟩
     rw [hW54]
     have X54 := Lib.hid (X44.out.al hW54)
     have G54_J8 := Lib.hid (G44_J8.out.al hW54)
     have G54_J7 := Lib.hid (Qbx.fresh hW54)
     refine hK.out _ _ (by with_reducible exact X54.out.keep) (fun hHeld => ?_)
     clear hK K
     try simp only [Act.put, sT, sZ, sS]
     clear hW54
     refine r1 1 (fun K hK => ?_)
     ·try simp only [gT, gZ, gS]
      go_simp
      with_reducible refine (copy_q X54.out.ra HA0.out HA1.out (Nat.le_trans X54.out.a.le (by omega)) (Nat.le_trans X54.out.a.le2 (by omega))).mono ?_
      rintro e W55 ⟨A55, c55, B55, d55, rfl, hr, hbx⟩
      have X55 := Lib.hid (X54.out.below hbx)
      have G55_J8 := Lib.hid (G54_J8.out.below hbx)
      have G55_J7 := Lib.hid (G54_J7.out.below hbx)
      have G55_rx := Lib.hid hr
      clear hbx hr
      refine hK.out _ _ (by with_reducible exact X55.out.keep) (fun hHeld => ?_)
      clear hK K
      try simp only [Act.put, sT, sZ, sS]
      refine r1 3 (fun K hK => ?_)
      ·try simp only [gT, gZ, gS]
       go_simp
       with_reducible refine (copy_q X55.out.rb HB0.out HB1.out (Nat.le_trans X55.out.b.le (by omega)) (Nat.le_trans X55.out.b.le2 (by omega))).mono ?_
       rintro e W56 ⟨A56, c56, B56, d56, rfl, hr, hbx⟩
       have X56 := Lib.hid (X55.out.below hbx)
       have G56_J8 := Lib.hid (G55_J8.out.below hbx)
       have G56_J7 := Lib.hid (G55_J7.out.below hbx)
       have G56_rx := Lib.hid (G55_rx.out.below hbx)
       have G56_ry := Lib.hid hr
       clear hbx hr
       refine hK.out _ _ (by with_reducible exact X56.out.keep) (fun hHeld => ?_)
       clear hK K
       try simp only [Act.put, sT, sZ, sS]
       refine r1 6 (fun K hK => ?_)
       try simp only [gT, gZ, gS]
       have v0 := G56_J7.out.c0
       have vf0 := G56_J7.out.f 0
       have v1 := G56_J7.out.c1
       have vf1 := G56_J7.out.f 1
       have v2 := G56_J7.out.c2
       have vf2 := G56_J7.out.f 2
       have v3 := G56_J7.out.c3
       have vf3 := G56_J7.out.f 3
       go_simp
       clear v0 v1 v2 v3 vf0 vf1 vf2 vf3
       obtain ⟨W57, hW57⟩ : ∃ V, put4 W56 W44.heap.size sa A55 na c55 ta B55 ma d55 = V := ⟨_, rfl⟩
       refine (congrArg (K _) hW57).mpr ?_
       have X57 := Lib.hid (X56.out.pt G56_J7.out (X44.out.i2.lt) hW57)
       have G57_M := Lib.hid (G56_J7.out.pt hW57)
       have G57_O := Lib.hid (G56_J8.out.pt_far (Ne.symm (Nat.ne_of_gt (Qbx.lt G44_J8.out))) hW57)
       have G57_rx := Lib.hid (G56_rx.out.pt G56_J7.out hW57)
       have G57_ry := Lib.hid (G56_ry.out.pt G56_J7.out hW57)
       clear hW57
       refine hK.out _ _ (by with_reducible exact X57.out.keep) (fun hHeld => ?_)
       clear hK K
       try simp only [Act.put, sT, sZ, sS]
       refine r1 7 (fun K hK => ?_)
       try simp only [gT, gZ, gS]
       have v0 := G57_O.out.c0
       have vf0 := G57_O.out.f 0
       have v1 := G57_O.out.c1
       have vf1 := G57_O.out.f 1
       have v2 := G57_O.out.c2
       have vf2 := G57_O.out.f 2
       have v3 := G57_O.out.c3
       have vf3 := G57_O.out.f 3
       go_simp
       clear v0 v1 v2 v3 vf0 vf1 vf2 vf3
       obtain ⟨W58, hW58⟩ : ∃ V, put4 W57 W0.heap.size sb A56 nb c56 tb B56 mb d56 = V := ⟨_, rfl⟩
       refine (congrArg (K _) hW58).mpr ?_
       have X58 := Lib.hid (X57.out.pt G57_O.out (HX.out.i2.lt) hW58)
       have G58_M := Lib.hid (G57_O.out.pt hW58)
       have G58_O := Lib.hid (G57_M.out.pt_far (Nat.ne_of_gt (Qbx.lt G44_J8.out)) hW58)
       have G58_rx := Lib.hid (G57_rx.out.pt G57_O.out hW58)
       have G58_ry := Lib.hid (G57_ry.out.pt G57_O.out hW58)
       clear hW58
       refine hK.out _ _ (by with_reducible exact X58.out.keep) (fun hHeld => ?_)
       clear hK K
       try simp only [Act.put, sT, sZ, sS]
       refine wpAnyH_done (by kernel_rfl) ?_ _
       go_wp2_with fail
       go_meet
       exact ⟨W44.heap.size, W0.heap.size, _, _, _, _, _, _, _, _, rfl, rfl, X58, G58_O.out, G58_M.out, G58_rx.out, G58_ry.out⟩
 case rest =>
  clear HX HA0 HA1 HB0 HB1
  obtain ⟨gx, gy, Ax, cx, Bx, dx, Ay, cy, By, dy, rfl, rfl, HX, HIX, HIY, HRX, HRY⟩ := hcut
  
  have k0 := HX.out.i1.c0
  have j0 := HX.out.i2.c0
  have k1 := HX.out.i1.c1
  have j1 := HX.out.i2.c1
  have k2 := HX.out.i1.c2
  have j2 := HX.out.i2.c2
  have k3 := HX.out.i1.c3
  have j3 := HX.out.i2.c3
  go_wp2_with fail
  refine (div_q (HX.out.a.mono (l := 700) (by omega)) (HX.out.b.mono (l := 700) (by omega)) (by omega) (by omega) qu ec HE_qu.out HEC.out).mono ?_
  rintro e wq ⟨sq, Aq, nq, cq, tq, Bq, mq, dq, rfl, hq, hbx⟩
  replace HX := Lib.hid (HX.out.below hbx)
  replace HIX := Lib.hid (HIX.out.below hbx)
  replace HIY := Lib.hid (HIY.out.below hbx)
  replace HRX := Lib.hid (HRX.out.below hbx)
  replace HRY := Lib.hid (HRY.out.below hbx)
  clear hbx k0 k1 k2 k3 j0 j1 j2 j3
  obtain ⟨VQ, hVQ⟩ : ∃ V, wq.alloc (.cells #[.bool sq, .slice Aq nq cq, .bool tq, .slice Bq mq dq] 28) = V := ⟨_, rfl⟩
  have HB : Hid (Below wq.heap.size wq VQ) := by rw [← hVQ]; exact (Below.refl _ _).alloc (Nat.le_refl _) _
  have HIQ : Hid (Qbx VQ wq.heap.size sq Aq nq cq tq Bq mq dq) := by rw [← hVQ]; exact Qbx.new _ _ rfl
  have H5 : Hid (T5 w VQ gx gy wq.heap.size sa Aa na ca ta Ba ma da sb Ab nb cb tb Bb mb db xa ya xb yb y z p r Ax cx Bx dx Ay cy By dy sq Aq nq cq tq Bq mq dq qu) := ⟨HX.out.below HB.out, HIX.out.below HB.out, HIY.out.below HB.out, HIQ.out, HRX.out.below HB.out, HRY.out.below HB.out, hq.below HB.out⟩
  clear HX HIX HIY HIQ HRX HRY HB hq
  have HX := H5
  clear H5
  go_upto_region 6 with fail
  go_cut [12] from 43 to 104 (fun s12 wx => s12 = .bool true ∧ Hid (T5 w wx gx gy wq.heap.size sa Aa na ca ta Ba ma da sb Ab nb cb tb Bb mb db xa ya xb yb y z p r Ax cx Bx dx Ay cy By dy sq Aq nq cq tq Bq mq dq qu))
  case first =>
   as_aux_lemma =>
    clear hVQ
    replace HX := Lib.hid HX.out.drew
    refine wp_region_held_drew (S := (fun V => V.cell? ⟨w.heap.size, 0, none⟩ = some (.bool sa) ∧ V.cell? ⟨w.heap.size, 1, none⟩ = some (.slice Aa na ca) ∧ V.cell? ⟨w.heap.size, 2, none⟩ = some (.bool ta) ∧ V.cell? ⟨w.heap.size, 3, none⟩ = some (.slice Ba ma da) ∧ V.cell? ⟨w.heap.size + 1, 0, none⟩ = some (.bool sb) ∧ V.cell? ⟨w.heap.size + 1, 1, none⟩ = some (.slice Ab nb cb) ∧ V.cell? ⟨w.heap.size + 1, 2, none⟩ = some (.bool tb) ∧ V.cell? ⟨w.heap.size + 1, 3, none⟩ = some (.slice Bb mb db) ∧ V.cell? ⟨wq.heap.size, 0, none⟩ = some (.bool sq) ∧ V.cell? ⟨wq.heap.size, 1, none⟩ = some (.slice Aq nq cq) ∧ V.cell? ⟨wq.heap.size, 2, none⟩ = some (.bool tq) ∧ V.cell? ⟨wq.heap.size, 3, none⟩ = some (.slice Bq mq dq))) (by kernel_rfl) (by with_reducible exact HX.out.keep) (fun hHeld => ?_)
    refine' tk 0 ?_
    try simp only [gT, gZ]
    try simp only [Act.put, sT, sZ, sS]
    refine' tk 1 ?_
    try simp only [gT, gZ, gS]
    try simp only [Act.put, sT, sZ, sS]
    refine' tk 2 ?_
    try simp only [gT, gZ, gS]
    try simp only [Act.put, sT, sZ, sS]
    refine' tk 4 ?_
    try simp only [gT, gZ, gS]
    try simp only [Act.put, sT, sZ, sS]
    refine' tk 5 ?_
    try simp only [gT, gZ, gS]
    try simp only [Act.put, sT, sZ, sS]
    refine r1 3 (fun K hK => ?_)
    try simp only [gT, gZ, gS]
    go_simp
    with_reducible refine (add_q (HX.out.t.a.mono (l := 700) (by omega)) (HX.out.t.b.mono (l := 700) (by omega)) (by omega) (by omega) ad HE_ad.out).mono ?_
    rintro e w103 ⟨s_mad, A_mad, n_mad, c_mad, t_mad, B_mad, m_mad, d_mad, rfl, h_mad, hbx⟩
    replace HX := Lib.hid (HX.out.below hbx)
    have H_mad := Lib.hid h_mad
    clear hbx
    refine hK.out _ _ (by with_reducible exact HX.out.keep) (fun hHeld => ?_)
    clear hK K
    try simp only [Act.put, sT, sZ, sS]
    refine r1 6 (fun K hK => ?_)
    try simp only [gT, gZ, gS]
    go_simp
    with_reducible refine (P.add_q (HX.out.t.a.mono (l := 700) (by omega)) (HX.out.t.b.mono (l := 700) (by omega)) (by omega) (by omega) ad HE_ad.out).mono ?_
    rintro e w104 ⟨s_dad, A_dad, n_dad, c_dad, t_dad, B_dad, m_dad, d_dad, rfl, h_dad, hbx⟩
    replace HX := Lib.hid (HX.out.below hbx)
    replace H_mad := Lib.hid (H_mad.out.below hbx)
    have H_dad := Lib.hid h_dad
    clear h_dad
    clear hbx
    refine hK.out _ _ (by with_reducible exact HX.out.keep) (fun hHeld => ?_)
    clear hK K
    try simp only [Act.put, sT, sZ, sS]
    refine r1 7 (fun K hK => ?_)
    try simp only [gT, gZ, gS]
    go_simp
    with_reducible refine (rat_t H_mad.out H_dad.out (Nat.le_trans HL_ad.out (by omega)) rfl).mono ?_
    rintro e w105 ⟨rfl, hbx⟩
    replace HX := Lib.hid (HX.out.below hbx)
    replace H_mad := Lib.hid (H_mad.out.below hbx)
    replace H_dad := Lib.hid (H_dad.out.below hbx)
    clear hbx
    refine hK.out _ _ (by with_reducible exact HX.out.keep) (fun hHeld => ?_)
    clear hK K
    try simp only [Act.put, sT, sZ, sS]
    clear H_mad H_dad
    refine' tk 8 ?_
    try simp only [gT, gZ, gS]
    try simp only [Act.put, sT, sZ, sS]
    refine' tk 9 ?_
    try simp only [gT, gZ, gS]
    try simp only [Act.put, sT, sZ, sS]
    refine' tk 10 ?_
    try simp only [gT, gZ, gS]
    try simp only [Act.put, sT, sZ, sS]
    refine' tk 11 ?_
    try simp only [gT, gZ, gS]
    try simp only [Act.put, sT, sZ, sS]
    refine' tk 13 ?_
    try simp only [gT, gZ, gS]
    try simp only [Act.put, sT, sZ, sS]
    refine' tk 14 ?_
    try simp only [gT, gZ, gS]
    try simp only [Act.put, sT, sZ, sS]
    refine r1 12 (fun K hK => ?_)
    try simp only [gT, gZ, gS]
    go_simp
    with_reducible refine (sub_q (HX.out.t.a.mono (l := 700) (by omega)) (HX.out.t.b.mono (l := 700) (by omega)) (by omega) (by omega) su HE_su.out).mono ?_
    rintro e w106 ⟨s_msu, A_msu, n_msu, c_msu, t_msu, B_msu, m_msu, d_msu, rfl, h_msu, hbx⟩
    replace HX := Lib.hid (HX.out.below hbx)
    have H_msu := Lib.hid h_msu
    clear hbx
    refine hK.out _ _ (by with_reducible exact HX.out.keep) (fun hHeld => ?_)
    clear hK K
    try simp only [Act.put, sT, sZ, sS]
    refine r1 15 (fun K hK => ?_)
    try simp only [gT, gZ, gS]
    go_simp
    with_reducible refine (P.sub_q (HX.out.t.a.mono (l := 700) (by omega)) (HX.out.t.b.mono (l := 700) (by omega)) (by omega) (by omega) su HE_su.out).mono ?_
    rintro e w107 ⟨s_dsu, A_dsu, n_dsu, c_dsu, t_dsu, B_dsu, m_dsu, d_dsu, rfl, h_dsu, hbx⟩
    replace HX := Lib.hid (HX.out.below hbx)
    replace H_msu := Lib.hid (H_msu.out.below hbx)
    have H_dsu := Lib.hid h_dsu
    clear h_dsu
    clear hbx
    refine hK.out _ _ (by with_reducible exact HX.out.keep) (fun hHeld => ?_)
    clear hK K
    try simp only [Act.put, sT, sZ, sS]
    refine r1 16 (fun K hK => ?_)
    try simp only [gT, gZ, gS]
    go_simp
    with_reducible refine (rat_t H_msu.out H_dsu.out (Nat.le_trans HL_su.out (by omega)) rfl).mono ?_
    rintro e w108 ⟨rfl, hbx⟩
    replace HX := Lib.hid (HX.out.below hbx)
    replace H_msu := Lib.hid (H_msu.out.below hbx)
    replace H_dsu := Lib.hid (H_dsu.out.below hbx)
    clear hbx
    refine hK.out _ _ (by with_reducible exact HX.out.keep) (fun hHeld => ?_)
    clear hK K
    try simp only [Act.put, sT, sZ, sS]
    clear H_msu H_dsu
    refine' tk 17 ?_
    try simp only [gT, gZ, gS]
    try simp only [Act.put, sT, sZ, sS]
    refine' tk 18 ?_
    try simp only [gT, gZ, gS]
    try simp only [Act.put, sT, sZ, sS]
    refine' tk 19 ?_
    try simp only [gT, gZ, gS]
    try simp only [Act.put, sT, sZ, sS]
    refine' tk 20 ?_
    try simp only [gT, gZ, gS]
    try simp only [Act.put, sT, sZ, sS]
    refine' tk 21 ?_
    try simp only [gT, gZ, gS]
    try simp only [Act.put, sT, sZ, sS]
    refine' tk 23 ?_
    try simp only [gT, gZ, gS]
    try simp only [Act.put, sT, sZ, sS]
    refine' tk 24 ?_
    try simp only [gT, gZ, gS]
    try simp only [Act.put, sT, sZ, sS]
    refine r1 22 (fun K hK => ?_)
    try simp only [gT, gZ, gS]
    go_simp
    with_reducible refine (mul_q (HX.out.t.a.mono (l := 700) (by omega)) (HX.out.t.b.mono (l := 700) (by omega)) (by omega) (by omega) mu HE_mu.out).mono ?_
    rintro e w109 ⟨s_mmu, A_mmu, n_mmu, c_mmu, t_mmu, B_mmu, m_mmu, d_mmu, rfl, h_mmu, hbx⟩
    replace HX := Lib.hid (HX.out.below hbx)
    have H_mmu := Lib.hid h_mmu
    clear hbx
    refine hK.out _ _ (by with_reducible exact HX.out.keep) (fun hHeld => ?_)
    clear hK K
    try simp only [Act.put, sT, sZ, sS]
    refine r1 25 (fun K hK => ?_)
    try simp only [gT, gZ, gS]
    go_simp
    with_reducible refine (P.mul_q (HX.out.t.a.mono (l := 700) (by omega)) (HX.out.t.b.mono (l := 700) (by omega)) (by omega) (by omega) mu HE_mu.out).mono ?_
    rintro e w110 ⟨s_dmu, A_dmu, n_dmu, c_dmu, t_dmu, B_dmu, m_dmu, d_dmu, rfl, h_dmu, hbx⟩
    replace HX := Lib.hid (HX.out.below hbx)
    replace H_mmu := Lib.hid (H_mmu.out.below hbx)
    have H_dmu := Lib.hid h_dmu
    clear h_dmu
    clear hbx
    refine hK.out _ _ (by with_reducible exact HX.out.keep) (fun hHeld => ?_)
    clear hK K
    try simp only [Act.put, sT, sZ, sS]
    refine r1 26 (fun K hK => ?_)
    try simp only [gT, gZ, gS]
    go_simp
    with_reducible refine (rat_t H_mmu.out H_dmu.out (Nat.le_trans HL_mu.out (by omega)) rfl).mono ?_
    rintro e w111 ⟨rfl, hbx⟩
    replace HX := Lib.hid (HX.out.below hbx)
    replace H_mmu := Lib.hid (H_mmu.out.below hbx)
    replace H_dmu := Lib.hid (H_dmu.out.below hbx)
    clear hbx
    refine hK.out _ _ (by with_reducible exact HX.out.keep) (fun hHeld => ?_)
    clear hK K
    try simp only [Act.put, sT, sZ, sS]
    clear H_mmu H_dmu
    refine' tk 27 ?_
    try simp only [gT, gZ, gS]
    try simp only [Act.put, sT, sZ, sS]
    refine' tk 28 ?_
    try simp only [gT, gZ, gS]
    try simp only [Act.put, sT, sZ, sS]
    refine' tk 29 ?_
    try simp only [gT, gZ, gS]
    try simp only [Act.put, sT, sZ, sS]
    refine' tk 30 ?_
    try simp only [gT, gZ, gS]
    try simp only [Act.put, sT, sZ, sS]
    refine' tk 31 ?_
    try simp only [gT, gZ, gS]
    try simp only [Act.put, sT, sZ, sS]
    refine' tk 33 ?_
    try simp only [gT, gZ, gS]
    try simp only [Act.put, sT, sZ, sS]
    refine' tk 34 ?_
    try simp only [gT, gZ, gS]
    try simp only [Act.put, sT, sZ, sS]
    refine r1 32 (fun K hK => ?_)
    try simp only [gT, gZ, gS]
    go_simp
    with_reducible refine (quo_q (HX.out.t.a.mono (l := 700) (by omega)) (HX.out.t.b.mono (l := 700) (by omega)) (by omega) (by omega) qu HE_qu.out).mono ?_
    rintro e w112 ⟨s_mqu, A_mqu, n_mqu, c_mqu, t_mqu, B_mqu, m_mqu, d_mqu, rfl, h_mqu, hbx⟩
    replace HX := Lib.hid (HX.out.below hbx)
    have H_mqu := Lib.hid h_mqu
    clear hbx
    refine hK.out _ _ (by with_reducible exact HX.out.keep) (fun hHeld => ?_)
    clear hK K
    try simp only [Act.put, sT, sZ, sS]
    refine r1 35 (fun K hK => ?_)
    try simp only [gT, gZ, gS]
    go_simp
    with_reducible refine (P.quo_q (HX.out.t.a.mono (l := 700) (by omega)) (HX.out.t.b.mono (l := 700) (by omega)) (by omega) (by omega) qu HE_qu.out).mono ?_
    rintro e w113 ⟨s_dqu, A_dqu, n_dqu, c_dqu, t_dqu, B_dqu, m_dqu, d_dqu, rfl, h_dqu, hbx⟩
    replace HX := Lib.hid (HX.out.below hbx)
    replace H_mqu := Lib.hid (H_mqu.out.below hbx)
    have H_dqu := Lib.hid h_dqu
    clear h_dqu
    clear hbx
    refine hK.out _ _ (by with_reducible exact HX.out.keep) (fun hHeld => ?_)
    clear hK K
    try simp only [Act.put, sT, sZ, sS]
    refine r1 36 (fun K hK => ?_)
    try simp only [gT, gZ, gS]
    go_simp
    with_reducible refine (rat_t H_mqu.out H_dqu.out (Nat.le_trans HL_qu.out (by omega)) rfl).mono ?_
    rintro e w114 ⟨rfl, hbx⟩
    replace HX := Lib.hid (HX.out.below hbx)
    replace H_mqu := Lib.hid (H_mqu.out.below hbx)
    replace H_dqu := Lib.hid (H_dqu.out.below hbx)
    clear hbx
    refine hK.out _ _ (by with_reducible exact HX.out.keep) (fun hHeld => ?_)
    clear hK K
    try simp only [Act.put, sT, sZ, sS]
    clear H_mqu H_dqu
    refine' tk 37 ?_
    try simp only [gT, gZ, gS]
    try simp only [Act.put, sT, sZ, sS]
    refine' tk 38 ?_
    try simp only [gT, gZ, gS]
    try simp only [Act.put, sT, sZ, sS]
    refine' tk 39 ?_
    try simp only [gT, gZ, gS]
    try simp only [Act.put, sT, sZ, sS]
    refine' tk 40 ?_
    try simp only [gT, gZ, gS]
    try simp only [Act.put, sT, sZ, sS]
    refine' tk 41 ?_
    try simp only [gT, gZ, gS]
    try simp only [Act.put, sT, sZ, sS]
    refine' tk 42 ?_
    try simp only [gT, gZ, gS]
    try simp only [Act.put, sT, sZ, sS]
    refine r1 43 (fun K hK => ?_)
    try simp only [gT, gZ, gS]
    go_simp
    with_reducible refine (P.quo_q (HX.out.t.a.mono (l := 700) (by omega)) (HX.out.t.b.mono (l := 700) (by omega)) (by omega) (by omega) qu HE_qu.out).mono ?_
    rintro e w115 ⟨s_dq, A_dq, n_dq, c_dq, t_dq, B_dq, m_dq, d_dq, rfl, h_dq, hbx⟩
    replace HX := Lib.hid (HX.out.below hbx)
    have H_dq := Lib.hid h_dq
    clear h_dq
    clear hbx
    refine hK.out _ _ (by with_reducible exact HX.out.keep) (fun hHeld => ?_)
    clear hK K
    try simp only [Act.put, sT, sZ, sS]
    refine r1 44 (fun K hK => ?_)
    try simp only [gT, gZ, gS]
    go_simp
    with_reducible refine (rat_t HX.out.q H_dq.out (Nat.le_trans HL_qu.out (by omega)) rfl).mono ?_
    rintro e w116 ⟨rfl, hbx⟩
    replace HX := Lib.hid (HX.out.below hbx)
    replace H_dq := Lib.hid (H_dq.out.below hbx)
    clear hbx
    refine hK.out _ _ (by with_reducible exact HX.out.keep) (fun hHeld => ?_)
    clear hK K
    try simp only [Act.put, sT, sZ, sS]
    clear H_dq
    refine' tk 45 ?_
    try simp only [gT, gZ, gS]
    try simp only [Act.put, sT, sZ, sS]
    refine' tk 46 ?_
    try simp only [gT, gZ, gS]
    try simp only [Act.put, sT, sZ, sS]
    refine' tk 47 ?_
    try simp only [gT, gZ, gS]
    try simp only [Act.put, sT, sZ, sS]
    refine' tk 48 ?_
    try simp only [gT, gZ, gS]
    try simp only [Act.put, sT, sZ, sS]
    refine' tk 49 ?_
    try simp only [gT, gZ, gS]
    try simp only [Act.put, sT, sZ, sS]
    refine r1 50 (fun K hK => ?_)
    try simp only [gT, gZ, gS]
    go_simp
    with_reducible refine (P.sign_q (HX.out.t.b.mono (l := 700) (by omega)) (by omega) (by omega) sgb HK_sgb.out).mono ?_
    rintro e w117 ⟨rfl, hbx⟩
    replace HX := Lib.hid (HX.out.below hbx)
    clear hbx
    refine hK.out _ _ (by with_reducible exact HX.out.keep) (fun hHeld => ?_)
    clear hK K
    try simp only [Act.put, sT, sZ, sS]
    refine' tk 51 ?_
    try simp only [gT, gZ, gS]
    try simp only [Act.put, sT, sZ, sS]
    refine' tk 52 ?_
    try simp only [gT, gZ, gS]
    try simp only [Act.put, sT, sZ, sS]
    refine' tk 53 ?_
    try simp only [gT, gZ, gS]
    try simp only [Act.put, sT, sZ, sS]
    refine' tk 54 ?_
    try simp only [gT, gZ, gS]
    try simp only [Act.put, sT, sZ, sS]
    refine' tk 55 ?_
    try simp only [gT, gZ, gS]
    try simp only [Act.put, sT, sZ, sS]
    refine' tk 56 ?_
    try simp only [gT, gZ, gS]
    try simp only [Act.put, sT, sZ, sS]
    refine' tk 57 ?_
    try simp only [gT, gZ, gS]
    try simp only [Act.put, sT, sZ, sS]
    refine r1 58 (fun K hK => ?_)
    try simp only [gT, gZ, gS]
    go_simp
    with_reducible refine (P.sign_q (HX.out.t.b.mono (l := 700) (by omega)) (by omega) (by omega) sgb HK_sgb.out).mono ?_
    rintro e w118 ⟨rfl, hbx⟩
    replace HX := Lib.hid (HX.out.below hbx)
    clear hbx
    refine hK.out _ _ (by with_reducible exact HX.out.keep) (fun hHeld => ?_)
    clear hK K
    try simp only [Act.put, sT, sZ, sS]
    refine' tk 59 ?_
    try simp only [gT, gZ, gS]
    try simp only [Act.put, sT, sZ, sS]
    refine' tk 60 ?_
    try simp only [gT, gZ, gS]
    try simp only [Act.put, sT, sZ, sS]
    refine' tk 61 ?_
    try simp only [gT, gZ, gS]
    try simp only [Act.put, sT, sZ, sS]
    refine' tk 62 ?_
    try simp only [gT, gZ, gS]
    try simp only [Act.put, sT, sZ, sS]
    refine wpAnyH_done (by kernel_rfl) ?_ _
    go_wp2_with fail
    go_meet
    exact ⟨rfl, HX.out⟩
  case rest =>
   clear HX
   obtain ⟨rfl, HX⟩ := hcut
   clear hVQ
   go_upto_region 7 with fail
   go_cut [13] from 105 to 171 (fun s13 wx => s13 = .bool true ∧ Hid (T5 w wx gx gy wq.heap.size sa Aa na ca ta Ba ma da sb Ab nb cb tb Bb mb db xa ya xb yb y z p r Ax cx Bx dx Ay cy By dy sq Aq nq cq tq Bq mq dq qu))
   case first =>
    as_aux_lemma =>
     simp only [List.append_eq, List.cons_append, List.nil_append]
     replace HX := Lib.hid HX.out.drew
     refine wp_region_held_drew (S := (fun V => V.cell? ⟨w.heap.size, 0, none⟩ = some (.bool sa) ∧ V.cell? ⟨w.heap.size, 1, none⟩ = some (.slice Aa na ca) ∧ V.cell? ⟨w.heap.size, 2, none⟩ = some (.bool ta) ∧ V.cell? ⟨w.heap.size, 3, none⟩ = some (.slice Ba ma da) ∧ V.cell? ⟨w.heap.size + 1, 0, none⟩ = some (.bool sb) ∧ V.cell? ⟨w.heap.size + 1, 1, none⟩ = some (.slice Ab nb cb) ∧ V.cell? ⟨w.heap.size + 1, 2, none⟩ = some (.bool tb) ∧ V.cell? ⟨w.heap.size + 1, 3, none⟩ = some (.slice Bb mb db) ∧ V.cell? ⟨wq.heap.size, 0, none⟩ = some (.bool sq) ∧ V.cell? ⟨wq.heap.size, 1, none⟩ = some (.slice Aq nq cq) ∧ V.cell? ⟨wq.heap.size, 2, none⟩ = some (.bool tq) ∧ V.cell? ⟨wq.heap.size, 3, none⟩ = some (.slice Bq mq dq))) (by kernel_rfl) (by with_reducible exact HX.out.keep) (fun hHeld => ?_)
     refine' tk 0 ?_
     try simp only [gT, gZ]
     try simp only [Act.put, sT, sZ, sS]
     refine' tk 1 ?_
     try simp only [gT, gZ, gS]
     try simp only [Act.put, sT, sZ, sS]
     refine' tk 3 ?_
     try simp only [gT, gZ, gS]
     try simp only [Act.put, sT, sZ, sS]
     refine r1 2 (fun K hK => ?_)
     try simp only [gT, gZ, gS]
     go_simp
     with_reducible refine (norm_q (HX.out.t.a.mono (l := 700) (by omega)) (by omega) (by omega)).mono ?_
     rintro e w119 ⟨s_mp, A_mp, n_mp, c_mp, t_mp, B_mp, m_mp, d_mp, rfl, h_mp, hbx⟩
     replace HX := Lib.hid (HX.out.below hbx)
     have H_mp := Lib.hid h_mp
     clear hbx
     refine hK.out _ _ (by with_reducible exact HX.out.keep) (fun hHeld => ?_)
     clear hK K
     try simp only [Act.put, sT, sZ, sS]
     refine r1 4 (fun K hK => ?_)
     try simp only [gT, gZ, gS]
     go_simp
     with_reducible refine (P.norm_q (HX.out.t.a.mono (l := 700) (by omega)) (by omega) (by omega)).mono ?_
     rintro e w120 ⟨s_dp, A_dp, n_dp, c_dp, t_dp, B_dp, m_dp, d_dp, rfl, h_dp, hbx⟩
     replace HX := Lib.hid (HX.out.below hbx)
     replace H_mp := Lib.hid (H_mp.out.below hbx)
     have H_dp := Lib.hid h_dp
     clear h_dp
     clear hbx
     refine hK.out _ _ (by with_reducible exact HX.out.keep) (fun hHeld => ?_)
     clear hK K
     try simp only [Act.put, sT, sZ, sS]
     refine r1 5 (fun K hK => ?_)
     try simp only [gT, gZ, gS]
     go_simp
     with_reducible refine (rat_t H_mp.out H_dp.out (Nat.le_trans HL_p.out (by omega)) rfl).mono ?_
     rintro e w121 ⟨rfl, hbx⟩
     replace HX := Lib.hid (HX.out.below hbx)
     replace H_mp := Lib.hid (H_mp.out.below hbx)
     replace H_dp := Lib.hid (H_dp.out.below hbx)
     clear hbx
     refine hK.out _ _ (by with_reducible exact HX.out.keep) (fun hHeld => ?_)
     clear hK K
     try simp only [Act.put, sT, sZ, sS]
     clear H_mp H_dp
     refine' tk 6 ?_
     try simp only [gT, gZ, gS]
     try simp only [Act.put, sT, sZ, sS]
     refine' tk 7 ?_
     try simp only [gT, gZ, gS]
     try simp only [Act.put, sT, sZ, sS]
     refine' tk 8 ?_
     try simp only [gT, gZ, gS]
     try simp only [Act.put, sT, sZ, sS]
     refine' tk 9 ?_
     try simp only [gT, gZ, gS]
     try simp only [Act.put, sT, sZ, sS]
     refine' tk 10 ?_
     try simp only [gT, gZ, gS]
     try simp only [Act.put, sT, sZ, sS]
     refine' tk 11 ?_
     try simp only [gT, gZ, gS]
     try simp only [Act.put, sT, sZ, sS]
     refine' tk 13 ?_
     try simp only [gT, gZ, gS]
     try simp only [Act.put, sT, sZ, sS]
     refine' tk 14 ?_
     try simp only [gT, gZ, gS]
     try simp only [Act.put, sT, sZ, sS]
     refine' tk 15 ?_
     try simp only [gT, gZ, gS]
     try simp only [Act.put, sT, sZ, sS]
     refine' tk 16 ?_
     try simp only [gT, gZ, gS]
     try simp only [Act.put, sT, sZ, sS]
     refine r1 12 (fun K hK => ?_)
     try simp only [gT, gZ, gS]
     go_simp
     with_reducible refine (make_q HX.out.t.zn HX.out.t.zd (by omega) (by omega) mk HE_mk.out).mono ?_
     rintro e w122 ⟨s_mmk, A_mmk, n_mmk, c_mmk, t_mmk, B_mmk, m_mmk, d_mmk, rfl, h_mmk, hbx⟩
     replace HX := Lib.hid (HX.out.below hbx)
     have H_mmk := Lib.hid h_mmk
     clear h_mmk
     clear hbx
     refine hK.out _ _ (by with_reducible exact HX.out.keep) (fun hHeld => ?_)
     clear hK K
     try simp only [Act.put, sT, sZ, sS]
     refine r1 17 (fun K hK => ?_)
     try simp only [gT, gZ, gS]
     go_simp
     with_reducible refine (P.make_q HX.out.t.zn HX.out.t.zd (by omega) (by omega) mk HE_mk.out).mono ?_
     rintro e w123 ⟨s_dmk, A_dmk, n_dmk, c_dmk, t_dmk, B_dmk, m_dmk, d_dmk, rfl, h_dmk, hbx⟩
     replace HX := Lib.hid (HX.out.below hbx)
     replace H_mmk := Lib.hid (H_mmk.out.below hbx)
     have H_dmk := Lib.hid h_dmk
     clear h_dmk
     clear hbx
     refine hK.out _ _ (by with_reducible exact HX.out.keep) (fun hHeld => ?_)
     clear hK K
     try simp only [Act.put, sT, sZ, sS]
     refine r1 18 (fun K hK => ?_)
     try simp only [gT, gZ, gS]
     go_simp
     with_reducible refine (rat_t H_mmk.out H_dmk.out (Nat.le_trans HL_mk.out (by omega)) rfl).mono ?_
     rintro e w124 ⟨rfl, hbx⟩
     replace HX := Lib.hid (HX.out.below hbx)
     replace H_mmk := Lib.hid (H_mmk.out.below hbx)
     replace H_dmk := Lib.hid (H_dmk.out.below hbx)
     clear hbx
     refine hK.out _ _ (by with_reducible exact HX.out.keep) (fun hHeld => ?_)
     clear hK K
     try simp only [Act.put, sT, sZ, sS]
     clear H_mmk H_dmk
     refine' tk 19 ?_
     try simp only [gT, gZ, gS]
     try simp only [Act.put, sT, sZ, sS]
     refine' tk 20 ?_
     try simp only [gT, gZ, gS]
     try simp only [Act.put, sT, sZ, sS]
     refine' tk 21 ?_
     try simp only [gT, gZ, gS]
     try simp only [Act.put, sT, sZ, sS]
     refine' tk 22 ?_
     try simp only [gT, gZ, gS]
     try simp only [Act.put, sT, sZ, sS]
     refine' tk 23 ?_
     try simp only [gT, gZ, gS]
     try simp only [Act.put, sT, sZ, sS]
     refine' tk 25 ?_
     try simp only [gT, gZ, gS]
     try simp only [Act.put, sT, sZ, sS]
     refine' tk 26 ?_
     try simp only [gT, gZ, gS]
     try simp only [Act.put, sT, sZ, sS]
     refine' tk 27 ?_
     try simp only [gT, gZ, gS]
     try simp only [Act.put, sT, sZ, sS]
     refine r1 24 (fun K hK => ?_)
     try simp only [gT, gZ, gS]
     go_simp
     with_reducible refine (whole_q HX.out.t.zn (by omega) wh HE_wh.out).mono ?_
     rintro e w125 ⟨s_mwh, A_mwh, n_mwh, c_mwh, t_mwh, B_mwh, m_mwh, d_mwh, rfl, h_mwh, hbx⟩
     replace HX := Lib.hid (HX.out.below hbx)
     have H_mwh := Lib.hid h_mwh
     clear h_mwh
     clear hbx
     refine hK.out _ _ (by with_reducible exact HX.out.keep) (fun hHeld => ?_)
     clear hK K
     try simp only [Act.put, sT, sZ, sS]
     refine r1 28 (fun K hK => ?_)
     try simp only [gT, gZ, gS]
     go_simp
     with_reducible refine (P.norm_q (isq_num HX.out.t.zn HE_wh.out) (by omega) (by omega)).mono ?_
     rintro e w126 ⟨s_dwh, A_dwh, n_dwh, c_dwh, t_dwh, B_dwh, m_dwh, d_dwh, rfl, h_dwh, hbx⟩
     replace HX := Lib.hid (HX.out.below hbx)
     replace H_mwh := Lib.hid (H_mwh.out.below hbx)
     have H_dwh := Lib.hid h_dwh
     clear h_dwh
     clear hbx
     refine hK.out _ _ (by with_reducible exact HX.out.keep) (fun hHeld => ?_)
     clear hK K
     try simp only [Act.put, sT, sZ, sS]
     refine r1 29 (fun K hK => ?_)
     try simp only [gT, gZ, gS]
     go_simp
     with_reducible refine (rat_t H_mwh.out H_dwh.out (Nat.le_trans HL_wh.out (by omega)) rfl).mono ?_
     rintro e w127 ⟨rfl, hbx⟩
     replace HX := Lib.hid (HX.out.below hbx)
     replace H_mwh := Lib.hid (H_mwh.out.below hbx)
     replace H_dwh := Lib.hid (H_dwh.out.below hbx)
     clear hbx
     refine hK.out _ _ (by with_reducible exact HX.out.keep) (fun hHeld => ?_)
     clear hK K
     try simp only [Act.put, sT, sZ, sS]
     clear H_mwh H_dwh
     refine' tk 30 ?_
     try simp only [gT, gZ, gS]
     try simp only [Act.put, sT, sZ, sS]
     refine' tk 31 ?_
     try simp only [gT, gZ, gS]
     try simp only [Act.put, sT, sZ, sS]
     refine' tk 32 ?_
     try simp only [gT, gZ, gS]
     try simp only [Act.put, sT, sZ, sS]
     refine' tk 33 ?_
     try simp only [gT, gZ, gS]
     try simp only [Act.put, sT, sZ, sS]
     refine' tk 35 ?_
     try simp only [gT, gZ, gS]
     try simp only [Act.put, sT, sZ, sS]
     refine r1 34 (fun K hK => ?_)
     try simp only [gT, gZ, gS]
     go_simp
     with_reducible refine (neg_q (HX.out.t.a.mono (l := 700) (by omega)) (by omega) (by omega) ng HE_ng.out).mono ?_
     rintro e w128 ⟨s_mng, A_mng, n_mng, c_mng, t_mng, B_mng, m_mng, d_mng, rfl, h_mng, hbx⟩
     replace HX := Lib.hid (HX.out.below hbx)
     have H_mng := Lib.hid h_mng
     clear hbx
     refine hK.out _ _ (by with_reducible exact HX.out.keep) (fun hHeld => ?_)
     clear hK K
     try simp only [Act.put, sT, sZ, sS]
     refine r1 36 (fun K hK => ?_)
     try simp only [gT, gZ, gS]
     go_simp
     with_reducible refine (P.neg_q (HX.out.t.a.mono (l := 700) (by omega)) (by omega) (by omega) ng HE_ng.out).mono ?_
     rintro e w129 ⟨s_dng, A_dng, n_dng, c_dng, t_dng, B_dng, m_dng, d_dng, rfl, h_dng, hbx⟩
     replace HX := Lib.hid (HX.out.below hbx)
     replace H_mng := Lib.hid (H_mng.out.below hbx)
     have H_dng := Lib.hid h_dng
     clear h_dng
     clear hbx
     refine hK.out _ _ (by with_reducible exact HX.out.keep) (fun hHeld => ?_)
     clear hK K
     try simp only [Act.put, sT, sZ, sS]
     refine r1 37 (fun K hK => ?_)
     try simp only [gT, gZ, gS]
     go_simp
     with_reducible refine (rat_t H_mng.out H_dng.out (Nat.le_trans HL_ng.out (by omega)) rfl).mono ?_
     rintro e w130 ⟨rfl, hbx⟩
     replace HX := Lib.hid (HX.out.below hbx)
     replace H_mng := Lib.hid (H_mng.out.below hbx)
     replace H_dng := Lib.hid (H_dng.out.below hbx)
     clear hbx
     refine hK.out _ _ (by with_reducible exact HX.out.keep) (fun hHeld => ?_)
     clear hK K
     try simp only [Act.put, sT, sZ, sS]
     clear H_mng H_dng
     refine' tk 38 ?_
     try simp only [gT, gZ, gS]
     try simp only [Act.put, sT, sZ, sS]
     refine' tk 39 ?_
     try simp only [gT, gZ, gS]
     try simp only [Act.put, sT, sZ, sS]
     refine' tk 40 ?_
     try simp only [gT, gZ, gS]
     try simp only [Act.put, sT, sZ, sS]
     refine' tk 41 ?_
     try simp only [gT, gZ, gS]
     try simp only [Act.put, sT, sZ, sS]
     refine' tk 43 ?_
     try simp only [gT, gZ, gS]
     try simp only [Act.put, sT, sZ, sS]
     refine r1 42 (fun K hK => ?_)
     try simp only [gT, gZ, gS]
     go_simp
     with_reducible refine (abs_q (HX.out.t.a.mono (l := 700) (by omega)) (by omega) (by omega) ab HE_ab.out).mono ?_
     rintro e w131 ⟨s_mab, A_mab, n_mab, c_mab, t_mab, B_mab, m_mab, d_mab, rfl, h_mab, hbx⟩
     replace HX := Lib.hid (HX.out.below hbx)
     have H_mab := Lib.hid h_mab
     clear hbx
     refine hK.out _ _ (by with_reducible exact HX.out.keep) (fun hHeld => ?_)
     clear hK K
     try simp only [Act.put, sT, sZ, sS]
     refine r1 44 (fun K hK => ?_)
     try simp only [gT, gZ, gS]
     go_simp
     with_reducible refine (P.abs_q (HX.out.t.a.mono (l := 700) (by omega)) (by omega) (by omega) ab HE_ab.out).mono ?_
     rintro e w132 ⟨s_dab, A_dab, n_dab, c_dab, t_dab, B_dab, m_dab, d_dab, rfl, h_dab, hbx⟩
     replace HX := Lib.hid (HX.out.below hbx)
     replace H_mab := Lib.hid (H_mab.out.below hbx)
     have H_dab := Lib.hid h_dab
     clear h_dab
     clear hbx
     refine hK.out _ _ (by with_reducible exact HX.out.keep) (fun hHeld => ?_)
     clear hK K
     try simp only [Act.put, sT, sZ, sS]
     refine r1 45 (fun K hK => ?_)
     try simp only [gT, gZ, gS]
     go_simp
     with_reducible refine (rat_t H_mab.out H_dab.out (Nat.le_trans HL_ab.out (by omega)) rfl).mono ?_
     rintro e w133 ⟨rfl, hbx⟩
     replace HX := Lib.hid (HX.out.below hbx)
     replace H_mab := Lib.hid (H_mab.out.below hbx)
     replace H_dab := Lib.hid (H_dab.out.below hbx)
     clear hbx
     refine hK.out _ _ (by with_reducible exact HX.out.keep) (fun hHeld => ?_)
     clear hK K
     try simp only [Act.put, sT, sZ, sS]
     clear H_mab H_dab
     refine' tk 46 ?_
     try simp only [gT, gZ, gS]
     try simp only [Act.put, sT, sZ, sS]
     refine' tk 47 ?_
     try simp only [gT, gZ, gS]
     try simp only [Act.put, sT, sZ, sS]
     refine' tk 48 ?_
     try simp only [gT, gZ, gS]
     try simp only [Act.put, sT, sZ, sS]
     refine' tk 49 ?_
     try simp only [gT, gZ, gS]
     try simp only [Act.put, sT, sZ, sS]
     refine' tk 50 ?_
     try simp only [gT, gZ, gS]
     try simp only [Act.put, sT, sZ, sS]
     refine' tk 52 ?_
     try simp only [gT, gZ, gS]
     try simp only [Act.put, sT, sZ, sS]
     refine' tk 53 ?_
     try simp only [gT, gZ, gS]
     try simp only [Act.put, sT, sZ, sS]
     refine r1 51 (fun K hK => ?_)
     try simp only [gT, gZ, gS]
     go_simp
     with_reducible refine (max_q (HX.out.t.a.mono (l := 700) (by omega)) (HX.out.t.b.mono (l := 700) (by omega)) (by omega) (by omega) mx HE_mx.out).mono ?_
     rintro e w134 ⟨s_mmx, A_mmx, n_mmx, c_mmx, t_mmx, B_mmx, m_mmx, d_mmx, rfl, h_mmx, hbx⟩
     replace HX := Lib.hid (HX.out.below hbx)
     have H_mmx := Lib.hid h_mmx
     clear hbx
     refine hK.out _ _ (by with_reducible exact HX.out.keep) (fun hHeld => ?_)
     clear hK K
     try simp only [Act.put, sT, sZ, sS]
     refine r1 54 (fun K hK => ?_)
     try simp only [gT, gZ, gS]
     go_simp
     with_reducible refine (P.max_q (HX.out.t.a.mono (l := 700) (by omega)) (HX.out.t.b.mono (l := 700) (by omega)) (by omega) (by omega) mx HE_mx.out).mono ?_
     rintro e w135 ⟨s_dmx, A_dmx, n_dmx, c_dmx, t_dmx, B_dmx, m_dmx, d_dmx, rfl, h_dmx, hbx⟩
     replace HX := Lib.hid (HX.out.below hbx)
     replace H_mmx := Lib.hid (H_mmx.out.below hbx)
     have H_dmx := Lib.hid h_dmx
     clear h_dmx
     clear hbx
     refine hK.out _ _ (by with_reducible exact HX.out.keep) (fun hHeld => ?_)
     clear hK K
     try simp only [Act.put, sT, sZ, sS]
     refine r1 55 (fun K hK => ?_)
     try simp only [gT, gZ, gS]
     go_simp
     with_reducible refine (rat_t H_mmx.out H_dmx.out (Nat.le_trans HL_mx.out (by omega)) rfl).mono ?_
     rintro e w136 ⟨rfl, hbx⟩
     replace HX := Lib.hid (HX.out.below hbx)
     replace H_mmx := Lib.hid (H_mmx.out.below hbx)
     replace H_dmx := Lib.hid (H_dmx.out.below hbx)
     clear hbx
     refine hK.out _ _ (by with_reducible exact HX.out.keep) (fun hHeld => ?_)
     clear hK K
     try simp only [Act.put, sT, sZ, sS]
     clear H_mmx H_dmx
     refine' tk 56 ?_
     try simp only [gT, gZ, gS]
     try simp only [Act.put, sT, sZ, sS]
     refine' tk 57 ?_
     try simp only [gT, gZ, gS]
     try simp only [Act.put, sT, sZ, sS]
     refine' tk 58 ?_
     try simp only [gT, gZ, gS]
     try simp only [Act.put, sT, sZ, sS]
     refine' tk 59 ?_
     try simp only [gT, gZ, gS]
     try simp only [Act.put, sT, sZ, sS]
     refine' tk 60 ?_
     try simp only [gT, gZ, gS]
     try simp only [Act.put, sT, sZ, sS]
     refine' tk 62 ?_
     try simp only [gT, gZ, gS]
     try simp only [Act.put, sT, sZ, sS]
     refine' tk 63 ?_
     try simp only [gT, gZ, gS]
     try simp only [Act.put, sT, sZ, sS]
     refine r1 61 (fun K hK => ?_)
     try simp only [gT, gZ, gS]
     go_simp
     with_reducible refine (min_q (HX.out.t.a.mono (l := 700) (by omega)) (HX.out.t.b.mono (l := 700) (by omega)) (by omega) (by omega) mn HE_mn.out).mono ?_
     rintro e w137 ⟨s_mmn, A_mmn, n_mmn, c_mmn, t_mmn, B_mmn, m_mmn, d_mmn, rfl, h_mmn, hbx⟩
     replace HX := Lib.hid (HX.out.below hbx)
     have H_mmn := Lib.hid h_mmn
     clear hbx
     refine hK.out _ _ (by with_reducible exact HX.out.keep) (fun hHeld => ?_)
     clear hK K
     try simp only [Act.put, sT, sZ, sS]
     refine r1 64 (fun K hK => ?_)
     try simp only [gT, gZ, gS]
     go_simp
     with_reducible refine (P.min_q (HX.out.t.a.mono (l := 700) (by omega)) (HX.out.t.b.mono (l := 700) (by omega)) (by omega) (by omega) mn HE_mn.out).mono ?_
     rintro e w138 ⟨s_dmn, A_dmn, n_dmn, c_dmn, t_dmn, B_dmn, m_dmn, d_dmn, rfl, h_dmn, hbx⟩
     replace HX := Lib.hid (HX.out.below hbx)
     replace H_mmn := Lib.hid (H_mmn.out.below hbx)
     have H_dmn := Lib.hid h_dmn
     clear h_dmn
     clear hbx
     refine hK.out _ _ (by with_reducible exact HX.out.keep) (fun hHeld => ?_)
     clear hK K
     try simp only [Act.put, sT, sZ, sS]
     refine r1 65 (fun K hK => ?_)
     try simp only [gT, gZ, gS]
     go_simp
     with_reducible refine (rat_t H_mmn.out H_dmn.out (Nat.le_trans HL_mn.out (by omega)) rfl).mono ?_
     rintro e w139 ⟨rfl, hbx⟩
     replace HX := Lib.hid (HX.out.below hbx)
     replace H_mmn := Lib.hid (H_mmn.out.below hbx)
     replace H_dmn := Lib.hid (H_dmn.out.below hbx)
     clear hbx
     refine hK.out _ _ (by with_reducible exact HX.out.keep) (fun hHeld => ?_)
     clear hK K
     try simp only [Act.put, sT, sZ, sS]
     clear H_mmn H_dmn
     refine' tk 66 ?_
     try simp only [gT, gZ, gS]
     try simp only [Act.put, sT, sZ, sS]
     refine' tk 67 ?_
     try simp only [gT, gZ, gS]
     try simp only [Act.put, sT, sZ, sS]
     refine wpAnyH_done (by kernel_rfl) ?_ _
     go_wp2_with fail
     go_meet
     exact ⟨rfl, HX.out⟩
   case rest =>
    clear HX
    obtain ⟨rfl, HX⟩ := hcut
    go_upto_region 8 with fail
    go_cut [14] from 172 to 227 (fun s14 wx => s14 = .bool true ∧ Hid (T5 w wx gx gy wq.heap.size sa Aa na ca ta Ba ma da sb Ab nb cb tb Bb mb db xa ya xb yb y z p r Ax cx Bx dx Ay cy By dy sq Aq nq cq tq Bq mq dq qu))
    case first =>
     as_aux_lemma =>
      replace HX := Lib.hid HX.out.drew
      refine wp_region_held_drew (S := (fun V => V.cell? ⟨w.heap.size, 0, none⟩ = some (.bool sa) ∧ V.cell? ⟨w.heap.size, 1, none⟩ = some (.slice Aa na ca) ∧ V.cell? ⟨w.heap.size, 2, none⟩ = some (.bool ta) ∧ V.cell? ⟨w.heap.size, 3, none⟩ = some (.slice Ba ma da) ∧ V.cell? ⟨w.heap.size + 1, 0, none⟩ = some (.bool sb) ∧ V.cell? ⟨w.heap.size + 1, 1, none⟩ = some (.slice Ab nb cb) ∧ V.cell? ⟨w.heap.size + 1, 2, none⟩ = some (.bool tb) ∧ V.cell? ⟨w.heap.size + 1, 3, none⟩ = some (.slice Bb mb db) ∧ V.cell? ⟨wq.heap.size, 0, none⟩ = some (.bool sq) ∧ V.cell? ⟨wq.heap.size, 1, none⟩ = some (.slice Aq nq cq) ∧ V.cell? ⟨wq.heap.size, 2, none⟩ = some (.bool tq) ∧ V.cell? ⟨wq.heap.size, 3, none⟩ = some (.slice Bq mq dq))) (by kernel_rfl) (by with_reducible exact HX.out.keep) (fun hHeld => ?_)
      refine' tk 0 ?_
      try simp only [gT, gZ]
      try simp only [Act.put, sT, sZ, sS]
      refine' tk 2 ?_
      try simp only [gT, gZ, gS]
      try simp only [Act.put, sT, sZ, sS]
      refine r1 1 (fun K hK => ?_)
      try simp only [gT, gZ, gS]
      go_simp
      with_reducible refine (sign_q (HX.out.t.a.mono (l := 700) (by omega)) (by omega) (sa1) HK_sa1.out).mono ?_
      rintro e w140 ⟨rfl, hbx⟩
      replace HX := Lib.hid (HX.out.below hbx)
      clear hbx
      refine hK.out _ _ (by with_reducible exact HX.out.keep) (fun hHeld => ?_)
      clear hK K
      try simp only [Act.put, sT, sZ, sS]
      refine r1 3 (fun K hK => ?_)
      try simp only [gT, gZ, gS]
      go_simp
      with_reducible refine (P.sign_q (HX.out.t.a.mono (l := 700) (by omega)) (by omega) (by omega) sa1 HK_sa1.out).mono ?_
      rintro e w141 ⟨rfl, hbx⟩
      replace HX := Lib.hid (HX.out.below hbx)
      clear hbx
      refine hK.out _ _ (by with_reducible exact HX.out.keep) (fun hHeld => ?_)
      clear hK K
      try simp only [Act.put, sT, sZ, sS]
      refine' tk 4 ?_
      try simp only [gT, gZ, gS]
      try simp only [Act.put, sT, sZ, sS]
      refine' tk 5 ?_
      try simp only [gT, gZ, gS]
      try simp only [Act.put, sT, sZ, sS]
      refine' tk 6 ?_
      try simp only [gT, gZ, gS]
      try simp only [Act.put, sT, sZ, sS]
      refine' tk 7 ?_
      try simp only [gT, gZ, gS]
      try simp only [Act.put, sT, sZ, sS]
      refine' tk 9 ?_
      try simp only [gT, gZ, gS]
      try simp only [Act.put, sT, sZ, sS]
      refine' tk 10 ?_
      try simp only [gT, gZ, gS]
      try simp only [Act.put, sT, sZ, sS]
      refine r1 8 (fun K hK => ?_)
      try simp only [gT, gZ, gS]
      go_simp
      with_reducible refine (cmp_q (HX.out.t.a.mono (l := 700) (by omega)) (HX.out.t.b.mono (l := 700) (by omega)) (by omega) (by omega) (kk) HK_kk.out).mono ?_
      rintro e w142 ⟨rfl, hbx⟩
      replace HX := Lib.hid (HX.out.below hbx)
      clear hbx
      refine hK.out _ _ (by with_reducible exact HX.out.keep) (fun hHeld => ?_)
      clear hK K
      try simp only [Act.put, sT, sZ, sS]
      refine r1 11 (fun K hK => ?_)
      try simp only [gT, gZ, gS]
      go_simp
      with_reducible refine (P.cmp_q (HX.out.t.a.mono (l := 700) (by omega)) (HX.out.t.b.mono (l := 700) (by omega)) (by omega) (by omega) kk HK_kk.out).mono ?_
      rintro e w143 ⟨rfl, hbx⟩
      replace HX := Lib.hid (HX.out.below hbx)
      clear hbx
      refine hK.out _ _ (by with_reducible exact HX.out.keep) (fun hHeld => ?_)
      clear hK K
      try simp only [Act.put, sT, sZ, sS]
      refine' tk 12 ?_
      try simp only [gT, gZ, gS]
      try simp only [Act.put, sT, sZ, sS]
      refine' tk 13 ?_
      try simp only [gT, gZ, gS]
      try simp only [Act.put, sT, sZ, sS]
      refine' tk 14 ?_
      try simp only [gT, gZ, gS]
      try simp only [Act.put, sT, sZ, sS]
      refine' tk 15 ?_
      try simp only [gT, gZ, gS]
      try simp only [Act.put, sT, sZ, sS]
      refine' tk 16 ?_
      try simp only [gT, gZ, gS]
      try simp only [Act.put, sT, sZ, sS]
      refine' tk 18 ?_
      try simp only [gT, gZ, gS]
      try simp only [Act.put, sT, sZ, sS]
      refine' tk 19 ?_
      try simp only [gT, gZ, gS]
      try simp only [Act.put, sT, sZ, sS]
      refine r1 17 (fun K hK => ?_)
      try simp only [gT, gZ, gS]
      go_simp
      with_reducible refine (same_q (HX.out.t.a.mono (l := 700) (by omega)) (HX.out.t.b.mono (l := 700) (by omega)) (by omega) (by omega) (vb) HVB.out).mono ?_
      rintro e w144 ⟨rfl, hbx⟩
      replace HX := Lib.hid (HX.out.below hbx)
      clear hbx
      refine hK.out _ _ (by with_reducible exact HX.out.keep) (fun hHeld => ?_)
      clear hK K
      try simp only [Act.put, sT, sZ, sS]
      refine r1 20 (fun K hK => ?_)
      try simp only [gT, gZ, gS]
      go_simp
      with_reducible refine (P.cmp_q (HX.out.t.a.mono (l := 700) (by omega)) (HX.out.t.b.mono (l := 700) (by omega)) (by omega) (by omega) kk HK_kk.out).mono ?_
      rintro e w145 ⟨rfl, hbx⟩
      replace HX := Lib.hid (HX.out.below hbx)
      clear hbx
      refine hK.out _ _ (by with_reducible exact HX.out.keep) (fun hHeld => ?_)
      clear hK K
      try simp only [Act.put, sT, sZ, sS]
      refine' tk 21 ?_
      try simp only [gT, gZ, gS]
      try simp only [Act.put, sT, sZ, sS]
      refine' tk 22 ?_
      try simp only [gT, gZ, gS]
      try simp only [Act.put, sT, sZ, sS]
      refine' tk 23 ?_
      try simp only [gT, gZ, gS]
      try simp only [Act.put, sT, sZ, sS]
      refine' tk 24 ?_
      try simp only [gT, gZ, gS]
      try simp only [Act.put, sT, sZ, sS]
      refine' tk 25 ?_
      try simp only [gT, gZ, gS]
      try simp only [Act.put, sT, sZ, sS]
      refine' tk 27 ?_
      try simp only [gT, gZ, gS]
      try simp only [Act.put, sT, sZ, sS]
      refine r1 26 (fun K hK => ?_)
      try simp only [gT, gZ, gS]
      go_simp
      with_reducible refine (iswhole_q (HX.out.t.a.mono (l := 700) (by omega)) (by omega) (by omega) vw HVW.out).mono ?_
      rintro e w146 ⟨rfl, hbx⟩
      replace HX := Lib.hid (HX.out.below hbx)
      clear hbx
      refine hK.out _ _ (by with_reducible exact HX.out.keep) (fun hHeld => ?_)
      clear hK K
      try simp only [Act.put, sT, sZ, sS]
      refine r1 28 (fun K hK => ?_)
      try simp only [gT, gZ, gS]
      go_simp
      with_reducible refine (P.norm_q (HX.out.t.a.mono (l := 700) (by omega)) (by omega) (by omega)).mono ?_
      rintro e w147 ⟨s_n1, A_n1, n_n1, c_n1, t_n1, B_n1, m_n1, d_n1, rfl, h_n1, hbx⟩
      replace HX := Lib.hid (HX.out.below hbx)
      have hm0 : ((m_n1 : Int) == 0) = vw := h_n1.len.trans HVW.out
      have hfd := field_den s_n1 t_n1 A_n1 B_n1 n_n1 c_n1 m_n1 d_n1
      have hfa := field_abs t_n1 B_n1 m_n1 d_n1
      clear h_n1
      clear hbx
      refine hK.out _ _ (by with_reducible exact HX.out.keep) (fun hHeld => ?_)
      clear hK K
      try simp only [Act.put, sT, sZ, sS]
      refine' tk 29 ?_
      try simp only [gT, gZ, gS]
      try simp only [Act.put, sT, sZ, sS]
      refine' tk 30 ?_
      try simp only [gT, gZ, gS]
      try simp only [Act.put, sT, sZ, sS]
      refine' tk 31 ?_
      try simp only [gT, gZ, gS]
      try simp only [Act.put, sT, sZ, sS]
      refine' tk 32 ?_
      try simp only [gT, gZ, gS]
      try simp only [Act.put, sT, sZ, sS]
      refine' tk 33 ?_
      try simp only [gT, gZ, gS]
      try simp only [Act.put, sT, sZ, sS]
      refine' tk 34 ?_
      try simp only [gT, gZ, gS]
      try simp only [Act.put, sT, sZ, sS]
      refine' tk 35 ?_
      try simp only [gT, gZ, gS]
      try simp only [Act.put, sT, sZ, sS]
      refine' tk 36 ?_
      try simp only [gT, gZ, gS]
      try simp only [Act.put, sT, sZ, sS]
      refine' tk 38 ?_
      try simp only [gT, gZ, gS]
      try simp only [Act.put, sT, sZ, sS]
      refine r1 37 (fun K hK => ?_)
      try simp only [gT, gZ, gS]
      go_simp
      with_reducible refine (floor_q (HX.out.t.a.mono (l := 700) (by omega)) (by omega) (by omega) fl HFL.out).mono ?_
      rintro e w148 ⟨s_mfl, A_mfl, n_mfl, c_mfl, rfl, h_mfl, hbx⟩
      replace HX := Lib.hid (HX.out.below hbx)
      have H_mfl := Lib.hid h_mfl
      clear h_mfl
      clear hbx
      refine hK.out _ _ (by with_reducible exact HX.out.keep) (fun hHeld => ?_)
      clear hK K
      try simp only [Act.put, sT, sZ, sS]
      refine r1 39 (fun K hK => ?_)
      try simp only [gT, gZ, gS]
      go_simp
      with_reducible refine (P.floor_q (HX.out.t.a.mono (l := 700) (by omega)) (by omega) (by omega) fl HFL.out).mono ?_
      rintro e w149 ⟨s_dfl, A_dfl, n_dfl, c_dfl, rfl, h_dfl, hbx⟩
      replace HX := Lib.hid (HX.out.below hbx)
      replace H_mfl := Lib.hid (H_mfl.out.below hbx)
      have H_dfl := Lib.hid h_dfl
      clear h_dfl
      clear hbx
      refine hK.out _ _ (by with_reducible exact HX.out.keep) (fun hHeld => ?_)
      clear hK K
      try simp only [Act.put, sT, sZ, sS]
      refine r1 40 (fun K hK => ?_)
      try simp only [gT, gZ, gS]
      go_simp
      with_reducible refine (int_j H_mfl.out H_dfl.out (Nat.le_trans HZF.out (by omega)) true (decide_eq_true rfl)).mono ?_
      rintro e w150 ⟨rfl, hbx⟩
      replace HX := Lib.hid (HX.out.below hbx)
      replace H_mfl := Lib.hid (H_mfl.out.below hbx)
      replace H_dfl := Lib.hid (H_dfl.out.below hbx)
      clear hbx
      refine hK.out _ _ (by with_reducible exact HX.out.keep) (fun hHeld => ?_)
      clear hK K
      try simp only [Act.put, sT, sZ, sS]
      clear H_mfl H_dfl
      refine' tk 41 ?_
      try simp only [gT, gZ, gS]
      try simp only [Act.put, sT, sZ, sS]
      refine' tk 42 ?_
      try simp only [gT, gZ, gS]
      try simp only [Act.put, sT, sZ, sS]
      refine' tk 43 ?_
      try simp only [gT, gZ, gS]
      try simp only [Act.put, sT, sZ, sS]
      refine' tk 45 ?_
      try simp only [gT, gZ, gS]
      try simp only [Act.put, sT, sZ, sS]
      refine r1 44 (fun K hK => ?_)
      try simp only [gT, gZ, gS]
      go_simp
      with_reducible refine (ceil_q (HX.out.t.a.mono (l := 700) (by omega)) (by omega) (by omega) ce HCE.out).mono ?_
      rintro e w151 ⟨s_mce, A_mce, n_mce, c_mce, rfl, h_mce, hbx⟩
      replace HX := Lib.hid (HX.out.below hbx)
      have H_mce := Lib.hid h_mce
      clear h_mce
      clear hbx
      refine hK.out _ _ (by with_reducible exact HX.out.keep) (fun hHeld => ?_)
      clear hK K
      try simp only [Act.put, sT, sZ, sS]
      refine r1 46 (fun K hK => ?_)
      try simp only [gT, gZ, gS]
      go_simp
      with_reducible refine (P.ceil_q (HX.out.t.a.mono (l := 700) (by omega)) (by omega) (by omega) ce HCE.out).mono ?_
      rintro e w152 ⟨s_dce, A_dce, n_dce, c_dce, rfl, h_dce, hbx⟩
      replace HX := Lib.hid (HX.out.below hbx)
      replace H_mce := Lib.hid (H_mce.out.below hbx)
      have H_dce := Lib.hid h_dce
      clear h_dce
      clear hbx
      refine hK.out _ _ (by with_reducible exact HX.out.keep) (fun hHeld => ?_)
      clear hK K
      try simp only [Act.put, sT, sZ, sS]
      refine r1 47 (fun K hK => ?_)
      try simp only [gT, gZ, gS]
      go_simp
      with_reducible refine (int_j H_mce.out H_dce.out (Nat.le_trans HZC.out (by omega)) true (decide_eq_true rfl)).mono ?_
      rintro e w153 ⟨rfl, hbx⟩
      replace HX := Lib.hid (HX.out.below hbx)
      replace H_mce := Lib.hid (H_mce.out.below hbx)
      replace H_dce := Lib.hid (H_dce.out.below hbx)
      clear hbx
      refine hK.out _ _ (by with_reducible exact HX.out.keep) (fun hHeld => ?_)
      clear hK K
      try simp only [Act.put, sT, sZ, sS]
      clear H_mce H_dce
      refine' tk 48 ?_
      try simp only [gT, gZ, gS]
      try simp only [Act.put, sT, sZ, sS]
      refine' tk 49 ?_
      try simp only [gT, gZ, gS]
      try simp only [Act.put, sT, sZ, sS]
      refine' tk 50 ?_
      try simp only [gT, gZ, gS]
      try simp only [Act.put, sT, sZ, sS]
      refine' tk 52 ?_
      try simp only [gT, gZ, gS]
      try simp only [Act.put, sT, sZ, sS]
      refine r1 51 (fun K hK => ?_)
      try simp only [gT, gZ, gS]
      go_simp
      with_reducible refine (text_q (HX.out.t.a.mono (l := 700) (by omega)) (by omega) (by omega) (HT.out.below HX.out.t.bel) tx HTX.out).mono ?_
      rintro e w154 ⟨rfl, hbx⟩
      replace HX := Lib.hid (HX.out.below hbx)
      clear hbx
      refine hK.out _ _ (by with_reducible exact HX.out.keep) (fun hHeld => ?_)
      clear hK K
      try simp only [Act.put, sT, sZ, sS]
      refine r1 53 (fun K hK => ?_)
      try simp only [gT, gZ, gS]
      go_simp
      with_reducible refine (P.text_q (HX.out.t.a.mono (l := 700) (by omega)) (by omega) (by omega) tx HTX.out).mono ?_
      rintro e w155 ⟨rfl, hbx⟩
      replace HX := Lib.hid (HX.out.below hbx)
      clear hbx
      refine hK.out _ _ (by with_reducible exact HX.out.keep) (fun hHeld => ?_)
      clear hK K
      try simp only [Act.put, sT, sZ, sS]
      refine' tk 54 ?_
      try simp only [gT, gZ, gS]
      try simp only [Act.put, sT, sZ, sS]
      refine' tk 55 ?_
      try simp only [gT, gZ, gS]
      try simp only [Act.put, sT, sZ, sS]
      refine' tk 56 ?_
      try simp only [gT, gZ, gS]
      try simp only [Act.put, sT, sZ, sS]
      refine wpAnyH_done (by kernel_rfl) ?_ _
      go_wp2_with fail
      go_meet
      exact ⟨rfl, HX.out⟩
    case rest =>
     clear HX
     obtain ⟨rfl, HX⟩ := hcut
     go_wp2_with fail
     refine (parse_q _ l pv code HPV.out (Nat.le_trans HLL.out (by omega))).mono ?_
     rintro e wm ⟨s_m, A_m, n_m, c_m, t_m, B_m, m_m, d_m, rfl, h_m, hbx⟩
     replace HX := Lib.hid (HX.out.below hbx)
     obtain ⟨Vm, hVm⟩ : ∃ V, wm.alloc (.cells #[.bool s_m, .slice A_m n_m c_m, .bool t_m, .slice B_m m_m d_m] 28) = V := ⟨_, rfl⟩
     have HVm : Hid (Below wm.heap.size wm Vm) := by rw [← hVm]; exact (Below.refl _ _).alloc (Nat.le_refl _) _
     have HIm : Hid (Qbx Vm wm.heap.size s_m A_m n_m c_m t_m B_m m_m d_m) := by rw [← hVm]; exact Qbx.new _ _ rfl
     have H_m := Lib.hid (h_m.below HVm.out)
     replace HX := Lib.hid (HX.out.below HVm.out)
     clear hbx h_m HVm
     go_wp2_with fail
     refine (P.parse_q _ l pv code HPV.out HLL.out).mono ?_
     rintro e wd ⟨s_d, A_d, n_d, c_d, t_d, B_d, m_d, d_d, rfl, h_d, hbx⟩
     replace HX := Lib.hid (HX.out.below hbx)
     replace H_m := Lib.hid (H_m.out.below hbx)
     replace HIm := Lib.hid (HIm.out.below hbx)
     obtain ⟨Vd, hVd⟩ : ∃ V, wd.alloc (.cells #[.bool s_d, .slice A_d n_d c_d, .bool t_d, .slice B_d m_d d_d] 28) = V := ⟨_, rfl⟩
     have HVd : Hid (Below wd.heap.size wd Vd) := by rw [← hVd]; exact (Below.refl _ _).alloc (Nat.le_refl _) _
     have HId : Hid (Qbx Vd wd.heap.size s_d A_d n_d c_d t_d B_d m_d d_d) := by rw [← hVd]; exact Qbx.new _ _ rfl
     have H_d := Lib.hid (h_d.below HVd.out)
     replace HX := Lib.hid (HX.out.below HVd.out)
     replace H_m := Lib.hid (H_m.out.below HVd.out)
     replace HIm := Lib.hid (HIm.out.below HVd.out)
     clear hbx h_d HVd
     clear hVm
     have k0 := HIm.out.c0
     have j0 := HId.out.c0
     have k1 := HIm.out.c1
     have j1 := HId.out.c1
     have k2 := HIm.out.c2
     have j2 := HId.out.c2
     have k3 := HIm.out.c3
     have j3 := HId.out.c3
     go_wp2_with fail
     clear k0 k1 k2 k3 j0 j1 j2 j3
     refine (rat_t H_m.out H_d.out (Nat.le_trans HPL.out (by omega)) rfl).mono ?_
     rintro e w206 ⟨rfl, hbx⟩
     replace HX := Lib.hid (HX.out.below hbx)
     clear hbx
     clear hVd
     have k0 := HX.out.ix.c0
     have j0 := HX.out.t.i1.c0
     have k1 := HX.out.ix.c1
     have j1 := HX.out.t.i1.c1
     have k2 := HX.out.ix.c2
     have j2 := HX.out.t.i1.c2
     have k3 := HX.out.ix.c3
     have j3 := HX.out.t.i1.c3
     go_wp2_with fail
     clear k0 k1 k2 k3 j0 j1 j2 j3
     refine (rat_raw HX.out.rx HX.out.t.ra (Nat.le_trans HX.out.t.a.le (by omega)) (Nat.le_trans HX.out.t.a.le2 (by omega))).mono ?_
     rintro e w207 ⟨rfl, hbx⟩
     replace HX := Lib.hid (HX.out.below hbx)
     clear hbx
     have k0 := HX.out.iy.c0
     have j0 := HX.out.t.i2.c0
     have k1 := HX.out.iy.c1
     have j1 := HX.out.t.i2.c1
     have k2 := HX.out.iy.c2
     have j2 := HX.out.t.i2.c2
     have k3 := HX.out.iy.c3
     have j3 := HX.out.t.i2.c3
     go_wp2_with fail
     clear k0 k1 k2 k3 j0 j1 j2 j3
     refine (rat_raw HX.out.ry HX.out.t.rb (Nat.le_trans HX.out.t.b.le (by omega)) (Nat.le_trans HX.out.t.b.le2 (by omega))).mono ?_
     rintro e w208 ⟨rfl, hbx⟩
     replace HX := Lib.hid (HX.out.below hbx)
     clear hbx
     go_wp2_with fail
     refine (awake_q _ (HT.out.below HX.out.t.bel)).mono ?_
     rintro e w209 ⟨rfl, hbx⟩
     replace HX := Lib.hid (HX.out.below hbx)
     clear hbx
     go_wp2_with fail
     go_ret
     exact ⟨rfl, HX.out.t.bel⟩
end Go.Proofs.YtbbncggaaibheaaGreatDoor.Q
namespace Go.Proofs.YtbbncggaaibheaaGreatDoor.Q
open Go.RowKit
open Go.Proofs.YtbbncggaaibheaaGreatDoor.D (Tab)
set_option maxRecDepth 100000 in
set_option maxHeartbeats 2000000 in
theorem tells_far1 (w : World) (sa : Bool) (Aa : Option Addr) (na ca : Nat) (ta : Bool) (Ba : Option Addr) (ma da : Nat) (sb : Bool) (Ab : Option Addr) (nb cb : Nat) (tb : Bool) (Bb : Option Addr) (mb db : Nat) (l : List UInt8) (h1 : ¬ (na ≤ 5 ∧ ma ≤ 5)) (htab : Tab w) :
  Calls Tryz.prog 4 #[.agg #[.bool sa, .slice Aa na ca, .bool ta, .slice Ba ma da], .agg #[.bool sb, .slice Ab nb cb, .bool tb, .slice Bb mb db], .string ⟨l.toArray⟩] w (RetB w true) := by
 have HT := Lib.hid htab
 have HB : Hid (Below w.heap.size w ((w.alloc (.cells #[.bool sa, .slice Aa na ca, .bool ta, .slice Ba ma da] 28)).alloc (.cells #[.bool sb, .slice Ab nb cb, .bool tb, .slice Bb mb db] 28))) := ((Below.refl _ _).alloc (Nat.le_refl _) _).alloc (by simp) _
 have HI : Hid (Qbx ((w.alloc (.cells #[.bool sa, .slice Aa na ca, .bool ta, .slice Ba ma da] 28)).alloc (.cells #[.bool sb, .slice Ab nb cb, .bool tb, .slice Bb mb db] 28)) (w.heap.size + 1) sb Ab nb cb tb Bb mb db) := Qbx.new _ _ (by simp)
 have HA : Hid (decide (na ≤ 5 ∧ ma ≤ 5) = false) := decide_eq_false h1
 clear h1
 clear htab
 go_enter Tryz.func4, Tryz.ntmps4
 go_wp2_with fail
 refine (shortrat_j _ sa ta Aa Ba na ca ma da 5 false HA.out).mono ?_
 rintro e w1 ⟨rfl, hbx⟩
 replace HB := Lib.hid (below_on HB.out hbx)
 replace HI := Lib.hid (HI.out.below hbx)
 clear hbx
 go_wp2_with fail
 refine (awake_q _ (HT.out.below HB.out)).mono ?_
 rintro e w9 ⟨rfl, hbx⟩
 replace HB := Lib.hid (below_on HB.out hbx)
 clear hbx
 go_wp2_with fail
 go_ret
 exact ⟨rfl, HB.out⟩
set_option maxRecDepth 100000 in
set_option maxHeartbeats 2000000 in
theorem tells_far2 (w : World) (sa : Bool) (Aa : Option Addr) (na ca : Nat) (ta : Bool) (Ba : Option Addr) (ma da : Nat) (sb : Bool) (Ab : Option Addr) (nb cb : Nat) (tb : Bool) (Bb : Option Addr) (mb db : Nat) (l : List UInt8) (h1 : na ≤ 5 ∧ ma ≤ 5) (h2 : ¬ (nb ≤ 5 ∧ mb ≤ 5)) (htab : Tab w) :
  Calls Tryz.prog 4 #[.agg #[.bool sa, .slice Aa na ca, .bool ta, .slice Ba ma da], .agg #[.bool sb, .slice Ab nb cb, .bool tb, .slice Bb mb db], .string ⟨l.toArray⟩] w (RetB w true) := by
 have HT := Lib.hid htab
 have HB : Hid (Below w.heap.size w ((w.alloc (.cells #[.bool sa, .slice Aa na ca, .bool ta, .slice Ba ma da] 28)).alloc (.cells #[.bool sb, .slice Ab nb cb, .bool tb, .slice Bb mb db] 28))) := ((Below.refl _ _).alloc (Nat.le_refl _) _).alloc (by simp) _
 have HI : Hid (Qbx ((w.alloc (.cells #[.bool sa, .slice Aa na ca, .bool ta, .slice Ba ma da] 28)).alloc (.cells #[.bool sb, .slice Ab nb cb, .bool tb, .slice Bb mb db] 28)) (w.heap.size + 1) sb Ab nb cb tb Bb mb db) := Qbx.new _ _ (by simp)
 have HA : Hid (decide (na ≤ 5 ∧ ma ≤ 5) = true) := decide_eq_true h1
 have HBB : Hid (decide (nb ≤ 5 ∧ mb ≤ 5) = false) := decide_eq_false h2
 clear h1 h2
 clear htab
 go_enter Tryz.func4, Tryz.ntmps4
 go_wp2_with fail
 refine (shortrat_j _ sa ta Aa Ba na ca ma da 5 true HA.out).mono ?_
 rintro e w1 ⟨rfl, hbx⟩
 replace HB := Lib.hid (below_on HB.out hbx)
 replace HI := Lib.hid (HI.out.below hbx)
 clear hbx
 have k0 := HI.out.c0
 have k1 := HI.out.c1
 have k2 := HI.out.c2
 have k3 := HI.out.c3
 go_wp2_with fail
 refine (shortrat_j _ sb tb Ab Bb nb cb mb db 5 false HBB.out).mono ?_
 rintro e w2 ⟨rfl, hbx⟩
 replace HB := Lib.hid (below_on HB.out hbx)
 replace HI := Lib.hid (HI.out.below hbx)
 clear hbx
 go_wp2_with fail
 refine (awake_q _ (HT.out.below HB.out)).mono ?_
 rintro e w9 ⟨rfl, hbx⟩
 replace HB := Lib.hid (below_on HB.out hbx)
 clear hbx
 go_wp2_with fail
 go_ret
 exact ⟨rfl, HB.out⟩
set_option maxRecDepth 100000 in
set_option maxHeartbeats 2000000 in
theorem tells_far3 (w : World) (sa : Bool) (Aa : Option Addr) (na ca : Nat) (ta : Bool) (Ba : Option Addr) (ma da : Nat) (sb : Bool) (Ab : Option Addr) (nb cb : Nat) (tb : Bool) (Bb : Option Addr) (mb db : Nat) (l : List UInt8) (h1 : na ≤ 5 ∧ ma ≤ 5) (h2 : nb ≤ 5 ∧ mb ≤ 5) (hl : ¬ l.length ≤ 1300) (htab : Tab w) :
  Calls Tryz.prog 4 #[.agg #[.bool sa, .slice Aa na ca, .bool ta, .slice Ba ma da], .agg #[.bool sb, .slice Ab nb cb, .bool tb, .slice Bb mb db], .string ⟨l.toArray⟩] w (RetB w true) := by
 have HT := Lib.hid htab
 have HB : Hid (Below w.heap.size w ((w.alloc (.cells #[.bool sa, .slice Aa na ca, .bool ta, .slice Ba ma da] 28)).alloc (.cells #[.bool sb, .slice Ab nb cb, .bool tb, .slice Bb mb db] 28))) := ((Below.refl _ _).alloc (Nat.le_refl _) _).alloc (by simp) _
 have HI : Hid (Qbx ((w.alloc (.cells #[.bool sa, .slice Aa na ca, .bool ta, .slice Ba ma da] 28)).alloc (.cells #[.bool sb, .slice Ab nb cb, .bool tb, .slice Bb mb db] 28)) (w.heap.size + 1) sb Ab nb cb tb Bb mb db) := Qbx.new _ _ (by simp)
 have HA : Hid (decide (na ≤ 5 ∧ ma ≤ 5) = true) := decide_eq_true h1
 have HBB : Hid (decide (nb ≤ 5 ∧ mb ≤ 5) = true) := decide_eq_true h2
 have hl1 : (1300 : Int) < (l.length : Int) := by omega
 clear h1 h2 hl
 clear htab
 go_enter Tryz.func4, Tryz.ntmps4
 go_wp2_with fail
 refine (shortrat_j _ sa ta Aa Ba na ca ma da 5 true HA.out).mono ?_
 rintro e w1 ⟨rfl, hbx⟩
 replace HB := Lib.hid (below_on HB.out hbx)
 replace HI := Lib.hid (HI.out.below hbx)
 clear hbx
 have k0 := HI.out.c0
 have k1 := HI.out.c1
 have k2 := HI.out.c2
 have k3 := HI.out.c3
 go_wp2_with fail
 refine (shortrat_j _ sb tb Ab Bb nb cb mb db 5 true HBB.out).mono ?_
 rintro e w2 ⟨rfl, hbx⟩
 replace HB := Lib.hid (below_on HB.out hbx)
 replace HI := Lib.hid (HI.out.below hbx)
 clear hbx
 go_wp2_with fail
 refine (awake_q _ (HT.out.below HB.out)).mono ?_
 rintro e w9 ⟨rfl, hbx⟩
 replace HB := Lib.hid (below_on HB.out hbx)
 clear hbx
 go_wp2_with fail
 go_ret
 exact ⟨rfl, HB.out⟩
theorem row_none {w : World} {a : Option Addr} {n c : Nat} {zs : List Int} (h : IsRow w a n c zs) : a = none → c = 0 := by
 intro e
 rcases h with ⟨_, _, h, _⟩ | ⟨x, h, _⟩
 ·exact h
 ·rw [e] at h; cases h
theorem tells_walk (w : World) (sa : Bool) (Aa : Option Addr) (na ca : Nat) (za : List Int) (ta : Bool) (Ba : Option Addr) (ma da : Nat) (ya : List Int) (sb : Bool) (Ab : Option Addr) (nb cb : Nat) (zb : List Int) (tb : Bool) (Bb : Option Addr) (mb db : Nat) (yb : List Int) (s : ByteArray) (h1 : IsRow w Aa na ca za) (h2 : IsRow w Ba ma da ya) (h3 : IsRow w Ab nb cb zb) (h4 : IsRow w Bb mb db yb) (htab : Tab w) :
  Calls Tryz.prog 4 #[.agg #[.bool sa, .slice Aa na ca, .bool ta, .slice Ba ma da], .agg #[.bool sb, .slice Ab nb cb, .bool tb, .slice Bb mb db], .string s] w (RetB w true) := by
 obtain ⟨l, rfl⟩ : ∃ l : List UInt8, s = ⟨l.toArray⟩ := ⟨s.data.toList, by simp⟩
 obtain ⟨p, hp⟩ := isq_rows (s := sa) (t := ta) h1 h2
 obtain ⟨r, hr⟩ := isq_rows (s := sb) (t := tb) h3 h4
 by_cases ha : na ≤ 5 ∧ ma ≤ 5
 ·by_cases hb : nb ≤ 5 ∧ mb ≤ 5
  ·by_cases hl : l.length ≤ 1300
   ·exact tells_core w sa Aa na ca ta Ba ma da sb Ab nb cb tb Bb mb db p r l ⟨hp.ex, ha.1, ha.2, hp.cap, hp.cap2⟩ ⟨hr.ex, hb.1, hb.2, hr.cap, hr.cap2⟩ (row_none h1) (row_none h2) (row_none h3) (row_none h4) hl htab
   ·exact tells_far3 w sa Aa na ca ta Ba ma da sb Ab nb cb tb Bb mb db l ha hb hl htab
  ·exact tells_far2 w sa Aa na ca ta Ba ma da sb Ab nb cb tb Bb mb db l ha hb htab
 ·exact tells_far1 w sa Aa na ca ta Ba ma da sb Ab nb cb tb Bb mb db l ha htab
end Go.Proofs.YtbbncggaaibheaaGreatDoor.Q
