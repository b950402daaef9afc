/- Part 33 of the proof: VRops. -/
import Derived.Test.YthjiacmhhpfokaaGreatK32
namespace Go.Proofs.YthjiacmhhpfokaaGreat
open Act renaming put → aP
open Go.Proofs.Tryz renaming prog → tz
namespace V
open List renaming getElem_toArray → gY, getElem_cons_zero → gZ, getElem_cons_succ → gJ, setIfInBounds_toArray → sT, set_cons_zero → sZ, set_cons_succ → sS
open Lib renaming hid → lh
set_option maxRecDepth 100000
open Go.RowKit
open Q (IsQ OneQ RetQ below_on ql Qbx below_put4)
theorem zero_isq (w : World) : IsQ w false none 0 0 false none 0 0 0 700 := (Q.oneq_zero w 0 0).isq (Nat.le_trans ql_zero1 (by omega))
theorem nm_zero : Nm 1 1 0 := Nm.of_ql ql_zero1
theorem nm_one : Nm 1 1 1 := Nm.of_ql (by
 show max (zl (1 : Rat).num) (dig (1 : Rat).den).length ≤ 1
 have e1 : zl (1 : Rat).num ≤ 1 := zl_small (by decide +kernel) (by decide +kernel)
 have e2 : (dig (1 : Rat).den).length ≤ 1 := dig_length_le (by rw [B64_eq]; decide +kernel)
 omega)
theorem nm_minus : Nm 1 1 (-1) := Nm.of_ql (by
 show max (zl (-1 : Rat).num) (dig (-1 : Rat).den).length ≤ 1
 have e1 : zl (-1 : Rat).num ≤ 1 := zl_small (by decide +kernel) (by decide +kernel)
 have e2 : (dig (-1 : Rat).den).length ≤ 1 := dig_length_le (by rw [B64_eq]; decide +kernel)
 omega)
theorem Fn.qls {p m L : Nat} {F : Int → Rat} (h : Fn p m L F) (hp : p ≤ 700) (hm : m ≤ 700) (a : Int) : ql (F a) ≤ 700 := (h.nm a).ql hp hm
theorem zero_qls (a : Int) : ql ((fun _ : Int => (0 : Rat)) a) ≤ 700 := Nat.le_trans ql_zero1 (by omega)
section
variable {w : World} {A B : Option Addr} {n c m d : Nat} {F G H : Int → Rat} {p l L p2 l2 L2 : Nat}
theorem rnorm_c (hx : VF w A n c F) (hF : Fn p l L F) (hp : p ≤ 700) (hl : l ≤ 700) : Calls tz 19 #[.slice A n c] w (RetC w F) := by
 have hH : fadd F (fmul 0 (fun _ => 0)) = F := by funext a; show F a + 0 * 0 = F a; grind
 have HJ := lh (raxpy_c (zero_isq w) hx (VF.nil w none 0 (fun _ h => by cases h)) hH hF hp hl (Fn.mul nm_zero Fn.zero) (by omega) (by omega) (hF.qls hp hl) zero_qls)
 clear hx hF hp hl hH
 go_enter Tryz.func19, Tryz.ntmps19
 go_wp2_with fail
 refine HJ.out.mono ?_
 rintro e w1 ⟨A1, n1, c1, rfl, hc, hb⟩
 have HR : Hid (RetC w F (.returned (.slice A1 n1 c1)) w1) := ⟨A1, n1, c1, rfl, hc, hb⟩
 clear HJ hc hb
 go_wp2_with fail
 exact ⟨rfl, _, by simp [results, Tryz.results19, go_sem], HR.out⟩
theorem radd_c (hx : VF w A n c F) (hy : VF w B m d G) (hH : fadd F G = H) (hHF : Fn p l L H) (hp : p ≤ 700) (hl : l ≤ 700) (hF : ∀ a, ql (F a) ≤ 700) (hG : Fn p2 l2 L2 G) (hp2 : p2 + 1 ≤ 700) (hl2 : l2 + 1 ≤ 700) : Calls tz 21 #[.slice A n c, .slice B m d] w (RetC w H) := by
 have hH2 : fadd F (fmul 1 G) = H := by rw [← hH]; funext a; show F a + 1 * G a = F a + G a; grind
 have HX := lh hx
 have HY := lh hy
 have HA : Hid (fadd F (fmul 1 G) = H ∧ Fn p l L H ∧ p ≤ 700 ∧ l ≤ 700 ∧ (∀ a, ql (F a) ≤ 700) ∧ Fn p2 l2 L2 G ∧ p2 + 1 ≤ 700 ∧ l2 + 1 ≤ 700) := ⟨hH2, hHF, hp, hl, hF, hG, hp2, hl2⟩
 clear hx hy hH hH2 hHF hp hl hF hG hp2 hl2
 go_enter Tryz.func21, Tryz.ntmps21
 go_wp2_with fail
 refine (Q.P.of_q w 1 1 (by omega) (by omega) (by omega) (by omega) 1 (by decide +kernel)).mono ?_
 rintro e w1 ⟨sq, Aq, nq, cq, tq, Bq, mq, dq, rfl, ho, hb⟩
 have HO := lh ho
 have HB := lh hb
 clear ho hb
 go_wp2_with fail
 refine (raxpy_c (HO.out.isq (nm_one.ql (by omega) (by omega))) (HX.out.below HB.out) (HY.out.below HB.out) HA.out.1 HA.out.2.1 HA.out.2.2.1 HA.out.2.2.2.1 (Fn.mul nm_one HA.out.2.2.2.2.2.1) (by have := HA.out.2.2.2.2.2.2.1; omega) (by have := HA.out.2.2.2.2.2.2.2; omega) HA.out.2.2.2.2.1 (HA.out.2.2.2.2.2.1.qls (by have := HA.out.2.2.2.2.2.2.1; omega) (by have := HA.out.2.2.2.2.2.2.2; omega))).mono ?_
 rintro e w2 ⟨A1, n1, c1, rfl, hc, hb⟩
 have HR : Hid (RetC w H (.returned (.slice A1 n1 c1)) w2) := ⟨A1, n1, c1, rfl, hc, below_on HB.out hb⟩
 clear hc hb
 go_wp2_with fail
 exact ⟨rfl, _, by simp [results, Tryz.results21, go_sem], HR.out⟩
theorem rscale_c {sa : Bool} {Aa : Option Addr} {na ca : Nat} {ta : Bool} {Ba : Option Addr} {ma da : Nat} {q : Rat} (hq : IsQ w sa Aa na ca ta Ba ma da q 700) (hx : VF w A n c F) (hH : fmul q F = H) (hHF : Fn p l L H) (hp : p ≤ 700) (hl : l ≤ 700) (hF : ∀ a, ql (F a) ≤ 700) : Calls tz 25 #[.agg #[.bool sa, .slice Aa na ca, .bool ta, .slice Ba ma da], .slice A n c] w (RetC w H) := by
 obtain ⟨W0, hW0⟩ : ∃ V, w.alloc (.cells #[.bool sa, .slice Aa na ca, .bool ta, .slice Ba ma da] 27) = V := ⟨_, rfl⟩
 have b0 : Below w.heap.size w W0 := by rw [← hW0]; exact (Below.refl _ _).alloc (Nat.le_refl _) _
 have q0 : Qbx W0 w.heap.size sa Aa na ca ta Ba ma da := by rw [← hW0]; exact Qbx.new _ _ rfl
 have hH2 : fadd (fun _ => 0) (fmul q F) = H := by rw [← hH]; funext a; show 0 + q * F a = q * F a; grind
 have HJ := lh (raxpy_c (hq.below b0) (VF.nil W0 none 0 (fun _ h => by cases h)) (hx.below b0) hH2 hHF hp hl (hH ▸ hHF) hp hl zero_qls hF)
 have HB := lh b0
 have e0 := q0.c0
 have e1 := q0.c1
 have e2 := q0.c2
 have e3 := q0.c3
 clear hq hx hH hH2 hHF hp hl hF b0 q0
 go_enter Tryz.func25, Tryz.ntmps25
 go_upto_region 1 with fail
 clear hW0
 go_wp2_with fail
 refine HJ.out.mono ?_
 rintro e w2 ⟨A1, n1, c1, rfl, hc, hb⟩
 have HR : Hid (RetC w H (.returned (.slice A1 n1 c1)) w2) := ⟨A1, n1, c1, rfl, hc, below_on HB.out hb⟩
 clear HJ hc hb e0 e1 e2 e3
 go_wp2_with fail
 exact ⟨rfl, _, by simp [results, Tryz.results25, go_sem], HR.out⟩
theorem CF.zero_iff (h : CF w A n c F) : n = 0 ↔ ∀ a, F a = 0 := by
 refine ⟨fun h0 a => ?_, h.empty⟩
 obtain ⟨ys, h1, h2, _⟩ := h.ex
 have : ys = [] := List.eq_nil_of_length_eq_zero (by rw [← h1.en]; exact h0)
 subst this
 rw [← h2.2 a]
 rfl
theorem rsame_c (hx : VF w A n c F) (hy : VF w B m d G) (hHF : Fn p l L (fadd F (fmul (-1) G))) (hp : p ≤ 700) (hl : l ≤ 700) (hF : ∀ a, ql (F a) ≤ 700) (hG : Fn p2 l2 L2 G) (hp2 : p2 + 1 ≤ 700) (hl2 : l2 + 1 ≤ 700) (v : Bool) (hv : v = true ↔ F = G) : Calls tz 34 #[.slice A n c, .slice B m d] w (RetB w v) := by
 have HX := lh hx
 have HY := lh hy
 have HA : Hid (Fn p l L (fadd F (fmul (-1) G)) ∧ p ≤ 700 ∧ l ≤ 700 ∧ (∀ a, ql (F a) ≤ 700) ∧ Fn p2 l2 L2 G ∧ p2 + 1 ≤ 700 ∧ l2 + 1 ≤ 700) := ⟨hHF, hp, hl, hF, hG, hp2, hl2⟩
 have HV := lh hv
 clear hx hy hHF hp hl hF hG hp2 hl2 hv
 go_enter Tryz.func34, Tryz.ntmps34
 go_wp2_with fail
 refine (Q.P.of_q w (-1) 1 (by omega) (by omega) (by omega) (by omega) (-1) (by decide +kernel)).mono ?_
 rintro e w1 ⟨sq, Aq, nq, cq, tq, Bq, mq, dq, rfl, ho, hb⟩
 have HO := lh ho
 have HB := lh hb
 clear ho hb
 go_wp2_with fail
 refine (raxpy_c (HO.out.isq (nm_minus.ql (by omega) (by omega))) (HX.out.below HB.out) (HY.out.below HB.out) rfl HA.out.1 HA.out.2.1 HA.out.2.2.1 (Fn.mul nm_minus HA.out.2.2.2.2.1) (by have := HA.out.2.2.2.2.2.1; omega) (by have := HA.out.2.2.2.2.2.2; omega) HA.out.2.2.2.1 (HA.out.2.2.2.2.1.qls (by have := HA.out.2.2.2.2.2.1; omega) (by have := HA.out.2.2.2.2.2.2; omega))).mono ?_
 rintro e w2 ⟨A1, n1, c1, rfl, hc, hb⟩
 have HB2 := lh (below_on HB.out hb)
 have g1 : ((n1 : Int) == 0) = v := by
  apply Bool.eq_iff_iff.2
  rw [HV.out, beq_iff_eq]
  constructor
  ·intro h
   have h2 := hc.zero_iff.1 (by omega)
   funext a
   have h3 : F a + -1 * G a = 0 := h2 a
   grind
  ·intro h
   have h2 := hc.zero_iff.2 (fun a => by show F a + -1 * G a = 0; rw [h]; grind)
   omega
 clear hc hb
 go_wp2_with fail
 go_ret
 exact ⟨rfl, HB2.out⟩
end
theorem over_take {f : Int → Rat} {l : List Int} {i : Nat} {x : Int} (h : l[i]? = some x) : over f (l.take (i + 1)) = over f (l.take i) + f x := by
 obtain ⟨h1, e⟩ := List.getElem?_eq_some_iff.1 h
 rw [List.take_succ_eq_append_getElem h1, e, over_append]
 show _ + (f x + 0) = _
 grind
set_option maxHeartbeats 8000000 in
theorem rdot_c {w : World} {A B : Option Addr} {n c m d : Nat} {F G : Int → Rat} {p0 l0 L0 p2 l2 L2 : Nat} (hx : VF w A n c F) (hy : VF w B m d G) (hF : Fn p0 l0 L0 F) (hG : Fn p2 l2 L2 G) (hL : L0 ≤ 1000) (hp : p0 + p2 ≤ 700) (hl : l0 + l2 + 1 ≤ 700) :
  Calls tz 30 #[.slice A n c, .slice B m d] w (fun e w' => ∃ q, DotF F G q ∧ ql q ≤ 700 ∧ Q.RetQ w q e w') := by
 obtain ⟨xs, hx1, hx2, hx3⟩ := vf_out hx
 obtain ⟨W0, hW0⟩ : ∃ V, (w.alloc (.cells #[.bool false, .slice none 0 0, .bool false, .slice none 0 0] 27)).alloc (.cells #[.bool false, .slice none 0 0, .bool false, .slice none 0 0] 27) = V := ⟨_, rfl⟩
 have s0 : SO w W0 false none 0 0 false none 0 0 0 := by rw [← hW0]; exact SO.start w
 have hz0 : W0.heap.size = w.heap.size + 2 := by rw [← hW0]; simp
 obtain ⟨W1, hW1⟩ : ∃ V, W0.alloc (.cells #[.slice A n c] 22) = V := ⟨_, rfl⟩
 have b1 : Below W0.heap.size W0 W1 := by rw [← hW1]; exact (Below.refl _ _).alloc (Nat.le_refl _) _
 have r1 : W1.heap[W0.heap.size]? = some (.cells #[.slice A n c] 22 (0, 0)) := by rw [← hW1]; exact heap_alloc_new W0 _
 have s1 := s0.below b1
 have HAR : Hid (Args W1 W0.heap.size [⟨A, n, c, xs⟩]) := by
  refine ⟨lt_of_block r1, fun j v hj => ?_, fun v hv => ?_⟩
  ·rw [cell_of_row W1 _ j _ _ _ r1]
   match j, hj with
   | 0, hj => obtain rfl := Option.some.inj hj; rfl
  ·obtain rfl := List.mem_singleton.1 hv
   exact ⟨hx1.below s1.bel, hx2⟩
 have HX := lh hx
 have HY := lh hy
 have HS1 := lh s1
 have HZ0 : Hid (w.heap.size + 2 ≤ W1.heap.size) := by have := b1.size; show _ ≤ _; omega
 have HX0 : Hid (∀ a, a ∉ placesOf ⟨A, n, c, xs⟩ → F a = 0) := hx3
 have HLX : Hid ((placesOf ⟨A, n, c, xs⟩).length ≤ 1000) := by show (List.map _ _).length ≤ _; rw [List.length_map]; have := hx1.en; show xs.length ≤ _; omega
 have HSM : Hid (∀ T : List Int, T.Nodup → ql (over (fun a => F a * G a) T) ≤ 700) := fun T hT => (dot_small hF hG hL T hT).ql hp hl
 have HQF : Hid (∀ a, ql (F a) ≤ 700) := hF.qls (by omega) (by omega)
 have HQG : Hid (∀ a, ql (G a) ≤ 700) := hG.qls (by omega) (by omega)
 clear hx hy hF hG hL hp hl hx1 hx2 hx3 s0 s1 b1 r1 hz0
 go_enter Tryz.func30, Tryz.ntmps30
 go_upto_region 2 with fail
 clear hW0
 go_wp2_with fail
 refine (places_any (K := 1) HAR.out rfl (by omega)).mono ?_
 rintro e WP ⟨vp, ps, rfl, hr, ho⟩
 clear hW1 HAR
 obtain ⟨Ap, cp, rfl, hne⟩ := ho.slice
 have hnd : ps.Nodup := hr.up.imp (fun h => by omega)
 have HND := lh hnd
 have HNE : Hid (ps ≠ [] → ∃ g, Ap = some ⟨g, 0, none⟩ ∧ w.heap.size + 2 ≤ g ∧ Ints WP g ps cp) := fun h => by
  obtain ⟨g, h1, h2, h3⟩ := hne h
  exact ⟨g, h1, by have := HZ0.out; omega, h3⟩
 have HPN : Hid (ps.length ≤ 1000) := by
  refine Nat.le_trans (nodup_le (S := placesOf ⟨A, n, c, xs⟩) hnd (fun a ha => ?_)) HLX.out
  obtain ⟨v, hv, h2⟩ := (hr.iff_ a).1 ha
  obtain rfl := List.mem_singleton.1 hv
  exact h2
 have HDF : Hid (DotF F G (over (fun a => F a * G a) ps)) := fun L hL h0 => over_same hnd hL (fun a ha => by
  rw [HX0.out a (fun h => ha ((hr.iff_ a).2 ⟨_, List.mem_singleton.2 rfl, h⟩)), Rat.zero_mul]) h0
 have HS : Hid (SO w WP false none 0 0 false none 0 0 (over (fun a => F a * G a) (ps.take 0))) := HS1.out.below ho.bel
 have HNR := lh (Near.refl (fun b => b = w.heap.size + 1) WP)
 clear hr ho hne hnd HX0 HLX HS1 HZ0
 go_wp2_with fail
 go_loopw [7] (fun iv wr => ∃ (i : Nat) (s : Bool) (A1 : Option Addr) (na ca : Nat) (t : Bool) (B1 : Option Addr) (ma da : Nat), i ≤ ps.length ∧ iv = .int .i64 (i : Int) ∧ Hid (SO w wr s A1 na ca t B1 ma da (over (fun a => F a * G a) (ps.take i))) ∧ Hid (Near (fun b => b = w.heap.size + 1) WP wr)) (fun iv _ => ps.length - (intOf iv).toNat)
 case atStart => exact ⟨0, false, none, 0, 0, false, none, 0, 0, Nat.zero_le _, rfl, HS, HNR⟩
 case round =>
  clear HS HNR
  obtain ⟨i, s, A1, na, ca, t, B1, ma, da, hi, rfl, HS, HNR⟩ := hrel
  by_cases hlt : i < ps.length
  ·have hi1 : (i : Int) < (ps.length : Int) := by omega
   have hi0 : (0 : Int) ≤ (i : Int) := by omega
   have hwi : IntKind.i64.wrap ((i : Int) + 1) = (i : Int) + 1 := by have := HPN.out; rw [IntKind.wrap_i64]; omega
   obtain ⟨p, hpe⟩ : ∃ p, ps[i]? = some p := ⟨_, List.getElem?_eq_getElem hlt⟩
   obtain ⟨gp, hgp, hgl, hint⟩ := HNE.out (by intro e; rw [e] at hpe; cases hpe)
   subst hgp
   have hcp := hint.at_ hpe
   have hlp := hint.lt
   have HK : Hid (∀ V, Near (fun b => b = w.heap.size + 1) WP V → V.cell? ⟨gp, i, none⟩ = some (.int .i64 p)) := fun V hV =>
    (World.cell?_of_block (a := ⟨gp, i, none⟩) (hV.block gp hlp (by omega))).trans hcp
   have hot : over (fun a => F a * G a) (ps.take (i + 1)) = over (fun a => F a * G a) (ps.take i) + F p * G p := over_take (f := fun a => F a * G a) hpe
   have HL1 : Hid (ql (over (fun a => F a * G a) (ps.take i)) ≤ 700) := HSM.out _ (HND.out.sublist (List.take_sublist i ps))
   have HLM : Hid (ql (F p * G p) ≤ 700) := by
    have h9 := HSM.out [p] (List.nodup_cons.2 ⟨by simp, List.nodup_nil⟩)
    have e9 : over (fun a => F a * G a) [p] = F p * G p := by show F p * G p + 0 = _; grind
    rwa [e9] at h9
   obtain ⟨v, hv⟩ : ∃ v, over (fun a => F a * G a) (ps.take i) = v := ⟨_, rfl⟩
   obtain ⟨v2, hv2⟩ : ∃ v, over (fun a => F a * G a) (ps.take (i + 1)) = v := ⟨_, rfl⟩
   rw [hv] at HS hot HL1
   rw [hv2] at hot
   have HV2 := lh hv2
   have HTS : Hid (v + F p * G p = v2) := hot.symm
   clear hpe hint hcp hlp hgl hot hv hv2
   go_upto_region 6 with fail
   obtain ⟨W0, hW0⟩ : ∃ V, wr.drew = V := ⟨_, rfl⟩
   replace HS : Hid (SO w W0 s A1 na ca t B1 ma da v) := by rw [← hW0]; exact HS.out.below ((Below.refl _ _).drew)
   replace HNR : Hid (Near (fun b => b = w.heap.size + 1) WP W0) := by rw [← hW0]; exact HNR.out.below ((Below.refl _ _).drew)
   refine wp_region_held_drew (S := (fun V => V.cell? ⟨gp, i, none⟩ = some (.int .i64 p))) (by kernel_rfl) (by rw [hW0]; with_reducible exact HK.out _ HNR.out) (fun hHeld => ?_)
   rw [hW0] at hHeld ⊢
   clear hW0
   refine' tK 1 ?_
   try simp only [gY, gZ, gJ, aP, sT, sZ, sS]
   refine' tK 2 ?_
   try simp only [gY, gZ, gJ, aP, sT, sZ, sS]
   refine' tK 3 ?_
   try simp only [gY, gZ, gJ, aP, sT, sZ, sS]
   refine' tK 4 ?_
   try simp only [gY, gZ, gJ, aP, sT, sZ, sS]
   refine' tK 5 ?_
   try simp only [gY, gZ, gJ, aP, sT, sZ, sS]
   refine' tK 7 ?_
   try simp only [gY, gZ, gJ, aP, sT, sZ, sS]
   refine' tK 8 ?_
   try simp only [gY, gZ, gJ, aP, sT, sZ, sS]
   refine' tK 9 ?_
   try simp only [gY, gZ, gJ, aP, sT, sZ, sS]
   refine' tK 10 ?_
   try simp only [gY, gZ, gJ, aP, sT, sZ, sS]
   refine' tK 11 ?_
   try simp only [gY, gZ, gJ, aP, sT, sZ, sS]
   refine wpAnyH_ready (rs := [0, 6]) (by kernel_rfl) (by simp) ?_
   refine AllReadyH.cons rfl (fun K hK => ?_) (AllReadyH.cons rfl (fun K hK => ?_) AllReadyH.nil)
   ·try simp only [gY, gZ]
    have v0 := HS.out.tot.c0
    have v1 := HS.out.tot.c1
    have v3 := HS.out.tot.c2
    have v4 := HS.out.tot.c3
    go_simp
    clear v0 v1 v3 v4
    refine hK.out _ _ (by with_reducible exact HK.out _ HNR.out) (fun hHeld => ?_)
    clear hK K
    try simp only [aP, sT, sZ, sS]
    refine rQ 6 (fun K hK => ?_)
    try simp only [gY, gZ, gJ]
    go_simp
    with_reducible refine (rget_c ((HX.out.below HS.out.bel)) p _ rfl).mono ?_
    rintro e wa7 ⟨sa8, Aa8, na8, ca8, ta8, Ba8, ma8, da8, rfl, ho, hbx⟩
    replace HS := lh (HS.out.below hbx)
    replace HNR := lh (HNR.out.below hbx)
    have HOa := lh ho
    clear ho hbx
    refine hK.out _ _ (by with_reducible exact HK.out _ HNR.out) (fun hHeld => ?_)
    clear hK K
    try simp only [aP, sT, sZ, sS]
    refine rQ 12 (fun K hK => ?_)
    try simp only [gY, gZ, gJ]
    go_simp
    with_reducible refine (rget_c ((HY.out.below HS.out.bel)) p _ rfl).mono ?_
    rintro e wb7 ⟨sb8, Ab8, nb8, cb8, tb8, Bb8, mb8, db8, rfl, ho, hbx⟩
    replace HS := lh (HS.out.below hbx)
    replace HNR := lh (HNR.out.below hbx)
    replace HOa := lh (HOa.out.below hbx)
    have HOb := lh ho
    clear ho hbx
    refine hK.out _ _ (by with_reducible exact HK.out _ HNR.out) (fun hHeld => ?_)
    clear hK K
    try simp only [aP, sT, sZ, sS]
    refine rQ 13 (fun K hK => ?_)
    try simp only [gY, gZ, gJ]
    go_simp
    with_reducible refine (Q.P.mul_q (HOa.out.isq (HQF.out p)) (HOb.out.isq (HQG.out p)) (by omega) (by omega) _ rfl).mono ?_
    rintro e wm7 ⟨sm8, Am8, nm8, cm8, tm8, Bm8, mm8, dm8, rfl, ho, hbx⟩
    replace HS := lh (HS.out.below hbx)
    replace HNR := lh (HNR.out.below hbx)
    replace HOa := lh (HOa.out.below hbx)
    replace HOb := lh (HOb.out.below hbx)
    have HOm := lh ho
    clear ho hbx
    refine hK.out _ _ (by with_reducible exact HK.out _ HNR.out) (fun hHeld => ?_)
    clear hK K
    try simp only [aP, sT, sZ, sS]
    refine rQ 14 (fun K hK => ?_)
    try simp only [gY, gZ, gJ]
    go_simp
    with_reducible refine (Q.P.add_q (HS.out.val.isq HL1.out) (HOm.out.isq HLM.out) (by omega) (by omega) v2 HTS.out).mono ?_
    rintro e w5 ⟨s8, A8, n8, c8, t8, B8, m8, d8, rfl, ho, hbx⟩
    replace HS := lh (HS.out.below hbx)
    replace HNR := lh (HNR.out.below hbx)
    replace HOa := lh (HOa.out.below hbx)
    replace HOb := lh (HOb.out.below hbx)
    replace HOm := lh (HOm.out.below hbx)
    have HN5 := lh ho
    clear ho hbx
    refine hK.out _ _ (by with_reducible exact HK.out _ HNR.out) (fun hHeld => ?_)
    clear hK K
    try simp only [aP, sT, sZ, sS]
    obtain ⟨V, hV⟩ : ∃ V, Q.put4 w5 (w.heap.size + 1) s8 A8 n8 c8 t8 B8 m8 d8 = V := ⟨_, rfl⟩
    have HSV : Hid (SO w V s8 A8 n8 c8 t8 B8 m8 d8 v2) := by rw [← hV]; exact HS.out.put HN5.out
    have HNV : Hid (Near (fun b => b = w.heap.size + 1) WP V) := by rw [← hV]; exact (((HNR.out.setCell _ 0 _ rfl).setCell _ 1 _ rfl).setCell _ 2 _ rfl).setCell _ 3 _ rfl
    have v0 := HS.out.tot.c0
    have v1 := HS.out.tot.c1
    have v3 := HS.out.tot.c2
    have v4 := HS.out.tot.c3
    have f0 := HS.out.tot.f 0
    have f1 := HS.out.tot.f 1
    have f2 := HS.out.tot.f 2
    have f3 := HS.out.tot.f 3
    simp only [Q.put4] at hV
    refine rQ 15 (fun K hK => ?_)
    try simp only [gY, gZ, gJ]
    go_simp
    try rw [hV]
    clear hV v0 v1 v3 v4 f0 f1 f2 f3 HS HNR
    refine hK.out _ _ (by with_reducible exact HK.out _ HNV.out) (fun hHeld => ?_)
    clear hK K
    try simp only [aP, sT, sZ, sS]
    refine wpAnyH_done (by kernel_rfl) ?_ _
    go_wp2_with fail
    go_roundw
    case rel => exact ⟨i + 1, s8, A8, n8, c8, t8, B8, m8, d8, by omega, by go_num, by rw [HV2.out]; exact HSV, HNV⟩
    case measure => (simp [intOf]; omega)
   ·try simp only [gY, gZ, gJ]
    go_simp
    with_reducible refine (rget_c ((HX.out.below HS.out.bel)) p _ rfl).mono ?_
    rintro e wa7 ⟨sa8, Aa8, na8, ca8, ta8, Ba8, ma8, da8, rfl, ho, hbx⟩
    replace HS := lh (HS.out.below hbx)
    replace HNR := lh (HNR.out.below hbx)
    have HOa := lh ho
    clear ho hbx
    refine hK.out _ _ (by with_reducible exact HK.out _ HNR.out) (fun hHeld => ?_)
    clear hK K
    try simp only [aP, sT, sZ, sS]
    refine wpAnyH_ready (rs := [0, 12]) (by kernel_rfl) (by simp) ?_
    refine AllReadyH.cons rfl (fun K hK => ?_) (AllReadyH.cons rfl (fun K hK => ?_) AllReadyH.nil)
    ·try simp only [gY, gZ]
     have v0 := HS.out.tot.c0
     have v1 := HS.out.tot.c1
     have v3 := HS.out.tot.c2
     have v4 := HS.out.tot.c3
     go_simp
     clear v0 v1 v3 v4
     refine hK.out _ _ (by with_reducible exact HK.out _ HNR.out) (fun hHeld => ?_)
     clear hK K
     try simp only [aP, sT, sZ, sS]
     refine rQ 12 (fun K hK => ?_)
     try simp only [gY, gZ, gJ]
     go_simp
     with_reducible refine (rget_c ((HY.out.below HS.out.bel)) p _ rfl).mono ?_
     rintro e wb7 ⟨sb8, Ab8, nb8, cb8, tb8, Bb8, mb8, db8, rfl, ho, hbx⟩
     replace HS := lh (HS.out.below hbx)
     replace HNR := lh (HNR.out.below hbx)
     replace HOa := lh (HOa.out.below hbx)
     have HOb := lh ho
     clear ho hbx
     refine hK.out _ _ (by with_reducible exact HK.out _ HNR.out) (fun hHeld => ?_)
     clear hK K
     try simp only [aP, sT, sZ, sS]
     refine rQ 13 (fun K hK => ?_)
     try simp only [gY, gZ, gJ]
     go_simp
     with_reducible refine (Q.P.mul_q (HOa.out.isq (HQF.out p)) (HOb.out.isq (HQG.out p)) (by omega) (by omega) _ rfl).mono ?_
     rintro e wm7 ⟨sm8, Am8, nm8, cm8, tm8, Bm8, mm8, dm8, rfl, ho, hbx⟩
     replace HS := lh (HS.out.below hbx)
     replace HNR := lh (HNR.out.below hbx)
     replace HOa := lh (HOa.out.below hbx)
     replace HOb := lh (HOb.out.below hbx)
     have HOm := lh ho
     clear ho hbx
     refine hK.out _ _ (by with_reducible exact HK.out _ HNR.out) (fun hHeld => ?_)
     clear hK K
     try simp only [aP, sT, sZ, sS]
     refine rQ 14 (fun K hK => ?_)
     try simp only [gY, gZ, gJ]
     go_simp
     with_reducible refine (Q.P.add_q (HS.out.val.isq HL1.out) (HOm.out.isq HLM.out) (by omega) (by omega) v2 HTS.out).mono ?_
     rintro e w5 ⟨s8, A8, n8, c8, t8, B8, m8, d8, rfl, ho, hbx⟩
     replace HS := lh (HS.out.below hbx)
     replace HNR := lh (HNR.out.below hbx)
     replace HOa := lh (HOa.out.below hbx)
     replace HOb := lh (HOb.out.below hbx)
     replace HOm := lh (HOm.out.below hbx)
     have HN5 := lh ho
     clear ho hbx
     refine hK.out _ _ (by with_reducible exact HK.out _ HNR.out) (fun hHeld => ?_)
     clear hK K
     try simp only [aP, sT, sZ, sS]
     obtain ⟨V, hV⟩ : ∃ V, Q.put4 w5 (w.heap.size + 1) s8 A8 n8 c8 t8 B8 m8 d8 = V := ⟨_, rfl⟩
     have HSV : Hid (SO w V s8 A8 n8 c8 t8 B8 m8 d8 v2) := by rw [← hV]; exact HS.out.put HN5.out
     have HNV : Hid (Near (fun b => b = w.heap.size + 1) WP V) := by rw [← hV]; exact (((HNR.out.setCell _ 0 _ rfl).setCell _ 1 _ rfl).setCell _ 2 _ rfl).setCell _ 3 _ rfl
     have v0 := HS.out.tot.c0
     have v1 := HS.out.tot.c1
     have v3 := HS.out.tot.c2
     have v4 := HS.out.tot.c3
     have f0 := HS.out.tot.f 0
     have f1 := HS.out.tot.f 1
     have f2 := HS.out.tot.f 2
     have f3 := HS.out.tot.f 3
     simp only [Q.put4] at hV
     refine rQ 15 (fun K hK => ?_)
     try simp only [gY, gZ, gJ]
     go_simp
     try rw [hV]
     clear hV v0 v1 v3 v4 f0 f1 f2 f3 HS HNR
     refine hK.out _ _ (by with_reducible exact HK.out _ HNV.out) (fun hHeld => ?_)
     clear hK K
     try simp only [aP, sT, sZ, sS]
     refine wpAnyH_done (by kernel_rfl) ?_ _
     go_wp2_with fail
     go_roundw
     case rel => exact ⟨i + 1, s8, A8, n8, c8, t8, B8, m8, d8, by omega, by go_num, by rw [HV2.out]; exact HSV, HNV⟩
     case measure => (simp [intOf]; omega)
    ·try simp only [gY, gZ, gJ]
     go_simp
     with_reducible refine (rget_c ((HY.out.below HS.out.bel)) p _ rfl).mono ?_
     rintro e wb7 ⟨sb8, Ab8, nb8, cb8, tb8, Bb8, mb8, db8, rfl, ho, hbx⟩
     replace HS := lh (HS.out.below hbx)
     replace HNR := lh (HNR.out.below hbx)
     replace HOa := lh (HOa.out.below hbx)
     have HOb := lh ho
     clear ho hbx
     refine hK.out _ _ (by with_reducible exact HK.out _ HNR.out) (fun hHeld => ?_)
     clear hK K
     try simp only [aP, sT, sZ, sS]
     refine wpAnyH_ready (rs := [0, 13]) (by kernel_rfl) (by simp) ?_
     refine AllReadyH.cons rfl (fun K hK => ?_) (AllReadyH.cons rfl (fun K hK => ?_) AllReadyH.nil)
     ·try simp only [gY, gZ]
      have v0 := HS.out.tot.c0
      have v1 := HS.out.tot.c1
      have v3 := HS.out.tot.c2
      have v4 := HS.out.tot.c3
      go_simp
      clear v0 v1 v3 v4
      refine hK.out _ _ (by with_reducible exact HK.out _ HNR.out) (fun hHeld => ?_)
      clear hK K
      try simp only [aP, sT, sZ, sS]
      refine rQ 13 (fun K hK => ?_)
      try simp only [gY, gZ, gJ]
      go_simp
      with_reducible refine (Q.P.mul_q (HOa.out.isq (HQF.out p)) (HOb.out.isq (HQG.out p)) (by omega) (by omega) _ rfl).mono ?_
      rintro e wm7 ⟨sm8, Am8, nm8, cm8, tm8, Bm8, mm8, dm8, rfl, ho, hbx⟩
      replace HS := lh (HS.out.below hbx)
      replace HNR := lh (HNR.out.below hbx)
      replace HOa := lh (HOa.out.below hbx)
      replace HOb := lh (HOb.out.below hbx)
      have HOm := lh ho
      clear ho hbx
      refine hK.out _ _ (by with_reducible exact HK.out _ HNR.out) (fun hHeld => ?_)
      clear hK K
      try simp only [aP, sT, sZ, sS]
      refine rQ 14 (fun K hK => ?_)
      try simp only [gY, gZ, gJ]
      go_simp
      with_reducible refine (Q.P.add_q (HS.out.val.isq HL1.out) (HOm.out.isq HLM.out) (by omega) (by omega) v2 HTS.out).mono ?_
      rintro e w5 ⟨s8, A8, n8, c8, t8, B8, m8, d8, rfl, ho, hbx⟩
      replace HS := lh (HS.out.below hbx)
      replace HNR := lh (HNR.out.below hbx)
      replace HOa := lh (HOa.out.below hbx)
      replace HOb := lh (HOb.out.below hbx)
      replace HOm := lh (HOm.out.below hbx)
      have HN5 := lh ho
      clear ho hbx
      refine hK.out _ _ (by with_reducible exact HK.out _ HNR.out) (fun hHeld => ?_)
      clear hK K
      try simp only [aP, sT, sZ, sS]
      obtain ⟨V, hV⟩ : ∃ V, Q.put4 w5 (w.heap.size + 1) s8 A8 n8 c8 t8 B8 m8 d8 = V := ⟨_, rfl⟩
      have HSV : Hid (SO w V s8 A8 n8 c8 t8 B8 m8 d8 v2) := by rw [← hV]; exact HS.out.put HN5.out
      have HNV : Hid (Near (fun b => b = w.heap.size + 1) WP V) := by rw [← hV]; exact (((HNR.out.setCell _ 0 _ rfl).setCell _ 1 _ rfl).setCell _ 2 _ rfl).setCell _ 3 _ rfl
      have v0 := HS.out.tot.c0
      have v1 := HS.out.tot.c1
      have v3 := HS.out.tot.c2
      have v4 := HS.out.tot.c3
      have f0 := HS.out.tot.f 0
      have f1 := HS.out.tot.f 1
      have f2 := HS.out.tot.f 2
      have f3 := HS.out.tot.f 3
      simp only [Q.put4] at hV
      refine rQ 15 (fun K hK => ?_)
      try simp only [gY, gZ, gJ]
      go_simp
      try rw [hV]
      clear hV v0 v1 v3 v4 f0 f1 f2 f3 HS HNR
      refine hK.out _ _ (by with_reducible exact HK.out _ HNV.out) (fun hHeld => ?_)
      clear hK K
      try simp only [aP, sT, sZ, sS]
      refine wpAnyH_done (by kernel_rfl) ?_ _
      go_wp2_with fail
      go_roundw
      case rel => exact ⟨i + 1, s8, A8, n8, c8, t8, B8, m8, d8, by omega, by go_num, by rw [HV2.out]; exact HSV, HNV⟩
      case measure => (simp [intOf]; omega)
     ·try simp only [gY, gZ, gJ]
      go_simp
      with_reducible refine (Q.P.mul_q (HOa.out.isq (HQF.out p)) (HOb.out.isq (HQG.out p)) (by omega) (by omega) _ rfl).mono ?_
      rintro e wm7 ⟨sm8, Am8, nm8, cm8, tm8, Bm8, mm8, dm8, rfl, ho, hbx⟩
      replace HS := lh (HS.out.below hbx)
      replace HNR := lh (HNR.out.below hbx)
      replace HOa := lh (HOa.out.below hbx)
      replace HOb := lh (HOb.out.below hbx)
      have HOm := lh ho
      clear ho hbx
      refine hK.out _ _ (by with_reducible exact HK.out _ HNR.out) (fun hHeld => ?_)
      clear hK K
      try simp only [aP, sT, sZ, sS]
      refine rQ 0 (fun K hK => ?_)
      try simp only [gY, gZ]
      have v0 := HS.out.tot.c0
      have v1 := HS.out.tot.c1
      have v3 := HS.out.tot.c2
      have v4 := HS.out.tot.c3
      go_simp
      clear v0 v1 v3 v4
      refine hK.out _ _ (by with_reducible exact HK.out _ HNR.out) (fun hHeld => ?_)
      clear hK K
      try simp only [aP, sT, sZ, sS]
      refine rQ 14 (fun K hK => ?_)
      try simp only [gY, gZ, gJ]
      go_simp
      with_reducible refine (Q.P.add_q (HS.out.val.isq HL1.out) (HOm.out.isq HLM.out) (by omega) (by omega) v2 HTS.out).mono ?_
      rintro e w5 ⟨s8, A8, n8, c8, t8, B8, m8, d8, rfl, ho, hbx⟩
      replace HS := lh (HS.out.below hbx)
      replace HNR := lh (HNR.out.below hbx)
      replace HOa := lh (HOa.out.below hbx)
      replace HOb := lh (HOb.out.below hbx)
      replace HOm := lh (HOm.out.below hbx)
      have HN5 := lh ho
      clear ho hbx
      refine hK.out _ _ (by with_reducible exact HK.out _ HNR.out) (fun hHeld => ?_)
      clear hK K
      try simp only [aP, sT, sZ, sS]
      obtain ⟨V, hV⟩ : ∃ V, Q.put4 w5 (w.heap.size + 1) s8 A8 n8 c8 t8 B8 m8 d8 = V := ⟨_, rfl⟩
      have HSV : Hid (SO w V s8 A8 n8 c8 t8 B8 m8 d8 v2) := by rw [← hV]; exact HS.out.put HN5.out
      have HNV : Hid (Near (fun b => b = w.heap.size + 1) WP V) := by rw [← hV]; exact (((HNR.out.setCell _ 0 _ rfl).setCell _ 1 _ rfl).setCell _ 2 _ rfl).setCell _ 3 _ rfl
      have v0 := HS.out.tot.c0
      have v1 := HS.out.tot.c1
      have v3 := HS.out.tot.c2
      have v4 := HS.out.tot.c3
      have f0 := HS.out.tot.f 0
      have f1 := HS.out.tot.f 1
      have f2 := HS.out.tot.f 2
      have f3 := HS.out.tot.f 3
      simp only [Q.put4] at hV
      refine rQ 15 (fun K hK => ?_)
      try simp only [gY, gZ, gJ]
      go_simp
      try rw [hV]
      clear hV v0 v1 v3 v4 f0 f1 f2 f3 HS HNR
      refine hK.out _ _ (by with_reducible exact HK.out _ HNV.out) (fun hHeld => ?_)
      clear hK K
      try simp only [aP, sT, sZ, sS]
      refine wpAnyH_done (by kernel_rfl) ?_ _
      go_wp2_with fail
      go_roundw
      case rel => exact ⟨i + 1, s8, A8, n8, c8, t8, B8, m8, d8, by omega, by go_num, by rw [HV2.out]; exact HSV, HNV⟩
      case measure => (simp [intOf]; omega)
  ·have hi1 : ¬ (i : Int) < (ps.length : Int) := by omega
   have HE : Hid (over (fun a => F a * G a) (ps.take i) = over (fun a => F a * G a) ps) := by show _ = _; rw [List.take_of_length_le (by omega)]
   rw [HE.out] at HS
   have v0 := HS.out.tot.c0
   have v1 := HS.out.tot.c1
   have v2 := HS.out.tot.c2
   have v3 := HS.out.tot.c3
   have o0 := HS.out.o.c0
   have o1 := HS.out.o.c1
   have o2 := HS.out.o.c2
   have o3 := HS.out.o.c3
   have f0 := HS.out.o.f 0
   have f1 := HS.out.o.f 1
   have f2 := HS.out.o.f 2
   have f3 := HS.out.o.f 3
   go_wp2_with fail
   refine bodyPost_ret (v := .agg #[.bool s, .slice A1 na ca, .bool t, .slice B1 ma da]) (by simp [results, Tryz.results30, go_sem, o0, o1, o2, o3]) rfl ?_
   exact ⟨_, HDF.out, HSM.out ps HND.out, s, A1, na, ca, t, B1, ma, da, rfl, HS.out.val.on4 HS.out.o.bx, below_put4 HS.out.bel (Nat.le_refl _)⟩
