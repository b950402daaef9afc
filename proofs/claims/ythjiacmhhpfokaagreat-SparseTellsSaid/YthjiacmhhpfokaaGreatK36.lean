/- Part 36 of the proof: VTells. -/
import Derived.Test.YthjiacmhhpfokaaGreatK34
import Derived.Test.YthjiacmhhpfokaaGreatK35
namespace Go.Proofs.YthjiacmhhpfokaaGreat
open Act renaming put → aP
open Go.RowKit.Below renaming refl → bR
open Nat renaming lt_of_lt_of_le → lL
namespace V
open List renaming getElem_toArray → gY, getElem_cons_zero → gZ, getElem_cons_succ → gJ, setIfInBounds_toArray → sT, set_cons_zero → sZ, set_cons_succ → sS
open Lib renaming hid → lh
open Go.RowKit
open Q (IsQ OneQ RetQ below_on ql Qbx)
set_option maxRecDepth 100000 in
set_option maxHeartbeats 8000000 in
theorem tells_walk (w : World) (Ax Ay : Option Addr) (nx cx ny cy lx ly : Nat) (xs ys : List (TV × Rat)) (hx : IsV w Ax nx cx xs lx) (hy : IsV w Ay ny cy ys ly) (bx : ∀ a, Ax = some a → a.block < w.heap.size) (by_ : ∀ a, Ay = some a → a.block < w.heap.size) (nx0 : ∀ y ∈ xs, Nilc y.1) (ny0 : ∀ y ∈ ys, Nilc y.1)
  (p : Int) (hp : -9223372036854775808 ≤ p ∧ p ≤ 9223372036854775807) (sa : Bool) (Aa : Option Addr) (na ca : Nat) (ta : Bool) (Ba : Option Addr) (ma da la : Nat) (qa : Rat) (ha : IsQ w sa Aa na ca ta Ba ma da qa la) (N : Int) (hN : -9223372036854775808 ≤ N ∧ N ≤ 9223372036854775807) :
  Calls Tryz.prog 3 #[.slice Ax nx cx, .slice Ay ny cy, .int .i64 p, .agg #[.bool sa, .slice Aa na ca, .bool ta, .slice Ba ma da], .int .i64 N] w (RetB w true) := by
 obtain ⟨vx, hvx⟩ := iff_dec (ShortAll xs 12 3)
 obtain ⟨vy, hvy⟩ := iff_dec (ShortAll ys 12 3)
 obtain ⟨va, hva⟩ : ∃ v, decide (na ≤ 3 ∧ ma ≤ 3) = v := ⟨_, rfl⟩
 have HVX := lh hvx
 have HVY := lh hvy
 have HVA := lh hva
 have HPR := lh hp
 have HNX := lh nx0
 have HNY := lh ny0
 obtain ⟨W0, hW0⟩ : ∃ V, w.alloc (.cells #[.bool sa, .slice Aa na ca, .bool ta, .slice Ba ma da] 27) = V := ⟨_, rfl⟩
 have ba : Qbx W0 w.heap.size sa Aa na ca ta Ba ma da := by rw [← hW0]; exact Qbx.new _ _ rfl
 have b0 : Below w.heap.size w W0 := by rw [← hW0]; exact (bR _ _).alloc (Nat.le_refl _) _
 have HBA := lh ba
 have HB := lh b0
 have HX0 := lh (hx.below b0)
 have HY0 := lh (hy.below b0)
 have HA0 := lh (ha.below b0)
 have HKX : Hid (∀ a, Ax = some a → a.block < W0.heap.size) := fun a h => lL (bx a h) b0.size
 have HKY : Hid (∀ a, Ay = some a → a.block < W0.heap.size) := fun a h => lL (by_ a h) b0.size
 clear hx hy bx by_ ha hvx hvy hva hp ba b0 nx0 ny0
 go_enter Tryz.func3, Tryz.ntmps3
 go_upto_region 1 with fail
 clear hW0
 have HBC : Hid (Below W0.heap.size W0 W0) := bR _ _
 go_cut [36] from 16 to 36 (fun s36 wx => ∃ (cb : Bool) (WA : World), s36 = .bool cb ∧ Hid (WA = wx) ∧ Hid (cb = false → vx = true ∧ vy = true ∧ va = true ∧ ¬ (300 < N ∧ N < 1099511627776)) ∧ Hid (Below W0.heap.size W0 wx))
 case first =>
  go_wp2_with fail
  refine (shortvec_any HX0.out 12 3 (by omega) vx HVX.out).mono ?_
  rintro e w1 ⟨rfl, hbx⟩
  replace HBC := lh (below_on HBC.out hbx)
  replace HX0 := lh (HX0.out.below hbx)
  replace HY0 := lh (HY0.out.below hbx)
  replace HA0 := lh (HA0.out.below hbx)
  replace HBA := lh (HBA.out.below hbx)
  clear hbx
  cases vx with
  | false =>
   go_wp2_with fail
   go_meet
   exact ⟨true, _, rfl, rfl, (fun h => by cases h), HBC.out⟩
  | true =>
   go_wp2_with fail
   refine (shortvec_any HY0.out 12 3 (by omega) vy HVY.out).mono ?_
   rintro e w2 ⟨rfl, hbx⟩
   replace HBC := lh (below_on HBC.out hbx)
   replace HX0 := lh (HX0.out.below hbx)
   replace HY0 := lh (HY0.out.below hbx)
   replace HA0 := lh (HA0.out.below hbx)
   replace HBA := lh (HBA.out.below hbx)
   clear hbx
   cases vy with
   | false =>
    go_wp2_with fail
    go_meet
    exact ⟨true, _, rfl, rfl, (fun h => by cases h), HBC.out⟩
   | true =>
    have e0 := HBA.out.c0
    have e1 := HBA.out.c1
    have e2 := HBA.out.c2
    have e3 := HBA.out.c3
    go_wp2_with fail
    clear e0 e1 e2 e3
    refine (Q.shortrat_j _ _ _ _ _ _ _ _ _ 3 va HVA.out).mono ?_
    rintro e w3 ⟨rfl, hbx⟩
    replace HBC := lh (below_on HBC.out hbx)
    replace HX0 := lh (HX0.out.below hbx)
    replace HY0 := lh (HY0.out.below hbx)
    replace HA0 := lh (HA0.out.below hbx)
    replace HBA := lh (HBA.out.below hbx)
    clear hbx
    cases va with
    | false =>
     go_wp2_with fail
     go_meet
     exact ⟨true, _, rfl, rfl, (fun h => by cases h), HBC.out⟩
    | true =>
     by_cases hn1 : (300 : Int) < N
     ·by_cases hn2 : N < (1099511627776 : Int)
      ·skip
       go_wp2_with fail
       go_meet
       exact ⟨true, _, rfl, rfl, (fun h => by cases h), HBC.out⟩
      ·skip
       go_wp2_with fail
       go_meet
       exact ⟨false, _, (by first | rfl | rw [decide_eq_false (by omega)]), rfl, (fun _ => ⟨trivial, trivial, trivial, by omega⟩), HBC.out⟩
     ·skip
      go_wp2_with fail
      go_meet
      exact ⟨false, _, (by first | rfl | rw [decide_eq_false (by omega)]), rfl, (fun _ => ⟨trivial, trivial, trivial, by omega⟩), HBC.out⟩
 case rest =>
  obtain ⟨cb, WA, rfl, hwa, HT, HBC2⟩ := hcut
  have hwb := hwa.out
  subst hwb
  clear HBC hwa
  replace HB := lh (below_on HB.out HBC2.out)
  replace HX0 := lh (HX0.out.below HBC2.out)
  replace HY0 := lh (HY0.out.below HBC2.out)
  replace HA0 := lh (HA0.out.below HBC2.out)
  replace HBA := lh (HBA.out.below HBC2.out)
  have HSZ := lh HBC2.out.size
  clear HBC2
  cases cb with
  | true =>
   go_wp2_with fail
   refine (awake_v _).mono ?_
   rintro e w99 ⟨rfl, hbx⟩
   replace HB := lh (below_on HB.out hbx)
   clear hbx
   go_wp2_with fail
   go_ret
   exact ⟨rfl, HB.out⟩
  | false =>
   obtain ⟨rfl, rfl, rfl, hn1⟩ := HT.out rfl
   have HN1 := lh hn1
   clear hn1 HT
   go_upto_if 39 with fail
   go_cut [4] (fun s4 wx => ∃ M : Int, s4 = .int .i64 M ∧ Hid (M ≤ 300) ∧ Hid (WA = wx))
   case first =>
    by_cases hn1 : (300 : Int) < N
    ·go_wp2_with fail
     go_meet
     exact ⟨300, rfl, Int.le_refl _, rfl⟩
    ·go_wp2_with fail
     go_meet
     exact ⟨N, rfl, (by show N ≤ 300; omega), rfl⟩
   case rest =>
    obtain ⟨M, rfl, HM, hwa⟩ := hcut
    have hwb := hwa.out
    subst hwb
    clear hwa
    have hM := HM.out
    have HM3 : Hid (M ≤ 65536 ∧ M.toNat ≤ 300) := by show _ ∧ _; omega
    clear hM
    have hsx := HVX.out.mp rfl
    have hsy := HVY.out.mp rfl
    have hsa := of_decide_eq_true HVA.out
    have HXL : Hid (xs.length ≤ 12) := hsx.1
    have HYL : Hid (ys.length ≤ 12) := hsy.1
    obtain ⟨X, hX⟩ : ∃ X, tot (vals xs) = X := ⟨_, rfl⟩
    obtain ⟨Y, hY⟩ : ∃ X, tot (vals ys) = X := ⟨_, rfl⟩
    have EX := lh hX
    have EY := lh hY
    have HXV := lh (HX0.out.short hsx)
    have HYV := lh (HY0.out.short hsy)
    have FX : Hid (Fn 37 40 12 X) := by rw [← hX]; exact HXV.out.fn (by omega) hsx.1 (by omega)
    have FY : Hid (Fn 37 40 12 Y) := by rw [← hY]; exact HYV.out.fn (by omega) hsy.1 (by omega)
    have HLE : Hid (W0.heap.size ≤ WA.heap.size) := HSZ.out
    have HX : Hid (VF WA Ax nx cx X) := by rw [← hX]; exact HXV.out.vf (by omega) hsx.1 (by omega) (by omega) (fun a h => lL (HKX.out a h) HLE.out)
    have HY : Hid (VF WA Ay ny cy Y) := by rw [← hY]; exact HYV.out.vf (by omega) hsy.1 (by omega) (by omega) (fun a h => lL (HKY.out a h) HLE.out)
    have HQA : Hid (IsQ WA sa Aa na ca ta Ba ma da qa 3) := ⟨HA0.out.ex, hsa.1, hsa.2, HA0.out.cap, HA0.out.cap2⟩
    have NMA : Hid (Nm 3 3 qa) := Nm.of_ql (HQA.out.ql (by omega))
    have HNL : Hid (nx ≤ 12 ∧ ny ≤ 12) := ⟨by rw [HXV.out.en]; exact hsx.1, by rw [HYV.out.en]; exact hsy.1⟩
    obtain ⟨VR, hvr⟩ := iff_dec (RightV WA M xs)
    have HVR := lh hvr
    clear HX0 HY0 HA0 hsx hsy hsa hX hY HVX HVY HVA HKX HKY HLE HSZ hvr
    have HBW : Hid (Since WA WA) := ⟨bR _ _⟩
    have HXW := HXV
    go_wp2_with fail
    refine (copyvec_c HXV.out (by omega) (by have := HNL.out; omega) HNX.out).mono ?_
    rintro e w4 ⟨A4, n4, c4, rfl, ht, hbx⟩
    replace HB := lh (below_on HB.out hbx)
    replace HX := lh (HX.out.below hbx)
    replace HY := lh (HY.out.below hbx)
    replace HXV := lh (HXV.out.below hbx)
    replace HYV := lh (HYV.out.below hbx)
    replace HQA := lh (HQA.out.below hbx)
    replace HBA := lh (HBA.out.below hbx)
    replace HBW := lh (HBW.out.below hbx)
    have HU := lh ht
    clear ht hbx
    go_wp2_with fail
    refine (copyvec_c HYV.out (by omega) (by have := HNL.out; omega) HNY.out).mono ?_
    rintro e w5 ⟨A5, n5, c5, rfl, ht, hbx⟩
    replace HB := lh (below_on HB.out hbx)
    replace HX := lh (HX.out.below hbx)
    replace HY := lh (HY.out.below hbx)
    replace HXV := lh (HXV.out.below hbx)
    replace HYV := lh (HYV.out.below hbx)
    replace HQA := lh (HQA.out.below hbx)
    replace HBA := lh (HBA.out.below hbx)
    replace HBW := lh (HBW.out.below hbx)
    replace HU := lh (HU.out.below hbx)
    have HV := lh ht
    clear ht hbx
    go_upto_region 7 with fail
    as_aux_lemma =>
     replace HB := lh HB.out.drew
     replace HX := lh (HX.out.below (bR _ _).drew)
     replace HY := lh (HY.out.below (bR _ _).drew)
     replace HXV := lh (HXV.out.below (bR _ _).drew)
     replace HYV := lh (HYV.out.below (bR _ _).drew)
     replace HQA := lh (HQA.out.below (bR _ _).drew)
     replace HBA := lh (HBA.out.below (bR _ _).drew)
     replace HBW := lh (HBW.out.below (bR _ _).drew)
     replace HU := lh (HU.out.below (bR _ _).drew)
     replace HV := lh (HV.out.below (bR _ _).drew)
     refine wp_region_held_drew (S := (fun V => V.cell? ⟨w.heap.size, 0, none⟩ = some (.bool sa) ∧ V.cell? ⟨w.heap.size, 1, none⟩ = some (.slice Aa na ca) ∧ V.cell? ⟨w.heap.size, 2, none⟩ = some (.bool ta) ∧ V.cell? ⟨w.heap.size, 3, none⟩ = some (.slice Ba ma da))) (by kernel_rfl) (by with_reducible exact ⟨HBA.out.c0, HBA.out.c1, HBA.out.c2, HBA.out.c3⟩) (fun hHeld => ?_)
     refine' tK 0 ?_
     try simp only [gY, gZ, aP, sT, sZ, sS]
     refine' tK 1 ?_
     try simp only [gY, gZ, gJ, aP, sT, sZ, sS]
     refine' tK 3 ?_
     try simp only [gY, gZ, gJ, aP, sT, sZ, sS]
     refine rQ 2 (fun K hK => ?_)
     try simp only [gY, gZ, gJ]
     go_simp
     with_reducible refine (norm_c HX.out FX.out (by omega) (by omega)).mono ?_
     rintro e w6 ⟨G6, n6, c6, rfl, hc, hbx⟩
     replace HB := lh (below_on HB.out hbx)
     replace HX := lh (HX.out.below hbx)
     replace HY := lh (HY.out.below hbx)
     replace HXV := lh (HXV.out.below hbx)
     replace HYV := lh (HYV.out.below hbx)
     replace HQA := lh (HQA.out.below hbx)
     replace HBA := lh (HBA.out.below hbx)
     replace HBW := lh (HBW.out.below hbx)
     replace HU := lh (HU.out.below hbx)
     replace HV := lh (HV.out.below hbx)
     refine hK.out _ _ (by with_reducible exact ⟨HBA.out.c0, HBA.out.c1, HBA.out.c2, HBA.out.c3⟩) (fun hHeld => ?_)
     clear hK K
     try simp only [aP, sT, sZ, sS]
     have HC6 := lh hc
     clear hc hbx
     refine rQ 4 (fun K hK => ?_)
     try simp only [gY, gZ, gJ]
     go_simp
     with_reducible refine (rnorm_c HX.out FX.out (by omega) (by omega)).mono ?_
     rintro e w7 ⟨G7, n7, c7, rfl, hc, hbx⟩
     replace HB := lh (below_on HB.out hbx)
     replace HX := lh (HX.out.below hbx)
     replace HY := lh (HY.out.below hbx)
     replace HXV := lh (HXV.out.below hbx)
     replace HYV := lh (HYV.out.below hbx)
     replace HQA := lh (HQA.out.below hbx)
     replace HBA := lh (HBA.out.below hbx)
     replace HBW := lh (HBW.out.below hbx)
     replace HU := lh (HU.out.below hbx)
     replace HV := lh (HV.out.below hbx)
     replace HC6 := lh (HC6.out.below hbx)
     refine hK.out _ _ (by with_reducible exact ⟨HBA.out.c0, HBA.out.c1, HBA.out.c2, HBA.out.c3⟩) (fun hHeld => ?_)
     clear hK K
     try simp only [aP, sT, sZ, sS]
     have HC7 := lh hc
     clear hc hbx
     refine rQ 5 (fun K hK => ?_)
     try simp only [gY, gZ, gJ]
     go_simp
     with_reducible refine (samevec_e HC6.out HC7.out FX.out (by omega) rfl).mono ?_
     rintro e w8 ⟨rfl, hbx⟩
     replace HB := lh (below_on HB.out hbx)
     replace HX := lh (HX.out.below hbx)
     replace HY := lh (HY.out.below hbx)
     replace HXV := lh (HXV.out.below hbx)
     replace HYV := lh (HYV.out.below hbx)
     replace HQA := lh (HQA.out.below hbx)
     replace HBA := lh (HBA.out.below hbx)
     replace HBW := lh (HBW.out.below hbx)
     replace HU := lh (HU.out.below hbx)
     replace HV := lh (HV.out.below hbx)
     replace HC6 := lh (HC6.out.below hbx)
     replace HC7 := lh (HC7.out.below hbx)
     refine hK.out _ _ (by with_reducible exact ⟨HBA.out.c0, HBA.out.c1, HBA.out.c2, HBA.out.c3⟩) (fun hHeld => ?_)
     clear hK K
     try simp only [aP, sT, sZ, sS]
     clear hbx
     clear HC6 HC7
     refine' tK 6 ?_
     try simp only [gY, gZ, gJ, aP, sT, sZ, sS]
     refine' tK 7 ?_
     try simp only [gY, gZ, gJ, aP, sT, sZ, sS]
     refine' tK 8 ?_
     try simp only [gY, gZ, gJ, aP, sT, sZ, sS]
     refine' tK 9 ?_
     try simp only [gY, gZ, gJ, aP, sT, sZ, sS]
     refine' tK 11 ?_
     try simp only [gY, gZ, gJ, aP, sT, sZ, sS]
     refine' tK 12 ?_
     try simp only [gY, gZ, gJ, aP, sT, sZ, sS]
     refine rQ 10 (fun K hK => ?_)
     try simp only [gY, gZ, gJ]
     go_simp
     with_reducible refine (add_c HX.out HY.out rfl (FX.out.add FY.out) (by omega) (by omega)).mono ?_
     rintro e w9 ⟨G9, n9, c9, rfl, hc, hbx⟩
     replace HB := lh (below_on HB.out hbx)
     replace HX := lh (HX.out.below hbx)
     replace HY := lh (HY.out.below hbx)
     replace HXV := lh (HXV.out.below hbx)
     replace HYV := lh (HYV.out.below hbx)
     replace HQA := lh (HQA.out.below hbx)
     replace HBA := lh (HBA.out.below hbx)
     replace HBW := lh (HBW.out.below hbx)
     replace HU := lh (HU.out.below hbx)
     replace HV := lh (HV.out.below hbx)
     refine hK.out _ _ (by with_reducible exact ⟨HBA.out.c0, HBA.out.c1, HBA.out.c2, HBA.out.c3⟩) (fun hHeld => ?_)
     clear hK K
     try simp only [aP, sT, sZ, sS]
     have HC9 := lh hc
     clear hc hbx
     refine rQ 13 (fun K hK => ?_)
     try simp only [gY, gZ, gJ]
     go_simp
     with_reducible refine (radd_c HX.out HY.out rfl (FX.out.add FY.out) (by omega) (by omega) (FX.out.qls (by omega) (by omega)) FY.out (by omega) (by omega)).mono ?_
     rintro e w10 ⟨G10, n10, c10, rfl, hc, hbx⟩
     replace HB := lh (below_on HB.out hbx)
     replace HX := lh (HX.out.below hbx)
     replace HY := lh (HY.out.below hbx)
     replace HXV := lh (HXV.out.below hbx)
     replace HYV := lh (HYV.out.below hbx)
     replace HQA := lh (HQA.out.below hbx)
     replace HBA := lh (HBA.out.below hbx)
     replace HBW := lh (HBW.out.below hbx)
     replace HU := lh (HU.out.below hbx)
     replace HV := lh (HV.out.below hbx)
     replace HC9 := lh (HC9.out.below hbx)
     refine hK.out _ _ (by with_reducible exact ⟨HBA.out.c0, HBA.out.c1, HBA.out.c2, HBA.out.c3⟩) (fun hHeld => ?_)
     clear hK K
     try simp only [aP, sT, sZ, sS]
     have HC10 := lh hc
     clear hc hbx
     refine rQ 14 (fun K hK => ?_)
     try simp only [gY, gZ, gJ]
     go_simp
     with_reducible refine (samevec_e HC9.out HC10.out (FX.out.add FY.out) (by omega) rfl).mono ?_
     rintro e w11 ⟨rfl, hbx⟩
     replace HB := lh (below_on HB.out hbx)
     replace HX := lh (HX.out.below hbx)
     replace HY := lh (HY.out.below hbx)
     replace HXV := lh (HXV.out.below hbx)
     replace HYV := lh (HYV.out.below hbx)
     replace HQA := lh (HQA.out.below hbx)
     replace HBA := lh (HBA.out.below hbx)
     replace HBW := lh (HBW.out.below hbx)
     replace HU := lh (HU.out.below hbx)
     replace HV := lh (HV.out.below hbx)
     replace HC9 := lh (HC9.out.below hbx)
     replace HC10 := lh (HC10.out.below hbx)
     refine hK.out _ _ (by with_reducible exact ⟨HBA.out.c0, HBA.out.c1, HBA.out.c2, HBA.out.c3⟩) (fun hHeld => ?_)
     clear hK K
     try simp only [aP, sT, sZ, sS]
     clear hbx
     clear HC9 HC10
     refine' tK 15 ?_
     try simp only [gY, gZ, gJ, aP, sT, sZ, sS]
     refine' tK 16 ?_
     try simp only [gY, gZ, gJ, aP, sT, sZ, sS]
     refine' tK 17 ?_
     try simp only [gY, gZ, gJ, aP, sT, sZ, sS]
     refine' tK 18 ?_
     try simp only [gY, gZ, gJ, aP, sT, sZ, sS]
     refine' tK 19 ?_
     try simp only [gY, gZ, gJ, aP, sT, sZ, sS]
     refine' tK 20 ?_
     try simp only [gY, gZ, gJ, aP, sT, sZ, sS]
     refine' tK 22 ?_
     try simp only [gY, gZ, gJ, aP, sT, sZ, sS]
     refine' tK 23 ?_
     try simp only [gY, gZ, gJ, aP, sT, sZ, sS]
     refine' tK 24 ?_
     try simp only [gY, gZ, gJ, aP, sT, sZ, sS]
     refine rQ 21 (fun K hK => ?_)
     try simp only [gY, gZ, gJ]
     go_simp
     with_reducible refine (axpy_c (HQA.out.mono (l := 700) (by omega)) HY.out HX.out rfl (FY.out.add (Fn.mul NMA.out FX.out)) (by omega) (by omega) (Fn.mul NMA.out FX.out) (by omega) (by omega)).mono ?_
     rintro e w12 ⟨G12, n12, c12, rfl, hc, hbx⟩
     replace HB := lh (below_on HB.out hbx)
     replace HX := lh (HX.out.below hbx)
     replace HY := lh (HY.out.below hbx)
     replace HXV := lh (HXV.out.below hbx)
     replace HYV := lh (HYV.out.below hbx)
     replace HQA := lh (HQA.out.below hbx)
     replace HBA := lh (HBA.out.below hbx)
     replace HBW := lh (HBW.out.below hbx)
     replace HU := lh (HU.out.below hbx)
     replace HV := lh (HV.out.below hbx)
     refine hK.out _ _ (by with_reducible exact ⟨HBA.out.c0, HBA.out.c1, HBA.out.c2, HBA.out.c3⟩) (fun hHeld => ?_)
     clear hK K
     try simp only [aP, sT, sZ, sS]
     have HC12 := lh hc
     clear hc hbx
     refine rQ 25 (fun K hK => ?_)
     try simp only [gY, gZ, gJ]
     go_simp
     with_reducible refine (raxpy_c (HQA.out.mono (l := 700) (by omega)) HY.out HX.out rfl (FY.out.add (Fn.mul NMA.out FX.out)) (by omega) (by omega) (Fn.mul NMA.out FX.out) (by omega) (by omega) (FY.out.qls (by omega) (by omega)) (FX.out.qls (by omega) (by omega))).mono ?_
     rintro e w13 ⟨G13, n13, c13, rfl, hc, hbx⟩
     replace HB := lh (below_on HB.out hbx)
     replace HX := lh (HX.out.below hbx)
     replace HY := lh (HY.out.below hbx)
     replace HXV := lh (HXV.out.below hbx)
     replace HYV := lh (HYV.out.below hbx)
     replace HQA := lh (HQA.out.below hbx)
     replace HBA := lh (HBA.out.below hbx)
     replace HBW := lh (HBW.out.below hbx)
     replace HU := lh (HU.out.below hbx)
     replace HV := lh (HV.out.below hbx)
     replace HC12 := lh (HC12.out.below hbx)
     refine hK.out _ _ (by with_reducible exact ⟨HBA.out.c0, HBA.out.c1, HBA.out.c2, HBA.out.c3⟩) (fun hHeld => ?_)
     clear hK K
     try simp only [aP, sT, sZ, sS]
     have HC13 := lh hc
     clear hc hbx
     refine rQ 26 (fun K hK => ?_)
     try simp only [gY, gZ, gJ]
     go_simp
     with_reducible refine (samevec_e HC12.out HC13.out (FY.out.add (Fn.mul NMA.out FX.out)) (by omega) rfl).mono ?_
     rintro e w14 ⟨rfl, hbx⟩
     replace HB := lh (below_on HB.out hbx)
     replace HX := lh (HX.out.below hbx)
     replace HY := lh (HY.out.below hbx)
     replace HXV := lh (HXV.out.below hbx)
     replace HYV := lh (HYV.out.below hbx)
     replace HQA := lh (HQA.out.below hbx)
     replace HBA := lh (HBA.out.below hbx)
     replace HBW := lh (HBW.out.below hbx)
     replace HU := lh (HU.out.below hbx)
     replace HV := lh (HV.out.below hbx)
     replace HC12 := lh (HC12.out.below hbx)
     replace HC13 := lh (HC13.out.below hbx)
     refine hK.out _ _ (by with_reducible exact ⟨HBA.out.c0, HBA.out.c1, HBA.out.c2, HBA.out.c3⟩) (fun hHeld => ?_)
     clear hK K
     try simp only [aP, sT, sZ, sS]
     clear hbx
     clear HC12 HC13
     refine' tK 27 ?_
     try simp only [gY, gZ, gJ, aP, sT, sZ, sS]
     refine' tK 28 ?_
     try simp only [gY, gZ, gJ, aP, sT, sZ, sS]
     refine' tK 29 ?_
     try simp only [gY, gZ, gJ, aP, sT, sZ, sS]
     refine' tK 30 ?_
     try simp only [gY, gZ, gJ, aP, sT, sZ, sS]
     refine' tK 31 ?_
     try simp only [gY, gZ, gJ, aP, sT, sZ, sS]
     refine' tK 33 ?_
     try simp only [gY, gZ, gJ, aP, sT, sZ, sS]
     refine' tK 34 ?_
     try simp only [gY, gZ, gJ, aP, sT, sZ, sS]
     refine rQ 32 (fun K hK => ?_)
     try simp only [gY, gZ, gJ]
     go_simp
     with_reducible refine (scale_c (HQA.out.mono (l := 700) (by omega)) HX.out rfl (Fn.mul NMA.out FX.out) (by omega) (by omega)).mono ?_
     rintro e w15 ⟨G15, n15, c15, rfl, hc, hbx⟩
     replace HB := lh (below_on HB.out hbx)
     replace HX := lh (HX.out.below hbx)
     replace HY := lh (HY.out.below hbx)
     replace HXV := lh (HXV.out.below hbx)
     replace HYV := lh (HYV.out.below hbx)
     replace HQA := lh (HQA.out.below hbx)
     replace HBA := lh (HBA.out.below hbx)
     replace HBW := lh (HBW.out.below hbx)
     replace HU := lh (HU.out.below hbx)
     replace HV := lh (HV.out.below hbx)
     refine hK.out _ _ (by with_reducible exact ⟨HBA.out.c0, HBA.out.c1, HBA.out.c2, HBA.out.c3⟩) (fun hHeld => ?_)
     clear hK K
     try simp only [aP, sT, sZ, sS]
     have HC15 := lh hc
     clear hc hbx
     refine rQ 35 (fun K hK => ?_)
     try simp only [gY, gZ, gJ]
     go_simp
     with_reducible refine (rscale_c (HQA.out.mono (l := 700) (by omega)) HX.out rfl (Fn.mul NMA.out FX.out) (by omega) (by omega) (FX.out.qls (by omega) (by omega))).mono ?_
     rintro e w16 ⟨G16, n16, c16, rfl, hc, hbx⟩
     replace HB := lh (below_on HB.out hbx)
     replace HX := lh (HX.out.below hbx)
     replace HY := lh (HY.out.below hbx)
     replace HXV := lh (HXV.out.below hbx)
     replace HYV := lh (HYV.out.below hbx)
     replace HQA := lh (HQA.out.below hbx)
     replace HBA := lh (HBA.out.below hbx)
     replace HBW := lh (HBW.out.below hbx)
     replace HU := lh (HU.out.below hbx)
     replace HV := lh (HV.out.below hbx)
     replace HC15 := lh (HC15.out.below hbx)
     refine hK.out _ _ (by with_reducible exact ⟨HBA.out.c0, HBA.out.c1, HBA.out.c2, HBA.out.c3⟩) (fun hHeld => ?_)
     clear hK K
     try simp only [aP, sT, sZ, sS]
     have HC16 := lh hc
     clear hc hbx
     refine rQ 36 (fun K hK => ?_)
     try simp only [gY, gZ, gJ]
     go_simp
     with_reducible refine (samevec_e HC15.out HC16.out (Fn.mul NMA.out FX.out) (by omega) rfl).mono ?_
     rintro e w17 ⟨rfl, hbx⟩
     replace HB := lh (below_on HB.out hbx)
     replace HX := lh (HX.out.below hbx)
     replace HY := lh (HY.out.below hbx)
     replace HXV := lh (HXV.out.below hbx)
     replace HYV := lh (HYV.out.below hbx)
     replace HQA := lh (HQA.out.below hbx)
     replace HBA := lh (HBA.out.below hbx)
     replace HBW := lh (HBW.out.below hbx)
     replace HU := lh (HU.out.below hbx)
     replace HV := lh (HV.out.below hbx)
     replace HC15 := lh (HC15.out.below hbx)
     replace HC16 := lh (HC16.out.below hbx)
     refine hK.out _ _ (by with_reducible exact ⟨HBA.out.c0, HBA.out.c1, HBA.out.c2, HBA.out.c3⟩) (fun hHeld => ?_)
     clear hK K
     try simp only [aP, sT, sZ, sS]
     clear hbx
     clear HC15 HC16
     refine' tK 37 ?_
     try simp only [gY, gZ, gJ, aP, sT, sZ, sS]
     refine' tK 38 ?_
     try simp only [gY, gZ, gJ, aP, sT, sZ, sS]
     refine' tK 39 ?_
     try simp only [gY, gZ, gJ, aP, sT, sZ, sS]
     refine' tK 40 ?_
     try simp only [gY, gZ, gJ, aP, sT, sZ, sS]
     refine' tK 41 ?_
     try simp only [gY, gZ, gJ, aP, sT, sZ, sS]
     refine' tK 42 ?_
     try simp only [gY, gZ, gJ, aP, sT, sZ, sS]
     refine' tK 44 ?_
     try simp only [gY, gZ, gJ, aP, sT, sZ, sS]
     refine' tK 45 ?_
     try simp only [gY, gZ, gJ, aP, sT, sZ, sS]
     refine' tK 46 ?_
     try simp only [gY, gZ, gJ, aP, sT, sZ, sS]
     refine rQ 43 (fun K hK => ?_)
     try simp only [gY, gZ, gJ]
     go_simp
     with_reducible refine (put_c (HQA.out.mono (l := 700) (by omega)) (NMA.out.ql (by omega) (by omega)) HX.out p HPR.out rfl (FX.out.put NMA.out p) (by omega) (by omega)).mono ?_
     rintro e w18 ⟨G18, n18, c18, rfl, hc, hbx⟩
     replace HB := lh (below_on HB.out hbx)
     replace HX := lh (HX.out.below hbx)
     replace HY := lh (HY.out.below hbx)
     replace HXV := lh (HXV.out.below hbx)
     replace HYV := lh (HYV.out.below hbx)
     replace HQA := lh (HQA.out.below hbx)
     replace HBA := lh (HBA.out.below hbx)
     replace HBW := lh (HBW.out.below hbx)
     replace HU := lh (HU.out.below hbx)
     replace HV := lh (HV.out.below hbx)
     refine hK.out _ _ (by with_reducible exact ⟨HBA.out.c0, HBA.out.c1, HBA.out.c2, HBA.out.c3⟩) (fun hHeld => ?_)
     clear hK K
     try simp only [aP, sT, sZ, sS]
     have HC18 := lh hc
     clear hc hbx
     refine rQ 47 (fun K hK => ?_)
     try simp only [gY, gZ, gJ]
     go_simp
     with_reducible refine (dput_f EX.out HXV.out HQA.out (by omega) (by have := HXL.out; omega) (L := 13) (by omega) (by omega) HPR.out).mono ?_
     rintro e w19 ⟨G19, n19, c19, rfl, hc, hbx⟩
     replace HB := lh (below_on HB.out hbx)
     replace HX := lh (HX.out.below hbx)
     replace HY := lh (HY.out.below hbx)
     replace HXV := lh (HXV.out.below hbx)
     replace HYV := lh (HYV.out.below hbx)
     replace HQA := lh (HQA.out.below hbx)
     replace HBA := lh (HBA.out.below hbx)
     replace HBW := lh (HBW.out.below hbx)
     replace HU := lh (HU.out.below hbx)
     replace HV := lh (HV.out.below hbx)
     replace HC18 := lh (HC18.out.below hbx)
     refine hK.out _ _ (by with_reducible exact ⟨HBA.out.c0, HBA.out.c1, HBA.out.c2, HBA.out.c3⟩) (fun hHeld => ?_)
     clear hK K
     try simp only [aP, sT, sZ, sS]
     have HC19 := lh hc
     clear hc hbx
     refine rQ 48 (fun K hK => ?_)
     try simp only [gY, gZ, gJ]
     go_simp
     with_reducible refine (samevec_e HC18.out HC19.out (FX.out.put NMA.out p) (by omega) rfl).mono ?_
     rintro e w20 ⟨rfl, hbx⟩
     replace HB := lh (below_on HB.out hbx)
     replace HX := lh (HX.out.below hbx)
     replace HY := lh (HY.out.below hbx)
     replace HXV := lh (HXV.out.below hbx)
     replace HYV := lh (HYV.out.below hbx)
     replace HQA := lh (HQA.out.below hbx)
     replace HBA := lh (HBA.out.below hbx)
     replace HBW := lh (HBW.out.below hbx)
     replace HU := lh (HU.out.below hbx)
     replace HV := lh (HV.out.below hbx)
     replace HC18 := lh (HC18.out.below hbx)
     replace HC19 := lh (HC19.out.below hbx)
     refine hK.out _ _ (by with_reducible exact ⟨HBA.out.c0, HBA.out.c1, HBA.out.c2, HBA.out.c3⟩) (fun hHeld => ?_)
     clear hK K
     try simp only [aP, sT, sZ, sS]
     clear hbx
     clear HC18 HC19
     refine' tK 49 ?_
     try simp only [gY, gZ, gJ, aP, sT, sZ, sS]
     refine' tK 50 ?_
     try simp only [gY, gZ, gJ, aP, sT, sZ, sS]
     refine wpAnyH_done (by kernel_rfl) ?_ _
     go_upto_region 8 with fail
     as_aux_lemma =>
     go_wp2_with fail
     refine (dot_c HX.out HY.out FX.out FY.out (by omega) (by omega) (by omega)).mono ?_
     rintro e w21 ⟨q21, hd, hql, s21, A21, m21, c21, t21, B21, l21, d21, rfl, ho, hbx⟩
     replace HB := lh (below_on HB.out hbx)
     replace HX := lh (HX.out.below hbx)
     replace HY := lh (HY.out.below hbx)
     replace HXV := lh (HXV.out.below hbx)
     replace HYV := lh (HYV.out.below hbx)
     replace HQA := lh (HQA.out.below hbx)
     replace HBA := lh (HBA.out.below hbx)
     replace HBW := lh (HBW.out.below hbx)
     replace HU := lh (HU.out.below hbx)
     replace HV := lh (HV.out.below hbx)
     have HN21 := lh ho
     have HD21 := lh hd
     clear ho hd hql hbx
     go_wp2_with fail
     refine (rdot_c HX.out HY.out FX.out FY.out (by omega) (by omega) (by omega)).mono ?_
     rintro e w22 ⟨q22, hd, hql, s22, A22, m22, c22, t22, B22, l22, d22, rfl, ho, hbx⟩
     replace HB := lh (below_on HB.out hbx)
     replace HX := lh (HX.out.below hbx)
     replace HY := lh (HY.out.below hbx)
     replace HXV := lh (HXV.out.below hbx)
     replace HYV := lh (HYV.out.below hbx)
     replace HQA := lh (HQA.out.below hbx)
     replace HBA := lh (HBA.out.below hbx)
     replace HBW := lh (HBW.out.below hbx)
     replace HU := lh (HU.out.below hbx)
     replace HV := lh (HV.out.below hbx)
     replace HN21 := lh (HN21.out.below hbx)
     have HN22 := lh ho
     have HD22 := lh hd
     clear ho hd hql hbx
     go_wp2_with fail
     refine (Q.rat_t HN21.out HN22.out (Nat.le_trans ((DotF.nm HD21.out FX.out FY.out (by omega)).ql (k := 700) (by omega) (by omega)) (by omega)) (dotf_eq FX.out HD21.out HD22.out)).mono ?_
     rintro e w23 ⟨rfl, hbx⟩
     replace HB := lh (below_on HB.out hbx)
     replace HX := lh (HX.out.below hbx)
     replace HY := lh (HY.out.below hbx)
     replace HXV := lh (HXV.out.below hbx)
     replace HYV := lh (HYV.out.below hbx)
     replace HQA := lh (HQA.out.below hbx)
     replace HBA := lh (HBA.out.below hbx)
     replace HBW := lh (HBW.out.below hbx)
     replace HU := lh (HU.out.below hbx)
     replace HV := lh (HV.out.below hbx)
     replace HN21 := lh (HN21.out.below hbx)
     replace HN22 := lh (HN22.out.below hbx)
     clear hbx
     clear HN21 HN22
     go_wp2_with fail
     refine (get_c HX.out p _ rfl).mono ?_
     rintro e w24 ⟨s24, A24, m24, c24, t24, B24, l24, d24, rfl, ho, hbx⟩
     replace HB := lh (below_on HB.out hbx)
     replace HX := lh (HX.out.below hbx)
     replace HY := lh (HY.out.below hbx)
     replace HXV := lh (HXV.out.below hbx)
     replace HYV := lh (HYV.out.below hbx)
     replace HQA := lh (HQA.out.below hbx)
     replace HBA := lh (HBA.out.below hbx)
     replace HBW := lh (HBW.out.below hbx)
     replace HU := lh (HU.out.below hbx)
     replace HV := lh (HV.out.below hbx)
     have HN24 := lh ho
     clear ho hbx
     go_wp2_with fail
     refine (rget_c HX.out p _ rfl).mono ?_
     rintro e w25 ⟨s25, A25, m25, c25, t25, B25, l25, d25, rfl, ho, hbx⟩
     replace HB := lh (below_on HB.out hbx)
     replace HX := lh (HX.out.below hbx)
     replace HY := lh (HY.out.below hbx)
     replace HXV := lh (HXV.out.below hbx)
     replace HYV := lh (HYV.out.below hbx)
     replace HQA := lh (HQA.out.below hbx)
     replace HBA := lh (HBA.out.below hbx)
     replace HBW := lh (HBW.out.below hbx)
     replace HU := lh (HU.out.below hbx)
     replace HV := lh (HV.out.below hbx)
     replace HN24 := lh (HN24.out.below hbx)
     have HN25 := lh ho
     clear ho hbx
     go_wp2_with fail
     refine (Q.rat_t HN24.out HN25.out (Nat.le_trans ((FX.out.nm p).ql (k := 700) (by omega) (by omega)) (by omega)) rfl).mono ?_
     rintro e w26 ⟨rfl, hbx⟩
     replace HB := lh (below_on HB.out hbx)
     replace HX := lh (HX.out.below hbx)
     replace HY := lh (HY.out.below hbx)
     replace HXV := lh (HXV.out.below hbx)
     replace HYV := lh (HYV.out.below hbx)
     replace HQA := lh (HQA.out.below hbx)
     replace HBA := lh (HBA.out.below hbx)
     replace HBW := lh (HBW.out.below hbx)
     replace HU := lh (HU.out.below hbx)
     replace HV := lh (HV.out.below hbx)
     replace HN24 := lh (HN24.out.below hbx)
     replace HN25 := lh (HN25.out.below hbx)
     clear hbx
     clear HN24 HN25
     go_wp2_with fail
     refine (same_c HX.out HY.out).mono ?_
     rintro e w27 ⟨bs, rfl, hbs, hbx⟩
     replace HB := lh (below_on HB.out hbx)
     replace HX := lh (HX.out.below hbx)
     replace HY := lh (HY.out.below hbx)
     replace HXV := lh (HXV.out.below hbx)
     replace HYV := lh (HYV.out.below hbx)
     replace HQA := lh (HQA.out.below hbx)
     replace HBA := lh (HBA.out.below hbx)
     replace HBW := lh (HBW.out.below hbx)
     replace HU := lh (HU.out.below hbx)
     replace HV := lh (HV.out.below hbx)
     have HBS := lh hbs
     clear hbs hbx
     go_wp2_with fail
     refine (rsame_c HX.out HY.out (FX.out.add (Fn.mul nm_minus FY.out)) (by omega) (by omega) (FX.out.qls (by omega) (by omega)) FY.out (by omega) (by omega) bs HBS.out).mono ?_
     rintro e w28 ⟨rfl, hbx⟩
     replace HB := lh (below_on HB.out hbx)
     replace HX := lh (HX.out.below hbx)
     replace HY := lh (HY.out.below hbx)
     replace HXV := lh (HXV.out.below hbx)
     replace HYV := lh (HYV.out.below hbx)
     replace HQA := lh (HQA.out.below hbx)
     replace HBA := lh (HBA.out.below hbx)
     replace HBW := lh (HBW.out.below hbx)
     replace HU := lh (HU.out.below hbx)
     replace HV := lh (HV.out.below hbx)
     clear hbx
     have hbe : (bs == bs) = true := beq_self_eq_true bs
     go_wp2_with fail
     refine ((right_b HXV.out (by omega) (by omega) (by have := HNL.out; omega) M VR ((HVR.out.trans (rightv_below HXW.out HBW.out.bel))))).mono ?_
     rintro e w29 ⟨rfl, hbx⟩
     replace HB := lh (below_on HB.out hbx)
     replace HX := lh (HX.out.below hbx)
     replace HY := lh (HY.out.below hbx)
     replace HXV := lh (HXV.out.below hbx)
     replace HYV := lh (HYV.out.below hbx)
     replace HQA := lh (HQA.out.below hbx)
     replace HBA := lh (HBA.out.below hbx)
     replace HBW := lh (HBW.out.below hbx)
     replace HU := lh (HU.out.below hbx)
     replace HV := lh (HV.out.below hbx)
     clear hbx
     go_wp2_with fail
     refine ((rright_b HXV.out HX.out EX.out FX.out (by omega) (by omega) (by have := HNL.out; omega) (by omega) M VR ((HVR.out.trans (rightv_below HXW.out HBW.out.bel))))).mono ?_
     rintro e w30 ⟨rfl, hbx⟩
     replace HB := lh (below_on HB.out hbx)
     replace HX := lh (HX.out.below hbx)
     replace HY := lh (HY.out.below hbx)
     replace HXV := lh (HXV.out.below hbx)
     replace HYV := lh (HYV.out.below hbx)
     replace HQA := lh (HQA.out.below hbx)
     replace HBA := lh (HBA.out.below hbx)
     replace HBW := lh (HBW.out.below hbx)
     replace HU := lh (HU.out.below hbx)
     replace HV := lh (HV.out.below hbx)
     clear hbx hbe
     have hbe : (VR == VR) = true := beq_self_eq_true VR
     go_wp2_with fail
     refine (dense_c HX.out M M.toNat rfl HM3.out.1 (FX.out.qls (by omega) (by omega))).mono ?_
     rintro e w31 ⟨A31, c31, rfl, hd, hbx⟩
     replace HB := lh (below_on HB.out hbx)
     replace HX := lh (HX.out.below hbx)
     replace HY := lh (HY.out.below hbx)
     replace HXV := lh (HXV.out.below hbx)
     replace HYV := lh (HYV.out.below hbx)
     replace HQA := lh (HQA.out.below hbx)
     replace HBA := lh (HBA.out.below hbx)
     replace HBW := lh (HBW.out.below hbx)
     replace HU := lh (HU.out.below hbx)
     replace HV := lh (HV.out.below hbx)
     have HD1 := lh hd
     clear hd hbx
     go_wp2_with fail
     refine (ddense_l HX.out M M.toNat rfl HM3.out.1 (FX.out.qls (by omega) (by omega))).mono ?_
     rintro e w32 ⟨A32, c32, rfl, hd, hbx⟩
     replace HB := lh (below_on HB.out hbx)
     replace HX := lh (HX.out.below hbx)
     replace HY := lh (HY.out.below hbx)
     replace HXV := lh (HXV.out.below hbx)
     replace HYV := lh (HYV.out.below hbx)
     replace HQA := lh (HQA.out.below hbx)
     replace HBA := lh (HBA.out.below hbx)
     replace HBW := lh (HBW.out.below hbx)
     replace HU := lh (HU.out.below hbx)
     replace HV := lh (HV.out.below hbx)
     replace HD1 := lh (HD1.out.below hbx)
     have HD2 := lh hd
     clear hd hbx
     go_wp2_with fail
     refine (samerats_dl HD1.out HD2.out (by have := HM3.out.2; omega) (FX.out.qls (by omega) (by omega))).mono ?_
     rintro e w33 ⟨rfl, hbx⟩
     replace HB := lh (below_on HB.out hbx)
     replace HX := lh (HX.out.below hbx)
     replace HY := lh (HY.out.below hbx)
     replace HXV := lh (HXV.out.below hbx)
     replace HYV := lh (HYV.out.below hbx)
     replace HQA := lh (HQA.out.below hbx)
     replace HBA := lh (HBA.out.below hbx)
     replace HBW := lh (HBW.out.below hbx)
     replace HU := lh (HU.out.below hbx)
     replace HV := lh (HV.out.below hbx)
     replace HD1 := lh (HD1.out.below hbx)
     replace HD2 := lh (HD2.out.below hbx)
     clear hbx
     clear HD1 HD2
     go_wp2_with fail
     refine (samevec_twin HU.out HXV.out (by omega) (by have := HNL.out; omega)).mono ?_
     rintro e w34 ⟨rfl, hbx⟩
     replace HB := lh (below_on HB.out hbx)
     replace HX := lh (HX.out.below hbx)
     replace HY := lh (HY.out.below hbx)
     replace HXV := lh (HXV.out.below hbx)
     replace HYV := lh (HYV.out.below hbx)
     replace HQA := lh (HQA.out.below hbx)
     replace HBA := lh (HBA.out.below hbx)
     replace HBW := lh (HBW.out.below hbx)
     replace HU := lh (HU.out.below hbx)
     replace HV := lh (HV.out.below hbx)
     clear hbx
     go_wp2_with fail
     refine (samevec_twin HV.out HYV.out (by omega) (by have := HNL.out; omega)).mono ?_
     rintro e w35 ⟨rfl, hbx⟩
     replace HB := lh (below_on HB.out hbx)
     replace HX := lh (HX.out.below hbx)
     replace HY := lh (HY.out.below hbx)
     replace HXV := lh (HXV.out.below hbx)
     replace HYV := lh (HYV.out.below hbx)
     replace HQA := lh (HQA.out.below hbx)
     replace HBA := lh (HBA.out.below hbx)
     replace HBW := lh (HBW.out.below hbx)
     replace HU := lh (HU.out.below hbx)
     replace HV := lh (HV.out.below hbx)
     clear hbx
     go_wp2_with fail
     refine (awake_v w35).mono ?_
     rintro e w36 ⟨rfl, hbx⟩
     replace HB := lh (below_on HB.out hbx)
     replace HX := lh (HX.out.below hbx)
     replace HY := lh (HY.out.below hbx)
     replace HXV := lh (HXV.out.below hbx)
     replace HYV := lh (HYV.out.below hbx)
     replace HQA := lh (HQA.out.below hbx)
     replace HBA := lh (HBA.out.below hbx)
     replace HBW := lh (HBW.out.below hbx)
     replace HU := lh (HU.out.below hbx)
     replace HV := lh (HV.out.below hbx)
     go_wp2_with fail
     go_ret
     exact ⟨rfl, HB.out⟩
