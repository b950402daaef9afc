/- Part 34 of the proof: VRRight. -/
import Derived.Test.YthjiacmhhpfokaaGreatK33
namespace Go.Proofs.YthjiacmhhpfokaaGreat
open List renaming getElem_toArray → gY, getElem_cons_zero → gZ, getElem_cons_succ → gJ, setIfInBounds_toArray → sT, set_cons_zero → sZ, set_cons_succ → sS
open Act renaming put → aP
open Go.RowKit.Below renaming refl → bR
namespace V
open Lib renaming hid → lh
open Go.RowKit
open Q (IsQ OneQ RetQ below_on ql Qbx dden)
section
variable {P : Program} {ops : Array Oper} {Q : Exit → Act → World → Prop} {md : Region.Mode}
end
theorem one_end {F G : Nat → Nat → World → Prop} {C : Prop} (h : (∀ a b V, F a b V → G a b V) → C) (t : ∀ a b V, F a b V → G a b V) : C := h t
set_option maxRecDepth 100000 in
set_option maxHeartbeats 8000000 in
theorem rright_b {w : World} {A : Option Addr} {n c k : Nat} {ys : List (TV × Rat)} {X : Int → Rat} {p0 l0 L0 : Nat} (h : IsV w A n c ys k) (hv : VF w A n c X) (hX : tot (vals ys) = X) (hF : Fn p0 l0 L0 X) (hp0 : p0 ≤ 700) (hl0 : l0 ≤ 700) (hn : n ≤ 1000) (hk : k ≤ 700) (N : Int) (v : Bool) (hvv : v = true ↔ RightV w N ys) :
  Calls Tryz.prog 36 #[.slice A n c, .int .i64 N] w (RetB w v) := by
 have HI := lh h
 have HVF := lh hv
 have HX := lh hX
 have HF := lh hF
 have HP : Hid (p0 ≤ 700 ∧ l0 ≤ 700) := ⟨hp0, hl0⟩
 have HN := lh hn
 have HKK := lh hk
 have HVV := lh hvv
 have HLEN := lh h.en
 clear h hv hX hF hp0 hl0 hn hk hvv
 go_enter Tryz.func36, Tryz.ntmps36
 go_wp2_with fail
 refine (rnorm_c HVF.out HF.out HP.out.1 HP.out.2).mono ?_
 rintro e w1 ⟨B, m, d, rfl, hc, hb⟩
 obtain ⟨zs, z1, z2, z3⟩ := hc.ex
 have HB1 := lh hb
 have HZ := lh z1
 have HZL := lh z1.en
 have HZO := lh z3
 have HI1 := lh (HI.out.below hb)
 have HMM : Hid (∀ z ∈ zs, ql z.2 ≤ 700) := fun z hz => (z1.tq z hz).1.ql (by omega)
 obtain ⟨U, UV, hd⟩ := digs_of HI1.out
 have HD := lh hd
 have HRI : Hid (v = true ↔ zs.length = ys.length ∧ ∀ j, RowsOK N ys zs U UV j) := HVV.out.trans ((rightv_below HI.out hb).trans (right_iff HI1.out hd z2.1 (fun a => by rw [z2.2 a, ← HX.out]) z3 HMM.out))
 clear hc hb z1 z2 z3 hd
 by_cases hnm : m = n
 ·have g0 : ((m : Int) != (n : Int)) = false := by rw [hnm]; exact bne_self_eq_false _
  have HNM := lh hnm
  clear hnm
  go_wp2_with fail
  go_loopw [6] (fun iv wr => ∃ i : Nat, i ≤ n ∧ iv = .int .i64 (i : Int) ∧ Hid (Below w1.heap.size w1 wr) ∧ Hid (∀ j, j < i → RowsOK N ys zs U UV j)) (fun iv _ => n - (intOf iv).toNat)
  case atStart => exact ⟨0, Nat.zero_le _, rfl, bR _ _, fun j hj => absurd hj (Nat.not_lt_zero j)⟩
  case round =>
   obtain ⟨i, hi, rfl, HB, HG⟩ := hrel
   by_cases hlt : i < n
   ·have hi1 : (i : Int) < (n : Int) := by omega
    have hi0 : (0 : Int) ≤ (i : Int) := by omega
    have hi2 : (i : Int) < (m : Int) := by have := HNM.out; omega
    have hwi : IntKind.i64.wrap ((i : Int) + 1) = (i : Int) + 1 := by have := HN.out; rw [IntKind.wrap_i64]; omega
    obtain ⟨y, hy⟩ : ∃ y, ys[i]? = some y := ⟨ys[i]'(by have := HLEN.out; omega), List.getElem?_eq_getElem (by have := HLEN.out; omega)⟩
    obtain ⟨z, hz⟩ : ∃ z, zs[i]? = some z := ⟨zs[i]'(by have := HZL.out; have := HNM.out; omega), List.getElem?_eq_getElem (by have := HZL.out; have := HNM.out; omega)⟩
    obtain ⟨b1, off1, hA, hk1⟩ := row_at2 HI1.out.row (j := i) (x := y.1) (by rw [List.getElem?_map, hy]; rfl)
    obtain ⟨b2, off2, hB, hk2⟩ := row_at2 HZ.out.row (j := i) (x := z.1) (by rw [List.getElem?_map, hz]; rfl)
    obtain ⟨us, hus⟩ : ∃ us, U i = us := ⟨_, rfl⟩
    obtain ⟨vs, hvs⟩ : ∃ vs, UV i = vs := ⟨_, rfl⟩
    have HROW : Hid (RowOK N y z us vs → RowsOK N ys zs U UV i) := fun h9 y' z' hy' hz' => by
     rw [hy] at hy'; rw [hz] at hz'
     obtain rfl := Option.some.inj hy'
     obtain rfl := Option.some.inj hz'
     rw [hus, hvs]; exact h9
    have HNO : Hid (¬ RowOK N y z us vs → false = v) := fun h9 => by
     cases v with
     | false => rfl
     | true => exact absurd (hus ▸ hvs ▸ (HRI.out.1 rfl).2 i y z hy hz) h9
    have HDG := lh (HD.out.at_ i y hy)
    rw [hus, hvs] at HDG
    have HZ1 := lh (HZO.out z (List.mem_of_getElem? hz))
    have HQ7 : Hid (ql z.2 ≤ 700) := HMM.out z (List.mem_of_getElem? hz)
    have HYQ := lh (HI1.out.tq y (List.mem_of_getElem? hy)).1
    obtain ⟨⟨pat, ps, pA, pn, pc, pt, pB, pm, pd⟩, pq⟩ := y
    obtain ⟨⟨zat, zs_, zA, zn, zc, zt, zB, zm, zd⟩, zq⟩ := z
    simp only at HDG HZ1 HQ7 HYQ hk1 hk2
    have HLIM : Hid (pn ≤ 1000000 ∧ pm ≤ 1000000) := ⟨by have := HYQ.out.le; have := HKK.out; omega, by have := HYQ.out.le2; have := HKK.out; omega⟩
    subst hA hB
    have HK : Hid (∀ V, Below w1.heap.size w1 V → V.cell? ⟨b1, off1 + i * 5, none⟩ = some (.int .i64 pat) ∧ V.cell? ⟨b1, off1 + i * 5 + 1, none⟩ = some (.bool ps) ∧ V.cell? ⟨b1, off1 + i * 5 + 2, none⟩ = some (.slice pA pn pc) ∧ V.cell? ⟨b1, off1 + i * 5 + 3, none⟩ = some (.bool pt) ∧ V.cell? ⟨b1, off1 + i * 5 + 4, none⟩ = some (.slice pB pm pd) ∧ V.cell? ⟨b2, off2 + i * 5, none⟩ = some (.int .i64 zat) ∧ V.cell? ⟨b2, off2 + i * 5 + 1, none⟩ = some (.bool zs_) ∧ V.cell? ⟨b2, off2 + i * 5 + 2, none⟩ = some (.slice zA zn zc) ∧ V.cell? ⟨b2, off2 + i * 5 + 3, none⟩ = some (.bool zt) ∧ V.cell? ⟨b2, off2 + i * 5 + 4, none⟩ = some (.slice zB zm zd)) := fun V hV => by
     obtain ⟨p0, p1, p2, p3, p4⟩ := hk1 V hV
     obtain ⟨q0, q1, q2, q3, q4⟩ := hk2 V hV
     exact ⟨p0, p1, p2, p3, p4, q0, q1, q2, q3, q4⟩
    clear hy hz hk1 hk2 hus hvs
    go_upto_region 7 with fail
    as_aux_lemma =>
     obtain ⟨W, hW⟩ : ∃ V, wr.drew = V := ⟨_, rfl⟩
     have HBW : Hid (Below w1.heap.size w1 W) := by rw [← hW]; exact HB.out.drew
     refine wp_region_held_drew (S := (fun V => V.cell? ⟨b1, off1 + i * 5, none⟩ = some (.int .i64 pat) ∧ V.cell? ⟨b1, off1 + i * 5 + 1, none⟩ = some (.bool ps) ∧ V.cell? ⟨b1, off1 + i * 5 + 2, none⟩ = some (.slice pA pn pc) ∧ V.cell? ⟨b1, off1 + i * 5 + 3, none⟩ = some (.bool pt) ∧ V.cell? ⟨b1, off1 + i * 5 + 4, none⟩ = some (.slice pB pm pd) ∧ V.cell? ⟨b2, off2 + i * 5, none⟩ = some (.int .i64 zat) ∧ V.cell? ⟨b2, off2 + i * 5 + 1, none⟩ = some (.bool zs_) ∧ V.cell? ⟨b2, off2 + i * 5 + 2, none⟩ = some (.slice zA zn zc) ∧ V.cell? ⟨b2, off2 + i * 5 + 3, none⟩ = some (.bool zt) ∧ V.cell? ⟨b2, off2 + i * 5 + 4, none⟩ = some (.slice zB zm zd))) (by kernel_rfl) (by with_reducible exact HK.out _ HB.out.drew) (fun hHeld => ?_)
     rw [hW] at hHeld ⊢
     clear hW
     refine' tK 0 ?_
     try simp only [gY, gZ, aP, sT, sZ, sS]
     refine' tK 1 ?_
     try simp only [gY, gZ, gJ, aP, sT, sZ, sS]
     refine' tK 2 ?_
     try simp only [gY, gZ, gJ, aP, sT, sZ, sS]
     refine' tK 3 ?_
     try simp only [gY, gZ, gJ, aP, sT, sZ, sS]
     refine' tK 4 ?_
     try simp only [gY, gZ, gJ, aP, sT, sZ, sS]
     refine' tK 5 ?_
     try simp only [gY, gZ, gJ, aP, sT, sZ, sS]
     refine' tK 6 ?_
     try simp only [gY, gZ, gJ, aP, sT, sZ, sS]
     refine' tK 7 ?_
     try simp only [gY, gZ, gJ, aP, sT, sZ, sS]
     refine' tK 8 ?_
     try simp only [gY, gZ, gJ, aP, sT, sZ, sS]
     refine' tK 9 ?_
     try simp only [gY, gZ, gJ, aP, sT, sZ, sS]
     apply one_end (F := fun ga gb V => V.cell? ⟨ga, 0, none⟩ = V.cell? ⟨ga, 0, none⟩ ∧ Below w1.heap.size w1 V ∧ Qbx V ga ps pA pn pc pt pB pm pd ∧ Qbx V gb zs_ zA zn zc zt zB zm zd)
     case h =>
      intro tail
      refine wpAnyH_ready (rs := [10, 11]) (by kernel_rfl) (by simp) ?_
      refine (AllReadyH.cons rfl (fun K hK => ?_) (AllReadyH.cons rfl (fun K hK => ?_) AllReadyH.nil))
      ·try simp only [gY, gZ, gJ]
       go_simp
       obtain ⟨W1, hW1⟩ : ∃ V, W.alloc (.cells #[.bool false, .slice none 0 0, .bool false, .slice none 0 0] 27) = V := ⟨_, rfl⟩
       rw [hW1]
       have hb1 : Below W.heap.size W W1 := by rw [← hW1]; exact (bR _ _).alloc (Nat.le_refl _) _
       have hx1 : Qbx W1 W.heap.size false none 0 0 false none 0 0 := by rw [← hW1]; exact Qbx.new _ _ rfl
       have hs1 : W1.heap.size = W.heap.size + 1 := by rw [← hW1]; simp
       have HB9 := lh (below_on HBW.out hb1)
       have HX9 := lh hx1
       have HS9 := lh hs1
       clear hW1 hb1 hx1 hs1
       refine hK.out _ _ (by with_reducible exact HK.out _ HB9.out) (fun hHeld => ?_)
       clear hK K
       try simp only [aP, sT, sZ, sS]
       refine rQ 11 (fun K hK => ?_)
       try simp only [gY, gZ, gJ]
       go_simp
       obtain ⟨W2, hW2⟩ : ∃ V, W1.alloc (.cells #[.bool false, .slice none 0 0, .bool false, .slice none 0 0] 27) = V := ⟨_, rfl⟩
       rw [hW2]
       have hb2 : Below W1.heap.size W1 W2 := by rw [← hW2]; exact (bR _ _).alloc (Nat.le_refl _) _
       have hx2 : Qbx W2 W1.heap.size false none 0 0 false none 0 0 := by rw [← hW2]; exact Qbx.new _ _ rfl
       have HB8 := lh (below_on HB9.out hb2)
       obtain ⟨g1, hg1⟩ : ∃ g, W.heap.size = g := ⟨_, rfl⟩
       obtain ⟨g2, hg2⟩ : ∃ g, W1.heap.size = g := ⟨_, rfl⟩
       have HNE : Hid (g1 ≠ g2 ∧ w1.heap.size ≤ g1 ∧ w1.heap.size ≤ g2) := by have := HS9.out; have := HBW.out.size; exact ⟨by omega, by omega, by omega⟩
       have HX8 : Hid (Qbx W2 g1 false none 0 0 false none 0 0) := by rw [← hg1]; exact HX9.out.below hb2
       have HY8 : Hid (Qbx W2 g2 false none 0 0 false none 0 0) := by rw [← hg2]; exact hx2
       rw [hg1, hg2]
       clear hW2 hb2 hx2 HX9 HS9 HB9
       refine hK.out _ _ (by with_reducible exact HK.out _ HB8.out) (fun hHeld => ?_)
       clear hK K hg1 hg2
       try simp only [aP, sT, sZ, sS]
       refine rQ 12 (fun K hK => ?_)
       try simp only [gY, gZ, gJ]
       have v0 := HX8.out.c0
       have vf0 := HX8.out.f 0
       have v1 := HX8.out.c1
       have vf1 := HX8.out.f 1
       have v2 := HX8.out.c2
       have vf2 := HX8.out.f 2
       have v3 := HX8.out.c3
       have vf3 := HX8.out.f 3
       go_simp
       clear v0 v1 v2 v3 vf0 vf1 vf2 vf3
       obtain ⟨V100, hV100⟩ : ∃ V, Q.put4 W2 g1 ps pA pn pc pt pB pm pd = V := ⟨_, rfl⟩
       refine (congrArg (K _) hV100).mpr ?_
       have HM100 : Hid (Qbx V100 g1 ps pA pn pc pt pB pm pd) := by rw [← hV100]; exact HX8.out.put
       have HO100 : Hid (Qbx V100 g2 false none 0 0 false none 0 0) := by rw [← hV100]; exact HY8.out.put4_far (by have := HNE.out.1; omega)
       have HBB100 : Hid (Below w1.heap.size w1 V100) := by rw [← hV100]; exact Q.below_put4 HB8.out (by have := HNE.out; omega)
       clear hV100
       refine hK.out _ _ (by with_reducible exact HK.out _ HBB100.out) (fun hHeld => ?_)
       clear hK K
       try simp only [aP, sT, sZ, sS]
       refine rQ 13 (fun K hK => ?_)
       try simp only [gY, gZ, gJ]
       have v0 := HO100.out.c0
       have vf0 := HO100.out.f 0
       have v1 := HO100.out.c1
       have vf1 := HO100.out.f 1
       have v2 := HO100.out.c2
       have vf2 := HO100.out.f 2
       have v3 := HO100.out.c3
       have vf3 := HO100.out.f 3
       go_simp
       clear v0 v1 v2 v3 vf0 vf1 vf2 vf3
       obtain ⟨V101, hV101⟩ : ∃ V, Q.put4 V100 g2 zs_ zA zn zc zt zB zm zd = V := ⟨_, rfl⟩
       refine (congrArg (K _) hV101).mpr ?_
       have HM101 : Hid (Qbx V101 g2 zs_ zA zn zc zt zB zm zd) := by rw [← hV101]; exact HO100.out.put
       have HO101 : Hid (Qbx V101 g1 ps pA pn pc pt pB pm pd) := by rw [← hV101]; exact HM100.out.put4_far (by have := HNE.out.1; omega)
       have HBB101 : Hid (Below w1.heap.size w1 V101) := by rw [← hV101]; exact Q.below_put4 HBB100.out (by have := HNE.out; omega)
       clear hV101
       refine hK.out _ _ (by with_reducible exact HK.out _ HBB101.out) (fun hHeld => ?_)
       clear hK K
       try simp only [aP, sT, sZ, sS]
       exact tail g1 g2 V101 ⟨rfl, HBB101.out, HO101.out, HM101.out⟩
      ·try simp only [gY, gZ, gJ]
       go_simp
       obtain ⟨W1, hW1⟩ : ∃ V, W.alloc (.cells #[.bool false, .slice none 0 0, .bool false, .slice none 0 0] 27) = V := ⟨_, rfl⟩
       rw [hW1]
       have hb1 : Below W.heap.size W W1 := by rw [← hW1]; exact (bR _ _).alloc (Nat.le_refl _) _
       have hx1 : Qbx W1 W.heap.size false none 0 0 false none 0 0 := by rw [← hW1]; exact Qbx.new _ _ rfl
       have hs1 : W1.heap.size = W.heap.size + 1 := by rw [← hW1]; simp
       have HB9 := lh (below_on HBW.out hb1)
       have HX9 := lh hx1
       have HS9 := lh hs1
       clear hW1 hb1 hx1 hs1
       refine hK.out _ _ (by with_reducible exact HK.out _ HB9.out) (fun hHeld => ?_)
       clear hK K
       try simp only [aP, sT, sZ, sS]
       refine rQ 10 (fun K hK => ?_)
       try simp only [gY, gZ, gJ]
       go_simp
       obtain ⟨W2, hW2⟩ : ∃ V, W1.alloc (.cells #[.bool false, .slice none 0 0, .bool false, .slice none 0 0] 27) = V := ⟨_, rfl⟩
       rw [hW2]
       have hb2 : Below W1.heap.size W1 W2 := by rw [← hW2]; exact (bR _ _).alloc (Nat.le_refl _) _
       have hx2 : Qbx W2 W1.heap.size false none 0 0 false none 0 0 := by rw [← hW2]; exact Qbx.new _ _ rfl
       have HB8 := lh (below_on HB9.out hb2)
       obtain ⟨g1, hg1⟩ : ∃ g, W.heap.size = g := ⟨_, rfl⟩
       obtain ⟨g2, hg2⟩ : ∃ g, W1.heap.size = g := ⟨_, rfl⟩
       have HNE : Hid (g1 ≠ g2 ∧ w1.heap.size ≤ g1 ∧ w1.heap.size ≤ g2) := by have := HS9.out; have := HBW.out.size; exact ⟨by omega, by omega, by omega⟩
       have HX8 : Hid (Qbx W2 g1 false none 0 0 false none 0 0) := by rw [← hg1]; exact HX9.out.below hb2
       have HY8 : Hid (Qbx W2 g2 false none 0 0 false none 0 0) := by rw [← hg2]; exact hx2
       rw [hg1, hg2]
       clear hW2 hb2 hx2 HX9 HS9 HB9
       refine hK.out _ _ (by with_reducible exact HK.out _ HB8.out) (fun hHeld => ?_)
       clear hK K hg1 hg2
       try simp only [aP, sT, sZ, sS]
       refine rQ 12 (fun K hK => ?_)
       try simp only [gY, gZ, gJ]
       have v0 := HY8.out.c0
       have vf0 := HY8.out.f 0
       have v1 := HY8.out.c1
       have vf1 := HY8.out.f 1
       have v2 := HY8.out.c2
       have vf2 := HY8.out.f 2
       have v3 := HY8.out.c3
       have vf3 := HY8.out.f 3
       go_simp
       clear v0 v1 v2 v3 vf0 vf1 vf2 vf3
       obtain ⟨V110, hV110⟩ : ∃ V, Q.put4 W2 g2 ps pA pn pc pt pB pm pd = V := ⟨_, rfl⟩
       refine (congrArg (K _) hV110).mpr ?_
       have HM110 : Hid (Qbx V110 g2 ps pA pn pc pt pB pm pd) := by rw [← hV110]; exact HY8.out.put
       have HO110 : Hid (Qbx V110 g1 false none 0 0 false none 0 0) := by rw [← hV110]; exact HX8.out.put4_far (by have := HNE.out.1; omega)
       have HBB110 : Hid (Below w1.heap.size w1 V110) := by rw [← hV110]; exact Q.below_put4 HB8.out (by have := HNE.out; omega)
       clear hV110
       refine hK.out _ _ (by with_reducible exact HK.out _ HBB110.out) (fun hHeld => ?_)
       clear hK K
       try simp only [aP, sT, sZ, sS]
       refine rQ 13 (fun K hK => ?_)
       try simp only [gY, gZ, gJ]
       have v0 := HO110.out.c0
       have vf0 := HO110.out.f 0
       have v1 := HO110.out.c1
       have vf1 := HO110.out.f 1
       have v2 := HO110.out.c2
       have vf2 := HO110.out.f 2
       have v3 := HO110.out.c3
       have vf3 := HO110.out.f 3
       go_simp
       clear v0 v1 v2 v3 vf0 vf1 vf2 vf3
       obtain ⟨V111, hV111⟩ : ∃ V, Q.put4 V110 g1 zs_ zA zn zc zt zB zm zd = V := ⟨_, rfl⟩
       refine (congrArg (K _) hV111).mpr ?_
       have HM111 : Hid (Qbx V111 g1 zs_ zA zn zc zt zB zm zd) := by rw [← hV111]; exact HO110.out.put
       have HO111 : Hid (Qbx V111 g2 ps pA pn pc pt pB pm pd) := by rw [← hV111]; exact HM110.out.put4_far (by have := HNE.out.1; omega)
       have HBB111 : Hid (Below w1.heap.size w1 V111) := by rw [← hV111]; exact Q.below_put4 HBB110.out (by have := HNE.out; omega)
       clear hV111
       refine hK.out _ _ (by with_reducible exact HK.out _ HBB111.out) (fun hHeld => ?_)
       clear hK K
       try simp only [aP, sT, sZ, sS]
       exact tail g2 g1 V111 ⟨rfl, HBB111.out, HO111.out, HM111.out⟩
     case t =>
      rintro ga gb V ⟨-, hBV, hxa, hxb⟩
      have HBV := lh hBV
      have HXA := lh hxa
      have HXB := lh hxb
      clear hBV hxa hxb
      refine wpAnyH_done (by kernel_rfl) ?_ _
      go_upto_region 8 with fail
      simp only [List.append_eq, List.cons_append, List.nil_append]
      replace HBV := lh HBV.out.drew
      replace HXA := lh HXA.out.drew
      replace HXB := lh HXB.out.drew
      refine wp_region_held_drew (S := (fun V => (V.cell? ⟨b1, off1 + i * 5, none⟩ = some (.int .i64 pat) ∧ V.cell? ⟨b1, off1 + i * 5 + 1, none⟩ = some (.bool ps) ∧ V.cell? ⟨b1, off1 + i * 5 + 2, none⟩ = some (.slice pA pn pc) ∧ V.cell? ⟨b1, off1 + i * 5 + 3, none⟩ = some (.bool pt) ∧ V.cell? ⟨b1, off1 + i * 5 + 4, none⟩ = some (.slice pB pm pd) ∧ V.cell? ⟨b2, off2 + i * 5, none⟩ = some (.int .i64 zat) ∧ V.cell? ⟨b2, off2 + i * 5 + 1, none⟩ = some (.bool zs_) ∧ V.cell? ⟨b2, off2 + i * 5 + 2, none⟩ = some (.slice zA zn zc) ∧ V.cell? ⟨b2, off2 + i * 5 + 3, none⟩ = some (.bool zt) ∧ V.cell? ⟨b2, off2 + i * 5 + 4, none⟩ = some (.slice zB zm zd)) ∧ V.cell? ⟨ga, 0, none⟩ = some (.bool ps) ∧ V.cell? ⟨ga, 1, none⟩ = some (.slice pA pn pc) ∧ V.cell? ⟨ga, 2, none⟩ = some (.bool pt) ∧ V.cell? ⟨ga, 3, none⟩ = some (.slice pB pm pd) ∧ V.cell? ⟨gb, 0, none⟩ = some (.bool zs_) ∧ V.cell? ⟨gb, 1, none⟩ = some (.slice zA zn zc) ∧ V.cell? ⟨gb, 2, none⟩ = some (.bool zt) ∧ V.cell? ⟨gb, 3, none⟩ = some (.slice zB zm zd))) (by kernel_rfl) (by with_reducible exact ⟨HK.out _ HBV.out, HXA.out.c0, HXA.out.c1, HXA.out.c2, HXA.out.c3, HXB.out.c0, HXB.out.c1, HXB.out.c2, HXB.out.c3⟩) (fun hHeld => ?_)
      refine' tK 0 ?_
      try simp only [gY, gZ, aP, sT, sZ, sS]
      refine' tK 1 ?_
      try simp only [gY, gZ, gJ, aP, sT, sZ, sS]
      refine' tK 2 ?_
      try simp only [gY, gZ, gJ, aP, sT, sZ, sS]
      refine' tK 3 ?_
      try simp only [gY, gZ, gJ, aP, sT, sZ, sS]
      refine' tK 4 ?_
      try simp only [gY, gZ, gJ, aP, sT, sZ, sS]
      refine' tK 5 ?_
      try simp only [gY, gZ, gJ, aP, sT, sZ, sS]
      refine' tK 6 ?_
      try simp only [gY, gZ, gJ, aP, sT, sZ, sS]
      refine' tK 7 ?_
      try simp only [gY, gZ, gJ, aP, sT, sZ, sS]
      refine' tK 8 ?_
      try simp only [gY, gZ, gJ, aP, sT, sZ, sS]
      refine' tK 9 ?_
      try simp only [gY, gZ, gJ, aP, sT, sZ, sS]
      by_cases ha : pat ≠ zat
      ·have g1 : (pat != zat) = true := bne_iff_ne.2 ha
       have HH := lh ha
       clear ha
       as_aux_lemma =>
       refine' tK 10 ?_
       try simp only [gY, gZ, gJ, aP, sT, sZ, sS]
       refine' tK 11 ?_
       try simp only [gY, gZ, gJ, aP, sT, sZ, sS]
       refine sK 12 ?_
       try simp only [gY, gZ, gJ, aP, sT, sZ, sS]
       refine sK 13 ?_
       try simp only [gY, gZ, gJ, aP, sT, sZ, sS]
       refine sK 14 ?_
       try simp only [gY, gZ, gJ, aP, sT, sZ, sS]
       refine sK 15 ?_
       try simp only [gY, gZ, gJ, aP, sT, sZ, sS]
       refine sK 16 ?_
       try simp only [gY, gZ, gJ, aP, sT, sZ, sS]
       refine sK 17 ?_
       try simp only [gY, gZ, gJ, aP, sT, sZ, sS]
       refine' tK 18 ?_
       try simp only [gY, gZ, gJ, aP, sT, sZ, sS]
       refine' tK 19 ?_
       try simp only [gY, gZ, gJ, aP, sT, sZ, sS]
       refine sK 20 ?_
       try simp only [gY, gZ, gJ, aP, sT, sZ, sS]
       refine sK 21 ?_
       try simp only [gY, gZ, gJ, aP, sT, sZ, sS]
       refine sK 22 ?_
       try simp only [gY, gZ, gJ, aP, sT, sZ, sS]
       refine sK 23 ?_
       try simp only [gY, gZ, gJ, aP, sT, sZ, sS]
       refine sK 24 ?_
       try simp only [gY, gZ, gJ, aP, sT, sZ, sS]
       refine sK 25 ?_
       try simp only [gY, gZ, gJ, aP, sT, sZ, sS]
       refine sK 26 ?_
       try simp only [gY, gZ, gJ, aP, sT, sZ, sS]
       refine' tK 27 ?_
       try simp only [gY, gZ, gJ, aP, sT, sZ, sS]
       refine' tK 28 ?_
       try simp only [gY, gZ, gJ, aP, sT, sZ, sS]
       refine sK 29 ?_
       try simp only [gY, gZ, gJ, aP, sT, sZ, sS]
       refine sK 30 ?_
       try simp only [gY, gZ, gJ, aP, sT, sZ, sS]
       refine sK 31 ?_
       try simp only [gY, gZ, gJ, aP, sT, sZ, sS]
       refine sK 32 ?_
       try simp only [gY, gZ, gJ, aP, sT, sZ, sS]
       refine sK 33 ?_
       try simp only [gY, gZ, gJ, aP, sT, sZ, sS]
       refine sK 34 ?_
       try simp only [gY, gZ, gJ, aP, sT, sZ, sS]
       refine sK 35 ?_
       try simp only [gY, gZ, gJ, aP, sT, sZ, sS]
       refine' tK 36 ?_
       try simp only [gY, gZ, gJ, aP, sT, sZ, sS]
       refine' tK 37 ?_
       try simp only [gY, gZ, gJ, aP, sT, sZ, sS]
       refine sK 38 ?_
       try simp only [gY, gZ, gJ, aP, sT, sZ, sS]
       refine sK 39 ?_
       try simp only [gY, gZ, gJ, aP, sT, sZ, sS]
       refine sK 40 ?_
       try simp only [gY, gZ, gJ, aP, sT, sZ, sS]
       refine sK 41 ?_
       try simp only [gY, gZ, gJ, aP, sT, sZ, sS]
       refine sK 42 ?_
       try simp only [gY, gZ, gJ, aP, sT, sZ, sS]
       refine sK 43 ?_
       try simp only [gY, gZ, gJ, aP, sT, sZ, sS]
       refine sK 44 ?_
       try simp only [gY, gZ, gJ, aP, sT, sZ, sS]
       refine' tK 45 ?_
       try simp only [gY, gZ, gJ, aP, sT, sZ, sS]
       refine' tK 46 ?_
       try simp only [gY, gZ, gJ, aP, sT, sZ, sS]
       refine sK 47 ?_
       try simp only [gY, gZ, gJ, aP, sT, sZ, sS]
       refine sK 48 ?_
       try simp only [gY, gZ, gJ, aP, sT, sZ, sS]
       refine sK 49 ?_
       try simp only [gY, gZ, gJ, aP, sT, sZ, sS]
       refine sK 50 ?_
       try simp only [gY, gZ, gJ, aP, sT, sZ, sS]
       refine sK 51 ?_
       try simp only [gY, gZ, gJ, aP, sT, sZ, sS]
       refine sK 52 ?_
       try simp only [gY, gZ, gJ, aP, sT, sZ, sS]
       refine sK 53 ?_
       try simp only [gY, gZ, gJ, aP, sT, sZ, sS]
       refine sK 54 ?_
       try simp only [gY, gZ, gJ, aP, sT, sZ, sS]
       refine' tK 55 ?_
       try simp only [gY, gZ, gJ, aP, sT, sZ, sS]
       refine' tK 56 ?_
       try simp only [gY, gZ, gJ, aP, sT, sZ, sS]
       refine sK 57 ?_
       try simp only [gY, gZ, gJ, aP, sT, sZ, sS]
       refine sK 58 ?_
       try simp only [gY, gZ, gJ, aP, sT, sZ, sS]
       refine sK 59 ?_
       try simp only [gY, gZ, gJ, aP, sT, sZ, sS]
       refine sK 60 ?_
       try simp only [gY, gZ, gJ, aP, sT, sZ, sS]
       refine sK 61 ?_
       try simp only [gY, gZ, gJ, aP, sT, sZ, sS]
       refine sK 62 ?_
       try simp only [gY, gZ, gJ, aP, sT, sZ, sS]
       refine sK 63 ?_
       try simp only [gY, gZ, gJ, aP, sT, sZ, sS]
       refine sK 64 ?_
       try simp only [gY, gZ, gJ, aP, sT, sZ, sS]
       refine' tK 65 ?_
       try simp only [gY, gZ, gJ, aP, sT, sZ, sS]
       refine wpAnyH_done (by kernel_rfl) ?_ _
       have HE : Hid (false = v) := HNO.out (fun h9 => HH.out h9.at_)
       go_wp2_with fail
       exact ⟨rfl, .bool false, by simp [results, Tryz.results36, go_sem], by rw [← HE.out]; exact ⟨rfl, below_on HB1.out HBV.out⟩⟩
      ·have g1 : (pat != zat) = false := by rw [Classical.not_not.1 ha]; exact bne_self_eq_false _
       have HA := lh (Classical.not_not.1 ha)
       clear ha
       refine' tK 10 ?_
       try simp only [gY, gZ, gJ, aP, sT, sZ, sS]
       refine' tK 11 ?_
       try simp only [gY, gZ, gJ, aP, sT, sZ, sS]
       refine' tK 12 ?_
       try simp only [gY, gZ, gJ, aP, sT, sZ, sS]
       refine' tK 13 ?_
       try simp only [gY, gZ, gJ, aP, sT, sZ, sS]
       refine' tK 14 ?_
       try simp only [gY, gZ, gJ, aP, sT, sZ, sS]
       refine' tK 15 ?_
       try simp only [gY, gZ, gJ, aP, sT, sZ, sS]
       refine' tK 16 ?_
       try simp only [gY, gZ, gJ, aP, sT, sZ, sS]
       by_cases hb : pat < 0
       ·have HH := lh hb
        as_aux_lemma =>
        refine' tK 17 ?_
        try simp only [gY, gZ, gJ, aP, sT, sZ, sS]
        refine' tK 18 ?_
        try simp only [gY, gZ, gJ, aP, sT, sZ, sS]
        refine' tK 19 ?_
        try simp only [gY, gZ, gJ, aP, sT, sZ, sS]
        refine sK 20 ?_
        try simp only [gY, gZ, gJ, aP, sT, sZ, sS]
        refine sK 21 ?_
        try simp only [gY, gZ, gJ, aP, sT, sZ, sS]
        refine sK 22 ?_
        try simp only [gY, gZ, gJ, aP, sT, sZ, sS]
        refine sK 23 ?_
        try simp only [gY, gZ, gJ, aP, sT, sZ, sS]
        refine sK 24 ?_
        try simp only [gY, gZ, gJ, aP, sT, sZ, sS]
        refine sK 25 ?_
        try simp only [gY, gZ, gJ, aP, sT, sZ, sS]
        refine sK 26 ?_
        try simp only [gY, gZ, gJ, aP, sT, sZ, sS]
        refine' tK 27 ?_
        try simp only [gY, gZ, gJ, aP, sT, sZ, sS]
        refine' tK 28 ?_
        try simp only [gY, gZ, gJ, aP, sT, sZ, sS]
        refine sK 29 ?_
        try simp only [gY, gZ, gJ, aP, sT, sZ, sS]
        refine sK 30 ?_
        try simp only [gY, gZ, gJ, aP, sT, sZ, sS]
        refine sK 31 ?_
        try simp only [gY, gZ, gJ, aP, sT, sZ, sS]
        refine sK 32 ?_
        try simp only [gY, gZ, gJ, aP, sT, sZ, sS]
        refine sK 33 ?_
        try simp only [gY, gZ, gJ, aP, sT, sZ, sS]
        refine sK 34 ?_
        try simp only [gY, gZ, gJ, aP, sT, sZ, sS]
        refine sK 35 ?_
        try simp only [gY, gZ, gJ, aP, sT, sZ, sS]
        refine' tK 36 ?_
        try simp only [gY, gZ, gJ, aP, sT, sZ, sS]
        refine' tK 37 ?_
        try simp only [gY, gZ, gJ, aP, sT, sZ, sS]
        refine sK 38 ?_
        try simp only [gY, gZ, gJ, aP, sT, sZ, sS]
        refine sK 39 ?_
        try simp only [gY, gZ, gJ, aP, sT, sZ, sS]
        refine sK 40 ?_
        try simp only [gY, gZ, gJ, aP, sT, sZ, sS]
        refine sK 41 ?_
        try simp only [gY, gZ, gJ, aP, sT, sZ, sS]
        refine sK 42 ?_
        try simp only [gY, gZ, gJ, aP, sT, sZ, sS]
        refine sK 43 ?_
        try simp only [gY, gZ, gJ, aP, sT, sZ, sS]
        refine sK 44 ?_
        try simp only [gY, gZ, gJ, aP, sT, sZ, sS]
        refine' tK 45 ?_
        try simp only [gY, gZ, gJ, aP, sT, sZ, sS]
        refine' tK 46 ?_
        try simp only [gY, gZ, gJ, aP, sT, sZ, sS]
        refine sK 47 ?_
        try simp only [gY, gZ, gJ, aP, sT, sZ, sS]
        refine sK 48 ?_
        try simp only [gY, gZ, gJ, aP, sT, sZ, sS]
        refine sK 49 ?_
        try simp only [gY, gZ, gJ, aP, sT, sZ, sS]
        refine sK 50 ?_
        try simp only [gY, gZ, gJ, aP, sT, sZ, sS]
        refine sK 51 ?_
        try simp only [gY, gZ, gJ, aP, sT, sZ, sS]
        refine sK 52 ?_
        try simp only [gY, gZ, gJ, aP, sT, sZ, sS]
        refine sK 53 ?_
        try simp only [gY, gZ, gJ, aP, sT, sZ, sS]
        refine sK 54 ?_
        try simp only [gY, gZ, gJ, aP, sT, sZ, sS]
        refine' tK 55 ?_
        try simp only [gY, gZ, gJ, aP, sT, sZ, sS]
        refine' tK 56 ?_
        try simp only [gY, gZ, gJ, aP, sT, sZ, sS]
        refine sK 57 ?_
        try simp only [gY, gZ, gJ, aP, sT, sZ, sS]
        refine sK 58 ?_
        try simp only [gY, gZ, gJ, aP, sT, sZ, sS]
        refine sK 59 ?_
        try simp only [gY, gZ, gJ, aP, sT, sZ, sS]
        refine sK 60 ?_
        try simp only [gY, gZ, gJ, aP, sT, sZ, sS]
        refine sK 61 ?_
        try simp only [gY, gZ, gJ, aP, sT, sZ, sS]
        refine sK 62 ?_
        try simp only [gY, gZ, gJ, aP, sT, sZ, sS]
        refine sK 63 ?_
        try simp only [gY, gZ, gJ, aP, sT, sZ, sS]
        refine sK 64 ?_
        try simp only [gY, gZ, gJ, aP, sT, sZ, sS]
        refine' tK 65 ?_
        try simp only [gY, gZ, gJ, aP, sT, sZ, sS]
        refine wpAnyH_done (by kernel_rfl) ?_ _
        have HE : Hid (false = v) := HNO.out (fun h9 => by have := h9.lo; have := HH.out; simp only at *; omega)
        go_wp2_with fail
        exact ⟨rfl, .bool false, by simp [results, Tryz.results36, go_sem], by rw [← HE.out]; exact ⟨rfl, below_on HB1.out HBV.out⟩⟩
       ·have hb' : (0 : Int) ≤ pat := by omega
        have HLO := lh hb'
        refine' tK 17 ?_
        try simp only [gY, gZ, gJ, aP, sT, sZ, sS]
        refine' tK 18 ?_
        try simp only [gY, gZ, gJ, aP, sT, sZ, sS]
        refine' tK 19 ?_
        try simp only [gY, gZ, gJ, aP, sT, sZ, sS]
        refine' tK 20 ?_
        try simp only [gY, gZ, gJ, aP, sT, sZ, sS]
        refine' tK 21 ?_
        try simp only [gY, gZ, gJ, aP, sT, sZ, sS]
        refine' tK 22 ?_
        try simp only [gY, gZ, gJ, aP, sT, sZ, sS]
        refine' tK 23 ?_
        try simp only [gY, gZ, gJ, aP, sT, sZ, sS]
        refine' tK 24 ?_
        try simp only [gY, gZ, gJ, aP, sT, sZ, sS]
        refine' tK 25 ?_
        try simp only [gY, gZ, gJ, aP, sT, sZ, sS]
        by_cases hc : N ≤ pat
        ·have HH := lh hc
         as_aux_lemma =>
         refine' tK 26 ?_
         try simp only [gY, gZ, gJ, aP, sT, sZ, sS]
         refine' tK 27 ?_
         try simp only [gY, gZ, gJ, aP, sT, sZ, sS]
         refine' tK 28 ?_
         try simp only [gY, gZ, gJ, aP, sT, sZ, sS]
         refine sK 29 ?_
         try simp only [gY, gZ, gJ, aP, sT, sZ, sS]
         refine sK 30 ?_
         try simp only [gY, gZ, gJ, aP, sT, sZ, sS]
         refine sK 31 ?_
         try simp only [gY, gZ, gJ, aP, sT, sZ, sS]
         refine sK 32 ?_
         try simp only [gY, gZ, gJ, aP, sT, sZ, sS]
         refine sK 33 ?_
         try simp only [gY, gZ, gJ, aP, sT, sZ, sS]
         refine sK 34 ?_
         try simp only [gY, gZ, gJ, aP, sT, sZ, sS]
         refine sK 35 ?_
         try simp only [gY, gZ, gJ, aP, sT, sZ, sS]
         refine' tK 36 ?_
         try simp only [gY, gZ, gJ, aP, sT, sZ, sS]
         refine' tK 37 ?_
         try simp only [gY, gZ, gJ, aP, sT, sZ, sS]
         refine sK 38 ?_
         try simp only [gY, gZ, gJ, aP, sT, sZ, sS]
         refine sK 39 ?_
         try simp only [gY, gZ, gJ, aP, sT, sZ, sS]
         refine sK 40 ?_
         try simp only [gY, gZ, gJ, aP, sT, sZ, sS]
         refine sK 41 ?_
         try simp only [gY, gZ, gJ, aP, sT, sZ, sS]
         refine sK 42 ?_
         try simp only [gY, gZ, gJ, aP, sT, sZ, sS]
         refine sK 43 ?_
         try simp only [gY, gZ, gJ, aP, sT, sZ, sS]
         refine sK 44 ?_
         try simp only [gY, gZ, gJ, aP, sT, sZ, sS]
         refine' tK 45 ?_
         try simp only [gY, gZ, gJ, aP, sT, sZ, sS]
         refine' tK 46 ?_
         try simp only [gY, gZ, gJ, aP, sT, sZ, sS]
         refine sK 47 ?_
         try simp only [gY, gZ, gJ, aP, sT, sZ, sS]
         refine sK 48 ?_
         try simp only [gY, gZ, gJ, aP, sT, sZ, sS]
         refine sK 49 ?_
         try simp only [gY, gZ, gJ, aP, sT, sZ, sS]
         refine sK 50 ?_
         try simp only [gY, gZ, gJ, aP, sT, sZ, sS]
         refine sK 51 ?_
         try simp only [gY, gZ, gJ, aP, sT, sZ, sS]
         refine sK 52 ?_
         try simp only [gY, gZ, gJ, aP, sT, sZ, sS]
         refine sK 53 ?_
         try simp only [gY, gZ, gJ, aP, sT, sZ, sS]
         refine sK 54 ?_
         try simp only [gY, gZ, gJ, aP, sT, sZ, sS]
         refine' tK 55 ?_
         try simp only [gY, gZ, gJ, aP, sT, sZ, sS]
         refine' tK 56 ?_
         try simp only [gY, gZ, gJ, aP, sT, sZ, sS]
         refine sK 57 ?_
         try simp only [gY, gZ, gJ, aP, sT, sZ, sS]
         refine sK 58 ?_
         try simp only [gY, gZ, gJ, aP, sT, sZ, sS]
         refine sK 59 ?_
         try simp only [gY, gZ, gJ, aP, sT, sZ, sS]
         refine sK 60 ?_
         try simp only [gY, gZ, gJ, aP, sT, sZ, sS]
         refine sK 61 ?_
         try simp only [gY, gZ, gJ, aP, sT, sZ, sS]
         refine sK 62 ?_
         try simp only [gY, gZ, gJ, aP, sT, sZ, sS]
         refine sK 63 ?_
         try simp only [gY, gZ, gJ, aP, sT, sZ, sS]
         refine sK 64 ?_
         try simp only [gY, gZ, gJ, aP, sT, sZ, sS]
         refine' tK 65 ?_
         try simp only [gY, gZ, gJ, aP, sT, sZ, sS]
         refine wpAnyH_done (by kernel_rfl) ?_ _
         have HE : Hid (false = v) := HNO.out (fun h9 => by have := h9.hi; have := HH.out; simp only at *; omega)
         go_wp2_with fail
         exact ⟨rfl, .bool false, by simp [results, Tryz.results36, go_sem], by rw [← HE.out]; exact ⟨rfl, below_on HB1.out HBV.out⟩⟩
        ·have hc' : pat < N := by omega
         have HHI := lh hc'
         refine' tK 26 ?_
         try simp only [gY, gZ, gJ, aP, sT, sZ, sS]
         refine' tK 27 ?_
         try simp only [gY, gZ, gJ, aP, sT, sZ, sS]
         refine' tK 28 ?_
         try simp only [gY, gZ, gJ, aP, sT, sZ, sS]
         refine' tK 29 ?_
         try simp only [gY, gZ, gJ, aP, sT, sZ, sS]
         refine' tK 30 ?_
         try simp only [gY, gZ, gJ, aP, sT, sZ, sS]
         refine' tK 31 ?_
         try simp only [gY, gZ, gJ, aP, sT, sZ, sS]
         refine' tK 32 ?_
         try simp only [gY, gZ, gJ, aP, sT, sZ, sS]
         refine' tK 33 ?_
         try simp only [gY, gZ, gJ, aP, sT, sZ, sS]
         refine' tK 34 ?_
         try simp only [gY, gZ, gJ, aP, sT, sZ, sS]
         by_cases hs : ps ≠ zs_
         ·have g2 : (ps == zs_) = false := by revert hs; cases ps <;> cases zs_ <;> simp
          have g2b : (ps != zs_) = true := by rw [bne, g2]; rfl
          have HH := lh hs
          clear hs
          as_aux_lemma =>
          refine' tK 35 ?_
          try simp only [gY, gZ, gJ, aP, sT, sZ, sS]
          refine' tK 36 ?_
          try simp only [gY, gZ, gJ, aP, sT, sZ, sS]
          refine' tK 37 ?_
          try simp only [gY, gZ, gJ, aP, sT, sZ, sS]
          refine sK 38 ?_
          try simp only [gY, gZ, gJ, aP, sT, sZ, sS]
          refine sK 39 ?_
          try simp only [gY, gZ, gJ, aP, sT, sZ, sS]
          refine sK 40 ?_
          try simp only [gY, gZ, gJ, aP, sT, sZ, sS]
          refine sK 41 ?_
          try simp only [gY, gZ, gJ, aP, sT, sZ, sS]
          refine sK 42 ?_
          try simp only [gY, gZ, gJ, aP, sT, sZ, sS]
          refine sK 43 ?_
          try simp only [gY, gZ, gJ, aP, sT, sZ, sS]
          refine sK 44 ?_
          try simp only [gY, gZ, gJ, aP, sT, sZ, sS]
          refine' tK 45 ?_
          try simp only [gY, gZ, gJ, aP, sT, sZ, sS]
          refine' tK 46 ?_
          try simp only [gY, gZ, gJ, aP, sT, sZ, sS]
          refine sK 47 ?_
          try simp only [gY, gZ, gJ, aP, sT, sZ, sS]
          refine sK 48 ?_
          try simp only [gY, gZ, gJ, aP, sT, sZ, sS]
          refine sK 49 ?_
          try simp only [gY, gZ, gJ, aP, sT, sZ, sS]
          refine sK 50 ?_
          try simp only [gY, gZ, gJ, aP, sT, sZ, sS]
          refine sK 51 ?_
          try simp only [gY, gZ, gJ, aP, sT, sZ, sS]
          refine sK 52 ?_
          try simp only [gY, gZ, gJ, aP, sT, sZ, sS]
          refine sK 53 ?_
          try simp only [gY, gZ, gJ, aP, sT, sZ, sS]
          refine sK 54 ?_
          try simp only [gY, gZ, gJ, aP, sT, sZ, sS]
          refine' tK 55 ?_
          try simp only [gY, gZ, gJ, aP, sT, sZ, sS]
          refine' tK 56 ?_
          try simp only [gY, gZ, gJ, aP, sT, sZ, sS]
          refine sK 57 ?_
          try simp only [gY, gZ, gJ, aP, sT, sZ, sS]
          refine sK 58 ?_
          try simp only [gY, gZ, gJ, aP, sT, sZ, sS]
          refine sK 59 ?_
          try simp only [gY, gZ, gJ, aP, sT, sZ, sS]
          refine sK 60 ?_
          try simp only [gY, gZ, gJ, aP, sT, sZ, sS]
          refine sK 61 ?_
          try simp only [gY, gZ, gJ, aP, sT, sZ, sS]
          refine sK 62 ?_
          try simp only [gY, gZ, gJ, aP, sT, sZ, sS]
          refine sK 63 ?_
          try simp only [gY, gZ, gJ, aP, sT, sZ, sS]
          refine sK 64 ?_
          try simp only [gY, gZ, gJ, aP, sT, sZ, sS]
          refine' tK 65 ?_
          try simp only [gY, gZ, gJ, aP, sT, sZ, sS]
          refine wpAnyH_done (by kernel_rfl) ?_ _
          have HE : Hid (false = v) := HNO.out (fun h9 => HH.out h9.s)
          go_wp2_with fail
          exact ⟨rfl, .bool false, by simp [results, Tryz.results36, go_sem], by rw [← HE.out]; exact ⟨rfl, below_on HB1.out HBV.out⟩⟩
         ·have hs' := Classical.not_not.1 hs
          have g2 : (ps == zs_) = true := by rw [hs']; cases zs_ <;> rfl
          have g2b : (ps != zs_) = false := by rw [hs']; cases zs_ <;> rfl
          have HS := lh hs'
          clear hs hs'
          refine' tK 35 ?_
          try simp only [gY, gZ, gJ, aP, sT, sZ, sS]
          refine' tK 36 ?_
          try simp only [gY, gZ, gJ, aP, sT, sZ, sS]
          refine' tK 37 ?_
          try simp only [gY, gZ, gJ, aP, sT, sZ, sS]
          refine' tK 38 ?_
          try simp only [gY, gZ, gJ, aP, sT, sZ, sS]
          refine' tK 39 ?_
          try simp only [gY, gZ, gJ, aP, sT, sZ, sS]
          refine' tK 40 ?_
          try simp only [gY, gZ, gJ, aP, sT, sZ, sS]
          refine' tK 41 ?_
          try simp only [gY, gZ, gJ, aP, sT, sZ, sS]
          refine' tK 42 ?_
          try simp only [gY, gZ, gJ, aP, sT, sZ, sS]
          refine' tK 43 ?_
          try simp only [gY, gZ, gJ, aP, sT, sZ, sS]
          by_cases ht : pt ≠ zt
          ·have g3 : (pt == zt) = false := by revert ht; cases pt <;> cases zt <;> simp
           have g3b : (pt != zt) = true := by rw [bne, g3]; rfl
           have HH := lh ht
           clear ht
           as_aux_lemma =>
           refine' tK 44 ?_
           try simp only [gY, gZ, gJ, aP, sT, sZ, sS]
           refine' tK 45 ?_
           try simp only [gY, gZ, gJ, aP, sT, sZ, sS]
           refine' tK 46 ?_
           try simp only [gY, gZ, gJ, aP, sT, sZ, sS]
           refine sK 47 ?_
           try simp only [gY, gZ, gJ, aP, sT, sZ, sS]
           refine sK 48 ?_
           try simp only [gY, gZ, gJ, aP, sT, sZ, sS]
           refine sK 49 ?_
           try simp only [gY, gZ, gJ, aP, sT, sZ, sS]
           refine sK 50 ?_
           try simp only [gY, gZ, gJ, aP, sT, sZ, sS]
           refine sK 51 ?_
           try simp only [gY, gZ, gJ, aP, sT, sZ, sS]
           refine sK 52 ?_
           try simp only [gY, gZ, gJ, aP, sT, sZ, sS]
           refine sK 53 ?_
           try simp only [gY, gZ, gJ, aP, sT, sZ, sS]
           refine sK 54 ?_
           try simp only [gY, gZ, gJ, aP, sT, sZ, sS]
           refine' tK 55 ?_
           try simp only [gY, gZ, gJ, aP, sT, sZ, sS]
           refine' tK 56 ?_
           try simp only [gY, gZ, gJ, aP, sT, sZ, sS]
           refine sK 57 ?_
           try simp only [gY, gZ, gJ, aP, sT, sZ, sS]
           refine sK 58 ?_
           try simp only [gY, gZ, gJ, aP, sT, sZ, sS]
           refine sK 59 ?_
           try simp only [gY, gZ, gJ, aP, sT, sZ, sS]
           refine sK 60 ?_
           try simp only [gY, gZ, gJ, aP, sT, sZ, sS]
           refine sK 61 ?_
           try simp only [gY, gZ, gJ, aP, sT, sZ, sS]
           refine sK 62 ?_
           try simp only [gY, gZ, gJ, aP, sT, sZ, sS]
           refine sK 63 ?_
           try simp only [gY, gZ, gJ, aP, sT, sZ, sS]
           refine sK 64 ?_
           try simp only [gY, gZ, gJ, aP, sT, sZ, sS]
           refine' tK 65 ?_
           try simp only [gY, gZ, gJ, aP, sT, sZ, sS]
           refine wpAnyH_done (by kernel_rfl) ?_ _
           have HE : Hid (false = v) := HNO.out (fun h9 => HH.out h9.t)
           go_wp2_with fail
           exact ⟨rfl, .bool false, by simp [results, Tryz.results36, go_sem], by rw [← HE.out]; exact ⟨rfl, below_on HB1.out HBV.out⟩⟩
          ·have ht' := Classical.not_not.1 ht
           have g3 : (pt == zt) = true := by rw [ht']; cases zt <;> rfl
           have g3b : (pt != zt) = false := by rw [ht']; cases zt <;> rfl
           have HT := lh ht'
           clear ht ht'
           refine' tK 44 ?_
           try simp only [gY, gZ, gJ, aP, sT, sZ, sS]
           refine' tK 45 ?_
           try simp only [gY, gZ, gJ, aP, sT, sZ, sS]
           refine' tK 46 ?_
           try simp only [gY, gZ, gJ, aP, sT, sZ, sS]
           refine' tK 47 ?_
           try simp only [gY, gZ, gJ, aP, sT, sZ, sS]
           refine' tK 48 ?_
           try simp only [gY, gZ, gJ, aP, sT, sZ, sS]
           refine' tK 49 ?_
           try simp only [gY, gZ, gJ, aP, sT, sZ, sS]
           refine' tK 50 ?_
           try simp only [gY, gZ, gJ, aP, sT, sZ, sS]
           refine' tK 51 ?_
           try simp only [gY, gZ, gJ, aP, sT, sZ, sS]
           refine' tK 52 ?_
           try simp only [gY, gZ, gJ, aP, sT, sZ, sS]
           obtain ⟨v1, hv1⟩ : ∃ v1, decide (us = YthjiacmhhpfokaaGreat.dig zq.num.natAbs) = v1 := ⟨_, rfl⟩
           have HV1 := lh hv1
           clear hv1
           refine rQ 53 (fun K hK => ?_)
           try simp only [gY, gZ, gJ]
           go_simp
           with_reducible refine (samew_d (HDG.out.2.2.1.below HBV.out) (HZ1.out.num.below HBV.out) HDG.out.1 HZ1.out.en HLIM.out.1 v1 HV1.out).mono ?_
           rintro e w53 ⟨rfl, hbx⟩
           replace HBV := lh (below_on HBV.out hbx)
           replace HXA := lh (HXA.out.below hbx)
           replace HXB := lh (HXB.out.below hbx)
           clear hbx
           refine hK.out _ _ (by with_reducible exact ⟨HK.out _ HBV.out, HXA.out.c0, HXA.out.c1, HXA.out.c2, HXA.out.c3, HXB.out.c0, HXB.out.c1, HXB.out.c2, HXB.out.c3⟩) (fun hHeld => ?_)
           clear hK K
           try simp only [aP, sT, sZ, sS]
           cases v1 with
           | false =>
            as_aux_lemma =>
            refine' tK 54 ?_
            try simp only [gY, gZ, gJ, aP, sT, sZ, sS]
            refine' tK 55 ?_
            try simp only [gY, gZ, gJ, aP, sT, sZ, sS]
            refine' tK 56 ?_
            try simp only [gY, gZ, gJ, aP, sT, sZ, sS]
            refine sK 57 ?_
            try simp only [gY, gZ, gJ, aP, sT, sZ, sS]
            refine sK 58 ?_
            try simp only [gY, gZ, gJ, aP, sT, sZ, sS]
            refine sK 59 ?_
            try simp only [gY, gZ, gJ, aP, sT, sZ, sS]
            refine sK 60 ?_
            try simp only [gY, gZ, gJ, aP, sT, sZ, sS]
            refine sK 61 ?_
            try simp only [gY, gZ, gJ, aP, sT, sZ, sS]
            refine sK 62 ?_
            try simp only [gY, gZ, gJ, aP, sT, sZ, sS]
            refine sK 63 ?_
            try simp only [gY, gZ, gJ, aP, sT, sZ, sS]
            refine sK 64 ?_
            try simp only [gY, gZ, gJ, aP, sT, sZ, sS]
            refine' tK 65 ?_
            try simp only [gY, gZ, gJ, aP, sT, sZ, sS]
            refine wpAnyH_done (by kernel_rfl) ?_ _
            have HE : Hid (false = v) := HNO.out (fun h9 => by have := h9.us; have h8 := HV1.out; rw [decide_eq_false_iff_not] at h8; exact h8 this)
            go_wp2_with fail
            exact ⟨rfl, .bool false, by simp [results, Tryz.results36, go_sem], by rw [← HE.out]; exact ⟨rfl, below_on HB1.out HBV.out⟩⟩
           | true =>
            refine' tK 54 ?_
            try simp only [gY, gZ, gJ, aP, sT, sZ, sS]
            refine' tK 55 ?_
            try simp only [gY, gZ, gJ, aP, sT, sZ, sS]
            refine' tK 56 ?_
            try simp only [gY, gZ, gJ, aP, sT, sZ, sS]
            refine' tK 57 ?_
            try simp only [gY, gZ, gJ, aP, sT, sZ, sS]
            refine' tK 58 ?_
            try simp only [gY, gZ, gJ, aP, sT, sZ, sS]
            refine' tK 59 ?_
            try simp only [gY, gZ, gJ, aP, sT, sZ, sS]
            refine' tK 60 ?_
            try simp only [gY, gZ, gJ, aP, sT, sZ, sS]
            refine' tK 61 ?_
            try simp only [gY, gZ, gJ, aP, sT, sZ, sS]
            refine' tK 62 ?_
            try simp only [gY, gZ, gJ, aP, sT, sZ, sS]
            obtain ⟨v2, hv2⟩ : ∃ v2, decide (vs = dden zq) = v2 := ⟨_, rfl⟩
            have HV2 := lh hv2
            clear hv2
            refine rQ 63 (fun K hK => ?_)
            try simp only [gY, gZ, gJ]
            go_simp
            with_reducible refine (samew_d (HDG.out.2.2.2.below HBV.out) (HZ1.out.den.below HBV.out) HDG.out.2.1 HZ1.out.em HLIM.out.2 v2 HV2.out).mono ?_
            rintro e w63 ⟨rfl, hbx⟩
            replace HBV := lh (below_on HBV.out hbx)
            replace HXA := lh (HXA.out.below hbx)
            replace HXB := lh (HXB.out.below hbx)
            clear hbx
            refine hK.out _ _ (by with_reducible exact ⟨HK.out _ HBV.out, HXA.out.c0, HXA.out.c1, HXA.out.c2, HXA.out.c3, HXB.out.c0, HXB.out.c1, HXB.out.c2, HXB.out.c3⟩) (fun hHeld => ?_)
            clear hK K
            try simp only [aP, sT, sZ, sS]
            cases v2 with
            | false =>
             as_aux_lemma =>
             refine' tK 64 ?_
             try simp only [gY, gZ, gJ, aP, sT, sZ, sS]
             refine' tK 65 ?_
             try simp only [gY, gZ, gJ, aP, sT, sZ, sS]
             refine wpAnyH_done (by kernel_rfl) ?_ _
             have HE : Hid (false = v) := HNO.out (fun h9 => by have := h9.vs; have h8 := HV2.out; rw [decide_eq_false_iff_not] at h8; exact h8 this)
             go_wp2_with fail
             exact ⟨rfl, .bool false, by simp [results, Tryz.results36, go_sem], by rw [← HE.out]; exact ⟨rfl, below_on HB1.out HBV.out⟩⟩
            | true =>
             as_aux_lemma =>
             refine' tK 64 ?_
             try simp only [gY, gZ, gJ, aP, sT, sZ, sS]
             refine' tK 65 ?_
             try simp only [gY, gZ, gJ, aP, sT, sZ, sS]
             refine wpAnyH_done (by kernel_rfl) ?_ _
             have HR : Hid (RowsOK N ys zs U UV i) := HROW.out ⟨HA.out, HLO.out, HHI.out, HS.out, HT.out, of_decide_eq_true HV1.out, of_decide_eq_true HV2.out⟩
             go_wp2_with fail
             go_roundw
             case rel =>
              refine ⟨i + 1, by omega, by go_num, HBV, fun j hj => ?_⟩
              rcases Nat.lt_or_ge j i with h | h
              ·exact HG.out j h
              ·rw [show j = i by omega]; exact HR.out
             case measure => (simp [intOf]; omega)
   ·have hi1 : ¬ (i : Int) < (n : Int) := by omega
    have HE : Hid (true = v) := (HRI.out.2 ⟨by have := HLEN.out; have := HZL.out; have := HNM.out; omega, fun j => by
     rcases Nat.lt_or_ge j i with h | h
     ·exact HG.out j h
     ·intro y z hy
      have h2 := (List.getElem?_eq_some_iff.1 hy).1
      have := HLEN.out
      omega⟩).symm
    go_wp2_with fail
    exact ⟨rfl, .bool true, by simp [results, Tryz.results36, go_sem], by rw [← HE.out]; exact ⟨rfl, below_on HB1.out HB.out⟩⟩
 ·have g0 : ((m : Int) != (n : Int)) = true := bne_iff_ne.2 (by omega)
  have HE : Hid (false = v) := by
   cases v with
   | false => rfl
   | true => exact absurd (HRI.out.1 rfl).1 (by have := HLEN.out; have := HZL.out; omega)
  go_wp2_with fail
  exact ⟨rfl, .bool false, by simp [results, Tryz.results36, go_sem], by rw [← HE.out]; exact ⟨rfl, HB1.out⟩⟩
theorem right_b {w : World} {A : Option Addr} {n c k : Nat} {ys : List (TV × Rat)} (h : IsV w A n c ys k) (hk : 1 ≤ k) (hk2 : k ≤ 700) (hn : n ≤ 1000) (N : Int) (v : Bool) (hvv : v = true ↔ RightV w N ys) : Calls Tryz.prog 35 #[.slice A n c, .int .i64 N] w (RetB w v) := by
 refine (right_any h hk hk2 (by omega) N).mono ?_
 rintro e w' ⟨v', rfl, hv', hb⟩
 obtain rfl : v' = v := Bool.eq_iff_iff.2 (hv'.trans hvv.symm)
 exact ⟨rfl, hb⟩
