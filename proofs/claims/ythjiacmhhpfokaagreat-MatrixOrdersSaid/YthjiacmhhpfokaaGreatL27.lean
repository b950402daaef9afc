/- Part 27 of the proof: VPut. -/
import Derived.Test.YthjiacmhhpfokaaGreatL26
namespace Go.Proofs.YthjiacmhhpfokaaGreat
open Act renaming put → aP
open Option.some renaming inj → oI
open Nat renaming lt_of_lt_of_le → lL
namespace V
open List renaming getElem_toArray → gY, getElem_cons_zero → gZ, getElem_cons_succ → gJ, setIfInBounds_toArray → sT, set_cons_zero → sZ, set_cons_succ → sS
open Lib renaming hid → lh
open Go.RowKit
open Q (IsQ OneQ below_on ql Qbx qsign qsign_zero_iff)
structure OutV (wl wx : World) (gO r0 : Nat) (l : List (Int × Rat)) : Prop where
 near : Near (fun b => b = gO ∨ b = r0) wl wx
 ex : ∃ v zs, wx.heap[gO]? = some (.cells #[v] 33 (0, 0)) ∧ OwnT wx 0 v (zs.map Prod.fst) ∧ vals zs = l ∧ (∀ y ∈ zs, OneQ wx y.1.s y.1.A y.1.n y.1.c y.1.t y.1.B y.1.m y.1.d y.2 ∧ -9223372036854775808 ≤ y.1.at_ ∧ y.1.at_ ≤ 9223372036854775807) ∧ (v.ownBlock = some r0 ∨ ∃ g, v.ownBlock = some g ∧ wl.heap.size ≤ g)
theorem OwnT.keep {w w' : World} {base : Nat} {v : Value} {ts : List TV} (h : OwnT w base v ts) (hb : ∀ g, v.ownBlock = some g → w'.heap[g]? = w.heap[g]?) : OwnT w' base v ts := by
 refine ⟨⟨h.row.1, ?_⟩, fun g hg j u hu => h.all g hg j u ((World.cell?_of_block (a := ⟨g, j, none⟩) (hb g hg)).symm.trans hu), h.some_⟩
 rcases h.row.2 with hn | ⟨g, cap, cur, rfl, h1, h2, rest⟩
 ·exact .inl hn
 ·exact .inr ⟨g, cap, cur, rfl, h1, (hb g rfl).trans h2, rest⟩
theorem OwnT.lt {w : World} {base : Nat} {v : Value} {ts : List TV} (h : OwnT w base v ts) {g : Nat} (hg : v.ownBlock = some g) : g < w.heap.size := (h.row.lt g hg).2
theorem OutV.below {wl wx wy : World} {gO r0 : Nat} {l : List (Int × Rat)} (h : OutV wl wx gO r0 l) (hb : Below wx.heap.size wx wy) : OutV wl wy gO r0 l := by
 refine ⟨h.near.below hb, ?_⟩
 obtain ⟨v, zs, h1, h2, h3, h4, h5⟩ := h.ex
 exact ⟨v, zs, (hb.block gO (lt_of_block h1)).trans h1, h2.keep (fun g hg => hb.block g (h2.lt hg)), h3, fun y hy => ⟨(h4 y hy).1.below hb, (h4 y hy).2⟩, h5⟩
theorem num_apart {w w' : World} {A : Option Addr} {xs : List Nat} (h : Num w A xs) (Bad : Nat → Prop) (hbad : ∀ b, Bad b → ∀ j u, w.cell? ⟨b, j, none⟩ = some u → ∀ z, u ≠ .int .u64 z) (hs : w.heap.size ≤ w'.heap.size) (hb : ∀ b, b < w.heap.size → ¬ Bad b → w'.heap[b]? = w.heap[b]?) : Num w' A xs :=
 ⟨h.1, fun hne => by
  obtain ⟨b, off, e, hlt, hc⟩ := h.2 hne
  have hn : ¬ Bad b := fun h1 => hbad b h1 _ _ (hc 0 (List.length_pos_iff.2 hne)) _ rfl
  exact ⟨b, off, e, lL hlt hs, fun j hj => (World.cell?_of_block (hb b hlt hn)).trans (hc j hj)⟩⟩
theorem one_apart {w w' : World} {s : Bool} {A : Option Addr} {n c : Nat} {t : Bool} {B : Option Addr} {m d : Nat} {q : Rat} (h : OneQ w s A n c t B m d q) (Bad : Nat → Prop) (hbad : ∀ b, Bad b → ∀ j u, w.cell? ⟨b, j, none⟩ = some u → ∀ z, u ≠ .int .u64 z) (hs : w.heap.size ≤ w'.heap.size) (hb : ∀ b, b < w.heap.size → ¬ Bad b → w'.heap[b]? = w.heap[b]?) : OneQ w' s A n c t B m d q :=
 ⟨h.es, h.en, h.et, h.em, num_apart h.num Bad hbad hs hb, num_apart h.den Bad hbad hs hb, h.cap, h.cap2⟩
theorem OutV.put {wl W W3 : World} {gO r0 : Nat} {v v' : Value} {zs : List (TV × Rat)} {x : TV} {q : Rat} (near : Near (fun b => b = gO ∨ b = r0) wl W) (hgO : gO < wl.heap.size) (hne : gO ≠ r0)
  (h1 : W.heap[gO]? = some (.cells #[v] 33 (0, 0))) (h2 : OwnT W 0 v (zs.map Prod.fst)) (h4 : ∀ y ∈ zs, OneQ W y.1.s y.1.A y.1.n y.1.c y.1.t y.1.B y.1.m y.1.d y.2 ∧ -9223372036854775808 ≤ y.1.at_ ∧ y.1.at_ ≤ 9223372036854775807) (h5 : v.ownBlock = some r0 ∨ ∃ g, v.ownBlock = some g ∧ wl.heap.size ≤ g)
  (hx : OneQ W x.s x.A x.n x.c x.t x.B x.m x.d q) (hx2 : -9223372036854775808 ≤ x.at_ ∧ x.at_ ≤ 9223372036854775807)
  (g2 : OwnT W3 0 v' (zs.map Prod.fst ++ [x])) (gg : W.grownBy W3 v.ownBlock) (gb : v'.ownBlock = v.ownBlock ∨ v'.ownBlock = some W.heap.size) : OutV wl (W3.setCell ⟨gO, 0, none⟩ v') gO r0 (vals zs ++ [(x.at_, q)]) := by
 have hvO : some gO ≠ v.ownBlock := by
  rcases h5 with h | ⟨g, h, hg⟩
  ·rw [h]; intro e; exact hne (oI e)
  ·rw [h]; intro e; have := oI e; omega
 have hgW : gO < W.heap.size := lt_of_block h1
 have h31 : W3.heap[gO]? = some (.cells #[v] 33 (0, 0)) := (gg.block gO hgW hvO).trans h1
 have hv'O : ∀ g, v'.ownBlock = some g → g ≠ gO := by
  intro g hg e
  subst e
  rcases gb with h | h
  ·rw [h] at hg; exact hvO hg.symm
  ·rw [h] at hg; have := oI hg; omega
 have hbad : ∀ b, (b = gO ∨ some b = v.ownBlock) → ∀ j u, W.cell? ⟨b, j, none⟩ = some u → ∀ z, u ≠ .int .u64 z := by
  intro b hb j u hu
  rcases hb with rfl | hb
  ·rw [cell_of_row W b j _ _ _ h1] at hu
   obtain ⟨g, n, c, hv⟩ := h2.some_
   rcases j with _ | j
   ·have : v = u := by simpa using hu
    rw [← this, hv]
    intro z h; cases h
   ·rw [Array.getElem?_eq_none (by simp)] at hu; cases hu
  ·exact h2.all b hb.symm j u hu
 have hkeep : ∀ b, b < W.heap.size → ¬ (b = gO ∨ some b = v.ownBlock) → (W3.setCell ⟨gO, 0, none⟩ v').heap[b]? = W.heap[b]? := by
  intro b hb hn
  rw [Below.heap_setCell W3 ⟨gO, 0, none⟩ v' b (fun e => hn (.inl e))]
  exact gg.block b hb (fun e => hn (.inr e))
 have hsz : W.heap.size ≤ (W3.setCell ⟨gO, 0, none⟩ v').heap.size := by simpa [World.setCell] using gg.size
 refine ⟨⟨gg.os.trans near.os, gg.tape.trans near.tape, gg.output.trans near.output, Nat.le_trans near.size hsz, fun b hb hn => ?_⟩, v', zs ++ [(x, q)], heap_setCell_same W3 gO 0 _ _ _ h31, ?_, ?_, ?_, ?_⟩
 ·refine (hkeep b (lL hb near.size) ?_).trans (near.block b hb hn)
  rintro (e | e)
  ·exact hn (.inl e)
  ·rcases h5 with h | ⟨g, h, hg⟩
   ·rw [h] at e; exact hn (.inr (oI e))
   ·rw [h] at e; have := oI e; omega
 ·rw [List.map_append]
  exact g2.keep (fun g hg => Below.heap_setCell W3 ⟨gO, 0, none⟩ v' g (hv'O g hg))
 ·unfold vals; rw [List.map_append]; rfl
 ·intro y hy
  rcases List.mem_append.1 hy with hy | hy
  ·exact ⟨one_apart (h4 y hy).1 _ hbad hsz hkeep, (h4 y hy).2⟩
  ·rw [List.mem_singleton.1 hy]
   exact ⟨one_apart hx _ hbad hsz hkeep, hx2⟩
 ·rcases gb with h | h
  ·rw [h]; exact h5
  ·exact .inr ⟨_, h, near.size⟩
set_option maxRecDepth 100000 in
set_option maxHeartbeats 4000000 in
theorem put_any {wl wx : World} {gO gP r0 : Nat} {l : List (Int × Rat)} {s : Bool} {A : Option Addr} {n c : Nat} {t : Bool} {B : Option Addr} {m d : Nat} {q : Rat} {a : Int} (hp : wx.heap[gP]? = some (.cells #[.pointer (some ⟨gO, 0, none⟩)] 154 (0, 0))) (ho : OutV wl wx gO r0 l) (hgO : gO < wl.heap.size) (hgP : gP < wl.heap.size) (hPO : gP ≠ gO) (hPr : gP ≠ r0) (hne : gO ≠ r0) (ha : -9223372036854775808 ≤ a ∧ a ≤ 9223372036854775807) (hq : OneQ wx s A n c t B m d q) (hql : ql q ≤ 3000) (hlen : l.length ≤ 10000000) :
  Calls Tryz.prog 169 #[.int .i64 a, .agg #[.bool s, .slice A n c, .bool t, .slice B m d], .pointer (some ⟨gP, 0, none⟩)] wx (fun e wy => e = .returned (.tuple #[]) ∧ OutV wl wy gO r0 (if q = 0 then l else l ++ [(a, q)])) := by
 have HQC : Hid (Below wx.heap.size wx (wx.alloc (.cells #[.bool s, .slice A n c, .bool t, .slice B m d] 27))) := (Below.refl _ _).alloc (Nat.le_refl _) _
 have HBX : Hid (Qbx (wx.alloc (.cells #[.bool s, .slice A n c, .bool t, .slice B m d] 27)) wx.heap.size s A n c t B m d) := Qbx.new _ _ rfl
 have HQ := lh (hq.alloc (.cells #[.bool s, .slice A n c, .bool t, .slice B m d] 27))
 obtain ⟨sg, hsg⟩ : ∃ sg, qsign q = sg := ⟨_, rfl⟩
 have HSG := lh hsg
 have HO := lh ho
 have HP := lh hp
 have HQL := lh hql
 have HF : Hid (gO < wl.heap.size ∧ gP < wl.heap.size ∧ gP ≠ gO ∧ gP ≠ r0 ∧ gO ≠ r0) := ⟨hgO, hgP, hPO, hPr, hne⟩
 have HAB := lh ha
 have HLEN := lh hlen
 obtain ⟨L, hL⟩ : ∃ L, (if q = 0 then l else l ++ [(a, q)]) = L := ⟨_, rfl⟩
 rw [hL]
 by_cases h0 : q = 0
 ·have g1 : (sg != 0) = false := by rw [← hsg, qsign_zero_iff.2 h0]; rfl
  have HE : Hid (L = l) := by show _ = _; rw [← hL]; exact if_pos h0
  clear hp ho hgO hgP hPO hPr hne ha hq hql hlen hsg h0 hL
  go_enter Tryz.func169, Tryz.ntmps169
  go_wp2_with fail
  refine (Q.sign_q (HQ.out.isq HQL.out) (by omega) sg HSG.out).mono ?_
  rintro e w1 ⟨rfl, hb1⟩
  have HO1 := lh (HO.out.below (below_on HQC.out hb1))
  clear hb1
  go_wp2_with fail
  go_end0
  first | exact ⟨rfl, HO1.out⟩ | (rw [HE.out]; exact ⟨rfl, HO1.out⟩)
 ·have g1 : (sg != 0) = true := by rw [← hsg, bne_iff_ne]; exact fun h => h0 (qsign_zero_iff.1 h)
  have HE : Hid (L = l ++ [(a, q)]) := by show _ = _; rw [← hL]; exact if_neg h0
  clear hp ho hgO hgP hPO hPr hne ha hq hql hlen hsg h0 hL
  go_enter Tryz.func169, Tryz.ntmps169
  go_wp2_with fail
  refine (Q.sign_q (HQ.out.isq HQL.out) (by omega) sg HSG.out).mono ?_
  rintro e w1 ⟨rfl, hb1⟩
  have HB1 := lh (below_on HQC.out hb1)
  have HO1 := lh (HO.out.below HB1.out)
  have HX1 := lh (HBX.out.below hb1)
  have HQ1 := lh (HQ.out.below hb1)
  clear hb1
  go_upto_region 2 with fail
  obtain ⟨v, zs, h1, h2, h3, h4, h5⟩ := HO1.out.ex
  have HNR := lh HO1.out.near
  have HGV := lh h1
  have HOW := lh h2
  have HZS := lh h3
  have HONE := lh h4
  have HBK := lh h5
  have HP1 : Hid (w1.heap[gP]? = some (.cells #[.pointer (some ⟨gO, 0, none⟩)] 154 (0, 0))) := (HB1.out.block gP (lt_of_block HP.out)).trans HP.out
  have HGX : Hid (wl.heap.size ≤ wx.heap.size) := HO.out.near.size
  have HVL : Hid (∀ g, v.ownBlock = some g → g < wx.heap.size) := by
   obtain ⟨v0, zs0, e1, e2, _⟩ := HO.out.ex
   have e3 : v0 = v := by
    have h6 := (HB1.out.block gO (lt_of_block e1)).trans e1
    rw [h1] at h6
    have h7 := oI h6
    injection h7 with h8
    have h9 := congrArg (fun z : Array Value => z[0]?) h8
    simpa using h9.symm
   subst e3
   exact fun g hg => e2.lt hg
  clear h1 h2 h3 h4 h5 HO1 HP HBX HQ
  obtain ⟨x, hxe⟩ : ∃ x : TV, (⟨a, s, A, n, c, t, B, m, d⟩ : TV) = x := ⟨_, rfl⟩
  have HXE := lh hxe
  clear hxe
  obtain ⟨W0, hW0⟩ : ∃ W, w1.drew = W := ⟨_, rfl⟩
  have HD0 : Hid (Below w1.heap.size w1 W0) := by rw [← hW0]; exact (Below.refl _ _).drew
  have HK0 : Hid (W0.cell? ⟨gP, 0, none⟩ = some (.pointer (some ⟨gO, 0, none⟩)) ∧ W0.cell? ⟨wx.heap.size, 0, none⟩ = some (.bool s) ∧ W0.cell? ⟨wx.heap.size, 1, none⟩ = some (.slice A n c) ∧ W0.cell? ⟨wx.heap.size, 2, none⟩ = some (.bool t) ∧ W0.cell? ⟨wx.heap.size, 3, none⟩ = some (.slice B m d)) := by
   have hx1 := HX1.out.below HD0.out
   have hp1 := (HD0.out.block gP (lt_of_block HP1.out)).trans HP1.out
   exact ⟨by rw [cell_of_row W0 gP 0 _ _ _ hp1]; rfl, hx1.c0, hx1.c1, hx1.c2, hx1.c3⟩
  refine wp_region_held_drew (S := (fun V : World => V.cell? ⟨gP, 0, none⟩ = some (.pointer (some ⟨gO, 0, none⟩)) ∧ V.cell? ⟨wx.heap.size, 0, none⟩ = some (.bool s) ∧ V.cell? ⟨wx.heap.size, 1, none⟩ = some (.slice A n c) ∧ V.cell? ⟨wx.heap.size, 2, none⟩ = some (.bool t) ∧ V.cell? ⟨wx.heap.size, 3, none⟩ = some (.slice B m d))) (by kernel_rfl) (by rw [hW0]; with_reducible exact HK0.out) (fun hHeld => ?_)
  rw [hW0] at hHeld ⊢
  clear hW0
  refine' tK 0 ?_
  try simp only [gY, gZ, aP, sT, sZ, sS]
  refine' tK 1 ?_
  try simp only [gY, gZ, gJ, aP, sT, sZ, sS]
  refine' tK 2 ?_
  try simp only [gY, gZ, gJ, aP, sT, sZ, sS]
  refine' tK 4 ?_
  try simp only [gY, gZ, gJ, aP, sT, sZ, sS]
  refine' tK 5 ?_
  try simp only [gY, gZ, gJ, aP, sT, sZ, sS]
  refine' tK 6 ?_
  try simp only [gY, gZ, gJ, aP, sT, sZ, sS]
  have HG0 : Hid (W0.heap[gO]? = some (.cells #[v] 33 (0, 0))) := (HD0.out.block gO (lt_of_block HGV.out)).trans HGV.out
  have HO0 : Hid (OwnT W0 0 v (zs.map Prod.fst)) := HOW.out.keep (fun g hg => HD0.out.block g (HOW.out.lt hg))
  have HN0 := lh (HNR.out.below HD0.out)
  have HZ0 : Hid (∀ y ∈ zs, OneQ W0 y.1.s y.1.A y.1.n y.1.c y.1.t y.1.B y.1.m y.1.d y.2 ∧ -9223372036854775808 ≤ y.1.at_ ∧ y.1.at_ ≤ 9223372036854775807) := fun y hy => ⟨(HONE.out y hy).1.below HD0.out, (HONE.out y hy).2⟩
  have HQ0 := lh (HQ1.out.below HD0.out)
  have HW0S : Hid (wx.heap.size < W0.heap.size) := lL HX1.out.lt HD0.out.size
  clear HNR HGV HOW HONE HD0 HX1 HQ1 HP1
  refine wpAnyH_ready (rs := [3, 7]) (by kernel_rfl) (by simp) ?_
  refine AllReadyH.cons rfl (fun K hK => ?_) (AllReadyH.cons rfl (fun K hK => ?_) AllReadyH.nil)
  ·try simp only [gY, gZ, gJ]
   have hg0 : W0.cell? ⟨gO, 0, none⟩ = some v := by rw [cell_of_row W0 gO 0 _ _ _ HG0.out]; rfl
   go_simp
   clear hg0
   refine hK.out _ _ (by with_reducible exact HK0.out) (fun hHeld => ?_)
   clear hK K
   try simp only [aP, sT, sZ, sS]
   refine rQ 7 (fun K hK => ?_)
   try simp only [gY, gZ, gJ]
   have hk := HK0.out
   go_simp
   obtain ⟨W1, hW1⟩ : ∃ W, W0.alloc (.cells #[.int .i64 a, .bool s, .slice A n c, .bool t, .slice B m d] 67) = W := ⟨_, rfl⟩
   rw [hW1]
   have HB1' : Hid (Below W0.heap.size W0 W1) := by rw [← hW1]; exact (Below.refl _ _).alloc (Nat.le_refl _) _
   have HA1 : Hid (W1.heap[W0.heap.size]? = some (.cells #[.int .i64 a, .bool s, .slice A n c, .bool t, .slice B m d] 67 (0, 0))) := by rw [← hW1]; exact heap_alloc_new W0 _
   have HK1 : Hid (W1.cell? ⟨gP, 0, none⟩ = some (.pointer (some ⟨gO, 0, none⟩)) ∧ W1.cell? ⟨wx.heap.size, 0, none⟩ = some (.bool s) ∧ W1.cell? ⟨wx.heap.size, 1, none⟩ = some (.slice A n c) ∧ W1.cell? ⟨wx.heap.size, 2, none⟩ = some (.bool t) ∧ W1.cell? ⟨wx.heap.size, 3, none⟩ = some (.slice B m d)) := by
    have k := HK0.out
    exact ⟨(HB1'.out.cell (p := ⟨gP, 0, none⟩) (lL HF.out.2.1 HN0.out.size)).trans k.1, (HB1'.out.cell (p := ⟨wx.heap.size, 0, none⟩) HW0S.out).trans k.2.1, (HB1'.out.cell (p := ⟨wx.heap.size, 1, none⟩) HW0S.out).trans k.2.2.1, (HB1'.out.cell (p := ⟨wx.heap.size, 2, none⟩) HW0S.out).trans k.2.2.2.1, (HB1'.out.cell (p := ⟨wx.heap.size, 3, none⟩) HW0S.out).trans k.2.2.2.2⟩
   clear hk hW1
   refine hK.out _ _ (by with_reducible exact HK1.out) (fun hHeld => ?_)
   clear hK K
   try simp only [aP, sT, sZ, sS]
   have HG1 : Hid (W1.heap[gO]? = some (.cells #[v] 33 (0, 0))) := (HB1'.out.block gO (lt_of_block HG0.out)).trans HG0.out
   have HO1' : Hid (OwnT W1 0 v (zs.map Prod.fst)) := HO0.out.keep (fun g hg => HB1'.out.block g (HO0.out.lt hg))
   have HN1 := lh (HN0.out.below HB1'.out)
   have HZ1 : Hid (∀ y ∈ zs, OneQ W1 y.1.s y.1.A y.1.n y.1.c y.1.t y.1.B y.1.m y.1.d y.2 ∧ -9223372036854775808 ≤ y.1.at_ ∧ y.1.at_ ≤ 9223372036854775807) := fun y hy => ⟨(HZ0.out y hy).1.below HB1'.out, (HZ0.out y hy).2⟩
   have HQ1' := lh (HQ0.out.below HB1'.out)
   have hcl : ∀ j u, x.enc[j]? = some u → W1.cell? ((⟨W0.heap.size, 0, none⟩ : Addr).add j) = some u := by
    intro j u hj
    have e : (⟨W0.heap.size, 0, none⟩ : Addr).add j = ⟨W0.heap.size, j, none⟩ := by unfold Addr.add; split <;> simp_all
    rw [e, cell_of_row W1 _ j _ _ _ HA1.out]
    rw [← HXE.out] at hj
    rw [← hj]
    show (#[Value.int .i64 a, .bool s, .slice A n c, .bool t, .slice B m d] : Array Value)[j]? = [Value.int .i64 a, .bool s, .slice A n c, .bool t, .slice B m d][j]?
    simp
   obtain ⟨v', W3, hr, g2, gg, gb⟩ := appT_at W1 0 33 v (zs.map Prod.fst) x ⟨W0.heap.size, 0, none⟩ HO1'.out hcl (by rw [List.length_map, ← vals_len, HZS.out]; exact HLEN.out) (Nat.zero_le _)
   have HG2 := lh g2
   have HGG := lh gg
   have HGB := lh gb
   have hvP : some gP ≠ v.ownBlock := by
    intro e
    rcases HBK.out with h | ⟨g, h, hg⟩
    ·rw [h] at e; exact HF.out.2.2.2.1 (oI e)
    ·rw [h] at e; have h9 := oI e; have := HF.out.2.1; omega
   have hvX : some wx.heap.size ≠ v.ownBlock := by
    intro e
    have := HVL.out _ e.symm
    omega
   have HK3 : Hid (W3.cell? ⟨gP, 0, none⟩ = some (.pointer (some ⟨gO, 0, none⟩)) ∧ W3.cell? ⟨wx.heap.size, 0, none⟩ = some (.bool s) ∧ W3.cell? ⟨wx.heap.size, 1, none⟩ = some (.slice A n c) ∧ W3.cell? ⟨wx.heap.size, 2, none⟩ = some (.bool t) ∧ W3.cell? ⟨wx.heap.size, 3, none⟩ = some (.slice B m d)) := by
    have k := HK1.out
    exact ⟨HGG.out.cell k.1 hvP, HGG.out.cell k.2.1 hvX, HGG.out.cell k.2.2.1 hvX, HGG.out.cell k.2.2.2.1 hvX, HGG.out.cell k.2.2.2.2 hvX⟩
   have HG3 : Hid (W3.heap[gO]? = some (.cells #[v] 33 (0, 0))) := by
    refine (HGG.out.block gO (lt_of_block HG1.out) ?_).trans HG1.out
    rcases HBK.out with h | ⟨g, h, hg⟩
    ·rw [h]; intro e; exact HF.out.2.2.2.2 (oI e)
    ·rw [h]; intro e; have h9 := oI e; have := HF.out.1; omega
   have HFIN : Hid (OutV wl (W3.setCell ⟨gO, 0, none⟩ v') gO r0 (l ++ [(a, q)])) := by
    have h := OutV.put HN1.out HF.out.1 HF.out.2.2.2.2 HG1.out HO1'.out HZ1.out HBK.out (x := x) (q := q) (by rw [← HXE.out]; exact HQ1'.out) (by rw [← HXE.out]; exact HAB.out) HG2.out HGG.out HGB.out
    rw [HZS.out, ← HXE.out] at h
    exact h
   clear g2 gg gb hvP hvX hcl
   refine rQ 8 (fun K hK => ?_)
   try simp only [gY, gZ, gJ]
   unfold Oper.wp
   simp [execOp, resolve, invoke, builtin, Act.eval, hr, Result.andThen, Oper.upon]
   refine hK.out _ _ (by with_reducible exact HK3.out) (fun hHeld => ?_)
   clear hK K hr
   try simp only [aP, sT, sZ, sS]
   refine' tK 9 ?_
   try simp only [gY, gZ, gJ, aP, sT, sZ, sS]
   refine rQ 10 (fun K hK => ?_)
   try simp only [gY, gZ, gJ]
   have hg3 : W3.cell? ⟨gO, 0, none⟩ = some v := by rw [cell_of_row W3 gO 0 _ _ _ HG3.out]; rfl
   have hf3 : W3.frozen? ⟨gO, 0, none⟩ = false := frozen_of_row W3 gO 0 _ _ HG3.out
   obtain ⟨g9, n9, c9, hv9⟩ := HG2.out.some_
   subst hv9
   go_simp
   refine hK.out _ _ (by with_reducible exact ⟨(World.cell?_of_block (a := ⟨gP, 0, none⟩) (Below.heap_setCell W3 ⟨gO, 0, none⟩ _ _ HF.out.2.2.1)).trans HK3.out.1, (World.cell?_of_block (a := ⟨wx.heap.size, 0, none⟩) (Below.heap_setCell W3 ⟨gO, 0, none⟩ _ _ (by have := HF.out.1; have := HGX.out; show wx.heap.size ≠ gO; omega))).trans HK3.out.2.1, (World.cell?_of_block (a := ⟨wx.heap.size, 1, none⟩) (Below.heap_setCell W3 ⟨gO, 0, none⟩ _ _ (by have := HF.out.1; have := HGX.out; show wx.heap.size ≠ gO; omega))).trans HK3.out.2.2.1, (World.cell?_of_block (a := ⟨wx.heap.size, 2, none⟩) (Below.heap_setCell W3 ⟨gO, 0, none⟩ _ _ (by have := HF.out.1; have := HGX.out; show wx.heap.size ≠ gO; omega))).trans HK3.out.2.2.2.1, (World.cell?_of_block (a := ⟨wx.heap.size, 3, none⟩) (Below.heap_setCell W3 ⟨gO, 0, none⟩ _ _ (by have := HF.out.1; have := HGX.out; show wx.heap.size ≠ gO; omega))).trans HK3.out.2.2.2.2⟩) (fun hHeld => ?_)
   clear hK K
   try simp only [aP, sT, sZ, sS]
   refine wpAnyH_done (by kernel_rfl) ?_ _
   go_wp2_with fail
   go_end0
   first | exact ⟨rfl, HFIN.out⟩ | (rw [HE.out]; exact ⟨rfl, HFIN.out⟩)
  ·try simp only [gY, gZ, gJ]
   have hk := HK0.out
   go_simp
   obtain ⟨W1, hW1⟩ : ∃ W, W0.alloc (.cells #[.int .i64 a, .bool s, .slice A n c, .bool t, .slice B m d] 67) = W := ⟨_, rfl⟩
   rw [hW1]
   have HB1' : Hid (Below W0.heap.size W0 W1) := by rw [← hW1]; exact (Below.refl _ _).alloc (Nat.le_refl _) _
   have HA1 : Hid (W1.heap[W0.heap.size]? = some (.cells #[.int .i64 a, .bool s, .slice A n c, .bool t, .slice B m d] 67 (0, 0))) := by rw [← hW1]; exact heap_alloc_new W0 _
   have HK1 : Hid (W1.cell? ⟨gP, 0, none⟩ = some (.pointer (some ⟨gO, 0, none⟩)) ∧ W1.cell? ⟨wx.heap.size, 0, none⟩ = some (.bool s) ∧ W1.cell? ⟨wx.heap.size, 1, none⟩ = some (.slice A n c) ∧ W1.cell? ⟨wx.heap.size, 2, none⟩ = some (.bool t) ∧ W1.cell? ⟨wx.heap.size, 3, none⟩ = some (.slice B m d)) := by
    have k := HK0.out
    exact ⟨(HB1'.out.cell (p := ⟨gP, 0, none⟩) (lL HF.out.2.1 HN0.out.size)).trans k.1, (HB1'.out.cell (p := ⟨wx.heap.size, 0, none⟩) HW0S.out).trans k.2.1, (HB1'.out.cell (p := ⟨wx.heap.size, 1, none⟩) HW0S.out).trans k.2.2.1, (HB1'.out.cell (p := ⟨wx.heap.size, 2, none⟩) HW0S.out).trans k.2.2.2.1, (HB1'.out.cell (p := ⟨wx.heap.size, 3, none⟩) HW0S.out).trans k.2.2.2.2⟩
   clear hk hW1
   refine hK.out _ _ (by with_reducible exact HK1.out) (fun hHeld => ?_)
   clear hK K
   try simp only [aP, sT, sZ, sS]
   have HG1 : Hid (W1.heap[gO]? = some (.cells #[v] 33 (0, 0))) := (HB1'.out.block gO (lt_of_block HG0.out)).trans HG0.out
   refine rQ 3 (fun K hK => ?_)
   try simp only [gY, gZ, gJ]
   have hg0 : W1.cell? ⟨gO, 0, none⟩ = some v := by rw [cell_of_row W1 gO 0 _ _ _ HG1.out]; rfl
   go_simp
   clear hg0
   refine hK.out _ _ (by with_reducible exact HK1.out) (fun hHeld => ?_)
   clear hK K
   try simp only [aP, sT, sZ, sS]
   have HO1' : Hid (OwnT W1 0 v (zs.map Prod.fst)) := HO0.out.keep (fun g hg => HB1'.out.block g (HO0.out.lt hg))
   have HN1 := lh (HN0.out.below HB1'.out)
   have HZ1 : Hid (∀ y ∈ zs, OneQ W1 y.1.s y.1.A y.1.n y.1.c y.1.t y.1.B y.1.m y.1.d y.2 ∧ -9223372036854775808 ≤ y.1.at_ ∧ y.1.at_ ≤ 9223372036854775807) := fun y hy => ⟨(HZ0.out y hy).1.below HB1'.out, (HZ0.out y hy).2⟩
   have HQ1' := lh (HQ0.out.below HB1'.out)
   have hcl : ∀ j u, x.enc[j]? = some u → W1.cell? ((⟨W0.heap.size, 0, none⟩ : Addr).add j) = some u := by
    intro j u hj
    have e : (⟨W0.heap.size, 0, none⟩ : Addr).add j = ⟨W0.heap.size, j, none⟩ := by unfold Addr.add; split <;> simp_all
    rw [e, cell_of_row W1 _ j _ _ _ HA1.out]
    rw [← HXE.out] at hj
    rw [← hj]
    show (#[Value.int .i64 a, .bool s, .slice A n c, .bool t, .slice B m d] : Array Value)[j]? = [Value.int .i64 a, .bool s, .slice A n c, .bool t, .slice B m d][j]?
    simp
   obtain ⟨v', W3, hr, g2, gg, gb⟩ := appT_at W1 0 33 v (zs.map Prod.fst) x ⟨W0.heap.size, 0, none⟩ HO1'.out hcl (by rw [List.length_map, ← vals_len, HZS.out]; exact HLEN.out) (Nat.zero_le _)
   have HG2 := lh g2
   have HGG := lh gg
   have HGB := lh gb
   have hvP : some gP ≠ v.ownBlock := by
    intro e
    rcases HBK.out with h | ⟨g, h, hg⟩
    ·rw [h] at e; exact HF.out.2.2.2.1 (oI e)
    ·rw [h] at e; have h9 := oI e; have := HF.out.2.1; omega
   have hvX : some wx.heap.size ≠ v.ownBlock := by
    intro e
    have := HVL.out _ e.symm
    omega
   have HK3 : Hid (W3.cell? ⟨gP, 0, none⟩ = some (.pointer (some ⟨gO, 0, none⟩)) ∧ W3.cell? ⟨wx.heap.size, 0, none⟩ = some (.bool s) ∧ W3.cell? ⟨wx.heap.size, 1, none⟩ = some (.slice A n c) ∧ W3.cell? ⟨wx.heap.size, 2, none⟩ = some (.bool t) ∧ W3.cell? ⟨wx.heap.size, 3, none⟩ = some (.slice B m d)) := by
    have k := HK1.out
    exact ⟨HGG.out.cell k.1 hvP, HGG.out.cell k.2.1 hvX, HGG.out.cell k.2.2.1 hvX, HGG.out.cell k.2.2.2.1 hvX, HGG.out.cell k.2.2.2.2 hvX⟩
   have HG3 : Hid (W3.heap[gO]? = some (.cells #[v] 33 (0, 0))) := by
    refine (HGG.out.block gO (lt_of_block HG1.out) ?_).trans HG1.out
    rcases HBK.out with h | ⟨g, h, hg⟩
    ·rw [h]; intro e; exact HF.out.2.2.2.2 (oI e)
    ·rw [h]; intro e; have h9 := oI e; have := HF.out.1; omega
   have HFIN : Hid (OutV wl (W3.setCell ⟨gO, 0, none⟩ v') gO r0 (l ++ [(a, q)])) := by
    have h := OutV.put HN1.out HF.out.1 HF.out.2.2.2.2 HG1.out HO1'.out HZ1.out HBK.out (x := x) (q := q) (by rw [← HXE.out]; exact HQ1'.out) (by rw [← HXE.out]; exact HAB.out) HG2.out HGG.out HGB.out
    rw [HZS.out, ← HXE.out] at h
    exact h
   clear g2 gg gb hvP hvX hcl
   refine rQ 8 (fun K hK => ?_)
   try simp only [gY, gZ, gJ]
   unfold Oper.wp
   simp [execOp, resolve, invoke, builtin, Act.eval, hr, Result.andThen, Oper.upon]
   refine hK.out _ _ (by with_reducible exact HK3.out) (fun hHeld => ?_)
   clear hK K hr
   try simp only [aP, sT, sZ, sS]
   refine' tK 9 ?_
   try simp only [gY, gZ, gJ, aP, sT, sZ, sS]
   refine rQ 10 (fun K hK => ?_)
   try simp only [gY, gZ, gJ]
   have hg3 : W3.cell? ⟨gO, 0, none⟩ = some v := by rw [cell_of_row W3 gO 0 _ _ _ HG3.out]; rfl
   have hf3 : W3.frozen? ⟨gO, 0, none⟩ = false := frozen_of_row W3 gO 0 _ _ HG3.out
   obtain ⟨g9, n9, c9, hv9⟩ := HG2.out.some_
   subst hv9
   go_simp
   refine hK.out _ _ (by with_reducible exact ⟨(World.cell?_of_block (a := ⟨gP, 0, none⟩) (Below.heap_setCell W3 ⟨gO, 0, none⟩ _ _ HF.out.2.2.1)).trans HK3.out.1, (World.cell?_of_block (a := ⟨wx.heap.size, 0, none⟩) (Below.heap_setCell W3 ⟨gO, 0, none⟩ _ _ (by have := HF.out.1; have := HGX.out; show wx.heap.size ≠ gO; omega))).trans HK3.out.2.1, (World.cell?_of_block (a := ⟨wx.heap.size, 1, none⟩) (Below.heap_setCell W3 ⟨gO, 0, none⟩ _ _ (by have := HF.out.1; have := HGX.out; show wx.heap.size ≠ gO; omega))).trans HK3.out.2.2.1, (World.cell?_of_block (a := ⟨wx.heap.size, 2, none⟩) (Below.heap_setCell W3 ⟨gO, 0, none⟩ _ _ (by have := HF.out.1; have := HGX.out; show wx.heap.size ≠ gO; omega))).trans HK3.out.2.2.2.1, (World.cell?_of_block (a := ⟨wx.heap.size, 3, none⟩) (Below.heap_setCell W3 ⟨gO, 0, none⟩ _ _ (by have := HF.out.1; have := HGX.out; show wx.heap.size ≠ gO; omega))).trans HK3.out.2.2.2.2⟩) (fun hHeld => ?_)
   clear hK K
   try simp only [aP, sT, sZ, sS]
   refine wpAnyH_done (by kernel_rfl) ?_ _
   go_wp2_with fail
   go_end0
   first | exact ⟨rfl, HFIN.out⟩ | (rw [HE.out]; exact ⟨rfl, HFIN.out⟩)
