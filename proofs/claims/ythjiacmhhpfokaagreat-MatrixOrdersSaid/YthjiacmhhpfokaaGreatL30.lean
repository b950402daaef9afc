/- Part 30 of the proof: VVisit, VJoined, ROrdMath. -/
import Derived.Test.YthjiacmhhpfokaaGreatL29
import Derived.Test.YthjiacmhhpfokaaGreatL27
import Derived.Laws.EntriesVeiled
namespace Go.Proofs.YthjiacmhhpfokaaGreat
open Lib renaming hid → lh
open Act renaming put → aP
open Go.Proofs.Tryz renaming prog → tz
open Nat renaming le_refl → lR
open Go.RowKit.Below renaming refl → bR
open Option.some renaming inj → oI
namespace V
open List renaming getElem_toArray → gY, getElem_cons_zero → gZ, getElem_cons_succ → gJ, setIfInBounds_toArray → sT, set_cons_zero → sZ, set_cons_succ → sS
open Go.RowKit
open Q (IsQ OneQ RetQ below_on ql Qbx)
structure Do (w : World) (g : FuncId) (cb : Array Value) (f : Rat → Rat → Rat) (ok : Rat → Rat → Prop) : Prop where
 eg : ∀ args w, (callFunc g args).run tz w = .ok (.enter g args) w
 call : ∀ W (sv : Bool) (Av : Option Addr) (nv cv : Nat) (tv : Bool) (Bv : Option Addr) (mv dv : Nat) (sw : Bool) (Aw : Option Addr) (nw cw : Nat) (tw : Bool) (Bw : Option Addr) (mw dw : Nat) p r, Below w.heap.size w W → IsQ W sv Av nv cv tv Bv mv dv p 700 → IsQ W sw Aw nw cw tw Bw mw dw r 700 → ok p r → Calls tz g (#[.agg #[.bool sv, .slice Av nv cv, .bool tv, .slice Bv mv dv], .agg #[.bool sw, .slice Aw nw cw, .bool tw, .slice Bw mw dw]] ++ cb) W (Q.RetQ W (f p r))
 short : ∀ p r, ok p r → ql (f p r) ≤ 3000
structure JB (W : World) (gF g8 gP gO : Nat) (g : FuncId) (cb : Array Value) : Prop where
 f : W.heap[gF]? = some (.cells #[.func (.func g) #[] cb] 106 (0, 0))
 p : W.heap[g8]? = some (.cells #[.func (.func 169) #[] #[.pointer (some ⟨gP, 0, none⟩)]] 152 (0, 0))
 o : W.heap[gP]? = some (.cells #[.pointer (some ⟨gO, 0, none⟩)] 154 (0, 0))
theorem JB.near {Own : Nat → Prop} {W W' : World} {gF g8 gP gO : Nat} {g : FuncId} {cb : Array Value} (h : JB W gF g8 gP gO g cb) (hn : Near Own W W') (h1 : ¬ Own gF) (h2 : ¬ Own g8) (h3 : ¬ Own gP) : JB W' gF g8 gP gO g cb :=
 ⟨(hn.block gF (lt_of_block h.f) h1).trans h.f, (hn.block g8 (lt_of_block h.p) h2).trans h.p, (hn.block gP (lt_of_block h.o) h3).trans h.o⟩
theorem JB.below {W W' : World} {gF g8 gP gO : Nat} {g : FuncId} {cb : Array Value} (h : JB W gF g8 gP gO g cb) (hb : Below W.heap.size W W') : JB W' gF g8 gP gO g cb :=
 ⟨(hb.block gF (lt_of_block h.f)).trans h.f, (hb.block g8 (lt_of_block h.p)).trans h.p, (hb.block gP (lt_of_block h.o)).trans h.o⟩
set_option maxRecDepth 100000 in
set_option maxHeartbeats 4000000 in
theorem visit_any {w wl wx : World} {gF g8 gP gO r0 : Nat} {g : FuncId} {cb : Array Value} {f : Rat → Rat → Rat} {ok : Rat → Rat → Prop} {l : List (Int × Rat)} {a : Int} {sv : Bool} {Av : Option Addr} {nv cv : Nat} {tv : Bool} {Bv : Option Addr} {mv dv : Nat} {sw : Bool} {Aw : Option Addr} {nw cw : Nat} {tw : Bool} {Bw : Option Addr} {mw dw : Nat} {p r : Rat} (hd : Do w g cb f ok) (hb : Below w.heap.size w wx) (hj0 : JB wl gF g8 gP gO g cb) (ho : OutV wl wx gO r0 l) (hgO : gO < wl.heap.size) (hF : gF ≠ gO ∧ gF ≠ r0 ∧ g8 ≠ gO ∧ g8 ≠ r0) (hPO : gP ≠ gO) (hPr : gP ≠ r0) (hne : gO ≠ r0) (ha : -9223372036854775808 ≤ a ∧ a ≤ 9223372036854775807) (hp : IsQ wx sv Av nv cv tv Bv mv dv p 700) (hr : IsQ wx sw Aw nw cw tw Bw mw dw r 700) (hok : ok p r) (hlen : l.length ≤ 10000000) :
  Calls tz 131 #[.int .i64 a, .agg #[.bool sv, .slice Av nv cv, .bool tv, .slice Bv mv dv], .agg #[.bool sw, .slice Aw nw cw, .bool tw, .slice Bw mw dw], .pointer (some ⟨g8, 0, none⟩), .pointer (some ⟨gF, 0, none⟩)] wx (fun e wy => e = .returned (.bool true) ∧ OutV wl wy gO r0 (if f p r = 0 then l else l ++ [(a, f p r)])) := by
 have hno : ¬ (gF = gO ∨ gF = r0) ∧ ¬ (g8 = gO ∨ g8 = r0) ∧ ¬ (gP = gO ∨ gP = r0) := ⟨fun h => h.elim hF.1 hF.2.1, fun h => h.elim hF.2.2.1 hF.2.2.2, fun h => h.elim hPO hPr⟩
 have HNO := lh hno
 have hj : JB wx gF g8 gP gO g cb := hj0.near ho.near hno.1 hno.2.1 hno.2.2
 have HJL := lh hj0
 have hgP : gP < wl.heap.size := lt_of_block hj0.o
 obtain ⟨W0, hW0⟩ : ∃ W, ((wx.alloc (.cells #[.bool sv, .slice Av nv cv, .bool tv, .slice Bv mv dv] 27)).alloc (.cells #[.bool sw, .slice Aw nw cw, .bool tw, .slice Bw mw dw] 27)) = W := ⟨_, rfl⟩
 have HB0 : Hid (Below wx.heap.size wx W0) := by rw [← hW0]; exact ((bR _ _).alloc (lR _) _).alloc (by simp) _
 have HX0 : Hid (Qbx W0 wx.heap.size sv Av nv cv tv Bv mv dv) := by rw [← hW0]; exact (Qbx.new _ _ rfl).alloc _
 have HY0 : Hid (Qbx W0 (wx.heap.size + 1) sw Aw nw cw tw Bw mw dw) := by rw [← hW0]; exact Qbx.new _ _ (by simp)
 have HD := lh hd
 have eg := hd.eg
 have HBW := lh hb
 have HJ := lh hj
 have HO := lh ho
 have HF : Hid (gO < wl.heap.size ∧ gP < wl.heap.size ∧ gP ≠ gO ∧ gP ≠ r0 ∧ gO ≠ r0) := ⟨hgO, hgP, hPO, hPr, hne⟩
 have HA := lh ha
 have HP := lh hp
 have HR := lh hr
 have HOK := lh hok
 have HLEN := lh hlen
 obtain ⟨v, hv⟩ : ∃ v, f p r = v := ⟨_, rfl⟩
 have HV := lh hv
 rw [hv]
 obtain ⟨L, hL⟩ : ∃ L, (if v = 0 then l else l ++ [(a, v)]) = L := ⟨_, rfl⟩
 have HL := lh hL
 rw [hL]
 clear hno hj0 hF hd hb hj ho hgO hgP hPO hPr hne ha hp hr hok hlen hv hL
 go_enter Tryz.func131, Tryz.ntmps131
 go_upto_region 1 with fail
 clear hW0
 obtain ⟨W1, hW1⟩ : ∃ W, W0.drew = W := ⟨_, rfl⟩
 have HB1 : Hid (Below wx.heap.size wx W1) := by rw [← hW1]; exact HB0.out.drew
 have HD1 : Hid (Below W0.heap.size W0 W1) := by rw [← hW1]; exact (bR _ _).drew
 have HJ1 := lh (HJ.out.below HB1.out)
 have HX1 := lh (HX0.out.below HD1.out)
 have HY1 := lh (HY0.out.below HD1.out)
 have HK1 : Hid (W1.cell? ⟨g8, 0, none⟩ = some (.func (.func 169) #[] #[.pointer (some ⟨gP, 0, none⟩)]) ∧ W1.cell? ⟨gF, 0, none⟩ = some (.func (.func g) #[] cb)) := ⟨by rw [cell_of_row W1 g8 0 _ _ _ HJ1.out.p]; rfl, by rw [cell_of_row W1 gF 0 _ _ _ HJ1.out.f]; rfl⟩
 refine wp_region_held_drew (S := (fun V : World => V.cell? ⟨g8, 0, none⟩ = some (.func (.func 169) #[] #[.pointer (some ⟨gP, 0, none⟩)]) ∧ V.cell? ⟨gF, 0, none⟩ = some (.func (.func g) #[] cb))) (by kernel_rfl) (by rw [hW1]; with_reducible exact HK1.out) (fun hHeld => ?_)
 rw [hW1] at hHeld ⊢
 clear hW1
 refine' tK 0 ?_
 try simp only [gY, gZ, aP, sT, sZ, sS]
 refine' tK 1 ?_
 try simp only [gY, gZ, gJ, aP, sT, sZ, sS]
 refine' tK 2 ?_
 try simp only [gY, gZ, gJ, aP, sT, sZ, sS]
 refine wpAnyH_ready (rs := [3, 4]) (by kernel_rfl) (by simp) ?_
 refine AllReadyH.cons rfl (fun K hK => ?_) (AllReadyH.cons rfl (fun K hK => ?_) AllReadyH.nil)
 ·try simp only [gY, gZ, gJ]
  have v0 := HX1.out.c0
  have v1 := HX1.out.c1
  have v2 := HX1.out.c2
  have v3 := HX1.out.c3
  have vf0 := HX1.out.f 0
  have vf1 := HX1.out.f 1
  have vf2 := HX1.out.f 2
  have vf3 := HX1.out.f 3
  go_simp
  clear v0 vf0 v1 vf1 v2 vf2 v3 vf3
  refine hK.out _ _ (by with_reducible exact HK1.out) (fun hHeld => ?_)
  clear hK K
  try simp only [aP, sT, sZ, sS]
  refine rQ 4 (fun K hK => ?_)
  try simp only [gY, gZ, gJ]
  have v0 := HY1.out.c0
  have v1 := HY1.out.c1
  have v2 := HY1.out.c2
  have v3 := HY1.out.c3
  have vf0 := HY1.out.f 0
  have vf1 := HY1.out.f 1
  have vf2 := HY1.out.f 2
  have vf3 := HY1.out.f 3
  go_simp
  clear v0 vf0 v1 vf1 v2 vf2 v3 vf3
  refine hK.out _ _ (by with_reducible exact HK1.out) (fun hHeld => ?_)
  clear hK K
  try simp only [aP, sT, sZ, sS]
  refine rQ 5 (fun K hK => ?_)
  try simp only [gY, gZ, gJ]
  go_simp
  with_reducible refine (HD.out.call W1 sv Av nv cv tv Bv mv dv sw Aw nw cw tw Bw mw dw p r (below_on HBW.out HB1.out) (HP.out.below HB1.out) (HR.out.below HB1.out) HOK.out).mono ?_
  rintro e W2 ⟨s8, A8, n8, c8, t8, B8, m8, d8, rfl, hq, hbx⟩
  rw [HV.out] at hq
  have HB2 := lh (below_on HB1.out hbx)
  have HQ2 := lh hq
  have HJ2 := lh (HJ1.out.below hbx)
  have HX2 := lh (HX1.out.below hbx)
  have HY2 := lh (HY1.out.below hbx)
  have HK2 : Hid (W2.cell? ⟨g8, 0, none⟩ = some (.func (.func 169) #[] #[.pointer (some ⟨gP, 0, none⟩)]) ∧ W2.cell? ⟨gF, 0, none⟩ = some (.func (.func g) #[] cb)) := ⟨by rw [cell_of_row W2 g8 0 _ _ _ HJ2.out.p]; rfl, by rw [cell_of_row W2 gF 0 _ _ _ HJ2.out.f]; rfl⟩
  have HO2 := lh (HO.out.below HB2.out)
  have HGX : Hid (wl.heap.size ≤ wx.heap.size) := HO.out.near.size
  clear hq hbx HK1 HJ1 HX1 HY1
  refine hK.out _ _ (by with_reducible exact HK2.out) (fun hHeld => ?_)
  clear hK K eg
  try simp only [aP, sT, sZ, sS]
  refine rQ 6 (fun K hK => ?_)
  try simp only [gY, gZ, gJ]
  go_simp
  with_reducible refine (put_any HJ2.out.o HO2.out HF.out.1 HF.out.2.1 HF.out.2.2.1 HF.out.2.2.2.1 HF.out.2.2.2.2 HA.out HQ2.out (by have h := HD.out.short p r HOK.out; rw [HV.out] at h; exact h) HLEN.out).mono ?_
  rintro e W3 ⟨rfl, ho3⟩
  have HJ3 := lh (HJL.out.near ho3.near HNO.out.1 HNO.out.2.1 HNO.out.2.2)
  have HK3 : Hid (W3.cell? ⟨g8, 0, none⟩ = some (.func (.func 169) #[] #[.pointer (some ⟨gP, 0, none⟩)]) ∧ W3.cell? ⟨gF, 0, none⟩ = some (.func (.func g) #[] cb)) := ⟨by rw [cell_of_row W3 g8 0 _ _ _ HJ3.out.p]; rfl, by rw [cell_of_row W3 gF 0 _ _ _ HJ3.out.f]; rfl⟩
  have HO3 : Hid (OutV wl W3 gO r0 L) := by
   show OutV wl W3 gO r0 L
   rw [← HL.out]; exact ho3
  clear ho3
  refine hK.out _ _ (by with_reducible exact HK3.out) (fun hHeld => ?_)
  clear hK K
  try simp only [aP, sT, sZ, sS]
  refine wpAnyH_done (by kernel_rfl) ?_ _
  go_wp2_with fail
  exact ⟨rfl, .bool true, by simp [results, Tryz.results131, go_sem], rfl, HO3.out⟩
 ·try simp only [gY, gZ, gJ]
  have v0 := HY1.out.c0
  have v1 := HY1.out.c1
  have v2 := HY1.out.c2
  have v3 := HY1.out.c3
  have vf0 := HY1.out.f 0
  have vf1 := HY1.out.f 1
  have vf2 := HY1.out.f 2
  have vf3 := HY1.out.f 3
  go_simp
  clear v0 vf0 v1 vf1 v2 vf2 v3 vf3
  refine hK.out _ _ (by with_reducible exact HK1.out) (fun hHeld => ?_)
  clear hK K
  try simp only [aP, sT, sZ, sS]
  refine rQ 3 (fun K hK => ?_)
  try simp only [gY, gZ, gJ]
  have v0 := HX1.out.c0
  have v1 := HX1.out.c1
  have v2 := HX1.out.c2
  have v3 := HX1.out.c3
  have vf0 := HX1.out.f 0
  have vf1 := HX1.out.f 1
  have vf2 := HX1.out.f 2
  have vf3 := HX1.out.f 3
  go_simp
  clear v0 vf0 v1 vf1 v2 vf2 v3 vf3
  refine hK.out _ _ (by with_reducible exact HK1.out) (fun hHeld => ?_)
  clear hK K
  try simp only [aP, sT, sZ, sS]
  refine rQ 5 (fun K hK => ?_)
  try simp only [gY, gZ, gJ]
  go_simp
  with_reducible refine (HD.out.call W1 sv Av nv cv tv Bv mv dv sw Aw nw cw tw Bw mw dw p r (below_on HBW.out HB1.out) (HP.out.below HB1.out) (HR.out.below HB1.out) HOK.out).mono ?_
  rintro e W2 ⟨s8, A8, n8, c8, t8, B8, m8, d8, rfl, hq, hbx⟩
  rw [HV.out] at hq
  have HB2 := lh (below_on HB1.out hbx)
  have HQ2 := lh hq
  have HJ2 := lh (HJ1.out.below hbx)
  have HX2 := lh (HX1.out.below hbx)
  have HY2 := lh (HY1.out.below hbx)
  have HK2 : Hid (W2.cell? ⟨g8, 0, none⟩ = some (.func (.func 169) #[] #[.pointer (some ⟨gP, 0, none⟩)]) ∧ W2.cell? ⟨gF, 0, none⟩ = some (.func (.func g) #[] cb)) := ⟨by rw [cell_of_row W2 g8 0 _ _ _ HJ2.out.p]; rfl, by rw [cell_of_row W2 gF 0 _ _ _ HJ2.out.f]; rfl⟩
  have HO2 := lh (HO.out.below HB2.out)
  have HGX : Hid (wl.heap.size ≤ wx.heap.size) := HO.out.near.size
  clear hq hbx HK1 HJ1 HX1 HY1
  refine hK.out _ _ (by with_reducible exact HK2.out) (fun hHeld => ?_)
  clear hK K eg
  try simp only [aP, sT, sZ, sS]
  refine rQ 6 (fun K hK => ?_)
  try simp only [gY, gZ, gJ]
  go_simp
  with_reducible refine (put_any HJ2.out.o HO2.out HF.out.1 HF.out.2.1 HF.out.2.2.1 HF.out.2.2.2.1 HF.out.2.2.2.2 HA.out HQ2.out (by have h := HD.out.short p r HOK.out; rw [HV.out] at h; exact h) HLEN.out).mono ?_
  rintro e W3 ⟨rfl, ho3⟩
  have HJ3 := lh (HJL.out.near ho3.near HNO.out.1 HNO.out.2.1 HNO.out.2.2)
  have HK3 : Hid (W3.cell? ⟨g8, 0, none⟩ = some (.func (.func 169) #[] #[.pointer (some ⟨gP, 0, none⟩)]) ∧ W3.cell? ⟨gF, 0, none⟩ = some (.func (.func g) #[] cb)) := ⟨by rw [cell_of_row W3 g8 0 _ _ _ HJ3.out.p]; rfl, by rw [cell_of_row W3 gF 0 _ _ _ HJ3.out.f]; rfl⟩
  have HO3 : Hid (OutV wl W3 gO r0 L) := by
   show OutV wl W3 gO r0 L
   rw [← HL.out]; exact ho3
  clear ho3
  refine hK.out _ _ (by with_reducible exact HK3.out) (fun hHeld => ?_)
  clear hK K
  try simp only [aP, sT, sZ, sS]
  refine wpAnyH_done (by kernel_rfl) ?_ _
  go_wp2_with fail
  exact ⟨rfl, .bool true, by simp [results, Tryz.results131, go_sem], rfl, HO3.out⟩
end V

namespace V
open Go.RowKit
open Q (IsQ OneQ RetQ below_on ql Qbx)
theorem behind_any (W : World) (gO : Nat) :
  Calls tz 130 #[.pointer (some ⟨gO, 0, none⟩)] W (fun e w' => e = .returned (.func (.func 169) #[] #[.pointer (some ⟨W.heap.size, 0, none⟩)]) ∧ w' = W.alloc (.cells #[.pointer (some ⟨gO, 0, none⟩)] 154)) := by
 go_enter Tryz.func130, Tryz.ntmps130
 go_wp2_with fail
 exact ⟨rfl, .func (.func 169) #[] #[.pointer (some ⟨W.heap.size, 0, none⟩)], by simp [results, Tryz.results130, go_sem], rfl, rfl⟩
def RetV (w : World) (P : List (Int × Rat) → Prop) (e : Ending) (w' : World) : Prop :=
 ∃ (g n c : Nat) (zs : List (TV × Rat)), e = .returned (.slice (some ⟨g, 0, none⟩) n c) ∧ OwnT w' 0 (.slice (some ⟨g, 0, none⟩) n c) (zs.map Prod.fst) ∧ w.heap.size ≤ g ∧ P (vals zs) ∧ (∀ y ∈ zs, OneQ w' y.1.s y.1.A y.1.n y.1.c y.1.t y.1.B y.1.m y.1.d y.2 ∧ -9223372036854775808 ≤ y.1.at_ ∧ y.1.at_ ≤ 9223372036854775807) ∧ Below w.heap.size w w'
theorem info_t5 : (Tryz.prog.info? 67).map (fun i => (i.zero, i.size, i.bytes)) = some (some zeroT, 5, 72) := by kernel_rfl
theorem made_no (n j : Nat) : ∀ u, (madeCells zeroT.cells n)[j]? = some u → ∀ z, u ≠ Value.int .u64 z := by
 intro u hu
 have h := Array.mem_of_getElem? hu
 unfold madeCells at h
 obtain ⟨i, _, rfl⟩ := Array.mem_map.1 h
 have e : zeroT.cells = #[.int .i64 0, .bool false, .slice none 0 0, .bool false, .slice none 0 0] := rfl
 have hi : i % zeroT.cells.size < 5 := by rw [e]; exact Nat.mod_lt _ (by decide)
 generalize i % zeroT.cells.size = k at hi
 rw [e]
 intro z
 match k, hi with
 | 0, _ => intro h; cases h
 | 1, _ => intro h; cases h
 | 2, _ => intro h; cases h
 | 3, _ => intro h; cases h
 | 4, _ => intro h; cases h
theorem make_v (w : World) (M : Nat) (hM : M ≤ 2000000) : ∃ W, (Instr.makeSlice 33 (.int .i64 0) (.int .i64 (M : Int))).run tz w = .ok (.slice (some ⟨w.heap.size, 0, none⟩) 0 M) W ∧ W = w.alloc (.cells (madeCells zeroT.cells (M * 5)) 67) ∧ OwnT W 0 (.slice (some ⟨w.heap.size, 0, none⟩) 0 M) [] := by
 obtain ⟨i, hi, hz, hs, hb⟩ := info_parts info_t5
 have under : Tryz.prog.underlying 33 = some (.slice 67) := by kernel_rfl
 have hr := run_make (P := tz) w 33 67 i zeroT under hi hz .i64 .i64 0 (M : Int) (Int.le_refl _) (by omega) (by rw [hb]; omega) (by omega)
 simp only [Int.toNat_zero, Int.toNat_natCast, hs] at hr
 refine ⟨_, hr, rfl, World.ownsRow_made w _ M (Nat.zero_le _) (by unfold maxLen; omega) (size_madeCells _ _), ?_, _, _, _, rfl⟩
 intro g hg j u hj
 obtain rfl : w.heap.size = g := oI hg
 rw [cell_of_row _ _ j _ _ _ (heap_alloc_new w _)] at hj
 exact made_no _ j u hj
theorem OutV.ret {w wl wx : World} {gO r0 : Nat} {l : List (Int × Rat)} {P : List (Int × Rat) → Prop} (h : OutV wl wx gO r0 l) (hb : Below w.heap.size w wl) (ho : w.heap.size ≤ gO) (hr : w.heap.size ≤ r0) (hp : P l) :
  ∃ v, wx.cell? ⟨gO, 0, none⟩ = some v ∧ RetV w P (.returned v) wx := by
 obtain ⟨v, zs, h1, h2, h3, h4, h5⟩ := h.ex
 obtain ⟨g, n, c, rfl⟩ := h2.some_
 refine ⟨_, by rw [cell_of_row _ _ 0 _ _ _ h1]; rfl, g, n, c, zs, rfl, h2, ?_, h3 ▸ hp, h4, h.near.new hb (fun b hb2 => by rcases hb2 with rfl | rfl; exact ho; exact hr)⟩
 rcases h5 with h5 | ⟨g', h5, h6⟩
 ·obtain rfl : g = r0 := oI h5
  exact hr
 ·obtain rfl : g = g' := oI h5
  exact Nat.le_trans hb.size h6
theorem through_all {X Y : List (Int × Rat)} {D : List (Int × Rat × Rat)} (h : Through X Y (fun _ _ => true) D) : Gone X Y D := by
 rcases h with ⟨h, _⟩ | ⟨s, _, _, _, h⟩
 ·exact h
 ·cases h
theorem kept_len (f : Rat → Rat → Rat) (D : List (Int × Rat × Rat)) : (kept f D).length ≤ D.length := by
 induction D with
 | nil => exact lR _
 | cons a D ih =>
  obtain ⟨a, v, w⟩ := a
  unfold kept
  split
  ·exact Nat.le_succ_of_le ih
  ·exact Nat.succ_le_succ ih
theorem joined_visit {w W : World} {gF g8 gP gO r0 M : Nat} {g : FuncId} {cb : Array Value} {f : Rat → Rat → Rat} {ok : Rat → Rat → Prop} {X Y : List (Int × Rat)} {N : Nat} (hd : Do w g cb f ok) (hb : Below w.heap.size w W) (hj : JB W gF g8 gP gO g cb) (hgO : W.heap[gO]? = some (.cells #[.slice (some ⟨r0, 0, none⟩) 0 M] 33 (0, 0))) (hown : OwnT W 0 (.slice (some ⟨r0, 0, none⟩) 0 M) []) (hF : gF ≠ gO ∧ gF ≠ r0 ∧ g8 ≠ gO ∧ g8 ≠ r0 ∧ gP ≠ gO ∧ gP ≠ r0 ∧ gO ≠ r0) (hwO : w.heap.size ≤ gO) (hwr : w.heap.size ≤ r0) (hok : ∀ a, ok (tot X a) (tot Y a)) (hN : N ≤ 2000000) :
  Visit 131 #[.pointer (some ⟨g8, 0, none⟩), .pointer (some ⟨gF, 0, none⟩)] W (fun b => b = gO ∨ b = r0) X Y N (fun wl wx D => Below W.heap.size W wl ∧ OutV wl wx gO r0 (kept f D)) (fun _ _ => true) where
 eg := enters_of Tryz.func131 (by kernel_rfl) rfl
 own b hb := by
  rcases hb with rfl | rfl
  ·exact lt_of_block hgO
  ·exact hown.lt rfl
 dig b hb := by
  rcases hb with rfl | rfl
  ·intro i v hv z
   rw [cell_of_row _ _ i _ _ _ hgO] at hv
   match i with
   | 0 => obtain rfl := oI hv; intro h; cases h
   | i + 1 => simp at hv
  ·exact hown.all _ rfl
 start wl hl := ⟨hl, ⟨Near.refl _ _, .slice (some ⟨r0, 0, none⟩) 0 M, [], (hl.block gO (lt_of_block hgO)).trans hgO, hown.keep (fun g hg => hl.block g (hown.lt hg)), rfl, by simp, .inl rfl⟩⟩
 near wl wx D h := h.2.near
 keep wl wx wy D h hy := ⟨h.1, h.2.below hy⟩
 call wl wx D a sv Av nv cv tv Bv mv dv sw Aw nw cw tw Bw mw dw h hlen h1 h2 ha hb2 hD _ := by
  refine (visit_any hd ((h.2.near).new (hb.trans (h.1.mono hb.size)) (fun b hb => by rcases hb with rfl | rfl; exact hwO; exact hwr)) (hj.below h.1) h.2 (Nat.lt_of_lt_of_le (lt_of_block hgO) h.1.size) ⟨hF.1, hF.2.1, hF.2.2.1, hF.2.2.2.1⟩ hF.2.2.2.2.1 hF.2.2.2.2.2.1 hF.2.2.2.2.2.2 ⟨ha, hb2⟩ h1 h2 (hok a) (by have := kept_len f D; omega)).mono ?_
  rintro e wy ⟨rfl, ho⟩
  refine ⟨rfl, h.1, ?_⟩
  rw [kept_snoc]
  exact ho
set_option maxRecDepth 100000 in
set_option maxHeartbeats 4000000 in
theorem joined_any {w : World} {A : Option Addr} {n c : Nat} {B : Option Addr} {m d k : Nat} {xs ys : List (TV × Rat)} {g : FuncId} {cb : Array Value} {f : Rat → Rat → Rat} {ok : Rat → Rat → Prop} (hx : IsV w A n c xs k) (hy : IsV w B m d ys k) (hk : k ≤ 700) (hn : n ≤ 1000000) (hm : m ≤ 1000000) (hsx : Short (vals xs)) (hsy : Short (vals ys)) (hA : ∀ a, A = some a → a.block < w.heap.size) (hB : ∀ a, B = some a → a.block < w.heap.size) (hd : Do w g cb f ok) (hok : ∀ a, ok (tot (vals xs) a) (tot (vals ys) a)) :
  Calls tz 78 #[.slice A n c, .slice B m d, .func (.func g) #[] cb] w (RetV w (fun l => ∃ D, Gone (vals xs) (vals ys) D ∧ l = kept f D)) := by
 obtain ⟨M, hM⟩ : ∃ M : Nat, max n m = M := ⟨_, rfl⟩
 have hML : M ≤ 1000000 := by omega
 have hMI : max (n : Int) (m : Int) = (M : Int) := by omega
 have HX := lh hx
 have HY := lh hy
 have HS : Hid (k ≤ 700 ∧ n ≤ 1000000 ∧ m ≤ 1000000 ∧ M ≤ 1000000) := ⟨hk, hn, hm, hML⟩
 have HSX := lh hsx
 have HSY := lh hsy
 have HA := lh hA
 have HB := lh hB
 have HD := lh hd
 have HOK := lh hok
 obtain ⟨W0, hW0⟩ : ∃ W, w.alloc (.cells #[.func (.func g) #[] cb] 106) = W := ⟨_, rfl⟩
 obtain ⟨W1, hmk, hW1, hO1⟩ := make_v W0 M (by omega)
 have h0 : W0.heap.size = w.heap.size + 1 := by rw [← hW0]; simp
 have h1 : W1.heap.size = w.heap.size + 2 := by rw [hW1]; simp [h0]
 have hb0 : Below w.heap.size w W0 := by rw [← hW0]; exact (bR _ _).alloc (lR _) _
 have hb1 : Below W0.heap.size W0 W1 := by rw [hW1]; exact (bR _ _).alloc (lR _) _
 have hf0 : W0.heap[w.heap.size]? = some (.cells #[.func (.func g) #[] cb] 106 (0, 0)) := by rw [← hW0]; exact heap_alloc_new w _
 obtain ⟨W2, hW2⟩ : ∃ W, W1.alloc (.cells #[.slice (some ⟨W0.heap.size, 0, none⟩) 0 M] 33) = W := ⟨_, rfl⟩
 have h2 : W2.heap.size = w.heap.size + 3 := by rw [← hW2]; simp [h1]
 have hb2 : Below W1.heap.size W1 W2 := by rw [← hW2]; exact (bR _ _).alloc (lR _) _
 have hf2 : W2.heap[W1.heap.size]? = some (.cells #[.slice (some ⟨W0.heap.size, 0, none⟩) 0 M] 33 (0, 0)) := by rw [← hW2]; exact heap_alloc_new W1 _
 obtain ⟨W3, hW3⟩ : ∃ W, W2.alloc (.cells #[.pointer (some ⟨W1.heap.size, 0, none⟩)] 154) = W := ⟨_, rfl⟩
 have h3 : W3.heap.size = w.heap.size + 4 := by rw [← hW3]; simp [h2]
 have hb3 : Below W2.heap.size W2 W3 := by rw [← hW3]; exact (bR _ _).alloc (lR _) _
 have hf3 : W3.heap[W2.heap.size]? = some (.cells #[.pointer (some ⟨W1.heap.size, 0, none⟩)] 154 (0, 0)) := by rw [← hW3]; exact heap_alloc_new W2 _
 obtain ⟨W4, hW4⟩ : ∃ W, W3.alloc (.cells #[.func (.func 169) #[] #[.pointer (some ⟨W2.heap.size, 0, none⟩)]] 152) = W := ⟨_, rfl⟩
 have h4 : W4.heap.size = w.heap.size + 5 := by rw [← hW4]; simp [h3]
 have hb4 : Below W3.heap.size W3 W4 := by rw [← hW4]; exact (bR _ _).alloc (lR _) _
 have hf4 : W4.heap[W3.heap.size]? = some (.cells #[.func (.func 169) #[] #[.pointer (some ⟨W2.heap.size, 0, none⟩)]] 152 (0, 0)) := by rw [← hW4]; exact heap_alloc_new W3 _
 have hb24 : Below W2.heap.size W2 W4 := below_on hb3 hb4
 have hb14 : Below W1.heap.size W1 W4 := below_on hb2 hb24
 have hb04 : Below W0.heap.size W0 W4 := below_on hb1 hb14
 have HB4 : Hid (Below w.heap.size w W4) := below_on hb0 hb04
 have HV : Hid (Visit 131 #[.pointer (some ⟨W3.heap.size, 0, none⟩), .pointer (some ⟨w.heap.size, 0, none⟩)] W4 (fun b => b = W1.heap.size ∨ b = W0.heap.size) (vals xs) (vals ys) (n + m) (fun wl wx D => Below W4.heap.size W4 wl ∧ OutV wl wx W1.heap.size W0.heap.size (kept f D)) (fun _ _ => true)) :=
  joined_visit hd HB4.out ⟨(hb04.block _ (lt_of_block hf0)).trans hf0, hf4, (hb4.block _ (lt_of_block hf3)).trans hf3⟩ ((hb24.block _ (lt_of_block hf2)).trans hf2) (hO1.keep (fun g hg => hb14.block g (hO1.lt hg))) (by omega) (by omega) (by omega) hok (by omega)
 have HOA : Hid (Off (fun b => b = W1.heap.size ∨ b = W0.heap.size) A) := by intro a ha h; have := hA a ha; omega
 have HOB : Hid (Off (fun b => b = W1.heap.size ∨ b = W0.heap.size) B) := by intro a ha h; have := hB a ha; omega
 have HSZ : Hid (W0.heap.size = w.heap.size + 1 ∧ W1.heap.size = w.heap.size + 2) := ⟨h0, h1⟩
 clear hx hy hk hn hm hsx hsy hd hok hM hML hA hB hW1 hO1 h0 h1 h2 h3 h4 hb0 hb1 hb2 hb3 hb4 hf0 hf2 hf3 hf4 hb24 hb14 hb04
 go_enter Tryz.func78, Tryz.ntmps78
 go_upto_region 1 with fail
 go_upto_region 2 with fail
 clear hmk hW0
 go_wp2_with fail
 refine (behind_any W2 W1.heap.size).mono ?_
 rintro e w' ⟨rfl, rfl⟩
 clear hW2
 go_wp2_with fail
 refine (walk_any (HX.out.below HB4.out) (HY.out.below HB4.out) HS.out.1 HS.out.2.1 HS.out.2.2.1 HSX.out HSY.out HOA.out HOB.out HV.out).mono ?_
 rintro e w5 ⟨rfl, wl, D, hbl, ⟨_, ho⟩, ht⟩
 obtain ⟨v, hv, hret⟩ := ho.ret (w := w) (P := fun l => ∃ D, Gone (vals xs) (vals ys) D ∧ l = kept f D) (HB4.out.trans (hbl.mono HB4.out.size)) (by have := HSZ.out; omega) (by have := HSZ.out; omega) ⟨D, through_all ht, rfl⟩
 have HRET := lh hret
 clear ho ht hbl hret hW3 hW4
 go_wp2_with fail
 exact ⟨rfl, v, by simp [results, Tryz.results78, go_sem], HRET.out⟩
end V

namespace Q
open Go.RowKit
theorem ql_int (z : Int) (k : Nat) (h : zl z ≤ k) (hk : 1 ≤ k) : ql (z : Rat) ≤ k := by
 show max (zl z) (dig 1).length ≤ k
 have e2 : (dig 1).length ≤ 1 := dig_length_le (by rw [B64_eq]; omega)
 omega
