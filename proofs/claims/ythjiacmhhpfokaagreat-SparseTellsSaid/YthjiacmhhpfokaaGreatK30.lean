/- Part 30 of the proof: VCopyVec, VOpenF, VAppR, PSums. -/
import Derived.Test.YthjiacmhhpfokaaGreatK29
namespace Go.Proofs.YthjiacmhhpfokaaGreat
open Lib renaming hid → lh
open Act renaming put → aP
open Go.Proofs.Tryz renaming prog → tz
open Nat renaming le_refl → lR
open Go.RowKit.Below renaming refl → bR
open List renaming length_append → lA
namespace V
open List renaming getElem_toArray → gY, getElem_cons_zero → gZ, getElem_cons_succ → gJ, setIfInBounds_toArray → sT, set_cons_zero → sZ, set_cons_succ → sS
set_option maxHeartbeats 4000000
open Go.RowKit
open Q (IsQ OneQ RetQ below_on ql Qbx Raw RetCQ copy_q)
structure Fit (w : World) (x : TV) : Prop where
 raw : ∃ us vs, Raw w x.A x.n x.c x.B x.m x.d us vs
 nA : x.A = none → x.c = 0
 nB : x.B = none → x.d = 0
 le : x.n ≤ 1000
 le2 : x.m ≤ 1000
structure Twin (w : World) (x z : TV) : Prop where
 at_ : z.at_ = x.at_
 s : z.s = x.s
 t : z.t = x.t
 n : z.n = x.n
 m : z.m = x.m
 raw : ∃ us vs, Raw w x.A x.n x.c x.B x.m x.d us vs ∧ Raw w z.A z.n z.c z.B z.m z.d us vs
theorem raw_near {Own : Nat → Prop} {w wx : World} {A B : Option Addr} {n c m d : Nat} {us vs : List Nat} (h : Raw w A n c B m d us vs) (hd : NoDig w Own) (hn : Near Own w wx) : Raw wx A n c B m d us vs :=
 ⟨h.en, h.em, num_near h.x hd hn, num_near h.y hd hn, h.cap, h.cap2⟩
theorem Twin.near {Own : Nat → Prop} {w wx : World} {x z : TV} (h : Twin w x z) (hd : NoDig w Own) (hn : Near Own w wx) : Twin wx x z := by
 obtain ⟨us, vs, h1, h2⟩ := h.raw
 exact ⟨h.at_, h.s, h.t, h.n, h.m, us, vs, raw_near h1 hd hn, raw_near h2 hd hn⟩
theorem Twin.below {w wx : World} {x z : TV} (h : Twin w x z) (hb : Below w.heap.size w wx) : Twin wx x z := by
 obtain ⟨us, vs, h1, h2⟩ := h.raw
 exact ⟨h.at_, h.s, h.t, h.n, h.m, us, vs, h1.below hb, h2.below hb⟩
structure CopyT (w wr : World) (v : Value) (xs zs : List TV) (i : Nat) : Prop where
 own : OwnU wr w.heap.size v zs
 len : zs.length = i
 twin : ∀ (j : Nat) x z, xs[j]? = some x → zs[j]? = some z → Twin wr x z
 nw : New w wr v
theorem CopyT.bel {w wr : World} {v : Value} {xs zs : List TV} {i : Nat} (h : CopyT w wr v xs zs i) : Below w.heap.size w wr := h.nw.bel
theorem CopyT.below {w wr wx : World} {v : Value} {xs zs : List TV} {i : Nat} (h : CopyT w wr v xs zs i) (hb : Below wr.heap.size wr wx) : CopyT w wx v xs zs i :=
 ⟨h.own.keep (fun g hg => hb.block g (h.own.lt hg)), h.len, fun j x z hx hz => (h.twin j x z hx hz).below hb, ⟨below_on h.bel hb, h.nw.new⟩⟩
theorem CopyT.app {w wr w4 : World} {v v' : Value} {xs zs : List TV} {i : Nat} {x z : TV} (h : CopyT w wr v xs zs i) (hx : xs[i]? = some x) (ht : Twin wr x z) (h4 : OwnU w4 w.heap.size v' (zs ++ [z])) (hg : wr.grownBy w4 v.ownBlock) (hB : New w w4 v') : CopyT w w4 v' xs (zs ++ [z]) (i + 1) := by
 have hn : NoDig wr (fun b => some b = v.ownBlock) := fun b hb i u hu => h.own.all b hb.symm i u hu
 have hgr : Near (fun b => some b = v.ownBlock) wr w4 := Near.of_grown hg
 refine ⟨h4, by rw [lA, h.len]; rfl, fun j x' z' hx' hz' => ?_, hB⟩
 rcases Nat.lt_or_ge j i with hj | hj
 ·rw [List.getElem?_append_left (by rw [h.len]; exact hj)] at hz'
  exact (h.twin j x' z' hx' hz').near hn hgr
 ·have h5 := (List.getElem?_eq_some_iff.1 hz').1
  rw [lA, h.len] at h5
  obtain rfl : j = i := by simp at h5; omega
  rw [List.getElem?_append_right (by rw [h.len]; exact lR _), h.len, Nat.sub_self] at hz'
  rw [hx] at hx'
  obtain rfl := Option.some.inj hx'
  obtain rfl : z = z' := by simpa using hz'
  exact ht.near hn hgr
theorem appS_at (w : World) (base : Nat) (ty : TypeId) (v : Value) (ts : List TV) (x : TV) (ad : Addr) (hown : OwnU w base v ts) (had : ∀ j u, x.enc[j]? = some u → w.cell? (ad.add j) = some u) (h : ts.length ≤ 10000000) (hbase : base ≤ w.heap.size) :
  ∃ v' w', (Builtin.append_ #[22, 22] ty #[v, .slice (some ad) 1 1]).run tz w = .ok v' w' ∧ OwnU w' base v' (ts ++ [x]) ∧ w.grownBy w' v.ownBlock ∧ (v'.ownBlock = v.ownBlock ∨ v'.ownBlock = some w.heap.size) := by
 obtain ⟨i, hi, hz, hs, hb⟩ := info_parts info_t
 obtain ⟨hown, hall, A0, n0, c0, hv0⟩ := hown
 have ho1 : ∀ u ∈ x.enc, u.oneCell' = true := by intro u hu; exact one_cell [x] u (by rw [flat_one]; exact hu)
 have under : Tryz.prog.underlying 22 = some (.slice 67) := by kernel_rfl
 obtain ⟨v', w', hr, ho, hg, hnn⟩ := run_append_own (P := tz) w base 22 ty 67 i zeroT 5 72 under hi hz hs hb rfl (by decide) v ts.length (flat ts) hown ad 1 1 x.enc rfl had ho1 (by unfold maxLen; omega) (by omega) hbase
 suffices hh : AllT w' v' ∧ (∃ A n c, v' = .slice A n c) ∧ (v'.ownBlock = v.ownBlock ∨ v'.ownBlock = some w.heap.size) from ⟨v', w', hr, ⟨by rw [lA, flat_append, flat_one]; exact ho, hh.1, hh.2.1⟩, hg, hh.2.2⟩
 rcases hown.2 with ⟨rfl, h0⟩ | ⟨g, cap, cur, rfl, hbg, hgc, hnc, hcm, hcs, htake⟩
 ·have hS : _root_.Go.Src tz i.size 22 (.slice (some ad) 1 1) 1 x.enc w := _root_.Go.Src.ofSlice w under ad 1 1 x.enc (by rw [hs]; rfl) had ho1
  have hr2 := run_append_grow_src (P := tz) w 22 22 ty 67 i zeroT under hi hz none 0 0 [] (by rw [hs]; exact run_firstCells_none w.drew 5 0 0 0) (.slice (some ad) 1 1) 1 x.enc hS (by omega) (by omega)
   (growslice_fits_wide (by omega) (by rw [hb]; omega))
  obtain ⟨e1, e2⟩ := Result.ok.inj (hr.symm.trans hr2)
  refine ⟨?_, ⟨_, _, _, e1⟩, .inr (by rw [e1]; rfl)⟩
  intro g' hg2 j u hu
  rw [e1] at hg2
  obtain rfl : w.heap.size = g' := by injection hg2
  rw [e2] at hu
  have hu2 : (w.drew.alloc (.cells (([] ++ x.enc).toArray ++ Builtin.zeroCells zeroT.cells (grownCap w (0 + 1) 0 67 - (0 + 1))) 67)).cell? ⟨w.drew.heap.size, j, none⟩ = some u := hu
  rw [World.cell?_alloc_new] at hu2
  rcases Array.mem_append.1 (Array.mem_of_getElem? hu2) with hx | hx
  ·have hx2 := List.mem_toArray.1 hx
   rw [List.nil_append] at hx2
   exact flat_no [x] u (by rw [flat_one]; exact hx2)
  ·exact zero_t _ u hx
 ·have hcur : ∀ u ∈ cur.toList, ∀ z, u ≠ Value.int .u64 z := by
   intro u hu
   obtain ⟨j, hj, rfl⟩ := List.getElem_of_mem hu
   refine hall g rfl j _ ?_
   rw [cell_of_row w g j _ _ _ hgc]
   rw [Array.length_toList] at hj
   rw [Array.getElem?_eq_getElem hj]; rfl
  have hx5 : ∀ u ∈ x.enc, ∀ z, u ≠ Value.int .u64 z := by intro u hu; exact flat_no [x] u (by rw [flat_one]; exact hu)
  by_cases hroom : ts.length + 1 ≤ cap
  ·have hr2 := run_append_room (P := tz) w 22 ty 67 i under hi g ts.length cap cur hgc ad 1 1 x.enc (by rw [hs]; rfl) had ho1 hroom (by rw [hs, hcs, enc_len]; omega)
   obtain ⟨e1, e2⟩ := Result.ok.inj (hr.symm.trans hr2)
   refine ⟨?_, ⟨_, _, _, e1⟩, .inl (by rw [e1]; rfl)⟩
   intro g' hg2 j u hu
   rw [e1] at hg2
   obtain rfl : g = g' := by injection hg2
   rw [e2, cell_of_row _ g j _ _ _ (setRow_heap w g cur _ _ _ hgc)] at hu
   have hm := Array.mem_of_getElem? hu
   rcases List.mem_append.1 (List.mem_toArray.1 hm) with hm | hm
   ·rcases List.mem_append.1 hm with hm | hm
    ·exact hcur u (List.mem_of_mem_take hm)
    ·exact hx5 u hm
   ·exact hcur u (List.mem_of_mem_drop hm)
  ·have hr2 := run_append_grow (P := tz) w 22 ty 67 i zeroT under hi hz ⟨g, 0, none⟩ ts.length cap (flat ts) (by rw [hs, flat_len]) (fun j u hu => hown.cells (g := g) rfl j u hu) ad 1 1 x.enc (by rw [hs]; rfl) had (by omega) (by omega)
    (growslice_fits_wide (by omega) (by rw [hb]; omega))
   obtain ⟨e1, e2⟩ := Result.ok.inj (hr.symm.trans hr2)
   refine ⟨?_, ⟨_, _, _, e1⟩, .inr (by rw [e1]; rfl)⟩
   intro g' hg2 j u hu
   rw [e1] at hg2
   obtain rfl : w.heap.size = g' := by injection hg2
   rw [e2] at hu
   have hu2 : (w.drew.alloc (.cells ((flat ts).toArray ++ x.enc.toArray ++ Builtin.zeroCells zeroT.cells (grownCap w (ts.length + 1) cap 67 - (ts.length + 1))) 67)).cell? ⟨w.drew.heap.size, j, none⟩ = some u := hu
   rw [World.cell?_alloc_new] at hu2
   rcases Array.mem_append.1 (Array.mem_of_getElem? hu2) with hx | hx
   ·rcases Array.mem_append.1 hx with hx | hx
    ·exact flat_no ts u (List.mem_toArray.1 hx)
    ·exact hx5 u (List.mem_toArray.1 hx)
   ·exact zero_t _ u hx
def RetCV (w : World) (xs : List TV) (e : Ending) (w' : World) : Prop := ∃ v zs, e = .returned v ∧ CopyT w w' v xs zs xs.length
set_option maxRecDepth 100000 in
theorem copyvec_any {w : World} {A : Option Addr} {n c : Nat} {xs : List TV} (hx : Row w A xs) (hn : n = xs.length) (hl : n ≤ 1000000) (hf : ∀ x ∈ xs, Fit w x) : Calls tz 16 #[.slice A n c] w (RetCV w xs) := by
 have HXR := lh hx
 have HXL := lh hn
 have HL := lh hl
 have HF := lh hf
 have HC0 : Hid (CopyT w w (.slice none 0 0) xs [] 0) := ⟨OwnU.nil w _, rfl, fun j x z _ hz => by simp at hz, ⟨bR _ _, fun g hg => by cases hg⟩⟩
 clear hx hn hl hf
 go_enter Tryz.func16, Tryz.ntmps16
 go_wp2_with fail
 go_loopw [3, 4] (fun vv iv wr => ∃ (i : Nat) (A1 : Option Addr) (n1 c1 : Nat) (zs : List TV), i ≤ n ∧ iv = .int .i64 (i : Int) ∧ vv = .slice A1 n1 c1 ∧ Hid (CopyT w wr (.slice A1 n1 c1) xs zs i)) (fun _ iv _ => n - (intOf iv).toNat)
 case atStart => exact ⟨0, none, 0, 0, [], Nat.zero_le _, rfl, rfl, HC0⟩
 case round =>
  clear HC0
  obtain ⟨i, A1, n1, c1, zs, hi, rfl, rfl, HC⟩ := hrel
  by_cases hlt : i < n
  ·have hi1 : (i : Int) < (n : Int) := by omega
   have hi0 : (0 : Int) ≤ (i : Int) := by omega
   have hwi : IntKind.i64.wrap ((i : Int) + 1) = (i : Int) + 1 := by have := HL.out; rw [IntKind.wrap_i64]; omega
   obtain ⟨x, hx⟩ : ∃ x, xs[i]? = some x := ⟨xs[i]'(by have := HXL.out; omega), List.getElem?_eq_getElem (by have := HXL.out; omega)⟩
   obtain ⟨b1, off, hA, hk1⟩ := row_at2 HXR.out hx
   have HX := lh hx
   have HFX := lh (HF.out x (List.mem_of_getElem? hx))
   subst hA
   have HK : Hid (∀ V, Below w.heap.size w V → V.cell? ⟨b1, off + i * 5, none⟩ = some (.int .i64 x.at_) ∧ V.cell? ⟨b1, off + i * 5 + 1, none⟩ = some (.bool x.s) ∧ V.cell? ⟨b1, off + i * 5 + 2, none⟩ = some (.slice x.A x.n x.c) ∧ V.cell? ⟨b1, off + i * 5 + 3, none⟩ = some (.bool x.t) ∧ V.cell? ⟨b1, off + i * 5 + 4, none⟩ = some (.slice x.B x.m x.d)) := fun V hV => hk1 V hV
   have HB := lh HC.out.bel
   clear hx hk1
   go_upto_region 5 with fail
   obtain ⟨us, vs, hraw⟩ := HFX.out.raw
   have HRAW := lh (hraw.below HC.out.bel)
   clear hraw
   replace HB := lh HB.out.drew
   replace HC := lh (HC.out.below (bR _ _).drew)
   replace HRAW := lh (HRAW.out.below (bR _ _).drew)
   refine wp_region_held_drew (S := (fun V => V.cell? ⟨b1, off + i * 5, none⟩ = some (.int .i64 x.at_) ∧ V.cell? ⟨b1, off + i * 5 + 1, none⟩ = some (.bool x.s) ∧ V.cell? ⟨b1, off + i * 5 + 2, none⟩ = some (.slice x.A x.n x.c) ∧ V.cell? ⟨b1, off + i * 5 + 3, none⟩ = some (.bool x.t) ∧ V.cell? ⟨b1, off + i * 5 + 4, none⟩ = some (.slice x.B x.m x.d))) (by kernel_rfl) (by with_reducible exact HK.out _ HB.out) (fun hHeld => ?_)
   refine' tK 0 ?_
   try simp only [gY, gZ, aP, sT, sZ, sS]
   refine' tK 1 ?_
   try simp only [gY, gZ, gJ, aP, sT, sZ, sS]
   refine' tK 2 ?_
   try simp only [gY, gZ, gJ, aP, sT, sZ, sS]
   refine' tK 3 ?_
   try simp only [gY, gZ, gJ, aP, sT, sZ, sS]
   refine' tK 4 ?_
   try simp only [gY, gZ, gJ, aP, sT, sZ, sS]
   refine' tK 5 ?_
   try simp only [gY, gZ, gJ, aP, sT, sZ, sS]
   refine' tK 6 ?_
   try simp only [gY, gZ, gJ, aP, sT, sZ, sS]
   refine' tK 7 ?_
   try simp only [gY, gZ, gJ, aP, sT, sZ, sS]
   refine' tK 8 ?_
   try simp only [gY, gZ, gJ, aP, sT, sZ, sS]
   refine' tK 9 ?_
   try simp only [gY, gZ, gJ, aP, sT, sZ, sS]
   refine' tK 10 ?_
   try simp only [gY, gZ, gJ, aP, sT, sZ, sS]
   refine rQ 11 (fun K hK => ?_)
   try simp only [gY, gZ, gJ]
   go_simp
   with_reducible refine (copy_q HRAW.out HFX.out.nA HFX.out.nB HFX.out.le HFX.out.le2).mono ?_
   rintro e w2 ⟨A8, c8, B8, d8, rfl, h8, hbx⟩
   replace HB := lh (below_on HB.out hbx)
   replace HC := lh (HC.out.below hbx)
   replace HRAW := lh (HRAW.out.below hbx)
   refine hK.out _ _ (by with_reducible exact HK.out _ HB.out) (fun hHeld => ?_)
   clear hK K
   try simp only [aP, sT, sZ, sS]
   have H8 := lh h8
   clear h8 hbx
   refine' tK 12 ?_
   try simp only [gY, gZ, gJ, aP, sT, sZ, sS]
   refine rQ 13 (fun K hK => ?_)
   try simp only [gY, gZ, gJ]
   go_simp
   obtain ⟨w3, hX⟩ : ∃ V, w2.alloc (.cells #[.int .i64 x.at_, .bool x.s, .slice A8 x.n c8, .bool x.t, .slice B8 x.m d8] 67) = V := ⟨_, rfl⟩
   rw [hX]
   have hbx : Below w2.heap.size w2 w3 := by rw [← hX]; exact (bR _ _).alloc (lR _) _
   have hrx : w3.heap[w2.heap.size]? = some (.cells #[.int .i64 x.at_, .bool x.s, .slice A8 x.n c8, .bool x.t, .slice B8 x.m d8] 67 (0, 0)) := by rw [← hX]; exact heap_alloc_new w2 _
   clear hX
   replace HB := lh (below_on HB.out hbx)
   replace HC := lh (HC.out.below hbx)
   replace HRAW := lh (HRAW.out.below hbx)
   replace H8 := lh (H8.out.below hbx)
   have HRX := lh hrx
   clear hrx hbx
   refine hK.out _ _ (by with_reducible exact HK.out _ HB.out) (fun hHeld => ?_)
   clear hK K
   try simp only [aP, sT, sZ, sS]
   have hcl : ∀ j u, (⟨x.at_, x.s, A8, x.n, c8, x.t, B8, x.m, d8⟩ : TV).enc[j]? = some u → w3.cell? ((⟨w2.heap.size, 0, none⟩ : Addr).add j) = some u := by
    intro j u hj
    rw [add_flat, Nat.zero_add, cell_of_row _ _ j _ _ _ HRX.out]
    simpa [TV.enc] using hj
   obtain ⟨v', w4, hr, g2, gg, gb⟩ := appS_at w3 w.heap.size 22 (.slice A1 n1 c1) zs ⟨x.at_, x.s, A8, x.n, c8, x.t, B8, x.m, d8⟩ ⟨w2.heap.size, 0, none⟩ HC.out.own hcl (by rw [HC.out.len]; have := HL.out; omega) HC.out.bel.size
   obtain ⟨A2, n2, c2, rfl⟩ := g2.some_
   have hN4 : New w w4 (.slice A2 n2 c2) := HC.out.nw.step (Near.of_grown gg) (gb.imp id (fun h => ⟨_, h, lR _⟩))
   have HB4 := lh hN4.bel
   have HC4 : Hid (CopyT w w4 (.slice A2 n2 c2) xs (zs ++ [⟨x.at_, x.s, A8, x.n, c8, x.t, B8, x.m, d8⟩]) (i + 1)) := HC.out.app HX.out ⟨rfl, rfl, rfl, rfl, rfl, us, vs, HRAW.out, H8.out⟩ g2 gg hN4
   clear g2 gg gb hcl hN4 HB
   have HB := HB4
   refine rQ 14 (fun K hK => ?_)
   try simp only [gY, gZ, gJ]
   rw [if_pos (by rfl)]
   unfold Oper.wp
   simp [execOp, resolve, invoke, builtin, Act.eval, hr, Result.andThen]
   refine hK.out _ _ (by with_reducible exact HK.out _ HB4.out) (fun hHeld => ?_)
   clear hK K hr
   try simp only [aP, sT, sZ, sS]
   refine' tK 15 ?_
   try simp only [gY, gZ, gJ, aP, sT, sZ, sS]
   refine wpAnyH_done (by kernel_rfl) ?_ _
   go_wp2_with fail
   go_roundw
   case rel => exact ⟨i + 1, A2, n2, c2, _, by omega, by go_num, rfl, HC4⟩
   case measure => (simp [intOf]; omega)
  ·have hi1 : ¬ (i : Int) < (n : Int) := by omega
   obtain rfl : i = n := by omega
   have HE : Hid (RetCV w xs (.returned (.slice A1 n1 c1)) wr) := ⟨_, zs, rfl, by rw [← HXL.out]; exact HC.out⟩
   go_wp2_with fail
   exact ⟨rfl, .slice A1 n1 c1, by simp [results, Tryz.results16, go_sem], HE.out⟩
end V

namespace V
open Go.ChangeShapes Go.WideShapes Go.ChangeAt Go.RowKit Go.Joins
open Q (IsQ IsRow open_int2 isq_rows)
set_option maxRecDepth 100000
def Nilc (x : TV) : Prop := (x.A = none → x.c = 0) ∧ (x.B = none → x.d = 0)
theorem nil_row {w : World} {a : Option Addr} {len cap : Nat} {zs : List Int} (h : Q.IsRow w a len cap zs) : a = none → cap = 0 := by
 intro e
 rcases h with ⟨_, _, h, _⟩ | h
 ·exact h
 ·obtain ⟨x, e2, _⟩ := h
  rw [e] at e2
  cases e2
theorem IsV.fit {w : World} {A : Option Addr} {n c k : Nat} {ys : List (TV × Rat)} (h : IsV w A n c ys k) (hk : k ≤ 1000) (hn : ∀ y ∈ ys, Nilc y.1) : ∀ x ∈ ys.map Prod.fst, Fit w x := by
 intro x hx
 obtain ⟨y, hy, rfl⟩ := List.mem_map.1 hx
 have h1 := (h.tq y hy).1
 exact ⟨h1.raw, (hn y hy).1, (hn y hy).2, Nat.le_trans h1.le hk, Nat.le_trans h1.le2 hk⟩
theorem terms_off {H : Type} {enc : TypeId × Value → H} {W : World} {fuel len : Nat} {b off : Nat} {D : Nat → DataW H} {Pl : Nat → List MemPlace} (hx : ∀ i, i < len → ∃ cs', W.cells? 0 ((⟨b, off, none⟩ : Addr).add (i * Tryz.prog.cellsOf 67)) (Tryz.prog.cellsOf 67) = some cs' ∧ DataW.trod enc tz W 0 (fun _ => true) true fuel 67 cs' = some (D i, Pl i)) :
  ∃ ys : List (TV × Rat), ys.length = len ∧ (∀ j y, ys[j]? = some y → ∀ i v, y.1.enc[i]? = some v → W.cell? ⟨b, off + j * 5 + i, none⟩ = some v) ∧ ∃ k, ∀ y ∈ ys, TQ W y.1 y.2 k ∧ Nilc y.1 := by
 have one : ∀ i, i < len → ∃ y : TV × Rat, (∀ j v, y.1.enc[j]? = some v → W.cell? ⟨b, off + i * 5 + j, none⟩ = some v) ∧ TQ W y.1 y.2 (max y.1.n y.1.m) ∧ Nilc y.1 := by
  intro i hi
  obtain ⟨cs, h1, h2⟩ := hx i hi
  rw [cellsT] at h1
  obtain ⟨_, hl, hc⟩ := World.cells?_some h1
  obtain ⟨y0, y1, m, -, -, hy0, hy1⟩ := trod_struct2 Tryz.underlying67 h2
  match cs, hl with
  | [c0, c1, c2, c3, c4], _ =>
   rw [cellsN] at hy0
   rw [Q.cellsQ] at hy1
   have h0 : DataW.trod enc tz W 0 (fun _ => true) true m 3 [c0] = some y0 := hy0
   have h4 : DataW.trod enc tz W 0 (fun _ => true) true m 27 [c1, c2, c3, c4] = some y1 := hy1
   obtain ⟨n, e0, -, hw⟩ := DataW.trod_int Tryz.underlying3 h0
   obtain rfl : c0 = .int .i64 n := by simpa using e0
   have hb := bounds_i64 hw
   obtain ⟨s, a, l, c, zs, t, b', l2, c2', us, rfl, rfl, rfl, rfl, w0, w1⟩ := open_rat4 h4
   obtain ⟨q, hq⟩ := isq_rows (s := s) (t := t) w0 w1
   refine ⟨(⟨n, s, a, l, c, t, b', l2, c2'⟩, q), fun j v hj => ?_, ⟨hq, hb.1, by show n ≤ _; omega⟩, nil_row w0, nil_row w1⟩
   have hj5 : j < 5 := by
    have := (List.getElem?_eq_some_iff.1 hj).1
    simpa [TV.enc] using this
   have h5 := hc j hj5
   rw [Addr.add_add, add_flat] at h5
   rw [Nat.add_assoc, h5]
   exact hj
 obtain ⟨ys, h1, h2⟩ := list_of len one
 obtain ⟨k, hk⟩ := list_bound (fun y : TV × Rat => max y.1.n y.1.m) ys
 refine ⟨ys, h1, fun j y hy i v hv => (h2 j y hy).1 i v hv, k, fun y hy => ?_⟩
 obtain ⟨j, hj⟩ := List.getElem?_of_mem hy
 have h3 := (h2 j y hj).2
 exact ⟨⟨h3.1.1.mono (hk y hy), h3.1.2⟩, h3.2⟩
theorem open_termsF {H : Type} {enc : TypeId × Value → H} {W : World} {r : Reach} {b0 : Nat} {t : TypeId} {v : Value} {d : DataW H} {p : List MemPlace} (ht : Tryz.prog.underlying t = some (.slice 67)) (hv : Value.okWide tz W r b0 t v) (h : DataW.Trod enc tz W 0 (fun _ => true) true t v d p) :
  ∃ A n c ys k, v = .slice A n c ∧ IsV W A n c ys k ∧ (∀ a, A = some a → a.block < W.heap.size) ∧ ∀ y ∈ ys, Nilc y.1 := by
 obtain ⟨a0, len0, cap0, rfl⟩ := okWide_slice ht hv
 obtain ⟨fuel, hf⟩ := h
 rcases Go.Deep.open_slice ht hf with ⟨e, _⟩ | ⟨a, len, cap, m, n, D, Pl, e, _, hl, hm, hmm, _, hx⟩
 ·obtain ⟨rfl, rfl, rfl⟩ : a0 = none ∧ len0 = 0 ∧ cap0 = 0 := by simpa [Value.cells] using e
  exact ⟨none, 0, 0, [], 0, rfl, ⟨rfl, lR _, fun h => absurd rfl h, fun _ h => by cases h⟩, (fun _ h => by cases h), (fun _ h => by cases h)⟩
 ·obtain ⟨rfl, rfl, rfl⟩ : a0 = some a ∧ len0 = len ∧ cap0 = cap := by simpa [Value.cells] using e
  obtain ⟨b, off, rfl, hlt⟩ := slice_in ht hv
  simp only [if_pos] at hmm
  obtain ⟨ys, h1, h2, k, h3⟩ := terms_off (len := len0) (fun i hi => hx i (by omega))
  refine ⟨_, _, _, ys, k, rfl, ⟨h1.symm, hl, fun _ => ⟨b, off, rfl, hlt, fun j x hj i v hv => ?_⟩, fun y hy => (h3 y hy).1⟩, (fun a ha => by obtain rfl := Option.some.inj ha; exact hlt), fun y hy => (h3 y hy).2⟩
  rw [List.getElem?_map] at hj
  obtain ⟨y, hy, rfl⟩ := Option.map_eq_some_iff.1 hj
  exact h2 j y hy i v hv
end V

namespace V
open Go.RowKit
open Q (IsQ OneQ below_on ql Qbx qsign qsign_zero_iff)
def TV.encR (x : TV) : List Value := [.bool x.s, .slice x.A x.n x.c, .bool x.t, .slice x.B x.m x.d]
theorem encR_len (x : TV) : x.encR.length = 4 := rfl
def flatR (xs : List TV) : List Value := xs.flatMap TV.encR
theorem flatR_len (xs : List TV) : (flatR xs).length = xs.length * 4 := by
 induction xs with
 | nil => rfl
 | cons x xs ih => show (x.encR ++ flatR xs).length = _; rw [lA, ih, encR_len, List.length_cons]; omega
theorem one_cellR (xs : List TV) : ∀ u ∈ flatR xs, u.oneCell' = true := by
 intro u hu
 obtain ⟨x, _, hx⟩ := List.mem_flatMap.1 hu
 simp only [TV.encR, List.mem_cons, List.not_mem_nil, or_false] at hx
 rcases hx with rfl | rfl | rfl | rfl <;> rfl
theorem zero_r (n : Nat) : ∀ u ∈ Builtin.zeroCells zeroR.cells n, ∀ z, u ≠ Value.int .u64 z := by
 intro u hu
 unfold Builtin.zeroCells at hu
 obtain ⟨i, _, rfl⟩ := Array.mem_map.1 hu
 have e : zeroR.cells = #[.bool false, .slice none 0 0, .bool false, .slice none 0 0] := rfl
 have hi : i % zeroR.cells.size < 4 := by rw [e]; exact Nat.mod_lt _ (by decide)
 generalize i % zeroR.cells.size = k at hi
 rw [e]
 intro z
 match k, hi with
 | 0, _ => intro h; cases h
 | 1, _ => intro h; cases h
 | 2, _ => intro h; cases h
 | 3, _ => intro h; cases h
theorem flatR_no (ts : List TV) : ∀ u ∈ flatR ts, ∀ z, u ≠ Value.int .u64 z := by
 intro u hu z
 obtain ⟨x, _, hx⟩ := List.mem_flatMap.1 hu
 simp only [TV.encR, List.mem_cons, List.not_mem_nil, or_false] at hx
 rcases hx with rfl | rfl | rfl | rfl <;> intro h <;> cases h
theorem flatR_append (xs ys : List TV) : flatR (xs ++ ys) = flatR xs ++ flatR ys := by unfold flatR; rw [List.flatMap_append]
theorem flatR_one (x : TV) : flatR [x] = x.encR := by unfold flatR; simp
structure OwnR (w : World) (base : Nat) (v : Value) (ts : List TV) : Prop where
 row : w.ownsRow base 27 4 v ts.length (flatR ts)
 all : AllT w v
 some_ : ∃ A n c, v = .slice A n c
set_option maxHeartbeats 1000000 in
theorem appR_at (w : World) (base : Nat) (ty : TypeId) (v : Value) (ts : List TV) (x : TV) (ad : Addr) (hown : OwnR w base v ts) (had : ∀ j u, x.encR[j]? = some u → w.cell? (ad.add j) = some u) (h : ts.length ≤ 10000000) (hbase : base ≤ w.heap.size) :
  ∃ v' w', (Builtin.append_ #[52, 52] ty #[v, .slice (some ad) 1 1]).run tz w = .ok v' w' ∧ OwnR w' base v' (ts ++ [x]) ∧ w.grownBy w' v.ownBlock ∧ (v'.ownBlock = v.ownBlock ∨ v'.ownBlock = some w.heap.size) := by
 obtain ⟨i, hi, hz, hs, hb⟩ := info_parts info_r
 obtain ⟨hown, hall, A0, n0, c0, hv0⟩ := hown
 have ho1 : ∀ u ∈ x.encR, u.oneCell' = true := by intro u hu; exact one_cellR [x] u (by rw [flatR_one]; exact hu)
 have under : Tryz.prog.underlying 52 = some (.slice 27) := by kernel_rfl
 obtain ⟨v', w', hr, ho, hg, hnn⟩ := run_append_own (P := tz) w base 52 ty 27 i zeroR 4 64 under hi hz hs hb rfl (by decide) v ts.length (flatR ts) hown ad 1 1 x.encR rfl had ho1 (by unfold maxLen; omega) (by omega) hbase
 suffices hh : AllT w' v' ∧ (∃ A n c, v' = .slice A n c) ∧ (v'.ownBlock = v.ownBlock ∨ v'.ownBlock = some w.heap.size) from ⟨v', w', hr, ⟨by rw [lA, flatR_append, flatR_one]; exact ho, hh.1, hh.2.1⟩, hg, hh.2.2⟩
 rcases hown.2 with ⟨rfl, h0⟩ | ⟨g, cap, cur, rfl, hbg, hgc, hnc, hcm, hcs, htake⟩
 ·have hS : _root_.Go.Src tz i.size 52 (.slice (some ad) 1 1) 1 x.encR w := _root_.Go.Src.ofSlice w under ad 1 1 x.encR (by rw [hs]; rfl) had ho1
  have hr2 := run_append_grow_src (P := tz) w 52 52 ty 27 i zeroR under hi hz none 0 0 [] (by rw [hs]; exact run_firstCells_none w.drew 4 0 0 0) (.slice (some ad) 1 1) 1 x.encR hS (by omega) (by omega)
   (growslice_fits_wide (by omega) (by rw [hb]; omega))
  obtain ⟨e1, e2⟩ := Result.ok.inj (hr.symm.trans hr2)
  refine ⟨?_, ⟨_, _, _, e1⟩, .inr (by rw [e1]; rfl)⟩
  intro g' hg2 j u hu
  rw [e1] at hg2
  obtain rfl : w.heap.size = g' := by injection hg2
  rw [e2] at hu
  have hu2 : (w.drew.alloc (.cells (([] ++ x.encR).toArray ++ Builtin.zeroCells zeroR.cells (grownCap w (0 + 1) 0 27 - (0 + 1))) 27)).cell? ⟨w.drew.heap.size, j, none⟩ = some u := hu
  rw [World.cell?_alloc_new] at hu2
  rcases Array.mem_append.1 (Array.mem_of_getElem? hu2) with hx | hx
  ·have hx2 := List.mem_toArray.1 hx
   rw [List.nil_append] at hx2
   exact flatR_no [x] u (by rw [flatR_one]; exact hx2)
  ·exact zero_r _ u hx
 ·have hcur : ∀ u ∈ cur.toList, ∀ z, u ≠ Value.int .u64 z := by
   intro u hu
   obtain ⟨j, hj, rfl⟩ := List.getElem_of_mem hu
   refine hall g rfl j _ ?_
   rw [cell_of_row w g j _ _ _ hgc]
   rw [Array.length_toList] at hj
   rw [Array.getElem?_eq_getElem hj]; rfl
  have hx5 : ∀ u ∈ x.encR, ∀ z, u ≠ Value.int .u64 z := by intro u hu; exact flatR_no [x] u (by rw [flatR_one]; exact hu)
  by_cases hroom : ts.length + 1 ≤ cap
  ·have hr2 := run_append_room (P := tz) w 52 ty 27 i under hi g ts.length cap cur hgc ad 1 1 x.encR (by rw [hs]; rfl) had ho1 hroom (by rw [hs, hcs, encR_len]; omega)
   obtain ⟨e1, e2⟩ := Result.ok.inj (hr.symm.trans hr2)
   refine ⟨?_, ⟨_, _, _, e1⟩, .inl (by rw [e1]; rfl)⟩
   intro g' hg2 j u hu
   rw [e1] at hg2
   obtain rfl : g = g' := by injection hg2
   rw [e2, cell_of_row _ g j _ _ _ (setRow_heap w g cur _ _ _ hgc)] at hu
   have hm := Array.mem_of_getElem? hu
   rcases List.mem_append.1 (List.mem_toArray.1 hm) with hm | hm
   ·rcases List.mem_append.1 hm with hm | hm
    ·exact hcur u (List.mem_of_mem_take hm)
    ·exact hx5 u hm
   ·exact hcur u (List.mem_of_mem_drop hm)
  ·have hr2 := run_append_grow (P := tz) w 52 ty 27 i zeroR under hi hz ⟨g, 0, none⟩ ts.length cap (flatR ts) (by rw [hs, flatR_len]) (fun j u hu => hown.cells (g := g) rfl j u hu) ad 1 1 x.encR (by rw [hs]; rfl) had (by omega) (by omega)
    (growslice_fits_wide (by omega) (by rw [hb]; omega))
   obtain ⟨e1, e2⟩ := Result.ok.inj (hr.symm.trans hr2)
   refine ⟨?_, ⟨_, _, _, e1⟩, .inr (by rw [e1]; rfl)⟩
   intro g' hg2 j u hu
   rw [e1] at hg2
   obtain rfl : w.heap.size = g' := by injection hg2
   rw [e2] at hu
   have hu2 : (w.drew.alloc (.cells ((flatR ts).toArray ++ x.encR.toArray ++ Builtin.zeroCells zeroR.cells (grownCap w (ts.length + 1) cap 27 - (ts.length + 1))) 27)).cell? ⟨w.drew.heap.size, j, none⟩ = some u := hu
   rw [World.cell?_alloc_new] at hu2
   rcases Array.mem_append.1 (Array.mem_of_getElem? hu2) with hx | hx
   ·rcases Array.mem_append.1 hx with hx | hx
    ·exact flatR_no ts u (List.mem_toArray.1 hx)
    ·exact hx5 u (List.mem_toArray.1 hx)
   ·exact zero_r _ u hx
theorem OwnR.keep {w w' : World} {base : Nat} {v : Value} {ts : List TV} (h : OwnR w base v ts) (hb : ∀ g, v.ownBlock = some g → w'.heap[g]? = w.heap[g]?) : OwnR w' base v ts := by
 refine ⟨⟨h.row.1, ?_⟩, fun g hg j u hu => h.all g hg j u ((World.cell?_of_block (a := ⟨g, j, none⟩) (hb g hg)).symm.trans hu), h.some_⟩
 rcases h.row.2 with hn | ⟨g, cap, cur, rfl, h1, h2, rest⟩
 ·exact .inl hn
 ·exact .inr ⟨g, cap, cur, rfl, h1, (hb g rfl).trans h2, rest⟩
theorem OwnR.lt {w : World} {base : Nat} {v : Value} {ts : List TV} (h : OwnR w base v ts) {g : Nat} (hg : v.ownBlock = some g) : g < w.heap.size := (h.row.lt g hg).2
end V

namespace Q.P
set_option maxRecDepth 100000
set_option maxHeartbeats 4000000
open Go.RowKit
theorem mul_q {w : World} {s t s' t' : Bool} {A B A' B' : Option Addr} {n c m d n' c' m' d' k : Nat} {p r : Rat} (h1 : IsQ w s A n c t B m d p k) (h2 : IsQ w s' A' n' c' t' B' m' d' r k) (hk : 1 ≤ k) (hk2 : k ≤ 700) (q : Rat) (hq : p * r = q) :
  Calls tz 89 #[.agg #[.bool s, .slice A n c, .bool t, .slice B m d], .agg #[.bool s', .slice A' n' c', .bool t', .slice B' m' d']] w (RetQ w q) := by
 have HS := lh (S2.start w s A n c t B m d s' A' n' c' t' B' m' d')
 have HP := lh (((h1.alloc (.cells #[.bool s, .slice A n c, .bool t, .slice B m d] 27)).alloc (.cells #[.bool s', .slice A' n' c', .bool t', .slice B' m' d'] 27)).alloc (.cells #[.bool false, .slice none 0 0, .bool false, .slice none 0 0] 27))
 have HR := lh (((h2.alloc (.cells #[.bool s, .slice A n c, .bool t, .slice B m d] 27)).alloc (.cells #[.bool s', .slice A' n' c', .bool t', .slice B' m' d'] 27)).alloc (.cells #[.bool false, .slice none 0 0, .bool false, .slice none 0 0] 27))
 have HQ := lh hq
 clear h1 h2 hq
 go_enter Tryz.func89, Tryz.ntmps89
 go_wp2_with fail
 refine (parts_any HP.out hk (by omega)).mono ?_
 rintro e w1 ⟨s1, A1, n1, c1, s2, A2, n2, c2, x, dx, rfl, hx, hdx, hdp, hqp, hb1⟩
 have HS1 := lh (HS.out.below hb1)
 have HX1 := lh hx
 have HDX1 := lh hdx
 have HR1 := lh (HR.out.below hb1)
 clear hx hdx hb1 HS HP HR
 obtain ⟨V, hV⟩ : ∃ V, (w1.alloc (.cells #[.bool s1, .slice A1 n1 c1] 25)).alloc (.cells #[.bool s2, .slice A2 n2 c2] 25) = V := ⟨_, rfl⟩
 have HV : Hid (Below w1.heap.size w1 V) := by rw [← hV]; exact ((bR _ _).alloc (lR _) _).alloc (by simp) _
 have HI1 : Hid (Ibx V w1.heap.size s1 A1 n1 c1) := by rw [← hV]; exact (Ibx.new' _ _ _ _ _ _ rfl).alloc _
 have HJ1 : Hid (Ibx V (w1.heap.size + 1) s2 A2 n2 c2) := by rw [← hV]; exact Ibx.new' _ _ _ _ _ _ (by simp)
 have HS2 := lh (HS1.out.below HV.out)
 have HX2 := lh (HX1.out.below HV.out)
 have HDX2 := lh (HDX1.out.below HV.out)
 have HR2 := lh (HR1.out.below HV.out)
 have HLW : Hid (w.heap.size + 1 + 1 < w1.heap.size) := HS1.out.o.lt
 have k0 := HS2.out.i2.c0
 have k1 := HS2.out.i2.c1
 have k2 := HS2.out.i2.c2
 have k3 := HS2.out.i2.c3
 clear HS1 HX1 HDX1 HR1 HV
 go_wp2_with fail
 refine (parts_any HR2.out hk (by omega)).mono ?_
 rintro e w2 ⟨s3, A3, n3, c3, s4, A4, n4, c4, y, ey, rfl, hy, hey, hep, hqr, hb2⟩
 clear hV
 have HS3 := lh (HS2.out.below hb2)
 have HI3 := lh (HI1.out.below hb2)
 have HJ3 := lh (HJ1.out.below hb2)
 have HX3 := lh (HX2.out.below hb2)
 have HDX3 := lh (HDX2.out.below hb2)
 have HY3 := lh hy
 have HEY3 := lh hey
 have HLW2 : Hid (w.heap.size + 1 + 1 < w2.heap.size) := HS3.out.o.lt
 clear hy hey hb2 HS2 HI1 HJ1 HX2 HDX2 HR2 k0 k1 k2 k3
 obtain ⟨W, hW⟩ : ∃ W, (w2.alloc (.cells #[.bool s3, .slice A3 n3 c3] 25)).alloc (.cells #[.bool s4, .slice A4 n4 c4] 25) = W := ⟨_, rfl⟩
 have HV : Hid (Below w2.heap.size w2 W) := by rw [← hW]; exact ((bR _ _).alloc (lR _) _).alloc (by simp) _
 have HI4 : Hid (Ibx W w2.heap.size s3 A3 n3 c3) := by rw [← hW]; exact (Ibx.new' _ _ _ _ _ _ rfl).alloc _
 have HJ4 : Hid (Ibx W (w2.heap.size + 1) s4 A4 n4 c4) := by rw [← hW]; exact Ibx.new' _ _ _ _ _ _ (by simp)
 have HS := lh (HS3.out.below HV.out)
 have HD : Hid (D4 W w1.heap.size w2.heap.size s1 A1 n1 c1 s2 A2 n2 c2 s3 A3 n3 c3 s4 A4 n4 c4 x dx y ey k) := ⟨HI3.out.below HV.out, HJ3.out.below HV.out, HI4.out, HJ4.out, HX3.out.below HV.out, HDX3.out.below HV.out, HY3.out.below HV.out, HEY3.out.below HV.out⟩
 have HQP := lh hqp
 have HQR := lh hqr
 clear HS3 HI3 HJ3 HI4 HJ4 HX3 HDX3 HY3 HEY3 HV hqp hqr
 obtain ⟨N, hN⟩ : ∃ N, x * y = N := ⟨_, rfl⟩
 obtain ⟨M, hM⟩ : ∃ M, dx * ey = M := ⟨_, rfl⟩
 have HE : Hid (Rat.divInt N M = q) := by
  show _ = _
  rw [← HQ.out, ← HQP.out, ← HQR.out, ← hN, ← hM]
  exact (Rat.divInt_mul_divInt _ _).symm
 have HNL : Hid (zl N ≤ 3000) := by show _ ≤ _; rw [← hN]; have h1 := zl_mul x y; have h2 := HD.out.z1.zl; have h3 := HD.out.z3.zl; omega
 have HML : Hid (zl M ≤ 3000) := by show _ ≤ _; rw [← hM]; have h1 := zl_mul dx ey; have h2 := HD.out.z2.zl; have h3 := HD.out.z4.zl; omega
 have hMp : 0 < M := by rw [← hM]; exact Int.mul_pos hdp hep
 have HN := lh hN
 have HM := lh hM
 clear hN hM
 go_upto_region 3 with fail
 clear hW
 go_region_held3 (fun V => V.cell? ⟨w1.heap.size, 0, none⟩ = some (.bool s1) ∧ V.cell? ⟨w1.heap.size, 1, none⟩ = some (.slice A1 n1 c1) ∧ V.cell? ⟨w1.heap.size + 1, 0, none⟩ = some (.bool s2) ∧ V.cell? ⟨w1.heap.size + 1, 1, none⟩ = some (.slice A2 n2 c2) ∧ V.cell? ⟨w2.heap.size, 0, none⟩ = some (.bool s3) ∧ V.cell? ⟨w2.heap.size, 1, none⟩ = some (.slice A3 n3 c3) ∧ V.cell? ⟨w2.heap.size + 1, 0, none⟩ = some (.bool s4) ∧ V.cell? ⟨w2.heap.size + 1, 1, none⟩ = some (.slice A4 n4 c4))
  (first | (with_reducible exact HD8.out.keep4 HLW.out HLW2.out) | (with_reducible exact HD8.out.keep) | (with_reducible exact HD6.out.keep) | (with_reducible exact HD5.out.keep) | (with_reducible exact HD.out.drew.keep))
  (first
  | (go_at_call 143; (refine (lowest_q (HN6.out.isz HNL.out) (HM6.out.isz HML.out) (by omega) (by omega) hMp HE.out).mono ?_); rintro e w8 ⟨s8, A8, n8, c8, t8, B8, m8, d8, rfl, h8, hb8⟩; have HS8 := lh (HS6.out.below hb8); have HD8 := lh (HD6.out.below hb8); have HR8 := lh h8; have o0 := HS8.out.o.c0; have o1 := HS8.out.o.c1; have o2 := HS8.out.o.c2; have o3 := HS8.out.o.c3; have f0 := HS8.out.o.f 0; have f1 := HS8.out.o.f 1; have f2 := HS8.out.o.f 2; have f3 := HS8.out.o.f 3)
  | (go_at_call 145; (refine (mul_j HD5.out.z2 HD5.out.z4 (by omega) M HM.out).mono ?_); rintro e w6 ⟨s6, A6, n6, c6, rfl, h6, hb6⟩; have HS6 := lh (HS5.out.below hb6); have HD6 := lh (HD5.out.below hb6); have HN6 := lh (HN5.out.below hb6); have HM6 := lh h6)
  | (go_at_call 145; (refine (mul_j HD.out.drew.z1 HD.out.drew.z3 (by omega) N HN.out).mono ?_); rintro e w5 ⟨s5, A5, n5, c5, rfl, h5, hb5⟩; have HS5 := lh (HS.out.drew.below hb5); have HD5 := lh (HD.out.drew.below hb5); have HN5 := lh h5))
 all_goals
  go_wp2_with fail
  refine bodyPost_ret (v := .agg #[.bool s8, .slice A8 n8 c8, .bool t8, .slice B8 m8 d8]) (by simp [results, Tryz.results89, go_sem, o0, o1, o2, o3]) rfl ?_
  exact retq_put HR8.out HS8.out.o (by omega) HS8.out.bel
theorem add_q {w : World} {s t s' t' : Bool} {A B A' B' : Option Addr} {n c m d n' c' m' d' k : Nat} {p r : Rat} (h1 : IsQ w s A n c t B m d p k) (h2 : IsQ w s' A' n' c' t' B' m' d' r k) (hk : 1 ≤ k) (hk2 : k ≤ 700) (q : Rat) (hq : p + r = q) :
  Calls tz 88 #[.agg #[.bool s, .slice A n c, .bool t, .slice B m d], .agg #[.bool s', .slice A' n' c', .bool t', .slice B' m' d']] w (RetQ w q) := by
 have HS := lh (S2.start w s A n c t B m d s' A' n' c' t' B' m' d')
 have HP := lh (((h1.alloc (.cells #[.bool s, .slice A n c, .bool t, .slice B m d] 27)).alloc (.cells #[.bool s', .slice A' n' c', .bool t', .slice B' m' d'] 27)).alloc (.cells #[.bool false, .slice none 0 0, .bool false, .slice none 0 0] 27))
 have HR := lh (((h2.alloc (.cells #[.bool s, .slice A n c, .bool t, .slice B m d] 27)).alloc (.cells #[.bool s', .slice A' n' c', .bool t', .slice B' m' d'] 27)).alloc (.cells #[.bool false, .slice none 0 0, .bool false, .slice none 0 0] 27))
 have HQ := lh hq
 clear h1 h2 hq
 go_enter Tryz.func88, Tryz.ntmps88
 go_wp2_with fail
 refine (parts_any HP.out hk (by omega)).mono ?_
 rintro e w1 ⟨s1, A1, n1, c1, s2, A2, n2, c2, x, dx, rfl, hx, hdx, hdp, hqp, hb1⟩
 have HS1 := lh (HS.out.below hb1)
 have HX1 := lh hx
 have HDX1 := lh hdx
 have HR1 := lh (HR.out.below hb1)
 clear hx hdx hb1 HS HP HR
 obtain ⟨V, hV⟩ : ∃ V, (w1.alloc (.cells #[.bool s1, .slice A1 n1 c1] 25)).alloc (.cells #[.bool s2, .slice A2 n2 c2] 25) = V := ⟨_, rfl⟩
 have HV : Hid (Below w1.heap.size w1 V) := by rw [← hV]; exact ((bR _ _).alloc (lR _) _).alloc (by simp) _
 have HI1 : Hid (Ibx V w1.heap.size s1 A1 n1 c1) := by rw [← hV]; exact (Ibx.new' _ _ _ _ _ _ rfl).alloc _
 have HJ1 : Hid (Ibx V (w1.heap.size + 1) s2 A2 n2 c2) := by rw [← hV]; exact Ibx.new' _ _ _ _ _ _ (by simp)
 have HS2 := lh (HS1.out.below HV.out)
 have HX2 := lh (HX1.out.below HV.out)
 have HDX2 := lh (HDX1.out.below HV.out)
 have HR2 := lh (HR1.out.below HV.out)
 have HLW : Hid (w.heap.size + 1 + 1 < w1.heap.size) := HS1.out.o.lt
 have k0 := HS2.out.i2.c0
 have k1 := HS2.out.i2.c1
 have k2 := HS2.out.i2.c2
 have k3 := HS2.out.i2.c3
 clear HS1 HX1 HDX1 HR1 HV
 go_wp2_with fail
 refine (parts_any HR2.out hk (by omega)).mono ?_
 rintro e w2 ⟨s3, A3, n3, c3, s4, A4, n4, c4, y, ey, rfl, hy, hey, hep, hqr, hb2⟩
 clear hV
 have HS3 := lh (HS2.out.below hb2)
 have HI3 := lh (HI1.out.below hb2)
 have HJ3 := lh (HJ1.out.below hb2)
 have HX3 := lh (HX2.out.below hb2)
 have HDX3 := lh (HDX2.out.below hb2)
 have HY3 := lh hy
 have HEY3 := lh hey
 have HLW2 : Hid (w.heap.size + 1 + 1 < w2.heap.size) := HS3.out.o.lt
 clear hy hey hb2 HS2 HI1 HJ1 HX2 HDX2 HR2 k0 k1 k2 k3
 obtain ⟨W, hW⟩ : ∃ W, (w2.alloc (.cells #[.bool s3, .slice A3 n3 c3] 25)).alloc (.cells #[.bool s4, .slice A4 n4 c4] 25) = W := ⟨_, rfl⟩
 have HV : Hid (Below w2.heap.size w2 W) := by rw [← hW]; exact ((bR _ _).alloc (lR _) _).alloc (by simp) _
 have HI4 : Hid (Ibx W w2.heap.size s3 A3 n3 c3) := by rw [← hW]; exact (Ibx.new' _ _ _ _ _ _ rfl).alloc _
 have HJ4 : Hid (Ibx W (w2.heap.size + 1) s4 A4 n4 c4) := by rw [← hW]; exact Ibx.new' _ _ _ _ _ _ (by simp)
 have HS := lh (HS3.out.below HV.out)
 have HD : Hid (D4 W w1.heap.size w2.heap.size s1 A1 n1 c1 s2 A2 n2 c2 s3 A3 n3 c3 s4 A4 n4 c4 x dx y ey k) := ⟨HI3.out.below HV.out, HJ3.out.below HV.out, HI4.out, HJ4.out, HX3.out.below HV.out, HDX3.out.below HV.out, HY3.out.below HV.out, HEY3.out.below HV.out⟩
 have HQP := lh hqp
 have HQR := lh hqr
 clear HS3 HI3 HJ3 HI4 HJ4 HX3 HDX3 HY3 HEY3 HV hqp hqr
 obtain ⟨N, hN⟩ : ∃ N, x * ey = N := ⟨_, rfl⟩
 obtain ⟨M, hM⟩ : ∃ M, y * dx = M := ⟨_, rfl⟩
 obtain ⟨U, hU⟩ : ∃ U, N + M = U := ⟨_, rfl⟩
 obtain ⟨E, hE⟩ : ∃ E, dx * ey = E := ⟨_, rfl⟩
 have hEp : 0 < E := by rw [← hE]; exact Int.mul_pos hdp hep
 have HE : Hid (Rat.divInt U E = q) := by
  show _ = _
  rw [← HQ.out, ← HQP.out, ← HQR.out, ← hU, ← hN, ← hM, ← hE]
  exact (Rat.divInt_add_divInt _ _ (by omega) (by omega)).symm
 have HNL : Hid (zl N ≤ 1400) := by show _ ≤ _; rw [← hN]; have h1 := zl_mul x ey; have h2 := HD.out.z1.zl; have h3 := HD.out.z4.zl; omega
 have HML : Hid (zl M ≤ 1400) := by show _ ≤ _; rw [← hM]; have h1 := zl_mul y dx; have h2 := HD.out.z3.zl; have h3 := HD.out.z2.zl; omega
 have HUL : Hid (zl U ≤ 3000) := by show _ ≤ _; rw [← hU]; have h1 := zl_add N M; have h2 := HNL.out; have h3 := HML.out; omega
 have HEL : Hid (zl E ≤ 3000) := by show _ ≤ _; rw [← hE]; have h1 := zl_mul dx ey; have h2 := HD.out.z2.zl; have h3 := HD.out.z4.zl; omega
 have HN := lh hN
 have HM := lh hM
 have HU := lh hU
 have HEE := lh hE
 clear hN hM hU hE
 go_upto_region 3 with fail
 clear hW
 go_region_held3 (fun V => V.cell? ⟨w1.heap.size, 0, none⟩ = some (.bool s1) ∧ V.cell? ⟨w1.heap.size, 1, none⟩ = some (.slice A1 n1 c1) ∧ V.cell? ⟨w1.heap.size + 1, 0, none⟩ = some (.bool s2) ∧ V.cell? ⟨w1.heap.size + 1, 1, none⟩ = some (.slice A2 n2 c2) ∧ V.cell? ⟨w2.heap.size, 0, none⟩ = some (.bool s3) ∧ V.cell? ⟨w2.heap.size, 1, none⟩ = some (.slice A3 n3 c3) ∧ V.cell? ⟨w2.heap.size + 1, 0, none⟩ = some (.bool s4) ∧ V.cell? ⟨w2.heap.size + 1, 1, none⟩ = some (.slice A4 n4 c4))
  (first | (with_reducible exact HD8.out.keep4 HLW.out HLW2.out) | (with_reducible exact HD8.out.keep) | (with_reducible exact HDb.out.keep) | (with_reducible exact HDa.out.keep) | (with_reducible exact HD6.out.keep) | (with_reducible exact HD5.out.keep) | (with_reducible exact HD.out.drew.keep))
  (first
  | (go_at_call 143; (refine (lowest_q (HUb.out.isz HUL.out) (HEb.out.isz HEL.out) (by omega) (by omega) hEp HE.out).mono ?_); rintro e w8 ⟨s8, A8, n8, c8, t8, B8, m8, d8, rfl, h8, hb8⟩; have HS8 := lh (HSb.out.below hb8); have HD8 := lh (HDb.out.below hb8); have HR8 := lh h8; have o0 := HS8.out.o.c0; have o1 := HS8.out.o.c1; have o2 := HS8.out.o.c2; have o3 := HS8.out.o.c3; have f0 := HS8.out.o.f 0; have f1 := HS8.out.o.f 1; have f2 := HS8.out.o.f 2; have f3 := HS8.out.o.f 3)
  | (go_at_call 145; (refine (mul_j HDa.out.z2 HDa.out.z4 (by omega) E HEE.out).mono ?_); rintro e wb ⟨sb, Ab, nb, cb, rfl, hb, hbb⟩; have HSb := lh (HSa.out.below hbb); have HDb := lh (HDa.out.below hbb); have HUb := lh (HUa.out.below hbb); have HEb := lh hb)
  | (go_at_call 144; (refine (add_j (HN6.out.isz HNL.out) (HM6.out.isz HML.out) (by omega) U HU.out).mono ?_); rintro e wa ⟨sa, Aa, na, ca, rfl, ha, hba⟩; have HSa := lh (HS6.out.below hba); have HDa := lh (HD6.out.below hba); have HUa := lh ha)
  | (go_at_call 145; (refine (mul_j HD5.out.z3 HD5.out.z2 (by omega) M HM.out).mono ?_); rintro e w6 ⟨s6, A6, n6, c6, rfl, h6, hb6⟩; have HS6 := lh (HS5.out.below hb6); have HD6 := lh (HD5.out.below hb6); have HN6 := lh (HN5.out.below hb6); have HM6 := lh h6)
  | (go_at_call 145; (refine (mul_j HD.out.drew.z1 HD.out.drew.z4 (by omega) N HN.out).mono ?_); rintro e w5 ⟨s5, A5, n5, c5, rfl, h5, hb5⟩; have HS5 := lh (HS.out.drew.below hb5); have HD5 := lh (HD.out.drew.below hb5); have HN5 := lh h5))
 all_goals
  go_wp2_with fail
  refine bodyPost_ret (v := .agg #[.bool s8, .slice A8 n8 c8, .bool t8, .slice B8 m8 d8]) (by simp [results, Tryz.results88, go_sem, o0, o1, o2, o3]) rfl ?_
  exact retq_put HR8.out HS8.out.o (by omega) HS8.out.bel
