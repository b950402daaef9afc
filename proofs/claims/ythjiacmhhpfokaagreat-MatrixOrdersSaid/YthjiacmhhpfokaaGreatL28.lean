/- Part 28 of the proof: VPutU. -/
import Derived.Test.YthjiacmhhpfokaaGreatL27
namespace Go.Proofs.YthjiacmhhpfokaaGreat
open Go.Proofs.Tryz renaming prog → tz
open Option.some renaming inj → oI
namespace V
open Go.RowKit
open Q (IsQ OneQ below_on ql Qbx qsign qsign_zero_iff)
structure OwnU (w : World) (base : Nat) (v : Value) (ts : List TV) : Prop where
 row : w.ownsRow base 67 5 v ts.length (flat ts)
 all : AllT w v
 some_ : ∃ A n c, v = .slice A n c
theorem OwnU.nil (w : World) (base : Nat) : OwnU w base (.slice none 0 0) [] := ⟨⟨rfl, .inl ⟨rfl, rfl⟩⟩, (fun _ h => by cases h), _, _, _, rfl⟩
set_option maxHeartbeats 1000000 in
theorem appU_at (w : World) (base : Nat) (ty : TypeId) (v : Value) (ts : List TV) (x : TV) (ad : Addr) (hown : OwnU w base v ts) (had : ∀ j u, x.enc[j]? = some u → w.cell? (ad.add j) = some u) (h : ts.length ≤ 10000000) (hbase : base ≤ w.heap.size) :
  ∃ v' w', (Builtin.append_ #[33, 33] ty #[v, .slice (some ad) 1 1]).run tz w = .ok v' w' ∧ OwnU w' base v' (ts ++ [x]) ∧ w.grownBy w' v.ownBlock ∧ (v'.ownBlock = v.ownBlock ∨ v'.ownBlock = some w.heap.size) := by
 obtain ⟨i, hi, hz, hs, hb⟩ := info_parts info_t
 obtain ⟨hown, hall, A0, n0, c0, hv0⟩ := hown
 have ho1 : ∀ u ∈ x.enc, u.oneCell' = true := by intro u hu; exact one_cell [x] u (by rw [flat_one]; exact hu)
 have under : Tryz.prog.underlying 33 = some (.slice 67) := by kernel_rfl
 obtain ⟨v', w', hr, ho, hg, hnn⟩ := run_append_own (P := tz) w base 33 ty 67 i zeroT 5 72 under hi hz hs hb rfl (by decide) v ts.length (flat ts) hown ad 1 1 x.enc rfl had ho1 (by unfold maxLen; omega) (by omega) hbase
 suffices hh : AllT w' v' ∧ (∃ A n c, v' = .slice A n c) ∧ (v'.ownBlock = v.ownBlock ∨ v'.ownBlock = some w.heap.size) from ⟨v', w', hr, ⟨by rw [List.length_append, flat_append, flat_one]; exact ho, hh.1, hh.2.1⟩, hg, hh.2.2⟩
 rcases hown.2 with ⟨rfl, h0⟩ | ⟨g, cap, cur, rfl, hbg, hgc, hnc, hcm, hcs, htake⟩
 ·have hS : _root_.Go.Src tz i.size 33 (.slice (some ad) 1 1) 1 x.enc w := _root_.Go.Src.ofSlice w under ad 1 1 x.enc (by rw [hs]; rfl) had ho1
  have hr2 := run_append_grow_src (P := tz) w 33 33 ty 67 i zeroT under hi hz none 0 0 [] (by rw [hs]; exact run_firstCells_none w.drew 5 0 0 0) (.slice (some ad) 1 1) 1 x.enc hS (by omega) (by omega)
   (growslice_fits_wide (by omega) (by rw [hb]; omega))
  obtain ⟨e1, e2⟩ := Result.ok.inj (hr.symm.trans hr2)
  refine ⟨?_, ⟨_, _, _, e1⟩, .inr (by rw [e1]; rfl)⟩
  intro g' hg2 j u hu
  rw [e1] at hg2
  obtain rfl : w.heap.size = g' := by injection hg2
  rw [e2] at hu
  have hu2 : (w.drew.alloc (.cells (([] ++ x.enc).toArray ++ Builtin.zeroCells zeroT.cells (grownCap w (0 + 1) 0 67 - (0 + 1))) 67)).cell? ⟨w.drew.heap.size, j, none⟩ = some u := hu
  rw [World.cell?_alloc_new] at hu2
  rcases Array.mem_append.1 (Array.mem_of_getElem? hu2) with hx | hx
  ·have hx2 := List.mem_toArray.1 hx
   rw [List.nil_append] at hx2
   exact flat_no [x] u (by rw [flat_one]; exact hx2)
  ·exact zero_t _ u hx
 ·have hcur : ∀ u ∈ cur.toList, ∀ z, u ≠ Value.int .u64 z := by
   intro u hu
   obtain ⟨j, hj, rfl⟩ := List.getElem_of_mem hu
   refine hall g rfl j _ ?_
   rw [cell_of_row w g j _ _ _ hgc]
   rw [Array.length_toList] at hj
   rw [Array.getElem?_eq_getElem hj]; rfl
  have hx5 : ∀ u ∈ x.enc, ∀ z, u ≠ Value.int .u64 z := by intro u hu; exact flat_no [x] u (by rw [flat_one]; exact hu)
  by_cases hroom : ts.length + 1 ≤ cap
  ·have hr2 := run_append_room (P := tz) w 33 ty 67 i under hi g ts.length cap cur hgc ad 1 1 x.enc (by rw [hs]; rfl) had ho1 hroom (by rw [hs, hcs, enc_len]; omega)
   obtain ⟨e1, e2⟩ := Result.ok.inj (hr.symm.trans hr2)
   refine ⟨?_, ⟨_, _, _, e1⟩, .inl (by rw [e1]; rfl)⟩
   intro g' hg2 j u hu
   rw [e1] at hg2
   obtain rfl : g = g' := by injection hg2
   rw [e2, cell_of_row _ g j _ _ _ (setRow_heap w g cur _ _ _ hgc)] at hu
   have hm := Array.mem_of_getElem? hu
   rcases List.mem_append.1 (List.mem_toArray.1 hm) with hm | hm
   ·rcases List.mem_append.1 hm with hm | hm
    ·exact hcur u (List.mem_of_mem_take hm)
    ·exact hx5 u hm
   ·exact hcur u (List.mem_of_mem_drop hm)
  ·have hr2 := run_append_grow (P := tz) w 33 ty 67 i zeroT under hi hz ⟨g, 0, none⟩ ts.length cap (flat ts) (by rw [hs, flat_len]) (fun j u hu => hown.cells (g := g) rfl j u hu) ad 1 1 x.enc (by rw [hs]; rfl) had (by omega) (by omega)
    (growslice_fits_wide (by omega) (by rw [hb]; omega))
   obtain ⟨e1, e2⟩ := Result.ok.inj (hr.symm.trans hr2)
   refine ⟨?_, ⟨_, _, _, e1⟩, .inr (by rw [e1]; rfl)⟩
   intro g' hg2 j u hu
   rw [e1] at hg2
   obtain rfl : w.heap.size = g' := by injection hg2
   rw [e2] at hu
   have hu2 : (w.drew.alloc (.cells ((flat ts).toArray ++ x.enc.toArray ++ Builtin.zeroCells zeroT.cells (grownCap w (ts.length + 1) cap 67 - (ts.length + 1))) 67)).cell? ⟨w.drew.heap.size, j, none⟩ = some u := hu
   rw [World.cell?_alloc_new] at hu2
   rcases Array.mem_append.1 (Array.mem_of_getElem? hu2) with hx | hx
   ·rcases Array.mem_append.1 hx with hx | hx
    ·exact flat_no ts u (List.mem_toArray.1 hx)
    ·exact hx5 u (List.mem_toArray.1 hx)
   ·exact zero_t _ u hx
structure OutU (wl wx : World) (gO r0 : Nat) (l : List (Int × Rat)) : Prop where
 near : Near (fun b => b = gO ∨ b = r0) wl wx
 ex : ∃ v zs, wx.heap[gO]? = some (.cells #[v] 33 (0, 0)) ∧ OwnU wx 0 v (zs.map Prod.fst) ∧ vals zs = l ∧ (∀ y ∈ zs, OneQ wx y.1.s y.1.A y.1.n y.1.c y.1.t y.1.B y.1.m y.1.d y.2 ∧ -9223372036854775808 ≤ y.1.at_ ∧ y.1.at_ ≤ 9223372036854775807) ∧ (v.ownBlock = some r0 ∨ (∃ g, v.ownBlock = some g ∧ wl.heap.size ≤ g) ∨ v.ownBlock = none)
theorem OwnU.keep {w w' : World} {base : Nat} {v : Value} {ts : List TV} (h : OwnU w base v ts) (hb : ∀ g, v.ownBlock = some g → w'.heap[g]? = w.heap[g]?) : OwnU w' base v ts := by
 refine ⟨⟨h.row.1, ?_⟩, fun g hg j u hu => h.all g hg j u ((World.cell?_of_block (a := ⟨g, j, none⟩) (hb g hg)).symm.trans hu), h.some_⟩
 rcases h.row.2 with hn | ⟨g, cap, cur, rfl, h1, h2, rest⟩
 ·exact .inl hn
 ·exact .inr ⟨g, cap, cur, rfl, h1, (hb g rfl).trans h2, rest⟩
theorem OwnU.lt {w : World} {base : Nat} {v : Value} {ts : List TV} (h : OwnU w base v ts) {g : Nat} (hg : v.ownBlock = some g) : g < w.heap.size := (h.row.lt g hg).2
theorem OutU.below {wl wx wy : World} {gO r0 : Nat} {l : List (Int × Rat)} (h : OutU wl wx gO r0 l) (hb : Below wx.heap.size wx wy) : OutU wl wy gO r0 l := by
 refine ⟨h.near.below hb, ?_⟩
 obtain ⟨v, zs, h1, h2, h3, h4, h5⟩ := h.ex
 exact ⟨v, zs, (hb.block gO (lt_of_block h1)).trans h1, h2.keep (fun g hg => hb.block g (h2.lt hg)), h3, fun y hy => ⟨(h4 y hy).1.below hb, (h4 y hy).2⟩, h5⟩
theorem OutU.put {wl W W3 : World} {gO r0 : Nat} {v v' : Value} {zs : List (TV × Rat)} {x : TV} {q : Rat} (near : Near (fun b => b = gO ∨ b = r0) wl W) (hgO : gO < wl.heap.size) (hne : gO ≠ r0)
  (h1 : W.heap[gO]? = some (.cells #[v] 33 (0, 0))) (h2 : OwnU W 0 v (zs.map Prod.fst)) (h4 : ∀ y ∈ zs, OneQ W y.1.s y.1.A y.1.n y.1.c y.1.t y.1.B y.1.m y.1.d y.2 ∧ -9223372036854775808 ≤ y.1.at_ ∧ y.1.at_ ≤ 9223372036854775807) (h5 : v.ownBlock = some r0 ∨ (∃ g, v.ownBlock = some g ∧ wl.heap.size ≤ g) ∨ v.ownBlock = none)
  (hx : OneQ W x.s x.A x.n x.c x.t x.B x.m x.d q) (hx2 : -9223372036854775808 ≤ x.at_ ∧ x.at_ ≤ 9223372036854775807)
  (g2 : OwnU W3 0 v' (zs.map Prod.fst ++ [x])) (gg : W.grownBy W3 v.ownBlock) (gb : v'.ownBlock = v.ownBlock ∨ v'.ownBlock = some W.heap.size) : OutU wl (W3.setCell ⟨gO, 0, none⟩ v') gO r0 (vals zs ++ [(x.at_, q)]) := by
 have hvO : some gO ≠ v.ownBlock := by
  rcases h5 with h | ⟨g, h, hg⟩ | h
  ·rw [h]; intro e; exact hne (oI e)
  ·rw [h]; intro e; have := oI e; omega
  ·rw [h]; intro e; cases e
 have hgW : gO < W.heap.size := lt_of_block h1
 have h31 : W3.heap[gO]? = some (.cells #[v] 33 (0, 0)) := (gg.block gO hgW hvO).trans h1
 have hv'O : ∀ g, v'.ownBlock = some g → g ≠ gO := by
  intro g hg e
  subst e
  rcases gb with h | h
  ·rw [h] at hg; exact hvO hg.symm
  ·rw [h] at hg; have := oI hg; omega
 have hbad : ∀ b, (b = gO ∨ some b = v.ownBlock) → ∀ j u, W.cell? ⟨b, j, none⟩ = some u → ∀ z, u ≠ .int .u64 z := by
  intro b hb j u hu
  rcases hb with rfl | hb
  ·rw [cell_of_row W b j _ _ _ h1] at hu
   obtain ⟨g, n, c, hv⟩ := h2.some_
   rcases j with _ | j
   ·have : v = u := by simpa using hu
    rw [← this, hv]
    intro z h; cases h
   ·rw [Array.getElem?_eq_none (by simp)] at hu; cases hu
  ·exact h2.all b hb.symm j u hu
 have hkeep : ∀ b, b < W.heap.size → ¬ (b = gO ∨ some b = v.ownBlock) → (W3.setCell ⟨gO, 0, none⟩ v').heap[b]? = W.heap[b]? := by
  intro b hb hn
  rw [Below.heap_setCell W3 ⟨gO, 0, none⟩ v' b (fun e => hn (.inl e))]
  exact gg.block b hb (fun e => hn (.inr e))
 have hsz : W.heap.size ≤ (W3.setCell ⟨gO, 0, none⟩ v').heap.size := by simpa [World.setCell] using gg.size
 refine ⟨⟨gg.os.trans near.os, gg.tape.trans near.tape, gg.output.trans near.output, Nat.le_trans near.size hsz, fun b hb hn => ?_⟩, v', zs ++ [(x, q)], heap_setCell_same W3 gO 0 _ _ _ h31, ?_, ?_, ?_, ?_⟩
 ·refine (hkeep b (Nat.lt_of_lt_of_le hb near.size) ?_).trans (near.block b hb hn)
  rintro (e | e)
  ·exact hn (.inl e)
  ·rcases h5 with h | ⟨g, h, hg⟩ | h
   ·rw [h] at e; exact hn (.inr (oI e))
   ·rw [h] at e; have := oI e; omega
   ·rw [h] at e; cases e
 ·rw [List.map_append]
  exact g2.keep (fun g hg => Below.heap_setCell W3 ⟨gO, 0, none⟩ v' g (hv'O g hg))
 ·unfold vals; rw [List.map_append]; rfl
 ·intro y hy
  rcases List.mem_append.1 hy with hy | hy
  ·exact ⟨one_apart (h4 y hy).1 _ hbad hsz hkeep, (h4 y hy).2⟩
  ·rw [List.mem_singleton.1 hy]
   exact ⟨one_apart hx _ hbad hsz hkeep, hx2⟩
 ·rcases gb with h | h
  ·rw [h]; exact h5
  ·exact .inr (.inl ⟨_, h, near.size⟩)
