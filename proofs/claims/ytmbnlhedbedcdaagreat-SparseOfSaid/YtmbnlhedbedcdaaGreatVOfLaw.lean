/- SparseOf, walked. -/
import Derived.Test.YtmbnlhedbedcdaaGreatVRput
import Derived.Test.YtmbnlhedbedcdaaGreatVKit
namespace Go.Proofs.YtmbnlhedbedcdaaGreat.V
open Go.RowKit
open Go.Proofs.YtmbnlhedbedcdaaGreat.Q (IsQ OneQ RetQ below_on ql Qbx)
theorem cf_right {w : World} {A : Option Addr} {n c : Nat} {F : Int → Rat} {N : Int} (h : CF w A n c F) (hF : ∀ a, F a ≠ 0 → 0 ≤ a ∧ a < N) : ∃ ys, IsV w A n c ys 700 ∧ RightV w N ys := by
 obtain ⟨ys, h1, h2, h3⟩ := h.ex
 have hm : ∀ (j : Nat) (y : TV × Rat), ys[j]? = some y → (vals ys)[j]? = some (y.1.at_, y.2) := fun j y hy => by unfold vals; rw [List.getElem?_map, hy]; rfl
 refine ⟨ys, h1, fun j y hy => ?_⟩
 have h4 := List.mem_of_getElem? (hm j y hy)
 have h5 : y.2 ≠ 0 := h2.1.nz _ h4
 have h6 : F y.1.at_ ≠ 0 := by rw [← h2.2, canon_mem h2.1 h4]; exact h5
 refine ⟨(hF _ h6).1, (hF _ h6).2, fun z hj hz => ?_, h5, h3 y (List.mem_of_getElem? hy)⟩
 obtain ⟨g1, e1⟩ := List.getElem?_eq_some_iff.1 (hm (j - 1) z hz)
 obtain ⟨g2, e2⟩ := List.getElem?_eq_some_iff.1 (hm j y hy)
 have h7 := (List.pairwise_iff_getElem.1 h2.1.up) (j - 1) j g1 g2 (by omega)
 rw [e1, e2] at h7
 exact h7
theorem IsL.tot_at {w : World} {A : Option Addr} {n c k : Nat} {ys : List (TV × Rat)} (h : IsL w A n c ys k) {i : Nat} {y : TV × Rat} (hy : ys[i]? = some y) : tot (vals ys) (i : Int) = y.2 := by
 have h1 : (vals ys)[i]? = some ((i : Int), y.2) := by
  unfold vals
  rw [List.getElem?_map, hy]
  show some (y.1.at_, y.2) = _
  rw [h.at_ i y hy]
 have h2 : ∀ (l : List (Int × Rat)) (x : Int × Rat), l.Pairwise (fun x y => x.1 < y.1) → x ∈ l → tot l x.1 = x.2 := by
  intro l
  induction l with
  | nil => intro x _ hx; cases hx
  | cons z l ih =>
   intro x hp hx
   obtain ⟨p1, p2⟩ := List.pairwise_cons.1 hp
   obtain ⟨zp, zq⟩ := z
   rw [tot_cons]
   rcases List.mem_cons.1 hx with rfl | hx
   ·rw [if_pos rfl, tot_none (fun u hu => by have := p1 u hu; simp only at this ⊢; omega)]; grind
   ·have := p1 x hx
    simp only at this
    rw [if_neg (by omega), ih x p2 hx]; grind
 exact h2 _ _ h.up (List.mem_of_getElem? h1)
theorem IsL.range {w : World} {A : Option Addr} {n c k : Nat} {ys : List (TV × Rat)} (h : IsL w A n c ys k) (a : Int) (ha : tot (vals ys) a ≠ 0) : 0 ≤ a ∧ a < (n : Int) := by
 obtain ⟨x, hx, rfl⟩ := tot_in ha
 obtain ⟨y, hy, rfl⟩ := List.mem_map.1 hx
 obtain ⟨j, hj⟩ := List.getElem?_of_mem hy
 have h1 := h.at_ j y hj
 have h2 := (List.getElem?_eq_some_iff.1 hj).1
 have := h.en
 show 0 ≤ y.1.at_ ∧ y.1.at_ < _
 omega
theorem dense_c {w : World} {A : Option Addr} {n c : Nat} {F : Int → Rat} (h : VF w A n c F) (p : Int) (N : Nat) (hN : min (max p 0) 65536 = (N : Int)) : Calls Tryz.prog 35 #[.slice A n c, .int .i64 p] w (RetD w N (fun i => F (i : Int))) := by
 obtain ⟨ys, h1, h2, h3⟩ := h.ex
 refine (dense_v h1 (Nat.le_refl _) (Nat.le_trans h.len (by omega)) h2 p N hN).mono fun e w' g => ?_
 rw [h3] at g
 exact g
open List renaming getElem_toArray → gT, getElem_cons_zero → gZ, getElem_cons_succ → gS, setIfInBounds_toArray → sT, set_cons_zero → sZ, set_cons_succ → sS
theorem tkO {P : Program} {ops : Array Oper} {Q : Exit → Act → World → Prop} {md : Region.Mode} {S : World → Prop} (i : Nat) {oi : Oper} {v : Value} {fuel : Nat} {listed : Array Bool} {a : Act} {w : World} (h : wpAnyH P md ops Q S fuel (listed.setIfInBounds i true) (a.put oi.dst v) w) (hi : ops[i]? = some oi := by exact rfl) (hs : Region.noSelect ops = true := by kernel_rfl) (hf : Region.free md ops listed i = true := by kernel_rfl) (hr : (Region.ready md ops listed).contains i = true := by kernel_rfl) (hQ : ∀ c a w, Q (.panic c) (a.put oi.dst v) w → Q (.panic c) a w := by exact fun _ _ _ h => h) (hw : Region.wanted oi (yielded ops a.tmps) = true := by rfl) (hy : ∀ w, S w → (execOp a.eval oi).run P w = .ok (.value v) w := by (intro w hSw; (try dsimp only at hSw); try simp only [gT, gZ, gS]; go_simp; (try with_reducible rfl))) (hS : S w := by assumption) : wpAnyH P md ops Q S (fuel + 1) listed a w :=
 wpAnyH_take hi hs hf hr hQ (Or.inl ⟨hw, hy⟩) hS h
theorem r1O {P : Program} {ops : Array Oper} {Q : Exit → Act → World → Prop} {md : Region.Mode} {S : World → Prop} (i : Nat) {o : Oper} {fuel : Nat} {listed : Array Bool} {a : Act} {w : World} (h : ∀ K' : Act → World → Prop, Shut (∀ a w, S w → (S w → wpAnyH P md ops Q S fuel (listed.setIfInBounds i true) a w) → K' a w) → if Region.wanted o (yielded ops a.tmps) = true then Oper.wp P o a w K' Q else K' (a.put o.dst undef) w) (ho : ops[i]? = some o := by exact rfl) (hr : Region.ready md ops listed = [i] := by kernel_rfl) : wpAnyH P md ops Q S (fuel + 1) listed a w :=
 wpAnyH_ready hr (by simp) (AllReadyH.cons ho h AllReadyH.nil)
set_option maxRecDepth 100000 in
set_option maxHeartbeats 8000000 in
theorem of_walk (w : World) (A : Option Addr) (n c k : Nat) (ys : List (TV × Rat)) (h : IsL w A n c ys k) : Calls Tryz.prog 4 #[.slice A n c] w (RetB w true) := by
 obtain ⟨vx, hvx⟩ := iff_dec (ShortAll ys 30 4)
 have HVX := Lib.hid hvx
 have HL := Lib.hid h
 have HB := Lib.hid (Below.refl w.heap.size w)
 clear hvx h
 go_enter Tryz.func4, Tryz.ntmps4
 go_wp2_with fail
 refine (shortrats_any HL.out 30 4 (by omega) vx HVX.out).mono ?_
 rintro e w1 ⟨rfl, hbx⟩
 replace HB := Lib.hid (below_on HB.out hbx)
 replace HL := Lib.hid (HL.out.below hbx)
 clear hbx
 cases vx with
 | false =>
  go_wp2_with fail
  refine (awake_v _).mono ?_
  rintro e w2 ⟨rfl, hbx⟩
  replace HB := Lib.hid (below_on HB.out hbx)
  clear hbx
  go_wp2_with fail
  go_ret
  exact ⟨rfl, HB.out⟩
 | true =>
  have hs := HVX.out.mp (by trivial)
  have HN : Hid (n ≤ 30) := by have h1 := hs.1; rw [← HL.out.en] at h1; exact h1
  replace HL := Lib.hid (HL.out.short hs)
  obtain ⟨F, hF⟩ : ∃ F, tot (vals ys) = F := ⟨_, rfl⟩
  have FN : Hid (Fn 121 125 30 F) := by rw [← hF]; exact HL.out.fn (by omega) hs.1 (by omega)
  have HR : Hid (∀ a, F a ≠ 0 → 0 ≤ a ∧ a < (n : Int)) := by rw [← hF]; exact HL.out.range
  have HF := Lib.hid hF
  clear hs HVX hF
  go_wp2_with fail
  refine (of_c HL.out (by omega) (by omega) (Nat.le_trans HN.out (by omega)) (by rw [HF.out]; exact FN.out) (by omega) (by omega)).mono ?_
  rw [HF.out]
  rintro e w2 ⟨A2, n2, c2, rfl, hc, hbx⟩
  replace HB := Lib.hid (below_on HB.out hbx)
  replace HL := Lib.hid (HL.out.below hbx)
  have HC := Lib.hid hc
  clear hc hbx
  have hmin : min (max (n : Int) 0) 65536 = ((n : Nat) : Int) := by have := HN.out; omega
  have HMIN := Lib.hid hmin
  clear hmin
  go_wp2_with fail
  refine (dense_c (HC.out.vf FN.out (by omega) (by omega) (by omega)) n n HMIN.out).mono ?_
  rintro e w3 ⟨r, rfl, _, hd, hbx⟩
  replace HB := Lib.hid (below_on HB.out hbx)
  replace HL := Lib.hid (HL.out.below hbx)
  replace HC := Lib.hid (HC.out.below hbx)
  have HD := Lib.hid hd
  clear hd hbx
  go_wp2_with fail
  refine (rof_c HL.out (by omega) (by omega) (Nat.le_trans HN.out (by omega)) (by rw [HF.out]; exact FN.out) (by omega) (by omega)).mono ?_
  rw [HF.out]
  rintro e w4 ⟨A4, n4, c4, rfl, hc, hbx⟩
  replace HB := Lib.hid (below_on HB.out hbx)
  replace HL := Lib.hid (HL.out.below hbx)
  replace HC := Lib.hid (HC.out.below hbx)
  replace HD := Lib.hid (HD.out.below hbx)
  have HC4 := Lib.hid hc
  clear hc hbx
  go_wp2_with fail
  refine (samevec_e HC.out HC4.out FN.out (by omega) rfl).mono ?_
  rintro e w5 ⟨rfl, hbx⟩
  replace HB := Lib.hid (below_on HB.out hbx)
  replace HL := Lib.hid (HL.out.below hbx)
  replace HC := Lib.hid (HC.out.below hbx)
  replace HD := Lib.hid (HD.out.below hbx)
  clear hbx HC4
  obtain ⟨zs, hz1, hz2⟩ := cf_right HC.out HR.out
  have HZ1 := Lib.hid hz1
  have HZ2 := Lib.hid hz2
  have HCL : Hid (n2 ≤ 1000000) := CF.le HC.out FN.out (by omega)
  clear hz1 hz2
  go_wp2_with fail
  refine (right_any HZ1.out (by omega) (by omega) HCL.out n).mono ?_
  rintro e w6 hh
  obtain ⟨rfl, hbx⟩ := retr_is (b := true) hh ⟨fun _ => HZ2.out, fun _ => rfl⟩
  replace HB := Lib.hid (below_on HB.out hbx)
  replace HL := Lib.hid (HL.out.below hbx)
  replace HD := Lib.hid (HD.out.below hbx)
  clear hbx hh HZ1 HZ2 HC HCL
  go_wp2_with fail
  have HB0 := Lib.hid (Below.refl w6.heap.size w6)
  go_loopw [5] (fun iv wr => ∃ i : Nat, i ≤ n ∧ iv = .int .i64 (i : Int) ∧ Hid (Below w6.heap.size w6 wr)) (fun iv _ => n - (intOf iv).toNat)
  case atStart => exact ⟨0, Nat.zero_le _, rfl, HB0⟩
  case round =>
   clear HB0
   obtain ⟨i, hi, rfl, HB0⟩ := hrel
   by_cases hlt : i < n
   ·have hi1 : (i : Int) < (n : Int) := by omega
    have hi0 : (0 : Int) ≤ (i : Int) := by omega
    have hwi : IntKind.i64.wrap ((i : Int) + 1) = (i : Int) + 1 := by have := HN.out; rw [IntKind.wrap_i64]; omega
    obtain ⟨y, hy⟩ : ∃ y, ys[i]? = some y := ⟨ys[i]'(by have := HL.out.en; omega), List.getElem?_eq_getElem (by have := HL.out.en; omega)⟩
    obtain ⟨b1, off, hA, c0, c1, c2', c3⟩ := HL.out.get hy
    have hlt1 : b1 < w6.heap.size := World.block_lt_of_cell? w6 ⟨b1, off + i * 4, none⟩ c0
    have HQ : Hid (IsQ w6 y.1.s y.1.A y.1.n y.1.c y.1.t y.1.B y.1.m y.1.d y.2 4) := HL.out.tq y (List.mem_of_getElem? hy)
    have HV : Hid (F (i : Int) = y.2) := by rw [← HF.out]; exact HL.out.tot_at hy
    obtain ⟨cur, r1, r2, r3⟩ := HD.out
    obtain ⟨ds, dA, dn, dc, dt, dB, dm, dd, a0, a1, a2, a3, hone⟩ := r3 i hlt
    have hltr : r < w6.heap.size := lt_of_block r1
    have e0 : w6.cell? ⟨r, i * 4, none⟩ = some (.bool ds) := (cell_of_row _ _ _ _ _ _ r1).trans a0
    have e1 : w6.cell? ⟨r, i * 4 + 1, none⟩ = some (.slice dA dn dc) := (cell_of_row _ _ _ _ _ _ r1).trans a1
    have e2 : w6.cell? ⟨r, i * 4 + 2, none⟩ = some (.bool dt) := (cell_of_row _ _ _ _ _ _ r1).trans a2
    have e3 : w6.cell? ⟨r, i * 4 + 3, none⟩ = some (.slice dB dm dd) := (cell_of_row _ _ _ _ _ _ r1).trans a3
    obtain ⟨dx, hdx⟩ : ∃ x : TV, (⟨0, ds, dA, dn, dc, dt, dB, dm, dd⟩ : TV) = x := ⟨_, rfl⟩
    obtain ⟨y1, q⟩ := y
    have HO : Hid (OneQ w6 dx.s dx.A dx.n dx.c dx.t dx.B dx.m dx.d (F (i : Int))) := by rw [← hdx]; exact hone
    have HK : Hid (∀ V, Below w6.heap.size w6 V → V.cell? ⟨r, i * 4, none⟩ = some (.bool dx.s) ∧ V.cell? ⟨r, i * 4 + 1, none⟩ = some (.slice dx.A dx.n dx.c) ∧ V.cell? ⟨r, i * 4 + 2, none⟩ = some (.bool dx.t) ∧ V.cell? ⟨r, i * 4 + 3, none⟩ = some (.slice dx.B dx.m dx.d) ∧ V.cell? ⟨b1, off + i * 4, none⟩ = some (.bool y1.s) ∧ V.cell? ⟨b1, off + i * 4 + 1, none⟩ = some (.slice y1.A y1.n y1.c) ∧ V.cell? ⟨b1, off + i * 4 + 2, none⟩ = some (.bool y1.t) ∧ V.cell? ⟨b1, off + i * 4 + 3, none⟩ = some (.slice y1.B y1.m y1.d)) := by
     intro V hV
     rw [← hdx]
     exact ⟨(hV.cell (p := ⟨r, i * 4, none⟩) hltr).trans e0, (hV.cell (p := ⟨r, i * 4 + 1, none⟩) hltr).trans e1, (hV.cell (p := ⟨r, i * 4 + 2, none⟩) hltr).trans e2, (hV.cell (p := ⟨r, i * 4 + 3, none⟩) hltr).trans e3, (hV.cell (p := ⟨b1, off + i * 4, none⟩) hlt1).trans c0, (hV.cell (p := ⟨b1, off + i * 4 + 1, none⟩) hlt1).trans c1, (hV.cell (p := ⟨b1, off + i * 4 + 2, none⟩) hlt1).trans c2', (hV.cell (p := ⟨b1, off + i * 4 + 3, none⟩) hlt1).trans c3⟩
    subst hA
    clear hy c0 c1 c2' c3 hlt1 r1 r2 r3 a0 a1 a2 a3 hone hltr e0 e1 e2 e3 hdx
    go_upto_region 10 with fail
    replace HB0 := Lib.hid HB0.out.drew
    refine wp_region_held_drew (S := (fun V => V.cell? ⟨r, i * 4, none⟩ = some (.bool dx.s) ∧ V.cell? ⟨r, i * 4 + 1, none⟩ = some (.slice dx.A dx.n dx.c) ∧ V.cell? ⟨r, i * 4 + 2, none⟩ = some (.bool dx.t) ∧ V.cell? ⟨r, i * 4 + 3, none⟩ = some (.slice dx.B dx.m dx.d) ∧ V.cell? ⟨b1, off + i * 4, none⟩ = some (.bool y1.s) ∧ V.cell? ⟨b1, off + i * 4 + 1, none⟩ = some (.slice y1.A y1.n y1.c) ∧ V.cell? ⟨b1, off + i * 4 + 2, none⟩ = some (.bool y1.t) ∧ V.cell? ⟨b1, off + i * 4 + 3, none⟩ = some (.slice y1.B y1.m y1.d))) (by kernel_rfl) (by with_reducible exact HK.out _ HB0.out) (fun hHeld => ?_)
    refine' tkO 0 ?_
    try simp only [gT, gZ]
    try simp only [Act.put, sT, sZ, sS]
    refine' tkO 1 ?_
    try simp only [gT, gZ, gS]
    try simp only [Act.put, sT, sZ, sS]
    refine' tkO 2 ?_
    try simp only [gT, gZ, gS]
    try simp only [Act.put, sT, sZ, sS]
    refine' tkO 3 ?_
    try simp only [gT, gZ, gS]
    try simp only [Act.put, sT, sZ, sS]
    refine' tkO 4 ?_
    try simp only [gT, gZ, gS]
    try simp only [Act.put, sT, sZ, sS]
    refine' tkO 5 ?_
    try simp only [gT, gZ, gS]
    try simp only [Act.put, sT, sZ, sS]
    refine' tkO 6 ?_
    try simp only [gT, gZ, gS]
    try simp only [Act.put, sT, sZ, sS]
    refine' tkO 7 ?_
    try simp only [gT, gZ, gS]
    try simp only [Act.put, sT, sZ, sS]
    refine r1O 8 (fun K hK => ?_)
    try simp only [gT, gZ, gS]
    go_simp
    with_reducible refine (Q.norm_q (HQ.out.below HB0.out) (by omega) (by omega)).mono ?_
    rintro e w8 ⟨s8, A8, n8, c8, t8, B8, m8, d8, rfl, ho, hbx⟩
    replace HB0 := Lib.hid (below_on HB0.out hbx)
    refine hK.out _ _ (by with_reducible exact HK.out _ HB0.out) (fun hHeld => ?_)
    clear hK K
    try simp only [Act.put, sT, sZ, sS]
    have HN8 := Lib.hid ho
    clear ho hbx
    refine r1O 9 (fun K hK => ?_)
    try simp only [gT, gZ, gS]
    go_simp
    with_reducible refine (Q.rat_t (HO.out.below HB0.out) HN8.out (Nat.le_trans ((FN.out.nm i).ql (k := 200) (by omega) (by omega)) (by omega)) HV.out).mono ?_
    rintro e w9 ⟨rfl, hbx⟩
    replace HB0 := Lib.hid (below_on HB0.out hbx)
    replace HN8 := Lib.hid (HN8.out.below hbx)
    refine hK.out _ _ (by with_reducible exact HK.out _ HB0.out) (fun hHeld => ?_)
    clear hK K
    try simp only [Act.put, sT, sZ, sS]
    clear hbx
    refine' tkO 10 ?_
    try simp only [gT, gZ, gS]
    try simp only [Act.put, sT, sZ, sS]
    refine wpAnyH_done (by kernel_rfl) ?_ _
    go_wp2_with fail
    go_roundw
    case rel => exact ⟨i + 1, by omega, by go_num, HB0⟩
    case measure => (simp [intOf]; omega)
   ·have hi1 : ¬ (i : Int) < (n : Int) := by omega
    go_wp2_with fail
    refine (awake_v _).mono ?_
    rintro e w9 ⟨rfl, hbx⟩
    replace HB := Lib.hid (below_on HB.out (below_on HB0.out hbx))
    clear hbx
    go_wp2_with fail
    go_ret
    exact ⟨rfl, HB.out⟩
end Go.Proofs.YtmbnlhedbedcdaaGreat.V