/- Part 27 of the proof: WAdd, WSums, WholeJ, WholeL0, WSmall, WDm0. -/
import Derived.Test.YthjiacmhhpfokaaGreatK26
namespace Go.Proofs.YthjiacmhhpfokaaGreat
open Lib renaming hid → lh
open Go.Proofs.Tryz renaming prog → tz
open Nat renaming le_refl → lR, le_trans → lT
open Go.RowKit.Below renaming refl → bR
namespace W
open Go.RowKit
theorem retz_at {P : Program} {f : FuncId} {args : Array Value} {w W1 w3 : World} {g : Nat} {r : Int} (h : Calls P f args w3 (RetZ w3 r)) (hI : Ibx W1 g false none 0 0) (hW : Below w.heap.size w W1) (hb3 : Below W1.heap.size W1 w3) :
  Calls P f args w3 fun e w4 => ∃ A4 c4, e = .returned (.agg #[.bool (zneg r), .slice A4 (dig r.natAbs).length c4]) ∧ (dig r.natAbs).length ≤ c4 ∧ Num w4 A4 (dig r.natAbs) ∧ Ibx w4 g false none 0 0 ∧ Below w.heap.size w w4 ∧ Below w3.heap.size w3 w4 := by
 refine h.mono ?_
 rintro e w4 ⟨A4, c4, rfl, hc4, h4, hb4⟩
 have h3 := hW.trans (hb3.mono hW.size)
 exact ⟨A4, c4, rfl, hc4, h4, (hI.below hb3).below hb4, h3.trans (hb4.mono h3.size), hb4⟩
set_option maxHeartbeats 8000000 in
theorem add_any (w : World) (s t : Bool) (A B : Option Addr) (c d : Nat) (xs ys : List Nat) (y z : Int) (ha : Num w A xs) (hb : Num w B ys) (hx : zv s (val xs) = y) (hy : zv t (val ys) = z) (hn : xs.length ≤ 7000) (hm : ys.length ≤ 7000) (r : Int) (hr : y + z = r) :
  Calls tz 144 #[.agg #[.bool s, .slice A xs.length c], .agg #[.bool t, .slice B ys.length d]] w (RetZ w r) := by
 have hl1 : (dig y.natAbs).length ≤ 7000 := by
  rw [← hx, zv_natAbs]; exact lT (dig_length_val ha.1) hn
 have hl2 : (dig z.natAbs).length ≤ 7000 := by
  rw [← hy, zv_natAbs]; exact lT (dig_length_val hb.1) hm
 have HR := lh hr
 have HA := lh ha
 have HB := lh hb
 have HNM := lh (fun W h => norm_any W s A c xs y h hx (by omega) y rfl)
 have HNM2 := lh (fun W h => norm_any W t B d ys z h hy (by omega) z rfl)
 have HC0 := lh ((C4.base w (.bool s) (.slice A xs.length c) (.bool t) (.slice B ys.length d) 25 25).alloc (.cells #[.bool false, .slice none 0 0] 25))
 have HIa := lh (show Ibx (((w.alloc (.cells #[.bool s, .slice A xs.length c] 25)).alloc (.cells #[.bool t, .slice B ys.length d] 25)).alloc (.cells #[.bool false, .slice none 0 0] 25)) w.heap.size s A xs.length c from ((Ibx.new' _ _ _ _ _ _ rfl).alloc _).alloc _)
 have HIb := lh (show Ibx (((w.alloc (.cells #[.bool s, .slice A xs.length c] 25)).alloc (.cells #[.bool t, .slice B ys.length d] 25)).alloc (.cells #[.bool false, .slice none 0 0] 25)) (w.heap.size + 1) t B ys.length d from (Ibx.new' _ _ _ _ _ _ (by simp)).alloc _)
 have HIr := lh (show Ibx (((w.alloc (.cells #[.bool s, .slice A xs.length c] 25)).alloc (.cells #[.bool t, .slice B ys.length d] 25)).alloc (.cells #[.bool false, .slice none 0 0] 25)) (w.heap.size + 1 + 1) false none 0 0 from Ibx.new' _ _ _ _ _ _ (by simp))
 have HW := lh (show Below w.heap.size w (((w.alloc (.cells #[.bool s, .slice A xs.length c] 25)).alloc (.cells #[.bool t, .slice B ys.length d] 25)).alloc (.cells #[.bool false, .slice none 0 0] 25)) from (((bR _ _).alloc (lR _) _).alloc (by simp) _).alloc (by simp; omega) _)
 have HNa := lh (show Num (((w.alloc (.cells #[.bool s, .slice A xs.length c] 25)).alloc (.cells #[.bool t, .slice B ys.length d] 25)).alloc (.cells #[.bool false, .slice none 0 0] 25)) A xs from ((ha.alloc _).alloc _).alloc _)
 have HNb := lh (show Num (((w.alloc (.cells #[.bool s, .slice A xs.length c] 25)).alloc (.cells #[.bool t, .slice B ys.length d] 25)).alloc (.cells #[.bool false, .slice none 0 0] 25)) B ys from ((hb.alloc _).alloc _).alloc _)
 obtain ⟨k0, k1, k2, k3⟩ := HC0.out
 have fa0 := HIa.out.f 0
 have fa1 := HIa.out.f 1
 clear ha hb hx hy hr
 go_enter Tryz.func144, Tryz.ntmps144
 go_upto_region 1 with fail
 go_cut [4] (fun s4 wx => s4 = .pointer (some ⟨w.heap.size + 1 + 1, 0, none⟩) ∧ ∃ (A1 : Option Addr) (c1 : Nat), (dig y.natAbs).length ≤ c1 ∧ Num wx A1 (dig y.natAbs) ∧ Num wx B ys ∧ Ibx wx w.heap.size (zneg y) A1 (dig y.natAbs).length c1 ∧ Ibx wx (w.heap.size + 1) t B ys.length d ∧ Ibx wx (w.heap.size + 1 + 1) false none 0 0 ∧ Below w.heap.size w wx)
 case first =>
  go_wp2_with fail
  refine (HNM.out _ HNa.out).mono ?_
  rintro e w4 ⟨A1, c1, rfl, hc1, h4, hb4⟩
  have Ia := HIa.out.below hb4
  have Ib := HIb.out.below hb4
  have Ir := HIr.out.below hb4
  have Nb := HNb.out.below hb4
  have W4 := HW.out.trans (hb4.mono HW.out.size)
  have f0 := Ia.f 0
  have f1 := Ia.f 1
  have g0 := Ia.c0
  have g1 := Ia.c1
  have HH : Hid ((dig y.natAbs).length ≤ c1 ∧ Num ((w4.setCell ⟨w.heap.size, 0, none⟩ (.bool (zneg y))).setCell ⟨w.heap.size, 1, none⟩ (.slice A1 (dig y.natAbs).length c1)) A1 (dig y.natAbs) ∧ Num ((w4.setCell ⟨w.heap.size, 0, none⟩ (.bool (zneg y))).setCell ⟨w.heap.size, 1, none⟩ (.slice A1 (dig y.natAbs).length c1)) B ys ∧ Ibx ((w4.setCell ⟨w.heap.size, 0, none⟩ (.bool (zneg y))).setCell ⟨w.heap.size, 1, none⟩ (.slice A1 (dig y.natAbs).length c1)) w.heap.size (zneg y) A1 (dig y.natAbs).length c1 ∧ Ibx ((w4.setCell ⟨w.heap.size, 0, none⟩ (.bool (zneg y))).setCell ⟨w.heap.size, 1, none⟩ (.slice A1 (dig y.natAbs).length c1)) (w.heap.size + 1) t B ys.length d ∧ Ibx ((w4.setCell ⟨w.heap.size, 0, none⟩ (.bool (zneg y))).setCell ⟨w.heap.size, 1, none⟩ (.slice A1 (dig y.natAbs).length c1)) (w.heap.size + 1 + 1) false none 0 0 ∧ Below w.heap.size w ((w4.setCell ⟨w.heap.size, 0, none⟩ (.bool (zneg y))).setCell ⟨w.heap.size, 1, none⟩ (.slice A1 (dig y.natAbs).length c1))) := ⟨hc1, h4.two Ia _ _, Nb.two Ia _ _, Ia.two _ _ _ _, (Ib.far (by simp) _).far (by simp) _, (Ir.far (by simp; omega) _).far (by simp; omega) _, (W4.setCell (lR _) _).setCell (lR _) _⟩
  clear Ia Ib Ir Nb W4 h4 hb4
  go_wp2_with fail
  go_meet
  exact ⟨rfl, A1, c1, HH.out⟩
 case rest =>
  obtain ⟨rfl, A1, c1, hc1, hN1, hNb, hIa, hIb, hIr, hW⟩ := hcut
  have HN1 := lh hN1
  have HNb' := lh hNb
  have HIa' := lh hIa
  have HIb' := lh hIb
  have HIr' := lh hIr
  have HW' := lh hW
  have e2 := hIb.c0
  have e3 := hIb.c1
  have fb0 := hIb.f 0
  have fb1 := hIb.f 1
  clear hN1 hNb hIa hIb hIr hW k0 k1 k2 k3 fa0 fa1 HIa HIb HIr HW HNa HNb HC0 HA HB HNM
  go_upto_region 2 with fail
  go_cut [4] (fun s4 wx => s4 = .pointer (some ⟨w.heap.size + 1 + 1, 0, none⟩) ∧ ∃ (A2 : Option Addr) (c2 : Nat), (dig z.natAbs).length ≤ c2 ∧ Num wx A1 (dig y.natAbs) ∧ Num wx A2 (dig z.natAbs) ∧ Ibx wx w.heap.size (zneg y) A1 (dig y.natAbs).length c1 ∧ Ibx wx (w.heap.size + 1) (zneg z) A2 (dig z.natAbs).length c2 ∧ Ibx wx (w.heap.size + 1 + 1) false none 0 0 ∧ Below w.heap.size w wx)
  case first =>
   go_wp2_with fail
   refine (HNM2.out _ HNb'.out).mono ?_
   rintro e w4 ⟨A2, c2, rfl, hc2, h4, hb4⟩
   have Ia := HIa'.out.below hb4
   have Ib := HIb'.out.below hb4
   have Ir := HIr'.out.below hb4
   have N1 := HN1.out.below hb4
   have W4 := HW'.out.trans (hb4.mono HW'.out.size)
   have f0 := Ib.f 0
   have f1 := Ib.f 1
   have g0 := Ib.c0
   have g1 := Ib.c1
   have HH : Hid ((dig z.natAbs).length ≤ c2 ∧ Num ((w4.setCell ⟨w.heap.size + 1, 0, none⟩ (.bool (zneg z))).setCell ⟨w.heap.size + 1, 1, none⟩ (.slice A2 (dig z.natAbs).length c2)) A1 (dig y.natAbs) ∧ Num ((w4.setCell ⟨w.heap.size + 1, 0, none⟩ (.bool (zneg z))).setCell ⟨w.heap.size + 1, 1, none⟩ (.slice A2 (dig z.natAbs).length c2)) A2 (dig z.natAbs) ∧ Ibx ((w4.setCell ⟨w.heap.size + 1, 0, none⟩ (.bool (zneg z))).setCell ⟨w.heap.size + 1, 1, none⟩ (.slice A2 (dig z.natAbs).length c2)) w.heap.size (zneg y) A1 (dig y.natAbs).length c1 ∧ Ibx ((w4.setCell ⟨w.heap.size + 1, 0, none⟩ (.bool (zneg z))).setCell ⟨w.heap.size + 1, 1, none⟩ (.slice A2 (dig z.natAbs).length c2)) (w.heap.size + 1) (zneg z) A2 (dig z.natAbs).length c2 ∧ Ibx ((w4.setCell ⟨w.heap.size + 1, 0, none⟩ (.bool (zneg z))).setCell ⟨w.heap.size + 1, 1, none⟩ (.slice A2 (dig z.natAbs).length c2)) (w.heap.size + 1 + 1) false none 0 0 ∧ Below w.heap.size w ((w4.setCell ⟨w.heap.size + 1, 0, none⟩ (.bool (zneg z))).setCell ⟨w.heap.size + 1, 1, none⟩ (.slice A2 (dig z.natAbs).length c2))) := ⟨hc2, N1.two Ib _ _, h4.two Ib _ _, (Ia.far (by simp) _).far (by simp) _, Ib.two _ _ _ _, (Ir.far (by simp) _).far (by simp) _, (W4.setCell (by simp) _).setCell (by simp) _⟩
   clear Ia Ib Ir N1 W4 h4 hb4
   go_wp2_with fail
   go_meet
   exact ⟨rfl, A2, c2, HH.out⟩
  case rest =>
   obtain ⟨rfl, A2, c2, hc2, hN1, hN2, hIa, hIb, hIr, hW⟩ := hcut
   clear HN1 HNb' HIa' HIb' HIr' HW' e2 e3 fb0 fb1 HNM2
   have HY := lh (zv_zneg y)
   have HZ := lh (zv_zneg z)
   obtain ⟨a, hya⟩ : ∃ a, y.natAbs = a := ⟨_, rfl⟩
   obtain ⟨b, hzb⟩ : ∃ b, z.natAbs = b := ⟨_, rfl⟩
   obtain ⟨sy, hsy⟩ : ∃ sy, zneg y = sy := ⟨_, rfl⟩
   obtain ⟨sz, hsz⟩ : ∃ sz, zneg z = sz := ⟨_, rfl⟩
   rw [hya] at hN1 hIa hc1 HY hl1
   rw [hzb] at hN2 hIb hc2 HZ hl2
   rw [hsy] at hIa HY
   rw [hsz] at hIb HZ
   have HN1 := lh hN1
   have HN2 := lh hN2
   have HI3 := lh hIr
   have HW3 := lh hW
   have HC4 : Hid (C4 w.heap.size (.bool sy) (.slice A1 (dig a).length c1) (.bool sz) (.slice A2 (dig b).length c2) wc) := C4.of ⟨hIa.c0, hIa.c1⟩ ⟨hIb.c0, hIb.c1⟩
   clear hN1 hN2 hIa hIb hIr hW hya hzb hsy hsz
   obtain ⟨k0, k1, k2, k3⟩ := HC4.out
   by_cases hss : sy = sz
   ·subst hss
    have hse : (sy == sy) = true := by simp
    obtain ⟨m, hmm⟩ : ∃ m, a + b = m := ⟨_, rfl⟩
    have hdm : (dig m).length ≤ 100000 := by
     rw [← hmm]; have := dl_add a b; omega
    have HX : Hid (zv sy m = r) := by
     show _ = _
     rw [← hmm, ← HR.out, ← HY.out, ← HZ.out]
     exact zadd_same
    have HMM := lh hmm
    have HMK := lh (fun W A c h => make_any W sy A c (dig m) r h (by rw [val_dig]; exact HX.out) (by omega))
    clear hmm
    go_wp2_with fail
    go_region_held3 (fun W => W.cell? ⟨w.heap.size, 0, none⟩ = some (.bool sy) ∧ W.cell? ⟨w.heap.size, 1, none⟩ = some (.slice A1 (dig a).length c1) ∧ W.cell? ⟨w.heap.size + 1, 0, none⟩ = some (.bool sy) ∧ W.cell? ⟨w.heap.size + 1, 1, none⟩ = some (.slice A2 (dig b).length c2))
     (first | exact C4.alloc (by assumption) _ | exact C4.below hb34 (by assumption) | exact C4.below hb3 (by assumption) | exact C4.drew HC4.out | exact C4.drew ((C4.base _ _ _ _ _ _ _).alloc _) | exact C4.far (C4.far (by assumption) (by first | (simp; done) | (simp; omega)) (by first | (simp; done) | (simp; omega)) _) (by first | (simp; done) | (simp; omega)) (by first | (simp; done) | (simp; omega)) _)
     (first
     | (go_at_call 183; (refine (eadd_n _ A1 A2 c1 c2 (dig a) (dig b) a b HN1.out.drew HN2.out.drew (val_dig _) (val_dig _) (by omega) (by omega) hc1 hc2 m HMM.out).mono ?_); rintro e w3 ⟨A3, c3, rfl, hc3, ha3, hb3⟩)
     | (go_at_call 177; refine (retz_at (w := w) (g := w.heap.size + 1 + 1) (HMK.out w3 A3 c3 ha3) ?_ ?_ hb3).mono ?_; (repeat (first | exact HI3.out | (with_reducible refine Ibx.drew ?_))); (repeat (first | exact HW3.out | (with_reducible refine Below.drew ?_))); rintro e w4 ⟨A4, c4, rfl, hc4, n4, I4, hb4, hb34⟩; have c0 := I4.c0; have c1 := I4.c1; have f0 := I4.f 0; have f1 := I4.f 1))
    all_goals
     go_wp2_with fail
     refine bodyPost_ret (v := .agg #[.bool (zneg r), .slice A4 (dig r.natAbs).length c4]) (by simp [results, Tryz.results144, go_sem, c0, c1]) rfl ?_
     have h := retz_of (s := zneg r) (m := r.natAbs) (zv_zneg _) hc4 n4 I4 (by omega) hb4 (.bool (zneg r)) (.slice A4 (dig r.natAbs).length c4) rfl
     rw [zv_zneg] at h
     exact h
   ·have hse : (sy == sz) = false := by simp [hss]
    have HNE := lh hss
    clear hss
    by_cases hab : b ≤ a
    ·obtain ⟨k, hk⟩ : ∃ k, cmpv a b = k := ⟨_, rfl⟩
     have hk0 : (0 : Int) ≤ k := by rw [← hk]; unfold cmpv; rw [if_neg (by omega)]; split <;> omega
     have dk0 : decide ((0 : Int) ≤ k) = true := decide_eq_true hk0
     have HCM := lh (ecmp_n wc A1 A2 c1 c2 (dig a) (dig b) a b HN1.out HN2.out (val_dig _) (val_dig _) (by omega) (by omega) hc1 hc2 k hk)
     clear hk
     go_wp2_with fail
     refine HCM.out.mono ?_
     rintro e w5 ⟨rfl, hb5⟩
     have HN1' := lh (HN1.out.below hb5)
     have HN2' := lh (HN2.out.below hb5)
     have HI3' := lh (HI3.out.below hb5)
     have HW3' := lh (HW3.out.trans (hb5.mono HW3.out.size))
     have HC4' := lh (HC4.out.below hb5)
     obtain ⟨k0, k1, k2, k3⟩ := HC4'.out
     clear hb5 HN1 HN2 HI3 HW3 HC4
     have HN1 := lh HN1'.out
     have HN2 := lh HN2'.out
     have HI3 := lh HI3'.out
     have HW3 := lh HW3'.out
     have HC4 := lh HC4'.out
     clear HN1' HN2' HI3' HW3' HC4'
     obtain ⟨m, hmm⟩ : ∃ m, a - b = m := ⟨_, rfl⟩
     have hdm : (dig m).length ≤ 100000 := by
      rw [← hmm]; have := dl_le (Nat.sub_le a b); omega
     have HX : Hid (zv sy m = r) := by
      show _ = _
      rw [← hmm, ← HR.out, ← HY.out, ← HZ.out]
      exact zadd_more HNE.out hab
     have HMM := lh hmm
     have HMK := lh (fun W A c h => make_any W sy A c (dig m) r h (by rw [val_dig]; exact HX.out) (by omega))
     clear hmm
     go_wp2_with fail
     go_region_held3 (fun W => W.cell? ⟨w.heap.size, 0, none⟩ = some (.bool sy) ∧ W.cell? ⟨w.heap.size, 1, none⟩ = some (.slice A1 (dig a).length c1) ∧ W.cell? ⟨w.heap.size + 1, 0, none⟩ = some (.bool sz) ∧ W.cell? ⟨w.heap.size + 1, 1, none⟩ = some (.slice A2 (dig b).length c2))
      (first | exact C4.alloc (by assumption) _ | exact C4.below hb34 (by assumption) | exact C4.below hb3 (by assumption) | exact C4.drew HC4.out | exact C4.drew ((C4.base _ _ _ _ _ _ _).alloc _) | exact C4.far (C4.far (by assumption) (by first | (simp; done) | (simp; omega)) (by first | (simp; done) | (simp; omega)) _) (by first | (simp; done) | (simp; omega)) (by first | (simp; done) | (simp; omega)) _)
      (first
      | (go_at_call 185; (refine (esub_n _ A1 A2 c1 c2 (dig a) (dig b) a b HN1.out.drew HN2.out.drew (val_dig _) (val_dig _) (by omega) (by omega) hc1 hc2 m HMM.out).mono ?_); rintro e w3 ⟨A3, c3, rfl, hc3, ha3, hb3⟩)
      | (go_at_call 177; refine (retz_at (w := w) (g := w.heap.size + 1 + 1) (HMK.out w3 A3 c3 ha3) ?_ ?_ hb3).mono ?_; (repeat (first | exact HI3.out | (with_reducible refine Ibx.drew ?_))); (repeat (first | exact HW3.out | (with_reducible refine Below.drew ?_))); rintro e w4 ⟨A4, c4, rfl, hc4, n4, I4, hb4, hb34⟩; have c0 := I4.c0; have c1 := I4.c1; have f0 := I4.f 0; have f1 := I4.f 1))
     all_goals
      go_wp2_with fail
      refine bodyPost_ret (v := .agg #[.bool (zneg r), .slice A4 (dig r.natAbs).length c4]) (by simp [results, Tryz.results144, go_sem, c0, c1]) rfl ?_
      have h := retz_of (s := zneg r) (m := r.natAbs) (zv_zneg _) hc4 n4 I4 (by omega) hb4 (.bool (zneg r)) (.slice A4 (dig r.natAbs).length c4) rfl
      rw [zv_zneg] at h
      exact h
    ·have hab' : a ≤ b := by omega
     obtain ⟨k, hk⟩ : ∃ k, cmpv a b = k := ⟨_, rfl⟩
     have hk0 : ¬ (0 : Int) ≤ k := by rw [← hk, cmpv_lt (by omega)]; omega
     have dk0 : decide ((0 : Int) ≤ k) = false := decide_eq_false hk0
     have HCM := lh (ecmp_n wc A1 A2 c1 c2 (dig a) (dig b) a b HN1.out HN2.out (val_dig _) (val_dig _) (by omega) (by omega) hc1 hc2 k hk)
     clear hk
     go_wp2_with fail
     refine HCM.out.mono ?_
     rintro e w5 ⟨rfl, hb5⟩
     have HN1' := lh (HN1.out.below hb5)
     have HN2' := lh (HN2.out.below hb5)
     have HI3' := lh (HI3.out.below hb5)
     have HW3' := lh (HW3.out.trans (hb5.mono HW3.out.size))
     have HC4' := lh (HC4.out.below hb5)
     obtain ⟨k0, k1, k2, k3⟩ := HC4'.out
     clear hb5 HN1 HN2 HI3 HW3 HC4
     have HN1 := lh HN1'.out
     have HN2 := lh HN2'.out
     have HI3 := lh HI3'.out
     have HW3 := lh HW3'.out
     have HC4 := lh HC4'.out
     clear HN1' HN2' HI3' HW3' HC4'
     obtain ⟨m, hmm⟩ : ∃ m, b - a = m := ⟨_, rfl⟩
     have hdm : (dig m).length ≤ 100000 := by
      rw [← hmm]; have := dl_le (Nat.sub_le b a); omega
     have HX : Hid (zv sz m = r) := by
      show _ = _
      rw [← hmm, ← HR.out, ← HY.out, ← HZ.out]
      exact zadd_less HNE.out hab'
     have HMM := lh hmm
     have HMK := lh (fun W A c h => make_any W sz A c (dig m) r h (by rw [val_dig]; exact HX.out) (by omega))
     clear hmm
     go_wp2_with fail
     go_region_held3 (fun W => W.cell? ⟨w.heap.size, 0, none⟩ = some (.bool sy) ∧ W.cell? ⟨w.heap.size, 1, none⟩ = some (.slice A1 (dig a).length c1) ∧ W.cell? ⟨w.heap.size + 1, 0, none⟩ = some (.bool sz) ∧ W.cell? ⟨w.heap.size + 1, 1, none⟩ = some (.slice A2 (dig b).length c2))
      (first | exact C4.alloc (by assumption) _ | exact C4.below hb34 (by assumption) | exact C4.below hb3 (by assumption) | exact C4.drew HC4.out | exact C4.drew ((C4.base _ _ _ _ _ _ _).alloc _) | exact C4.far (C4.far (by assumption) (by first | (simp; done) | (simp; omega)) (by first | (simp; done) | (simp; omega)) _) (by first | (simp; done) | (simp; omega)) (by first | (simp; done) | (simp; omega)) _)
      (first
      | (go_at_call 185; (refine (esub_n _ A2 A1 c2 c1 (dig b) (dig a) b a HN2.out.drew HN1.out.drew (val_dig _) (val_dig _) (by omega) (by omega) hc2 hc1 m HMM.out).mono ?_); rintro e w3 ⟨A3, c3, rfl, hc3, ha3, hb3⟩)
      | (go_at_call 177; refine (retz_at (w := w) (g := w.heap.size + 1 + 1) (HMK.out w3 A3 c3 ha3) ?_ ?_ hb3).mono ?_; (repeat (first | exact HI3.out | (with_reducible refine Ibx.drew ?_))); (repeat (first | exact HW3.out | (with_reducible refine Below.drew ?_))); rintro e w4 ⟨A4, c4, rfl, hc4, n4, I4, hb4, hb34⟩; have c0 := I4.c0; have c1 := I4.c1; have f0 := I4.f 0; have f1 := I4.f 1))
     all_goals
      go_wp2_with fail
      refine bodyPost_ret (v := .agg #[.bool (zneg r), .slice A4 (dig r.natAbs).length c4]) (by simp [results, Tryz.results144, go_sem, c0, c1]) rfl ?_
      have h := retz_of (s := zneg r) (m := r.natAbs) (zv_zneg _) hc4 n4 I4 (by omega) hb4 (.bool (zneg r)) (.slice A4 (dig r.natAbs).length c4) rfl
      rw [zv_zneg] at h
      exact h
end W

namespace W
set_option maxHeartbeats 4000000
open Go.RowKit
theorem mul_any (w : World) (s t : Bool) (A B : Option Addr) (c d : Nat) (xs ys : List Nat) (y z : Int) (ha : Num w A xs) (hb : Num w B ys) (hx : zv s (val xs) = y) (hy : zv t (val ys) = z) (hn : xs.length ≤ 7000) (hm : ys.length ≤ 7000) (hc : xs.length ≤ c) (hd : ys.length ≤ d) (r : Int) (hr : y * z = r) :
  Calls tz 145 #[.agg #[.bool s, .slice A xs.length c], .agg #[.bool t, .slice B ys.length d]] w (RetZ w r) := by
 have hd1 := dig_length_val ha.1
 have hd2 := dig_length_val hb.1
 have HA := lh ha
 have HB := lh hb
 obtain ⟨a, hva⟩ : ∃ a, val xs = a := ⟨_, rfl⟩
 obtain ⟨b, hvb⟩ : ∃ b, val ys = b := ⟨_, rfl⟩
 rw [hva] at hd1 hx
 rw [hvb] at hd2 hy
 have HVA := lh hva
 have HVB := lh hvb
 obtain ⟨m, hmm⟩ : ∃ m, a * b = m := ⟨_, rfl⟩
 have hdm : (dig m).length ≤ 100000 := by
  rw [← hmm]; have := dl_mul a b; omega
 have HX : Hid (zv (s != t) m = r) := by
  show _ = _
  rw [← hmm, ← hr, ← hx, ← hy]
  cases s <;> cases t <;> simp [zv, Int.neg_mul, Int.mul_neg]
 have HMM := lh hmm
 have HMK := lh (fun W A c h => make_any W (s != t) A c (dig m) r h (by rw [val_dig]; exact HX.out) (by omega))
 clear ha hb hx hy hva hvb hmm hr
 go_enter Tryz.func145, Tryz.ntmps145
 go_wp2_with fail
 go_region_held3 (fun W => W.cell? ⟨w.heap.size, 0, none⟩ = some (.bool s) ∧ W.cell? ⟨w.heap.size, 1, none⟩ = some (.slice A xs.length c) ∧ W.cell? ⟨w.heap.size + 1, 0, none⟩ = some (.bool t) ∧ W.cell? ⟨w.heap.size + 1, 1, none⟩ = some (.slice B ys.length d))
  (first | exact C4.alloc (by assumption) _ | exact C4.below hb34 (by assumption) | exact C4.below hb3 (by assumption) | exact C4.drew ((C4.base _ _ _ _ _ _ _).alloc _) | exact C4.far (C4.far (by assumption) (by first | (simp; done) | (simp; omega)) (by first | (simp; done) | (simp; omega)) _) (by first | (simp; done) | (simp; omega)) (by first | (simp; done) | (simp; omega)) _)
  (first
 | (go_at_call 186; (refine (emul_n _ A B c d xs ys a b ?_ ?_ HVA.out HVB.out (by omega) (by omega) hc hd m HMM.out).mono ?_); (repeat (first | exact HA.out | (with_reducible refine Num.drew ?_) | (with_reducible refine Num.alloc ?_ _))); (repeat (first | exact HB.out | (with_reducible refine Num.drew ?_) | (with_reducible refine Num.alloc ?_ _))); rintro e w3 ⟨A3, c3, rfl, hc3, ha3, hb3⟩)
 | (go_at_call 177; refine (retz_at (w := w) (g := w.heap.size + 1 + 1) (HMK.out w3 A3 c3 ha3) ?_ ?_ hb3).mono ?_; (repeat (first | exact Ibx.new' _ _ _ _ _ _ (by simp) | (with_reducible refine Ibx.drew ?_) | (with_reducible refine Ibx.alloc ?_ _))); (repeat (first | exact bR _ _ | (with_reducible refine Below.drew ?_) | (with_reducible refine Below.alloc ?_ (by first | exact lR _ | (simp; done) | (simp; omega)) _))); rintro e w4 ⟨A4, c4, rfl, hc4, n4, I4, hb4, hb34⟩; have c0 := I4.c0; have c1 := I4.c1; have f0 := I4.f 0; have f1 := I4.f 1))
 all_goals
  go_wp2_with fail
  refine bodyPost_ret (v := .agg #[.bool (zneg r), .slice A4 (dig r.natAbs).length c4]) (by simp [results, Tryz.results145, go_sem, c0, c1]) rfl ?_
  have h := retz_of (s := zneg r) (m := r.natAbs) (zv_zneg _) hc4 n4 I4 (by omega) hb4 (.bool (zneg r)) (.slice A4 (dig r.natAbs).length c4) rfl
  rw [zv_zneg] at h
  exact h
theorem gcd_any (w : World) (s t : Bool) (A B : Option Addr) (c d : Nat) (xs ys : List Nat) (y z : Int) (ha : Num w A xs) (hb : Num w B ys) (hx : zv s (val xs) = y) (hy : zv t (val ys) = z) (hn : xs.length ≤ 7000) (hm : ys.length ≤ 7000) (hc : xs.length ≤ c) (hd : ys.length ≤ d) (r : Int) (hr : ((Nat.gcd y.natAbs z.natAbs : Nat) : Int) = r) :
  Calls tz 180 #[.agg #[.bool s, .slice A xs.length c], .agg #[.bool t, .slice B ys.length d]] w (RetZ w r) := by
 have hd1 := dig_length_val ha.1
 have hd2 := dig_length_val hb.1
 have HA := lh ha
 have HB := lh hb
 obtain ⟨a, hva⟩ : ∃ a, val xs = a := ⟨_, rfl⟩
 obtain ⟨b, hvb⟩ : ∃ b, val ys = b := ⟨_, rfl⟩
 rw [hva] at hd1 hx
 rw [hvb] at hd2 hy
 have HVA := lh hva
 have HVB := lh hvb
 obtain ⟨m, hmm⟩ : ∃ m, Nat.gcd a b = m := ⟨_, rfl⟩
 have hdm : (dig m).length ≤ 100000 := by
  rw [← hmm]; have := dl_gcd a b; omega
 have HX : Hid (zv false m = r) := by
  show _ = _
  rw [← hr, ← hx, ← hy, zv_natAbs, zv_natAbs, hmm]
  simp [zv]
 have HMM := lh hmm
 have HI := lh (show Ibx (((w.alloc (.cells #[.bool s, .slice A xs.length c] 25)).alloc (.cells #[.bool t, .slice B ys.length d] 25)).alloc (.cells #[.bool false, .slice none 0 0] 25)) (w.heap.size + 1 + 1) false none 0 0 from Ibx.new' _ _ _ _ _ _ (by simp))
 have HW := lh (show Below w.heap.size w (((w.alloc (.cells #[.bool s, .slice A xs.length c] 25)).alloc (.cells #[.bool t, .slice B ys.length d] 25)).alloc (.cells #[.bool false, .slice none 0 0] 25)) from (((bR _ _).alloc (lR _) _).alloc (by simp) _).alloc (by simp; omega) _)
 have HC4 := lh ((C4.base w (.bool s) (.slice A xs.length c) (.bool t) (.slice B ys.length d) 25 25).alloc (.cells #[.bool false, .slice none 0 0] 25))
 have HG := lh (fun o1 o2 o3 => egcd_n (((w.alloc o1).alloc o2).alloc o3) A B c d xs ys a b (((HA.out.alloc o1).alloc o2).alloc o3) (((HB.out.alloc o1).alloc o2).alloc o3) HVA.out HVB.out (by omega) (by omega) hc hd m HMM.out)
 obtain ⟨k0, k1, k2, k3⟩ := HC4.out
 clear ha hb hx hy hva hvb hmm hr
 go_enter Tryz.func180, Tryz.ntmps180
 go_wp2_with fail
 refine (HG.out _ _ _).mono ?_
 rintro e w3 ⟨A3, c3, rfl, hc3, ha3, hb3⟩
 have HMK := lh (retz_at (w := w) (g := w.heap.size + 1 + 1) (make_any w3 false A3 c3 (dig m) r ha3 (by rw [val_dig]; exact HX.out) (by omega)) HI.out HW.out hb3)
 clear ha3 hb3 HG HI HW HC4 k0 k1 k2 k3
 go_wp2_with fail
 refine HMK.out.mono ?_
 rintro e w4 ⟨A4, c4, rfl, hc4, n4, I4, hb4, hb34⟩
 have c0 := I4.c0
 have c1 := I4.c1
 have f0 := I4.f 0
 have f1 := I4.f 1
 go_wp2_with fail
 refine bodyPost_ret (v := .agg #[.bool (zneg r), .slice A4 (dig r.natAbs).length c4]) (by simp [results, Tryz.results180, go_sem, c0, c1]) rfl ?_
 have h := retz_of (s := zneg r) (m := r.natAbs) (zv_zneg _) hc4 n4 I4 (by omega) hb4 (.bool (zneg r)) (.slice A4 (dig r.natAbs).length c4) rfl
 rw [zv_zneg] at h
 exact h
theorem sub_any (w : World) (s t : Bool) (A B : Option Addr) (c d : Nat) (xs ys : List Nat) (y z : Int) (ha : Num w A xs) (hb : Num w B ys) (hx : zv s (val xs) = y) (hy : zv t (val ys) = z) (hn : xs.length ≤ 7000) (hm : ys.length ≤ 7000) (r : Int) (hr : y - z = r) :
  Calls tz 212 #[.agg #[.bool s, .slice A xs.length c], .agg #[.bool t, .slice B ys.length d]] w (RetZ w r) := by
 have hl2 : (dig z.natAbs).length ≤ 7000 := by
  rw [← hy, zv_natAbs]; exact lT (dig_length_val hb.1) hm
 obtain ⟨q, hq⟩ : ∃ q, -z = q := ⟨_, rfl⟩
 have HNG := lh (fun W h => neg_any W t B d ys z h hy (by omega) q hq)
 have hlq : (dig q.natAbs).length ≤ 7000 := by rw [← hq, Int.natAbs_neg]; exact hl2
 have HAD := lh (fun W A3 c3 h1 h2 => add_any W s (zneg q) A A3 c c3 xs (dig q.natAbs) y q h1 h2 hx (by rw [val_dig]; exact zv_zneg q) hn hlq r (by rw [← hq, ← hr]; omega))
 have HA := lh ha
 have HB := lh hb
 clear ha hb hx hy hr hq
 go_enter Tryz.func212, Tryz.ntmps212
 go_wp2_with fail
 go_region_held3 (fun W => W.cell? ⟨w.heap.size, 0, none⟩ = some (.bool s) ∧ W.cell? ⟨w.heap.size, 1, none⟩ = some (.slice A xs.length c) ∧ W.cell? ⟨w.heap.size + 1, 0, none⟩ = some (.bool t) ∧ W.cell? ⟨w.heap.size + 1, 1, none⟩ = some (.slice B ys.length d))
  (first | exact C4.alloc (by assumption) _ | exact C4.below hb34 (by assumption) | exact C4.below hb3 (by assumption) | exact C4.drew ((C4.base _ _ _ _ _ _ _).alloc _) | exact C4.far (C4.far (by assumption) (by first | (simp; done) | (simp; omega)) (by first | (simp; done) | (simp; omega)) _) (by first | (simp; done) | (simp; omega)) (by first | (simp; done) | (simp; omega)) _)
  (first
  | (go_at_call 176; (refine (HNG.out _ ?_).mono ?_); (repeat (first | exact HB.out | (with_reducible refine Num.drew ?_) | (with_reducible refine Num.alloc ?_ _))); rintro e w3 ⟨A3, c3, rfl, hc3, ha3, hb3⟩)
  | (go_at_call 144; refine (retz_at (w := w) (g := w.heap.size + 1 + 1) (HAD.out w3 A3 c3 (Num.below ?_ hb3) ha3) ?_ ?_ hb3).mono ?_; (repeat (first | exact HA.out | (with_reducible refine Num.drew ?_) | (with_reducible refine Num.alloc ?_ _))); (repeat (first | exact Ibx.new' _ _ _ _ _ _ (by simp) | (with_reducible refine Ibx.drew ?_) | (with_reducible refine Ibx.alloc ?_ _))); (repeat (first | exact bR _ _ | (with_reducible refine Below.drew ?_) | (with_reducible refine Below.alloc ?_ (by first | exact lR _ | (simp; done) | (simp; omega)) _))); rintro e w4 ⟨A4, c4, rfl, hc4, n4, I4, hb4, hb34⟩; have c0 := I4.c0; have c1 := I4.c1; have f0 := I4.f 0; have f1 := I4.f 1))
 all_goals
  go_wp2_with fail
  refine bodyPost_ret (v := .agg #[.bool (zneg r), .slice A4 (dig r.natAbs).length c4]) (by simp [results, Tryz.results212, go_sem, c0, c1]) rfl ?_
  have h := retz_of (s := zneg r) (m := r.natAbs) (zv_zneg _) hc4 n4 I4 (by omega) hb4 (.bool (zneg r)) (.slice A4 (dig r.natAbs).length c4) rfl
  rw [zv_zneg] at h
  exact h
theorem cmp_any (w : World) (s t : Bool) (A B : Option Addr) (c d : Nat) (xs ys : List Nat) (y z : Int) (ha : Num w A xs) (hb : Num w B ys) (hx : zv s (val xs) = y) (hy : zv t (val ys) = z) (hn : xs.length ≤ 7000) (hm : ys.length ≤ 7000) (r : Int) (hr : zcmp y z = r) :
  Calls tz 182 #[.agg #[.bool s, .slice A xs.length c], .agg #[.bool t, .slice B ys.length d]] w (RetI w r) := by
 obtain ⟨q, hq⟩ : ∃ q, y - z = q := ⟨_, rfl⟩
 have hlq : (dig q.natAbs).length ≤ 15000 := by
  have h1 : (dig y.natAbs).length ≤ 7000 := by rw [← hx, zv_natAbs]; exact lT (dig_length_val ha.1) hn
  have h2 : (dig z.natAbs).length ≤ 7000 := by rw [← hy, zv_natAbs]; exact lT (dig_length_val hb.1) hm
  have h3 := dl_add y.natAbs z.natAbs
  have h4 : (dig q.natAbs).length ≤ (dig (y.natAbs + z.natAbs)).length := dl_le (by omega)
  omega
 have HSB := lh (fun o1 o2 => sub_any ((w.alloc o1).alloc o2) s t A B c d xs ys y z ((ha.alloc o1).alloc o2) ((hb.alloc o1).alloc o2) hx hy hn hm q hq)
 have HSG := lh (fun W A3 c3 h => sign_any W (zneg q) A3 c3 (dig q.natAbs) q h (by rw [val_dig]; exact zv_zneg q) (by omega))
 have HR : Hid (q.sign = r) := by
  show _ = _
  rw [← hr, ← hq]
  rcases Int.lt_trichotomy y z with h | h | h
  ·rw [zcmp_lt h]; exact Int.sign_eq_neg_one_of_neg (by omega)
  ·rw [h, zcmp_eq, Int.sub_self]; rfl
  ·rw [zcmp_gt h]; exact Int.sign_eq_one_of_pos (by omega)
 rw [HR.out] at HSG
 have HW := lh (show Below w.heap.size w ((w.alloc (.cells #[.bool s, .slice A xs.length c] 25)).alloc (.cells #[.bool t, .slice B ys.length d] 25)) from ((bR _ _).alloc (lR _) _).alloc (by simp) _)
 clear ha hb hx hy hr hq
 go_enter Tryz.func182, Tryz.ntmps182
 go_wp2_with fail
 refine (HSB.out _ _).mono ?_
 rintro e w4 ⟨A3, c3, rfl, hc3, h3, hb3⟩
 have N4 := lh h3
 have B4 := lh (HW.out.trans (hb3.mono HW.out.size))
 clear h3 hb3 HW
 go_wp2_with fail
 refine (HSG.out w4 A3 c3 N4.out).mono ?_
 rintro e w5 ⟨rfl, hb5⟩
 have B5 := lh (B4.out.trans (hb5.mono B4.out.size))
 clear hb5
 go_wp2_with fail
 go_ret
 exact ⟨rfl, B5.out⟩
end W

section
open Go.RowKit
end

section
open Go.RowKit
end

namespace W
open Go.RowKit
end W

namespace W
open Go.RowKit
structure Dm (w wx : World) (s t : Bool) (A B : Option Addr) (n m c d : Nat) : Prop where
 c4 : C4 w.heap.size (.bool s) (.slice A n c) (.bool t) (.slice B m d) wx
 i1 : Ibx wx (w.heap.size + 1 + 1) false none 0 0
 i2 : Ibx wx (w.heap.size + 1 + 1 + 1) false none 0 0
 bel : Below w.heap.size w wx
 sz : w.heap.size + 1 + 1 + 1 < wx.heap.size
theorem bdrew {W w3 : World} (h : Below W.drew.heap.size W.drew w3) : Below W.heap.size W w3 := ⟨h.os, h.tape, h.output, h.size, h.block⟩
theorem below_al {W w3 : World} {o : Obj} (h : Below (W.alloc o).heap.size (W.alloc o) w3) : Below W.heap.size W w3 := ((bR _ _).alloc (lR _) o).trans (h.mono (by simp))
theorem below_ad {W w3 : World} {o : Obj} (h : Below (W.alloc o).drew.heap.size (W.alloc o).drew w3) : Below W.heap.size W w3 := below_al (bdrew h)
theorem below_on {W w3 w4 : World} (h3 : Below W.heap.size W w3) (h : Below w3.heap.size w3 w4) : Below W.heap.size W w4 := h3.trans (h.mono h3.size)
section
variable {w wx wy : World} {s t : Bool} {A B : Option Addr} {n m c d : Nat}
theorem Dm.below (h : Dm w wx s t A B n m c d) (hb : Below wx.heap.size wx wy) : Dm w wy s t A B n m c d :=
 ⟨h.c4.below hb, h.i1.below hb, h.i2.below hb, h.bel.trans (hb.mono h.bel.size), Nat.lt_of_lt_of_le h.sz hb.size⟩
theorem Dm.set2 (h : Dm w wx s t A B n m c d) {g : Nat} (hg : w.heap.size + 1 + 1 + 1 < g) (v0 v1 : Value) : Dm w ((wx.setCell ⟨g, 0, none⟩ v0).setCell ⟨g, 1, none⟩ v1) s t A B n m c d := by
 have e1 : w.heap.size ≠ g := by omega
 have e2 : w.heap.size + 1 ≠ g := by omega
 exact ⟨(h.c4.far e1 e2 v0).far e1 e2 v1, (h.i1.far (by show _ ≠ g; omega) v0).far (by show _ ≠ g; omega) v1, (h.i2.far (by show _ ≠ g; omega) v0).far (by show _ ≠ g; omega) v1, (h.bel.setCell (by show _ ≤ g; omega) v0).setCell (by show _ ≤ g; omega) v1, by simpa [World.setCell] using h.sz⟩
theorem Dm.alloc (h : Dm w wx s t A B n m c d) (o : Obj) : Dm w (wx.alloc o) s t A B n m c d := h.below ((bR _ _).alloc (lR _) o)
end
structure Bz (wx : World) (g : Nat) (z : Int) (A : Option Addr) (c : Nat) : Prop where
 i : Ibx wx g (zneg z) A (dig z.natAbs).length c
 n : Num wx A (dig z.natAbs)
 l : (dig z.natAbs).length ≤ c
section
variable {wx wy : World} {g : Nat} {z : Int} {A : Option Addr} {c : Nat}
theorem Bz.below (h : Bz wx g z A c) (hb : Below wx.heap.size wx wy) : Bz wy g z A c := ⟨h.i.below hb, h.n.below hb, h.l⟩
theorem Bz.alloc (h : Bz wx g z A c) (o : Obj) : Bz (wx.alloc o) g z A c := h.below ((bR _ _).alloc (lR _) o)
theorem Bz.other (h : Bz wx g z A c) {g' : Nat} {s0 : Bool} {A0 : Option Addr} {n0 c0 : Nat} (hI : Ibx wx g' s0 A0 n0 c0) (hne : g ≠ g') (v0 v1 : Value) : Bz ((wx.setCell ⟨g', 0, none⟩ v0).setCell ⟨g', 1, none⟩ v1) g z A c :=
 ⟨(h.i.far hne v0).far hne v1, h.n.two hI v0 v1, h.l⟩
theorem Bz.put {s0 : Bool} {A0 : Option Addr} {n0 c0 : Nat} (hI : Ibx wx g s0 A0 n0 c0) (hN : Num wx A (dig z.natAbs)) (hl : (dig z.natAbs).length ≤ c) : Bz ((wx.setCell ⟨g, 0, none⟩ (.bool (zneg z))).setCell ⟨g, 1, none⟩ (.slice A (dig z.natAbs).length c)) g z A c :=
 ⟨hI.two _ _ _ _, hN.two hI _ _, hl⟩
end
theorem K3.far {p q r : Nat} {v1 v2 v3 v4 v5 v6 : Value} {W : World} (h : K3 p q r v1 v2 v3 v4 v5 v6 W) {a : Addr} (h1 : p ≠ a.block) (h2 : q ≠ a.block) (h3 : r ≠ a.block) (v : Value) : K3 p q r v1 v2 v3 v4 v5 v6 (W.setCell a v) :=
 K3.of (h.a.far h1 v) (h.b.far h2 v) (h.c.far h3 v)
section
variable {p q r : Nat} {v1 v2 v3 v4 v5 v6 : Value} {W : World}
theorem s6_of (h : K3 p q r v1 v2 v3 v4 v5 v6 W) : W.cell? ⟨p, 0, none⟩ = some v1 ∧ W.cell? ⟨p, 1, none⟩ = some v2 ∧ W.cell? ⟨q, 0, none⟩ = some v3 ∧ W.cell? ⟨q, 1, none⟩ = some v4 ∧ W.cell? ⟨r, 0, none⟩ = some v5 ∧ W.cell? ⟨r, 1, none⟩ = some v6 := h
theorem s6_drew (h : W.cell? ⟨p, 0, none⟩ = some v1 ∧ W.cell? ⟨p, 1, none⟩ = some v2 ∧ W.cell? ⟨q, 0, none⟩ = some v3 ∧ W.cell? ⟨q, 1, none⟩ = some v4 ∧ W.cell? ⟨r, 0, none⟩ = some v5 ∧ W.cell? ⟨r, 1, none⟩ = some v6) : W.drew.cell? ⟨p, 0, none⟩ = some v1 ∧ W.drew.cell? ⟨p, 1, none⟩ = some v2 ∧ W.drew.cell? ⟨q, 0, none⟩ = some v3 ∧ W.drew.cell? ⟨q, 1, none⟩ = some v4 ∧ W.drew.cell? ⟨r, 0, none⟩ = some v5 ∧ W.drew.cell? ⟨r, 1, none⟩ = some v6 := h
theorem s6_alloc (h : W.cell? ⟨p, 0, none⟩ = some v1 ∧ W.cell? ⟨p, 1, none⟩ = some v2 ∧ W.cell? ⟨q, 0, none⟩ = some v3 ∧ W.cell? ⟨q, 1, none⟩ = some v4 ∧ W.cell? ⟨r, 0, none⟩ = some v5 ∧ W.cell? ⟨r, 1, none⟩ = some v6) (o : Obj) : (W.alloc o).cell? ⟨p, 0, none⟩ = some v1 ∧ (W.alloc o).cell? ⟨p, 1, none⟩ = some v2 ∧ (W.alloc o).cell? ⟨q, 0, none⟩ = some v3 ∧ (W.alloc o).cell? ⟨q, 1, none⟩ = some v4 ∧ (W.alloc o).cell? ⟨r, 0, none⟩ = some v5 ∧ (W.alloc o).cell? ⟨r, 1, none⟩ = some v6 := K3.alloc h o
theorem s6_far {g i : Nat} (h1 : p ≠ g) (h2 : q ≠ g) (h3 : r ≠ g) (v : Value) (h : W.cell? ⟨p, 0, none⟩ = some v1 ∧ W.cell? ⟨p, 1, none⟩ = some v2 ∧ W.cell? ⟨q, 0, none⟩ = some v3 ∧ W.cell? ⟨q, 1, none⟩ = some v4 ∧ W.cell? ⟨r, 0, none⟩ = some v5 ∧ W.cell? ⟨r, 1, none⟩ = some v6) : (W.setCell ⟨g, i, none⟩ v).cell? ⟨p, 0, none⟩ = some v1 ∧ (W.setCell ⟨g, i, none⟩ v).cell? ⟨p, 1, none⟩ = some v2 ∧ (W.setCell ⟨g, i, none⟩ v).cell? ⟨q, 0, none⟩ = some v3 ∧ (W.setCell ⟨g, i, none⟩ v).cell? ⟨q, 1, none⟩ = some v4 ∧ (W.setCell ⟨g, i, none⟩ v).cell? ⟨r, 0, none⟩ = some v5 ∧ (W.setCell ⟨g, i, none⟩ v).cell? ⟨r, 1, none⟩ = some v6 := K3.far h h1 h2 h3 v
end
theorem dm_first (s t : Bool) (a b : Nat) (hb : b ≠ 0) : (zv s a - zv (s != t) (a / b) * zv t b).natAbs < b := by
 have h1 := Nat.mod_add_div a b
 have h2 := Nat.mod_lt a (Nat.pos_of_ne_zero hb)
 have h3 : (a : Int) = ((a % b : Nat) : Int) + (b : Int) * ((a / b : Nat) : Int) := by rw [← Int.natCast_mul, ← Int.natCast_add, h1]
 obtain ⟨m, hm⟩ : ∃ m, a % b = m := ⟨_, rfl⟩
 obtain ⟨q, hq⟩ : ∃ q, a / b = q := ⟨_, rfl⟩
 rw [hm, hq] at h3
 rw [hm] at h2
 rw [hq]
 have e : zv s a - zv (s != t) q * zv t b = zv s m := by
  have e2 : (b : Int) * (q : Int) = (q : Int) * (b : Int) := Int.mul_comm _ _
  cases s <;> cases t <;> simp [zv, Int.neg_mul, Int.mul_neg] <;> omega
 rw [e, zv_natAbs]; exact h2
theorem dm_round {y z q r q' r' : Int} (hr : r = y - q * z) (hneg : r < 0) (hlt : r.natAbs < z.natAbs) (hq : q' = if 0 < z then q - 1 else q + 1) (hr' : r' = y - q' * z) : 0 ≤ r' ∧ r'.natAbs < z.natAbs := by
 subst hq
 split at hr'
 ·rw [Int.sub_mul, Int.one_mul] at hr'; omega
 ·rw [Int.add_mul, Int.one_mul] at hr'; omega
theorem dm_end {y z q r : Int} (hz : z ≠ 0) (hr : r = y - q * z) (h0 : 0 ≤ r) (hlt : r.natAbs < z.natAbs) : q = y / z ∧ r = zrem y z := by
 have hk : y / z = q ∧ y % z = r := by
  rcases Int.lt_or_le 0 z with h | h
  ·have e : z = ((z.natAbs : Nat) : Int) := by omega
   have hm := Int.mul_comm z q
   have h1 := zdm_uniq (y := y) (q := q) (r := r) (b := z.natAbs) (by omega) (by rw [← e]; omega) h0 (by omega)
   rw [← e] at h1; exact h1
  ·have e : z = -((z.natAbs : Nat) : Int) := by omega
   have h1 := zdm_uniq (y := y) (q := -q) (r := r) (b := z.natAbs) (by omega) (by
    have e2 : ((z.natAbs : Nat) : Int) * -q = q * z := by
     rw [e, Int.natAbs_neg, Int.natAbs_natCast, Int.mul_neg, Int.mul_neg, Int.mul_comm]
    omega) h0 (by omega)
   rw [e, Int.ediv_neg, Int.emod_neg, h1.1, h1.2, Int.neg_neg]
   exact ⟨rfl, rfl⟩
 unfold zrem
 rw [if_neg hz]
 exact ⟨hk.1.symm, hk.2.symm⟩
set_option maxHeartbeats 2000000 in
theorem divmod_zero (w : World) (s t : Bool) (A B : Option Addr) (c d : Nat) (xs ys : List Nat) (z : Int) (hb : Num w B ys) (hy : zv t (val ys) = z) (hm : ys.length ≤ 3000) (hz : z = 0) :
  Calls tz 181 #[.agg #[.bool s, .slice A xs.length c], .agg #[.bool t, .slice B ys.length d]] w (RetZZ w 0 0) := by
 have HSG := Lib.hid (fun W h => sign_any W t B d ys z h hy (by omega))
 rw [hz, show Int.sign 0 = 0 from rfl] at HSG
 have HDM : Hid (Dm w ((((w.alloc (.cells #[.bool s, .slice A xs.length c] 25)).alloc (.cells #[.bool t, .slice B ys.length d] 25)).alloc (.cells #[.bool false, .slice none 0 0] 25)).alloc (.cells #[.bool false, .slice none 0 0] 25)) s t A B xs.length ys.length c d) := ⟨((C4.base w _ _ _ _ _ _).alloc _).alloc _, (Ibx.new' _ _ _ _ _ _ (by simp)).alloc _, Ibx.new' _ _ _ _ _ _ (by simp), ((((bR _ _).alloc (lR _) _).alloc (by simp) _).alloc (by simp; omega) _).alloc (by simp; omega) _, by simp⟩
 have HNb := Lib.hid (show Num ((((w.alloc (.cells #[.bool s, .slice A xs.length c] 25)).alloc (.cells #[.bool t, .slice B ys.length d] 25)).alloc (.cells #[.bool false, .slice none 0 0] 25)).alloc (.cells #[.bool false, .slice none 0 0] 25)) B ys from (((hb.alloc _).alloc _).alloc _).alloc _)
 have h4 := HDM.out.c4
 obtain ⟨k0, k1, k2, k3⟩ := h4
 clear hb hy hz
 go_enter Tryz.func181, Tryz.ntmps181
 go_wp2_with fail
 refine (HSG.out _ HNb.out).mono ?_
 rintro e w1 ⟨rfl, hb1⟩
 have hD := HDM.out.below hb1
 have c0 := hD.i1.c0
 have c1 := hD.i1.c1
 have f0 := hD.i1.f 0
 have f1 := hD.i1.f 1
 have d0 := hD.i2.c0
 have d1 := hD.i2.c1
 have e0 := hD.i2.f 0
 have e1 := hD.i2.f 1
 have HD := Lib.hid hD
 clear hD hb1 HDM HNb
 go_wp2_with fail
 refine bodyPost_ret (v := .tuple #[.agg #[.bool (zneg 0), .slice none (dig (0 : Int).natAbs).length 0], .agg #[.bool (zneg 0), .slice none (dig (0 : Int).natAbs).length 0]]) (by simp [results, Tryz.results181, go_sem, c0, c1, d0, d1, dig_zero, zneg]) rfl ?_
 exact ⟨none, 0, none, 0, rfl, by simp [dig_zero], by simp [dig_zero], by simp [dig_zero, Num.nil], by simp [dig_zero, Num.nil], (((HD.out.bel.setCell (by simp; omega) _).setCell (by simp; omega) _).setCell (by simp; omega) _).setCell (by simp; omega) _⟩
