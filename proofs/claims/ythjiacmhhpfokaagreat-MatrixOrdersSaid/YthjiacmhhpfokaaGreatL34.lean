/- Part 34 of the proof: VLow, VRats. -/
import Derived.Test.YthjiacmhhpfokaaGreatL33
import Derived.Test.YthjiacmhhpfokaaGreatL28
namespace Go.Proofs.YthjiacmhhpfokaaGreat
open Act renaming put → aP
open List renaming getElem?_eq_getElem → gE, getElem?_map → gM
open Option.some renaming inj → oI
namespace V
open List renaming getElem_toArray → gY, getElem_cons_zero → gZ, getElem_cons_succ → gJ, setIfInBounds_toArray → sT, set_cons_zero → sZ, set_cons_succ → sS
open Lib renaming hid → lh
set_option maxRecDepth 100000
set_option maxHeartbeats 4000000
open Go.RowKit
open Q (IsQ OneQ RetQ below_on ql Qbx)
def TV.rat (x : TV) : Value := .agg #[.bool x.s, .slice x.A x.n x.c, .bool x.t, .slice x.B x.m x.d]
theorem row_at2 {w : World} {A : Option Addr} {xs : List TV} (h : Row w A xs) {j : Nat} {x : TV} (hj : xs[j]? = some x) : ∃ b off, A = some ⟨b, off, none⟩ ∧ ∀ V, Below w.heap.size w V →
  V.cell? ⟨b, off + j * 5, none⟩ = some (.int .i64 x.at_) ∧ V.cell? ⟨b, off + j * 5 + 1, none⟩ = some (.bool x.s) ∧ V.cell? ⟨b, off + j * 5 + 2, none⟩ = some (.slice x.A x.n x.c) ∧ V.cell? ⟨b, off + j * 5 + 3, none⟩ = some (.bool x.t) ∧ V.cell? ⟨b, off + j * 5 + 4, none⟩ = some (.slice x.B x.m x.d) := by
 obtain ⟨b, off, e, hlt, c0, c1, c2, c3, c4⟩ := h.at_ hj
 exact ⟨b, off, e, fun V hV => ⟨(hV.cell (p := ⟨b, off + j * 5, none⟩) hlt).trans c0, (hV.cell (p := ⟨b, off + j * 5 + 1, none⟩) hlt).trans c1, (hV.cell (p := ⟨b, off + j * 5 + 2, none⟩) hlt).trans c2, (hV.cell (p := ⟨b, off + j * 5 + 3, none⟩) hlt).trans c3, (hV.cell (p := ⟨b, off + j * 5 + 4, none⟩) hlt).trans c4⟩⟩
def SameAt (xs ys : List TV) (b : Nat → Bool) (j : Nat) : Prop := ∀ x y, xs[j]? = some x → ys[j]? = some y → x.at_ = y.at_ ∧ b j = true
theorem samevec_any {w : World} {A B : Option Addr} {n c m d : Nat} {xs ys : List TV} (hx : Row w A xs) (hy : Row w B ys) (hn : n = xs.length) (hm : m = ys.length) (hl : n ≤ 1000000) (b : Nat → Bool)
  (hs : ∀ j x y W, xs[j]? = some x → ys[j]? = some y → Below w.heap.size w W → Calls Tryz.prog 28 #[.agg #[.bool x.s, .slice x.A x.n x.c, .bool x.t, .slice x.B x.m x.d], .agg #[.bool y.s, .slice y.A y.n y.c, .bool y.t, .slice y.B y.m y.d]] W (RetB W (b j)))
  (v : Bool) (hv : v = true ↔ n = m ∧ ∀ j, SameAt xs ys b j) : Calls Tryz.prog 17 #[.slice A n c, .slice B m d] w (RetB w v) := by
 have HXR := lh hx
 have HYR := lh hy
 have HXL := lh hn
 have HYL := lh hm
 have HL := lh hl
 have HS := lh hs
 have HV := lh hv
 have HB := lh (Below.refl w.heap.size w)
 have bv : ∀ c : Bool, (c = true ↔ n = m ∧ ∀ j, SameAt xs ys b j) → c = v := fun c hc => Bool.eq_iff_iff.2 (hc.trans HV.out.symm)
 have BV := lh bv
 by_cases hnm : n = m
 ·have g0 : ((n : Int) != (m : Int)) = false := by rw [hnm]; exact bne_self_eq_false _
  have HNM := lh hnm
  clear hx hy hn hm hl hs hv hnm bv
  go_enter Tryz.func17, Tryz.ntmps17
  go_wp2_with fail
  go_loopw [5] (fun iv wr => ∃ i : Nat, i ≤ n ∧ iv = .int .i64 (i : Int) ∧ Hid (Below w.heap.size w wr) ∧ Hid (∀ j, j < i → SameAt xs ys b j)) (fun iv _ => n - (intOf iv).toNat)
  case atStart => exact ⟨0, Nat.zero_le _, rfl, HB, fun j hj => absurd hj (Nat.not_lt_zero j)⟩
  case round =>
   clear HB
   obtain ⟨i, hi, rfl, HB, HG⟩ := hrel
   by_cases hlt : i < n
   ·have hi1 : (i : Int) < (n : Int) := by omega
    have hi0 : (0 : Int) ≤ (i : Int) := by omega
    have hi2 : (i : Int) < (m : Int) := by have := HNM.out; omega
    have hwi : IntKind.i64.wrap ((i : Int) + 1) = (i : Int) + 1 := by have := HL.out; rw [IntKind.wrap_i64]; omega
    obtain ⟨x, hx⟩ : ∃ x, xs[i]? = some x := ⟨xs[i]'(by have := HXL.out; omega), gE (by have := HXL.out; omega)⟩
    obtain ⟨y, hy⟩ : ∃ y, ys[i]? = some y := ⟨ys[i]'(by have := HYL.out; omega), gE (by have := HYL.out; omega)⟩
    obtain ⟨b1, off, hA, hk1⟩ := row_at2 HXR.out hx
    obtain ⟨b2, off', hB, hk2⟩ := row_at2 HYR.out hy
    have HX := lh hx
    have HY := lh hy
    subst hA hB
    have HK : Hid (∀ V, Below w.heap.size w V → V.cell? ⟨b1, off + i * 5, none⟩ = some (.int .i64 x.at_) ∧ V.cell? ⟨b1, off + i * 5 + 1, none⟩ = some (.bool x.s) ∧ V.cell? ⟨b1, off + i * 5 + 2, none⟩ = some (.slice x.A x.n x.c) ∧ V.cell? ⟨b1, off + i * 5 + 3, none⟩ = some (.bool x.t) ∧ V.cell? ⟨b1, off + i * 5 + 4, none⟩ = some (.slice x.B x.m x.d) ∧ V.cell? ⟨b2, off' + i * 5, none⟩ = some (.int .i64 y.at_) ∧ V.cell? ⟨b2, off' + i * 5 + 1, none⟩ = some (.bool y.s) ∧ V.cell? ⟨b2, off' + i * 5 + 2, none⟩ = some (.slice y.A y.n y.c) ∧ V.cell? ⟨b2, off' + i * 5 + 3, none⟩ = some (.bool y.t) ∧ V.cell? ⟨b2, off' + i * 5 + 4, none⟩ = some (.slice y.B y.m y.d)) := fun V hV => by
     obtain ⟨p0, p1, p2, p3, p4⟩ := hk1 V hV
     obtain ⟨q0, q1, q2, q3, q4⟩ := hk2 V hV
     exact ⟨p0, p1, p2, p3, p4, q0, q1, q2, q3, q4⟩
    clear hx hy hk1 hk2
    obtain ⟨s0, hs0⟩ : ∃ s0, b i = s0 := ⟨_, rfl⟩
    have HS0 := lh hs0
    clear hs0
    by_cases hat : x.at_ = y.at_
    ·have g1 : (x.at_ != y.at_) = false := by rw [hat]; exact bne_self_eq_false _
     have HAT := lh hat
     clear hat
     cases s0 with
     | true =>
      go_upto_region 6 with fail
      replace HB := lh HB.out.drew
      refine wp_region_held_drew (S := (fun V => V.cell? ⟨b1, off + i * 5, none⟩ = some (.int .i64 x.at_) ∧ V.cell? ⟨b1, off + i * 5 + 1, none⟩ = some (.bool x.s) ∧ V.cell? ⟨b1, off + i * 5 + 2, none⟩ = some (.slice x.A x.n x.c) ∧ V.cell? ⟨b1, off + i * 5 + 3, none⟩ = some (.bool x.t) ∧ V.cell? ⟨b1, off + i * 5 + 4, none⟩ = some (.slice x.B x.m x.d) ∧ V.cell? ⟨b2, off' + i * 5, none⟩ = some (.int .i64 y.at_) ∧ V.cell? ⟨b2, off' + i * 5 + 1, none⟩ = some (.bool y.s) ∧ V.cell? ⟨b2, off' + i * 5 + 2, none⟩ = some (.slice y.A y.n y.c) ∧ V.cell? ⟨b2, off' + i * 5 + 3, none⟩ = some (.bool y.t) ∧ V.cell? ⟨b2, off' + i * 5 + 4, none⟩ = some (.slice y.B y.m y.d))) (by kernel_rfl) (by with_reducible exact HK.out _ HB.out) (fun hHeld => ?_)
      refine' tK 0 ?_
      try simp only [gY, gZ, aP, sT, sZ, sS]
      refine' tK 1 ?_
      try simp only [gY, gZ, gJ, aP, sT, sZ, sS]
      refine' tK 2 ?_
      try simp only [gY, gZ, gJ, aP, sT, sZ, sS]
      refine' tK 3 ?_
      try simp only [gY, gZ, gJ, aP, sT, sZ, sS]
      refine' tK 4 ?_
      try simp only [gY, gZ, gJ, aP, sT, sZ, sS]
      refine' tK 5 ?_
      try simp only [gY, gZ, gJ, aP, sT, sZ, sS]
      refine' tK 6 ?_
      try simp only [gY, gZ, gJ, aP, sT, sZ, sS]
      refine' tK 7 ?_
      try simp only [gY, gZ, gJ, aP, sT, sZ, sS]
      refine' tK 8 ?_
      try simp only [gY, gZ, gJ, aP, sT, sZ, sS]
      refine' tK 9 ?_
      try simp only [gY, gZ, gJ, aP, sT, sZ, sS]
      refine' tK 10 ?_
      try simp only [gY, gZ, gJ, aP, sT, sZ, sS]
      refine' tK 11 ?_
      try simp only [gY, gZ, gJ, aP, sT, sZ, sS]
      refine' tK 12 ?_
      try simp only [gY, gZ, gJ, aP, sT, sZ, sS]
      refine' tK 13 ?_
      try simp only [gY, gZ, gJ, aP, sT, sZ, sS]
      refine' tK 14 ?_
      try simp only [gY, gZ, gJ, aP, sT, sZ, sS]
      refine' tK 15 ?_
      try simp only [gY, gZ, gJ, aP, sT, sZ, sS]
      refine' tK 16 ?_
      try simp only [gY, gZ, gJ, aP, sT, sZ, sS]
      refine' tK 17 ?_
      try simp only [gY, gZ, gJ, aP, sT, sZ, sS]
      refine' tK 18 ?_
      try simp only [gY, gZ, gJ, aP, sT, sZ, sS]
      refine' tK 19 ?_
      try simp only [gY, gZ, gJ, aP, sT, sZ, sS]
      refine' tK 20 ?_
      try simp only [gY, gZ, gJ, aP, sT, sZ, sS]
      refine' tK 21 ?_
      try simp only [gY, gZ, gJ, aP, sT, sZ, sS]
      refine rQ 22 (fun K hK => ?_)
      try simp only [gY, gZ, gJ]
      go_simp
      with_reducible refine (HS.out i x y _ HX.out HY.out HB.out).mono ?_
      rintro e w1 ⟨rfl, hbx⟩
      replace HB := lh (below_on HB.out hbx)
      clear hbx
      refine hK.out _ _ (by with_reducible exact HK.out _ HB.out) (fun hHeld => ?_)
      clear hK K
      try simp only [aP, sT, sZ, sS]
      refine' tK 23 ?_
      try simp only [gY, gZ, gJ, aP, sT, sZ, sS]
      refine' tK 24 ?_
      try simp only [gY, gZ, gJ, aP, sT, sZ, sS]
      refine wpAnyH_done (by kernel_rfl) ?_ _
      rw [HS0.out]
      go_wp2_with fail
      go_roundw
      case rel =>
       refine ⟨i + 1, by omega, by go_num, HB, fun j hj => ?_⟩
       rcases Nat.lt_or_ge j i with h | h
       ·exact HG.out j h
       ·intro x' y' hx' hy'
        obtain rfl : j = i := by omega
        rw [HX.out] at hx'
        rw [HY.out] at hy'
        obtain rfl := oI hx'
        obtain rfl := oI hy'
        exact ⟨HAT.out, HS0.out⟩
      case measure => (simp [intOf]; omega)
     | false =>
      go_upto_region 6 with fail
      replace HB := lh HB.out.drew
      refine wp_region_held_drew (S := (fun V => V.cell? ⟨b1, off + i * 5, none⟩ = some (.int .i64 x.at_) ∧ V.cell? ⟨b1, off + i * 5 + 1, none⟩ = some (.bool x.s) ∧ V.cell? ⟨b1, off + i * 5 + 2, none⟩ = some (.slice x.A x.n x.c) ∧ V.cell? ⟨b1, off + i * 5 + 3, none⟩ = some (.bool x.t) ∧ V.cell? ⟨b1, off + i * 5 + 4, none⟩ = some (.slice x.B x.m x.d) ∧ V.cell? ⟨b2, off' + i * 5, none⟩ = some (.int .i64 y.at_) ∧ V.cell? ⟨b2, off' + i * 5 + 1, none⟩ = some (.bool y.s) ∧ V.cell? ⟨b2, off' + i * 5 + 2, none⟩ = some (.slice y.A y.n y.c) ∧ V.cell? ⟨b2, off' + i * 5 + 3, none⟩ = some (.bool y.t) ∧ V.cell? ⟨b2, off' + i * 5 + 4, none⟩ = some (.slice y.B y.m y.d))) (by kernel_rfl) (by with_reducible exact HK.out _ HB.out) (fun hHeld => ?_)
      refine' tK 0 ?_
      try simp only [gY, gZ, aP, sT, sZ, sS]
      refine' tK 1 ?_
      try simp only [gY, gZ, gJ, aP, sT, sZ, sS]
      refine' tK 2 ?_
      try simp only [gY, gZ, gJ, aP, sT, sZ, sS]
      refine' tK 3 ?_
      try simp only [gY, gZ, gJ, aP, sT, sZ, sS]
      refine' tK 4 ?_
      try simp only [gY, gZ, gJ, aP, sT, sZ, sS]
      refine' tK 5 ?_
      try simp only [gY, gZ, gJ, aP, sT, sZ, sS]
      refine' tK 6 ?_
      try simp only [gY, gZ, gJ, aP, sT, sZ, sS]
      refine' tK 7 ?_
      try simp only [gY, gZ, gJ, aP, sT, sZ, sS]
      refine' tK 8 ?_
      try simp only [gY, gZ, gJ, aP, sT, sZ, sS]
      refine' tK 9 ?_
      try simp only [gY, gZ, gJ, aP, sT, sZ, sS]
      refine' tK 10 ?_
      try simp only [gY, gZ, gJ, aP, sT, sZ, sS]
      refine' tK 11 ?_
      try simp only [gY, gZ, gJ, aP, sT, sZ, sS]
      refine' tK 12 ?_
      try simp only [gY, gZ, gJ, aP, sT, sZ, sS]
      refine' tK 13 ?_
      try simp only [gY, gZ, gJ, aP, sT, sZ, sS]
      refine' tK 14 ?_
      try simp only [gY, gZ, gJ, aP, sT, sZ, sS]
      refine' tK 15 ?_
      try simp only [gY, gZ, gJ, aP, sT, sZ, sS]
      refine' tK 16 ?_
      try simp only [gY, gZ, gJ, aP, sT, sZ, sS]
      refine' tK 17 ?_
      try simp only [gY, gZ, gJ, aP, sT, sZ, sS]
      refine' tK 18 ?_
      try simp only [gY, gZ, gJ, aP, sT, sZ, sS]
      refine' tK 19 ?_
      try simp only [gY, gZ, gJ, aP, sT, sZ, sS]
      refine' tK 20 ?_
      try simp only [gY, gZ, gJ, aP, sT, sZ, sS]
      refine' tK 21 ?_
      try simp only [gY, gZ, gJ, aP, sT, sZ, sS]
      refine rQ 22 (fun K hK => ?_)
      try simp only [gY, gZ, gJ]
      go_simp
      with_reducible refine (HS.out i x y _ HX.out HY.out HB.out).mono ?_
      rintro e w2 ⟨rfl, hbx⟩
      replace HB := lh (below_on HB.out hbx)
      clear hbx
      refine hK.out _ _ (by with_reducible exact HK.out _ HB.out) (fun hHeld => ?_)
      clear hK K
      try simp only [aP, sT, sZ, sS]
      refine' tK 23 ?_
      try simp only [gY, gZ, gJ, aP, sT, sZ, sS]
      refine' tK 24 ?_
      try simp only [gY, gZ, gJ, aP, sT, sZ, sS]
      refine wpAnyH_done (by kernel_rfl) ?_ _
      rw [HS0.out]
      go_wp2_with fail
      have HE : Hid (false = v) := BV.out false ⟨fun h => (by cases h), fun h => by have h2 := (h.2 i x y HX.out HY.out).2; rw [HS0.out] at h2; exact h2⟩
      go_ret
      rw [← HE.out]
      exact ⟨rfl, HB.out⟩
    ·have g1 : (x.at_ != y.at_) = true := bne_iff_ne.2 hat
     have HE : Hid (false = v) := BV.out false ⟨fun h => (by cases h), fun h => absurd (h.2 i x y HX.out HY.out).1 hat⟩
     clear hat
     go_upto_region 6 with fail
     replace HB := lh HB.out.drew
     refine wp_region_held_drew (S := (fun V => V.cell? ⟨b1, off + i * 5, none⟩ = some (.int .i64 x.at_) ∧ V.cell? ⟨b1, off + i * 5 + 1, none⟩ = some (.bool x.s) ∧ V.cell? ⟨b1, off + i * 5 + 2, none⟩ = some (.slice x.A x.n x.c) ∧ V.cell? ⟨b1, off + i * 5 + 3, none⟩ = some (.bool x.t) ∧ V.cell? ⟨b1, off + i * 5 + 4, none⟩ = some (.slice x.B x.m x.d) ∧ V.cell? ⟨b2, off' + i * 5, none⟩ = some (.int .i64 y.at_) ∧ V.cell? ⟨b2, off' + i * 5 + 1, none⟩ = some (.bool y.s) ∧ V.cell? ⟨b2, off' + i * 5 + 2, none⟩ = some (.slice y.A y.n y.c) ∧ V.cell? ⟨b2, off' + i * 5 + 3, none⟩ = some (.bool y.t) ∧ V.cell? ⟨b2, off' + i * 5 + 4, none⟩ = some (.slice y.B y.m y.d))) (by kernel_rfl) (by with_reducible exact HK.out _ HB.out) (fun hHeld => ?_)
     refine' tK 0 ?_
     try simp only [gY, gZ, aP, sT, sZ, sS]
     refine' tK 1 ?_
     try simp only [gY, gZ, gJ, aP, sT, sZ, sS]
     refine' tK 2 ?_
     try simp only [gY, gZ, gJ, aP, sT, sZ, sS]
     refine' tK 3 ?_
     try simp only [gY, gZ, gJ, aP, sT, sZ, sS]
     refine' tK 4 ?_
     try simp only [gY, gZ, gJ, aP, sT, sZ, sS]
     refine' tK 5 ?_
     try simp only [gY, gZ, gJ, aP, sT, sZ, sS]
     refine' tK 6 ?_
     try simp only [gY, gZ, gJ, aP, sT, sZ, sS]
     refine' tK 7 ?_
     try simp only [gY, gZ, gJ, aP, sT, sZ, sS]
     refine' tK 8 ?_
     try simp only [gY, gZ, gJ, aP, sT, sZ, sS]
     refine' tK 9 ?_
     try simp only [gY, gZ, gJ, aP, sT, sZ, sS]
     refine' tK 10 ?_
     try simp only [gY, gZ, gJ, aP, sT, sZ, sS]
     refine' tK 11 ?_
     try simp only [gY, gZ, gJ, aP, sT, sZ, sS]
     refine sK 12 ?_
     try simp only [gY, gZ, gJ, aP, sT, sZ, sS]
     refine sK 13 ?_
     try simp only [gY, gZ, gJ, aP, sT, sZ, sS]
     refine sK 14 ?_
     try simp only [gY, gZ, gJ, aP, sT, sZ, sS]
     refine sK 15 ?_
     try simp only [gY, gZ, gJ, aP, sT, sZ, sS]
     refine sK 16 ?_
     try simp only [gY, gZ, gJ, aP, sT, sZ, sS]
     refine sK 17 ?_
     try simp only [gY, gZ, gJ, aP, sT, sZ, sS]
     refine sK 18 ?_
     try simp only [gY, gZ, gJ, aP, sT, sZ, sS]
     refine sK 19 ?_
     try simp only [gY, gZ, gJ, aP, sT, sZ, sS]
     refine sK 20 ?_
     try simp only [gY, gZ, gJ, aP, sT, sZ, sS]
     refine sK 21 ?_
     try simp only [gY, gZ, gJ, aP, sT, sZ, sS]
     refine sK 22 ?_
     try simp only [gY, gZ, gJ, aP, sT, sZ, sS]
     refine sK 23 ?_
     try simp only [gY, gZ, gJ, aP, sT, sZ, sS]
     refine' tK 24 ?_
     try simp only [gY, gZ, gJ, aP, sT, sZ, sS]
     refine wpAnyH_done (by kernel_rfl) ?_ _
     go_wp2_with fail
     go_ret
     rw [← HE.out]
     exact ⟨rfl, HB.out⟩
   ·have hi1 : ¬ (i : Int) < (n : Int) := by omega
    have HE : Hid (true = v) := BV.out true ⟨fun _ => ⟨HNM.out, fun j => by
     rcases Nat.lt_or_ge j i with h | h
     ·exact HG.out j h
     ·intro x y hx
      have h2 := (List.getElem?_eq_some_iff.1 hx).1
      have := HXL.out
      omega⟩, fun _ => rfl⟩
    go_wp2_with fail
    go_ret
    rw [← HE.out]
    exact ⟨rfl, HB.out⟩
 ·have g0 : ((n : Int) != (m : Int)) = true := bne_iff_ne.2 (by omega)
  have HE : Hid (false = v) := bv false ⟨fun h => (by cases h), fun h => absurd h.1 hnm⟩
  clear hx hy hn hm hl hs hv hnm bv
  go_enter Tryz.func17, Tryz.ntmps17
  go_wp2_with fail
  go_ret
  rw [← HE.out]
  exact ⟨rfl, HB.out⟩
def ShortAll (ys : List (TV × Rat)) (N k : Nat) : Prop := ys.length ≤ N ∧ ∀ y ∈ ys, y.1.n ≤ k ∧ y.1.m ≤ k
theorem IsV.short {w : World} {A : Option Addr} {n c k l N : Nat} {ys : List (TV × Rat)} (h : IsV w A n c ys l) (hs : ShortAll ys N k) : IsV w A n c ys k := ⟨h.en, h.cap, h.row, fun y hy => ⟨⟨(h.tq y hy).1.ex, (hs.2 y hy).1, (hs.2 y hy).2, (h.tq y hy).1.cap, (h.tq y hy).1.cap2⟩, (h.tq y hy).2⟩⟩
theorem shortvec_any {w : World} {A : Option Addr} {n c l : Nat} {ys : List (TV × Rat)} (hx : IsV w A n c ys l) (N k : Nat) (hN : N ≤ 1000000) (v : Bool) (hv : v = true ↔ ShortAll ys N k) : Calls Tryz.prog 13 #[.slice A n c, .int .i64 (N : Int), .int .i64 (k : Int)] w (RetB w v) := by
 have H := lh hx
 have HLEN := lh hx.en
 have HN := lh hN
 have HV := lh hv
 have BV : Hid (∀ c : Bool, (c = true ↔ ShortAll ys N k) → c = v) := fun c hc => Bool.eq_iff_iff.2 (hc.trans HV.out.symm)
 have HB := lh (Below.refl w.heap.size w)
 by_cases hnm : n ≤ N
 ·have g0 : ¬ (N : Int) < (n : Int) := by omega
  have HNM := lh hnm
  clear hx hN hv hnm
  go_enter Tryz.func13, Tryz.ntmps13
  go_wp2_with fail
  go_loopw [7] (fun iv wr => ∃ i : Nat, i ≤ n ∧ iv = .int .i64 (i : Int) ∧ Hid (Below w.heap.size w wr) ∧ Hid (∀ j y, j < i → ys[j]? = some y → y.1.n ≤ k ∧ y.1.m ≤ k)) (fun iv _ => n - (intOf iv).toNat)
  case atStart => exact ⟨0, Nat.zero_le _, rfl, HB, fun j _ hj => absurd hj (Nat.not_lt_zero j)⟩
  case round =>
   clear HB
   obtain ⟨i, hi, rfl, HB, HG⟩ := hrel
   by_cases hlt : i < n
   ·have hi1 : (i : Int) < (n : Int) := by omega
    have hi0 : (0 : Int) ≤ (i : Int) := by omega
    have hwi : IntKind.i64.wrap ((i : Int) + 1) = (i : Int) + 1 := by have := HN.out; have := HNM.out; rw [IntKind.wrap_i64]; omega
    obtain ⟨y, hy⟩ : ∃ y, ys[i]? = some y := ⟨ys[i]'(by have := HLEN.out; omega), gE (by have := HLEN.out; omega)⟩
    obtain ⟨b1, off, hA, hk1⟩ := row_at2 H.out.row (j := i) (x := y.1) (by rw [gM, hy]; rfl)
    obtain ⟨c0, c1, c2, c3, c4⟩ := hk1 _ HB.out
    subst hA
    have HY := lh hy
    obtain ⟨y1, y2⟩ := y
    obtain ⟨v1, hv1⟩ : ∃ v1, decide (y1.n ≤ k ∧ y1.m ≤ k) = v1 := ⟨_, rfl⟩
    have HV1 := lh hv1
    simp only at c0 c1 c2 c3 c4
    clear hy hk1 hv1
    go_wp2_with fail
    refine (Q.shortrat_j _ _ _ _ _ _ _ _ _ k v1 HV1.out).mono ?_
    rintro e w2 ⟨rfl, hb2⟩
    replace HB := lh (below_on HB.out hb2)
    clear c0 c1 c2 c3 c4 hb2
    cases v1 with
    | true =>
     go_wp2_with fail
     go_roundw
     case rel =>
      refine ⟨i + 1, by omega, by go_num, HB, fun j z hj hz => ?_⟩
      rcases Nat.lt_or_ge j i with h | h
      ·exact HG.out j z h hz
      ·obtain rfl : j = i := by omega
       rw [HY.out] at hz
       obtain rfl := oI hz
       exact of_decide_eq_true HV1.out
     case measure => (simp [intOf]; omega)
    | false =>
     have HE : Hid (false = v) := BV.out false ⟨fun h => (by cases h), fun h => absurd (h.2 _ (List.mem_of_getElem? HY.out)) (of_decide_eq_false HV1.out)⟩
     go_wp2_with fail
     go_ret
     rw [← HE.out]
     exact ⟨rfl, HB.out⟩
   ·have hi1 : ¬ (i : Int) < (n : Int) := by omega
    have HE : Hid (true = v) := BV.out true ⟨fun _ => ⟨by have := HLEN.out; have := HNM.out; omega, fun y hy => by
     obtain ⟨j, hj, rfl⟩ := List.getElem_of_mem hy
     exact HG.out j _ (by have := HLEN.out; omega) (gE hj)⟩, fun _ => rfl⟩
    go_wp2_with fail
    go_ret
    rw [← HE.out]
    exact ⟨rfl, HB.out⟩
 ·have g0 : (N : Int) < (n : Int) := by omega
  have HE : Hid (false = v) := BV.out false ⟨fun h => (by cases h), fun h => by have h1 := h.1; rw [← hx.en] at h1; exact absurd h1 hnm⟩
  clear hx hN hv hnm
  go_enter Tryz.func13, Tryz.ntmps13
  go_wp2_with fail
  go_ret
  rw [← HE.out]
  exact ⟨rfl, HB.out⟩
theorem samevec_c {w : World} {A B : Option Addr} {n c m d : Nat} {F G : Int → Rat} (hx : CF w A n c F) (hy : CF w B m d G) (hn : n ≤ 1000000) (v : Bool) (hv : v = true ↔ F = G) : Calls Tryz.prog 17 #[.slice A n c, .slice B m d] w (RetB w v) := by
 obtain ⟨xs, h1, h2, h3⟩ := hx.ex
 obtain ⟨ys, g1, g2, g3⟩ := hy.ex
 have hb : ∃ b : Nat → Bool, ∀ j x y, xs[j]? = some x → ys[j]? = some y → b j = decide (x.2 = y.2) := by
  refine ⟨fun j => decide ((xs[j]?.map Prod.snd) = (ys[j]?.map Prod.snd)), fun j x y hx hy => ?_⟩
  simp [hx, hy]
 obtain ⟨b, hb⟩ := hb
 have at1 : ∀ (zs : List (TV × Rat)) (j : Nat) (x : TV), (zs.map Prod.fst)[j]? = some x → ∃ q : Rat, zs[j]? = some (x, q) := by
  intro zs j x h
  rw [gM] at h
  obtain ⟨z, hz, rfl⟩ := Option.map_eq_some_iff.1 h
  exact ⟨z.2, hz⟩
 refine samevec_any h1.row g1.row (by rw [List.length_map]; exact h1.en) (by rw [List.length_map]; exact g1.en) hn b ?_ v ?_
 ·intro j x y W hxj hyj hW
  obtain ⟨p, hp⟩ := at1 xs j x hxj
  obtain ⟨q, hq⟩ := at1 ys j y hyj
  have o1 := (h3 _ (List.mem_of_getElem? hp)).below hW
  have o2 := (g3 _ (List.mem_of_getElem? hq)).below hW
  have hl : ql p ≤ 100000 := Nat.le_trans ((h1.tq _ (List.mem_of_getElem? hp)).1.ql (by omega)) (by omega)
  rw [hb j _ _ hp hq]
  exact Q.rat_j o1 o2 hl _ rfl
 ·rw [hv]
  constructor
  ·rintro rfl
   have e : vals xs = vals ys := (cf_eq h1 h2 g1 g2).2 rfl
   refine ⟨by rw [h1.en, g1.en, ← vals_len, e, vals_len], fun j x y hxj hyj => ?_⟩
   obtain ⟨p, hp⟩ := at1 xs j x hxj
   obtain ⟨q, hq⟩ := at1 ys j y hyj
   have e1 : (vals xs)[j]? = some (x.at_, p) := by unfold vals; rw [gM, hp]; rfl
   have e2 : (vals ys)[j]? = some (y.at_, q) := by unfold vals; rw [gM, hq]; rfl
   rw [e, e2] at e1
   obtain ⟨k1, k2⟩ := Prod.mk.inj (oI e1)
   exact ⟨k1.symm, by rw [hb j _ _ hp hq]; exact decide_eq_true k2.symm⟩
  ·rintro ⟨hl, hj⟩
   refine (cf_eq h1 h2 g1 g2).1 (List.ext_getElem? fun j => ?_)
   unfold vals
   rw [gM, gM]
   cases hx : xs[j]? with
   | none =>
    have := List.getElem?_eq_none_iff.1 hx
    rw [List.getElem?_eq_none (by rw [← g1.en, ← hl, h1.en]; exact this)]
   | some x =>
    obtain ⟨hj1, _⟩ := List.getElem?_eq_some_iff.1 hx
    obtain ⟨y, hy⟩ : ∃ y, ys[j]? = some y := ⟨_, gE (by rw [← g1.en, ← hl, h1.en]; exact hj1)⟩
    obtain ⟨k1, k2⟩ := hj j x.1 y.1 (by rw [gM, hx]; rfl) (by rw [gM, hy]; rfl)
    rw [hb j _ _ hx hy] at k2
    rw [hy]
    show some (x.1.at_, x.2) = some (y.1.at_, y.2)
    rw [k1, of_decide_eq_true k2]
end V

namespace V
open Go.RowKit
open Q (IsQ OneQ RetQ below_on ql Qbx IsRow isq_rows)
def RowR (w : World) (A : Option Addr) (xs : List TV) : Prop :=
 xs ≠ [] → ∃ b off, A = some ⟨b, off, none⟩ ∧ b < w.heap.size ∧ ∀ j x, xs[j]? = some x → w.cell? ⟨b, off + j * 4, none⟩ = some (.bool x.s) ∧ w.cell? ⟨b, off + j * 4 + 1, none⟩ = some (.slice x.A x.n x.c) ∧ w.cell? ⟨b, off + j * 4 + 2, none⟩ = some (.bool x.t) ∧ w.cell? ⟨b, off + j * 4 + 3, none⟩ = some (.slice x.B x.m x.d)
structure IsL (w : World) (A : Option Addr) (n c : Nat) (ys : List (TV × Rat)) (k : Nat) : Prop where
 en : n = ys.length
 cap : n ≤ c
 row : RowR w A (ys.map Prod.fst)
 tq : ∀ y ∈ ys, IsQ w y.1.s y.1.A y.1.n y.1.c y.1.t y.1.B y.1.m y.1.d y.2 k
 at_ : ∀ (j : Nat) y, ys[j]? = some y → y.1.at_ = (j : Int)
theorem IsL.below {w w' : World} {A : Option Addr} {n c k : Nat} {ys : List (TV × Rat)} (h : IsL w A n c ys k) (hb : Below w.heap.size w w') : IsL w' A n c ys k := by
 refine ⟨h.en, h.cap, fun hne => ?_, fun y hy => (h.tq y hy).below hb, h.at_⟩
 obtain ⟨b, off, e, hlt, hc⟩ := h.row hne
 refine ⟨b, off, e, Nat.lt_of_lt_of_le hlt hb.size, fun j x hj => ?_⟩
 obtain ⟨c0, c1, c2, c3⟩ := hc j x hj
 exact ⟨(hb.cell (p := ⟨b, off + j * 4, none⟩) hlt).trans c0, (hb.cell (p := ⟨b, off + j * 4 + 1, none⟩) hlt).trans c1, (hb.cell (p := ⟨b, off + j * 4 + 2, none⟩) hlt).trans c2, (hb.cell (p := ⟨b, off + j * 4 + 3, none⟩) hlt).trans c3⟩
theorem IsL.get {w : World} {A : Option Addr} {n c k : Nat} {ys : List (TV × Rat)} (h : IsL w A n c ys k) {j : Nat} {y : TV × Rat} (hj : ys[j]? = some y) : ∃ b off, A = some ⟨b, off, none⟩ ∧
  w.cell? ⟨b, off + j * 4, none⟩ = some (.bool y.1.s) ∧ w.cell? ⟨b, off + j * 4 + 1, none⟩ = some (.slice y.1.A y.1.n y.1.c) ∧ w.cell? ⟨b, off + j * 4 + 2, none⟩ = some (.bool y.1.t) ∧ w.cell? ⟨b, off + j * 4 + 3, none⟩ = some (.slice y.1.B y.1.m y.1.d) := by
 have h1 : (ys.map Prod.fst)[j]? = some y.1 := by rw [gM, hj]; rfl
 obtain ⟨b, off, e, _, hc⟩ := h.row (by intro e; rw [e] at h1; cases h1)
 exact ⟨b, off, e, hc j _ h1⟩
set_option maxRecDepth 100000
theorem IsL.up {w : World} {A : Option Addr} {n c k : Nat} {ys : List (TV × Rat)} (h : IsL w A n c ys k) : (vals ys).Pairwise (fun x y => x.1 < y.1) := by
 rw [List.pairwise_iff_getElem]
 intro i j hi hj hij
 rw [vals_len] at hi hj
 have h1 := h.at_ i _ (gE hi)
 have h2 := h.at_ j _ (gE hj)
 have e1 : (vals ys)[i]'(by rw [vals_len]; exact hi) = (ys[i].1.at_, ys[i].2) := by simp [vals]
 have e2 : (vals ys)[j]'(by rw [vals_len]; exact hj) = (ys[j].1.at_, ys[j].2) := by simp [vals]
 rw [e1, e2]
 show ys[i].1.at_ < ys[j].1.at_
 omega
