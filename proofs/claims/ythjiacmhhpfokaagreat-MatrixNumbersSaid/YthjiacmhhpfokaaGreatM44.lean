/- Part 44 of the proof: VSameRats, VRMath, VSameW, VRRight, MxRight. -/
import Derived.Test.YthjiacmhhpfokaaGreatM36
namespace Go.Proofs.YthjiacmhhpfokaaGreat
namespace V
open Go.RowKit
open Q (IsQ OneQ RetQ below_on ql Qbx)
end V

namespace V
open Go.RowKit
open Q (IsQ OneQ RetQ below_on ql Qbx dden)
theorem isq_same {w : World} {s t : Bool} {A B : Option Addr} {n c m d k l : Nat} {q r : Rat} (h : IsQ w s A n c t B m d q k) (g : IsQ w s A n c t B m d r l) : q = r := by
 obtain ⟨xs, ys, h1, h2, h3, h4, h5⟩ := h.ex
 obtain ⟨us, vs, g1, g2, g3, g4, g5⟩ := g.ex
 obtain rfl := num_same h3 g3 (h1.symm.trans g1)
 obtain rfl := num_same h4 g4 (h2.symm.trans g2)
 exact h5.symm.trans g5
structure RowOK (N : Int) (y z : TV × Rat) (us vs : List Nat) : Prop where
 at_ : y.1.at_ = z.1.at_
 lo : 0 ≤ y.1.at_
 hi : y.1.at_ < N
 s : y.1.s = z.1.s
 t : y.1.t = z.1.t
 us : us = YthjiacmhhpfokaaGreat.dig z.2.num.natAbs
 vs : vs = dden z.2
theorem RowOK.one {w : World} {N : Int} {y z : TV × Rat} {us vs : List Nat} {k : Nat} (h : RowOK N y z us vs) (hy : IsQ w y.1.s y.1.A y.1.n y.1.c y.1.t y.1.B y.1.m y.1.d y.2 k) (hn : y.1.n = us.length) (hm : y.1.m = vs.length) (hu : Num w y.1.A us) (hv : Num w y.1.B vs) (hz : OneQ w z.1.s z.1.A z.1.n z.1.c z.1.t z.1.B z.1.m z.1.d z.2) (hq : ql z.2 ≤ 700) :
  OneQ w y.1.s y.1.A y.1.n y.1.c y.1.t y.1.B y.1.m y.1.d y.2 ∧ y.2 = z.2 := by
 have h1 : OneQ w y.1.s y.1.A y.1.n y.1.c y.1.t y.1.B y.1.m y.1.d z.2 := by
  refine ⟨h.s.trans hz.es, ?_, h.t.trans hz.et, ?_, h.us ▸ hu, h.vs ▸ hv, hy.cap, hy.cap2⟩
  ·rw [hn, h.us]
  ·rw [hm, h.vs]
 have e : y.2 = z.2 := isq_same hy (h1.isq hq)
 exact ⟨e ▸ h1, e⟩
theorem RowOK.of {w : World} {N : Int} {y z : TV × Rat} {us vs : List Nat} (hat : y.1.at_ = z.1.at_) (h0 : 0 ≤ y.1.at_) (h1 : y.1.at_ < N) (ho : OneQ w y.1.s y.1.A y.1.n y.1.c y.1.t y.1.B y.1.m y.1.d y.2) (e : y.2 = z.2) (hn : y.1.n = us.length) (hm : y.1.m = vs.length) (hu : Num w y.1.A us) (hv : Num w y.1.B vs) (hz : OneQ w z.1.s z.1.A z.1.n z.1.c z.1.t z.1.B z.1.m z.1.d z.2) : RowOK N y z us vs := by
 refine ⟨hat, h0, h1, ?_, ?_, ?_, ?_⟩
 ·rw [ho.es, hz.es, e]
 ·rw [ho.et, hz.et]
 ·rw [← e]; exact num_same hu ho.num (hn.symm.trans ho.en)
 ·rw [← e]; exact num_same hv ho.den (hm.symm.trans ho.em)
structure Digs (w : World) (ys : List (TV × Rat)) (U V : Nat → List Nat) : Prop where
 at_ : ∀ j y, ys[j]? = some y → y.1.n = (U j).length ∧ y.1.m = (V j).length ∧ Num w y.1.A (U j) ∧ Num w y.1.B (V j)
theorem Digs.below {w w' : World} {ys : List (TV × Rat)} {U V : Nat → List Nat} (h : Digs w ys U V) (hb : Below w.heap.size w w') : Digs w' ys U V :=
 ⟨fun j y hy => by obtain ⟨h1, h2, h3, h4⟩ := h.at_ j y hy; exact ⟨h1, h2, h3.below hb, h4.below hb⟩⟩
theorem rightv_below {w w' : World} {A : Option Addr} {n c k : Nat} {N : Int} {ys : List (TV × Rat)} (h : IsV w A n c ys k) (hb : Below w.heap.size w w') : RightV w N ys ↔ RightV w' N ys := by
 constructor
 ·intro hr j y hy
  obtain ⟨g1, g2, g3, g4, g5⟩ := hr j y hy
  exact ⟨g1, g2, g3, g4, g5.below hb⟩
 ·intro hr j y hy
  obtain ⟨g1, g2, g3, g4, g5⟩ := hr j y hy
  exact ⟨g1, g2, g3, g4, oneq_back (h.tq y (List.mem_of_getElem? hy)).1 hb g5⟩
def DL (w : World) (A : Option Addr) (n c : Nat) (F : Int → Rat) : Prop := ∃ zs, IsL w A n c zs 700 ∧ ∀ (j : Nat) y, zs[j]? = some y → OneQ w y.1.s y.1.A y.1.n y.1.c y.1.t y.1.B y.1.m y.1.d y.2 ∧ y.2 = F (j : Int)
theorem DL.below {w w' : World} {A : Option Addr} {n c : Nat} {F : Int → Rat} (h : DL w A n c F) (hb : Below w.heap.size w w') : DL w' A n c F := by
 obtain ⟨zs, h1, h2⟩ := h
 exact ⟨zs, h1.below hb, fun j y hy => ⟨(h2 j y hy).1.below hb, (h2 j y hy).2⟩⟩
end V

namespace V
open Go.RowKit
end V

namespace V
open Go.RowKit
open Q (IsQ OneQ RetQ below_on ql Qbx dden)
section
variable {P : Program} {ops : Array Oper} {Q : Exit → Act → World → Prop} {md : Region.Mode}
end
open List renaming getElem_toArray → gT, getElem_cons_zero → gZ, getElem_cons_succ → gS, setIfInBounds_toArray → sT, set_cons_zero → sZ, set_cons_succ → sS
theorem right_b {w : World} {A : Option Addr} {n c k : Nat} {ys : List (TV × Rat)} (h : IsV w A n c ys k) (hk : 1 ≤ k) (hk2 : k ≤ 700) (hn : n ≤ 1000) (N : Int) (v : Bool) (hvv : v = true ↔ RightV w N ys) : Calls Tryz.prog 35 #[.slice A n c, .int .i64 N] w (RetB w v) := by
 refine (right_any h hk hk2 (by omega) N).mono ?_
 rintro e w' ⟨v', rfl, hv', hb⟩
 obtain rfl : v' = v := Bool.eq_iff_iff.2 (hv'.trans hvv.symm)
 exact ⟨rfl, hb⟩
end V

namespace V
open Lib renaming hid → lh
open Go.RowKit
open Q (IsQ OneQ RetQ below_on ql Qbx)
def RightM (w : World) (N : Int) (vs : List SV) : Prop := 0 ≤ N ∧ ∀ u ∈ vs, RightV w N u.ys
theorem rightm_snoc {w : World} {N : Int} {vs : List SV} {k : Nat} {u : SV} (h : ∀ j u, j < k → vs[j]? = some u → RightV w N u.ys) (hu : vs[k]? = some u) (h2 : RightV w N u.ys) : ∀ j u, j < k + 1 → vs[j]? = some u → RightV w N u.ys := fun j s hj hs => by
 by_cases e : j = k
 ·subst e; obtain rfl : u = s := Option.some.inj (hu.symm.trans hs); exact h2
 ·exact h j s (by omega) hs
theorem rightm_all {w : World} {N : Int} {vs : List SV} {k : Nat} (h : ∀ j u, j < k → vs[j]? = some u → RightV w N u.ys) (hk : vs.length ≤ k) : ∀ u ∈ vs, RightV w N u.ys := fun u hu => by
 obtain ⟨j, hj⟩ := List.getElem?_of_mem hu
 exact h j u (by have := (List.getElem?_eq_some_iff.1 hj).1; omega) hj
set_option maxRecDepth 100000 in
set_option maxHeartbeats 4000000 in
theorem mright_b {w : World} {A : Option Addr} {n c p m L : Nat} {vs : List SV} {N : Int} (hm : MX w A n c vs) (hr : MR p m L (colsOf vs)) (hp : p ≤ 700) (hm7 : m + 1 ≤ 700) (hL : L ≤ 1000) (v : Bool) (hv : v = true ↔ RightM w N vs) :
  Calls Tryz.prog 46 #[.slice A n c, .int .i64 N] w (RetB w v) := by
 have HM := lh hm
 have HR := lh hr
 have HS : Hid (p ≤ 700 ∧ m + 1 ≤ 700 ∧ L ≤ 1000) := ⟨hp, hm7, hL⟩
 have HV := lh hv
 have HEN := lh hm.en
 have HLE : Hid (n ≤ 1000) := hm.le
 have HNO : Hid (¬ RightM w N vs → v = false) := fun hn => by
  cases v with
  | false => rfl
  | true => exact absurd (HV.out.1 rfl) hn
 clear hm hr hp hm7 hL hv
 by_cases h0 : N < 0
 ·have HF : Hid (v = false) := HNO.out (fun h => by have := h.1; omega)
  go_enter Tryz.func46, Tryz.ntmps46
  go_wp2_with fail
  exact ⟨rfl, .bool false, by simp [results, Tryz.results46, go_sem], by rw [HF.out], Below.refl _ _⟩
 go_enter Tryz.func46, Tryz.ntmps46
 go_wp2_with fail
 go_loopw [11] (fun kv wr => ∃ k : Nat, k ≤ n ∧ kv = .int .i64 (k : Int) ∧ Hid (∀ (j : Nat) (u : SV), j < k → vs[j]? = some u → RightV w N u.ys) ∧ Hid (Below w.heap.size w wr)) (fun kv _ => n - (intOf kv).toNat)
 case atStart => exact ⟨0, Nat.zero_le _, rfl, (fun j u hj => absurd hj (Nat.not_lt_zero j)), Below.refl _ _⟩
 case round =>
  obtain ⟨k, hk, rfl, HJ, HB⟩ := hrel
  by_cases hlk : k < n
  ·have hk1 : (k : Int) < (n : Int) := by omega
   have hk0 : (0 : Int) ≤ (k : Int) := by omega
   have hwk : IntKind.i64.wrap ((k : Int) + 1) = (k : Int) + 1 := by have := HLE.out; rw [IntKind.wrap_i64]; omega
   obtain ⟨u, hu⟩ : ∃ u, vs[k]? = some u := ⟨vs[k]'(by have := HEN.out; omega), List.getElem?_eq_getElem (by have := HEN.out; omega)⟩
   obtain ⟨b1, off, hA, hk2⟩ := rows_at HM.out.row hu
   have c0 := hk2 _ HB.out
   have HU := lh ((HM.out.isv u (List.mem_of_getElem? hu)))
   have HUW := lh (HM.out.vf hu)
   have HUI := lh hu
   have HCO : Hid (tot (vals u.ys) = col (colsOf vs) k) := (col_of hu).symm
   obtain ⟨b, hb⟩ := iff_dec (RightV w N u.ys)
   have HBI := lh hb
   subst hA
   clear hu hk2 hb
   go_wp2_with fail
   clear c0
   refine (right_b (HU.out.1.below HB.out) (by omega) (Nat.le_refl _) HU.out.2.2.1 N b (HBI.out.trans (rightv_below HU.out.1 HB.out))).mono ?_
   rintro e w1 ⟨rfl, hb⟩
   have HB1 := lh (below_on HB.out hb)
   clear hb
   cases b with
   | false =>
    have HF : Hid (v = false) := HNO.out (fun h => by have h9 := HBI.out.2 (h.2 u (List.mem_of_getElem? HUI.out)); cases h9)
    go_wp2_with fail
    exact ⟨rfl, .bool false, by simp [results, Tryz.results46, go_sem], by rw [HF.out], HB1.out⟩
   | true =>
    have HJ2 : Hid (∀ (j : Nat) (u : SV), j < k + 1 → vs[j]? = some u → RightV w N u.ys) := rightm_snoc HJ.out HUI.out (HBI.out.1 rfl)
    clear HJ HB
    go_wp2_with fail
    go_roundw
    case rel => exact ⟨k + 1, by omega, by go_num, HJ2, HB1⟩
    case measure => (simp [intOf]; omega)
  ·have hk1 : ¬ (k : Int) < (n : Int) := by omega
   have HA : Hid (∀ u ∈ vs, RightV w N u.ys) := rightm_all HJ.out (by have := HEN.out; omega)
   have HT : Hid (v = true) := HV.out.2 ⟨by omega, HA.out⟩
   go_wp2_with fail
   exact ⟨rfl, .bool true, by simp [results, Tryz.results46, go_sem], by rw [HT.out], HB.out⟩
