/- Part 30 of the proof: VRight, VTerm, VDense, VLit, VOne. -/
import Derived.Test.YthjiacmhhpfokaaGreatM29
namespace Go.Proofs.YthjiacmhhpfokaaGreat
open Option.some renaming inj → oI
namespace V
open Lib renaming hid → lh
open Go.RowKit
open Q (IsQ OneQ RetQ below_on ql Qbx qsign qsign_zero_iff)
theorem oneq_back {w W : World} {s t : Bool} {A B : Option Addr} {n c m d k : Nat} {q : Rat} (h : IsQ w s A n c t B m d q k) (hb : Below w.heap.size w W) (o : OneQ W s A n c t B m d q) : OneQ w s A n c t B m d q := by
 obtain ⟨xs, ys, hn, hm, hx, hy, _⟩ := h.ex
 have e1 : xs = dig q.num.natAbs := num_same (hx.below hb) o.num (hn.symm.trans o.en)
 have e2 : ys = Q.dden q := num_same (hy.below hb) o.den (hm.symm.trans o.em)
 exact ⟨o.es, o.en, o.et, o.em, e1 ▸ hx, e2 ▸ hy, o.cap, o.cap2⟩
def GoodAt (w : World) (N : Int) (ys : List (TV × Rat)) (j : Nat) : Prop :=
 ∀ y, ys[j]? = some y → 0 ≤ y.1.at_ ∧ y.1.at_ < N ∧ (∀ z, 0 < j → ys[j - 1]? = some z → z.1.at_ < y.1.at_) ∧ y.2 ≠ 0 ∧ OneQ w y.1.s y.1.A y.1.n y.1.c y.1.t y.1.B y.1.m y.1.d y.2
def RightV (w : World) (N : Int) (ys : List (TV × Rat)) : Prop := ∀ j, GoodAt w N ys j
def RetR (w : World) (N : Int) (ys : List (TV × Rat)) (e : Ending) (w' : World) : Prop := ∃ v, e = .returned (.bool v) ∧ (v = true ↔ RightV w N ys) ∧ Below w.heap.size w w'
theorem retr_no {w w' : World} {N : Int} {ys : List (TV × Rat)} (h : ¬ RightV w N ys) (hb : Below w.heap.size w w') : RetR w N ys (.returned (.bool false)) w' := ⟨false, rfl, ⟨fun h2 => (by cases h2), fun h2 => absurd h2 h⟩, hb⟩
set_option maxRecDepth 100000 in
set_option maxHeartbeats 4000000 in
theorem right_any {w : World} {A : Option Addr} {n c k : Nat} {ys : List (TV × Rat)} (h : IsV w A n c ys k) (hk : 1 ≤ k) (hk2 : k ≤ 700) (hn : n ≤ 1000000) (N : Int) :
  Calls Tryz.prog 35 #[.slice A n c, .int .i64 N] w (RetR w N ys) := by
 have H := lh h
 have HN := lh hn
 have HLEN := lh h.en
 have HK : Hid (1 ≤ k ∧ k ≤ 700) := ⟨hk, hk2⟩
 clear h hn hk hk2
 go_enter Tryz.func35, Tryz.ntmps35
 go_wp2_with fail
 go_loopw [9] (fun iv wr => ∃ i : Nat, i ≤ n ∧ iv = .int .i64 (i : Int) ∧ Hid (Below w.heap.size w wr) ∧ Hid (∀ j, j < i → GoodAt w N ys j)) (fun iv _ => n - (intOf iv).toNat)
 case atStart => exact ⟨0, Nat.zero_le _, rfl, Below.refl _ _, fun j hj => absurd hj (Nat.not_lt_zero j)⟩
 case round =>
  obtain ⟨i, hi, rfl, HB, HG⟩ := hrel
  by_cases hlt : i < n
  ·have hi1 : (i : Int) < (n : Int) := by omega
   have hi0 : (0 : Int) ≤ (i : Int) := by omega
   have hwi : IntKind.i64.wrap ((i : Int) + 1) = (i : Int) + 1 := by have := HN.out; rw [IntKind.wrap_i64]; omega
   obtain ⟨u, hu⟩ : ∃ u, ys[i]? = some u := ⟨ys[i]'(by have := HLEN.out; omega), List.getElem?_eq_getElem (by have := HLEN.out; omega)⟩
   obtain ⟨b1, off1, hA1, hlt1, d0, d1, d2, d3, d4⟩ := H.out.row.at_ (j := i) (x := u.1) (by rw [List.getElem?_map, hu]; rfl)
   subst hA1
   have d0 := (HB.out.cell (p := ⟨b1, off1 + i * 5, none⟩) hlt1).trans d0
   have d1 := (HB.out.cell (p := ⟨b1, off1 + i * 5 + 1, none⟩) hlt1).trans d1
   have d2 := (HB.out.cell (p := ⟨b1, off1 + i * 5 + 2, none⟩) hlt1).trans d2
   have d3 := (HB.out.cell (p := ⟨b1, off1 + i * 5 + 3, none⟩) hlt1).trans d3
   have d4 := (HB.out.cell (p := ⟨b1, off1 + i * 5 + 4, none⟩) hlt1).trans d4
   obtain ⟨p, hp⟩ : ∃ p, u = p := ⟨_, rfl⟩
   rw [hp] at hu d0 d1 d2 d3 d4
   obtain ⟨⟨pat, ps, pA, pn, pc, pt, pB, pm, pd⟩, pq⟩ := p
   simp only at d0 d1 d2 d3 d4
   have HUI := lh hu
   have HU : Hid (IsQ w ps pA pn pc pt pB pm pd pq k) := (H.out.tq _ (List.mem_of_getElem? hu)).1
   obtain ⟨pz, hpz⟩ : ∃ pz : Int, 0 < i → (∃ z, ys[i - 1]? = some z ∧ z.1.at_ = pz) ∧ w.cell? ⟨b1, off1 + (i - 1) * 5, none⟩ = some (.int .i64 pz) := by
    by_cases h0 : 0 < i
    ·obtain ⟨z, hz⟩ : ∃ z, ys[i - 1]? = some z := ⟨ys[i - 1]'(by have := HLEN.out; omega), List.getElem?_eq_getElem (by have := HLEN.out; omega)⟩
     obtain ⟨b2, off2, hA2, _, c0, _⟩ := H.out.row.at_ (j := i - 1) (x := z.1) (by rw [List.getElem?_map, hz]; rfl)
     obtain ⟨rfl, rfl⟩ : b1 = b2 ∧ off1 = off2 := by simpa using hA2
     exact ⟨z.1.at_, fun _ => ⟨⟨z, hz, rfl⟩, c0⟩⟩
    ·exact ⟨0, fun h => absurd h h0⟩
   have HPZ := lh hpz
   have HL1 := lh hlt1
   clear hu hp hpz hlt1
   obtain ⟨V, hV⟩ : ∃ V, wr.alloc (.cells #[.int .i64 pat, .bool ps, .slice pA pn pc, .bool pt, .slice pB pm pd] 67) = V := ⟨_, rfl⟩
   have HVB : Hid (Below wr.heap.size wr V) := by rw [← hV]; exact (Below.refl _ _).alloc (Nat.le_refl _) _
   have HBX : Hid (V.heap[wr.heap.size]? = some (.cells #[.int .i64 pat, .bool ps, .slice pA pn pc, .bool pt, .slice pB pm pd] 67 (0, 0))) := by rw [← hV]; exact heap_alloc_new wr _
   have HBV := lh (below_on HB.out HVB.out)
   have e0 : V.cell? ⟨wr.heap.size, 0, none⟩ = some (.int .i64 pat) := by rw [cell_of_row V _ 0 _ _ _ HBX.out]; rfl
   have e1 : V.cell? ⟨wr.heap.size, 1, none⟩ = some (.bool ps) := by rw [cell_of_row V _ 1 _ _ _ HBX.out]; rfl
   have e2 : V.cell? ⟨wr.heap.size, 2, none⟩ = some (.slice pA pn pc) := by rw [cell_of_row V _ 2 _ _ _ HBX.out]; rfl
   have e3 : V.cell? ⟨wr.heap.size, 3, none⟩ = some (.bool pt) := by rw [cell_of_row V _ 3 _ _ _ HBX.out]; rfl
   have e4 : V.cell? ⟨wr.heap.size, 4, none⟩ = some (.slice pB pm pd) := by rw [cell_of_row V _ 4 _ _ _ HBX.out]; rfl
   by_cases h1 : pat < 0
   ·have HNO : Hid (¬ RightV w N ys) := fun h => by have := (h i _ HUI.out).1; simp only at this; omega
    go_wp2_with fail
    exact ⟨rfl, .bool false, by simp [results, Tryz.results35, go_sem], retr_no HNO.out HBV.out⟩
   ·have h1' : (0 : Int) ≤ pat := by omega
    by_cases h2 : N ≤ pat
    ·have HNO : Hid (¬ RightV w N ys) := fun h => by have := (h i _ HUI.out).2.1; simp only at this; omega
     go_wp2_with fail
     exact ⟨rfl, .bool false, by simp [results, Tryz.results35, go_sem], retr_no HNO.out HBV.out⟩
    ·have h2' : pat < N := by omega
     by_cases h3 : 0 < i
     ·have h3' : (0 : Int) < (i : Int) := by omega
      have hws : IntKind.i64.wrap ((i : Int) - 1) = (i : Int) - 1 := by have := HN.out; rw [IntKind.wrap_i64]; omega
      have hw1 : (0 : Int) ≤ (i : Int) - 1 := by omega
      have hw2 : (i : Int) - 1 < (n : Int) := by omega
      have hw3 : ((i : Int) - 1).toNat = i - 1 := by omega
      have hz := (HBV.out.cell (p := ⟨b1, off1 + (i - 1) * 5, none⟩) HL1.out).trans (HPZ.out h3).2
      by_cases h4 : pat ≤ pz
      ·have HNO : Hid (¬ RightV w N ys) := fun h => by
        obtain ⟨z, hz1, hz2⟩ := (HPZ.out h3).1
        have := (h i _ HUI.out).2.2.1 z h3 hz1
        simp only at this
        omega
       go_upto_region 6 with fail
       clear hV d0 d1 d2 d3 d4
       go_quiet (fail)
       go_wp2_with fail
       exact ⟨rfl, .bool false, by simp [results, Tryz.results35, go_sem], retr_no HNO.out (below_drewN HBV.out _)⟩
      ·have h4' : pz < pat := by omega
       go_upto_region 6 with fail
       clear hV d0 d1 d2 d3 d4
       go_quiet (fail)
       obtain ⟨V2, hV2⟩ : ∃ X, V.drewN nq = X := ⟨_, rfl⟩
       have HB2 : Hid (Below w.heap.size w V2) := by rw [← hV2]; exact below_drewN HBV.out _
       have HX2 : Hid (V2.heap[wr.heap.size]? = some (.cells #[.int .i64 pat, .bool ps, .slice pA pn pc, .bool pt, .slice pB pm pd] 67 (0, 0))) := by rw [← hV2]; exact HBX.out
       try rw [hV2]
       clear hV2 e0 e1 e2 e3 e4
       have e0 : V2.cell? ⟨wr.heap.size, 0, none⟩ = some (.int .i64 pat) := by rw [cell_of_row V2 _ 0 _ _ _ HX2.out]; rfl
       have e1 : V2.cell? ⟨wr.heap.size, 1, none⟩ = some (.bool ps) := by rw [cell_of_row V2 _ 1 _ _ _ HX2.out]; rfl
       have e2 : V2.cell? ⟨wr.heap.size, 2, none⟩ = some (.slice pA pn pc) := by rw [cell_of_row V2 _ 2 _ _ _ HX2.out]; rfl
       have e3 : V2.cell? ⟨wr.heap.size, 3, none⟩ = some (.bool pt) := by rw [cell_of_row V2 _ 3 _ _ _ HX2.out]; rfl
       have e4 : V2.cell? ⟨wr.heap.size, 4, none⟩ = some (.slice pB pm pd) := by rw [cell_of_row V2 _ 4 _ _ _ HX2.out]; rfl
       obtain ⟨sg, hsg⟩ : ∃ s, qsign pq = s := ⟨_, rfl⟩
       by_cases hq0 : pq = 0
       ·have g1 : (sg == 0) = true := by rw [← hsg, qsign_zero_iff.2 hq0]; rfl
        have HNO : Hid (¬ RightV w N ys) := fun h => (h i _ HUI.out).2.2.2.1 hq0
        go_wp2_with fail
        refine (Q.sign_q (HU.out.below HB2.out) (by have := HK.out; omega) sg hsg).mono ?_
        rintro e w3 ⟨rfl, hb3⟩
        have HB3 := lh (below_on HB2.out hb3)
        clear hb3 e0 e1 e2 e3 e4
        go_wp2_with fail
        exact ⟨rfl, .bool false, by simp [results, Tryz.results35, go_sem], retr_no HNO.out HB3.out⟩
       ·have g1 : (sg == 0) = false := by rw [← hsg, beq_eq_false_iff_ne]; exact fun h => hq0 (qsign_zero_iff.1 h)
        go_wp2_with fail
        refine (Q.sign_q (HU.out.below HB2.out) (by have := HK.out; omega) sg hsg).mono ?_
        rintro e w3 ⟨rfl, hb3⟩
        have HB3 := lh (below_on HB2.out hb3)
        have HX3 := lh ((hb3.block wr.heap.size (lt_of_block HX2.out)).trans HX2.out)
        clear hb3 e0 e1 e2 e3 e4
        have e0 : w3.cell? ⟨wr.heap.size, 0, none⟩ = some (.int .i64 pat) := by rw [cell_of_row w3 _ 0 _ _ _ HX3.out]; rfl
        have e1 : w3.cell? ⟨wr.heap.size, 1, none⟩ = some (.bool ps) := by rw [cell_of_row w3 _ 1 _ _ _ HX3.out]; rfl
        have e2 : w3.cell? ⟨wr.heap.size, 2, none⟩ = some (.slice pA pn pc) := by rw [cell_of_row w3 _ 2 _ _ _ HX3.out]; rfl
        have e3 : w3.cell? ⟨wr.heap.size, 3, none⟩ = some (.bool pt) := by rw [cell_of_row w3 _ 3 _ _ _ HX3.out]; rfl
        have e4 : w3.cell? ⟨wr.heap.size, 4, none⟩ = some (.slice pB pm pd) := by rw [cell_of_row w3 _ 4 _ _ _ HX3.out]; rfl
        go_wp2_with fail
        refine (form_any (HU.out.below HB3.out) HK.out.1 (by have := HK.out; omega)).mono ?_
        rintro e w4 ⟨v, rfl, hv, hb4⟩
        have HB4 := lh (below_on HB3.out hb4)
        clear hb4 e0 e1 e2 e3 e4
        cases v with
        | false =>
         have HNO : Hid (¬ RightV w N ys) := fun h => by
          have h9 := hv.2 ((h i _ HUI.out).2.2.2.2.below HB3.out)
          cases h9
         clear hv
         go_wp2_with fail
         exact ⟨rfl, .bool false, by simp [results, Tryz.results35, go_sem], retr_no HNO.out HB4.out⟩
        | true =>
         have HOK : Hid (GoodAt w N ys i) := by
          intro y hy
          obtain rfl := oI (hy.symm.trans HUI.out)
          exact ⟨h1', h2', fun z _ hz9 => by obtain ⟨z', hz1, hz2⟩ := (HPZ.out h3).1; obtain rfl := oI (hz9.symm.trans hz1); rw [hz2]; exact h4', hq0, oneq_back HU.out HB3.out (hv.1 rfl)⟩
         clear hv
         go_wp2_with fail
         go_roundw
         case rel =>
          refine ⟨i + 1, by omega, by go_num, HB4, ?_⟩
          show ∀ j, j < i + 1 → GoodAt w N ys j
          intro j hj
          rcases Nat.lt_or_ge j i with h | h
          ·exact HG.out j h
          ·rw [show j = i by omega]; exact HOK.out
         case measure => have := HN.out; simp [intOf]; omega
     ·have h3' : ¬ (0 : Int) < (i : Int) := by omega
      go_upto_region 6 with fail
      clear hV d0 d1 d2 d3 d4
      go_quiet (fail)
      obtain ⟨V2, hV2⟩ : ∃ X, V.drewN nq = X := ⟨_, rfl⟩
      have HB2 : Hid (Below w.heap.size w V2) := by rw [← hV2]; exact below_drewN HBV.out _
      have HX2 : Hid (V2.heap[wr.heap.size]? = some (.cells #[.int .i64 pat, .bool ps, .slice pA pn pc, .bool pt, .slice pB pm pd] 67 (0, 0))) := by rw [← hV2]; exact HBX.out
      try rw [hV2]
      clear hV2 e0 e1 e2 e3 e4
      have e0 : V2.cell? ⟨wr.heap.size, 0, none⟩ = some (.int .i64 pat) := by rw [cell_of_row V2 _ 0 _ _ _ HX2.out]; rfl
      have e1 : V2.cell? ⟨wr.heap.size, 1, none⟩ = some (.bool ps) := by rw [cell_of_row V2 _ 1 _ _ _ HX2.out]; rfl
      have e2 : V2.cell? ⟨wr.heap.size, 2, none⟩ = some (.slice pA pn pc) := by rw [cell_of_row V2 _ 2 _ _ _ HX2.out]; rfl
      have e3 : V2.cell? ⟨wr.heap.size, 3, none⟩ = some (.bool pt) := by rw [cell_of_row V2 _ 3 _ _ _ HX2.out]; rfl
      have e4 : V2.cell? ⟨wr.heap.size, 4, none⟩ = some (.slice pB pm pd) := by rw [cell_of_row V2 _ 4 _ _ _ HX2.out]; rfl
      obtain ⟨sg, hsg⟩ : ∃ s, qsign pq = s := ⟨_, rfl⟩
      by_cases hq0 : pq = 0
      ·have g1 : (sg == 0) = true := by rw [← hsg, qsign_zero_iff.2 hq0]; rfl
       have HNO : Hid (¬ RightV w N ys) := fun h => (h i _ HUI.out).2.2.2.1 hq0
       go_wp2_with fail
       refine (Q.sign_q (HU.out.below HB2.out) (by have := HK.out; omega) sg hsg).mono ?_
       rintro e w3 ⟨rfl, hb3⟩
       have HB3 := lh (below_on HB2.out hb3)
       clear hb3 e0 e1 e2 e3 e4
       go_wp2_with fail
       exact ⟨rfl, .bool false, by simp [results, Tryz.results35, go_sem], retr_no HNO.out HB3.out⟩
      ·have g1 : (sg == 0) = false := by rw [← hsg, beq_eq_false_iff_ne]; exact fun h => hq0 (qsign_zero_iff.1 h)
       go_wp2_with fail
       refine (Q.sign_q (HU.out.below HB2.out) (by have := HK.out; omega) sg hsg).mono ?_
       rintro e w3 ⟨rfl, hb3⟩
       have HB3 := lh (below_on HB2.out hb3)
       have HX3 := lh ((hb3.block wr.heap.size (lt_of_block HX2.out)).trans HX2.out)
       clear hb3 e0 e1 e2 e3 e4
       have e0 : w3.cell? ⟨wr.heap.size, 0, none⟩ = some (.int .i64 pat) := by rw [cell_of_row w3 _ 0 _ _ _ HX3.out]; rfl
       have e1 : w3.cell? ⟨wr.heap.size, 1, none⟩ = some (.bool ps) := by rw [cell_of_row w3 _ 1 _ _ _ HX3.out]; rfl
       have e2 : w3.cell? ⟨wr.heap.size, 2, none⟩ = some (.slice pA pn pc) := by rw [cell_of_row w3 _ 2 _ _ _ HX3.out]; rfl
       have e3 : w3.cell? ⟨wr.heap.size, 3, none⟩ = some (.bool pt) := by rw [cell_of_row w3 _ 3 _ _ _ HX3.out]; rfl
       have e4 : w3.cell? ⟨wr.heap.size, 4, none⟩ = some (.slice pB pm pd) := by rw [cell_of_row w3 _ 4 _ _ _ HX3.out]; rfl
       go_wp2_with fail
       refine (form_any (HU.out.below HB3.out) HK.out.1 (by have := HK.out; omega)).mono ?_
       rintro e w4 ⟨v, rfl, hv, hb4⟩
       have HB4 := lh (below_on HB3.out hb4)
       clear hb4 e0 e1 e2 e3 e4
       cases v with
       | false =>
        have HNO : Hid (¬ RightV w N ys) := fun h => by
         have h9 := hv.2 ((h i _ HUI.out).2.2.2.2.below HB3.out)
         cases h9
        clear hv
        go_wp2_with fail
        exact ⟨rfl, .bool false, by simp [results, Tryz.results35, go_sem], retr_no HNO.out HB4.out⟩
       | true =>
        have HOK : Hid (GoodAt w N ys i) := by
         intro y hy
         obtain rfl := oI (hy.symm.trans HUI.out)
         exact ⟨h1', h2', fun z h9 _ => absurd h9 h3, hq0, oneq_back HU.out HB3.out (hv.1 rfl)⟩
        clear hv
        go_wp2_with fail
        go_roundw
        case rel =>
         refine ⟨i + 1, by omega, by go_num, HB4, ?_⟩
         show ∀ j, j < i + 1 → GoodAt w N ys j
         intro j hj
         rcases Nat.lt_or_ge j i with h | h
         ·exact HG.out j h
         ·rw [show j = i by omega]; exact HOK.out
        case measure => have := HN.out; simp [intOf]; omega
  ·have hi1 : ¬ (i : Int) < (n : Int) := by omega
   have HY : Hid (RightV w N ys) := by
    intro j y hy
    have h1 := (List.getElem?_eq_some_iff.1 hy).1
    exact HG.out j (by have := HLEN.out; omega) y hy
   go_wp2_with fail
   exact ⟨rfl, .bool true, by simp [results, Tryz.results35, go_sem], true, rfl, ⟨fun _ => HY.out, fun _ => rfl⟩, HB.out⟩
end V

namespace V
open Go.RowKit
open Q (IsQ OneQ RetQ below_on ql Qbx Box)
def RetT (w : World) (a : Int) (q : Rat) (e : Ending) (w' : World) : Prop :=
 ∃ s A n c t B m d, e = .returned (.agg #[.int .i64 a, .bool s, .slice A n c, .bool t, .slice B m d]) ∧ OneQ w' s A n c t B m d q ∧ Below w.heap.size w w'
end V

namespace V
open Go.RowKit
open Q (IsQ OneQ RetQ below_on ql Qbx)
theorem own_isv {w : World} {g n c k : Nat} {zs : List (TV × Rat)} (ho : OwnT w 0 (.slice (some ⟨g, 0, none⟩) n c) (zs.map Prod.fst)) (h4 : ∀ y ∈ zs, OneQ w y.1.s y.1.A y.1.n y.1.c y.1.t y.1.B y.1.m y.1.d y.2 ∧ -9223372036854775808 ≤ y.1.at_ ∧ y.1.at_ ≤ 9223372036854775807) (hk : ∀ y ∈ zs, ql y.2 ≤ k) : IsV w (some ⟨g, 0, none⟩) n c zs k := by
 rcases ho.row.2 with ⟨h0, _⟩ | ⟨g', cap, cur, e, _, hgc, hnc, _, hcs, htake⟩
 ·cases h0
 ·obtain ⟨rfl, rfl, rfl⟩ : g = g' ∧ n = (zs.map Prod.fst).length ∧ c = cap := by simpa using e
  refine ⟨by rw [List.length_map], hnc, row_cells (lt_of_block hgc) ?_, fun y hy => ⟨(h4 y hy).1.isq (hk y hy), (h4 y hy).2⟩⟩
  intro j u hj
  rw [Nat.zero_add, cell_of_row w g j _ _ _ hgc]
  rw [← htake, List.getElem?_take] at hj
  split at hj
  ·simpa using hj
  ·cases hj
def Rats (w : World) (r N : Nat) (F : Nat → Rat) : Prop :=
 ∃ cur : Array Value, w.heap[r]? = some (.cells cur 27 (0, 0)) ∧ cur.size = N * 4 ∧ ∀ i, i < N → ∃ s A n c t B m d, cur[i * 4]? = some (.bool s) ∧ cur[i * 4 + 1]? = some (.slice A n c) ∧ cur[i * 4 + 2]? = some (.bool t) ∧ cur[i * 4 + 3]? = some (.slice B m d) ∧ OneQ w s A n c t B m d (F i)
theorem Rats.dig {w : World} {r N : Nat} {F : Nat → Rat} (h : Rats w r N F) : NoDig w (fun b => b = r) := by
 intro b hb i v hv z
 obtain ⟨cur, h1, h2, h3⟩ := h
 rw [hb, cell_of_row _ _ i _ _ _ h1] at hv
 have hi : i < N * 4 := by rw [← h2]; exact (Array.getElem?_eq_some_iff.1 hv).1
 obtain ⟨s, A, n, c, t, B, m, d, c0, c1, c2, c3, _⟩ := h3 (i / 4) (by omega)
 have h4 : i % 4 = 0 ∨ i % 4 = 1 ∨ i % 4 = 2 ∨ i % 4 = 3 := by omega
 rcases h4 with h4 | h4 | h4 | h4
 ·rw [show i = i / 4 * 4 by omega, c0] at hv; obtain rfl := oI hv; intro h; cases h
 ·rw [show i = i / 4 * 4 + 1 by omega, c1] at hv; obtain rfl := oI hv; intro h; cases h
 ·rw [show i = i / 4 * 4 + 2 by omega, c2] at hv; obtain rfl := oI hv; intro h; cases h
 ·rw [show i = i / 4 * 4 + 3 by omega, c3] at hv; obtain rfl := oI hv; intro h; cases h
theorem one_near {Own : Nat → Prop} {w wx : World} {s t : Bool} {A B : Option Addr} {n c m d : Nat} {q : Rat} (h : OneQ w s A n c t B m d q) (hd : NoDig w Own) (hn : Near Own w wx) : OneQ wx s A n c t B m d q :=
 ⟨h.es, h.en, h.et, h.em, num_near h.num hd hn, num_near h.den hd hn, h.cap, h.cap2⟩
theorem Rats.below {w W : World} {r N : Nat} {F : Nat → Rat} (h : Rats w r N F) (hb : Below w.heap.size w W) : Rats W r N F := by
 obtain ⟨cur, h1, h2, h3⟩ := h
 refine ⟨cur, (hb.block r (lt_of_block h1)).trans h1, h2, fun i hi => ?_⟩
 obtain ⟨s, A, n, c, t, B, m, d, c0, c1, c2, c3, ho⟩ := h3 i hi
 exact ⟨s, A, n, c, t, B, m, d, c0, c1, c2, c3, ho.below hb⟩
abbrev putR (w : World) (r a : Nat) (s : Bool) (A : Option Addr) (n c : Nat) (t : Bool) (B : Option Addr) (m d : Nat) : World :=
 (((w.setCell ⟨r, a * 4, none⟩ (.bool s)).setCell ⟨r, a * 4 + 1, none⟩ (.slice A n c)).setCell ⟨r, a * 4 + 2, none⟩ (.bool t)).setCell ⟨r, a * 4 + 3, none⟩ (.slice B m d)
theorem near_putR {w : World} {r a : Nat} {s t : Bool} {A B : Option Addr} {n c m d : Nat} : Near (fun b => b = r) w (putR w r a s A n c t B m d) :=
 ((((Near.refl (fun b => b = r) w).setCell r _ _ rfl).setCell r _ _ rfl).setCell r _ _ rfl).setCell r _ _ rfl
theorem Rats.put {w : World} {r N a : Nat} {F : Nat → Rat} {s t : Bool} {A B : Option Addr} {n c m d : Nat} {q : Rat} (h : Rats w r N F) (ha : a < N) (ho : OneQ w s A n c t B m d q) : Rats (putR w r a s A n c t B m d) r N (fun i => if i = a then q else F i) := by
 have hd := h.dig
 obtain ⟨cur, h1, h2, h3⟩ := h
 refine ⟨_, heap_setCell_same _ r _ _ _ _ (heap_setCell_same _ r _ _ _ _ (heap_setCell_same _ r _ _ _ _ (heap_setCell_same w r _ _ _ _ h1))), by simp [h2], fun i hi => ?_⟩
 by_cases e : i = a
 ·subst e
  refine ⟨s, A, n, c, t, B, m, d, ?_, ?_, ?_, ?_, ?_⟩
  ·simp [Array.getElem?_setIfInBounds, h2]; omega
  ·simp [Array.getElem?_setIfInBounds, h2]; omega
  ·simp [Array.getElem?_setIfInBounds, h2]; omega
  ·simp [Array.getElem?_setIfInBounds, h2]; omega
  ·show OneQ _ _ _ _ _ _ _ _ _ (if i = i then q else F i)
   rw [if_pos rfl]; exact one_near ho hd near_putR
 ·obtain ⟨s', A', n', c', t', B', m', d', c0, c1, c2, c3, ho'⟩ := h3 i hi
  refine ⟨s', A', n', c', t', B', m', d', ?_, ?_, ?_, ?_, ?_⟩
  ·rw [← c0]; simp only [Array.getElem?_setIfInBounds]; repeat rw [if_neg (by omega)]
  ·rw [← c1]; simp only [Array.getElem?_setIfInBounds]; repeat rw [if_neg (by omega)]
  ·rw [← c2]; simp only [Array.getElem?_setIfInBounds]; repeat rw [if_neg (by omega)]
  ·rw [← c3]; simp only [Array.getElem?_setIfInBounds]; repeat rw [if_neg (by omega)]
  ·show OneQ _ _ _ _ _ _ _ _ _ (if i = a then q else F i)
   rw [if_neg e]; exact one_near ho' hd near_putR
theorem canon_mem {l : List (Int × Rat)} (h : Canon l) {x : Int × Rat} (hx : x ∈ l) : tot l x.1 = x.2 := by
 induction l with
 | nil => cases hx
 | cons b l ih =>
  rcases List.mem_cons.1 hx with rfl | hx
  ·exact h.tot_head
  ·rw [h.tot_tail (by have := h.head x hx; omega)]
   exact ih h.tail hx
theorem up_len (hi : Int) : ∀ (l : List (Int × Rat)) (lo : Int), l.Pairwise (fun s t => s.1 < t.1) → (∀ x ∈ l, lo ≤ x.1 ∧ x.1 < hi) → l.length ≤ (hi - lo).toNat
 | [], _, _, _ => Nat.zero_le _
 | x :: l, lo, h, hx => by
  have h1 := List.pairwise_cons.1 h
  have h2 := hx x (List.mem_cons_self ..)
  have h3 := up_len hi l (x.1 + 1) h1.2 (fun y hy => ⟨by have := h1.1 y hy; omega, (hx y (List.mem_cons_of_mem _ hy)).2⟩)
  rw [List.length_cons]
  omega
theorem tot_in {l : List (Int × Rat)} {a : Int} (h : tot l a ≠ 0) : ∃ x ∈ l, x.1 = a := by
 refine Classical.byContradiction (fun hn => h (tot_none (fun x hx e => hn ⟨x, hx, e⟩)))
end V

namespace V
open Go.RowKit
open Q (IsQ OneQ RetQ below_on ql)
theorem lit_isv {w : World} {g k : Nat} {zs : List (TV × Rat)} (h : w.heap[g]? = some (.cells (flat (zs.map Prod.fst)).toArray 67 (0, 0))) (h4 : ∀ y ∈ zs, OneQ w y.1.s y.1.A y.1.n y.1.c y.1.t y.1.B y.1.m y.1.d y.2 ∧ -9223372036854775808 ≤ y.1.at_ ∧ y.1.at_ ≤ 9223372036854775807) (hk : ∀ y ∈ zs, ql y.2 ≤ k) : IsV w (some ⟨g, 0, none⟩) zs.length zs.length zs k := by
 refine ⟨rfl, Nat.le_refl _, row_cells (lt_of_block h) ?_, fun y hy => ⟨(h4 y hy).1.isq (hk y hy), (h4 y hy).2⟩⟩
 intro j u hj
 rw [Nat.zero_add, cell_of_row w g j _ _ _ h, ← hj]
 simp
theorem Over.ql_le {P N k : Nat} {q : Rat} (h : Over P N q) (hP : P ≠ 0) (hp : (dig P).length ≤ k) (hN : (dig N).length ≤ k) : ql q ≤ k := by
 obtain ⟨n, h1, h2⟩ := h
 have h3 : (P : Rat) ≠ 0 := by
  intro e
  have : (P : Rat) = ((0 : Nat) : Rat) := e
  exact hP (Rat.natCast_inj.1 this)
 have e : q = Rat.divInt n (P : Int) := by
  have h4 := Q.div_mul n (d := (P : Int)) (by omega)
  rw [Rat.intCast_natCast] at h4
  have h5 : q * (P : Rat) = Rat.divInt n (P : Int) * (P : Rat) := h1.trans h4.symm
  have h6 : q * (P : Rat) * (P : Rat)⁻¹ = Rat.divInt n (P : Int) * (P : Rat) * (P : Rat)⁻¹ := by rw [h5]
  rw [Rat.mul_assoc, Rat.mul_assoc, Rat.mul_inv_cancel _ h3, Rat.mul_one, Rat.mul_one] at h6
  exact h6
 have h7 := Q.ql_div (n := n) (d := (P : Int)) (by omega)
 rw [← e] at h7
 have h8 : zl n ≤ k := Nat.le_trans (dl_le h2) hN
 have h9 : zl (P : Int) ≤ k := by show (dig ((P : Int)).natAbs).length ≤ k; rw [Int.natAbs_natCast]; exact hp
 omega
theorem short_of {P N : Nat} {l : List (Int × Rat)} (h : ∀ x ∈ l, Over P N x.2) (hP : P ≠ 0) (hp : (dig P).length ≤ 700) (hN : (dig (l.length * N)).length ≤ 700) : Short l := by
 intro l' hl hm
 refine Over.ql_le (Over.all (fun x hx => h x (hm x hx))) hP hp (Nat.le_trans (dl_le (Nat.mul_le_mul_right N hl)) hN)
end V

namespace V
open Go.RowKit
open Q (IsQ OneQ)
