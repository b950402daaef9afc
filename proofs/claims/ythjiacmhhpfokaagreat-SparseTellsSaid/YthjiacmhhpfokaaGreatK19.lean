/- Part 19 of the proof: VForm, VRight, VTerm. -/
import Derived.Test.YthjiacmhhpfokaaGreatK18
namespace Go.Proofs.YthjiacmhhpfokaaGreat
open Lib renaming hid → lh
open Go.Proofs.Tryz renaming prog → tz
open Nat renaming le_refl → lR
open Go.RowKit.Below renaming refl → bR
open Option.some renaming inj → oI
namespace V
set_option maxRecDepth 100000
set_option maxHeartbeats 4000000
open Go.RowKit
open Q (IsQ OneQ RetQ below_on ql Qbx)
theorem equal_any {w : World} {A B : Option Addr} {n c m d : Nat} {xs ys : List Nat} (ha : Num w A xs) (hb : Num w B ys) (hn : n = xs.length) (hm : m = ys.length) (hl : n ≤ 1000000) (v : Bool) (hv : decide (xs = ys) = v) :
  Calls tz 151 #[.slice A n c, .slice B m d] w (RetB w v) := by
 by_cases hnm : n = m
 ·have HA := lh ha
  have HB := lh hb
  have HN := lh hn
  have HM := lh hm
  have HL := lh hl
  have HV := lh hv
  subst hnm
  clear ha hb hn hm hl hv
  have g0 : ((n : Int) != (n : Int)) = false := bne_self_eq_false _
  go_enter Tryz.func151, Tryz.ntmps151
  go_wp2_with fail
  go_loopw [13] (fun i wr => ∃ k : Nat, k ≤ n ∧ i = .int .i64 k ∧ Below w.heap.size w wr ∧ Hid (∀ j, j < k → dg xs j = dg ys j)) (fun i _ => n - (intOf i).toNat)
  case atStart => exact ⟨0, Nat.zero_le _, rfl, bR _ _, fun j hj => absurd hj (Nat.not_lt_zero j)⟩
  case round =>
   obtain ⟨k, hk, rfl, hbw, HK⟩ := hrel
   have hwi : IntKind.i64.wrap ((k : Int) + 1) = (k : Int) + 1 := by have := HL.out; rw [IntKind.wrap_i64]; omega
   by_cases hlt : k < n
   ·obtain ⟨b, off, rfl, hbl, hc1⟩ := HA.out.at_ (by have := HN.out; omega)
    obtain ⟨b', off', rfl, hbl', hc2⟩ := HB.out.at_ (by have := HM.out; omega)
    have h1 := (hbw.cell (p := ⟨b, off + k, none⟩) hbl).trans (hc1 k (by have := HN.out; omega))
    have h2 := (hbw.cell (p := ⟨b', off' + k, none⟩) hbl').trans (hc2 k (by have := HM.out; omega))
    have hlt' : (k : Int) < (n : Int) := by omega
    have hk0 : (0 : Int) ≤ (k : Int) := by omega
    clear hc1 hc2
    have HBW := lh hbw
    clear hbw
    obtain ⟨x, hx⟩ : ∃ x : Int, ((dg xs k : Nat) : Int) = x := ⟨_, rfl⟩
    obtain ⟨y, hy⟩ : ∃ y : Int, ((dg ys k : Nat) : Int) = y := ⟨_, rfl⟩
    have HXD := lh hx
    have HYD := lh hy
    rw [hx] at h1
    rw [hy] at h2
    by_cases hxy : x = y
    ·have HE : Hid (dg xs k = dg ys k) := by show _ = _; omega
     have b1 : (x == y) = true := beq_iff_eq.2 hxy
     have b2 : (x != y) = false := by rw [hxy]; exact bne_self_eq_false _
     clear hx hy hxy
     go_wp2_with fail
     go_quiet (fail)
     go_wp2_with fail
     go_roundw
     case rel =>
      have := HL.out
      refine ⟨k + 1, by omega, by go_num, below_drewN HBW.out _, fun j hj => ?_⟩
      rcases Nat.lt_or_ge j k with h | h
      ·exact HK.out j h
      ·rw [show j = k by omega]; exact HE.out
     case measure => have := HL.out; simp [intOf]; omega
    ·have b1 : (x == y) = false := beq_eq_false_iff_ne.2 hxy
     have b2 : (x != y) = true := bne_iff_ne.2 hxy
     have he : v = false := by
      rw [← HV.out, decide_eq_false_iff_not]
      intro e
      rw [e, hy] at hx
      exact hxy hx.symm
     subst he
     clear hx hy hxy
     go_wp2_with fail
     go_quiet (fail)
     go_wp2_with fail
     go_ret
     exact ⟨rfl, below_drewN HBW.out _⟩
   ·have hlt' : ¬ (k : Int) < (n : Int) := by omega
    have he : v = true := by
     rw [← HV.out, decide_eq_true_iff]
     exact ext_dg (by rw [← HN.out, ← HM.out]) (fun j hj => HK.out j (by have := HN.out; omega))
    subst he
    go_wp2_with fail
    go_ret
    exact ⟨rfl, hbw⟩
 ·have b1 : ((n : Int) == (m : Int)) = false := beq_eq_false_iff_ne.2 (by omega)
  have b2 : ((n : Int) != (m : Int)) = true := bne_iff_ne.2 (by omega)
  have HE : v = false := by
   rw [← hv, decide_eq_false_iff_not]
   intro e
   exact hnm (by rw [hn, hm, e])
  subst HE
  clear hnm hn hm hv hl ha hb
  go_enter Tryz.func151, Tryz.ntmps151
  go_wp2_with fail
  go_ret
  exact ⟨rfl, bR _ _⟩
theorem as_any {w : World} {s s' : Bool} {A B : Option Addr} {n c m d : Nat} {xs ys : List Nat} (ha : Num w A xs) (hb : Num w B ys) (hn : n = xs.length) (hm : m = ys.length) (hl : n ≤ 1000000) (v : Bool) (hv : (decide (s = s') && decide (xs = ys)) = v) :
  Calls tz 150 #[.agg #[.bool s, .slice A n c], .agg #[.bool s', .slice B m d]] w (RetB w v) := by
 obtain ⟨W0, hW0⟩ : ∃ V, (w.alloc (.cells #[.bool s, .slice A n c] 25)).alloc (.cells #[.bool s', .slice B m d] 25) = V := ⟨_, rfl⟩
 have hb0 : Below w.heap.size w W0 := by rw [← hW0]; exact ((bR _ _).alloc (lR _) _).alloc (by simp) _
 have h1 : W0.heap[w.heap.size]? = some (.cells #[.bool s, .slice A n c] 25 (0, 0)) := by rw [← hW0]; exact (Below.heap_alloc _ _ w.heap.size (by simp)).trans (heap_alloc_new w _)
 have h2 : W0.heap[w.heap.size + 1]? = some (.cells #[.bool s', .slice B m d] 25 (0, 0)) := by rw [← hW0]; have h := heap_alloc_new (w.alloc (.cells #[.bool s, .slice A n c] 25)) (.cells #[.bool s', .slice B m d] 25); simpa using h
 have v0 : W0.cell? ⟨w.heap.size, 0, none⟩ = some (.bool s) := by rw [cell_of_row W0 _ 0 _ _ _ h1]; rfl
 have v1 : W0.cell? ⟨w.heap.size, 1, none⟩ = some (.slice A n c) := by rw [cell_of_row W0 _ 1 _ _ _ h1]; rfl
 have u0 : W0.cell? ⟨w.heap.size + 1, 0, none⟩ = some (.bool s') := by rw [cell_of_row W0 _ 0 _ _ _ h2]; rfl
 have u1 : W0.cell? ⟨w.heap.size + 1, 1, none⟩ = some (.slice B m d) := by rw [cell_of_row W0 _ 1 _ _ _ h2]; rfl
 have HB0 := lh hb0
 by_cases hs : s = s'
 ·subst hs
  have HJ := lh (equal_any (c := c) (d := d) (ha.below hb0) (hb.below hb0) hn hm hl v (by simpa using hv))
  have g1 : (s == s) = true := beq_self_eq_true _
  clear ha hb hn hm hl hv hb0 h1 h2
  go_enter Tryz.func150, Tryz.ntmps150
  go_upto_region 1 with fail
  clear hW0
  go_wp2_with fail
  refine HJ.out.mono ?_
  rintro e w1 ⟨rfl, hb1⟩
  have HB1 := lh (below_on HB0.out hb1)
  clear hb1 HJ
  go_wp2_with fail
  exact ⟨rfl, .bool v, by simp [results, Tryz.results150, go_sem], rfl, HB1.out⟩
 ·have g1 : (s == s') = false := beq_eq_false_iff_ne.2 hs
  have he : v = false := by rw [← hv, decide_eq_false hs, Bool.false_and]
  subst he
  clear ha hb hn hm hl hv hb0 h1 h2 hs
  go_enter Tryz.func150, Tryz.ntmps150
  go_upto_region 1 with fail
  clear hW0
  go_wp2_with fail
  exact ⟨rfl, .bool false, by simp [results, Tryz.results150, go_sem], rfl, HB0.out⟩
theorem num_same {w : World} {A : Option Addr} {xs ys : List Nat} (h1 : Num w A xs) (h2 : Num w A ys) (hl : xs.length = ys.length) : xs = ys := by
 refine ext_dg hl (fun i hi => ?_)
 obtain ⟨b, off, rfl, _, hc⟩ := h1.2 (by intro e; rw [e] at hi; simp at hi)
 obtain ⟨b', off', e, _, hc'⟩ := h2.2 (by intro e; rw [hl, e] at hi; simp at hi)
 obtain ⟨rfl, rfl⟩ : b = b' ∧ off = off' := by simpa using e
 have h3 := (hc i hi).symm.trans (hc' i (by omega))
 have h4 := oI h3
 injection h4 with _ h5
 omega
theorem form_any {w : World} {s t : Bool} {A B : Option Addr} {n c m d k : Nat} {q : Rat} (h : IsQ w s A n c t B m d q k) (hk : 1 ≤ k) (hk2 : k ≤ 3000) :
  Calls tz 99 #[.agg #[.bool s, .slice A n c, .bool t, .slice B m d]] w (fun e w' => ∃ v, e = .returned (.bool v) ∧ (v = true ↔ OneQ w s A n c t B m d q) ∧ Below w.heap.size w w') := by
 obtain ⟨xs, ys, hn, hm, hx, hy, _⟩ := h.ex
 obtain ⟨v1, hv1⟩ : ∃ v, (decide (s = zneg q.num) && decide (xs = dig q.num.natAbs)) = v := ⟨_, rfl⟩
 obtain ⟨v2, hv2⟩ : ∃ v, (decide (t = false) && decide (ys = Q.dden q)) = v := ⟨_, rfl⟩
 have HE : Hid ((v1 && v2) = true ↔ OneQ w s A n c t B m d q) := by
  show _ ↔ _
  rw [← hv1, ← hv2]
  simp only [Bool.and_eq_true, decide_eq_true_iff]
  constructor
  ·rintro ⟨⟨e1, e2⟩, e3, e4⟩
   exact ⟨e1, by rw [hn, e2], e3, by rw [hm, e4], e2 ▸ hx, e4 ▸ hy, h.cap, h.cap2⟩
  ·intro o
   exact ⟨⟨o.es, num_same hx o.num (hn.symm.trans o.en)⟩, o.et, num_same hy o.den (hm.symm.trans o.em)⟩
 obtain ⟨W0, hW0⟩ : ∃ V, w.alloc (.cells #[.bool s, .slice A n c, .bool t, .slice B m d] 27) = V := ⟨_, rfl⟩
 have hb0 : Below w.heap.size w W0 := by rw [← hW0]; exact (bR _ _).alloc (lR _) _
 have HO : Hid (Qbx W0 w.heap.size s A n c t B m d) := by rw [← hW0]; exact Qbx.new _ _ rfl
 have HB0 := lh hb0
 have HQ := lh (h.below hb0)
 have HX := lh hx
 have HY := lh hy
 have HN := lh hn
 have HM := lh hm
 have HK : Hid (1 ≤ k ∧ k ≤ 3000 ∧ n ≤ 3000 ∧ m ≤ 3000) := ⟨hk, hk2, Nat.le_trans h.le hk2, Nat.le_trans h.le2 hk2⟩
 have HV1 := lh hv1
 have HV2 := lh hv2
 have o0 := HO.out.c0
 have o1 := HO.out.c1
 have o2 := HO.out.c2
 have o3 := HO.out.c3
 clear h hn hm hx hy hv1 hv2 hb0 hk hk2
 go_enter Tryz.func99, Tryz.ntmps99
 go_upto_region 2 with fail
 clear hW0
 go_wp2_with fail
 refine (Q.norm_q HQ.out HK.out.1 HK.out.2.1).mono ?_
 rintro e w1 ⟨s8, A8, n8, c8, t8, B8, m8, d8, rfl, h8, hb8⟩
 obtain ⟨W2, hW2⟩ : ∃ V, w1.alloc (.cells #[.bool s8, .slice A8 n8 c8, .bool t8, .slice B8 m8 d8] 27) = V := ⟨_, rfl⟩
 have hb2 : Below w1.heap.size w1 W2 := by rw [← hW2]; exact (bR _ _).alloc (lR _) _
 have HO2 : Hid (Qbx W2 w1.heap.size s8 A8 n8 c8 t8 B8 m8 d8) := by rw [← hW2]; exact Qbx.new _ _ rfl
 have HI2 := lh ((HO.out.below hb8).below hb2)
 have HB2 := lh (below_on (below_on HB0.out hb8) hb2)
 have H8 := lh (h8.below hb2)
 clear o0 o1 o2 o3 h8 hb8 hb2 HQ HO
 have HS8 : Hid (s8 = zneg q.num) := H8.out.es
 have HT8 : Hid (t8 = false) := H8.out.et
 have v0 := HI2.out.c0
 have v1' := HI2.out.c1
 have v2' := HI2.out.c2
 have v3 := HI2.out.c3
 have u0 := HO2.out.c0
 have u1 := HO2.out.c1
 have u2 := HO2.out.c2
 have u3 := HO2.out.c3
 go_upto_region 3 with fail
 clear hW2
 go_wp2_with fail
 refine (as_any (HX.out.below HB2.out) H8.out.num HN.out H8.out.en (by have := HK.out; omega) v1 (by rw [HS8.out]; exact HV1.out)).mono ?_
 rintro e w3 ⟨rfl, hb3⟩
 have HI3 := lh (HI2.out.below hb3)
 have HO3 := lh (HO2.out.below hb3)
 have HB3 := lh (below_on HB2.out hb3)
 have H83 := lh (H8.out.below hb3)
 clear v0 v1' v2' v3 u0 u1 u2 u3 hb3
 have v0 := HI3.out.c0
 have v1' := HI3.out.c1
 have v2' := HI3.out.c2
 have v3 := HI3.out.c3
 have u0 := HO3.out.c0
 have u1 := HO3.out.c1
 have u2 := HO3.out.c2
 have u3 := HO3.out.c3
 cases v1 with
 | false =>
  go_wp2_with fail
  exact ⟨rfl, .bool false, by simp [results, Tryz.results99, go_sem], false, rfl, by rw [← HE.out]; simp, HB3.out⟩
 | true =>
  go_wp2_with fail
  refine (as_any (HY.out.below HB3.out) H83.out.den HM.out H83.out.em (by have := HK.out; omega) v2 (by rw [HT8.out]; exact HV2.out)).mono ?_
  rintro e w4 ⟨rfl, hb4⟩
  have HB4 := lh (below_on HB3.out hb4)
  clear hb4 v0 v1' v2' v3 u0 u1 u2 u3
  go_wp2_with fail
  exact ⟨rfl, .bool v2, by simp [results, Tryz.results99, go_sem], v2, rfl, by rw [← HE.out]; simp, HB4.out⟩
end V

namespace V
open Go.RowKit
open Q (IsQ OneQ RetQ below_on ql Qbx qsign qsign_zero_iff)
theorem oneq_back {w W : World} {s t : Bool} {A B : Option Addr} {n c m d k : Nat} {q : Rat} (h : IsQ w s A n c t B m d q k) (hb : Below w.heap.size w W) (o : OneQ W s A n c t B m d q) : OneQ w s A n c t B m d q := by
 obtain ⟨xs, ys, hn, hm, hx, hy, _⟩ := h.ex
 have e1 : xs = dig q.num.natAbs := num_same (hx.below hb) o.num (hn.symm.trans o.en)
 have e2 : ys = Q.dden q := num_same (hy.below hb) o.den (hm.symm.trans o.em)
 exact ⟨o.es, o.en, o.et, o.em, e1 ▸ hx, e2 ▸ hy, o.cap, o.cap2⟩
def GoodAt (w : World) (N : Int) (ys : List (TV × Rat)) (j : Nat) : Prop :=
 ∀ y, ys[j]? = some y → 0 ≤ y.1.at_ ∧ y.1.at_ < N ∧ (∀ z, 0 < j → ys[j - 1]? = some z → z.1.at_ < y.1.at_) ∧ y.2 ≠ 0 ∧ OneQ w y.1.s y.1.A y.1.n y.1.c y.1.t y.1.B y.1.m y.1.d y.2
def RightV (w : World) (N : Int) (ys : List (TV × Rat)) : Prop := ∀ j, GoodAt w N ys j
def RetR (w : World) (N : Int) (ys : List (TV × Rat)) (e : Ending) (w' : World) : Prop := ∃ v, e = .returned (.bool v) ∧ (v = true ↔ RightV w N ys) ∧ Below w.heap.size w w'
theorem retr_no {w w' : World} {N : Int} {ys : List (TV × Rat)} (h : ¬ RightV w N ys) (hb : Below w.heap.size w w') : RetR w N ys (.returned (.bool false)) w' := ⟨false, rfl, ⟨fun h2 => (by cases h2), fun h2 => absurd h2 h⟩, hb⟩
set_option maxRecDepth 100000 in
set_option maxHeartbeats 4000000 in
theorem right_any {w : World} {A : Option Addr} {n c k : Nat} {ys : List (TV × Rat)} (h : IsV w A n c ys k) (hk : 1 ≤ k) (hk2 : k ≤ 700) (hn : n ≤ 1000000) (N : Int) :
  Calls tz 35 #[.slice A n c, .int .i64 N] w (RetR w N ys) := by
 have H := lh h
 have HN := lh hn
 have HLEN := lh h.en
 have HK : Hid (1 ≤ k ∧ k ≤ 700) := ⟨hk, hk2⟩
 clear h hn hk hk2
 go_enter Tryz.func35, Tryz.ntmps35
 go_wp2_with fail
 go_loopw [9] (fun iv wr => ∃ i : Nat, i ≤ n ∧ iv = .int .i64 (i : Int) ∧ Hid (Below w.heap.size w wr) ∧ Hid (∀ j, j < i → GoodAt w N ys j)) (fun iv _ => n - (intOf iv).toNat)
 case atStart => exact ⟨0, Nat.zero_le _, rfl, bR _ _, fun j hj => absurd hj (Nat.not_lt_zero j)⟩
 case round =>
  obtain ⟨i, hi, rfl, HB, HG⟩ := hrel
  by_cases hlt : i < n
  ·have hi1 : (i : Int) < (n : Int) := by omega
   have hi0 : (0 : Int) ≤ (i : Int) := by omega
   have hwi : IntKind.i64.wrap ((i : Int) + 1) = (i : Int) + 1 := by have := HN.out; rw [IntKind.wrap_i64]; omega
   obtain ⟨u, hu⟩ : ∃ u, ys[i]? = some u := ⟨ys[i]'(by have := HLEN.out; omega), List.getElem?_eq_getElem (by have := HLEN.out; omega)⟩
   obtain ⟨b1, off1, hA1, hlt1, d0, d1, d2, d3, d4⟩ := H.out.row.at_ (j := i) (x := u.1) (by rw [List.getElem?_map, hu]; rfl)
   subst hA1
   have d0 := (HB.out.cell (p := ⟨b1, off1 + i * 5, none⟩) hlt1).trans d0
   have d1 := (HB.out.cell (p := ⟨b1, off1 + i * 5 + 1, none⟩) hlt1).trans d1
   have d2 := (HB.out.cell (p := ⟨b1, off1 + i * 5 + 2, none⟩) hlt1).trans d2
   have d3 := (HB.out.cell (p := ⟨b1, off1 + i * 5 + 3, none⟩) hlt1).trans d3
   have d4 := (HB.out.cell (p := ⟨b1, off1 + i * 5 + 4, none⟩) hlt1).trans d4
   obtain ⟨p, hp⟩ : ∃ p, u = p := ⟨_, rfl⟩
   rw [hp] at hu d0 d1 d2 d3 d4
   obtain ⟨⟨pat, ps, pA, pn, pc, pt, pB, pm, pd⟩, pq⟩ := p
   simp only at d0 d1 d2 d3 d4
   have HUI := lh hu
   have HU : Hid (IsQ w ps pA pn pc pt pB pm pd pq k) := (H.out.tq _ (List.mem_of_getElem? hu)).1
   obtain ⟨pz, hpz⟩ : ∃ pz : Int, 0 < i → (∃ z, ys[i - 1]? = some z ∧ z.1.at_ = pz) ∧ w.cell? ⟨b1, off1 + (i - 1) * 5, none⟩ = some (.int .i64 pz) := by
    by_cases h0 : 0 < i
    ·obtain ⟨z, hz⟩ : ∃ z, ys[i - 1]? = some z := ⟨ys[i - 1]'(by have := HLEN.out; omega), List.getElem?_eq_getElem (by have := HLEN.out; omega)⟩
     obtain ⟨b2, off2, hA2, _, c0, _⟩ := H.out.row.at_ (j := i - 1) (x := z.1) (by rw [List.getElem?_map, hz]; rfl)
     obtain ⟨rfl, rfl⟩ : b1 = b2 ∧ off1 = off2 := by simpa using hA2
     exact ⟨z.1.at_, fun _ => ⟨⟨z, hz, rfl⟩, c0⟩⟩
    ·exact ⟨0, fun h => absurd h h0⟩
   have HPZ := lh hpz
   have HL1 := lh hlt1
   clear hu hp hpz hlt1
   obtain ⟨V, hV⟩ : ∃ V, wr.alloc (.cells #[.int .i64 pat, .bool ps, .slice pA pn pc, .bool pt, .slice pB pm pd] 67) = V := ⟨_, rfl⟩
   have HVB : Hid (Below wr.heap.size wr V) := by rw [← hV]; exact (bR _ _).alloc (lR _) _
   have HBX : Hid (V.heap[wr.heap.size]? = some (.cells #[.int .i64 pat, .bool ps, .slice pA pn pc, .bool pt, .slice pB pm pd] 67 (0, 0))) := by rw [← hV]; exact heap_alloc_new wr _
   have HBV := lh (below_on HB.out HVB.out)
   have e0 : V.cell? ⟨wr.heap.size, 0, none⟩ = some (.int .i64 pat) := by rw [cell_of_row V _ 0 _ _ _ HBX.out]; rfl
   have e1 : V.cell? ⟨wr.heap.size, 1, none⟩ = some (.bool ps) := by rw [cell_of_row V _ 1 _ _ _ HBX.out]; rfl
   have e2 : V.cell? ⟨wr.heap.size, 2, none⟩ = some (.slice pA pn pc) := by rw [cell_of_row V _ 2 _ _ _ HBX.out]; rfl
   have e3 : V.cell? ⟨wr.heap.size, 3, none⟩ = some (.bool pt) := by rw [cell_of_row V _ 3 _ _ _ HBX.out]; rfl
   have e4 : V.cell? ⟨wr.heap.size, 4, none⟩ = some (.slice pB pm pd) := by rw [cell_of_row V _ 4 _ _ _ HBX.out]; rfl
   by_cases h1 : pat < 0
   ·have HNO : Hid (¬ RightV w N ys) := fun h => by have := (h i _ HUI.out).1; simp only at this; omega
    go_wp2_with fail
    exact ⟨rfl, .bool false, by simp [results, Tryz.results35, go_sem], retr_no HNO.out HBV.out⟩
   ·have h1' : (0 : Int) ≤ pat := by omega
    by_cases h2 : N ≤ pat
    ·have HNO : Hid (¬ RightV w N ys) := fun h => by have := (h i _ HUI.out).2.1; simp only at this; omega
     go_wp2_with fail
     exact ⟨rfl, .bool false, by simp [results, Tryz.results35, go_sem], retr_no HNO.out HBV.out⟩
    ·have h2' : pat < N := by omega
     by_cases h3 : 0 < i
     ·have h3' : (0 : Int) < (i : Int) := by omega
      have hws : IntKind.i64.wrap ((i : Int) - 1) = (i : Int) - 1 := by have := HN.out; rw [IntKind.wrap_i64]; omega
      have hw1 : (0 : Int) ≤ (i : Int) - 1 := by omega
      have hw2 : (i : Int) - 1 < (n : Int) := by omega
      have hw3 : ((i : Int) - 1).toNat = i - 1 := by omega
      have hz := (HBV.out.cell (p := ⟨b1, off1 + (i - 1) * 5, none⟩) HL1.out).trans (HPZ.out h3).2
      by_cases h4 : pat ≤ pz
      ·have HNO : Hid (¬ RightV w N ys) := fun h => by
        obtain ⟨z, hz1, hz2⟩ := (HPZ.out h3).1
        have := (h i _ HUI.out).2.2.1 z h3 hz1
        simp only at this
        omega
       go_upto_region 6 with fail
       clear hV d0 d1 d2 d3 d4
       go_quiet (fail)
       go_wp2_with fail
       exact ⟨rfl, .bool false, by simp [results, Tryz.results35, go_sem], retr_no HNO.out (below_drewN HBV.out _)⟩
      ·have h4' : pz < pat := by omega
       go_upto_region 6 with fail
       clear hV d0 d1 d2 d3 d4
       go_quiet (fail)
       obtain ⟨V2, hV2⟩ : ∃ X, V.drewN nq = X := ⟨_, rfl⟩
       have HB2 : Hid (Below w.heap.size w V2) := by rw [← hV2]; exact below_drewN HBV.out _
       have HX2 : Hid (V2.heap[wr.heap.size]? = some (.cells #[.int .i64 pat, .bool ps, .slice pA pn pc, .bool pt, .slice pB pm pd] 67 (0, 0))) := by rw [← hV2]; exact HBX.out
       try rw [hV2]
       clear hV2 e0 e1 e2 e3 e4
       have e0 : V2.cell? ⟨wr.heap.size, 0, none⟩ = some (.int .i64 pat) := by rw [cell_of_row V2 _ 0 _ _ _ HX2.out]; rfl
       have e1 : V2.cell? ⟨wr.heap.size, 1, none⟩ = some (.bool ps) := by rw [cell_of_row V2 _ 1 _ _ _ HX2.out]; rfl
       have e2 : V2.cell? ⟨wr.heap.size, 2, none⟩ = some (.slice pA pn pc) := by rw [cell_of_row V2 _ 2 _ _ _ HX2.out]; rfl
       have e3 : V2.cell? ⟨wr.heap.size, 3, none⟩ = some (.bool pt) := by rw [cell_of_row V2 _ 3 _ _ _ HX2.out]; rfl
       have e4 : V2.cell? ⟨wr.heap.size, 4, none⟩ = some (.slice pB pm pd) := by rw [cell_of_row V2 _ 4 _ _ _ HX2.out]; rfl
       obtain ⟨sg, hsg⟩ : ∃ s, qsign pq = s := ⟨_, rfl⟩
       by_cases hq0 : pq = 0
       ·have g1 : (sg == 0) = true := by rw [← hsg, qsign_zero_iff.2 hq0]; rfl
        have HNO : Hid (¬ RightV w N ys) := fun h => (h i _ HUI.out).2.2.2.1 hq0
        go_wp2_with fail
        refine (Q.sign_q (HU.out.below HB2.out) (by have := HK.out; omega) sg hsg).mono ?_
        rintro e w3 ⟨rfl, hb3⟩
        have HB3 := lh (below_on HB2.out hb3)
        clear hb3 e0 e1 e2 e3 e4
        go_wp2_with fail
        exact ⟨rfl, .bool false, by simp [results, Tryz.results35, go_sem], retr_no HNO.out HB3.out⟩
       ·have g1 : (sg == 0) = false := by rw [← hsg, beq_eq_false_iff_ne]; exact fun h => hq0 (qsign_zero_iff.1 h)
        go_wp2_with fail
        refine (Q.sign_q (HU.out.below HB2.out) (by have := HK.out; omega) sg hsg).mono ?_
        rintro e w3 ⟨rfl, hb3⟩
        have HB3 := lh (below_on HB2.out hb3)
        have HX3 := lh ((hb3.block wr.heap.size (lt_of_block HX2.out)).trans HX2.out)
        clear hb3 e0 e1 e2 e3 e4
        have e0 : w3.cell? ⟨wr.heap.size, 0, none⟩ = some (.int .i64 pat) := by rw [cell_of_row w3 _ 0 _ _ _ HX3.out]; rfl
        have e1 : w3.cell? ⟨wr.heap.size, 1, none⟩ = some (.bool ps) := by rw [cell_of_row w3 _ 1 _ _ _ HX3.out]; rfl
        have e2 : w3.cell? ⟨wr.heap.size, 2, none⟩ = some (.slice pA pn pc) := by rw [cell_of_row w3 _ 2 _ _ _ HX3.out]; rfl
        have e3 : w3.cell? ⟨wr.heap.size, 3, none⟩ = some (.bool pt) := by rw [cell_of_row w3 _ 3 _ _ _ HX3.out]; rfl
        have e4 : w3.cell? ⟨wr.heap.size, 4, none⟩ = some (.slice pB pm pd) := by rw [cell_of_row w3 _ 4 _ _ _ HX3.out]; rfl
        go_wp2_with fail
        refine (form_any (HU.out.below HB3.out) HK.out.1 (by have := HK.out; omega)).mono ?_
        rintro e w4 ⟨v, rfl, hv, hb4⟩
        have HB4 := lh (below_on HB3.out hb4)
        clear hb4 e0 e1 e2 e3 e4
        cases v with
        | false =>
         have HNO : Hid (¬ RightV w N ys) := fun h => by
          have h9 := hv.2 ((h i _ HUI.out).2.2.2.2.below HB3.out)
          cases h9
         clear hv
         go_wp2_with fail
         exact ⟨rfl, .bool false, by simp [results, Tryz.results35, go_sem], retr_no HNO.out HB4.out⟩
        | true =>
         have HOK : Hid (GoodAt w N ys i) := by
          intro y hy
          obtain rfl := oI (hy.symm.trans HUI.out)
          exact ⟨h1', h2', fun z _ hz9 => by obtain ⟨z', hz1, hz2⟩ := (HPZ.out h3).1; obtain rfl := oI (hz9.symm.trans hz1); rw [hz2]; exact h4', hq0, oneq_back HU.out HB3.out (hv.1 rfl)⟩
         clear hv
         go_wp2_with fail
         go_roundw
         case rel =>
          refine ⟨i + 1, by omega, by go_num, HB4, ?_⟩
          show ∀ j, j < i + 1 → GoodAt w N ys j
          intro j hj
          rcases Nat.lt_or_ge j i with h | h
          ·exact HG.out j h
          ·rw [show j = i by omega]; exact HOK.out
         case measure => have := HN.out; simp [intOf]; omega
     ·have h3' : ¬ (0 : Int) < (i : Int) := by omega
      go_upto_region 6 with fail
      clear hV d0 d1 d2 d3 d4
      go_quiet (fail)
      obtain ⟨V2, hV2⟩ : ∃ X, V.drewN nq = X := ⟨_, rfl⟩
      have HB2 : Hid (Below w.heap.size w V2) := by rw [← hV2]; exact below_drewN HBV.out _
      have HX2 : Hid (V2.heap[wr.heap.size]? = some (.cells #[.int .i64 pat, .bool ps, .slice pA pn pc, .bool pt, .slice pB pm pd] 67 (0, 0))) := by rw [← hV2]; exact HBX.out
      try rw [hV2]
      clear hV2 e0 e1 e2 e3 e4
      have e0 : V2.cell? ⟨wr.heap.size, 0, none⟩ = some (.int .i64 pat) := by rw [cell_of_row V2 _ 0 _ _ _ HX2.out]; rfl
      have e1 : V2.cell? ⟨wr.heap.size, 1, none⟩ = some (.bool ps) := by rw [cell_of_row V2 _ 1 _ _ _ HX2.out]; rfl
      have e2 : V2.cell? ⟨wr.heap.size, 2, none⟩ = some (.slice pA pn pc) := by rw [cell_of_row V2 _ 2 _ _ _ HX2.out]; rfl
      have e3 : V2.cell? ⟨wr.heap.size, 3, none⟩ = some (.bool pt) := by rw [cell_of_row V2 _ 3 _ _ _ HX2.out]; rfl
      have e4 : V2.cell? ⟨wr.heap.size, 4, none⟩ = some (.slice pB pm pd) := by rw [cell_of_row V2 _ 4 _ _ _ HX2.out]; rfl
      obtain ⟨sg, hsg⟩ : ∃ s, qsign pq = s := ⟨_, rfl⟩
      by_cases hq0 : pq = 0
      ·have g1 : (sg == 0) = true := by rw [← hsg, qsign_zero_iff.2 hq0]; rfl
       have HNO : Hid (¬ RightV w N ys) := fun h => (h i _ HUI.out).2.2.2.1 hq0
       go_wp2_with fail
       refine (Q.sign_q (HU.out.below HB2.out) (by have := HK.out; omega) sg hsg).mono ?_
       rintro e w3 ⟨rfl, hb3⟩
       have HB3 := lh (below_on HB2.out hb3)
       clear hb3 e0 e1 e2 e3 e4
       go_wp2_with fail
       exact ⟨rfl, .bool false, by simp [results, Tryz.results35, go_sem], retr_no HNO.out HB3.out⟩
      ·have g1 : (sg == 0) = false := by rw [← hsg, beq_eq_false_iff_ne]; exact fun h => hq0 (qsign_zero_iff.1 h)
       go_wp2_with fail
       refine (Q.sign_q (HU.out.below HB2.out) (by have := HK.out; omega) sg hsg).mono ?_
       rintro e w3 ⟨rfl, hb3⟩
       have HB3 := lh (below_on HB2.out hb3)
       have HX3 := lh ((hb3.block wr.heap.size (lt_of_block HX2.out)).trans HX2.out)
       clear hb3 e0 e1 e2 e3 e4
       have e0 : w3.cell? ⟨wr.heap.size, 0, none⟩ = some (.int .i64 pat) := by rw [cell_of_row w3 _ 0 _ _ _ HX3.out]; rfl
       have e1 : w3.cell? ⟨wr.heap.size, 1, none⟩ = some (.bool ps) := by rw [cell_of_row w3 _ 1 _ _ _ HX3.out]; rfl
       have e2 : w3.cell? ⟨wr.heap.size, 2, none⟩ = some (.slice pA pn pc) := by rw [cell_of_row w3 _ 2 _ _ _ HX3.out]; rfl
       have e3 : w3.cell? ⟨wr.heap.size, 3, none⟩ = some (.bool pt) := by rw [cell_of_row w3 _ 3 _ _ _ HX3.out]; rfl
       have e4 : w3.cell? ⟨wr.heap.size, 4, none⟩ = some (.slice pB pm pd) := by rw [cell_of_row w3 _ 4 _ _ _ HX3.out]; rfl
       go_wp2_with fail
       refine (form_any (HU.out.below HB3.out) HK.out.1 (by have := HK.out; omega)).mono ?_
       rintro e w4 ⟨v, rfl, hv, hb4⟩
       have HB4 := lh (below_on HB3.out hb4)
       clear hb4 e0 e1 e2 e3 e4
       cases v with
       | false =>
        have HNO : Hid (¬ RightV w N ys) := fun h => by
         have h9 := hv.2 ((h i _ HUI.out).2.2.2.2.below HB3.out)
         cases h9
        clear hv
        go_wp2_with fail
        exact ⟨rfl, .bool false, by simp [results, Tryz.results35, go_sem], retr_no HNO.out HB4.out⟩
       | true =>
        have HOK : Hid (GoodAt w N ys i) := by
         intro y hy
         obtain rfl := oI (hy.symm.trans HUI.out)
         exact ⟨h1', h2', fun z h9 _ => absurd h9 h3, hq0, oneq_back HU.out HB3.out (hv.1 rfl)⟩
        clear hv
        go_wp2_with fail
        go_roundw
        case rel =>
         refine ⟨i + 1, by omega, by go_num, HB4, ?_⟩
         show ∀ j, j < i + 1 → GoodAt w N ys j
         intro j hj
         rcases Nat.lt_or_ge j i with h | h
         ·exact HG.out j h
         ·rw [show j = i by omega]; exact HOK.out
        case measure => have := HN.out; simp [intOf]; omega
  ·have hi1 : ¬ (i : Int) < (n : Int) := by omega
   have HY : Hid (RightV w N ys) := by
    intro j y hy
    have h1 := (List.getElem?_eq_some_iff.1 hy).1
    exact HG.out j (by have := HLEN.out; omega) y hy
   go_wp2_with fail
   exact ⟨rfl, .bool true, by simp [results, Tryz.results35, go_sem], true, rfl, ⟨fun _ => HY.out, fun _ => rfl⟩, HB.out⟩
end V

namespace V
open Go.RowKit
open Q (IsQ OneQ RetQ below_on ql Qbx Box)
def RetT (w : World) (a : Int) (q : Rat) (e : Ending) (w' : World) : Prop :=
 ∃ s A n c t B m d, e = .returned (.agg #[.int .i64 a, .bool s, .slice A n c, .bool t, .slice B m d]) ∧ OneQ w' s A n c t B m d q ∧ Below w.heap.size w w'
set_option maxRecDepth 100000 in
set_option maxHeartbeats 4000000 in
theorem term_any (w : World) (a y z : Int) (h1 : -9223372036854775808 ≤ y) (h2 : y ≤ 9223372036854775807) (h3 : -9223372036854775808 ≤ z) (h4 : z ≤ 9223372036854775807) (q : Rat) (hq : Rat.divInt y z = q) :
  Calls tz 76 #[.int .i64 a, .int .i64 y, .int .i64 z] w (RetT w a q) := by
 obtain ⟨W0, hW0⟩ : ∃ V, w.alloc (.cells #[.int .i64 0, .bool false, .slice none 0 0, .bool false, .slice none 0 0] 67) = V := ⟨_, rfl⟩
 have HB0 : Hid (Below w.heap.size w W0) := by rw [← hW0]; exact (bR _ _).alloc (lR _) _
 have HC0 : Hid (W0.heap[w.heap.size]? = some (.cells #[.int .i64 0, .bool false, .slice none 0 0, .bool false, .slice none 0 0] 67 (0, 0))) := by rw [← hW0]; exact heap_alloc_new w _
 have HJ := Lib.hid (Q.of_q W0 y z h1 h2 h3 h4 q hq)
 clear h1 h2 h3 h4 hq
 go_enter Tryz.func76, Tryz.ntmps76
 go_upto_region 1 with fail
 clear hW0
 go_wp2_with fail
 refine HJ.out.mono ?_
 rintro e w1 ⟨s8, A8, n8, c8, t8, B8, m8, d8, rfl, h8, hb8⟩
 have hc := (hb8.block w.heap.size (lt_of_block HC0.out)).trans HC0.out
 have HC := Lib.hid hc
 have H8 := Lib.hid h8
 have HB := Lib.hid (below_on HB0.out hb8)
 have e0 : w1.cell? ⟨w.heap.size, 0, none⟩ = some (.int .i64 0) := by rw [cell_of_row w1 _ 0 _ _ _ hc]; rfl
 have f0 : w1.frozen? ⟨w.heap.size, 0, none⟩ = false := frozen_of_row w1 _ 0 _ _ hc
 have e1 : w1.cell? ⟨w.heap.size, 1, none⟩ = some (.bool false) := by rw [cell_of_row w1 _ 1 _ _ _ hc]; rfl
 have f1 : w1.frozen? ⟨w.heap.size, 1, none⟩ = false := frozen_of_row w1 _ 1 _ _ hc
 have e2 : w1.cell? ⟨w.heap.size, 2, none⟩ = some (.slice none 0 0) := by rw [cell_of_row w1 _ 2 _ _ _ hc]; rfl
 have f2 : w1.frozen? ⟨w.heap.size, 2, none⟩ = false := frozen_of_row w1 _ 2 _ _ hc
 have e3 : w1.cell? ⟨w.heap.size, 3, none⟩ = some (.bool false) := by rw [cell_of_row w1 _ 3 _ _ _ hc]; rfl
 have f3 : w1.frozen? ⟨w.heap.size, 3, none⟩ = false := frozen_of_row w1 _ 3 _ _ hc
 have e4 : w1.cell? ⟨w.heap.size, 4, none⟩ = some (.slice none 0 0) := by rw [cell_of_row w1 _ 4 _ _ _ hc]; rfl
 have f4 : w1.frozen? ⟨w.heap.size, 4, none⟩ = false := frozen_of_row w1 _ 4 _ _ hc
 clear hc h8 hb8 HJ HC0 HB0
 go_wp2_with fail
 have hd : NoDig w1 (fun b => b = w.heap.size) := by
  intro b hb i v hv z
  rw [hb, cell_of_row _ _ i _ _ _ HC.out] at hv
  match i with
  | 0 => obtain rfl := oI hv; intro h; cases h
  | 1 => obtain rfl := oI hv; intro h; cases h
  | 2 => obtain rfl := oI hv; intro h; cases h
  | 3 => obtain rfl := oI hv; intro h; cases h
  | 4 => obtain rfl := oI hv; intro h; cases h
  | i + 5 => simp at hv
 have hnear := (((((Near.refl (fun b => b = w.heap.size) w1).setCell w.heap.size 0 (.int .i64 a) rfl).setCell w.heap.size 1 (.bool s8) rfl).setCell w.heap.size 2 (.slice A8 n8 c8) rfl).setCell w.heap.size 3 (.bool t8) rfl).setCell w.heap.size 4 (.slice B8 m8 d8) rfl
 have hrow : ((((((w1).setCell ⟨w.heap.size, 0, none⟩ (.int .i64 a)).setCell ⟨w.heap.size, 1, none⟩ (.bool s8)).setCell ⟨w.heap.size, 2, none⟩ (.slice A8 n8 c8)).setCell ⟨w.heap.size, 3, none⟩ (.bool t8)).setCell ⟨w.heap.size, 4, none⟩ (.slice B8 m8 d8)).heap[w.heap.size]? = some (.cells _ 67 (0, 0)) := heap_setCell_same _ w.heap.size 4 _ _ _ (heap_setCell_same _ w.heap.size 3 _ _ _ (heap_setCell_same _ w.heap.size 2 _ _ _ (heap_setCell_same _ w.heap.size 1 _ _ _ (heap_setCell_same w1 w.heap.size 0 _ _ _ HC.out))))
 have p0 := cell_of_row _ w.heap.size 0 _ _ _ hrow
 have p1 := cell_of_row _ w.heap.size 1 _ _ _ hrow
 have p2 := cell_of_row _ w.heap.size 2 _ _ _ hrow
 have p3 := cell_of_row _ w.heap.size 3 _ _ _ hrow
 have p4 := cell_of_row _ w.heap.size 4 _ _ _ hrow
 have ho := H8.out
 have HO : Hid (OneQ ((((((w1).setCell ⟨w.heap.size, 0, none⟩ (.int .i64 a)).setCell ⟨w.heap.size, 1, none⟩ (.bool s8)).setCell ⟨w.heap.size, 2, none⟩ (.slice A8 n8 c8)).setCell ⟨w.heap.size, 3, none⟩ (.bool t8)).setCell ⟨w.heap.size, 4, none⟩ (.slice B8 m8 d8)) s8 A8 n8 c8 t8 B8 m8 d8 q) := ⟨ho.es, ho.en, ho.et, ho.em, num_near ho.num hd hnear, num_near ho.den hd hnear, ho.cap, ho.cap2⟩
 have HBL : Hid (Below w.heap.size w ((((((w1).setCell ⟨w.heap.size, 0, none⟩ (.int .i64 a)).setCell ⟨w.heap.size, 1, none⟩ (.bool s8)).setCell ⟨w.heap.size, 2, none⟩ (.slice A8 n8 c8)).setCell ⟨w.heap.size, 3, none⟩ (.bool t8)).setCell ⟨w.heap.size, 4, none⟩ (.slice B8 m8 d8))) := ((((HB.out.setCell (lR _) _).setCell (lR _) _).setCell (lR _) _).setCell (lR _) _).setCell (lR _) _
 clear hd hnear hrow ho e0 e1 e2 e3 e4 f0 f1 f2 f3 f4
 simp only [List.setIfInBounds_toArray, List.set_cons_zero, List.set_cons_succ, List.getElem?_toArray, List.getElem?_cons_zero, List.getElem?_cons_succ] at p0 p1 p2 p3 p4
 refine bodyPost_ret (v := .agg #[.int .i64 a, .bool s8, .slice A8 n8 c8, .bool t8, .slice B8 m8 d8]) (by simp [results, Tryz.results76, go_sem, p0, p1, p2, p3, p4]) rfl ?_
 exact ⟨s8, A8, n8, c8, t8, B8, m8, d8, rfl, HO.out, HBL.out⟩
