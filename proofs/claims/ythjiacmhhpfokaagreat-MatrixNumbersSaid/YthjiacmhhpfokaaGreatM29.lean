/- Part 29 of the proof: VOps, VSame, VDot, VAxpy, VOnly, VGet, VForm. -/
import Derived.Test.YthjiacmhhpfokaaGreatM28
namespace Go.Proofs.YthjiacmhhpfokaaGreat
open Lib renaming hid → lh
open Go.Proofs.Tryz renaming prog → tz
open Nat renaming le_refl → lR, le_trans → lT
open Go.RowKit.Below renaming refl → bR
namespace V
set_option maxRecDepth 100000
set_option maxHeartbeats 4000000
open Go.RowKit
open Q (IsQ OneQ RetQ below_on ql Qbx below_put4)
theorem do_norm (w : World) : Do w 79 #[] (fun p _ => p) (fun p _ => ql p ≤ 700) := by
 refine ⟨enters_of Tryz.func79 (by kernel_rfl) rfl, ?_, fun p r h => lT h (by omega)⟩
 intro W sv Av nv cv tv Bv mv dv sw Aw nw cw tw Bw mw dw p r _ hp hr _
 show Calls tz 79 #[.agg #[.bool sv, .slice Av nv cv, .bool tv, .slice Bv mv dv], .agg #[.bool sw, .slice Aw nw cw, .bool tw, .slice Bw mw dw]] W (Q.RetQ W p)
 obtain ⟨W3, hW3⟩ : ∃ V, (((W).alloc (.cells #[.bool sv, .slice Av nv cv, .bool tv, .slice Bv mv dv] 27)).alloc (.cells #[.bool sw, .slice Aw nw cw, .bool tw, .slice Bw mw dw] 27)).alloc (.cells #[.bool false, .slice none 0 0, .bool false, .slice none 0 0] 27) = V := ⟨_, rfl⟩
 have HB3 : Hid (Below W.heap.size W W3) := by rw [← hW3]; exact (((bR _ _).alloc (lR _) _).alloc (by simp) _).alloc (by simp; omega) _
 have HV3 : Hid (Qbx W3 W.heap.size sv Av nv cv tv Bv mv dv) := by rw [← hW3]; exact ((Qbx.new _ _ rfl).alloc _).alloc _
 have HW3' : Hid (Qbx W3 (W.heap.size + 1) sw Aw nw cw tw Bw mw dw) := by rw [← hW3]; exact (Qbx.new _ _ (by simp)).alloc _
 have HO3 : Hid (Qbx W3 (W.heap.size + 2) false none 0 0 false none 0 0) := by rw [← hW3]; exact Qbx.new _ _ (by simp)
 have HP := lh (hp.below HB3.out)
 clear hp hr
 go_enter Tryz.func79, Tryz.ntmps79
 have v0 := HV3.out.c0
 have v1 := HV3.out.c1
 have v2 := HV3.out.c2
 have v3 := HV3.out.c3
 go_upto_region 1 with fail
 clear hW3
 go_wp2_with fail
 refine (Q.norm_q HP.out (by omega) (by omega)).mono ?_
 clear v0 v1 v2 v3
 rintro e w5 ⟨s8, A8, n8, c8, t8, B8, m8, d8, rfl, h8, hb8⟩
 have HO5 := lh (HO3.out.below hb8)
 have HR5 := lh h8
 have HB5 := lh (below_on HB3.out hb8)
 clear h8 hb8 HO3 HV3 HW3'
 have o0 := HO5.out.c0
 have o1 := HO5.out.c1
 have o2 := HO5.out.c2
 have o3 := HO5.out.c3
 have fo0 := HO5.out.f 0
 have fo1 := HO5.out.f 1
 have fo2 := HO5.out.f 2
 have fo3 := HO5.out.f 3
 go_wp2_with fail
 have p0 := (HO5.out.put (s' := s8) (A' := A8) (n' := n8) (c' := c8) (t' := t8) (B' := B8) (m' := m8) (d' := d8)).c0
 have p1 := (HO5.out.put (s' := s8) (A' := A8) (n' := n8) (c' := c8) (t' := t8) (B' := B8) (m' := m8) (d' := d8)).c1
 have p2 := (HO5.out.put (s' := s8) (A' := A8) (n' := n8) (c' := c8) (t' := t8) (B' := B8) (m' := m8) (d' := d8)).c2
 have p3 := (HO5.out.put (s' := s8) (A' := A8) (n' := n8) (c' := c8) (t' := t8) (B' := B8) (m' := m8) (d' := d8)).c3
 simp only [Q.put4] at p0 p1 p2 p3
 refine bodyPost_ret (v := .agg #[.bool s8, .slice A8 n8 c8, .bool t8, .slice B8 m8 d8]) (by simp [results, Tryz.results79, go_sem, p0, p1, p2, p3]) rfl ?_
 exact ⟨s8, A8, n8, c8, t8, B8, m8, d8, rfl, HR5.out.on4 HO5.out.bx, below_put4 HB5.out (by omega)⟩
theorem do_scale {w : World} {gA : Nat} {sa : Bool} {Aa : Option Addr} {na ca : Nat} {ta : Bool} {Ba : Option Addr} {ma da : Nat} {q : Rat} (hg : Qbx w gA sa Aa na ca ta Ba ma da) (hq : IsQ w sa Aa na ca ta Ba ma da q 700) : Do w 90 #[.pointer (some ⟨gA, 0, none⟩)] (fun p _ => q * p) (fun p _ => ql p ≤ 700) := by
 refine ⟨enters_of Tryz.func90 (by kernel_rfl) rfl, ?_, fun p r h => lT (Q.ql_mul q p) (by have := hq.ql (by omega); omega)⟩
 intro W sv Av nv cv tv Bv mv dv sw Aw nw cw tw Bw mw dw p r hb hp hr _
 show Calls tz 90 #[.agg #[.bool sv, .slice Av nv cv, .bool tv, .slice Bv mv dv], .agg #[.bool sw, .slice Aw nw cw, .bool tw, .slice Bw mw dw], .pointer (some ⟨gA, 0, none⟩)] W (Q.RetQ W (q * p))
 obtain ⟨W3, hW3⟩ : ∃ V, (((W).alloc (.cells #[.bool sv, .slice Av nv cv, .bool tv, .slice Bv mv dv] 27)).alloc (.cells #[.bool sw, .slice Aw nw cw, .bool tw, .slice Bw mw dw] 27)).alloc (.cells #[.bool false, .slice none 0 0, .bool false, .slice none 0 0] 27) = V := ⟨_, rfl⟩
 have HB3 : Hid (Below W.heap.size W W3) := by rw [← hW3]; exact (((bR _ _).alloc (lR _) _).alloc (by simp) _).alloc (by simp; omega) _
 have HV3 : Hid (Qbx W3 W.heap.size sv Av nv cv tv Bv mv dv) := by rw [← hW3]; exact ((Qbx.new _ _ rfl).alloc _).alloc _
 have HW3' : Hid (Qbx W3 (W.heap.size + 1) sw Aw nw cw tw Bw mw dw) := by rw [← hW3]; exact (Qbx.new _ _ (by simp)).alloc _
 have HO3 : Hid (Qbx W3 (W.heap.size + 2) false none 0 0 false none 0 0) := by rw [← hW3]; exact Qbx.new _ _ (by simp)
 have HP := lh (hp.below HB3.out)
 have HG3 := lh ((hg.below hb).below HB3.out)
 have HQ3 := lh ((hq.below hb).below HB3.out)
 clear hp hr hg hq hb
 go_enter Tryz.func90, Tryz.ntmps90
 have v0 := HV3.out.c0
 have v1 := HV3.out.c1
 have v2 := HV3.out.c2
 have v3 := HV3.out.c3
 have a0 := HG3.out.c0
 have a1 := HG3.out.c1
 have a2 := HG3.out.c2
 have a3 := HG3.out.c3
 go_upto_region 1 with fail
 clear hW3
 go_wp2_with fail
 refine (Q.mul_q HQ3.out HP.out (by omega) (by omega) _ rfl).mono ?_
 clear v0 v1 v2 v3
 clear a0 a1 a2 a3
 rintro e w5 ⟨s8, A8, n8, c8, t8, B8, m8, d8, rfl, h8, hb8⟩
 have HO5 := lh (HO3.out.below hb8)
 have HR5 := lh h8
 have HB5 := lh (below_on HB3.out hb8)
 clear h8 hb8 HO3 HV3 HW3' HG3 HQ3
 have o0 := HO5.out.c0
 have o1 := HO5.out.c1
 have o2 := HO5.out.c2
 have o3 := HO5.out.c3
 have fo0 := HO5.out.f 0
 have fo1 := HO5.out.f 1
 have fo2 := HO5.out.f 2
 have fo3 := HO5.out.f 3
 go_wp2_with fail
 have p0 := (HO5.out.put (s' := s8) (A' := A8) (n' := n8) (c' := c8) (t' := t8) (B' := B8) (m' := m8) (d' := d8)).c0
 have p1 := (HO5.out.put (s' := s8) (A' := A8) (n' := n8) (c' := c8) (t' := t8) (B' := B8) (m' := m8) (d' := d8)).c1
 have p2 := (HO5.out.put (s' := s8) (A' := A8) (n' := n8) (c' := c8) (t' := t8) (B' := B8) (m' := m8) (d' := d8)).c2
 have p3 := (HO5.out.put (s' := s8) (A' := A8) (n' := n8) (c' := c8) (t' := t8) (B' := B8) (m' := m8) (d' := d8)).c3
 simp only [Q.put4] at p0 p1 p2 p3
 refine bodyPost_ret (v := .agg #[.bool s8, .slice A8 n8 c8, .bool t8, .slice B8 m8 d8]) (by simp [results, Tryz.results90, go_sem, p0, p1, p2, p3]) rfl ?_
 exact ⟨s8, A8, n8, c8, t8, B8, m8, d8, rfl, HR5.out.on4 HO5.out.bx, below_put4 HB5.out (by omega)⟩
def Is (F : Int → Rat) (l : List (Int × Rat)) : Prop := Canon l ∧ ∀ a, tot l a = F a
theorem RetV.mono {w w' : World} {P Q : List (Int × Rat) → Prop} {e : Ending} (h : RetV w P e w') (hp : ∀ l, P l → Q l) : RetV w Q e w' := by
 obtain ⟨g, n, c, zs, h1, h2, h3, h4, h5⟩ := h
 exact ⟨g, n, c, zs, h1, h2, h3, hp _ h4, h5⟩
theorem RetV.back {w W w' : World} {P : List (Int × Rat) → Prop} {e : Ending} (h : RetV W P e w') (hb : Below w.heap.size w W) : RetV w P e w' := by
 obtain ⟨g, n, c, zs, h1, h2, h3, h4, h5, h6⟩ := h
 exact ⟨g, n, c, zs, h1, h2, lT hb.size h3, h4, h5, below_on hb h6⟩
theorem is_of {X Y : List (Int × Rat)} {f : Rat → Rat → Rat} (hf : f 0 0 = 0) : ∀ l, (∃ D, Gone X Y D ∧ l = kept f D) → Is (fun a => f (tot X a) (tot Y a)) l := by
 rintro l ⟨D, h, rfl⟩
 exact ⟨kept_canon h.up, h.tot hf⟩
theorem tot_filter (l : List (Int × Rat)) (a : Int) : tot l a = all (l.filter (fun x => decide (x.1 = a))) := by
 induction l with
 | nil => rfl
 | cons x l ih =>
  obtain ⟨p, q⟩ := x
  rw [tot_cons, ih]
  by_cases h : p = a
  ·rw [if_pos h, List.filter_cons_of_pos (by simpa using h)]; rfl
  ·rw [if_neg h, List.filter_cons_of_neg (by simpa using h)]; grind
theorem Short.tot {l : List (Int × Rat)} (h : Short l) (a : Int) : ql (V.tot l a) ≤ 700 := by
 rw [tot_filter]
 exact h _ (List.length_filter_le ..) (fun x hx => (List.mem_filter.1 hx).1)
theorem ql_zero1 : ql 0 ≤ 1 := by
 have h := Q.ql_int 0 1 (zl_small (by omega) (by omega)) (by omega)
 exact h
theorem Short.nil : Short [] := by
 intro l' hl _
 obtain rfl : l' = [] := List.eq_nil_of_length_eq_zero (by simpa using hl)
 exact lT ql_zero1 (by omega)
theorem norm_v {w : World} {A : Option Addr} {n c k : Nat} {xs : List (TV × Rat)} (hx : IsV w A n c xs k) (hk : k ≤ 700) (hn : n ≤ 1000000) (hsx : Short (vals xs)) (hA : ∀ a, A = some a → a.block < w.heap.size) :
  Calls tz 18 #[.slice A n c] w (RetV w (Is (tot (vals xs)))) := by
 have HJ := lh (joined_any hx (IsV.nil w none 0 k) hk hn (by omega) hsx Short.nil hA (by simp) (do_norm w) hsx.tot)
 clear hx hk hn hsx hA
 go_enter Tryz.func18, Tryz.ntmps18
 go_wp2_with fail
 refine HJ.out.mono ?_
 rintro e w1 hret
 have HRET := lh (RetV.mono hret (is_of (by rfl)))
 clear HJ hret
 obtain ⟨g1, n1, c1, zs1, rfl, _⟩ := id HRET.out
 go_wp2_with fail
 exact ⟨rfl, _, by simp [results, Tryz.results18, go_sem], HRET.out⟩
theorem scale_v {w : World} {A : Option Addr} {n c k : Nat} {xs : List (TV × Rat)} {sa : Bool} {Aa : Option Addr} {na ca : Nat} {ta : Bool} {Ba : Option Addr} {ma da : Nat} {q : Rat} (hq : IsQ w sa Aa na ca ta Ba ma da q 700) (hx : IsV w A n c xs k) (hk : k ≤ 700) (hn : n ≤ 1000000) (hsx : Short (vals xs)) (hA : ∀ a, A = some a → a.block < w.heap.size) :
  Calls tz 24 #[.agg #[.bool sa, .slice Aa na ca, .bool ta, .slice Ba ma da], .slice A n c] w (RetV w (Is (fun a => q * tot (vals xs) a))) := by
 obtain ⟨W0, hW0⟩ : ∃ V, w.alloc (.cells #[.bool sa, .slice Aa na ca, .bool ta, .slice Ba ma da] 27) = V := ⟨_, rfl⟩
 have hb : Below w.heap.size w W0 := by rw [← hW0]; exact (bR _ _).alloc (lR _) _
 have hg : Qbx W0 w.heap.size sa Aa na ca ta Ba ma da := by rw [← hW0]; exact Qbx.new _ _ rfl
 have HB := lh hb
 have HJ := lh (joined_any (hx.below hb) (IsV.nil W0 none 0 k) hk hn (by omega) hsx Short.nil (fun a h => Nat.lt_of_lt_of_le (hA a h) hb.size) (by simp) (do_scale hg (hq.below hb)) hsx.tot)
 clear hx hk hn hsx hA hq hg hb
 go_enter Tryz.func24, Tryz.ntmps24
 go_upto_region 1 with fail
 clear hW0
 go_wp2_with fail
 refine HJ.out.mono ?_
 rintro e w1 hret
 have HRET := lh ((RetV.mono hret (is_of (Rat.mul_zero q))).back HB.out)
 clear HJ hret
 obtain ⟨g1, n1, c1, zs1, rfl, _⟩ := id HRET.out
 go_wp2_with fail
 exact ⟨rfl, _, by simp [results, Tryz.results24, go_sem], HRET.out⟩
end V

namespace V
open Go.RowKit
open Q (IsQ OneQ RetQ below_on ql Qbx below_put4)
theorem Near.setCell {Own : Nat → Prop} {w wx : World} (h : Near Own w wx) (g : Nat) (o : Nat) (v : Value) (hg : Own g) : Near Own w (wx.setCell ⟨g, o, none⟩ v) :=
 ⟨h.os, h.tape, h.output, by have := h.size; simpa using this, fun b hb hn => (Below.heap_setCell wx ⟨g, o, none⟩ v b (fun e => hn (by rw [e]; exact hg))).trans (h.block b hb hn)⟩
end V

namespace V
open Go.RowKit
open Q (IsQ OneQ RetQ below_on ql Qbx below_put4 qsign qsign_zero_iff)
end V

namespace V
open Go.RowKit
open Q (IsQ OneQ RetQ below_on ql Qbx below_put4 qsign qsign_zero_iff)
end V

namespace V
open Go.RowKit
open Q (IsQ OneQ RetQ below_on ql Qbx)
structure OM (w wx : World) (v : Value) (ys : List (TV × Rat)) (kp : Int → Bool) (i : Nat) : Prop where
 bel : Below w.heap.size w wx
 own : wx.ownsRow w.heap.size 67 5 v (((ys.take i).filter (fun y => kp y.1.at_)).map Prod.fst).length (flat (((ys.take i).filter (fun y => kp y.1.at_)).map Prod.fst))
theorem ownsRow_below {w w' : World} {base : Nat} {e : TypeId} {size : Nat} {v : Value} {n : Nat} {xs : List Value} (h : w.ownsRow base e size v n xs) (hb : Below w.heap.size w w') : w'.ownsRow base e size v n xs := by
 refine ⟨h.1, ?_⟩
 rcases h.2 with hn | ⟨g, cap, cur, rfl, h1, h2, rest⟩
 ·exact .inl hn
 ·exact .inr ⟨g, cap, cur, rfl, h1, (hb.block g (lt_of_block h2)).trans h2, rest⟩
theorem OM.below {w wx wy : World} {v : Value} {ys : List (TV × Rat)} {kp : Int → Bool} {i : Nat} (h : OM w wx v ys kp i) (hb : Below wx.heap.size wx wy) : OM w wy v ys kp i := ⟨below_on h.bel hb, ownsRow_below h.own hb⟩
end V

namespace V
open Go.RowKit
open Q (IsQ OneQ RetQ below_on ql Qbx below_put4)
theorem Short.filter {l : List (Int × Rat)} (h : Short l) (p : Int × Rat → Bool) : Short (l.filter p) := h.sub (List.length_filter_le ..) (fun _ hx => (List.mem_filter.1 hx).1)
theorem Short.take {l : List (Int × Rat)} (h : Short l) (i : Nat) : ql (all (l.take i)) ≤ 700 := h _ (by rw [List.length_take]; omega) (fun _ hx => List.mem_of_mem_take hx)
theorem Short.one {a : Int} {q : Rat} (h : ql q ≤ 700) : Short [(a, q)] := by
 intro l hl hm
 match l, hl, hm with
 | [], _, _ => exact lT ql_zero1 (by omega)
 | x :: [], _, hm =>
  obtain rfl := List.mem_singleton.1 (hm x (List.mem_singleton.2 rfl))
  have e : all [(a, q)] = q := by show q + 0 = q; grind
  rw [e]; exact h
 | _ :: _ :: _, hl, _ => simp at hl
def putAt (F : Int → Rat) (p : Int) (q : Rat) (a : Int) : Rat := if a = p then q else F a
end V

namespace V
set_option maxRecDepth 100000
set_option maxHeartbeats 4000000
open Go.RowKit
open Q (IsQ OneQ RetQ below_on ql Qbx)
theorem equal_any {w : World} {A B : Option Addr} {n c m d : Nat} {xs ys : List Nat} (ha : Num w A xs) (hb : Num w B ys) (hn : n = xs.length) (hm : m = ys.length) (hl : n ≤ 1000000) (v : Bool) (hv : decide (xs = ys) = v) :
  Calls tz 151 #[.slice A n c, .slice B m d] w (RetB w v) := by
 by_cases hnm : n = m
 ·have HA := lh ha
  have HB := lh hb
  have HN := lh hn
  have HM := lh hm
  have HL := lh hl
  have HV := lh hv
  subst hnm
  clear ha hb hn hm hl hv
  have g0 : ((n : Int) != (n : Int)) = false := bne_self_eq_false _
  go_enter Tryz.func151, Tryz.ntmps151
  go_wp2_with fail
  go_loopw [13] (fun i wr => ∃ k : Nat, k ≤ n ∧ i = .int .i64 k ∧ Below w.heap.size w wr ∧ Hid (∀ j, j < k → dg xs j = dg ys j)) (fun i _ => n - (intOf i).toNat)
  case atStart => exact ⟨0, Nat.zero_le _, rfl, bR _ _, fun j hj => absurd hj (Nat.not_lt_zero j)⟩
  case round =>
   obtain ⟨k, hk, rfl, hbw, HK⟩ := hrel
   have hwi : IntKind.i64.wrap ((k : Int) + 1) = (k : Int) + 1 := by have := HL.out; rw [IntKind.wrap_i64]; omega
   by_cases hlt : k < n
   ·obtain ⟨b, off, rfl, hbl, hc1⟩ := HA.out.at_ (by have := HN.out; omega)
    obtain ⟨b', off', rfl, hbl', hc2⟩ := HB.out.at_ (by have := HM.out; omega)
    have h1 := (hbw.cell (p := ⟨b, off + k, none⟩) hbl).trans (hc1 k (by have := HN.out; omega))
    have h2 := (hbw.cell (p := ⟨b', off' + k, none⟩) hbl').trans (hc2 k (by have := HM.out; omega))
    have hlt' : (k : Int) < (n : Int) := by omega
    have hk0 : (0 : Int) ≤ (k : Int) := by omega
    clear hc1 hc2
    have HBW := lh hbw
    clear hbw
    obtain ⟨x, hx⟩ : ∃ x : Int, ((dg xs k : Nat) : Int) = x := ⟨_, rfl⟩
    obtain ⟨y, hy⟩ : ∃ y : Int, ((dg ys k : Nat) : Int) = y := ⟨_, rfl⟩
    have HXD := lh hx
    have HYD := lh hy
    rw [hx] at h1
    rw [hy] at h2
    by_cases hxy : x = y
    ·have HE : Hid (dg xs k = dg ys k) := by show _ = _; omega
     have b1 : (x == y) = true := beq_iff_eq.2 hxy
     have b2 : (x != y) = false := by rw [hxy]; exact bne_self_eq_false _
     clear hx hy hxy
     go_wp2_with fail
     go_quiet (fail)
     go_wp2_with fail
     go_roundw
     case rel =>
      have := HL.out
      refine ⟨k + 1, by omega, by go_num, below_drewN HBW.out _, fun j hj => ?_⟩
      rcases Nat.lt_or_ge j k with h | h
      ·exact HK.out j h
      ·rw [show j = k by omega]; exact HE.out
     case measure => have := HL.out; simp [intOf]; omega
    ·have b1 : (x == y) = false := beq_eq_false_iff_ne.2 hxy
     have b2 : (x != y) = true := bne_iff_ne.2 hxy
     have he : v = false := by
      rw [← HV.out, decide_eq_false_iff_not]
      intro e
      rw [e, hy] at hx
      exact hxy hx.symm
     subst he
     clear hx hy hxy
     go_wp2_with fail
     go_quiet (fail)
     go_wp2_with fail
     go_ret
     exact ⟨rfl, below_drewN HBW.out _⟩
   ·have hlt' : ¬ (k : Int) < (n : Int) := by omega
    have he : v = true := by
     rw [← HV.out, decide_eq_true_iff]
     exact ext_dg (by rw [← HN.out, ← HM.out]) (fun j hj => HK.out j (by have := HN.out; omega))
    subst he
    go_wp2_with fail
    go_ret
    exact ⟨rfl, hbw⟩
 ·have b1 : ((n : Int) == (m : Int)) = false := beq_eq_false_iff_ne.2 (by omega)
  have b2 : ((n : Int) != (m : Int)) = true := bne_iff_ne.2 (by omega)
  have HE : v = false := by
   rw [← hv, decide_eq_false_iff_not]
   intro e
   exact hnm (by rw [hn, hm, e])
  subst HE
  clear hnm hn hm hv hl ha hb
  go_enter Tryz.func151, Tryz.ntmps151
  go_wp2_with fail
  go_ret
  exact ⟨rfl, bR _ _⟩
theorem as_any {w : World} {s s' : Bool} {A B : Option Addr} {n c m d : Nat} {xs ys : List Nat} (ha : Num w A xs) (hb : Num w B ys) (hn : n = xs.length) (hm : m = ys.length) (hl : n ≤ 1000000) (v : Bool) (hv : (decide (s = s') && decide (xs = ys)) = v) :
  Calls tz 150 #[.agg #[.bool s, .slice A n c], .agg #[.bool s', .slice B m d]] w (RetB w v) := by
 obtain ⟨W0, hW0⟩ : ∃ V, (w.alloc (.cells #[.bool s, .slice A n c] 25)).alloc (.cells #[.bool s', .slice B m d] 25) = V := ⟨_, rfl⟩
 have hb0 : Below w.heap.size w W0 := by rw [← hW0]; exact ((bR _ _).alloc (lR _) _).alloc (by simp) _
 have h1 : W0.heap[w.heap.size]? = some (.cells #[.bool s, .slice A n c] 25 (0, 0)) := by rw [← hW0]; exact (Below.heap_alloc _ _ w.heap.size (by simp)).trans (heap_alloc_new w _)
 have h2 : W0.heap[w.heap.size + 1]? = some (.cells #[.bool s', .slice B m d] 25 (0, 0)) := by rw [← hW0]; have h := heap_alloc_new (w.alloc (.cells #[.bool s, .slice A n c] 25)) (.cells #[.bool s', .slice B m d] 25); simpa using h
 have v0 : W0.cell? ⟨w.heap.size, 0, none⟩ = some (.bool s) := by rw [cell_of_row W0 _ 0 _ _ _ h1]; rfl
 have v1 : W0.cell? ⟨w.heap.size, 1, none⟩ = some (.slice A n c) := by rw [cell_of_row W0 _ 1 _ _ _ h1]; rfl
 have u0 : W0.cell? ⟨w.heap.size + 1, 0, none⟩ = some (.bool s') := by rw [cell_of_row W0 _ 0 _ _ _ h2]; rfl
 have u1 : W0.cell? ⟨w.heap.size + 1, 1, none⟩ = some (.slice B m d) := by rw [cell_of_row W0 _ 1 _ _ _ h2]; rfl
 have HB0 := lh hb0
 by_cases hs : s = s'
 ·subst hs
  have HJ := lh (equal_any (c := c) (d := d) (ha.below hb0) (hb.below hb0) hn hm hl v (by simpa using hv))
  have g1 : (s == s) = true := beq_self_eq_true _
  clear ha hb hn hm hl hv hb0 h1 h2
  go_enter Tryz.func150, Tryz.ntmps150
  go_upto_region 1 with fail
  clear hW0
  go_wp2_with fail
  refine HJ.out.mono ?_
  rintro e w1 ⟨rfl, hb1⟩
  have HB1 := lh (below_on HB0.out hb1)
  clear hb1 HJ
  go_wp2_with fail
  exact ⟨rfl, .bool v, by simp [results, Tryz.results150, go_sem], rfl, HB1.out⟩
 ·have g1 : (s == s') = false := beq_eq_false_iff_ne.2 hs
  have he : v = false := by rw [← hv, decide_eq_false hs, Bool.false_and]
  subst he
  clear ha hb hn hm hl hv hb0 h1 h2 hs
  go_enter Tryz.func150, Tryz.ntmps150
  go_upto_region 1 with fail
  clear hW0
  go_wp2_with fail
  exact ⟨rfl, .bool false, by simp [results, Tryz.results150, go_sem], rfl, HB0.out⟩
theorem num_same {w : World} {A : Option Addr} {xs ys : List Nat} (h1 : Num w A xs) (h2 : Num w A ys) (hl : xs.length = ys.length) : xs = ys := by
 refine ext_dg hl (fun i hi => ?_)
 obtain ⟨b, off, rfl, _, hc⟩ := h1.2 (by intro e; rw [e] at hi; simp at hi)
 obtain ⟨b', off', e, _, hc'⟩ := h2.2 (by intro e; rw [hl, e] at hi; simp at hi)
 obtain ⟨rfl, rfl⟩ : b = b' ∧ off = off' := by simpa using e
 have h3 := (hc i hi).symm.trans (hc' i (by omega))
 have h4 := Option.some.inj h3
 injection h4 with _ h5
 omega
theorem form_any {w : World} {s t : Bool} {A B : Option Addr} {n c m d k : Nat} {q : Rat} (h : IsQ w s A n c t B m d q k) (hk : 1 ≤ k) (hk2 : k ≤ 3000) :
  Calls tz 99 #[.agg #[.bool s, .slice A n c, .bool t, .slice B m d]] w (fun e w' => ∃ v, e = .returned (.bool v) ∧ (v = true ↔ OneQ w s A n c t B m d q) ∧ Below w.heap.size w w') := by
 obtain ⟨xs, ys, hn, hm, hx, hy, _⟩ := h.ex
 obtain ⟨v1, hv1⟩ : ∃ v, (decide (s = zneg q.num) && decide (xs = dig q.num.natAbs)) = v := ⟨_, rfl⟩
 obtain ⟨v2, hv2⟩ : ∃ v, (decide (t = false) && decide (ys = Q.dden q)) = v := ⟨_, rfl⟩
 have HE : Hid ((v1 && v2) = true ↔ OneQ w s A n c t B m d q) := by
  show _ ↔ _
  rw [← hv1, ← hv2]
  simp only [Bool.and_eq_true, decide_eq_true_iff]
  constructor
  ·rintro ⟨⟨e1, e2⟩, e3, e4⟩
   exact ⟨e1, by rw [hn, e2], e3, by rw [hm, e4], e2 ▸ hx, e4 ▸ hy, h.cap, h.cap2⟩
  ·intro o
   exact ⟨⟨o.es, num_same hx o.num (hn.symm.trans o.en)⟩, o.et, num_same hy o.den (hm.symm.trans o.em)⟩
 obtain ⟨W0, hW0⟩ : ∃ V, w.alloc (.cells #[.bool s, .slice A n c, .bool t, .slice B m d] 27) = V := ⟨_, rfl⟩
 have hb0 : Below w.heap.size w W0 := by rw [← hW0]; exact (bR _ _).alloc (lR _) _
 have HO : Hid (Qbx W0 w.heap.size s A n c t B m d) := by rw [← hW0]; exact Qbx.new _ _ rfl
 have HB0 := lh hb0
 have HQ := lh (h.below hb0)
 have HX := lh hx
 have HY := lh hy
 have HN := lh hn
 have HM := lh hm
 have HK : Hid (1 ≤ k ∧ k ≤ 3000 ∧ n ≤ 3000 ∧ m ≤ 3000) := ⟨hk, hk2, lT h.le hk2, lT h.le2 hk2⟩
 have HV1 := lh hv1
 have HV2 := lh hv2
 have o0 := HO.out.c0
 have o1 := HO.out.c1
 have o2 := HO.out.c2
 have o3 := HO.out.c3
 clear h hn hm hx hy hv1 hv2 hb0 hk hk2
 go_enter Tryz.func99, Tryz.ntmps99
 go_upto_region 2 with fail
 clear hW0
 go_wp2_with fail
 refine (Q.norm_q HQ.out HK.out.1 HK.out.2.1).mono ?_
 rintro e w1 ⟨s8, A8, n8, c8, t8, B8, m8, d8, rfl, h8, hb8⟩
 obtain ⟨W2, hW2⟩ : ∃ V, w1.alloc (.cells #[.bool s8, .slice A8 n8 c8, .bool t8, .slice B8 m8 d8] 27) = V := ⟨_, rfl⟩
 have hb2 : Below w1.heap.size w1 W2 := by rw [← hW2]; exact (bR _ _).alloc (lR _) _
 have HO2 : Hid (Qbx W2 w1.heap.size s8 A8 n8 c8 t8 B8 m8 d8) := by rw [← hW2]; exact Qbx.new _ _ rfl
 have HI2 := lh ((HO.out.below hb8).below hb2)
 have HB2 := lh (below_on (below_on HB0.out hb8) hb2)
 have H8 := lh (h8.below hb2)
 clear o0 o1 o2 o3 h8 hb8 hb2 HQ HO
 have HS8 : Hid (s8 = zneg q.num) := H8.out.es
 have HT8 : Hid (t8 = false) := H8.out.et
 have v0 := HI2.out.c0
 have v1' := HI2.out.c1
 have v2' := HI2.out.c2
 have v3 := HI2.out.c3
 have u0 := HO2.out.c0
 have u1 := HO2.out.c1
 have u2 := HO2.out.c2
 have u3 := HO2.out.c3
 go_upto_region 3 with fail
 clear hW2
 go_wp2_with fail
 refine (as_any (HX.out.below HB2.out) H8.out.num HN.out H8.out.en (by have := HK.out; omega) v1 (by rw [HS8.out]; exact HV1.out)).mono ?_
 rintro e w3 ⟨rfl, hb3⟩
 have HI3 := lh (HI2.out.below hb3)
 have HO3 := lh (HO2.out.below hb3)
 have HB3 := lh (below_on HB2.out hb3)
 have H83 := lh (H8.out.below hb3)
 clear v0 v1' v2' v3 u0 u1 u2 u3 hb3
 have v0 := HI3.out.c0
 have v1' := HI3.out.c1
 have v2' := HI3.out.c2
 have v3 := HI3.out.c3
 have u0 := HO3.out.c0
 have u1 := HO3.out.c1
 have u2 := HO3.out.c2
 have u3 := HO3.out.c3
 cases v1 with
 | false =>
  go_wp2_with fail
  exact ⟨rfl, .bool false, by simp [results, Tryz.results99, go_sem], false, rfl, by rw [← HE.out]; simp, HB3.out⟩
 | true =>
  go_wp2_with fail
  refine (as_any (HY.out.below HB3.out) H83.out.den HM.out H83.out.em (by have := HK.out; omega) v2 (by rw [HT8.out]; exact HV2.out)).mono ?_
  rintro e w4 ⟨rfl, hb4⟩
  have HB4 := lh (below_on HB3.out hb4)
  clear hb4 v0 v1' v2' v3 u0 u1 u2 u3
  go_wp2_with fail
  exact ⟨rfl, .bool v2, by simp [results, Tryz.results99, go_sem], v2, rfl, by rw [← HE.out]; simp, HB4.out⟩
