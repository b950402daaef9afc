/- Part 17 of the proof: VOps, VSame, VDot. -/
import Derived.Test.YthjiacmhhpfokaaGreatK16
namespace Go.Proofs.YthjiacmhhpfokaaGreat
open Lib renaming hid → lh
open Act renaming put → aP
open Go.Proofs.Tryz renaming prog → tz
open Nat renaming le_refl → lR, le_trans → lT, lt_of_lt_of_le → lL
open Go.RowKit.Below renaming refl → bR
open Option.some renaming inj → oI
namespace V
set_option maxRecDepth 100000
set_option maxHeartbeats 4000000
open Go.RowKit
open Q (IsQ OneQ RetQ below_on ql Qbx below_put4)
theorem do_norm (w : World) : Do w 79 #[] (fun p _ => p) (fun p _ => ql p ≤ 700) := by
 refine ⟨enters_of Tryz.func79 (by kernel_rfl) rfl, ?_, fun p r h => lT h (by omega)⟩
 intro W sv Av nv cv tv Bv mv dv sw Aw nw cw tw Bw mw dw p r _ hp hr _
 show Calls tz 79 #[.agg #[.bool sv, .slice Av nv cv, .bool tv, .slice Bv mv dv], .agg #[.bool sw, .slice Aw nw cw, .bool tw, .slice Bw mw dw]] W (Q.RetQ W p)
 obtain ⟨W3, hW3⟩ : ∃ V, (((W).alloc (.cells #[.bool sv, .slice Av nv cv, .bool tv, .slice Bv mv dv] 27)).alloc (.cells #[.bool sw, .slice Aw nw cw, .bool tw, .slice Bw mw dw] 27)).alloc (.cells #[.bool false, .slice none 0 0, .bool false, .slice none 0 0] 27) = V := ⟨_, rfl⟩
 have HB3 : Hid (Below W.heap.size W W3) := by rw [← hW3]; exact (((bR _ _).alloc (lR _) _).alloc (by simp) _).alloc (by simp; omega) _
 have HV3 : Hid (Qbx W3 W.heap.size sv Av nv cv tv Bv mv dv) := by rw [← hW3]; exact ((Qbx.new _ _ rfl).alloc _).alloc _
 have HW3' : Hid (Qbx W3 (W.heap.size + 1) sw Aw nw cw tw Bw mw dw) := by rw [← hW3]; exact (Qbx.new _ _ (by simp)).alloc _
 have HO3 : Hid (Qbx W3 (W.heap.size + 2) false none 0 0 false none 0 0) := by rw [← hW3]; exact Qbx.new _ _ (by simp)
 have HP := lh (hp.below HB3.out)
 clear hp hr
 go_enter Tryz.func79, Tryz.ntmps79
 have v0 := HV3.out.c0
 have v1 := HV3.out.c1
 have v2 := HV3.out.c2
 have v3 := HV3.out.c3
 go_upto_region 1 with fail
 clear hW3
 go_wp2_with fail
 refine (Q.norm_q HP.out (by omega) (by omega)).mono ?_
 clear v0 v1 v2 v3
 rintro e w5 ⟨s8, A8, n8, c8, t8, B8, m8, d8, rfl, h8, hb8⟩
 have HO5 := lh (HO3.out.below hb8)
 have HR5 := lh h8
 have HB5 := lh (below_on HB3.out hb8)
 clear h8 hb8 HO3 HV3 HW3'
 have o0 := HO5.out.c0
 have o1 := HO5.out.c1
 have o2 := HO5.out.c2
 have o3 := HO5.out.c3
 have fo0 := HO5.out.f 0
 have fo1 := HO5.out.f 1
 have fo2 := HO5.out.f 2
 have fo3 := HO5.out.f 3
 go_wp2_with fail
 have p0 := (HO5.out.put (s' := s8) (A' := A8) (n' := n8) (c' := c8) (t' := t8) (B' := B8) (m' := m8) (d' := d8)).c0
 have p1 := (HO5.out.put (s' := s8) (A' := A8) (n' := n8) (c' := c8) (t' := t8) (B' := B8) (m' := m8) (d' := d8)).c1
 have p2 := (HO5.out.put (s' := s8) (A' := A8) (n' := n8) (c' := c8) (t' := t8) (B' := B8) (m' := m8) (d' := d8)).c2
 have p3 := (HO5.out.put (s' := s8) (A' := A8) (n' := n8) (c' := c8) (t' := t8) (B' := B8) (m' := m8) (d' := d8)).c3
 simp only [Q.put4] at p0 p1 p2 p3
 refine bodyPost_ret (v := .agg #[.bool s8, .slice A8 n8 c8, .bool t8, .slice B8 m8 d8]) (by simp [results, Tryz.results79, go_sem, p0, p1, p2, p3]) rfl ?_
 exact ⟨s8, A8, n8, c8, t8, B8, m8, d8, rfl, HR5.out.on4 HO5.out.bx, below_put4 HB5.out (by omega)⟩
theorem do_add (w : World) : Do w 81 #[] (fun p r => p + r) (fun p r => ql p ≤ 700 ∧ ql r ≤ 700) := by
 refine ⟨enters_of Tryz.func81 (by kernel_rfl) rfl, ?_, fun p r h => lT (Q.ql_add p r) (by omega)⟩
 intro W sv Av nv cv tv Bv mv dv sw Aw nw cw tw Bw mw dw p r _ hp hr _
 exact Q.add_q hp hr (by omega) (by omega) _ rfl
theorem do_scale {w : World} {gA : Nat} {sa : Bool} {Aa : Option Addr} {na ca : Nat} {ta : Bool} {Ba : Option Addr} {ma da : Nat} {q : Rat} (hg : Qbx w gA sa Aa na ca ta Ba ma da) (hq : IsQ w sa Aa na ca ta Ba ma da q 700) : Do w 90 #[.pointer (some ⟨gA, 0, none⟩)] (fun p _ => q * p) (fun p _ => ql p ≤ 700) := by
 refine ⟨enters_of Tryz.func90 (by kernel_rfl) rfl, ?_, fun p r h => lT (Q.ql_mul q p) (by have := hq.ql (by omega); omega)⟩
 intro W sv Av nv cv tv Bv mv dv sw Aw nw cw tw Bw mw dw p r hb hp hr _
 show Calls tz 90 #[.agg #[.bool sv, .slice Av nv cv, .bool tv, .slice Bv mv dv], .agg #[.bool sw, .slice Aw nw cw, .bool tw, .slice Bw mw dw], .pointer (some ⟨gA, 0, none⟩)] W (Q.RetQ W (q * p))
 obtain ⟨W3, hW3⟩ : ∃ V, (((W).alloc (.cells #[.bool sv, .slice Av nv cv, .bool tv, .slice Bv mv dv] 27)).alloc (.cells #[.bool sw, .slice Aw nw cw, .bool tw, .slice Bw mw dw] 27)).alloc (.cells #[.bool false, .slice none 0 0, .bool false, .slice none 0 0] 27) = V := ⟨_, rfl⟩
 have HB3 : Hid (Below W.heap.size W W3) := by rw [← hW3]; exact (((bR _ _).alloc (lR _) _).alloc (by simp) _).alloc (by simp; omega) _
 have HV3 : Hid (Qbx W3 W.heap.size sv Av nv cv tv Bv mv dv) := by rw [← hW3]; exact ((Qbx.new _ _ rfl).alloc _).alloc _
 have HW3' : Hid (Qbx W3 (W.heap.size + 1) sw Aw nw cw tw Bw mw dw) := by rw [← hW3]; exact (Qbx.new _ _ (by simp)).alloc _
 have HO3 : Hid (Qbx W3 (W.heap.size + 2) false none 0 0 false none 0 0) := by rw [← hW3]; exact Qbx.new _ _ (by simp)
 have HP := lh (hp.below HB3.out)
 have HG3 := lh ((hg.below hb).below HB3.out)
 have HQ3 := lh ((hq.below hb).below HB3.out)
 clear hp hr hg hq hb
 go_enter Tryz.func90, Tryz.ntmps90
 have v0 := HV3.out.c0
 have v1 := HV3.out.c1
 have v2 := HV3.out.c2
 have v3 := HV3.out.c3
 have a0 := HG3.out.c0
 have a1 := HG3.out.c1
 have a2 := HG3.out.c2
 have a3 := HG3.out.c3
 go_upto_region 1 with fail
 clear hW3
 go_wp2_with fail
 refine (Q.mul_q HQ3.out HP.out (by omega) (by omega) _ rfl).mono ?_
 clear v0 v1 v2 v3
 clear a0 a1 a2 a3
 rintro e w5 ⟨s8, A8, n8, c8, t8, B8, m8, d8, rfl, h8, hb8⟩
 have HO5 := lh (HO3.out.below hb8)
 have HR5 := lh h8
 have HB5 := lh (below_on HB3.out hb8)
 clear h8 hb8 HO3 HV3 HW3' HG3 HQ3
 have o0 := HO5.out.c0
 have o1 := HO5.out.c1
 have o2 := HO5.out.c2
 have o3 := HO5.out.c3
 have fo0 := HO5.out.f 0
 have fo1 := HO5.out.f 1
 have fo2 := HO5.out.f 2
 have fo3 := HO5.out.f 3
 go_wp2_with fail
 have p0 := (HO5.out.put (s' := s8) (A' := A8) (n' := n8) (c' := c8) (t' := t8) (B' := B8) (m' := m8) (d' := d8)).c0
 have p1 := (HO5.out.put (s' := s8) (A' := A8) (n' := n8) (c' := c8) (t' := t8) (B' := B8) (m' := m8) (d' := d8)).c1
 have p2 := (HO5.out.put (s' := s8) (A' := A8) (n' := n8) (c' := c8) (t' := t8) (B' := B8) (m' := m8) (d' := d8)).c2
 have p3 := (HO5.out.put (s' := s8) (A' := A8) (n' := n8) (c' := c8) (t' := t8) (B' := B8) (m' := m8) (d' := d8)).c3
 simp only [Q.put4] at p0 p1 p2 p3
 refine bodyPost_ret (v := .agg #[.bool s8, .slice A8 n8 c8, .bool t8, .slice B8 m8 d8]) (by simp [results, Tryz.results90, go_sem, p0, p1, p2, p3]) rfl ?_
 exact ⟨s8, A8, n8, c8, t8, B8, m8, d8, rfl, HR5.out.on4 HO5.out.bx, below_put4 HB5.out (by omega)⟩
def Is (F : Int → Rat) (l : List (Int × Rat)) : Prop := Canon l ∧ ∀ a, tot l a = F a
theorem RetV.mono {w w' : World} {P Q : List (Int × Rat) → Prop} {e : Ending} (h : RetV w P e w') (hp : ∀ l, P l → Q l) : RetV w Q e w' := by
 obtain ⟨g, n, c, zs, h1, h2, h3, h4, h5⟩ := h
 exact ⟨g, n, c, zs, h1, h2, h3, hp _ h4, h5⟩
theorem RetV.back {w W w' : World} {P : List (Int × Rat) → Prop} {e : Ending} (h : RetV W P e w') (hb : Below w.heap.size w W) : RetV w P e w' := by
 obtain ⟨g, n, c, zs, h1, h2, h3, h4, h5, h6⟩ := h
 exact ⟨g, n, c, zs, h1, h2, lT hb.size h3, h4, h5, below_on hb h6⟩
theorem is_of {X Y : List (Int × Rat)} {f : Rat → Rat → Rat} (hf : f 0 0 = 0) : ∀ l, (∃ D, Gone X Y D ∧ l = kept f D) → Is (fun a => f (tot X a) (tot Y a)) l := by
 rintro l ⟨D, h, rfl⟩
 exact ⟨kept_canon h.up, h.tot hf⟩
theorem tot_filter (l : List (Int × Rat)) (a : Int) : tot l a = all (l.filter (fun x => decide (x.1 = a))) := by
 induction l with
 | nil => rfl
 | cons x l ih =>
  obtain ⟨p, q⟩ := x
  rw [tot_cons, ih]
  by_cases h : p = a
  ·rw [if_pos h, List.filter_cons_of_pos (by simpa using h)]; rfl
  ·rw [if_neg h, List.filter_cons_of_neg (by simpa using h)]; grind
theorem Short.tot {l : List (Int × Rat)} (h : Short l) (a : Int) : ql (V.tot l a) ≤ 700 := by
 rw [tot_filter]
 exact h _ (List.length_filter_le ..) (fun x hx => (List.mem_filter.1 hx).1)
theorem ql_zero1 : ql 0 ≤ 1 := by
 have h := Q.ql_int 0 1 (zl_small (by omega) (by omega)) (by omega)
 exact h
theorem Short.nil : Short [] := by
 intro l' hl _
 obtain rfl : l' = [] := List.eq_nil_of_length_eq_zero (by simpa using hl)
 exact lT ql_zero1 (by omega)
theorem norm_v {w : World} {A : Option Addr} {n c k : Nat} {xs : List (TV × Rat)} (hx : IsV w A n c xs k) (hk : k ≤ 700) (hn : n ≤ 1000000) (hsx : Short (vals xs)) (hA : ∀ a, A = some a → a.block < w.heap.size) :
  Calls tz 18 #[.slice A n c] w (RetV w (Is (tot (vals xs)))) := by
 have HJ := lh (joined_any hx (IsV.nil w none 0 k) hk hn (by omega) hsx Short.nil hA (by simp) (do_norm w) hsx.tot)
 clear hx hk hn hsx hA
 go_enter Tryz.func18, Tryz.ntmps18
 go_wp2_with fail
 refine HJ.out.mono ?_
 rintro e w1 hret
 have HRET := lh (RetV.mono hret (is_of (by rfl)))
 clear HJ hret
 obtain ⟨g1, n1, c1, zs1, rfl, _⟩ := id HRET.out
 go_wp2_with fail
 exact ⟨rfl, _, by simp [results, Tryz.results18, go_sem], HRET.out⟩
theorem add_v {w : World} {A : Option Addr} {n c k : Nat} {xs : List (TV × Rat)} {B : Option Addr} {m d : Nat} {ys : List (TV × Rat)} (hx : IsV w A n c xs k) (hk : k ≤ 700) (hn : n ≤ 1000000) (hsx : Short (vals xs)) (hA : ∀ a, A = some a → a.block < w.heap.size) (hy : IsV w B m d ys k) (hm : m ≤ 1000000) (hsy : Short (vals ys)) (hB : ∀ a, B = some a → a.block < w.heap.size) :
  Calls tz 20 #[.slice A n c, .slice B m d] w (RetV w (Is (fun a => tot (vals xs) a + tot (vals ys) a))) := by
 have HJ := lh (joined_any hx hy hk hn hm hsx hsy hA hB (do_add w) (fun a => ⟨hsx.tot a, hsy.tot a⟩))
 clear hx hk hn hsx hA hy hm hsy hB
 go_enter Tryz.func20, Tryz.ntmps20
 go_wp2_with fail
 refine HJ.out.mono ?_
 rintro e w1 hret
 have HRET := lh (RetV.mono hret (is_of (by grind)))
 clear HJ hret
 obtain ⟨g1, n1, c1, zs1, rfl, _⟩ := id HRET.out
 go_wp2_with fail
 exact ⟨rfl, _, by simp [results, Tryz.results20, go_sem], HRET.out⟩
theorem scale_v {w : World} {A : Option Addr} {n c k : Nat} {xs : List (TV × Rat)} {sa : Bool} {Aa : Option Addr} {na ca : Nat} {ta : Bool} {Ba : Option Addr} {ma da : Nat} {q : Rat} (hq : IsQ w sa Aa na ca ta Ba ma da q 700) (hx : IsV w A n c xs k) (hk : k ≤ 700) (hn : n ≤ 1000000) (hsx : Short (vals xs)) (hA : ∀ a, A = some a → a.block < w.heap.size) :
  Calls tz 24 #[.agg #[.bool sa, .slice Aa na ca, .bool ta, .slice Ba ma da], .slice A n c] w (RetV w (Is (fun a => q * tot (vals xs) a))) := by
 obtain ⟨W0, hW0⟩ : ∃ V, w.alloc (.cells #[.bool sa, .slice Aa na ca, .bool ta, .slice Ba ma da] 27) = V := ⟨_, rfl⟩
 have hb : Below w.heap.size w W0 := by rw [← hW0]; exact (bR _ _).alloc (lR _) _
 have hg : Qbx W0 w.heap.size sa Aa na ca ta Ba ma da := by rw [← hW0]; exact Qbx.new _ _ rfl
 have HB := lh hb
 have HJ := lh (joined_any (hx.below hb) (IsV.nil W0 none 0 k) hk hn (by omega) hsx Short.nil (fun a h => lL (hA a h) hb.size) (by simp) (do_scale hg (hq.below hb)) hsx.tot)
 clear hx hk hn hsx hA hq hg hb
 go_enter Tryz.func24, Tryz.ntmps24
 go_upto_region 1 with fail
 clear hW0
 go_wp2_with fail
 refine HJ.out.mono ?_
 rintro e w1 hret
 have HRET := lh ((RetV.mono hret (is_of (Rat.mul_zero q))).back HB.out)
 clear HJ hret
 obtain ⟨g1, n1, c1, zs1, rfl, _⟩ := id HRET.out
 go_wp2_with fail
 exact ⟨rfl, _, by simp [results, Tryz.results24, go_sem], HRET.out⟩
end V

namespace V
set_option maxRecDepth 100000
set_option maxHeartbeats 4000000
open Go.RowKit
open Q (IsQ OneQ RetQ below_on ql Qbx below_put4)
theorem Near.setCell {Own : Nat → Prop} {w wx : World} (h : Near Own w wx) (g : Nat) (o : Nat) (v : Value) (hg : Own g) : Near Own w (wx.setCell ⟨g, o, none⟩ v) :=
 ⟨h.os, h.tape, h.output, by have := h.size; simpa using this, fun b hb hn => (Below.heap_setCell wx ⟨g, o, none⟩ v b (fun e => hn (by rw [e]; exact hg))).trans (h.block b hb hn)⟩
theorem same_visit {wl wx : World} {gS : Nat} {b0 : Bool} {a : Int} {sv : Bool} {Av : Option Addr} {nv cv : Nat} {tv : Bool} {Bv : Option Addr} {mv dv : Nat} {sw : Bool} {Aw : Option Addr} {nw cw : Nat} {tw : Bool} {Bw : Option Addr} {mw dw : Nat} {p r : Rat} (hn : Near (fun b => b = gS) wl wx) (hg : wx.heap[gS]? = some (.cells #[.bool b0] 4 (0, 0))) (hl : gS < wl.heap.size) (hp : IsQ wx sv Av nv cv tv Bv mv dv p 700) (hr : IsQ wx sw Aw nw cw tw Bw mw dw r 700) (v : Bool) (hv : decide (p = r) = v) :
  Calls tz 98 #[.int .i64 a, .agg #[.bool sv, .slice Av nv cv, .bool tv, .slice Bv mv dv], .agg #[.bool sw, .slice Aw nw cw, .bool tw, .slice Bw mw dw], .pointer (some ⟨gS, 0, none⟩)] wx (fun e wy => e = .returned (.bool v) ∧ Near (fun b => b = gS) wl wy ∧ wy.heap[gS]? = some (.cells #[.bool v] 4 (0, 0))) := by
 obtain ⟨W0, hW0⟩ : ∃ V, ((wx).alloc (.cells #[.bool sv, .slice Av nv cv, .bool tv, .slice Bv mv dv] 27)).alloc (.cells #[.bool sw, .slice Aw nw cw, .bool tw, .slice Bw mw dw] 27) = V := ⟨_, rfl⟩
 have HB0 : Hid (Below wx.heap.size wx W0) := by rw [← hW0]; exact ((bR _ _).alloc (lR _) _).alloc (by simp) _
 have HV0 : Hid (Qbx W0 wx.heap.size sv Av nv cv tv Bv mv dv) := by rw [← hW0]; exact (Qbx.new _ _ rfl).alloc _
 have HW1 : Hid (Qbx W0 (wx.heap.size + 1) sw Aw nw cw tw Bw mw dw) := by rw [← hW0]; exact Qbx.new _ _ (by simp)
 have HP := lh (hp.below HB0.out)
 have HR := lh (hr.below HB0.out)
 have HG := lh hg
 have HN := lh hn
 have HL := lh hl
 clear hn hg hl hp hr
 go_enter Tryz.func98, Tryz.ntmps98
 have v0 := HV0.out.c0
 have v1 := HV0.out.c1
 have v2 := HV0.out.c2
 have v3 := HV0.out.c3
 have u0 := HW1.out.c0
 have u1 := HW1.out.c1
 have u2 := HW1.out.c2
 have u3 := HW1.out.c3
 go_upto_region 1 with fail
 clear hW0
 go_wp2_with fail
 refine (Q.same_q HP.out HR.out (by omega) (by omega) v hv).mono ?_
 rintro e w5 ⟨rfl, hb⟩
 have HB5 := lh (below_on HB0.out hb)
 have hgs : w5.heap[gS]? = some (.cells #[.bool b0] 4 (0, 0)) := (HB5.out.block gS (lt_of_block HG.out)).trans HG.out
 have HG5 := lh hgs
 have s0 : w5.cell? ⟨gS, 0, none⟩ = some (.bool b0) := by rw [cell_of_row _ _ 0 _ _ _ hgs]; rfl
 have f0 : w5.frozen? ⟨gS, 0, none⟩ = false := frozen_of_row w5 gS 0 _ _ hgs
 clear v0 v1 v2 v3
 clear u0 u1 u2 u3
 clear hgs hb hv
 go_wp2_with fail
 exact ⟨rfl, .bool v, by simp [results, Tryz.results98, go_sem], rfl, (HN.out.below HB5.out).setCell gS 0 _ rfl, heap_setCell_same w5 gS 0 _ _ _ HG5.out⟩
theorem same_does {w W : World} {gS : Nat} {X Y : List (Int × Rat)} {N : Nat} (hb : Below w.heap.size w W) (hw : w.heap.size ≤ gS) (hg : W.heap[gS]? = some (.cells #[.bool true] 4 (0, 0))) :
  Visit 98 #[.pointer (some ⟨gS, 0, none⟩)] W (fun b => b = gS) X Y N (fun wl wx D => Below w.heap.size w wl ∧ Near (fun b => b = gS) wl wx ∧ gS < wl.heap.size ∧ ∃ b0, wx.heap[gS]? = some (.cells #[.bool b0] 4 (0, 0)) ∧ (b0 = true ↔ ∀ s ∈ D, s.2.1 = s.2.2)) (fun p r => decide (p = r)) where
 eg := enters_of Tryz.func98 (by kernel_rfl) rfl
 own b hb := by rw [hb]; exact lt_of_block hg
 dig b hb := by
  subst hb
  intro i v hv z
  rw [cell_of_row _ _ i _ _ _ hg] at hv
  match i with
  | 0 => obtain rfl := oI hv; intro h; cases h
  | i + 1 => simp at hv
 start wl hl := ⟨below_on hb hl, Near.refl _ _, lL (lt_of_block hg) hl.size, true, (hl.block gS (lt_of_block hg)).trans hg, by simp⟩
 near wl wx D h := h.2.1
 keep wl wx wy D h hy := by
  obtain ⟨h1, h2, h3, b0, h4, h5⟩ := h
  exact ⟨h1, h2.below hy, h3, b0, (hy.block gS (lt_of_block h4)).trans h4, h5⟩
 call wl wx D a sv Av nv cv tv Bv mv dv sw Aw nw cw tw Bw mw dw h _ h1 h2 _ _ _ hc := by
  obtain ⟨g1, g2, g3, b0, g4, g5⟩ := h
  refine (same_visit g2 g4 g3 h1 h2 _ rfl).mono ?_
  rintro e wy ⟨rfl, h6, h7⟩
  refine ⟨rfl, g1, h6, g3, _, h7, ?_⟩
  rw [decide_eq_true_iff]
  constructor
  ·intro h8 s hs
   rcases List.mem_append.1 hs with hs | hs
   ·exact of_decide_eq_true (hc s hs)
   ·obtain rfl := List.mem_singleton.1 hs; exact h8
  ·intro h8
   exact h8 _ (List.mem_append_right _ (List.mem_singleton.2 rfl))
theorem same_end {X Y : List (Int × Rat)} {D : List (Int × Rat × Rat)} (h : Through X Y (fun p r => decide (p = r)) D) : (∀ s ∈ D, s.2.1 = s.2.2) ↔ ∀ a, tot X a = tot Y a := by
 rcases h with ⟨hg, hc⟩ | ⟨s, hs, h1, h2, h3⟩
 ·refine ⟨fun _ a => ?_, fun _ s hs => of_decide_eq_true (hc s hs)⟩
  by_cases ha : ∃ s ∈ D, s.1 = a
  ·obtain ⟨s, hs, rfl⟩ := ha
   rw [← (hg.has s hs).1, ← (hg.has s hs).2]
   exact of_decide_eq_true (hc s hs)
  ·have h4 := hg.out a (fun s hs e => ha ⟨s, hs, e⟩)
   rw [h4.1, h4.2]
 ·have h5 : s.2.1 ≠ s.2.2 := of_decide_eq_false h3
  exact ⟨fun h => absurd (h s hs) h5, fun h => absurd (by rw [h1, h2]; exact h s.1) h5⟩
theorem same_v {w : World} {A : Option Addr} {n c k : Nat} {xs : List (TV × Rat)} {B : Option Addr} {m d : Nat} {ys : List (TV × Rat)} (hx : IsV w A n c xs k) (hk : k ≤ 700) (hn : n ≤ 1000000) (hsx : Short (vals xs)) (hA : ∀ a, A = some a → a.block < w.heap.size) (hy : IsV w B m d ys k) (hm : m ≤ 1000000) (hsy : Short (vals ys)) (hB : ∀ a, B = some a → a.block < w.heap.size) :
  Calls tz 33 #[.slice A n c, .slice B m d] w (fun e w' => ∃ b, e = .returned (.bool b) ∧ (b = true ↔ ∀ a, tot (vals xs) a = tot (vals ys) a) ∧ Below w.heap.size w w') := by
 obtain ⟨W0, hW0⟩ : ∃ V, w.alloc (.cells #[.bool true] 4) = V := ⟨_, rfl⟩
 have hb : Below w.heap.size w W0 := by rw [← hW0]; exact (bR _ _).alloc (lR _) _
 have hg : W0.heap[w.heap.size]? = some (.cells #[.bool true] 4 (0, 0)) := by rw [← hW0]; exact heap_alloc_new w _
 have HJ := lh (walk_any (hx.below hb) (hy.below hb) hk hn hm hsx hsy (fun a ha h => by have := hA a ha; omega) (fun a ha h => by have := hB a ha; omega) (same_does hb (lR _) hg))
 clear hx hk hn hsx hA hy hm hsy hB hg hb
 go_enter Tryz.func33, Tryz.ntmps33
 go_upto_region 2 with fail
 clear hW0
 go_wp2_with fail
 refine HJ.out.mono ?_
 rintro e w1 ⟨rfl, wl, D, _, ⟨h1, h2, _, b0, h4, h5⟩, h6⟩
 have h7 : w1.cell? ⟨w.heap.size, 0, none⟩ = some (.bool b0) := by rw [cell_of_row _ _ 0 _ _ _ h4]; rfl
 have HE : Hid (b0 = true ↔ ∀ a, tot (vals xs) a = tot (vals ys) a) := h5.trans (same_end h6)
 have HB : Hid (Below w.heap.size w w1) := h2.new h1 (fun b hb => by rw [hb]; exact lR _)
 clear h1 h2 h4 h5 h6 HJ
 go_wp2_with fail
 exact ⟨rfl, .bool b0, by simp [results, Tryz.results33, go_sem], b0, rfl, HE.out, HB.out⟩
end V

namespace V
open List renaming getElem_toArray → gY, getElem_cons_zero → gZ, getElem_cons_succ → gJ, setIfInBounds_toArray → sT, set_cons_zero → sZ, set_cons_succ → sS
set_option maxRecDepth 100000
set_option maxHeartbeats 4000000
open Go.RowKit
open Q (IsQ OneQ RetQ below_on ql Qbx below_put4 qsign qsign_zero_iff)
theorem dot_visit {wl wx : World} {gT : Nat} {a : Int} {s0 : Bool} {A0 : Option Addr} {n0 c0 : Nat} {t0 : Bool} {B0 : Option Addr} {m0 d0 : Nat} {sv : Bool} {Av : Option Addr} {nv cv : Nat} {tv : Bool} {Bv : Option Addr} {mv dv : Nat} {sw : Bool} {Aw : Option Addr} {nw cw : Nat} {tw : Bool} {Bw : Option Addr} {mw dw : Nat} {x p r y : Rat} (hn : Near (fun b => b = gT) wl wx) (hg : Qbx wx gT s0 A0 n0 c0 t0 B0 m0 d0) (hq : OneQ wx s0 A0 n0 c0 t0 B0 m0 d0 x) (hxl : ql x ≤ 700) (hl : gT < wl.heap.size) (hp : IsQ wx sv Av nv cv tv Bv mv dv p 700) (hr : IsQ wx sw Aw nw cw tw Bw mw dw r 700) (hzl : ql (p * r) ≤ 700) (hy : x + p * r = y) :
  Calls tz 95 #[.int .i64 a, .agg #[.bool sv, .slice Av nv cv, .bool tv, .slice Bv mv dv], .agg #[.bool sw, .slice Aw nw cw, .bool tw, .slice Bw mw dw], .pointer (some ⟨gT, 0, none⟩)] wx (fun e wy => e = .returned (.bool true) ∧ Near (fun b => b = gT) wl wy ∧ ∃ s A n c t B m d, Qbx wy gT s A n c t B m d ∧ OneQ wy s A n c t B m d y) := by
 obtain ⟨W0, hW0⟩ : ∃ V, ((wx).alloc (.cells #[.bool sv, .slice Av nv cv, .bool tv, .slice Bv mv dv] 27)).alloc (.cells #[.bool sw, .slice Aw nw cw, .bool tw, .slice Bw mw dw] 27) = V := ⟨_, rfl⟩
 have HB0 : Hid (Below wx.heap.size wx W0) := by rw [← hW0]; exact ((bR _ _).alloc (lR _) _).alloc (by simp) _
 have HV0 : Hid (Qbx W0 wx.heap.size sv Av nv cv tv Bv mv dv) := by rw [← hW0]; exact (Qbx.new _ _ rfl).alloc _
 have HU0 : Hid (Qbx W0 (wx.heap.size + 1) sw Aw nw cw tw Bw mw dw) := by rw [← hW0]; exact Qbx.new _ _ (by simp)
 have HP0 := lh (hp.below HB0.out)
 have HR0 := lh (hr.below HB0.out)
 have HG0 := lh (hg.below HB0.out)
 have HQ0 := lh (hq.below HB0.out)
 have HXL := lh hxl
 have HN := lh hn
 have HLX : Hid (gT < wx.heap.size) := lL hl hn.size
 obtain ⟨z, hz⟩ : ∃ z, p * r = z := ⟨_, rfl⟩
 have HZ := lh hz
 have HZL : Hid (ql z ≤ 700) := by show _ ≤ _; rw [← hz]; exact hzl
 have HY : Hid (x + z = y) := by show _ = _; rw [← hz]; exact hy
 obtain ⟨sg, hsg⟩ : ∃ s, qsign p = s := ⟨_, rfl⟩
 have HSG := lh hsg
 obtain ⟨sh, hsh⟩ : ∃ s, qsign r = s := ⟨_, rfl⟩
 have HSH := lh hsh
 clear hn hg hq hxl hl hp hr hzl hy
 by_cases h0 : p = 0
 ·have g1 : (sg != 0) = false := by rw [← hsg, qsign_zero_iff.2 h0]; rfl
  have HZ0 : Hid (p * r = 0) := by show _ = _; rw [h0, Rat.zero_mul]
  clear hsg hsh hz h0
  go_enter Tryz.func95, Tryz.ntmps95
  have v0 := HV0.out.c0
  have v1 := HV0.out.c1
  have v2 := HV0.out.c2
  have v3 := HV0.out.c3
  go_upto_region 1 with fail
  clear hW0
  go_wp2_with fail
  refine (Q.sign_q HP0.out (by omega) sg HSG.out).mono ?_
  rintro e w1 ⟨rfl, hb⟩
  clear v0 v1 v2 v3
  have HV1 := lh (HV0.out.below hb)
  have HU1 := lh (HU0.out.below hb)
  have HP1 := lh (HP0.out.below hb)
  have HR1 := lh (HR0.out.below hb)
  have HG1 := lh (HG0.out.below hb)
  have HQ1 := lh (HQ0.out.below hb)
  have HB1 := lh (below_on HB0.out hb)
  clear hb HV0 HU0 HP0 HR0 HG0 HQ0 HB0
  have u0 := HU1.out.c0
  have u1 := HU1.out.c1
  have u2 := HU1.out.c2
  have u3 := HU1.out.c3
  go_wp2_with fail
  exact ⟨rfl, .bool true, by simp [results, Tryz.results95, go_sem], rfl, HN.out.below HB1.out, _, _, _, _, _, _, _, _, HG1.out, by rw [← HY.out, ← HZ.out, HZ0.out, Rat.add_zero]; exact HQ1.out⟩
 ·have g1 : (sg != 0) = true := by rw [← hsg, bne_iff_ne]; exact fun h => h0 (qsign_zero_iff.1 h)
  by_cases h1 : r = 0
  ·have g2 : (sh != 0) = false := by rw [← hsh, qsign_zero_iff.2 h1]; rfl
   have HZ0 : Hid (p * r = 0) := by show _ = _; rw [h1, Rat.mul_zero]
   clear hsg hsh hz h0 h1
   go_enter Tryz.func95, Tryz.ntmps95
   have v0 := HV0.out.c0
   have v1 := HV0.out.c1
   have v2 := HV0.out.c2
   have v3 := HV0.out.c3
   go_upto_region 1 with fail
   clear hW0
   go_wp2_with fail
   refine (Q.sign_q HP0.out (by omega) sg HSG.out).mono ?_
   rintro e w1 ⟨rfl, hb⟩
   clear v0 v1 v2 v3
   have HV1 := lh (HV0.out.below hb)
   have HU1 := lh (HU0.out.below hb)
   have HP1 := lh (HP0.out.below hb)
   have HR1 := lh (HR0.out.below hb)
   have HG1 := lh (HG0.out.below hb)
   have HQ1 := lh (HQ0.out.below hb)
   have HB1 := lh (below_on HB0.out hb)
   clear hb HV0 HU0 HP0 HR0 HG0 HQ0 HB0
   have u0 := HU1.out.c0
   have u1 := HU1.out.c1
   have u2 := HU1.out.c2
   have u3 := HU1.out.c3
   go_wp2_with fail
   refine (Q.sign_q HR1.out (by omega) sh HSH.out).mono ?_
   rintro e w2 ⟨rfl, hb⟩
   clear u0 u1 u2 u3
   have HV2 := lh (HV1.out.below hb)
   have HU2 := lh (HU1.out.below hb)
   have HP2 := lh (HP1.out.below hb)
   have HR2 := lh (HR1.out.below hb)
   have HG2 := lh (HG1.out.below hb)
   have HQ2 := lh (HQ1.out.below hb)
   have HB2 := lh (below_on HB1.out hb)
   clear hb HV1 HU1 HP1 HR1 HG1 HQ1 HB1
   go_wp2_with fail
   exact ⟨rfl, .bool true, by simp [results, Tryz.results95, go_sem], rfl, HN.out.below HB2.out, _, _, _, _, _, _, _, _, HG2.out, by rw [← HY.out, ← HZ.out, HZ0.out, Rat.add_zero]; exact HQ2.out⟩
  ·have g2 : (sh != 0) = true := by rw [← hsh, bne_iff_ne]; exact fun h => h1 (qsign_zero_iff.1 h)
   clear hsg hsh hz h0 h1
   go_enter Tryz.func95, Tryz.ntmps95
   have v0 := HV0.out.c0
   have v1 := HV0.out.c1
   have v2 := HV0.out.c2
   have v3 := HV0.out.c3
   go_upto_region 1 with fail
   clear hW0
   go_wp2_with fail
   refine (Q.sign_q HP0.out (by omega) sg HSG.out).mono ?_
   rintro e w1 ⟨rfl, hb⟩
   clear v0 v1 v2 v3
   have HV1 := lh (HV0.out.below hb)
   have HU1 := lh (HU0.out.below hb)
   have HP1 := lh (HP0.out.below hb)
   have HR1 := lh (HR0.out.below hb)
   have HG1 := lh (HG0.out.below hb)
   have HQ1 := lh (HQ0.out.below hb)
   have HB1 := lh (below_on HB0.out hb)
   clear hb HV0 HU0 HP0 HR0 HG0 HQ0 HB0
   have u0 := HU1.out.c0
   have u1 := HU1.out.c1
   have u2 := HU1.out.c2
   have u3 := HU1.out.c3
   go_wp2_with fail
   refine (Q.sign_q HR1.out (by omega) sh HSH.out).mono ?_
   rintro e w2 ⟨rfl, hb⟩
   clear u0 u1 u2 u3
   have HV2 := lh (HV1.out.below hb)
   have HU2 := lh (HU1.out.below hb)
   have HP2 := lh (HP1.out.below hb)
   have HR2 := lh (HR1.out.below hb)
   have HG2 := lh (HG1.out.below hb)
   have HQ2 := lh (HQ1.out.below hb)
   have HB2 := lh (below_on HB1.out hb)
   clear hb HV1 HU1 HP1 HR1 HG1 HQ1 HB1
   go_upto_region 2 with fail
   obtain ⟨W3, hW3⟩ : ∃ V, w2.drew = V := ⟨_, rfl⟩
   have HD3 : Hid (Below w2.heap.size w2 W3) := by rw [← hW3]; exact (bR _ _).drew
   have HV3 := lh (HV2.out.below HD3.out)
   have HU3 := lh (HU2.out.below HD3.out)
   have HP3 := lh (HP2.out.below HD3.out)
   have HR3 := lh (HR2.out.below HD3.out)
   have HG3 := lh (HG2.out.below HD3.out)
   have HQ3 := lh (HQ2.out.below HD3.out)
   have HB3 := lh (below_on HB2.out HD3.out)
   have HK3 : Hid ((W3.cell? ⟨wx.heap.size, 0, none⟩ = some (.bool sv) ∧ W3.cell? ⟨wx.heap.size, 1, none⟩ = some (.slice Av nv cv) ∧ W3.cell? ⟨wx.heap.size, 2, none⟩ = some (.bool tv) ∧ W3.cell? ⟨wx.heap.size, 3, none⟩ = some (.slice Bv mv dv)) ∧ W3.cell? ⟨wx.heap.size + 1, 0, none⟩ = some (.bool sw) ∧ W3.cell? ⟨wx.heap.size + 1, 1, none⟩ = some (.slice Aw nw cw) ∧ W3.cell? ⟨wx.heap.size + 1, 2, none⟩ = some (.bool tw) ∧ W3.cell? ⟨wx.heap.size + 1, 3, none⟩ = some (.slice Bw mw dw)) := ⟨⟨HV3.out.c0, HV3.out.c1, HV3.out.c2, HV3.out.c3⟩, HU3.out.c0, HU3.out.c1, HU3.out.c2, HU3.out.c3⟩
   refine wp_region_held_drew (S := (fun V : World => (V.cell? ⟨wx.heap.size, 0, none⟩ = some (.bool sv) ∧ V.cell? ⟨wx.heap.size, 1, none⟩ = some (.slice Av nv cv) ∧ V.cell? ⟨wx.heap.size, 2, none⟩ = some (.bool tv) ∧ V.cell? ⟨wx.heap.size, 3, none⟩ = some (.slice Bv mv dv)) ∧ V.cell? ⟨wx.heap.size + 1, 0, none⟩ = some (.bool sw) ∧ V.cell? ⟨wx.heap.size + 1, 1, none⟩ = some (.slice Aw nw cw) ∧ V.cell? ⟨wx.heap.size + 1, 2, none⟩ = some (.bool tw) ∧ V.cell? ⟨wx.heap.size + 1, 3, none⟩ = some (.slice Bw mw dw))) (by kernel_rfl) (by rw [hW3]; with_reducible exact HK3.out) (fun hHeld => ?_)
   rw [hW3] at hHeld ⊢
   clear hW3 HV2 HU2 HP2 HR2 HG2 HQ2 HB2 HD3
   refine' tK 1 ?_
   try simp only [gY, gZ, gJ, aP, sT, sZ, sS]
   refine' tK 2 ?_
   try simp only [gY, gZ, gJ, aP, sT, sZ, sS]
   refine wpAnyH_ready (rs := [0, 3]) (by kernel_rfl) (by simp) ?_
   refine AllReadyH.cons rfl (fun K hK => ?_) (AllReadyH.cons rfl (fun K hK => ?_) AllReadyH.nil)
   ·try simp only [gY, gZ]
    have v0 := HG3.out.c0
    have vf0 := HG3.out.f 0
    have v1 := HG3.out.c1
    have vf1 := HG3.out.f 1
    have v2 := HG3.out.c2
    have vf2 := HG3.out.f 2
    have v3 := HG3.out.c3
    have vf3 := HG3.out.f 3
    go_simp
    clear v0 vf0 v1 vf1 v2 vf2 v3 vf3
    refine hK.out _ _ (by with_reducible exact HK3.out) (fun hHeld => ?_)
    clear hK K
    try simp only [aP, sT, sZ, sS]
    refine rQ 3 (fun K hK => ?_)
    try simp only [gY, gZ, gJ]
    go_simp
    with_reducible refine (Q.mul_q HP3.out HR3.out (by omega) (by omega) z HZ.out).mono ?_
    rintro e W4 ⟨s8, A8, n8, c8, t8, B8, m8, d8, rfl, hq, hbx⟩
    have HV4 := lh (HV3.out.below hbx)
    have HU4 := lh (HU3.out.below hbx)
    have HG4 := lh (HG3.out.below hbx)
    have HQ4 := lh (HQ3.out.below hbx)
    have HB4 := lh (below_on HB3.out hbx)
    have HZ4 := lh (hq.isq HZL.out)
    have HK4 : Hid ((W4.cell? ⟨wx.heap.size, 0, none⟩ = some (.bool sv) ∧ W4.cell? ⟨wx.heap.size, 1, none⟩ = some (.slice Av nv cv) ∧ W4.cell? ⟨wx.heap.size, 2, none⟩ = some (.bool tv) ∧ W4.cell? ⟨wx.heap.size, 3, none⟩ = some (.slice Bv mv dv)) ∧ W4.cell? ⟨wx.heap.size + 1, 0, none⟩ = some (.bool sw) ∧ W4.cell? ⟨wx.heap.size + 1, 1, none⟩ = some (.slice Aw nw cw) ∧ W4.cell? ⟨wx.heap.size + 1, 2, none⟩ = some (.bool tw) ∧ W4.cell? ⟨wx.heap.size + 1, 3, none⟩ = some (.slice Bw mw dw)) := ⟨⟨HV4.out.c0, HV4.out.c1, HV4.out.c2, HV4.out.c3⟩, HU4.out.c0, HU4.out.c1, HU4.out.c2, HU4.out.c3⟩
    clear hq hbx
    refine hK.out _ _ (by with_reducible exact HK4.out) (fun hHeld => ?_)
    clear hK K
    try simp only [aP, sT, sZ, sS]
    refine rQ 4 (fun K hK => ?_)
    try simp only [gY, gZ, gJ]
    go_simp
    with_reducible refine (Q.add_q (HQ4.out.isq HXL.out) HZ4.out (by omega) (by omega) y HY.out).mono ?_
    rintro e W5 ⟨s9, A9, n9, c9, t9, B9, m9, d9, rfl, hq, hbx⟩
    have HV5 := lh (HV4.out.below hbx)
    have HU5 := lh (HU4.out.below hbx)
    have HG5 := lh (HG4.out.below hbx)
    have HB5 := lh (below_on HB4.out hbx)
    have HY5 := lh hq
    have HK5 : Hid ((W5.cell? ⟨wx.heap.size, 0, none⟩ = some (.bool sv) ∧ W5.cell? ⟨wx.heap.size, 1, none⟩ = some (.slice Av nv cv) ∧ W5.cell? ⟨wx.heap.size, 2, none⟩ = some (.bool tv) ∧ W5.cell? ⟨wx.heap.size, 3, none⟩ = some (.slice Bv mv dv)) ∧ W5.cell? ⟨wx.heap.size + 1, 0, none⟩ = some (.bool sw) ∧ W5.cell? ⟨wx.heap.size + 1, 1, none⟩ = some (.slice Aw nw cw) ∧ W5.cell? ⟨wx.heap.size + 1, 2, none⟩ = some (.bool tw) ∧ W5.cell? ⟨wx.heap.size + 1, 3, none⟩ = some (.slice Bw mw dw)) := ⟨⟨HV5.out.c0, HV5.out.c1, HV5.out.c2, HV5.out.c3⟩, HU5.out.c0, HU5.out.c1, HU5.out.c2, HU5.out.c3⟩
    clear hq hbx
    refine hK.out _ _ (by with_reducible exact HK5.out) (fun hHeld => ?_)
    clear hK K
    try simp only [aP, sT, sZ, sS]
    refine rQ 5 (fun K hK => ?_)
    try simp only [gY, gZ, gJ]
    have v0 := HG5.out.c0
    have v1 := HG5.out.c1
    have v2 := HG5.out.c2
    have v3 := HG5.out.c3
    have vf0 := HG5.out.f 0
    have vf1 := HG5.out.f 1
    have vf2 := HG5.out.f 2
    have vf3 := HG5.out.f 3
    go_simp
    clear v0 v1 v2 v3 vf0 vf1 vf2 vf3
    have HV6 := lh (HV5.out.put4_far (s' := s9) (A' := A9) (n' := n9) (c' := c9) (t' := t9) (B' := B9) (m' := m9) (d' := d9) (g' := gT) (by have := HLX.out; omega))
    have HU6 := lh (HU5.out.put4_far (s' := s9) (A' := A9) (n' := n9) (c' := c9) (t' := t9) (B' := B9) (m' := m9) (d' := d9) (g' := gT) (by have := HLX.out; omega))
    refine hK.out _ _ (by with_reducible exact ⟨⟨HV6.out.c0, HV6.out.c1, HV6.out.c2, HV6.out.c3⟩, HU6.out.c0, HU6.out.c1, HU6.out.c2, HU6.out.c3⟩) (fun hHeld => ?_)
    clear hK K
    try simp only [aP, sT, sZ, sS]
    refine wpAnyH_done (by kernel_rfl) ?_ _
    go_wp2_with fail
    exact ⟨rfl, .bool true, by simp [results, Tryz.results95, go_sem], rfl, (((((HN.out.below HB5.out).setCell gT 0 _ rfl).setCell gT 1 _ rfl).setCell gT 2 _ rfl).setCell gT 3 _ rfl), s9, A9, n9, c9, t9, B9, m9, d9, HG5.out.put, HY5.out.on4 HG5.out.bx⟩
   ·try simp only [gY, gZ, gJ]
    go_simp
    with_reducible refine (Q.mul_q HP3.out HR3.out (by omega) (by omega) z HZ.out).mono ?_
    rintro e W4 ⟨s8, A8, n8, c8, t8, B8, m8, d8, rfl, hq, hbx⟩
    have HV4 := lh (HV3.out.below hbx)
    have HU4 := lh (HU3.out.below hbx)
    have HG4 := lh (HG3.out.below hbx)
    have HQ4 := lh (HQ3.out.below hbx)
    have HB4 := lh (below_on HB3.out hbx)
    have HZ4 := lh (hq.isq HZL.out)
    have HK4 : Hid ((W4.cell? ⟨wx.heap.size, 0, none⟩ = some (.bool sv) ∧ W4.cell? ⟨wx.heap.size, 1, none⟩ = some (.slice Av nv cv) ∧ W4.cell? ⟨wx.heap.size, 2, none⟩ = some (.bool tv) ∧ W4.cell? ⟨wx.heap.size, 3, none⟩ = some (.slice Bv mv dv)) ∧ W4.cell? ⟨wx.heap.size + 1, 0, none⟩ = some (.bool sw) ∧ W4.cell? ⟨wx.heap.size + 1, 1, none⟩ = some (.slice Aw nw cw) ∧ W4.cell? ⟨wx.heap.size + 1, 2, none⟩ = some (.bool tw) ∧ W4.cell? ⟨wx.heap.size + 1, 3, none⟩ = some (.slice Bw mw dw)) := ⟨⟨HV4.out.c0, HV4.out.c1, HV4.out.c2, HV4.out.c3⟩, HU4.out.c0, HU4.out.c1, HU4.out.c2, HU4.out.c3⟩
    clear hq hbx
    refine hK.out _ _ (by with_reducible exact HK4.out) (fun hHeld => ?_)
    clear hK K
    try simp only [aP, sT, sZ, sS]
    refine rQ 0 (fun K hK => ?_)
    try simp only [gY, gZ]
    have v0 := HG4.out.c0
    have vf0 := HG4.out.f 0
    have v1 := HG4.out.c1
    have vf1 := HG4.out.f 1
    have v2 := HG4.out.c2
    have vf2 := HG4.out.f 2
    have v3 := HG4.out.c3
    have vf3 := HG4.out.f 3
    go_simp
    clear v0 vf0 v1 vf1 v2 vf2 v3 vf3
    refine hK.out _ _ (by with_reducible exact HK4.out) (fun hHeld => ?_)
    clear hK K
    try simp only [aP, sT, sZ, sS]
    refine rQ 4 (fun K hK => ?_)
    try simp only [gY, gZ, gJ]
    go_simp
    with_reducible refine (Q.add_q (HQ4.out.isq HXL.out) HZ4.out (by omega) (by omega) y HY.out).mono ?_
    rintro e W5 ⟨s9, A9, n9, c9, t9, B9, m9, d9, rfl, hq, hbx⟩
    have HV5 := lh (HV4.out.below hbx)
    have HU5 := lh (HU4.out.below hbx)
    have HG5 := lh (HG4.out.below hbx)
    have HB5 := lh (below_on HB4.out hbx)
    have HY5 := lh hq
    have HK5 : Hid ((W5.cell? ⟨wx.heap.size, 0, none⟩ = some (.bool sv) ∧ W5.cell? ⟨wx.heap.size, 1, none⟩ = some (.slice Av nv cv) ∧ W5.cell? ⟨wx.heap.size, 2, none⟩ = some (.bool tv) ∧ W5.cell? ⟨wx.heap.size, 3, none⟩ = some (.slice Bv mv dv)) ∧ W5.cell? ⟨wx.heap.size + 1, 0, none⟩ = some (.bool sw) ∧ W5.cell? ⟨wx.heap.size + 1, 1, none⟩ = some (.slice Aw nw cw) ∧ W5.cell? ⟨wx.heap.size + 1, 2, none⟩ = some (.bool tw) ∧ W5.cell? ⟨wx.heap.size + 1, 3, none⟩ = some (.slice Bw mw dw)) := ⟨⟨HV5.out.c0, HV5.out.c1, HV5.out.c2, HV5.out.c3⟩, HU5.out.c0, HU5.out.c1, HU5.out.c2, HU5.out.c3⟩
    clear hq hbx
    refine hK.out _ _ (by with_reducible exact HK5.out) (fun hHeld => ?_)
    clear hK K
    try simp only [aP, sT, sZ, sS]
    refine rQ 5 (fun K hK => ?_)
    try simp only [gY, gZ, gJ]
    have v0 := HG5.out.c0
    have v1 := HG5.out.c1
    have v2 := HG5.out.c2
    have v3 := HG5.out.c3
    have vf0 := HG5.out.f 0
    have vf1 := HG5.out.f 1
    have vf2 := HG5.out.f 2
    have vf3 := HG5.out.f 3
    go_simp
    clear v0 v1 v2 v3 vf0 vf1 vf2 vf3
    have HV6 := lh (HV5.out.put4_far (s' := s9) (A' := A9) (n' := n9) (c' := c9) (t' := t9) (B' := B9) (m' := m9) (d' := d9) (g' := gT) (by have := HLX.out; omega))
    have HU6 := lh (HU5.out.put4_far (s' := s9) (A' := A9) (n' := n9) (c' := c9) (t' := t9) (B' := B9) (m' := m9) (d' := d9) (g' := gT) (by have := HLX.out; omega))
    refine hK.out _ _ (by with_reducible exact ⟨⟨HV6.out.c0, HV6.out.c1, HV6.out.c2, HV6.out.c3⟩, HU6.out.c0, HU6.out.c1, HU6.out.c2, HU6.out.c3⟩) (fun hHeld => ?_)
    clear hK K
    try simp only [aP, sT, sZ, sS]
    refine wpAnyH_done (by kernel_rfl) ?_ _
    go_wp2_with fail
    exact ⟨rfl, .bool true, by simp [results, Tryz.results95, go_sem], rfl, (((((HN.out.below HB5.out).setCell gT 0 _ rfl).setCell gT 1 _ rfl).setCell gT 2 _ rfl).setCell gT 3 _ rfl), s9, A9, n9, c9, t9, B9, m9, d9, HG5.out.put, HY5.out.on4 HG5.out.bx⟩
def dotD : List (Int × Rat × Rat) → Rat
 | [] => 0
 | (_, p, r) :: D => p * r + dotD D
theorem dotD_snoc (D : List (Int × Rat × Rat)) (a : Int) (p r : Rat) : dotD (D ++ [(a, p, r)]) = dotD D + p * r := by
 induction D with
 | nil => show p * r + 0 = 0 + p * r; grind
 | cons s D ih => obtain ⟨b, q, t⟩ := s; show q * t + dotD (D ++ [(a, p, r)]) = q * t + dotD D + p * r; rw [ih]; grind
def Has (X Y : List (Int × Rat)) (D : List (Int × Rat × Rat)) : Prop := D.Pairwise (fun s t => s.1 < t.1) ∧ ∀ s ∈ D, s.2.1 = tot X s.1 ∧ s.2.2 = tot Y s.1
def SmallDot (X Y : List (Int × Rat)) : Prop := ∀ D, Has X Y D → ql (dotD D) ≤ 700
def DotSt (w : World) (gT : Nat) (X Y : List (Int × Rat)) (wl wx : World) (D : List (Int × Rat × Rat)) : Prop :=
 Below w.heap.size w wl ∧ Near (fun b => b = gT) wl wx ∧ gT < wl.heap.size ∧ Has X Y D ∧ ∃ s A n c t B m d, Qbx wx gT s A n c t B m d ∧ OneQ wx s A n c t B m d (dotD D)
theorem dot_does {w W : World} {gT : Nat} {X Y : List (Int × Rat)} {N : Nat} (hb : Below w.heap.size w W) (hg : Qbx W gT false none 0 0 false none 0 0) (hs : SmallDot X Y) :
  Visit 95 #[.pointer (some ⟨gT, 0, none⟩)] W (fun b => b = gT) X Y N (DotSt w gT X Y) (fun _ _ => true) where
 eg := enters_of Tryz.func95 (by kernel_rfl) rfl
 own b hb := by rw [hb]; exact hg.lt
 dig b hb := by
  subst hb
  intro i v hv z
  have h : W.heap[b]? = some (.cells #[.bool false, .slice none 0 0, .bool false, .slice none 0 0] 27 (0, 0)) := hg
  rw [cell_of_row _ _ i _ _ _ h] at hv
  match i with
  | 0 => obtain rfl := oI hv; intro h; cases h
  | 1 => obtain rfl := oI hv; intro h; cases h
  | 2 => obtain rfl := oI hv; intro h; cases h
  | 3 => obtain rfl := oI hv; intro h; cases h
  | i + 4 => simp at hv
 start wl hl := ⟨below_on hb hl, Near.refl _ _, lL hg.lt hl.size, ⟨List.Pairwise.nil, by simp⟩, _, _, _, _, _, _, _, _, hg.below hl, Q.oneq_zero _ _ _⟩
 near wl wx D h := h.2.1
 keep wl wx wy D h hy := by
  obtain ⟨h1, h2, h3, h4, s, A, n, c, t, B, m, d, h5, h6⟩ := h
  exact ⟨h1, h2.below hy, h3, h4, s, A, n, c, t, B, m, d, h5.below hy, h6.below hy⟩
 call wl wx D a sv Av nv cv tv Bv mv dv sw Aw nw cw tw Bw mw dw h _ h1 h2 _ _ hD _ := by
  obtain ⟨g1, g2, g3, g4, s, A, n, c, t, B, m, d, g5, g6⟩ := h
  have hone : Has X Y [(a, tot X a, tot Y a)] := ⟨by simp, fun s hs => by obtain rfl := List.mem_singleton.1 hs; exact ⟨rfl, rfl⟩⟩
  have hz : ql (tot X a * tot Y a) ≤ 700 := by
   have h3 := hs _ hone
   have e : dotD [(a, tot X a, tot Y a)] = tot X a * tot Y a := by show tot X a * tot Y a + 0 = _; grind
   rwa [e] at h3
  refine (dot_visit g2 g5 g6 (hs D g4) g3 h1 h2 hz rfl).mono ?_
  rintro e wy ⟨rfl, h6, s', A', n', c', t', B', m', d', h7, h8⟩
  refine ⟨rfl, g1, h6, g3, ⟨?_, ?_⟩, s', A', n', c', t', B', m', d', h7, by rw [dotD_snoc]; exact h8⟩
  ·rw [List.pairwise_append]
   exact ⟨g4.1, by simp, fun x hx y hy => by obtain rfl := List.mem_singleton.1 hy; exact hD x hx⟩
  ·intro x hx
   rcases List.mem_append.1 hx with hx | hx
   ·exact g4.2 x hx
   ·exact hone.2 x hx
theorem dotD_over (F G : Int → Rat) (D : List (Int × Rat × Rat)) (h : ∀ s ∈ D, s.2.1 = F s.1 ∧ s.2.2 = G s.1) : dotD D = over (fun a => F a * G a) (D.map (fun s => s.1)) := by
 induction D with
 | nil => rfl
 | cons s D ih =>
  obtain ⟨a, p, r⟩ := s
  have h1 := h (a, p, r) (List.mem_cons_self ..)
  show p * r + dotD D = F a * G a + over _ (D.map _)
  rw [ih (fun x hx => h x (List.mem_cons_of_mem _ hx)), ← h1.1, ← h1.2]
def DotOf (X Y : List (Int × Rat)) (q : Rat) : Prop := ∀ L : List Int, L.Nodup → (∀ a, a ∉ L → tot X a * tot Y a = 0) → q = over (fun a => tot X a * tot Y a) L
theorem gone_dot {X Y : List (Int × Rat)} {D : List (Int × Rat × Rat)} (h : Gone X Y D) : DotOf X Y (dotD D) := by
 intro L hL h0
 rw [dotD_over (tot X) (tot Y) D h.has]
 refine over_same ?_ hL ?_ h0
 ·exact List.Pairwise.map _ (fun s t (hst : s.1 < t.1) => by show s.1 ≠ t.1; omega) h.up
 ·intro a ha
  have h1 := h.out a (fun s hs e => ha (List.mem_map.2 ⟨s, hs, e⟩))
  rw [h1.1, Rat.zero_mul]
theorem dot_v {w : World} {A : Option Addr} {n c k : Nat} {xs : List (TV × Rat)} {B : Option Addr} {m d : Nat} {ys : List (TV × Rat)} (hx : IsV w A n c xs k) (hk : k ≤ 700) (hn : n ≤ 1000000) (hsx : Short (vals xs)) (hA : ∀ a, A = some a → a.block < w.heap.size) (hy : IsV w B m d ys k) (hm : m ≤ 1000000) (hsy : Short (vals ys)) (hB : ∀ a, B = some a → a.block < w.heap.size) (hs : SmallDot (vals xs) (vals ys)) :
  Calls tz 29 #[.slice A n c, .slice B m d] w (fun e w' => ∃ q, DotOf (vals xs) (vals ys) q ∧ ql q ≤ 700 ∧ Q.RetQ w q e w') := by
 obtain ⟨W0, hW0⟩ : ∃ V, w.alloc (.cells #[.bool false, .slice none 0 0, .bool false, .slice none 0 0] 27) = V := ⟨_, rfl⟩
 have hb0 : Below w.heap.size w W0 := by rw [← hW0]; exact (bR _ _).alloc (lR _) _
 have hs0 : W0.heap.size = w.heap.size + 1 := by rw [← hW0]; simp
 have ho0 : Qbx W0 w.heap.size false none 0 0 false none 0 0 := by rw [← hW0]; exact Qbx.new _ _ rfl
 have hb1 : Below W0.heap.size W0 (W0.alloc (.cells #[.bool false, .slice none 0 0, .bool false, .slice none 0 0] 27)) := (bR _ _).alloc (lR _) _
 have hg1 : Qbx (W0.alloc (.cells #[.bool false, .slice none 0 0, .bool false, .slice none 0 0] 27)) W0.heap.size false none 0 0 false none 0 0 := Qbx.new _ _ rfl
 obtain ⟨W1, hW1⟩ : ∃ V, W0.alloc (.cells #[.bool false, .slice none 0 0, .bool false, .slice none 0 0] 27) = V := ⟨_, rfl⟩
 rw [hW1] at hb1 hg1
 have v0 := hg1.c0
 have v1 := hg1.c1
 have v2 := hg1.c2
 have v3 := hg1.c3
 have vf0 := hg1.f 0
 have vf1 := hg1.f 1
 have vf2 := hg1.f 2
 have vf3 := hg1.f 3
 have ho1 := (ho0.below hb1).put4_far (s' := false) (A' := none) (n' := 0) (c' := 0) (t' := false) (B' := none) (m' := 0) (d' := 0) (g' := W0.heap.size) (by omega)
 have hg2 := hg1.put (s' := false) (A' := none) (n' := 0) (c' := 0) (t' := false) (B' := none) (m' := 0) (d' := 0)
 have hb2 := below_put4 (g := W0.heap.size) (s' := false) (A' := none) (n' := 0) (c' := 0) (t' := false) (B' := none) (m' := 0) (d' := 0) (below_on hb0 hb1) (by omega)
 obtain ⟨W2, hW2⟩ : ∃ V, (((W1.setCell ⟨W0.heap.size, 0, none⟩ (.bool false)).setCell ⟨W0.heap.size, 1, none⟩ (.slice none 0 0)).setCell ⟨W0.heap.size, 2, none⟩ (.bool false)).setCell ⟨W0.heap.size, 3, none⟩ (.slice none 0 0) = V := ⟨_, rfl⟩
 simp only [Q.put4, hW2] at ho1 hg2 hb2
 have HJ := lh (walk_any (hx.below hb2) (hy.below hb2) hk hn hm hsx hsy (fun a ha h => by have := hA a ha; omega) (fun a ha h => by have := hB a ha; omega) (dot_does hb2 hg2 hs))
 have HO := lh ho1
 have HOL := lh ho1.lt
 have HZ := lh hs0
 have HS := lh hs
 clear hx hk hn hsx hA hy hm hsy hB hg1 hb0 hb1 ho0 hs0 hs ho1 hg2 hb2
 go_enter Tryz.func29, Tryz.ntmps29
 go_upto_region 2 with fail
 clear hW0 hW1 v0 v1 v2 v3 vf0 vf1 vf2 vf3
 try rw [hW2]
 clear hW2
 go_wp2_with fail
 refine HJ.out.mono ?_
 rintro e w1 ⟨rfl, wl, D, hbl, ⟨h1, h2, h3, h4, s8, A8, n8, c8, t8, B8, m8, d8, h5, h6⟩, h7⟩
 have HOA := lh (h2.block w.heap.size (lL HOL.out hbl.size) (fun e => by have := HZ.out; omega))
 have hob : Qbx wl w.heap.size false none 0 0 false none 0 0 := HO.out.below hbl
 have ho1 : Qbx w1 w.heap.size false none 0 0 false none 0 0 := HOA.out.trans hob
 have HO1 := lh ho1
 have HG1 := lh h5
 have H1 := lh h6
 have HD : Hid (DotOf (vals xs) (vals ys) (dotD D) ∧ ql (dotD D) ≤ 700) := ⟨gone_dot (through_all h7), HS.out D h4⟩
 have HB1 : Hid (Below w.heap.size w w1) := h2.new h1 (fun b hb => by have := HZ.out; omega)
 clear h1 h2 h3 h4 h5 h6 h7 hob ho1 HJ hbl HO HOA
 have v0 := HG1.out.c0
 have v1 := HG1.out.c1
 have v2 := HG1.out.c2
 have v3 := HG1.out.c3
 have o0 := HO1.out.c0
 have o1 := HO1.out.c1
 have o2 := HO1.out.c2
 have o3 := HO1.out.c3
 have vf0 := HO1.out.f 0
 have vf1 := HO1.out.f 1
 have vf2 := HO1.out.f 2
 have vf3 := HO1.out.f 3
 go_wp2_with fail
 have p0 := (HO1.out.put (s' := s8) (A' := A8) (n' := n8) (c' := c8) (t' := t8) (B' := B8) (m' := m8) (d' := d8)).c0
 have p1 := (HO1.out.put (s' := s8) (A' := A8) (n' := n8) (c' := c8) (t' := t8) (B' := B8) (m' := m8) (d' := d8)).c1
 have p2 := (HO1.out.put (s' := s8) (A' := A8) (n' := n8) (c' := c8) (t' := t8) (B' := B8) (m' := m8) (d' := d8)).c2
 have p3 := (HO1.out.put (s' := s8) (A' := A8) (n' := n8) (c' := c8) (t' := t8) (B' := B8) (m' := m8) (d' := d8)).c3
 simp only [Q.put4] at p0 p1 p2 p3
 refine bodyPost_ret (v := .agg #[.bool s8, .slice A8 n8 c8, .bool t8, .slice B8 m8 d8]) (by simp [results, Tryz.results29, go_sem, p0, p1, p2, p3]) rfl ?_
 exact ⟨dotD D, HD.out.1, HD.out.2, s8, A8, n8, c8, t8, B8, m8, d8, rfl, H1.out.on4 HO1.out.bx, below_put4 HB1.out (lR _)⟩
