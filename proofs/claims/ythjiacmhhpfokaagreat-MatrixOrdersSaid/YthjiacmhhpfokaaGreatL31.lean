/- Part 31 of the proof: VOps, VSame. -/
import Derived.Test.YthjiacmhhpfokaaGreatL30
namespace Go.Proofs.YthjiacmhhpfokaaGreat
open Nat renaming le_trans → lT
namespace V
open Lib renaming hid → lh
set_option maxRecDepth 100000
set_option maxHeartbeats 4000000
open Go.RowKit
open Q (IsQ OneQ RetQ below_on ql Qbx below_put4)
theorem do_norm (w : World) : Do w 79 #[] (fun p _ => p) (fun p _ => ql p ≤ 700) := by
 refine ⟨enters_of Tryz.func79 (by kernel_rfl) rfl, ?_, fun p r h => lT h (by omega)⟩
 intro W sv Av nv cv tv Bv mv dv sw Aw nw cw tw Bw mw dw p r _ hp hr _
 show Calls Tryz.prog 79 #[.agg #[.bool sv, .slice Av nv cv, .bool tv, .slice Bv mv dv], .agg #[.bool sw, .slice Aw nw cw, .bool tw, .slice Bw mw dw]] W (Q.RetQ W p)
 obtain ⟨W3, hW3⟩ : ∃ V, (((W).alloc (.cells #[.bool sv, .slice Av nv cv, .bool tv, .slice Bv mv dv] 27)).alloc (.cells #[.bool sw, .slice Aw nw cw, .bool tw, .slice Bw mw dw] 27)).alloc (.cells #[.bool false, .slice none 0 0, .bool false, .slice none 0 0] 27) = V := ⟨_, rfl⟩
 have HB3 : Hid (Below W.heap.size W W3) := by rw [← hW3]; exact (((Below.refl _ _).alloc (Nat.le_refl _) _).alloc (by simp) _).alloc (by simp; omega) _
 have HV3 : Hid (Qbx W3 W.heap.size sv Av nv cv tv Bv mv dv) := by rw [← hW3]; exact ((Qbx.new _ _ rfl).alloc _).alloc _
 have HW3' : Hid (Qbx W3 (W.heap.size + 1) sw Aw nw cw tw Bw mw dw) := by rw [← hW3]; exact (Qbx.new _ _ (by simp)).alloc _
 have HO3 : Hid (Qbx W3 (W.heap.size + 2) false none 0 0 false none 0 0) := by rw [← hW3]; exact Qbx.new _ _ (by simp)
 have HP := lh (hp.below HB3.out)
 clear hp hr
 go_enter Tryz.func79, Tryz.ntmps79
 have v0 := HV3.out.c0
 have v1 := HV3.out.c1
 have v2 := HV3.out.c2
 have v3 := HV3.out.c3
 go_upto_region 1 with fail
 clear hW3
 go_wp2_with fail
 refine (Q.norm_q HP.out (by omega) (by omega)).mono ?_
 clear v0 v1 v2 v3
 rintro e w5 ⟨s8, A8, n8, c8, t8, B8, m8, d8, rfl, h8, hb8⟩
 have HO5 := lh (HO3.out.below hb8)
 have HR5 := lh h8
 have HB5 := lh (below_on HB3.out hb8)
 clear h8 hb8 HO3 HV3 HW3'
 have o0 := HO5.out.c0
 have o1 := HO5.out.c1
 have o2 := HO5.out.c2
 have o3 := HO5.out.c3
 have fo0 := HO5.out.f 0
 have fo1 := HO5.out.f 1
 have fo2 := HO5.out.f 2
 have fo3 := HO5.out.f 3
 go_wp2_with fail
 have p0 := (HO5.out.put (s' := s8) (A' := A8) (n' := n8) (c' := c8) (t' := t8) (B' := B8) (m' := m8) (d' := d8)).c0
 have p1 := (HO5.out.put (s' := s8) (A' := A8) (n' := n8) (c' := c8) (t' := t8) (B' := B8) (m' := m8) (d' := d8)).c1
 have p2 := (HO5.out.put (s' := s8) (A' := A8) (n' := n8) (c' := c8) (t' := t8) (B' := B8) (m' := m8) (d' := d8)).c2
 have p3 := (HO5.out.put (s' := s8) (A' := A8) (n' := n8) (c' := c8) (t' := t8) (B' := B8) (m' := m8) (d' := d8)).c3
 simp only [Q.put4] at p0 p1 p2 p3
 refine bodyPost_ret (v := .agg #[.bool s8, .slice A8 n8 c8, .bool t8, .slice B8 m8 d8]) (by simp [results, Tryz.results79, go_sem, p0, p1, p2, p3]) rfl ?_
 exact ⟨s8, A8, n8, c8, t8, B8, m8, d8, rfl, HR5.out.on4 HO5.out.bx, below_put4 HB5.out (by omega)⟩
theorem do_scale {w : World} {gA : Nat} {sa : Bool} {Aa : Option Addr} {na ca : Nat} {ta : Bool} {Ba : Option Addr} {ma da : Nat} {q : Rat} (hg : Qbx w gA sa Aa na ca ta Ba ma da) (hq : IsQ w sa Aa na ca ta Ba ma da q 700) : Do w 90 #[.pointer (some ⟨gA, 0, none⟩)] (fun p _ => q * p) (fun p _ => ql p ≤ 700) := by
 refine ⟨enters_of Tryz.func90 (by kernel_rfl) rfl, ?_, fun p r h => lT (Q.ql_mul q p) (by have := hq.ql (by omega); omega)⟩
 intro W sv Av nv cv tv Bv mv dv sw Aw nw cw tw Bw mw dw p r hb hp hr _
 show Calls Tryz.prog 90 #[.agg #[.bool sv, .slice Av nv cv, .bool tv, .slice Bv mv dv], .agg #[.bool sw, .slice Aw nw cw, .bool tw, .slice Bw mw dw], .pointer (some ⟨gA, 0, none⟩)] W (Q.RetQ W (q * p))
 obtain ⟨W3, hW3⟩ : ∃ V, (((W).alloc (.cells #[.bool sv, .slice Av nv cv, .bool tv, .slice Bv mv dv] 27)).alloc (.cells #[.bool sw, .slice Aw nw cw, .bool tw, .slice Bw mw dw] 27)).alloc (.cells #[.bool false, .slice none 0 0, .bool false, .slice none 0 0] 27) = V := ⟨_, rfl⟩
 have HB3 : Hid (Below W.heap.size W W3) := by rw [← hW3]; exact (((Below.refl _ _).alloc (Nat.le_refl _) _).alloc (by simp) _).alloc (by simp; omega) _
 have HV3 : Hid (Qbx W3 W.heap.size sv Av nv cv tv Bv mv dv) := by rw [← hW3]; exact ((Qbx.new _ _ rfl).alloc _).alloc _
 have HW3' : Hid (Qbx W3 (W.heap.size + 1) sw Aw nw cw tw Bw mw dw) := by rw [← hW3]; exact (Qbx.new _ _ (by simp)).alloc _
 have HO3 : Hid (Qbx W3 (W.heap.size + 2) false none 0 0 false none 0 0) := by rw [← hW3]; exact Qbx.new _ _ (by simp)
 have HP := lh (hp.below HB3.out)
 have HG3 := lh ((hg.below hb).below HB3.out)
 have HQ3 := lh ((hq.below hb).below HB3.out)
 clear hp hr hg hq hb
 go_enter Tryz.func90, Tryz.ntmps90
 have v0 := HV3.out.c0
 have v1 := HV3.out.c1
 have v2 := HV3.out.c2
 have v3 := HV3.out.c3
 have a0 := HG3.out.c0
 have a1 := HG3.out.c1
 have a2 := HG3.out.c2
 have a3 := HG3.out.c3
 go_upto_region 1 with fail
 clear hW3
 go_wp2_with fail
 refine (Q.mul_q HQ3.out HP.out (by omega) (by omega) _ rfl).mono ?_
 clear v0 v1 v2 v3
 clear a0 a1 a2 a3
 rintro e w5 ⟨s8, A8, n8, c8, t8, B8, m8, d8, rfl, h8, hb8⟩
 have HO5 := lh (HO3.out.below hb8)
 have HR5 := lh h8
 have HB5 := lh (below_on HB3.out hb8)
 clear h8 hb8 HO3 HV3 HW3' HG3 HQ3
 have o0 := HO5.out.c0
 have o1 := HO5.out.c1
 have o2 := HO5.out.c2
 have o3 := HO5.out.c3
 have fo0 := HO5.out.f 0
 have fo1 := HO5.out.f 1
 have fo2 := HO5.out.f 2
 have fo3 := HO5.out.f 3
 go_wp2_with fail
 have p0 := (HO5.out.put (s' := s8) (A' := A8) (n' := n8) (c' := c8) (t' := t8) (B' := B8) (m' := m8) (d' := d8)).c0
 have p1 := (HO5.out.put (s' := s8) (A' := A8) (n' := n8) (c' := c8) (t' := t8) (B' := B8) (m' := m8) (d' := d8)).c1
 have p2 := (HO5.out.put (s' := s8) (A' := A8) (n' := n8) (c' := c8) (t' := t8) (B' := B8) (m' := m8) (d' := d8)).c2
 have p3 := (HO5.out.put (s' := s8) (A' := A8) (n' := n8) (c' := c8) (t' := t8) (B' := B8) (m' := m8) (d' := d8)).c3
 simp only [Q.put4] at p0 p1 p2 p3
 refine bodyPost_ret (v := .agg #[.bool s8, .slice A8 n8 c8, .bool t8, .slice B8 m8 d8]) (by simp [results, Tryz.results90, go_sem, p0, p1, p2, p3]) rfl ?_
 exact ⟨s8, A8, n8, c8, t8, B8, m8, d8, rfl, HR5.out.on4 HO5.out.bx, below_put4 HB5.out (by omega)⟩
def Is (F : Int → Rat) (l : List (Int × Rat)) : Prop := Canon l ∧ ∀ a, tot l a = F a
theorem RetV.mono {w w' : World} {P Q : List (Int × Rat) → Prop} {e : Ending} (h : RetV w P e w') (hp : ∀ l, P l → Q l) : RetV w Q e w' := by
 obtain ⟨g, n, c, zs, h1, h2, h3, h4, h5⟩ := h
 exact ⟨g, n, c, zs, h1, h2, h3, hp _ h4, h5⟩
theorem RetV.back {w W w' : World} {P : List (Int × Rat) → Prop} {e : Ending} (h : RetV W P e w') (hb : Below w.heap.size w W) : RetV w P e w' := by
 obtain ⟨g, n, c, zs, h1, h2, h3, h4, h5, h6⟩ := h
 exact ⟨g, n, c, zs, h1, h2, lT hb.size h3, h4, h5, below_on hb h6⟩
theorem is_of {X Y : List (Int × Rat)} {f : Rat → Rat → Rat} (hf : f 0 0 = 0) : ∀ l, (∃ D, Gone X Y D ∧ l = kept f D) → Is (fun a => f (tot X a) (tot Y a)) l := by
 rintro l ⟨D, h, rfl⟩
 exact ⟨kept_canon h.up, h.tot hf⟩
theorem tot_filter (l : List (Int × Rat)) (a : Int) : tot l a = all (l.filter (fun x => decide (x.1 = a))) := by
 induction l with
 | nil => rfl
 | cons x l ih =>
  obtain ⟨p, q⟩ := x
  rw [tot_cons, ih]
  by_cases h : p = a
  ·rw [if_pos h, List.filter_cons_of_pos (by simpa using h)]; rfl
  ·rw [if_neg h, List.filter_cons_of_neg (by simpa using h)]; grind
theorem Short.tot {l : List (Int × Rat)} (h : Short l) (a : Int) : ql (V.tot l a) ≤ 700 := by
 rw [tot_filter]
 exact h _ (List.length_filter_le ..) (fun x hx => (List.mem_filter.1 hx).1)
theorem ql_zero1 : ql 0 ≤ 1 := by
 have h := Q.ql_int 0 1 (zl_small (by omega) (by omega)) (by omega)
 exact h
theorem Short.nil : Short [] := by
 intro l' hl _
 obtain rfl : l' = [] := List.eq_nil_of_length_eq_zero (by simpa using hl)
 exact lT ql_zero1 (by omega)
theorem norm_v {w : World} {A : Option Addr} {n c k : Nat} {xs : List (TV × Rat)} (hx : IsV w A n c xs k) (hk : k ≤ 700) (hn : n ≤ 1000000) (hsx : Short (vals xs)) (hA : ∀ a, A = some a → a.block < w.heap.size) :
  Calls Tryz.prog 18 #[.slice A n c] w (RetV w (Is (tot (vals xs)))) := by
 have HJ := lh (joined_any hx (IsV.nil w none 0 k) hk hn (by omega) hsx Short.nil hA (by simp) (do_norm w) hsx.tot)
 clear hx hk hn hsx hA
 go_enter Tryz.func18, Tryz.ntmps18
 go_wp2_with fail
 refine HJ.out.mono ?_
 rintro e w1 hret
 have HRET := lh (RetV.mono hret (is_of (by rfl)))
 clear HJ hret
 obtain ⟨g1, n1, c1, zs1, rfl, _⟩ := id HRET.out
 go_wp2_with fail
 exact ⟨rfl, _, by simp [results, Tryz.results18, go_sem], HRET.out⟩
theorem scale_v {w : World} {A : Option Addr} {n c k : Nat} {xs : List (TV × Rat)} {sa : Bool} {Aa : Option Addr} {na ca : Nat} {ta : Bool} {Ba : Option Addr} {ma da : Nat} {q : Rat} (hq : IsQ w sa Aa na ca ta Ba ma da q 700) (hx : IsV w A n c xs k) (hk : k ≤ 700) (hn : n ≤ 1000000) (hsx : Short (vals xs)) (hA : ∀ a, A = some a → a.block < w.heap.size) :
  Calls Tryz.prog 24 #[.agg #[.bool sa, .slice Aa na ca, .bool ta, .slice Ba ma da], .slice A n c] w (RetV w (Is (fun a => q * tot (vals xs) a))) := by
 obtain ⟨W0, hW0⟩ : ∃ V, w.alloc (.cells #[.bool sa, .slice Aa na ca, .bool ta, .slice Ba ma da] 27) = V := ⟨_, rfl⟩
 have hb : Below w.heap.size w W0 := by rw [← hW0]; exact (Below.refl _ _).alloc (Nat.le_refl _) _
 have hg : Qbx W0 w.heap.size sa Aa na ca ta Ba ma da := by rw [← hW0]; exact Qbx.new _ _ rfl
 have HB := lh hb
 have HJ := lh (joined_any (hx.below hb) (IsV.nil W0 none 0 k) hk hn (by omega) hsx Short.nil (fun a h => Nat.lt_of_lt_of_le (hA a h) hb.size) (by simp) (do_scale hg (hq.below hb)) hsx.tot)
 clear hx hk hn hsx hA hq hg hb
 go_enter Tryz.func24, Tryz.ntmps24
 go_upto_region 1 with fail
 clear hW0
 go_wp2_with fail
 refine HJ.out.mono ?_
 rintro e w1 hret
 have HRET := lh ((RetV.mono hret (is_of (Rat.mul_zero q))).back HB.out)
 clear HJ hret
 obtain ⟨g1, n1, c1, zs1, rfl, _⟩ := id HRET.out
 go_wp2_with fail
 exact ⟨rfl, _, by simp [results, Tryz.results24, go_sem], HRET.out⟩
end V

namespace V
open Go.RowKit
open Q (IsQ OneQ RetQ below_on ql Qbx below_put4)
theorem Near.setCell {Own : Nat → Prop} {w wx : World} (h : Near Own w wx) (g : Nat) (o : Nat) (v : Value) (hg : Own g) : Near Own w (wx.setCell ⟨g, o, none⟩ v) :=
 ⟨h.os, h.tape, h.output, by have := h.size; simpa using this, fun b hb hn => (Below.heap_setCell wx ⟨g, o, none⟩ v b (fun e => hn (by rw [e]; exact hg))).trans (h.block b hb hn)⟩
