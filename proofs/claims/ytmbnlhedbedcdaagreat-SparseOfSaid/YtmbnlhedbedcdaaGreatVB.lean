/- VB: several texts in one. -/
import Derived.Test.YtmbnlhedbedcdaaGreatVA
import Derived.Test.YtmbnlhedbedcdaaGreatROrdMath
/- What joined makes of both. -/
namespace Go.Proofs.YtmbnlhedbedcdaaGreat.V
open Go.RowKit
open Go.Proofs.YtmbnlhedbedcdaaGreat.Q (IsQ OneQ RetQ below_on ql Qbx below_put4)

set_option maxRecDepth 100000 in
set_option maxHeartbeats 4000000 in
theorem do_norm (w : World) : Do w 71 #[] (fun p _ => p) (fun p _ => ql p ≤ 700) := by
  refine ⟨enters_of Tryz.func71 (by kernel_rfl) rfl, ?_, fun p r h => Nat.le_trans h (by omega)⟩
  intro W sv Av nv cv tv Bv mv dv sw Aw nw cw tw Bw mw dw p r _ hp hr _
  show Calls Tryz.prog 71 #[.agg #[.bool sv, .slice Av nv cv, .bool tv, .slice Bv mv dv], .agg #[.bool sw, .slice Aw nw cw, .bool tw, .slice Bw mw dw]] W (Go.Proofs.YtmbnlhedbedcdaaGreat.Q.RetQ W p)
  obtain ⟨W3, hW3⟩ : ∃ V, (((W).alloc (.cells #[.bool sv, .slice Av nv cv, .bool tv, .slice Bv mv dv] 27)).alloc (.cells #[.bool sw, .slice Aw nw cw, .bool tw, .slice Bw mw dw] 27)).alloc (.cells #[.bool false, .slice none 0 0, .bool false, .slice none 0 0] 27) = V := ⟨_, rfl⟩
  have HB3 : Hid (Below W.heap.size W W3) := by rw [← hW3]; exact (((Below.refl _ _).alloc (Nat.le_refl _) _).alloc (by simp) _).alloc (by simp; omega) _
  have HV3 : Hid (Qbx W3 W.heap.size sv Av nv cv tv Bv mv dv) := by rw [← hW3]; exact ((Qbx.new _ _ rfl).alloc _).alloc _
  have HW3' : Hid (Qbx W3 (W.heap.size + 1) sw Aw nw cw tw Bw mw dw) := by rw [← hW3]; exact (Qbx.new _ _ (by simp)).alloc _
  have HO3 : Hid (Qbx W3 (W.heap.size + 2) false none 0 0 false none 0 0) := by rw [← hW3]; exact Qbx.new _ _ (by simp)
  have HP := Lib.hid (hp.below HB3.out)
  clear hp hr
  go_enter Tryz.func71, Tryz.ntmps71
  have v0 := HV3.out.c0
  have v1 := HV3.out.c1
  have v2 := HV3.out.c2
  have v3 := HV3.out.c3
  go_upto_region 1 with fail
  clear hW3
  go_wp2_with fail
  refine (Q.norm_q HP.out (by omega) (by omega)).mono ?_
  clear v0 v1 v2 v3
  rintro e w5 ⟨s8, A8, n8, c8, t8, B8, m8, d8, rfl, h8, hb8⟩
  have HO5 := Lib.hid (HO3.out.below hb8)
  have HR5 := Lib.hid h8
  have HB5 := Lib.hid (below_on HB3.out hb8)
  clear h8 hb8 HO3 HV3 HW3'
  have o0 := HO5.out.c0
  have o1 := HO5.out.c1
  have o2 := HO5.out.c2
  have o3 := HO5.out.c3
  have fo0 := HO5.out.f 0
  have fo1 := HO5.out.f 1
  have fo2 := HO5.out.f 2
  have fo3 := HO5.out.f 3
  go_wp2_with fail
  have p0 := (HO5.out.put (s' := s8) (A' := A8) (n' := n8) (c' := c8) (t' := t8) (B' := B8) (m' := m8) (d' := d8)).c0
  have p1 := (HO5.out.put (s' := s8) (A' := A8) (n' := n8) (c' := c8) (t' := t8) (B' := B8) (m' := m8) (d' := d8)).c1
  have p2 := (HO5.out.put (s' := s8) (A' := A8) (n' := n8) (c' := c8) (t' := t8) (B' := B8) (m' := m8) (d' := d8)).c2
  have p3 := (HO5.out.put (s' := s8) (A' := A8) (n' := n8) (c' := c8) (t' := t8) (B' := B8) (m' := m8) (d' := d8)).c3
  simp only [Go.Proofs.YtmbnlhedbedcdaaGreat.Q.put4] at p0 p1 p2 p3
  refine bodyPost_ret (v := .agg #[.bool s8, .slice A8 n8 c8, .bool t8, .slice B8 m8 d8]) (by simp [results, Tryz.results71, go_sem, p0, p1, p2, p3]) rfl ?_
  exact ⟨s8, A8, n8, c8, t8, B8, m8, d8, rfl, HR5.out.on4 HO5.out.bx, below_put4 HB5.out (by omega)⟩
theorem do_add (w : World) : Do w 42 #[] (fun p r => p + r) (fun p r => ql p ≤ 700 ∧ ql r ≤ 700) := by
  refine ⟨enters_of Tryz.func42 (by kernel_rfl) rfl, ?_, fun p r h => Nat.le_trans (Q.ql_add p r) (by omega)⟩
  intro W sv Av nv cv tv Bv mv dv sw Aw nw cw tw Bw mw dw p r _ hp hr _
  exact Q.add_q hp hr (by omega) (by omega) _ rfl
set_option maxRecDepth 100000 in
set_option maxHeartbeats 4000000 in
theorem do_scale {w : World} {gA : Nat} {sa : Bool} {Aa : Option Addr} {na ca : Nat} {ta : Bool} {Ba : Option Addr} {ma da : Nat} {q : Rat} (hg : Qbx w gA sa Aa na ca ta Ba ma da) (hq : IsQ w sa Aa na ca ta Ba ma da q 700) : Do w 79 #[.pointer (some ⟨gA, 0, none⟩)] (fun p _ => q * p) (fun p _ => ql p ≤ 700) := by
  refine ⟨enters_of Tryz.func79 (by kernel_rfl) rfl, ?_, fun p r h => Nat.le_trans (Q.ql_mul q p) (by have := hq.ql (by omega); omega)⟩
  intro W sv Av nv cv tv Bv mv dv sw Aw nw cw tw Bw mw dw p r hb hp hr _
  show Calls Tryz.prog 79 #[.agg #[.bool sv, .slice Av nv cv, .bool tv, .slice Bv mv dv], .agg #[.bool sw, .slice Aw nw cw, .bool tw, .slice Bw mw dw], .pointer (some ⟨gA, 0, none⟩)] W (Go.Proofs.YtmbnlhedbedcdaaGreat.Q.RetQ W (q * p))
  obtain ⟨W3, hW3⟩ : ∃ V, (((W).alloc (.cells #[.bool sv, .slice Av nv cv, .bool tv, .slice Bv mv dv] 27)).alloc (.cells #[.bool sw, .slice Aw nw cw, .bool tw, .slice Bw mw dw] 27)).alloc (.cells #[.bool false, .slice none 0 0, .bool false, .slice none 0 0] 27) = V := ⟨_, rfl⟩
  have HB3 : Hid (Below W.heap.size W W3) := by rw [← hW3]; exact (((Below.refl _ _).alloc (Nat.le_refl _) _).alloc (by simp) _).alloc (by simp; omega) _
  have HV3 : Hid (Qbx W3 W.heap.size sv Av nv cv tv Bv mv dv) := by rw [← hW3]; exact ((Qbx.new _ _ rfl).alloc _).alloc _
  have HW3' : Hid (Qbx W3 (W.heap.size + 1) sw Aw nw cw tw Bw mw dw) := by rw [← hW3]; exact (Qbx.new _ _ (by simp)).alloc _
  have HO3 : Hid (Qbx W3 (W.heap.size + 2) false none 0 0 false none 0 0) := by rw [← hW3]; exact Qbx.new _ _ (by simp)
  have HP := Lib.hid (hp.below HB3.out)
  have HG3 := Lib.hid ((hg.below hb).below HB3.out)
  have HQ3 := Lib.hid ((hq.below hb).below HB3.out)
  clear hp hr hg hq hb
  go_enter Tryz.func79, Tryz.ntmps79
  have v0 := HV3.out.c0
  have v1 := HV3.out.c1
  have v2 := HV3.out.c2
  have v3 := HV3.out.c3
  have a0 := HG3.out.c0
  have a1 := HG3.out.c1
  have a2 := HG3.out.c2
  have a3 := HG3.out.c3
  go_upto_region 1 with fail
  clear hW3
  go_wp2_with fail
  refine (Q.mul_q HQ3.out HP.out (by omega) (by omega) _ rfl).mono ?_
  clear v0 v1 v2 v3
  clear a0 a1 a2 a3
  rintro e w5 ⟨s8, A8, n8, c8, t8, B8, m8, d8, rfl, h8, hb8⟩
  have HO5 := Lib.hid (HO3.out.below hb8)
  have HR5 := Lib.hid h8
  have HB5 := Lib.hid (below_on HB3.out hb8)
  clear h8 hb8 HO3 HV3 HW3' HG3 HQ3
  have o0 := HO5.out.c0
  have o1 := HO5.out.c1
  have o2 := HO5.out.c2
  have o3 := HO5.out.c3
  have fo0 := HO5.out.f 0
  have fo1 := HO5.out.f 1
  have fo2 := HO5.out.f 2
  have fo3 := HO5.out.f 3
  go_wp2_with fail
  have p0 := (HO5.out.put (s' := s8) (A' := A8) (n' := n8) (c' := c8) (t' := t8) (B' := B8) (m' := m8) (d' := d8)).c0
  have p1 := (HO5.out.put (s' := s8) (A' := A8) (n' := n8) (c' := c8) (t' := t8) (B' := B8) (m' := m8) (d' := d8)).c1
  have p2 := (HO5.out.put (s' := s8) (A' := A8) (n' := n8) (c' := c8) (t' := t8) (B' := B8) (m' := m8) (d' := d8)).c2
  have p3 := (HO5.out.put (s' := s8) (A' := A8) (n' := n8) (c' := c8) (t' := t8) (B' := B8) (m' := m8) (d' := d8)).c3
  simp only [Go.Proofs.YtmbnlhedbedcdaaGreat.Q.put4] at p0 p1 p2 p3
  refine bodyPost_ret (v := .agg #[.bool s8, .slice A8 n8 c8, .bool t8, .slice B8 m8 d8]) (by simp [results, Tryz.results79, go_sem, p0, p1, p2, p3]) rfl ?_
  exact ⟨s8, A8, n8, c8, t8, B8, m8, d8, rfl, HR5.out.on4 HO5.out.bx, below_put4 HB5.out (by omega)⟩
/-- In its one form, and what it has at each place. -/
def Is (F : Int → Rat) (l : List (Int × Rat)) : Prop := Canon l ∧ ∀ a, tot l a = F a
theorem RetV.mono {w w' : World} {P Q : List (Int × Rat) → Prop} {e : Ending} (h : RetV w P e w') (hp : ∀ l, P l → Q l) : RetV w Q e w' := by
  obtain ⟨g, n, c, zs, h1, h2, h3, h4, h5⟩ := h
  exact ⟨g, n, c, zs, h1, h2, h3, hp _ h4, h5⟩
theorem RetV.back {w W w' : World} {P : List (Int × Rat) → Prop} {e : Ending} (h : RetV W P e w') (hb : Below w.heap.size w W) : RetV w P e w' := by
  obtain ⟨g, n, c, zs, h1, h2, h3, h4, h5, h6⟩ := h
  exact ⟨g, n, c, zs, h1, h2, Nat.le_trans hb.size h3, h4, h5, below_on hb h6⟩
theorem is_of {X Y : List (Int × Rat)} {f : Rat → Rat → Rat} (hf : f 0 0 = 0) : ∀ l, (∃ D, Gone X Y D ∧ l = kept f D) → Is (fun a => f (tot X a) (tot Y a)) l := by
  rintro l ⟨D, h, rfl⟩
  exact ⟨kept_canon h.up, h.tot hf⟩
theorem tot_filter (l : List (Int × Rat)) (a : Int) : tot l a = all (l.filter (fun x => decide (x.1 = a))) := by
  induction l with
  | nil => rfl
  | cons x l ih =>
    obtain ⟨p, q⟩ := x
    rw [tot_cons, ih]
    by_cases h : p = a
    · rw [if_pos h, List.filter_cons_of_pos (by simpa using h)]; rfl
    · rw [if_neg h, List.filter_cons_of_neg (by simpa using h)]; grind
theorem Short.tot {l : List (Int × Rat)} (h : Short l) (a : Int) : ql (V.tot l a) ≤ 700 := by
  rw [tot_filter]
  exact h _ (List.length_filter_le ..) (fun x hx => (List.mem_filter.1 hx).1)
theorem ql_zero1 : ql 0 ≤ 1 := by
  have h := Q.ql_int 0 1 (zl_small (by omega) (by omega)) (by omega)
  exact h
theorem Short.nil : Short [] := by
  intro l' hl _
  obtain rfl : l' = [] := List.eq_nil_of_length_eq_zero (by simpa using hl)
  exact Nat.le_trans ql_zero1 (by omega)
set_option maxRecDepth 100000 in
set_option maxHeartbeats 4000000 in
theorem norm_v {w : World} {A : Option Addr} {n c k : Nat} {xs : List (TV × Rat)} (hx : IsV w A n c xs k) (hk : k ≤ 700) (hn : n ≤ 1000000) (hsx : Short (vals xs)) (hA : ∀ a, A = some a → a.block < w.heap.size) :
    Calls Tryz.prog 15 #[.slice A n c] w (RetV w (Is (tot (vals xs)))) := by
  have HJ := Lib.hid (joined_any hx (IsV.nil w none 0 k) hk hn (by omega) hsx Short.nil hA (by simp) (do_norm w) hsx.tot)
  clear hx hk hn hsx hA
  go_enter Tryz.func15, Tryz.ntmps15
  go_wp2_with fail
  refine HJ.out.mono ?_
  rintro e w1 hret
  have HRET := Lib.hid (RetV.mono hret (is_of (by rfl)))
  clear HJ hret
  obtain ⟨g1, n1, c1, zs1, rfl, _⟩ := id HRET.out
  go_wp2_with fail
  exact ⟨rfl, _, by simp [results, Tryz.results15, go_sem], HRET.out⟩
set_option maxRecDepth 100000 in
set_option maxHeartbeats 4000000 in
theorem add_v {w : World} {A : Option Addr} {n c k : Nat} {xs : List (TV × Rat)} {B : Option Addr} {m d : Nat} {ys : List (TV × Rat)} (hx : IsV w A n c xs k) (hk : k ≤ 700) (hn : n ≤ 1000000) (hsx : Short (vals xs)) (hA : ∀ a, A = some a → a.block < w.heap.size) (hy : IsV w B m d ys k) (hm : m ≤ 1000000) (hsy : Short (vals ys)) (hB : ∀ a, B = some a → a.block < w.heap.size) :
    Calls Tryz.prog 17 #[.slice A n c, .slice B m d] w (RetV w (Is (fun a => tot (vals xs) a + tot (vals ys) a))) := by
  have HJ := Lib.hid (joined_any hx hy hk hn hm hsx hsy hA hB (do_add w) (fun a => ⟨hsx.tot a, hsy.tot a⟩))
  clear hx hk hn hsx hA hy hm hsy hB
  go_enter Tryz.func17, Tryz.ntmps17
  go_wp2_with fail
  refine HJ.out.mono ?_
  rintro e w1 hret
  have HRET := Lib.hid (RetV.mono hret (is_of (by grind)))
  clear HJ hret
  obtain ⟨g1, n1, c1, zs1, rfl, _⟩ := id HRET.out
  go_wp2_with fail
  exact ⟨rfl, _, by simp [results, Tryz.results17, go_sem], HRET.out⟩
set_option maxRecDepth 100000 in
set_option maxHeartbeats 4000000 in
theorem scale_v {w : World} {A : Option Addr} {n c k : Nat} {xs : List (TV × Rat)} {sa : Bool} {Aa : Option Addr} {na ca : Nat} {ta : Bool} {Ba : Option Addr} {ma da : Nat} {q : Rat} (hq : IsQ w sa Aa na ca ta Ba ma da q 700) (hx : IsV w A n c xs k) (hk : k ≤ 700) (hn : n ≤ 1000000) (hsx : Short (vals xs)) (hA : ∀ a, A = some a → a.block < w.heap.size) :
    Calls Tryz.prog 21 #[.agg #[.bool sa, .slice Aa na ca, .bool ta, .slice Ba ma da], .slice A n c] w (RetV w (Is (fun a => q * tot (vals xs) a))) := by
  obtain ⟨W0, hW0⟩ : ∃ V, w.alloc (.cells #[.bool sa, .slice Aa na ca, .bool ta, .slice Ba ma da] 27) = V := ⟨_, rfl⟩
  have hb : Below w.heap.size w W0 := by rw [← hW0]; exact (Below.refl _ _).alloc (Nat.le_refl _) _
  have hg : Qbx W0 w.heap.size sa Aa na ca ta Ba ma da := by rw [← hW0]; exact Qbx.new _ _ rfl
  have HB := Lib.hid hb
  have HJ := Lib.hid (joined_any (hx.below hb) (IsV.nil W0 none 0 k) hk hn (by omega) hsx Short.nil (fun a h => Nat.lt_of_lt_of_le (hA a h) hb.size) (by simp) (do_scale hg (hq.below hb)) hsx.tot)
  clear hx hk hn hsx hA hq hg hb
  go_enter Tryz.func21, Tryz.ntmps21
  go_upto_region 1 with fail
  clear hW0
  go_wp2_with fail
  refine HJ.out.mono ?_
  rintro e w1 hret
  have HRET := Lib.hid ((RetV.mono hret (is_of (Rat.mul_zero q))).back HB.out)
  clear HJ hret
  obtain ⟨g1, n1, c1, zs1, rfl, _⟩ := id HRET.out
  go_wp2_with fail
  exact ⟨rfl, _, by simp [results, Tryz.results21, go_sem], HRET.out⟩
end Go.Proofs.YtmbnlhedbedcdaaGreat.V

/- sparse.Same, walked. -/
namespace Go.Proofs.YtmbnlhedbedcdaaGreat.V
open Go.RowKit
open Go.Proofs.YtmbnlhedbedcdaaGreat.Q (IsQ OneQ RetQ below_on ql Qbx below_put4)

theorem Near.setCell {Own : Nat → Prop} {w wx : World} (h : Near Own w wx) (g : Nat) (o : Nat) (v : Value) (hg : Own g) : Near Own w (wx.setCell ⟨g, o, none⟩ v) :=
  ⟨h.os, h.tape, h.output, by have := h.size; simpa using this, fun b hb hn => (Below.heap_setCell wx ⟨g, o, none⟩ v b (fun e => hn (by rw [e]; exact hg))).trans (h.block b hb hn)⟩
set_option maxRecDepth 100000 in
set_option maxHeartbeats 4000000 in
theorem same_visit {wl wx : World} {gS : Nat} {b0 : Bool} {a : Int} {sv : Bool} {Av : Option Addr} {nv cv : Nat} {tv : Bool} {Bv : Option Addr} {mv dv : Nat} {sw : Bool} {Aw : Option Addr} {nw cw : Nat} {tw : Bool} {Bw : Option Addr} {mw dw : Nat} {p r : Rat} (hn : Near (fun b => b = gS) wl wx) (hg : wx.heap[gS]? = some (.cells #[.bool b0] 4 (0, 0))) (hl : gS < wl.heap.size) (hp : IsQ wx sv Av nv cv tv Bv mv dv p 700) (hr : IsQ wx sw Aw nw cw tw Bw mw dw r 700) (v : Bool) (hv : decide (p = r) = v) :
    Calls Tryz.prog 87 #[.int .i64 a, .agg #[.bool sv, .slice Av nv cv, .bool tv, .slice Bv mv dv], .agg #[.bool sw, .slice Aw nw cw, .bool tw, .slice Bw mw dw], .pointer (some ⟨gS, 0, none⟩)] wx (fun e wy => e = .returned (.bool v) ∧ Near (fun b => b = gS) wl wy ∧ wy.heap[gS]? = some (.cells #[.bool v] 4 (0, 0))) := by
  obtain ⟨W0, hW0⟩ : ∃ V, ((wx).alloc (.cells #[.bool sv, .slice Av nv cv, .bool tv, .slice Bv mv dv] 27)).alloc (.cells #[.bool sw, .slice Aw nw cw, .bool tw, .slice Bw mw dw] 27) = V := ⟨_, rfl⟩
  have HB0 : Hid (Below wx.heap.size wx W0) := by rw [← hW0]; exact ((Below.refl _ _).alloc (Nat.le_refl _) _).alloc (by simp) _
  have HV0 : Hid (Qbx W0 wx.heap.size sv Av nv cv tv Bv mv dv) := by rw [← hW0]; exact (Qbx.new _ _ rfl).alloc _
  have HW1 : Hid (Qbx W0 (wx.heap.size + 1) sw Aw nw cw tw Bw mw dw) := by rw [← hW0]; exact Qbx.new _ _ (by simp)
  have HP := Lib.hid (hp.below HB0.out)
  have HR := Lib.hid (hr.below HB0.out)
  have HG := Lib.hid hg
  have HN := Lib.hid hn
  have HL := Lib.hid hl
  clear hn hg hl hp hr
  go_enter Tryz.func87, Tryz.ntmps87
  have v0 := HV0.out.c0
  have v1 := HV0.out.c1
  have v2 := HV0.out.c2
  have v3 := HV0.out.c3
  have u0 := HW1.out.c0
  have u1 := HW1.out.c1
  have u2 := HW1.out.c2
  have u3 := HW1.out.c3
  go_upto_region 1 with fail
  clear hW0
  go_wp2_with fail
  refine (Q.same_q HP.out HR.out (by omega) (by omega) v hv).mono ?_
  rintro e w5 ⟨rfl, hb⟩
  have HB5 := Lib.hid (below_on HB0.out hb)
  have hgs : w5.heap[gS]? = some (.cells #[.bool b0] 4 (0, 0)) := (HB5.out.block gS (lt_of_block HG.out)).trans HG.out
  have HG5 := Lib.hid hgs
  have s0 : w5.cell? ⟨gS, 0, none⟩ = some (.bool b0) := by rw [cell_of_row _ _ 0 _ _ _ hgs]; rfl
  have f0 : w5.frozen? ⟨gS, 0, none⟩ = false := frozen_of_row w5 gS 0 _ _ hgs
  clear v0 v1 v2 v3
  clear u0 u1 u2 u3
  clear hgs hb hv
  go_wp2_with fail
  exact ⟨rfl, .bool v, by simp [results, Tryz.results87, go_sem], rfl, (HN.out.below HB5.out).setCell gS 0 _ rfl, heap_setCell_same w5 gS 0 _ _ _ HG5.out⟩
/-- Same's visitor does what the walk asks. -/
theorem same_does {w W : World} {gS : Nat} {X Y : List (Int × Rat)} {N : Nat} (hb : Below w.heap.size w W) (hw : w.heap.size ≤ gS) (hg : W.heap[gS]? = some (.cells #[.bool true] 4 (0, 0))) :
    Visit 87 #[.pointer (some ⟨gS, 0, none⟩)] W (fun b => b = gS) X Y N (fun wl wx D => Below w.heap.size w wl ∧ Near (fun b => b = gS) wl wx ∧ gS < wl.heap.size ∧ ∃ b0, wx.heap[gS]? = some (.cells #[.bool b0] 4 (0, 0)) ∧ (b0 = true ↔ ∀ s ∈ D, s.2.1 = s.2.2)) (fun p r => decide (p = r)) where
  eg := enters_of Tryz.func87 (by kernel_rfl) rfl
  own b hb := by rw [hb]; exact lt_of_block hg
  dig b hb := by
    subst hb
    intro i v hv z
    rw [cell_of_row _ _ i _ _ _ hg] at hv
    match i with
    | 0 => obtain rfl := Option.some.inj hv; intro h; cases h
    | i + 1 => simp at hv
  start wl hl := ⟨below_on hb hl, Near.refl _ _, Nat.lt_of_lt_of_le (lt_of_block hg) hl.size, true, (hl.block gS (lt_of_block hg)).trans hg, by simp⟩
  near wl wx D h := h.2.1
  keep wl wx wy D h hy := by
    obtain ⟨h1, h2, h3, b0, h4, h5⟩ := h
    exact ⟨h1, h2.below hy, h3, b0, (hy.block gS (lt_of_block h4)).trans h4, h5⟩
  call wl wx D a sv Av nv cv tv Bv mv dv sw Aw nw cw tw Bw mw dw h _ h1 h2 _ _ _ hc := by
    obtain ⟨g1, g2, g3, b0, g4, g5⟩ := h
    refine (same_visit g2 g4 g3 h1 h2 _ rfl).mono ?_
    rintro e wy ⟨rfl, h6, h7⟩
    refine ⟨rfl, g1, h6, g3, _, h7, ?_⟩
    rw [decide_eq_true_iff]
    constructor
    · intro h8 s hs
      rcases List.mem_append.1 hs with hs | hs
      · exact of_decide_eq_true (hc s hs)
      · obtain rfl := List.mem_singleton.1 hs; exact h8
    · intro h8
      exact h8 _ (List.mem_append_right _ (List.mem_singleton.2 rfl))
theorem same_end {X Y : List (Int × Rat)} {D : List (Int × Rat × Rat)} (h : Through X Y (fun p r => decide (p = r)) D) : (∀ s ∈ D, s.2.1 = s.2.2) ↔ ∀ a, tot X a = tot Y a := by
  rcases h with ⟨hg, hc⟩ | ⟨s, hs, h1, h2, h3⟩
  · refine ⟨fun _ a => ?_, fun _ s hs => of_decide_eq_true (hc s hs)⟩
    by_cases ha : ∃ s ∈ D, s.1 = a
    · obtain ⟨s, hs, rfl⟩ := ha
      rw [← (hg.has s hs).1, ← (hg.has s hs).2]
      exact of_decide_eq_true (hc s hs)
    · have h4 := hg.out a (fun s hs e => ha ⟨s, hs, e⟩)
      rw [h4.1, h4.2]
  · have h5 : s.2.1 ≠ s.2.2 := of_decide_eq_false h3
    exact ⟨fun h => absurd (h s hs) h5, fun h => absurd (by rw [h1, h2]; exact h s.1) h5⟩
set_option maxRecDepth 100000 in
set_option maxHeartbeats 4000000 in
theorem same_v {w : World} {A : Option Addr} {n c k : Nat} {xs : List (TV × Rat)} {B : Option Addr} {m d : Nat} {ys : List (TV × Rat)} (hx : IsV w A n c xs k) (hk : k ≤ 700) (hn : n ≤ 1000000) (hsx : Short (vals xs)) (hA : ∀ a, A = some a → a.block < w.heap.size) (hy : IsV w B m d ys k) (hm : m ≤ 1000000) (hsy : Short (vals ys)) (hB : ∀ a, B = some a → a.block < w.heap.size) :
    Calls Tryz.prog 30 #[.slice A n c, .slice B m d] w (fun e w' => ∃ b, e = .returned (.bool b) ∧ (b = true ↔ ∀ a, tot (vals xs) a = tot (vals ys) a) ∧ Below w.heap.size w w') := by
  obtain ⟨W0, hW0⟩ : ∃ V, w.alloc (.cells #[.bool true] 4) = V := ⟨_, rfl⟩
  have hb : Below w.heap.size w W0 := by rw [← hW0]; exact (Below.refl _ _).alloc (Nat.le_refl _) _
  have hg : W0.heap[w.heap.size]? = some (.cells #[.bool true] 4 (0, 0)) := by rw [← hW0]; exact heap_alloc_new w _
  have HJ := Lib.hid (walk_any (hx.below hb) (hy.below hb) hk hn hm hsx hsy (fun a ha h => by have := hA a ha; omega) (fun a ha h => by have := hB a ha; omega) (same_does hb (Nat.le_refl _) hg))
  clear hx hk hn hsx hA hy hm hsy hB hg hb
  go_enter Tryz.func30, Tryz.ntmps30
  go_upto_region 2 with fail
  clear hW0
  go_wp2_with fail
  refine HJ.out.mono ?_
  rintro e w1 ⟨rfl, wl, D, _, ⟨h1, h2, _, b0, h4, h5⟩, h6⟩
  have h7 : w1.cell? ⟨w.heap.size, 0, none⟩ = some (.bool b0) := by rw [cell_of_row _ _ 0 _ _ _ h4]; rfl
  have HE : Hid (b0 = true ↔ ∀ a, tot (vals xs) a = tot (vals ys) a) := h5.trans (same_end h6)
  have HB : Hid (Below w.heap.size w w1) := h2.new h1 (fun b hb => by rw [hb]; exact Nat.le_refl _)
  clear h1 h2 h4 h5 h6 HJ
  go_wp2_with fail
  exact ⟨rfl, .bool b0, by simp [results, Tryz.results30, go_sem], b0, rfl, HE.out, HB.out⟩
end Go.Proofs.YtmbnlhedbedcdaaGreat.V

/- sparse.Dot, walked. -/
namespace Go.Proofs.YtmbnlhedbedcdaaGreat.V
open Go.RowKit
open Go.Proofs.YtmbnlhedbedcdaaGreat.Q (IsQ OneQ RetQ below_on ql Qbx below_put4 qsign qsign_zero_iff)

set_option maxRecDepth 100000 in
set_option maxHeartbeats 4000000 in
theorem dot_visit {wl wx : World} {gT : Nat} {a : Int} {s0 : Bool} {A0 : Option Addr} {n0 c0 : Nat} {t0 : Bool} {B0 : Option Addr} {m0 d0 : Nat} {sv : Bool} {Av : Option Addr} {nv cv : Nat} {tv : Bool} {Bv : Option Addr} {mv dv : Nat} {sw : Bool} {Aw : Option Addr} {nw cw : Nat} {tw : Bool} {Bw : Option Addr} {mw dw : Nat} {x p r y : Rat} (hn : Near (fun b => b = gT) wl wx) (hg : Qbx wx gT s0 A0 n0 c0 t0 B0 m0 d0) (hq : OneQ wx s0 A0 n0 c0 t0 B0 m0 d0 x) (hxl : ql x ≤ 700) (hl : gT < wl.heap.size) (hp : IsQ wx sv Av nv cv tv Bv mv dv p 700) (hr : IsQ wx sw Aw nw cw tw Bw mw dw r 700) (hzl : ql (p * r) ≤ 700) (hy : x + p * r = y) :
    Calls Tryz.prog 84 #[.int .i64 a, .agg #[.bool sv, .slice Av nv cv, .bool tv, .slice Bv mv dv], .agg #[.bool sw, .slice Aw nw cw, .bool tw, .slice Bw mw dw], .pointer (some ⟨gT, 0, none⟩)] wx (fun e wy => e = .returned (.bool true) ∧ Near (fun b => b = gT) wl wy ∧ ∃ s A n c t B m d, Qbx wy gT s A n c t B m d ∧ OneQ wy s A n c t B m d y) := by
  obtain ⟨W0, hW0⟩ : ∃ V, ((wx).alloc (.cells #[.bool sv, .slice Av nv cv, .bool tv, .slice Bv mv dv] 27)).alloc (.cells #[.bool sw, .slice Aw nw cw, .bool tw, .slice Bw mw dw] 27) = V := ⟨_, rfl⟩
  have HB0 : Hid (Below wx.heap.size wx W0) := by rw [← hW0]; exact ((Below.refl _ _).alloc (Nat.le_refl _) _).alloc (by simp) _
  have HV0 : Hid (Qbx W0 wx.heap.size sv Av nv cv tv Bv mv dv) := by rw [← hW0]; exact (Qbx.new _ _ rfl).alloc _
  have HU0 : Hid (Qbx W0 (wx.heap.size + 1) sw Aw nw cw tw Bw mw dw) := by rw [← hW0]; exact Qbx.new _ _ (by simp)
  have HP0 := Lib.hid (hp.below HB0.out)
  have HR0 := Lib.hid (hr.below HB0.out)
  have HG0 := Lib.hid (hg.below HB0.out)
  have HQ0 := Lib.hid (hq.below HB0.out)
  have HXL := Lib.hid hxl
  have HN := Lib.hid hn
  have HLX : Hid (gT < wx.heap.size) := Nat.lt_of_lt_of_le hl hn.size
  obtain ⟨z, hz⟩ : ∃ z, p * r = z := ⟨_, rfl⟩
  have HZ := Lib.hid hz
  have HZL : Hid (ql z ≤ 700) := by show _ ≤ _; rw [← hz]; exact hzl
  have HY : Hid (x + z = y) := by show _ = _; rw [← hz]; exact hy
  obtain ⟨sg, hsg⟩ : ∃ s, qsign p = s := ⟨_, rfl⟩
  have HSG := Lib.hid hsg
  obtain ⟨sh, hsh⟩ : ∃ s, qsign r = s := ⟨_, rfl⟩
  have HSH := Lib.hid hsh
  clear hn hg hq hxl hl hp hr hzl hy
  by_cases h0 : p = 0
  · have g1 : (sg != 0) = false := by rw [← hsg, qsign_zero_iff.2 h0]; rfl
    have HZ0 : Hid (p * r = 0) := by show _ = _; rw [h0, Rat.zero_mul]
    clear hsg hsh hz h0
    go_enter Tryz.func84, Tryz.ntmps84
    have v0 := HV0.out.c0
    have v1 := HV0.out.c1
    have v2 := HV0.out.c2
    have v3 := HV0.out.c3
    go_upto_region 1 with fail
    clear hW0
    go_wp2_with fail
    refine (Q.sign_q HP0.out (by omega) sg HSG.out).mono ?_
    rintro e w1 ⟨rfl, hb⟩
    clear v0 v1 v2 v3
    have HV1 := Lib.hid (HV0.out.below hb)
    have HU1 := Lib.hid (HU0.out.below hb)
    have HP1 := Lib.hid (HP0.out.below hb)
    have HR1 := Lib.hid (HR0.out.below hb)
    have HG1 := Lib.hid (HG0.out.below hb)
    have HQ1 := Lib.hid (HQ0.out.below hb)
    have HB1 := Lib.hid (below_on HB0.out hb)
    clear hb HV0 HU0 HP0 HR0 HG0 HQ0 HB0
    have u0 := HU1.out.c0
    have u1 := HU1.out.c1
    have u2 := HU1.out.c2
    have u3 := HU1.out.c3
    go_wp2_with fail
    exact ⟨rfl, .bool true, by simp [results, Tryz.results84, go_sem], rfl, HN.out.below HB1.out, _, _, _, _, _, _, _, _, HG1.out, by rw [← HY.out, ← HZ.out, HZ0.out, Rat.add_zero]; exact HQ1.out⟩
  · have g1 : (sg != 0) = true := by rw [← hsg, bne_iff_ne]; exact fun h => h0 (qsign_zero_iff.1 h)
    by_cases h1 : r = 0
    · have g2 : (sh != 0) = false := by rw [← hsh, qsign_zero_iff.2 h1]; rfl
      have HZ0 : Hid (p * r = 0) := by show _ = _; rw [h1, Rat.mul_zero]
      clear hsg hsh hz h0 h1
      go_enter Tryz.func84, Tryz.ntmps84
      have v0 := HV0.out.c0
      have v1 := HV0.out.c1
      have v2 := HV0.out.c2
      have v3 := HV0.out.c3
      go_upto_region 1 with fail
      clear hW0
      go_wp2_with fail
      refine (Q.sign_q HP0.out (by omega) sg HSG.out).mono ?_
      rintro e w1 ⟨rfl, hb⟩
      clear v0 v1 v2 v3
      have HV1 := Lib.hid (HV0.out.below hb)
      have HU1 := Lib.hid (HU0.out.below hb)
      have HP1 := Lib.hid (HP0.out.below hb)
      have HR1 := Lib.hid (HR0.out.below hb)
      have HG1 := Lib.hid (HG0.out.below hb)
      have HQ1 := Lib.hid (HQ0.out.below hb)
      have HB1 := Lib.hid (below_on HB0.out hb)
      clear hb HV0 HU0 HP0 HR0 HG0 HQ0 HB0
      have u0 := HU1.out.c0
      have u1 := HU1.out.c1
      have u2 := HU1.out.c2
      have u3 := HU1.out.c3
      go_wp2_with fail
      refine (Q.sign_q HR1.out (by omega) sh HSH.out).mono ?_
      rintro e w2 ⟨rfl, hb⟩
      clear u0 u1 u2 u3
      have HV2 := Lib.hid (HV1.out.below hb)
      have HU2 := Lib.hid (HU1.out.below hb)
      have HP2 := Lib.hid (HP1.out.below hb)
      have HR2 := Lib.hid (HR1.out.below hb)
      have HG2 := Lib.hid (HG1.out.below hb)
      have HQ2 := Lib.hid (HQ1.out.below hb)
      have HB2 := Lib.hid (below_on HB1.out hb)
      clear hb HV1 HU1 HP1 HR1 HG1 HQ1 HB1
      go_wp2_with fail
      exact ⟨rfl, .bool true, by simp [results, Tryz.results84, go_sem], rfl, HN.out.below HB2.out, _, _, _, _, _, _, _, _, HG2.out, by rw [← HY.out, ← HZ.out, HZ0.out, Rat.add_zero]; exact HQ2.out⟩
    · have g2 : (sh != 0) = true := by rw [← hsh, bne_iff_ne]; exact fun h => h1 (qsign_zero_iff.1 h)
      clear hsg hsh hz h0 h1
      go_enter Tryz.func84, Tryz.ntmps84
      have v0 := HV0.out.c0
      have v1 := HV0.out.c1
      have v2 := HV0.out.c2
      have v3 := HV0.out.c3
      go_upto_region 1 with fail
      clear hW0
      go_wp2_with fail
      refine (Q.sign_q HP0.out (by omega) sg HSG.out).mono ?_
      rintro e w1 ⟨rfl, hb⟩
      clear v0 v1 v2 v3
      have HV1 := Lib.hid (HV0.out.below hb)
      have HU1 := Lib.hid (HU0.out.below hb)
      have HP1 := Lib.hid (HP0.out.below hb)
      have HR1 := Lib.hid (HR0.out.below hb)
      have HG1 := Lib.hid (HG0.out.below hb)
      have HQ1 := Lib.hid (HQ0.out.below hb)
      have HB1 := Lib.hid (below_on HB0.out hb)
      clear hb HV0 HU0 HP0 HR0 HG0 HQ0 HB0
      have u0 := HU1.out.c0
      have u1 := HU1.out.c1
      have u2 := HU1.out.c2
      have u3 := HU1.out.c3
      go_wp2_with fail
      refine (Q.sign_q HR1.out (by omega) sh HSH.out).mono ?_
      rintro e w2 ⟨rfl, hb⟩
      clear u0 u1 u2 u3
      have HV2 := Lib.hid (HV1.out.below hb)
      have HU2 := Lib.hid (HU1.out.below hb)
      have HP2 := Lib.hid (HP1.out.below hb)
      have HR2 := Lib.hid (HR1.out.below hb)
      have HG2 := Lib.hid (HG1.out.below hb)
      have HQ2 := Lib.hid (HQ1.out.below hb)
      have HB2 := Lib.hid (below_on HB1.out hb)
      clear hb HV1 HU1 HP1 HR1 HG1 HQ1 HB1
      go_upto_region 2 with fail
      obtain ⟨W3, hW3⟩ : ∃ V, w2.drew = V := ⟨_, rfl⟩
      have HD3 : Hid (Below w2.heap.size w2 W3) := by rw [← hW3]; exact (Below.refl _ _).drew
      have HV3 := Lib.hid (HV2.out.below HD3.out)
      have HU3 := Lib.hid (HU2.out.below HD3.out)
      have HP3 := Lib.hid (HP2.out.below HD3.out)
      have HR3 := Lib.hid (HR2.out.below HD3.out)
      have HG3 := Lib.hid (HG2.out.below HD3.out)
      have HQ3 := Lib.hid (HQ2.out.below HD3.out)
      have HB3 := Lib.hid (below_on HB2.out HD3.out)
      have HK3 : Hid ((W3.cell? ⟨wx.heap.size, 0, none⟩ = some (.bool sv) ∧ W3.cell? ⟨wx.heap.size, 1, none⟩ = some (.slice Av nv cv) ∧ W3.cell? ⟨wx.heap.size, 2, none⟩ = some (.bool tv) ∧ W3.cell? ⟨wx.heap.size, 3, none⟩ = some (.slice Bv mv dv)) ∧ W3.cell? ⟨wx.heap.size + 1, 0, none⟩ = some (.bool sw) ∧ W3.cell? ⟨wx.heap.size + 1, 1, none⟩ = some (.slice Aw nw cw) ∧ W3.cell? ⟨wx.heap.size + 1, 2, none⟩ = some (.bool tw) ∧ W3.cell? ⟨wx.heap.size + 1, 3, none⟩ = some (.slice Bw mw dw)) := ⟨⟨HV3.out.c0, HV3.out.c1, HV3.out.c2, HV3.out.c3⟩, HU3.out.c0, HU3.out.c1, HU3.out.c2, HU3.out.c3⟩
      refine wp_region_held_drew (S := (fun V : World => (V.cell? ⟨wx.heap.size, 0, none⟩ = some (.bool sv) ∧ V.cell? ⟨wx.heap.size, 1, none⟩ = some (.slice Av nv cv) ∧ V.cell? ⟨wx.heap.size, 2, none⟩ = some (.bool tv) ∧ V.cell? ⟨wx.heap.size, 3, none⟩ = some (.slice Bv mv dv)) ∧ V.cell? ⟨wx.heap.size + 1, 0, none⟩ = some (.bool sw) ∧ V.cell? ⟨wx.heap.size + 1, 1, none⟩ = some (.slice Aw nw cw) ∧ V.cell? ⟨wx.heap.size + 1, 2, none⟩ = some (.bool tw) ∧ V.cell? ⟨wx.heap.size + 1, 3, none⟩ = some (.slice Bw mw dw))) (by kernel_rfl) (by rw [hW3]; with_reducible exact HK3.out) (fun hHeld => ?_)
      rw [hW3] at hHeld ⊢
      clear hW3 HV2 HU2 HP2 HR2 HG2 HQ2 HB2 HD3
      refine' wpAnyH_take (i := 1) (v := _) rfl (by kernel_rfl) (by kernel_rfl) (by kernel_rfl) (fun _ _ _ h => h) (Or.inl ⟨by rfl, ?hy1⟩) (by assumption) ?rest1
      case hy1 => (intro w hSw; (try dsimp only at hSw); try simp only [List.getElem_toArray, List.getElem_cons_zero, List.getElem_cons_succ]; go_simp; (try with_reducible rfl))
      try simp only [List.getElem_toArray, List.getElem_cons_zero, List.getElem_cons_succ]
      try simp only [Act.put, List.setIfInBounds_toArray, List.set_cons_zero, List.set_cons_succ]
      refine' wpAnyH_take (i := 2) (v := _) rfl (by kernel_rfl) (by kernel_rfl) (by kernel_rfl) (fun _ _ _ h => h) (Or.inl ⟨by rfl, ?hy2⟩) (by assumption) ?rest2
      case hy2 => (intro w hSw; (try dsimp only at hSw); try simp only [List.getElem_toArray, List.getElem_cons_zero, List.getElem_cons_succ]; go_simp; (try with_reducible rfl))
      try simp only [List.getElem_toArray, List.getElem_cons_zero, List.getElem_cons_succ]
      try simp only [Act.put, List.setIfInBounds_toArray, List.set_cons_zero, List.set_cons_succ]
      refine wpAnyH_ready (rs := [0, 3]) (by kernel_rfl) (by simp) ?_
      refine AllReadyH.cons rfl (fun K hK => ?_) (AllReadyH.cons rfl (fun K hK => ?_) AllReadyH.nil)
      · try simp only [List.getElem_toArray, List.getElem_cons_zero]
        have v0 := HG3.out.c0
        have vf0 := HG3.out.f 0
        have v1 := HG3.out.c1
        have vf1 := HG3.out.f 1
        have v2 := HG3.out.c2
        have vf2 := HG3.out.f 2
        have v3 := HG3.out.c3
        have vf3 := HG3.out.f 3
        go_simp
        clear v0 vf0 v1 vf1 v2 vf2 v3 vf3
        refine hK.out _ _ (by with_reducible exact HK3.out) (fun hHeld => ?_)
        clear hK K
        try simp only [Act.put, List.setIfInBounds_toArray, List.set_cons_zero, List.set_cons_succ]
        refine wpAnyH_ready (rs := [3]) (by kernel_rfl) (by simp) ?_
        refine AllReadyH.cons rfl (fun K hK => ?_) AllReadyH.nil
        try simp only [List.getElem_toArray, List.getElem_cons_zero, List.getElem_cons_succ]
        go_simp
        with_reducible refine (Q.mul_q HP3.out HR3.out (by omega) (by omega) z HZ.out).mono ?_
        rintro e W4 ⟨s8, A8, n8, c8, t8, B8, m8, d8, rfl, hq, hbx⟩
        have HV4 := Lib.hid (HV3.out.below hbx)
        have HU4 := Lib.hid (HU3.out.below hbx)
        have HG4 := Lib.hid (HG3.out.below hbx)
        have HQ4 := Lib.hid (HQ3.out.below hbx)
        have HB4 := Lib.hid (below_on HB3.out hbx)
        have HZ4 := Lib.hid (hq.isq HZL.out)
        have HK4 : Hid ((W4.cell? ⟨wx.heap.size, 0, none⟩ = some (.bool sv) ∧ W4.cell? ⟨wx.heap.size, 1, none⟩ = some (.slice Av nv cv) ∧ W4.cell? ⟨wx.heap.size, 2, none⟩ = some (.bool tv) ∧ W4.cell? ⟨wx.heap.size, 3, none⟩ = some (.slice Bv mv dv)) ∧ W4.cell? ⟨wx.heap.size + 1, 0, none⟩ = some (.bool sw) ∧ W4.cell? ⟨wx.heap.size + 1, 1, none⟩ = some (.slice Aw nw cw) ∧ W4.cell? ⟨wx.heap.size + 1, 2, none⟩ = some (.bool tw) ∧ W4.cell? ⟨wx.heap.size + 1, 3, none⟩ = some (.slice Bw mw dw)) := ⟨⟨HV4.out.c0, HV4.out.c1, HV4.out.c2, HV4.out.c3⟩, HU4.out.c0, HU4.out.c1, HU4.out.c2, HU4.out.c3⟩
        clear hq hbx
        refine hK.out _ _ (by with_reducible exact HK4.out) (fun hHeld => ?_)
        clear hK K
        try simp only [Act.put, List.setIfInBounds_toArray, List.set_cons_zero, List.set_cons_succ]
        refine wpAnyH_ready (rs := [4]) (by kernel_rfl) (by simp) ?_
        refine AllReadyH.cons rfl (fun K hK => ?_) AllReadyH.nil
        try simp only [List.getElem_toArray, List.getElem_cons_zero, List.getElem_cons_succ]
        go_simp
        with_reducible refine (Q.add_q (HQ4.out.isq HXL.out) HZ4.out (by omega) (by omega) y HY.out).mono ?_
        rintro e W5 ⟨s9, A9, n9, c9, t9, B9, m9, d9, rfl, hq, hbx⟩
        have HV5 := Lib.hid (HV4.out.below hbx)
        have HU5 := Lib.hid (HU4.out.below hbx)
        have HG5 := Lib.hid (HG4.out.below hbx)
        have HB5 := Lib.hid (below_on HB4.out hbx)
        have HY5 := Lib.hid hq
        have HK5 : Hid ((W5.cell? ⟨wx.heap.size, 0, none⟩ = some (.bool sv) ∧ W5.cell? ⟨wx.heap.size, 1, none⟩ = some (.slice Av nv cv) ∧ W5.cell? ⟨wx.heap.size, 2, none⟩ = some (.bool tv) ∧ W5.cell? ⟨wx.heap.size, 3, none⟩ = some (.slice Bv mv dv)) ∧ W5.cell? ⟨wx.heap.size + 1, 0, none⟩ = some (.bool sw) ∧ W5.cell? ⟨wx.heap.size + 1, 1, none⟩ = some (.slice Aw nw cw) ∧ W5.cell? ⟨wx.heap.size + 1, 2, none⟩ = some (.bool tw) ∧ W5.cell? ⟨wx.heap.size + 1, 3, none⟩ = some (.slice Bw mw dw)) := ⟨⟨HV5.out.c0, HV5.out.c1, HV5.out.c2, HV5.out.c3⟩, HU5.out.c0, HU5.out.c1, HU5.out.c2, HU5.out.c3⟩
        clear hq hbx
        refine hK.out _ _ (by with_reducible exact HK5.out) (fun hHeld => ?_)
        clear hK K
        try simp only [Act.put, List.setIfInBounds_toArray, List.set_cons_zero, List.set_cons_succ]
        refine wpAnyH_ready (rs := [5]) (by kernel_rfl) (by simp) ?_
        refine AllReadyH.cons rfl (fun K hK => ?_) AllReadyH.nil
        try simp only [List.getElem_toArray, List.getElem_cons_zero, List.getElem_cons_succ]
        have v0 := HG5.out.c0
        have v1 := HG5.out.c1
        have v2 := HG5.out.c2
        have v3 := HG5.out.c3
        have vf0 := HG5.out.f 0
        have vf1 := HG5.out.f 1
        have vf2 := HG5.out.f 2
        have vf3 := HG5.out.f 3
        go_simp
        clear v0 v1 v2 v3 vf0 vf1 vf2 vf3
        have HV6 := Lib.hid (HV5.out.put4_far (s' := s9) (A' := A9) (n' := n9) (c' := c9) (t' := t9) (B' := B9) (m' := m9) (d' := d9) (g' := gT) (by have := HLX.out; omega))
        have HU6 := Lib.hid (HU5.out.put4_far (s' := s9) (A' := A9) (n' := n9) (c' := c9) (t' := t9) (B' := B9) (m' := m9) (d' := d9) (g' := gT) (by have := HLX.out; omega))
        refine hK.out _ _ (by with_reducible exact ⟨⟨HV6.out.c0, HV6.out.c1, HV6.out.c2, HV6.out.c3⟩, HU6.out.c0, HU6.out.c1, HU6.out.c2, HU6.out.c3⟩) (fun hHeld => ?_)
        clear hK K
        try simp only [Act.put, List.setIfInBounds_toArray, List.set_cons_zero, List.set_cons_succ]
        refine wpAnyH_done (by kernel_rfl) ?_ _
        go_wp2_with fail
        exact ⟨rfl, .bool true, by simp [results, Tryz.results84, go_sem], rfl, (((((HN.out.below HB5.out).setCell gT 0 _ rfl).setCell gT 1 _ rfl).setCell gT 2 _ rfl).setCell gT 3 _ rfl), s9, A9, n9, c9, t9, B9, m9, d9, HG5.out.put, HY5.out.on4 HG5.out.bx⟩
      · try simp only [List.getElem_toArray, List.getElem_cons_zero, List.getElem_cons_succ]
        go_simp
        with_reducible refine (Q.mul_q HP3.out HR3.out (by omega) (by omega) z HZ.out).mono ?_
        rintro e W4 ⟨s8, A8, n8, c8, t8, B8, m8, d8, rfl, hq, hbx⟩
        have HV4 := Lib.hid (HV3.out.below hbx)
        have HU4 := Lib.hid (HU3.out.below hbx)
        have HG4 := Lib.hid (HG3.out.below hbx)
        have HQ4 := Lib.hid (HQ3.out.below hbx)
        have HB4 := Lib.hid (below_on HB3.out hbx)
        have HZ4 := Lib.hid (hq.isq HZL.out)
        have HK4 : Hid ((W4.cell? ⟨wx.heap.size, 0, none⟩ = some (.bool sv) ∧ W4.cell? ⟨wx.heap.size, 1, none⟩ = some (.slice Av nv cv) ∧ W4.cell? ⟨wx.heap.size, 2, none⟩ = some (.bool tv) ∧ W4.cell? ⟨wx.heap.size, 3, none⟩ = some (.slice Bv mv dv)) ∧ W4.cell? ⟨wx.heap.size + 1, 0, none⟩ = some (.bool sw) ∧ W4.cell? ⟨wx.heap.size + 1, 1, none⟩ = some (.slice Aw nw cw) ∧ W4.cell? ⟨wx.heap.size + 1, 2, none⟩ = some (.bool tw) ∧ W4.cell? ⟨wx.heap.size + 1, 3, none⟩ = some (.slice Bw mw dw)) := ⟨⟨HV4.out.c0, HV4.out.c1, HV4.out.c2, HV4.out.c3⟩, HU4.out.c0, HU4.out.c1, HU4.out.c2, HU4.out.c3⟩
        clear hq hbx
        refine hK.out _ _ (by with_reducible exact HK4.out) (fun hHeld => ?_)
        clear hK K
        try simp only [Act.put, List.setIfInBounds_toArray, List.set_cons_zero, List.set_cons_succ]
        refine wpAnyH_ready (rs := [0]) (by kernel_rfl) (by simp) ?_
        refine AllReadyH.cons rfl (fun K hK => ?_) AllReadyH.nil
        try simp only [List.getElem_toArray, List.getElem_cons_zero]
        have v0 := HG4.out.c0
        have vf0 := HG4.out.f 0
        have v1 := HG4.out.c1
        have vf1 := HG4.out.f 1
        have v2 := HG4.out.c2
        have vf2 := HG4.out.f 2
        have v3 := HG4.out.c3
        have vf3 := HG4.out.f 3
        go_simp
        clear v0 vf0 v1 vf1 v2 vf2 v3 vf3
        refine hK.out _ _ (by with_reducible exact HK4.out) (fun hHeld => ?_)
        clear hK K
        try simp only [Act.put, List.setIfInBounds_toArray, List.set_cons_zero, List.set_cons_succ]
        refine wpAnyH_ready (rs := [4]) (by kernel_rfl) (by simp) ?_
        refine AllReadyH.cons rfl (fun K hK => ?_) AllReadyH.nil
        try simp only [List.getElem_toArray, List.getElem_cons_zero, List.getElem_cons_succ]
        go_simp
        with_reducible refine (Q.add_q (HQ4.out.isq HXL.out) HZ4.out (by omega) (by omega) y HY.out).mono ?_
        rintro e W5 ⟨s9, A9, n9, c9, t9, B9, m9, d9, rfl, hq, hbx⟩
        have HV5 := Lib.hid (HV4.out.below hbx)
        have HU5 := Lib.hid (HU4.out.below hbx)
        have HG5 := Lib.hid (HG4.out.below hbx)
        have HB5 := Lib.hid (below_on HB4.out hbx)
        have HY5 := Lib.hid hq
        have HK5 : Hid ((W5.cell? ⟨wx.heap.size, 0, none⟩ = some (.bool sv) ∧ W5.cell? ⟨wx.heap.size, 1, none⟩ = some (.slice Av nv cv) ∧ W5.cell? ⟨wx.heap.size, 2, none⟩ = some (.bool tv) ∧ W5.cell? ⟨wx.heap.size, 3, none⟩ = some (.slice Bv mv dv)) ∧ W5.cell? ⟨wx.heap.size + 1, 0, none⟩ = some (.bool sw) ∧ W5.cell? ⟨wx.heap.size + 1, 1, none⟩ = some (.slice Aw nw cw) ∧ W5.cell? ⟨wx.heap.size + 1, 2, none⟩ = some (.bool tw) ∧ W5.cell? ⟨wx.heap.size + 1, 3, none⟩ = some (.slice Bw mw dw)) := ⟨⟨HV5.out.c0, HV5.out.c1, HV5.out.c2, HV5.out.c3⟩, HU5.out.c0, HU5.out.c1, HU5.out.c2, HU5.out.c3⟩
        clear hq hbx
        refine hK.out _ _ (by with_reducible exact HK5.out) (fun hHeld => ?_)
        clear hK K
        try simp only [Act.put, List.setIfInBounds_toArray, List.set_cons_zero, List.set_cons_succ]
        refine wpAnyH_ready (rs := [5]) (by kernel_rfl) (by simp) ?_
        refine AllReadyH.cons rfl (fun K hK => ?_) AllReadyH.nil
        try simp only [List.getElem_toArray, List.getElem_cons_zero, List.getElem_cons_succ]
        have v0 := HG5.out.c0
        have v1 := HG5.out.c1
        have v2 := HG5.out.c2
        have v3 := HG5.out.c3
        have vf0 := HG5.out.f 0
        have vf1 := HG5.out.f 1
        have vf2 := HG5.out.f 2
        have vf3 := HG5.out.f 3
        go_simp
        clear v0 v1 v2 v3 vf0 vf1 vf2 vf3
        have HV6 := Lib.hid (HV5.out.put4_far (s' := s9) (A' := A9) (n' := n9) (c' := c9) (t' := t9) (B' := B9) (m' := m9) (d' := d9) (g' := gT) (by have := HLX.out; omega))
        have HU6 := Lib.hid (HU5.out.put4_far (s' := s9) (A' := A9) (n' := n9) (c' := c9) (t' := t9) (B' := B9) (m' := m9) (d' := d9) (g' := gT) (by have := HLX.out; omega))
        refine hK.out _ _ (by with_reducible exact ⟨⟨HV6.out.c0, HV6.out.c1, HV6.out.c2, HV6.out.c3⟩, HU6.out.c0, HU6.out.c1, HU6.out.c2, HU6.out.c3⟩) (fun hHeld => ?_)
        clear hK K
        try simp only [Act.put, List.setIfInBounds_toArray, List.set_cons_zero, List.set_cons_succ]
        refine wpAnyH_done (by kernel_rfl) ?_ _
        go_wp2_with fail
        exact ⟨rfl, .bool true, by simp [results, Tryz.results84, go_sem], rfl, (((((HN.out.below HB5.out).setCell gT 0 _ rfl).setCell gT 1 _ rfl).setCell gT 2 _ rfl).setCell gT 3 _ rfl), s9, A9, n9, c9, t9, B9, m9, d9, HG5.out.put, HY5.out.on4 HG5.out.bx⟩
/-- The sum of the products. -/
def dotD : List (Int × Rat × Rat) → Rat
  | [] => 0
  | (_, p, r) :: D => p * r + dotD D
theorem dotD_snoc (D : List (Int × Rat × Rat)) (a : Int) (p r : Rat) : dotD (D ++ [(a, p, r)]) = dotD D + p * r := by
  induction D with
  | nil => show p * r + 0 = 0 + p * r; grind
  | cons s D ih => obtain ⟨b, q, t⟩ := s; show q * t + dotD (D ++ [(a, p, r)]) = q * t + dotD D + p * r; rw [ih]; grind
def Has (X Y : List (Int × Rat)) (D : List (Int × Rat × Rat)) : Prop := D.Pairwise (fun s t => s.1 < t.1) ∧ ∀ s ∈ D, s.2.1 = tot X s.1 ∧ s.2.2 = tot Y s.1
def SmallDot (X Y : List (Int × Rat)) : Prop := ∀ D, Has X Y D → ql (dotD D) ≤ 700
def DotSt (w : World) (gT : Nat) (X Y : List (Int × Rat)) (wl wx : World) (D : List (Int × Rat × Rat)) : Prop :=
  Below w.heap.size w wl ∧ Near (fun b => b = gT) wl wx ∧ gT < wl.heap.size ∧ Has X Y D ∧ ∃ s A n c t B m d, Qbx wx gT s A n c t B m d ∧ OneQ wx s A n c t B m d (dotD D)
/-- Dot's visitor does what the walk asks. -/
theorem dot_does {w W : World} {gT : Nat} {X Y : List (Int × Rat)} {N : Nat} (hb : Below w.heap.size w W) (hg : Qbx W gT false none 0 0 false none 0 0) (hs : SmallDot X Y) :
    Visit 84 #[.pointer (some ⟨gT, 0, none⟩)] W (fun b => b = gT) X Y N (DotSt w gT X Y) (fun _ _ => true) where
  eg := enters_of Tryz.func84 (by kernel_rfl) rfl
  own b hb := by rw [hb]; exact hg.lt
  dig b hb := by
    subst hb
    intro i v hv z
    have h : W.heap[b]? = some (.cells #[.bool false, .slice none 0 0, .bool false, .slice none 0 0] 27 (0, 0)) := hg
    rw [cell_of_row _ _ i _ _ _ h] at hv
    match i with
    | 0 => obtain rfl := Option.some.inj hv; intro h; cases h
    | 1 => obtain rfl := Option.some.inj hv; intro h; cases h
    | 2 => obtain rfl := Option.some.inj hv; intro h; cases h
    | 3 => obtain rfl := Option.some.inj hv; intro h; cases h
    | i + 4 => simp at hv
  start wl hl := ⟨below_on hb hl, Near.refl _ _, Nat.lt_of_lt_of_le hg.lt hl.size, ⟨List.Pairwise.nil, by simp⟩, _, _, _, _, _, _, _, _, hg.below hl, Go.Proofs.YtmbnlhedbedcdaaGreat.Q.oneq_zero _ _ _⟩
  near wl wx D h := h.2.1
  keep wl wx wy D h hy := by
    obtain ⟨h1, h2, h3, h4, s, A, n, c, t, B, m, d, h5, h6⟩ := h
    exact ⟨h1, h2.below hy, h3, h4, s, A, n, c, t, B, m, d, h5.below hy, h6.below hy⟩
  call wl wx D a sv Av nv cv tv Bv mv dv sw Aw nw cw tw Bw mw dw h _ h1 h2 _ _ hD _ := by
    obtain ⟨g1, g2, g3, g4, s, A, n, c, t, B, m, d, g5, g6⟩ := h
    have hone : Has X Y [(a, tot X a, tot Y a)] := ⟨by simp, fun s hs => by obtain rfl := List.mem_singleton.1 hs; exact ⟨rfl, rfl⟩⟩
    have hz : ql (tot X a * tot Y a) ≤ 700 := by
      have h3 := hs _ hone
      have e : dotD [(a, tot X a, tot Y a)] = tot X a * tot Y a := by show tot X a * tot Y a + 0 = _; grind
      rwa [e] at h3
    refine (dot_visit g2 g5 g6 (hs D g4) g3 h1 h2 hz rfl).mono ?_
    rintro e wy ⟨rfl, h6, s', A', n', c', t', B', m', d', h7, h8⟩
    refine ⟨rfl, g1, h6, g3, ⟨?_, ?_⟩, s', A', n', c', t', B', m', d', h7, by rw [dotD_snoc]; exact h8⟩
    · rw [List.pairwise_append]
      exact ⟨g4.1, by simp, fun x hx y hy => by obtain rfl := List.mem_singleton.1 hy; exact hD x hx⟩
    · intro x hx
      rcases List.mem_append.1 hx with hx | hx
      · exact g4.2 x hx
      · exact hone.2 x hx
theorem dotD_over (F G : Int → Rat) (D : List (Int × Rat × Rat)) (h : ∀ s ∈ D, s.2.1 = F s.1 ∧ s.2.2 = G s.1) : dotD D = over (fun a => F a * G a) (D.map (fun s => s.1)) := by
  induction D with
  | nil => rfl
  | cons s D ih =>
    obtain ⟨a, p, r⟩ := s
    have h1 := h (a, p, r) (List.mem_cons_self ..)
    show p * r + dotD D = F a * G a + over _ (D.map _)
    rw [ih (fun x hx => h x (List.mem_cons_of_mem _ hx)), ← h1.1, ← h1.2]
/-- The number of two: over whatever places hold all that is not 0. -/
def DotOf (X Y : List (Int × Rat)) (q : Rat) : Prop := ∀ L : List Int, L.Nodup → (∀ a, a ∉ L → tot X a * tot Y a = 0) → q = over (fun a => tot X a * tot Y a) L
theorem gone_dot {X Y : List (Int × Rat)} {D : List (Int × Rat × Rat)} (h : Gone X Y D) : DotOf X Y (dotD D) := by
  intro L hL h0
  rw [dotD_over (tot X) (tot Y) D h.has]
  refine over_same ?_ hL ?_ h0
  · exact List.Pairwise.map _ (fun s t (hst : s.1 < t.1) => by show s.1 ≠ t.1; omega) h.up
  · intro a ha
    have h1 := h.out a (fun s hs e => ha (List.mem_map.2 ⟨s, hs, e⟩))
    rw [h1.1, Rat.zero_mul]
set_option maxRecDepth 100000 in
set_option maxHeartbeats 4000000 in
theorem dot_v {w : World} {A : Option Addr} {n c k : Nat} {xs : List (TV × Rat)} {B : Option Addr} {m d : Nat} {ys : List (TV × Rat)} (hx : IsV w A n c xs k) (hk : k ≤ 700) (hn : n ≤ 1000000) (hsx : Short (vals xs)) (hA : ∀ a, A = some a → a.block < w.heap.size) (hy : IsV w B m d ys k) (hm : m ≤ 1000000) (hsy : Short (vals ys)) (hB : ∀ a, B = some a → a.block < w.heap.size) (hs : SmallDot (vals xs) (vals ys)) :
    Calls Tryz.prog 26 #[.slice A n c, .slice B m d] w (fun e w' => ∃ q, DotOf (vals xs) (vals ys) q ∧ ql q ≤ 700 ∧ Go.Proofs.YtmbnlhedbedcdaaGreat.Q.RetQ w q e w') := by
  obtain ⟨W0, hW0⟩ : ∃ V, w.alloc (.cells #[.bool false, .slice none 0 0, .bool false, .slice none 0 0] 27) = V := ⟨_, rfl⟩
  have hb0 : Below w.heap.size w W0 := by rw [← hW0]; exact (Below.refl _ _).alloc (Nat.le_refl _) _
  have hs0 : W0.heap.size = w.heap.size + 1 := by rw [← hW0]; simp
  have ho0 : Qbx W0 w.heap.size false none 0 0 false none 0 0 := by rw [← hW0]; exact Qbx.new _ _ rfl
  have hb1 : Below W0.heap.size W0 (W0.alloc (.cells #[.bool false, .slice none 0 0, .bool false, .slice none 0 0] 27)) := (Below.refl _ _).alloc (Nat.le_refl _) _
  have hg1 : Qbx (W0.alloc (.cells #[.bool false, .slice none 0 0, .bool false, .slice none 0 0] 27)) W0.heap.size false none 0 0 false none 0 0 := Qbx.new _ _ rfl
  obtain ⟨W1, hW1⟩ : ∃ V, W0.alloc (.cells #[.bool false, .slice none 0 0, .bool false, .slice none 0 0] 27) = V := ⟨_, rfl⟩
  rw [hW1] at hb1 hg1
  have v0 := hg1.c0
  have v1 := hg1.c1
  have v2 := hg1.c2
  have v3 := hg1.c3
  have vf0 := hg1.f 0
  have vf1 := hg1.f 1
  have vf2 := hg1.f 2
  have vf3 := hg1.f 3
  have ho1 := (ho0.below hb1).put4_far (s' := false) (A' := none) (n' := 0) (c' := 0) (t' := false) (B' := none) (m' := 0) (d' := 0) (g' := W0.heap.size) (by omega)
  have hg2 := hg1.put (s' := false) (A' := none) (n' := 0) (c' := 0) (t' := false) (B' := none) (m' := 0) (d' := 0)
  have hb2 := below_put4 (g := W0.heap.size) (s' := false) (A' := none) (n' := 0) (c' := 0) (t' := false) (B' := none) (m' := 0) (d' := 0) (below_on hb0 hb1) (by omega)
  obtain ⟨W2, hW2⟩ : ∃ V, (((W1.setCell ⟨W0.heap.size, 0, none⟩ (.bool false)).setCell ⟨W0.heap.size, 1, none⟩ (.slice none 0 0)).setCell ⟨W0.heap.size, 2, none⟩ (.bool false)).setCell ⟨W0.heap.size, 3, none⟩ (.slice none 0 0) = V := ⟨_, rfl⟩
  simp only [Go.Proofs.YtmbnlhedbedcdaaGreat.Q.put4, hW2] at ho1 hg2 hb2
  have HJ := Lib.hid (walk_any (hx.below hb2) (hy.below hb2) hk hn hm hsx hsy (fun a ha h => by have := hA a ha; omega) (fun a ha h => by have := hB a ha; omega) (dot_does hb2 hg2 hs))
  have HO := Lib.hid ho1
  have HOL := Lib.hid ho1.lt
  have HZ := Lib.hid hs0
  have HS := Lib.hid hs
  clear hx hk hn hsx hA hy hm hsy hB hg1 hb0 hb1 ho0 hs0 hs ho1 hg2 hb2
  go_enter Tryz.func26, Tryz.ntmps26
  go_upto_region 2 with fail
  clear hW0 hW1 v0 v1 v2 v3 vf0 vf1 vf2 vf3
  try rw [hW2]
  clear hW2
  go_wp2_with fail
  refine HJ.out.mono ?_
  rintro e w1 ⟨rfl, wl, D, hbl, ⟨h1, h2, h3, h4, s8, A8, n8, c8, t8, B8, m8, d8, h5, h6⟩, h7⟩
  have HOA := Lib.hid (h2.block w.heap.size (Nat.lt_of_lt_of_le HOL.out hbl.size) (fun e => by have := HZ.out; omega))
  have hob : Qbx wl w.heap.size false none 0 0 false none 0 0 := HO.out.below hbl
  have ho1 : Qbx w1 w.heap.size false none 0 0 false none 0 0 := HOA.out.trans hob
  have HO1 := Lib.hid ho1
  have HG1 := Lib.hid h5
  have H1 := Lib.hid h6
  have HD : Hid (DotOf (vals xs) (vals ys) (dotD D) ∧ ql (dotD D) ≤ 700) := ⟨gone_dot (through_all h7), HS.out D h4⟩
  have HB1 : Hid (Below w.heap.size w w1) := h2.new h1 (fun b hb => by have := HZ.out; omega)
  clear h1 h2 h3 h4 h5 h6 h7 hob ho1 HJ hbl HO HOA
  have v0 := HG1.out.c0
  have v1 := HG1.out.c1
  have v2 := HG1.out.c2
  have v3 := HG1.out.c3
  have o0 := HO1.out.c0
  have o1 := HO1.out.c1
  have o2 := HO1.out.c2
  have o3 := HO1.out.c3
  have vf0 := HO1.out.f 0
  have vf1 := HO1.out.f 1
  have vf2 := HO1.out.f 2
  have vf3 := HO1.out.f 3
  go_wp2_with fail
  have p0 := (HO1.out.put (s' := s8) (A' := A8) (n' := n8) (c' := c8) (t' := t8) (B' := B8) (m' := m8) (d' := d8)).c0
  have p1 := (HO1.out.put (s' := s8) (A' := A8) (n' := n8) (c' := c8) (t' := t8) (B' := B8) (m' := m8) (d' := d8)).c1
  have p2 := (HO1.out.put (s' := s8) (A' := A8) (n' := n8) (c' := c8) (t' := t8) (B' := B8) (m' := m8) (d' := d8)).c2
  have p3 := (HO1.out.put (s' := s8) (A' := A8) (n' := n8) (c' := c8) (t' := t8) (B' := B8) (m' := m8) (d' := d8)).c3
  simp only [Go.Proofs.YtmbnlhedbedcdaaGreat.Q.put4] at p0 p1 p2 p3
  refine bodyPost_ret (v := .agg #[.bool s8, .slice A8 n8 c8, .bool t8, .slice B8 m8 d8]) (by simp [results, Tryz.results26, go_sem, p0, p1, p2, p3]) rfl ?_
  exact ⟨dotD D, HD.out.1, HD.out.2, s8, A8, n8, c8, t8, B8, m8, d8, rfl, H1.out.on4 HO1.out.bx, below_put4 HB1.out (Nat.le_refl _)⟩
end Go.Proofs.YtmbnlhedbedcdaaGreat.V

/- sparse.Axpy, walked. -/
namespace Go.Proofs.YtmbnlhedbedcdaaGreat.V
open Go.RowKit
open Go.Proofs.YtmbnlhedbedcdaaGreat.Q (IsQ OneQ RetQ below_on ql Qbx below_put4 qsign qsign_zero_iff)

set_option maxRecDepth 100000 in
set_option maxHeartbeats 4000000 in
theorem do_axpy {w : World} {gA : Nat} {sa : Bool} {Aa : Option Addr} {na ca : Nat} {ta : Bool} {Ba : Option Addr} {ma da : Nat} {q : Rat} (hg : Qbx w gA sa Aa na ca ta Ba ma da) (hq : IsQ w sa Aa na ca ta Ba ma da q 700) : Do w 73 #[.pointer (some ⟨gA, 0, none⟩)] (fun p r => p + q * r) (fun p r => ql p ≤ 700 ∧ ql (q * r) ≤ 700) := by
  refine ⟨enters_of Tryz.func73 (by kernel_rfl) rfl, ?_, fun p r h => Nat.le_trans (Q.ql_add p (q * r)) (by omega)⟩
  intro W sv Av nv cv tv Bv mv dv sw Aw nw cw tw Bw mw dw p r hb hp hr hok
  show Calls Tryz.prog 73 #[.agg #[.bool sv, .slice Av nv cv, .bool tv, .slice Bv mv dv], .agg #[.bool sw, .slice Aw nw cw, .bool tw, .slice Bw mw dw], .pointer (some ⟨gA, 0, none⟩)] W (Go.Proofs.YtmbnlhedbedcdaaGreat.Q.RetQ W (p + q * r))
  obtain ⟨W3, hW3⟩ : ∃ V, (((W).alloc (.cells #[.bool sv, .slice Av nv cv, .bool tv, .slice Bv mv dv] 27)).alloc (.cells #[.bool sw, .slice Aw nw cw, .bool tw, .slice Bw mw dw] 27)).alloc (.cells #[.bool false, .slice none 0 0, .bool false, .slice none 0 0] 27) = V := ⟨_, rfl⟩
  have HB3 : Hid (Below W.heap.size W W3) := by rw [← hW3]; exact (((Below.refl _ _).alloc (Nat.le_refl _) _).alloc (by simp) _).alloc (by simp; omega) _
  have HV3 : Hid (Qbx W3 W.heap.size sv Av nv cv tv Bv mv dv) := by rw [← hW3]; exact ((Qbx.new _ _ rfl).alloc _).alloc _
  have HU3 : Hid (Qbx W3 (W.heap.size + 1) sw Aw nw cw tw Bw mw dw) := by rw [← hW3]; exact (Qbx.new _ _ (by simp)).alloc _
  have HO3 : Hid (Qbx W3 (W.heap.size + 2) false none 0 0 false none 0 0) := by rw [← hW3]; exact Qbx.new _ _ (by simp)
  have HA3 := Lib.hid ((hg.below hb).below HB3.out)
  have HQ3 := Lib.hid ((hq.below hb).below HB3.out)
  have HP3 := Lib.hid (hp.below HB3.out)
  have HR3 := Lib.hid (hr.below HB3.out)
  have HGL : Hid (gA < W.heap.size) := Nat.lt_of_lt_of_le hg.lt hb.size
  obtain ⟨z, hz⟩ : ∃ z, q * r = z := ⟨_, rfl⟩
  have HZ := Lib.hid hz
  have HZL : Hid (ql z ≤ 700) := by show _ ≤ _; rw [← hz]; exact hok.2
  obtain ⟨sg, hsg⟩ : ∃ s, qsign p = s := ⟨_, rfl⟩
  have HSG := Lib.hid hsg
  obtain ⟨sh, hsh⟩ : ∃ s, qsign r = s := ⟨_, rfl⟩
  have HSH := Lib.hid hsh
  clear hg hq hb hp hr hok
  by_cases h1 : r = 0
  · have g2 : (sh == 0) = true := by rw [← hsh, qsign_zero_iff.2 h1]; rfl
    have HE : Hid (p + q * r = p) := by show _ = _; rw [h1, Rat.mul_zero, Rat.add_zero]
    clear hsg hsh hz h1
    go_enter Tryz.func73, Tryz.ntmps73
    have u0 := HU3.out.c0
    have u1 := HU3.out.c1
    have u2 := HU3.out.c2
    have u3 := HU3.out.c3
    go_upto_region 1 with fail
    clear hW3
    go_wp2_with fail
    refine (Q.sign_q HR3.out (by omega) sh HSH.out).mono ?_
    rintro e w4 ⟨rfl, hb⟩
    clear u0 u1 u2 u3
    have HV4 := Lib.hid (HV3.out.below hb)
    have HU4 := Lib.hid (HU3.out.below hb)
    have HA4 := Lib.hid (HA3.out.below hb)
    have HO4 := Lib.hid (HO3.out.below hb)
    have HP4 := Lib.hid (HP3.out.below hb)
    have HR4 := Lib.hid (HR3.out.below hb)
    have HQ4 := Lib.hid (HQ3.out.below hb)
    have HB4 := Lib.hid (below_on HB3.out hb)
    clear hb HV3 HU3 HA3 HO3 HP3 HR3 HQ3 HB3
    have v0 := HV4.out.c0
    have v1 := HV4.out.c1
    have v2 := HV4.out.c2
    have v3 := HV4.out.c3
    go_wp2_with fail
    refine (Q.norm_q HP4.out (by omega) (by omega)).mono ?_
    clear v0 v1 v2 v3
    rintro e w8 ⟨s8, A8, n8, c8, t8, B8, m8, d8, rfl, h8, hb⟩
    have HO8 := Lib.hid (HO4.out.below hb)
    have HB8 := Lib.hid (below_on HB4.out hb)
    have HY8 : Hid (OneQ w8 s8 A8 n8 c8 t8 B8 m8 d8 (p + q * r)) := by rw [HE.out]; exact h8
    clear h8 hb
    have o0 := HO8.out.c0
    have fo0 := HO8.out.f 0
    have o1 := HO8.out.c1
    have fo1 := HO8.out.f 1
    have o2 := HO8.out.c2
    have fo2 := HO8.out.f 2
    have o3 := HO8.out.c3
    have fo3 := HO8.out.f 3
    go_wp2_with fail
    have p0 := (HO8.out.put (s' := s8) (A' := A8) (n' := n8) (c' := c8) (t' := t8) (B' := B8) (m' := m8) (d' := d8)).c0
    have p1 := (HO8.out.put (s' := s8) (A' := A8) (n' := n8) (c' := c8) (t' := t8) (B' := B8) (m' := m8) (d' := d8)).c1
    have p2 := (HO8.out.put (s' := s8) (A' := A8) (n' := n8) (c' := c8) (t' := t8) (B' := B8) (m' := m8) (d' := d8)).c2
    have p3 := (HO8.out.put (s' := s8) (A' := A8) (n' := n8) (c' := c8) (t' := t8) (B' := B8) (m' := m8) (d' := d8)).c3
    simp only [Go.Proofs.YtmbnlhedbedcdaaGreat.Q.put4] at p0 p1 p2 p3
    refine bodyPost_ret (v := .agg #[.bool s8, .slice A8 n8 c8, .bool t8, .slice B8 m8 d8]) (by simp [results, Tryz.results73, go_sem, p0, p1, p2, p3]) rfl ?_
    exact ⟨s8, A8, n8, c8, t8, B8, m8, d8, rfl, HY8.out.on4 HO8.out.bx, below_put4 HB8.out (by omega)⟩
  · have g2 : (sh == 0) = false := by rw [← hsh, beq_eq_false_iff_ne]; exact fun h => h1 (qsign_zero_iff.1 h)
    by_cases h0 : p = 0
    · have g1 : (sg == 0) = true := by rw [← hsg, qsign_zero_iff.2 h0]; rfl
      have HE : Hid (q * r = p + q * r) := by show _ = _; rw [h0, Rat.zero_add]
      clear hsg hsh hz h0 h1
      go_enter Tryz.func73, Tryz.ntmps73
      have u0 := HU3.out.c0
      have u1 := HU3.out.c1
      have u2 := HU3.out.c2
      have u3 := HU3.out.c3
      go_upto_region 1 with fail
      clear hW3
      go_wp2_with fail
      refine (Q.sign_q HR3.out (by omega) sh HSH.out).mono ?_
      rintro e w4 ⟨rfl, hb⟩
      clear u0 u1 u2 u3
      have HV4 := Lib.hid (HV3.out.below hb)
      have HU4 := Lib.hid (HU3.out.below hb)
      have HA4 := Lib.hid (HA3.out.below hb)
      have HO4 := Lib.hid (HO3.out.below hb)
      have HP4 := Lib.hid (HP3.out.below hb)
      have HR4 := Lib.hid (HR3.out.below hb)
      have HQ4 := Lib.hid (HQ3.out.below hb)
      have HB4 := Lib.hid (below_on HB3.out hb)
      clear hb HV3 HU3 HA3 HO3 HP3 HR3 HQ3 HB3
      have v0 := HV4.out.c0
      have v1 := HV4.out.c1
      have v2 := HV4.out.c2
      have v3 := HV4.out.c3
      go_wp2_with fail
      refine (Q.sign_q HP4.out (by omega) sg HSG.out).mono ?_
      rintro e w5 ⟨rfl, hb⟩
      clear v0 v1 v2 v3
      have HV5 := Lib.hid (HV4.out.below hb)
      have HU5 := Lib.hid (HU4.out.below hb)
      have HA5 := Lib.hid (HA4.out.below hb)
      have HO5 := Lib.hid (HO4.out.below hb)
      have HP5 := Lib.hid (HP4.out.below hb)
      have HR5 := Lib.hid (HR4.out.below hb)
      have HQ5 := Lib.hid (HQ4.out.below hb)
      have HB5 := Lib.hid (below_on HB4.out hb)
      clear hb HV4 HU4 HA4 HO4 HP4 HR4 HQ4 HB4
      have v0 := HA5.out.c0
      have v1 := HA5.out.c1
      have v2 := HA5.out.c2
      have v3 := HA5.out.c3
      have u0 := HU5.out.c0
      have u1 := HU5.out.c1
      have u2 := HU5.out.c2
      have u3 := HU5.out.c3
      go_wp2_with fail
      refine (Q.mul_q HQ5.out HR5.out (by omega) (by omega) _ HE.out).mono ?_
      clear v0 v1 v2 v3
      clear u0 u1 u2 u3
      rintro e w8 ⟨s8, A8, n8, c8, t8, B8, m8, d8, rfl, h8, hb⟩
      have HO8 := Lib.hid (HO5.out.below hb)
      have HB8 := Lib.hid (below_on HB5.out hb)
      have HY8 := Lib.hid h8
      clear h8 hb
      have o0 := HO8.out.c0
      have fo0 := HO8.out.f 0
      have o1 := HO8.out.c1
      have fo1 := HO8.out.f 1
      have o2 := HO8.out.c2
      have fo2 := HO8.out.f 2
      have o3 := HO8.out.c3
      have fo3 := HO8.out.f 3
      go_wp2_with fail
      have p0 := (HO8.out.put (s' := s8) (A' := A8) (n' := n8) (c' := c8) (t' := t8) (B' := B8) (m' := m8) (d' := d8)).c0
      have p1 := (HO8.out.put (s' := s8) (A' := A8) (n' := n8) (c' := c8) (t' := t8) (B' := B8) (m' := m8) (d' := d8)).c1
      have p2 := (HO8.out.put (s' := s8) (A' := A8) (n' := n8) (c' := c8) (t' := t8) (B' := B8) (m' := m8) (d' := d8)).c2
      have p3 := (HO8.out.put (s' := s8) (A' := A8) (n' := n8) (c' := c8) (t' := t8) (B' := B8) (m' := m8) (d' := d8)).c3
      simp only [Go.Proofs.YtmbnlhedbedcdaaGreat.Q.put4] at p0 p1 p2 p3
      refine bodyPost_ret (v := .agg #[.bool s8, .slice A8 n8 c8, .bool t8, .slice B8 m8 d8]) (by simp [results, Tryz.results73, go_sem, p0, p1, p2, p3]) rfl ?_
      exact ⟨s8, A8, n8, c8, t8, B8, m8, d8, rfl, HY8.out.on4 HO8.out.bx, below_put4 HB8.out (by omega)⟩
    · have g1 : (sg == 0) = false := by rw [← hsg, beq_eq_false_iff_ne]; exact fun h => h0 (qsign_zero_iff.1 h)
      clear hsg hsh hz h0 h1
      go_enter Tryz.func73, Tryz.ntmps73
      have u0 := HU3.out.c0
      have u1 := HU3.out.c1
      have u2 := HU3.out.c2
      have u3 := HU3.out.c3
      go_upto_region 1 with fail
      clear hW3
      go_wp2_with fail
      refine (Q.sign_q HR3.out (by omega) sh HSH.out).mono ?_
      rintro e w4 ⟨rfl, hb⟩
      clear u0 u1 u2 u3
      have HV4 := Lib.hid (HV3.out.below hb)
      have HU4 := Lib.hid (HU3.out.below hb)
      have HA4 := Lib.hid (HA3.out.below hb)
      have HO4 := Lib.hid (HO3.out.below hb)
      have HP4 := Lib.hid (HP3.out.below hb)
      have HR4 := Lib.hid (HR3.out.below hb)
      have HQ4 := Lib.hid (HQ3.out.below hb)
      have HB4 := Lib.hid (below_on HB3.out hb)
      clear hb HV3 HU3 HA3 HO3 HP3 HR3 HQ3 HB3
      have v0 := HV4.out.c0
      have v1 := HV4.out.c1
      have v2 := HV4.out.c2
      have v3 := HV4.out.c3
      go_wp2_with fail
      refine (Q.sign_q HP4.out (by omega) sg HSG.out).mono ?_
      rintro e w5 ⟨rfl, hb⟩
      clear v0 v1 v2 v3
      have HV5 := Lib.hid (HV4.out.below hb)
      have HU5 := Lib.hid (HU4.out.below hb)
      have HA5 := Lib.hid (HA4.out.below hb)
      have HO5 := Lib.hid (HO4.out.below hb)
      have HP5 := Lib.hid (HP4.out.below hb)
      have HR5 := Lib.hid (HR4.out.below hb)
      have HQ5 := Lib.hid (HQ4.out.below hb)
      have HB5 := Lib.hid (below_on HB4.out hb)
      clear hb HV4 HU4 HA4 HO4 HP4 HR4 HQ4 HB4
      go_upto_region 5 with fail
      obtain ⟨W6, hW6⟩ : ∃ V, w5.drew = V := ⟨_, rfl⟩
      have hb : Below w5.heap.size w5 W6 := by rw [← hW6]; exact (Below.refl _ _).drew
      have HV6 := Lib.hid (HV5.out.below hb)
      have HU6 := Lib.hid (HU5.out.below hb)
      have HA6 := Lib.hid (HA5.out.below hb)
      have HO6 := Lib.hid (HO5.out.below hb)
      have HP6 := Lib.hid (HP5.out.below hb)
      have HR6 := Lib.hid (HR5.out.below hb)
      have HQ6 := Lib.hid (HQ5.out.below hb)
      have HB6 := Lib.hid (below_on HB5.out hb)
      clear hb HV5 HU5 HA5 HO5 HP5 HR5 HQ5 HB5
      have HK6 : Hid ((W6.cell? ⟨W.heap.size, 0, none⟩ = some (.bool sv) ∧ W6.cell? ⟨W.heap.size, 1, none⟩ = some (.slice Av nv cv) ∧ W6.cell? ⟨W.heap.size, 2, none⟩ = some (.bool tv) ∧ W6.cell? ⟨W.heap.size, 3, none⟩ = some (.slice Bv mv dv)) ∧ (W6.cell? ⟨W.heap.size + 1, 0, none⟩ = some (.bool sw) ∧ W6.cell? ⟨W.heap.size + 1, 1, none⟩ = some (.slice Aw nw cw) ∧ W6.cell? ⟨W.heap.size + 1, 2, none⟩ = some (.bool tw) ∧ W6.cell? ⟨W.heap.size + 1, 3, none⟩ = some (.slice Bw mw dw)) ∧ W6.cell? ⟨gA, 0, none⟩ = some (.bool sa) ∧ W6.cell? ⟨gA, 1, none⟩ = some (.slice Aa na ca) ∧ W6.cell? ⟨gA, 2, none⟩ = some (.bool ta) ∧ W6.cell? ⟨gA, 3, none⟩ = some (.slice Ba ma da)) := ⟨⟨HV6.out.c0, HV6.out.c1, HV6.out.c2, HV6.out.c3⟩, ⟨HU6.out.c0, HU6.out.c1, HU6.out.c2, HU6.out.c3⟩, HA6.out.c0, HA6.out.c1, HA6.out.c2, HA6.out.c3⟩
      refine wp_region_held_drew (S := (fun V : World => (V.cell? ⟨W.heap.size, 0, none⟩ = some (.bool sv) ∧ V.cell? ⟨W.heap.size, 1, none⟩ = some (.slice Av nv cv) ∧ V.cell? ⟨W.heap.size, 2, none⟩ = some (.bool tv) ∧ V.cell? ⟨W.heap.size, 3, none⟩ = some (.slice Bv mv dv)) ∧ (V.cell? ⟨W.heap.size + 1, 0, none⟩ = some (.bool sw) ∧ V.cell? ⟨W.heap.size + 1, 1, none⟩ = some (.slice Aw nw cw) ∧ V.cell? ⟨W.heap.size + 1, 2, none⟩ = some (.bool tw) ∧ V.cell? ⟨W.heap.size + 1, 3, none⟩ = some (.slice Bw mw dw)) ∧ V.cell? ⟨gA, 0, none⟩ = some (.bool sa) ∧ V.cell? ⟨gA, 1, none⟩ = some (.slice Aa na ca) ∧ V.cell? ⟨gA, 2, none⟩ = some (.bool ta) ∧ V.cell? ⟨gA, 3, none⟩ = some (.slice Ba ma da))) (by kernel_rfl) (by rw [hW6]; with_reducible exact HK6.out) (fun hHeld => ?_)
      rw [hW6] at hHeld ⊢
      clear hW6
      refine' wpAnyH_take (i := 0) (v := _) rfl (by kernel_rfl) (by kernel_rfl) (by kernel_rfl) (fun _ _ _ h => h) (Or.inl ⟨by rfl, ?hy3⟩) (by assumption) ?rest3
      case hy3 => (intro w hSw; (try dsimp only at hSw); try simp only [List.getElem_toArray, List.getElem_cons_zero]; go_simp; (try with_reducible rfl))
      try simp only [List.getElem_toArray, List.getElem_cons_zero]
      try simp only [Act.put, List.setIfInBounds_toArray, List.set_cons_zero, List.set_cons_succ]
      refine' wpAnyH_take (i := 1) (v := _) rfl (by kernel_rfl) (by kernel_rfl) (by kernel_rfl) (fun _ _ _ h => h) (Or.inl ⟨by rfl, ?hy4⟩) (by assumption) ?rest4
      case hy4 => (intro w hSw; (try dsimp only at hSw); try simp only [List.getElem_toArray, List.getElem_cons_zero, List.getElem_cons_succ]; go_simp; (try with_reducible rfl))
      try simp only [List.getElem_toArray, List.getElem_cons_zero, List.getElem_cons_succ]
      try simp only [Act.put, List.setIfInBounds_toArray, List.set_cons_zero, List.set_cons_succ]
      refine' wpAnyH_take (i := 2) (v := _) rfl (by kernel_rfl) (by kernel_rfl) (by kernel_rfl) (fun _ _ _ h => h) (Or.inl ⟨by rfl, ?hy5⟩) (by assumption) ?rest5
      case hy5 => (intro w hSw; (try dsimp only at hSw); try simp only [List.getElem_toArray, List.getElem_cons_zero, List.getElem_cons_succ]; go_simp; (try with_reducible rfl))
      try simp only [List.getElem_toArray, List.getElem_cons_zero, List.getElem_cons_succ]
      try simp only [Act.put, List.setIfInBounds_toArray, List.set_cons_zero, List.set_cons_succ]
      refine wpAnyH_ready (rs := [3]) (by kernel_rfl) (by simp) ?_
      refine AllReadyH.cons rfl (fun K hK => ?_) AllReadyH.nil
      try simp only [List.getElem_toArray, List.getElem_cons_zero, List.getElem_cons_succ]
      go_simp
      with_reducible refine (Q.mul_q HQ6.out HR6.out (by omega) (by omega) z HZ.out).mono ?_
      rintro e w7 ⟨s7, A7, n7, c7, t7, B7, m7, d7, rfl, h7, hb⟩
      have HZ7 := Lib.hid (h7.isq HZL.out)
      have HV7 := Lib.hid (HV6.out.below hb)
      have HU7 := Lib.hid (HU6.out.below hb)
      have HA7 := Lib.hid (HA6.out.below hb)
      have HO7 := Lib.hid (HO6.out.below hb)
      have HP7 := Lib.hid (HP6.out.below hb)
      have HR7 := Lib.hid (HR6.out.below hb)
      have HQ7 := Lib.hid (HQ6.out.below hb)
      have HB7 := Lib.hid (below_on HB6.out hb)
      clear hb HV6 HU6 HA6 HO6 HP6 HR6 HQ6 HB6
      have HK7 : Hid ((w7.cell? ⟨W.heap.size, 0, none⟩ = some (.bool sv) ∧ w7.cell? ⟨W.heap.size, 1, none⟩ = some (.slice Av nv cv) ∧ w7.cell? ⟨W.heap.size, 2, none⟩ = some (.bool tv) ∧ w7.cell? ⟨W.heap.size, 3, none⟩ = some (.slice Bv mv dv)) ∧ (w7.cell? ⟨W.heap.size + 1, 0, none⟩ = some (.bool sw) ∧ w7.cell? ⟨W.heap.size + 1, 1, none⟩ = some (.slice Aw nw cw) ∧ w7.cell? ⟨W.heap.size + 1, 2, none⟩ = some (.bool tw) ∧ w7.cell? ⟨W.heap.size + 1, 3, none⟩ = some (.slice Bw mw dw)) ∧ w7.cell? ⟨gA, 0, none⟩ = some (.bool sa) ∧ w7.cell? ⟨gA, 1, none⟩ = some (.slice Aa na ca) ∧ w7.cell? ⟨gA, 2, none⟩ = some (.bool ta) ∧ w7.cell? ⟨gA, 3, none⟩ = some (.slice Ba ma da)) := ⟨⟨HV7.out.c0, HV7.out.c1, HV7.out.c2, HV7.out.c3⟩, ⟨HU7.out.c0, HU7.out.c1, HU7.out.c2, HU7.out.c3⟩, HA7.out.c0, HA7.out.c1, HA7.out.c2, HA7.out.c3⟩
      clear h7
      refine hK.out _ _ (by with_reducible exact HK7.out) (fun hHeld => ?_)
      clear hK K
      try simp only [Act.put, List.setIfInBounds_toArray, List.set_cons_zero, List.set_cons_succ]
      refine wpAnyH_ready (rs := [4]) (by kernel_rfl) (by simp) ?_
      refine AllReadyH.cons rfl (fun K hK => ?_) AllReadyH.nil
      try simp only [List.getElem_toArray, List.getElem_cons_zero, List.getElem_cons_succ]
      go_simp
      with_reducible refine (Q.add_q HP7.out HZ7.out (by omega) (by omega) (p + q * r) (by rw [HZ.out])).mono ?_
      rintro e w8 ⟨s8, A8, n8, c8, t8, B8, m8, d8, rfl, h8, hb⟩
      have HY8 := Lib.hid h8
      have HV8 := Lib.hid (HV7.out.below hb)
      have HU8 := Lib.hid (HU7.out.below hb)
      have HA8 := Lib.hid (HA7.out.below hb)
      have HO8 := Lib.hid (HO7.out.below hb)
      have HP8 := Lib.hid (HP7.out.below hb)
      have HR8 := Lib.hid (HR7.out.below hb)
      have HQ8 := Lib.hid (HQ7.out.below hb)
      have HB8 := Lib.hid (below_on HB7.out hb)
      clear hb HV7 HU7 HA7 HO7 HP7 HR7 HQ7 HB7
      have HK8 : Hid ((w8.cell? ⟨W.heap.size, 0, none⟩ = some (.bool sv) ∧ w8.cell? ⟨W.heap.size, 1, none⟩ = some (.slice Av nv cv) ∧ w8.cell? ⟨W.heap.size, 2, none⟩ = some (.bool tv) ∧ w8.cell? ⟨W.heap.size, 3, none⟩ = some (.slice Bv mv dv)) ∧ (w8.cell? ⟨W.heap.size + 1, 0, none⟩ = some (.bool sw) ∧ w8.cell? ⟨W.heap.size + 1, 1, none⟩ = some (.slice Aw nw cw) ∧ w8.cell? ⟨W.heap.size + 1, 2, none⟩ = some (.bool tw) ∧ w8.cell? ⟨W.heap.size + 1, 3, none⟩ = some (.slice Bw mw dw)) ∧ w8.cell? ⟨gA, 0, none⟩ = some (.bool sa) ∧ w8.cell? ⟨gA, 1, none⟩ = some (.slice Aa na ca) ∧ w8.cell? ⟨gA, 2, none⟩ = some (.bool ta) ∧ w8.cell? ⟨gA, 3, none⟩ = some (.slice Ba ma da)) := ⟨⟨HV8.out.c0, HV8.out.c1, HV8.out.c2, HV8.out.c3⟩, ⟨HU8.out.c0, HU8.out.c1, HU8.out.c2, HU8.out.c3⟩, HA8.out.c0, HA8.out.c1, HA8.out.c2, HA8.out.c3⟩
      clear h8
      refine hK.out _ _ (by with_reducible exact HK8.out) (fun hHeld => ?_)
      clear hK K
      try simp only [Act.put, List.setIfInBounds_toArray, List.set_cons_zero, List.set_cons_succ]
      refine wpAnyH_ready (rs := [5]) (by kernel_rfl) (by simp) ?_
      refine AllReadyH.cons rfl (fun K hK => ?_) AllReadyH.nil
      try simp only [List.getElem_toArray, List.getElem_cons_zero, List.getElem_cons_succ]
      have o0 := HO8.out.c0
      have fo0 := HO8.out.f 0
      have o1 := HO8.out.c1
      have fo1 := HO8.out.f 1
      have o2 := HO8.out.c2
      have fo2 := HO8.out.f 2
      have o3 := HO8.out.c3
      have fo3 := HO8.out.f 3
      go_simp
      clear o0 o1 o2 o3 fo0 fo1 fo2 fo3
      have HV9 := Lib.hid (HV8.out.put4_far (s' := s8) (A' := A8) (n' := n8) (c' := c8) (t' := t8) (B' := B8) (m' := m8) (d' := d8) (g' := W.heap.size + 2) (by have := HGL.out; omega))
      have HU9 := Lib.hid (HU8.out.put4_far (s' := s8) (A' := A8) (n' := n8) (c' := c8) (t' := t8) (B' := B8) (m' := m8) (d' := d8) (g' := W.heap.size + 2) (by have := HGL.out; omega))
      have HA9 := Lib.hid (HA8.out.put4_far (s' := s8) (A' := A8) (n' := n8) (c' := c8) (t' := t8) (B' := B8) (m' := m8) (d' := d8) (g' := W.heap.size + 2) (by have := HGL.out; omega))
      refine hK.out _ _ (by with_reducible exact ⟨⟨HV9.out.c0, HV9.out.c1, HV9.out.c2, HV9.out.c3⟩, ⟨HU9.out.c0, HU9.out.c1, HU9.out.c2, HU9.out.c3⟩, HA9.out.c0, HA9.out.c1, HA9.out.c2, HA9.out.c3⟩) (fun hHeld => ?_)
      clear hK K
      try simp only [Act.put, List.setIfInBounds_toArray, List.set_cons_zero, List.set_cons_succ]
      refine wpAnyH_done (by kernel_rfl) ?_ _
      go_wp2_with fail
      have p0 := (HO8.out.put (s' := s8) (A' := A8) (n' := n8) (c' := c8) (t' := t8) (B' := B8) (m' := m8) (d' := d8)).c0
      have p1 := (HO8.out.put (s' := s8) (A' := A8) (n' := n8) (c' := c8) (t' := t8) (B' := B8) (m' := m8) (d' := d8)).c1
      have p2 := (HO8.out.put (s' := s8) (A' := A8) (n' := n8) (c' := c8) (t' := t8) (B' := B8) (m' := m8) (d' := d8)).c2
      have p3 := (HO8.out.put (s' := s8) (A' := A8) (n' := n8) (c' := c8) (t' := t8) (B' := B8) (m' := m8) (d' := d8)).c3
      simp only [Go.Proofs.YtmbnlhedbedcdaaGreat.Q.put4] at p0 p1 p2 p3
      refine bodyPost_ret (v := .agg #[.bool s8, .slice A8 n8 c8, .bool t8, .slice B8 m8 d8]) (by simp [results, Tryz.results73, go_sem, p0, p1, p2, p3]) rfl ?_
      exact ⟨s8, A8, n8, c8, t8, B8, m8, d8, rfl, HY8.out.on4 HO8.out.bx, below_put4 HB8.out (by omega)⟩
set_option maxRecDepth 100000 in
set_option maxHeartbeats 4000000 in
theorem axpy_v {w : World} {A : Option Addr} {n c k : Nat} {xs : List (TV × Rat)} {B : Option Addr} {m d : Nat} {ys : List (TV × Rat)} {sa : Bool} {Aa : Option Addr} {na ca : Nat} {ta : Bool} {Ba : Option Addr} {ma da : Nat} {q : Rat} (hq : IsQ w sa Aa na ca ta Ba ma da q 700) (hx : IsV w A n c xs k) (hk : k ≤ 700) (hn : n ≤ 1000000) (hsx : Short (vals xs)) (hA : ∀ a, A = some a → a.block < w.heap.size) (hy : IsV w B m d ys k) (hm : m ≤ 1000000) (hsy : Short (vals ys)) (hB : ∀ a, B = some a → a.block < w.heap.size) (hok : ∀ a, ql (q * tot (vals ys) a) ≤ 700) :
    Calls Tryz.prog 19 #[.slice A n c, .agg #[.bool sa, .slice Aa na ca, .bool ta, .slice Ba ma da], .slice B m d] w (RetV w (Is (fun a => tot (vals xs) a + q * tot (vals ys) a))) := by
  obtain ⟨W0, hW0⟩ : ∃ V, w.alloc (.cells #[.bool sa, .slice Aa na ca, .bool ta, .slice Ba ma da] 27) = V := ⟨_, rfl⟩
  have hb : Below w.heap.size w W0 := by rw [← hW0]; exact (Below.refl _ _).alloc (Nat.le_refl _) _
  have hg : Qbx W0 w.heap.size sa Aa na ca ta Ba ma da := by rw [← hW0]; exact Qbx.new _ _ rfl
  have HB := Lib.hid hb
  have HJ := Lib.hid (joined_any (hx.below hb) (hy.below hb) hk hn hm hsx hsy (fun a h => Nat.lt_of_lt_of_le (hA a h) hb.size) (fun a h => Nat.lt_of_lt_of_le (hB a h) hb.size) (do_axpy hg (hq.below hb)) (fun a => ⟨hsx.tot a, hok a⟩))
  clear hx hk hn hsx hA hq hg hb hy hm hsy hB hok
  go_enter Tryz.func19, Tryz.ntmps19
  go_upto_region 1 with fail
  clear hW0
  go_wp2_with fail
  refine HJ.out.mono ?_
  rintro e w1 hret
  have HRET := Lib.hid ((RetV.mono hret (is_of (by rw [Rat.mul_zero, Rat.add_zero]))).back HB.out)
  clear HJ hret
  obtain ⟨g1, n1, c1, zs1, rfl, _⟩ := id HRET.out
  go_wp2_with fail
  exact ⟨rfl, _, by simp [results, Tryz.results19, go_sem], HRET.out⟩
end Go.Proofs.YtmbnlhedbedcdaaGreat.V

/- sparse.only, walked, whatever the chooser. -/
namespace Go.Proofs.YtmbnlhedbedcdaaGreat.V
open Go.RowKit
open Go.Proofs.YtmbnlhedbedcdaaGreat.Q (IsQ OneQ RetQ below_on ql Qbx)

/-- A chooser of places. -/
structure Keep (w : World) (g : FuncId) (cb : Array Value) (kp : Int → Bool) : Prop where
  eg : ∀ args w, (callFunc g args).run Tryz.prog w = .ok (.enter g args) w
  call : ∀ W a, Below w.heap.size w W → -9223372036854775808 ≤ a → a ≤ 9223372036854775807 → Calls Tryz.prog g (#[.int .i64 a] ++ cb) W (fun e W' => e = .returned (.bool (kp a)) ∧ Below W.heap.size W W')
theorem app_any (w : World) (base : Nat) (ty : TypeId) (v : Value) (ts : List TV) (x : TV) (ad : Addr) (hown : w.ownsRow base 74 5 v ts.length (flat ts)) (had : ∀ j u, x.enc[j]? = some u → w.cell? (ad.add j) = some u) (h : ts.length ≤ 10000000) (hbase : base ≤ w.heap.size) :
    ∃ v' w', (Builtin.append_ #[33, 33] ty #[v, .slice (some ad) 1 1]).run Tryz.prog w = .ok v' w' ∧ w'.ownsRow base 74 5 v' (ts ++ [x]).length (flat (ts ++ [x])) ∧ w.grownBy w' v.ownBlock := by
  obtain ⟨i, hi, hz, hs, hb⟩ := info_parts info_t
  have ho1 : ∀ u ∈ x.enc, u.oneCell' = true := by intro u hu; exact one_cell [x] u (by rw [flat_one]; exact hu)
  have under : Tryz.prog.underlying 33 = some (.slice 74) := by kernel_rfl
  obtain ⟨v', w', hr, ho, hg, hnn⟩ := run_append_own (P := Tryz.prog) w base 33 ty 74 i zeroT 5 72 under hi hz hs hb rfl (by decide) v ts.length (flat ts) hown ad 1 1 x.enc rfl had ho1 (by unfold maxLen; omega) (by omega) hbase
  exact ⟨v', w', hr, by rw [List.length_append, flat_append, flat_one]; exact ho, hg⟩
/-- What was chosen: the terms of the vector that came in, in a row of the call's own or none. -/
def Chosen (w : World) (ys : List (TV × Rat)) (k : Nat) (kp : Int → Bool) (e : Ending) (w' : World) : Prop :=
  ∃ A' n' c', e = .returned (.slice A' n' c') ∧ IsV w' A' n' c' (ys.filter (fun y => kp y.1.at_)) k ∧ Below w.heap.size w w' ∧ (A' = none ∨ ∃ g, A' = some ⟨g, 0, none⟩ ∧ w.heap.size ≤ g ∧ g < w'.heap.size)
theorem chosen_of {w w' : World} {k : Nat} {v : Value} {l : List (TV × Rat)} (ho : w'.ownsRow w.heap.size 74 5 v (l.map Prod.fst).length (flat (l.map Prod.fst))) (hq : ∀ y ∈ l, TQ w' y.1 y.2 k) :
    ∃ A' n' c', v = .slice A' n' c' ∧ IsV w' A' n' c' l k ∧ (A' = none ∨ ∃ g, A' = some ⟨g, 0, none⟩ ∧ w.heap.size ≤ g ∧ g < w'.heap.size) := by
  rcases ho.2 with ⟨rfl, h0⟩ | ⟨g, cap, cur, rfl, hbg, hgc, hnc, hcm, hcs, htake⟩
  · have hl : l = [] := by rw [List.length_map] at h0; exact List.eq_nil_of_length_eq_zero h0
    subst hl
    exact ⟨none, 0, 0, rfl, IsV.nil _ _ _ _, .inl rfl⟩
  · have hlt : g < w'.heap.size := (Array.getElem?_eq_some_iff.1 hgc).1
    refine ⟨some ⟨g, 0, none⟩, _, cap, rfl, ⟨by rw [List.length_map], hnc, row_cells hlt ?_, hq⟩, .inr ⟨g, rfl, hbg, hlt⟩⟩
    intro j u hj
    rw [Nat.zero_add, cell_of_row w' g j _ _ _ hgc]
    rw [← htake, List.getElem?_take] at hj
    split at hj
    · simpa using hj
    · cases hj
theorem filter_take {l : List (TV × Rat)} {i : Nat} {y : TV × Rat} (h : l[i]? = some y) (p : TV × Rat → Bool) : (l.take (i + 1)).filter p = (l.take i).filter p ++ (if p y then [y] else []) := by
  rw [List.take_add_one, h, List.filter_append]
  congr 1
  cases hp : p y <;> simp [hp]
/-- only's own memory. -/
structure OM (w wx : World) (v : Value) (ys : List (TV × Rat)) (kp : Int → Bool) (i : Nat) : Prop where
  bel : Below w.heap.size w wx
  own : wx.ownsRow w.heap.size 74 5 v (((ys.take i).filter (fun y => kp y.1.at_)).map Prod.fst).length (flat (((ys.take i).filter (fun y => kp y.1.at_)).map Prod.fst))
theorem ownsRow_below {w w' : World} {base : Nat} {e : TypeId} {size : Nat} {v : Value} {n : Nat} {xs : List Value} (h : w.ownsRow base e size v n xs) (hb : Below w.heap.size w w') : w'.ownsRow base e size v n xs := by
  refine ⟨h.1, ?_⟩
  rcases h.2 with hn | ⟨g, cap, cur, rfl, h1, h2, rest⟩
  · exact .inl hn
  · exact .inr ⟨g, cap, cur, rfl, h1, (hb.block g (lt_of_block h2)).trans h2, rest⟩
theorem OM.below {w wx wy : World} {v : Value} {ys : List (TV × Rat)} {kp : Int → Bool} {i : Nat} (h : OM w wx v ys kp i) (hb : Below wx.heap.size wx wy) : OM w wy v ys kp i := ⟨below_on h.bel hb, ownsRow_below h.own hb⟩
set_option maxRecDepth 100000 in
set_option maxHeartbeats 4000000 in
theorem only_any {w : World} {A : Option Addr} {n c k : Nat} {ys : List (TV × Rat)} {g : FuncId} {cb : Array Value} {kp : Int → Bool} (h : IsV w A n c ys k) (hn : n ≤ 1000000) (hk : Keep w g cb kp) :
    Calls Tryz.prog 80 #[.slice A n c, .func (.func g) #[] cb] w (Chosen w ys k kp) := by
  have H := Lib.hid h
  have HN := Lib.hid hn
  have HK := Lib.hid hk
  have HLEN := Lib.hid h.en
  have eg := hk.eg
  have HM : Hid (OM w w (.slice none 0 0) ys kp 0) := ⟨Below.refl _ _, World.ownsRow_nil _ _ _ _⟩
  clear h hn hk
  go_enter Tryz.func80, Tryz.ntmps80
  go_wp2_with fail
  go_loopw [5, 10] (fun v iv wr => ∃ i : Nat, i ≤ n ∧ iv = .int .i64 (i : Int) ∧ Hid (OM w wr v ys kp i)) (fun _ iv _ => n - (intOf iv).toNat)
  case atStart => exact ⟨0, Nat.zero_le _, rfl, HM⟩
  case round =>
    clear HM
    obtain ⟨i, hi, rfl, HM⟩ := hrel
    by_cases hlt : i < n
    · have hi1 : (i : Int) < (n : Int) := by omega
      have hi0 : (0 : Int) ≤ (i : Int) := by omega
      have hwi : IntKind.i64.wrap ((i : Int) + 1) = (i : Int) + 1 := by have := HN.out; rw [IntKind.wrap_i64]; omega
      obtain ⟨u, hu⟩ : ∃ u, ys[i]? = some u := ⟨ys[i]'(by have := HLEN.out; omega), List.getElem?_eq_getElem (by have := HLEN.out; omega)⟩
      have hw := HM.out.bel
      obtain ⟨b1, off1, hA1, hlt1, d0, d1, d2, d3, d4⟩ := H.out.row.at_ (j := i) (x := u.1) (by rw [List.getElem?_map, hu]; rfl)
      subst hA1
      have d0 := (hw.cell (p := ⟨b1, off1 + i * 5, none⟩) hlt1).trans d0
      have d1 := (hw.cell (p := ⟨b1, off1 + i * 5 + 1, none⟩) hlt1).trans d1
      have d2 := (hw.cell (p := ⟨b1, off1 + i * 5 + 2, none⟩) hlt1).trans d2
      have d3 := (hw.cell (p := ⟨b1, off1 + i * 5 + 3, none⟩) hlt1).trans d3
      have d4 := (hw.cell (p := ⟨b1, off1 + i * 5 + 4, none⟩) hlt1).trans d4
      have HU := Lib.hid (H.out.tq u (List.mem_of_getElem? hu))
      have HUI := Lib.hid hu
      obtain ⟨p, hp⟩ : ∃ p, u.1 = p := ⟨_, rfl⟩
      have HPE := Lib.hid hp
      rw [hp] at d0 d1 d2 d3 d4
      obtain ⟨pat, ps, pA, pn, pc, pt, pB, pm, pd⟩ := p
      have HAT : Hid (-9223372036854775808 ≤ pat ∧ pat ≤ 9223372036854775807) := by have h1 := HU.out.2; rw [hp] at h1; exact h1
      obtain ⟨kb, hkb⟩ : ∃ kb, kp pat = kb := ⟨_, rfl⟩
      have HKB := Lib.hid hkb
      clear hw hlt1 hu hp hkb
      obtain ⟨V, hV⟩ : ∃ V, wr.alloc (.cells #[.int .i64 pat, .bool ps, .slice pA pn pc, .bool pt, .slice pB pm pd] 74) = V := ⟨_, rfl⟩
      have HVB : Hid (Below wr.heap.size wr V) := by rw [← hV]; exact (Below.refl _ _).alloc (Nat.le_refl _) _
      have HM1 := Lib.hid (HM.out.below HVB.out)
      have HBX : Hid (V.heap[wr.heap.size]? = some (.cells #[.int .i64 pat, .bool ps, .slice pA pn pc, .bool pt, .slice pB pm pd] 74 (0, 0))) := by rw [← hV]; exact heap_alloc_new wr _
      have hbx := HBX.out
      have e0 : V.cell? ⟨wr.heap.size, 0, none⟩ = some (.int .i64 pat) := by rw [cell_of_row V _ 0 _ _ _ hbx]; rfl
      clear hbx
      go_wp2_with fail
      refine (HK.out.call V pat (below_on HM.out.bel HVB.out) HAT.out.1 HAT.out.2).mono ?_
      rintro e w1 ⟨rfl, hb⟩
      rw [HKB.out]
      have HM2 := Lib.hid (HM1.out.below hb)
      have HB2 := Lib.hid (below_on HVB.out hb)
      have hbx := (hb.block wr.heap.size (lt_of_block HBX.out)).trans HBX.out
      have HBX2 := Lib.hid hbx
      clear hV HVB HM1 HBX hb HM d0 d1 d2 d3 d4 e0
      cases kb with
      | false =>
        clear hbx
        go_wp2_with fail
        go_roundw
        case rel =>
          have hN9 := HN.out
          refine ⟨i + 1, by omega, by go_num, HM2.out.bel, ?_⟩
          have h := HM2.out.own
          rw [filter_take HUI.out, HPE.out, HKB.out]
          simpa using h
        case measure => have hN9 := HN.out; simp [intOf]; omega
      | true =>
        have e0 : w1.cell? ⟨wr.heap.size, 0, none⟩ = some (.int .i64 pat) := by rw [cell_of_row w1 _ 0 _ _ _ hbx]; rfl
        have e1 : w1.cell? ⟨wr.heap.size, 1, none⟩ = some (.bool ps) := by rw [cell_of_row w1 _ 1 _ _ _ hbx]; rfl
        have e2 : w1.cell? ⟨wr.heap.size, 2, none⟩ = some (.slice pA pn pc) := by rw [cell_of_row w1 _ 2 _ _ _ hbx]; rfl
        have e3 : w1.cell? ⟨wr.heap.size, 3, none⟩ = some (.bool pt) := by rw [cell_of_row w1 _ 3 _ _ _ hbx]; rfl
        have e4 : w1.cell? ⟨wr.heap.size, 4, none⟩ = some (.slice pB pm pd) := by rw [cell_of_row w1 _ 4 _ _ _ hbx]; rfl
        clear hbx
        obtain ⟨V2, hV2⟩ : ∃ V, w1.alloc (.cells #[.int .i64 pat, .bool ps, .slice pA pn pc, .bool pt, .slice pB pm pd] 74) = V := ⟨_, rfl⟩
        have hb3 : Below w1.heap.size w1 V2 := by rw [← hV2]; exact (Below.refl _ _).alloc (Nat.le_refl _) _
        have HM3 := Lib.hid (HM2.out.below hb3)
        have hbx3 : V2.heap[w1.heap.size]? = some (.cells #[.int .i64 pat, .bool ps, .slice pA pn pc, .bool pt, .slice pB pm pd] 74 (0, 0)) := by rw [← hV2]; exact heap_alloc_new w1 _
        have hcl : ∀ j x, (⟨pat, ps, pA, pn, pc, pt, pB, pm, pd⟩ : TV).enc[j]? = some x → V2.cell? ((⟨w1.heap.size, 0, none⟩ : Addr).add j) = some x := by
          intro j x hj
          have e : (⟨w1.heap.size, 0, none⟩ : Addr).add j = ⟨w1.heap.size, j, none⟩ := by unfold Addr.add; split <;> simp_all
          rw [e, cell_of_row V2 _ j _ _ _ hbx3]
          rw [← hj]
          show (#[Value.int .i64 pat, .bool ps, .slice pA pn pc, .bool pt, .slice pB pm pd] : Array Value)[j]? = [Value.int .i64 pat, .bool ps, .slice pA pn pc, .bool pt, .slice pB pm pd][j]?
          simp
        have hlen : (((ys.take i).filter (fun y => kp y.1.at_)).map Prod.fst).length ≤ 10000000 := by
          rw [List.length_map]
          have h1 := List.length_filter_le (fun y : TV × Rat => kp y.1.at_) (ys.take i)
          rw [List.length_take] at h1
          have := HN.out
          omega
        obtain ⟨i9, hj1, hj2, hj3, hj4⟩ := info_parts info_t
        have under : Tryz.prog.underlying 33 = some (.slice 74) := by kernel_rfl
        have ho1 : ∀ x ∈ (⟨pat, ps, pA, pn, pc, pt, pB, pm, pd⟩ : TV).enc, x.oneCell' = true := by intro x hx; exact one_cell [_] x (by rw [flat_one]; exact hx)
        have HCL := Lib.hid hcl
        have HOC := Lib.hid ho1
        have HL9 := Lib.hid hlen
        clear hb3 hbx3 hcl hlen ho1
        go_wp2_with ((at_builtin; refine wpList_append_own V2 rfl (.tmp 18) (.tmp 20) 33 rfl w.heap.size 74 i9 zeroT 5 72 under hj1 hj2 hj3 hj4 rfl (by decide) u5 _ _ rfl HM3.out.own ⟨w1.heap.size, 0, none⟩ 1 1 (⟨pat, ps, pA, pn, pc, pt, pB, pm, pd⟩ : TV).enc rfl rfl HCL.out HOC.out (by have := HL9.out; unfold maxLen; omega) (by have := HL9.out; omega) HM3.out.bel.size ?_); intro v' w3 hown' hgrow hnil)
        have HO3 := Lib.hid hown'
        have HB3 : Hid (Below w.heap.size w w3) := HM3.out.bel.grown hgrow HM3.out.bel.size (fun k hk => (HM3.out.own.lt k hk).1)
        clear hown' hgrow hnil hj1 hj2 hj3 hj4 under
        go_wp2_with fail
        go_roundw
        case rel =>
          have hN9 := HN.out
          refine ⟨i + 1, by omega, by go_num, HB3.out, ?_⟩
          have h := HO3.out
          rw [filter_take HUI.out, HPE.out, HKB.out]
          rw [if_pos rfl, List.map_append, flat_append, List.length_append]
          show w3.ownsRow _ _ 5 v' (_ + 1) (_ ++ flat [u.1])
          rw [flat_one, HPE.out]
          exact h
        case measure => have hN9 := HN.out; simp [intOf]; omega
    · have hi1 : ¬ (i : Int) < (n : Int) := by omega
      have HE : Hid (ys.take i = ys) := by show _ = _; rw [List.take_of_length_le (by have := HLEN.out; omega)]
      have HBW := Lib.hid HM.out.bel
      have ho := HM.out.own
      rw [HE.out] at ho
      obtain ⟨A', n', c', rfl, h1, h2⟩ := chosen_of (k := k) ho (fun y hy => (H.out.tq y (List.mem_filter.1 hy).1).below HBW.out)
      have H1 := Lib.hid h1
      have H2 := Lib.hid h2
      clear ho h1 h2 HM HE
      go_wp2_with fail
      exact ⟨rfl, .slice A' n' c', by simp [results, Tryz.results80, go_sem], A', n', c', rfl, H1.out, HBW.out, H2.out⟩
end Go.Proofs.YtmbnlhedbedcdaaGreat.V

/- sparse.Get, Put, walked. -/
namespace Go.Proofs.YtmbnlhedbedcdaaGreat.V
open Go.RowKit
open Go.Proofs.YtmbnlhedbedcdaaGreat.Q (IsQ OneQ RetQ below_on ql Qbx below_put4)

set_option maxRecDepth 100000 in
theorem keep_get {w : World} {gI : Nat} {p : Int} (hg : w.heap[gI]? = some (.cells #[.int .i64 p] 3 (0, 0))) : Keep w 86 #[.pointer (some ⟨gI, 0, none⟩)] (fun a => a == p) := by
  refine ⟨enters_of Tryz.func86 (by kernel_rfl) rfl, ?_⟩
  intro W a hb _ _
  show Calls Tryz.prog 86 #[.int .i64 a, .pointer (some ⟨gI, 0, none⟩)] W _
  have hc : W.cell? ⟨gI, 0, none⟩ = some (.int .i64 p) := by rw [cell_of_row W gI 0 _ _ _ ((hb.block gI (lt_of_block hg)).trans hg)]; rfl
  clear hg hb
  go_enter Tryz.func86, Tryz.ntmps86
  go_wp2_with fail
  exact ⟨rfl, .bool (a == p), by simp [results, Tryz.results86, go_sem], rfl, Below.refl _ _⟩
set_option maxRecDepth 100000 in
theorem keep_put {w : World} {gI : Nat} {p : Int} (hg : w.heap[gI]? = some (.cells #[.int .i64 p] 3 (0, 0))) : Keep w 81 #[.pointer (some ⟨gI, 0, none⟩)] (fun a => a != p) := by
  refine ⟨enters_of Tryz.func81 (by kernel_rfl) rfl, ?_⟩
  intro W a hb _ _
  show Calls Tryz.prog 81 #[.int .i64 a, .pointer (some ⟨gI, 0, none⟩)] W _
  have hc : W.cell? ⟨gI, 0, none⟩ = some (.int .i64 p) := by rw [cell_of_row W gI 0 _ _ _ ((hb.block gI (lt_of_block hg)).trans hg)]; rfl
  clear hg hb
  go_enter Tryz.func81, Tryz.ntmps81
  go_wp2_with fail
  exact ⟨rfl, .bool (a != p), by simp [results, Tryz.results81, go_sem], rfl, Below.refl _ _⟩
theorem vals_filter (ys : List (TV × Rat)) (kp : Int → Bool) : vals (ys.filter (fun y => kp y.1.at_)) = (vals ys).filter (fun x => kp x.1) := by
  unfold vals
  rw [List.filter_map]
  rfl
theorem Short.filter {l : List (Int × Rat)} (h : Short l) (p : Int × Rat → Bool) : Short (l.filter p) := h.sub (List.length_filter_le ..) (fun _ hx => (List.mem_filter.1 hx).1)
theorem Short.take {l : List (Int × Rat)} (h : Short l) (i : Nat) : ql (all (l.take i)) ≤ 700 := h _ (by rw [List.length_take]; omega) (fun _ hx => List.mem_of_mem_take hx)
theorem filter_len {w : World} {A : Option Addr} {n c k : Nat} {ys : List (TV × Rat)} {p : TV × Rat → Bool} {w' : World} {A' : Option Addr} {n' c' : Nat} (h : IsV w A n c ys k) (h2 : IsV w' A' n' c' (ys.filter p) k) : n' ≤ n := by
  rw [h.en, h2.en]
  exact List.length_filter_le ..
set_option maxRecDepth 100000 in
set_option maxHeartbeats 4000000 in
theorem get_v {w : World} {A : Option Addr} {n c k : Nat} {xs : List (TV × Rat)} (hx : IsV w A n c xs k) (hk : k ≤ 700) (hn : n ≤ 1000000) (hsx : Short (vals xs)) (p : Int) (q : Rat) (hq : tot (vals xs) p = q) :
    Calls Tryz.prog 28 #[.slice A n c, .int .i64 p] w (Go.Proofs.YtmbnlhedbedcdaaGreat.Q.RetQ w q) := by
  obtain ⟨W0, hW0⟩ : ∃ V, w.alloc (.cells #[.int .i64 p] 3) = V := ⟨_, rfl⟩
  have hb0 : Below w.heap.size w W0 := by rw [← hW0]; exact (Below.refl _ _).alloc (Nat.le_refl _) _
  have hs0 : W0.heap.size = w.heap.size + 1 := by rw [← hW0]; simp
  have hi0 : W0.heap[w.heap.size]? = some (.cells #[.int .i64 p] 3 (0, 0)) := by rw [← hW0]; exact heap_alloc_new w _
  obtain ⟨W1, hW1⟩ : ∃ V, W0.alloc (.cells #[.bool false, .slice none 0 0, .bool false, .slice none 0 0] 27) = V := ⟨_, rfl⟩
  have hb1 : Below W0.heap.size W0 W1 := by rw [← hW1]; exact (Below.refl _ _).alloc (Nat.le_refl _) _
  have ho1 : Qbx W1 W0.heap.size false none 0 0 false none 0 0 := by rw [← hW1]; exact Qbx.new _ _ rfl
  have HB1 := Lib.hid (below_on hb0 hb1)
  have HX := Lib.hid (hx.below HB1.out)
  have HK := Lib.hid (keep_get ((hb1.block w.heap.size (lt_of_block hi0)).trans hi0))
  have HO := Lib.hid ho1
  have HZ := Lib.hid hs0
  have HN := Lib.hid hn
  have HKK := Lib.hid hk
  have HS := Lib.hid hsx
  have HE : Hid (all (vals (xs.filter (fun y => y.1.at_ == p))) = q) := by
    show _ = _
    have h1 := vals_filter xs (fun a => a == p)
    have h2 : (vals xs).filter (fun x => x.1 == p) = (vals xs).filter (fun x => decide (x.1 = p)) := List.filter_congr (fun x _ => by by_cases h : x.1 = p <;> simp [h])
    rw [h1, h2, ← tot_filter, hq]
  clear hx hk hn hsx hq hb0 hs0 hi0 hb1 ho1
  go_enter Tryz.func28, Tryz.ntmps28
  go_upto_region 1 with fail
  clear hW0 hW1
  go_wp2_with fail
  refine (only_any HX.out HN.out HK.out).mono ?_
  rintro e w2 ⟨A2, n2, c2, rfl, h2, hb2, _⟩
  have H2 := Lib.hid h2
  have HL2 : Hid (n2 ≤ n) := filter_len HX.out h2
  have HB2 := Lib.hid (below_on HB1.out hb2)
  have HO2 := Lib.hid (HO.out.below hb2)
  clear h2 hb2
  go_wp2_with fail
  refine (sum_any H2.out HKK.out (by have h1 := HL2.out; have h2 := HN.out; omega) (by rw [vals_filter xs (fun a => a == p)]; exact (HS.out.filter _).take)).mono ?_
  rintro e w3 ⟨s3, A3, n3, c3, t3, B3, m3, d3, rfl, h3, hb3⟩
  rw [HE.out] at h3
  have H3 := Lib.hid h3
  have HB3 := Lib.hid (below_on HB2.out hb3)
  have HO3 := Lib.hid (HO2.out.below hb3)
  clear h3 hb3
  go_wp2_with fail
  refine (Q.norm_q H3.out (by omega) (by omega)).mono ?_
  rintro e w5 ⟨s8, A8, n8, c8, t8, B8, m8, d8, rfl, h8, hb8⟩
  have HO5 := Lib.hid (HO3.out.below hb8)
  have HR5 := Lib.hid h8
  have HB5 := Lib.hid (below_on HB3.out hb8)
  clear h8 hb8
  have o0 := HO5.out.c0
  have o1 := HO5.out.c1
  have o2 := HO5.out.c2
  have o3 := HO5.out.c3
  have fo0 := HO5.out.f 0
  have fo1 := HO5.out.f 1
  have fo2 := HO5.out.f 2
  have fo3 := HO5.out.f 3
  go_wp2_with fail
  have p0 := (HO5.out.put (s' := s8) (A' := A8) (n' := n8) (c' := c8) (t' := t8) (B' := B8) (m' := m8) (d' := d8)).c0
  have p1 := (HO5.out.put (s' := s8) (A' := A8) (n' := n8) (c' := c8) (t' := t8) (B' := B8) (m' := m8) (d' := d8)).c1
  have p2 := (HO5.out.put (s' := s8) (A' := A8) (n' := n8) (c' := c8) (t' := t8) (B' := B8) (m' := m8) (d' := d8)).c2
  have p3 := (HO5.out.put (s' := s8) (A' := A8) (n' := n8) (c' := c8) (t' := t8) (B' := B8) (m' := m8) (d' := d8)).c3
  simp only [Go.Proofs.YtmbnlhedbedcdaaGreat.Q.put4] at p0 p1 p2 p3
  refine bodyPost_ret (v := .agg #[.bool s8, .slice A8 n8 c8, .bool t8, .slice B8 m8 d8]) (by simp [results, Tryz.results28, go_sem, p0, p1, p2, p3]) rfl ?_
  exact ⟨s8, A8, n8, c8, t8, B8, m8, d8, rfl, HR5.out.on4 HO5.out.bx, below_put4 HB5.out (by have := HZ.out; omega)⟩
theorem Short.one {a : Int} {q : Rat} (h : ql q ≤ 700) : Short [(a, q)] := by
  intro l hl hm
  match l, hl, hm with
  | [], _, _ => exact Nat.le_trans ql_zero1 (by omega)
  | x :: [], _, hm =>
    obtain rfl := List.mem_singleton.1 (hm x (List.mem_singleton.2 rfl))
    have e : all [(a, q)] = q := by show q + 0 = q; grind
    rw [e]; exact h
  | _ :: _ :: _, hl, _ => simp at hl
/-- Put at a place. -/
def putAt (F : Int → Rat) (p : Int) (q : Rat) (a : Int) : Rat := if a = p then q else F a
theorem put_is {X : List (Int × Rat)} {p : Int} {q : Rat} : ∀ l, Is (fun a => tot (X.filter (fun x => x.1 != p)) a + tot [(p, q)] a) l → Is (putAt (tot X) p q) l := by
  rintro l ⟨h1, h2⟩
  refine ⟨h1, fun a => ?_⟩
  rw [h2 a]
  show tot (X.filter (fun x => x.1 != p)) a + tot [(p, q)] a = putAt (tot X) p q a
  unfold putAt
  have h3 : tot [(p, q)] a = if p = a then q else 0 := by show (if p = a then q else 0) + 0 = _; grind
  rw [h3, tot_filter (X.filter _), List.filter_filter]
  by_cases h : a = p
  · subst h
    have h4 : X.filter (fun x => decide (x.1 = a) && x.1 != a) = [] := by
      rw [List.filter_eq_nil_iff]; intro x _; by_cases h : x.1 = a <;> simp [h]
    rw [h4, if_pos rfl, if_pos rfl]
    show 0 + q = q
    grind
  · have h4 : X.filter (fun x => decide (x.1 = a) && x.1 != p) = X.filter (fun x => decide (x.1 = a)) := by
      refine List.filter_congr (fun x _ => ?_)
      by_cases h5 : x.1 = a
      · have : x.1 ≠ p := by omega
        simp [h5]; omega
      · simp [h5]
    rw [h4, ← tot_filter, if_neg (fun e => h e.symm), if_neg h]
    grind
set_option maxRecDepth 100000 in
set_option maxHeartbeats 4000000 in
theorem put_v {w : World} {A : Option Addr} {n c k : Nat} {xs : List (TV × Rat)} {sa : Bool} {Aa : Option Addr} {na ca : Nat} {ta : Bool} {Ba : Option Addr} {ma da : Nat} {q : Rat} (hq : IsQ w sa Aa na ca ta Ba ma da q k) (hql : ql q ≤ 700) (hx : IsV w A n c xs k) (hk : k ≤ 700) (hn : n ≤ 1000000) (hsx : Short (vals xs)) (p : Int) (hp : -9223372036854775808 ≤ p ∧ p ≤ 9223372036854775807) :
    Calls Tryz.prog 23 #[.slice A n c, .int .i64 p, .agg #[.bool sa, .slice Aa na ca, .bool ta, .slice Ba ma da]] w (RetV w (Is (putAt (tot (vals xs)) p q))) := by
  obtain ⟨W0, hW0⟩ : ∃ V, w.alloc (.cells #[.int .i64 p] 3) = V := ⟨_, rfl⟩
  have hb0 : Below w.heap.size w W0 := by rw [← hW0]; exact (Below.refl _ _).alloc (Nat.le_refl _) _
  have hs0 : W0.heap.size = w.heap.size + 1 := by rw [← hW0]; simp
  have hi0 : W0.heap[w.heap.size]? = some (.cells #[.int .i64 p] 3 (0, 0)) := by rw [← hW0]; exact heap_alloc_new w _
  obtain ⟨W1, hW1⟩ : ∃ V, W0.alloc (.cells #[.bool sa, .slice Aa na ca, .bool ta, .slice Ba ma da] 27) = V := ⟨_, rfl⟩
  have hb1 : Below W0.heap.size W0 W1 := by rw [← hW1]; exact (Below.refl _ _).alloc (Nat.le_refl _) _
  have ho1 : Qbx W1 W0.heap.size sa Aa na ca ta Ba ma da := by rw [← hW1]; exact Qbx.new _ _ rfl
  have hi1 : W1.heap[w.heap.size]? = some (.cells #[.int .i64 p] 3 (0, 0)) := (hb1.block w.heap.size (lt_of_block hi0)).trans hi0
  have HB1 := Lib.hid (below_on hb0 hb1)
  have HX := Lib.hid (hx.below HB1.out)
  have HQ := Lib.hid (hq.below HB1.out)
  have HK := Lib.hid (keep_put hi1)
  have HI := Lib.hid hi1
  have HO := Lib.hid ho1
  have HN := Lib.hid hn
  have HKK := Lib.hid hk
  have HS := Lib.hid hsx
  have HQL := Lib.hid hql
  have HP := Lib.hid hp
  clear hx hk hn hsx hq hql hp hb0 hs0 hi0 hb1 ho1 hi1
  go_enter Tryz.func23, Tryz.ntmps23
  go_upto_region 1 with fail
  clear hW0 hW1
  go_wp2_with fail
  refine (only_any HX.out HN.out HK.out).mono ?_
  rintro e w2 ⟨A2, n2, c2, rfl, h2, hb2, ha2⟩
  have H2 := Lib.hid h2
  have HL2 : Hid (n2 ≤ n) := filter_len HX.out h2
  have HB2 := Lib.hid (below_on HB1.out hb2)
  have HO2 := Lib.hid (HO.out.below hb2)
  have HI2 := Lib.hid ((hb2.block w.heap.size (lt_of_block HI.out)).trans HI.out)
  have HQ2 := Lib.hid (HQ.out.below hb2)
  have HA2 : Hid (∀ a, A2 = some a → a.block < w2.heap.size) := by
    intro a ha
    rcases ha2 with h | ⟨g, h, _, hg⟩
    · rw [h] at ha; cases ha
    · rw [h] at ha; obtain rfl := Option.some.inj ha; exact hg
  clear h2 hb2 ha2
  obtain ⟨W3, hW3⟩ : ∃ V, w2.alloc (.cells #[.int .i64 p, .bool sa, .slice Aa na ca, .bool ta, .slice Ba ma da] 74) = V := ⟨_, rfl⟩
  have hb3 : Below w2.heap.size w2 W3 := by rw [← hW3]; exact (Below.refl _ _).alloc (Nat.le_refl _) _
  have hr3 : W3.heap[w2.heap.size]? = some (.cells #[.int .i64 p, .bool sa, .slice Aa na ca, .bool ta, .slice Ba ma da] 74 (0, 0)) := by rw [← hW3]; exact heap_alloc_new w2 _
  have H3 : Hid (IsV W3 (some ⟨w2.heap.size, 0, none⟩) 1 1 [((⟨p, sa, Aa, na, ca, ta, Ba, ma, da⟩ : TV), q)] k) := by
    refine ⟨rfl, Nat.le_refl _, row_cells (lt_of_block hr3) ?_, fun y hy => ?_⟩
    · intro j u hj
      rw [Nat.zero_add, cell_of_row W3 _ j _ _ _ hr3, ← hj]
      show (#[Value.int .i64 p, .bool sa, .slice Aa na ca, .bool ta, .slice Ba ma da] : Array Value)[j]? = (flat [(⟨p, sa, Aa, na, ca, ta, Ba, ma, da⟩ : TV)])[j]?
      rw [flat_one]
      show (#[Value.int .i64 p, .bool sa, .slice Aa na ca, .bool ta, .slice Ba ma da] : Array Value)[j]? = [Value.int .i64 p, .bool sa, .slice Aa na ca, .bool ta, .slice Ba ma da][j]?
      simp
    · obtain rfl := List.mem_singleton.1 hy
      exact ⟨HQ2.out.below hb3, HP.out⟩
  have HJ := Lib.hid (add_v (H2.out.below hb3) HKK.out (by have h1 := HL2.out; have h2 := HN.out; omega) (by rw [vals_filter xs (fun a => a != p)]; exact HS.out.filter _) (fun a h => Nat.lt_of_lt_of_le (HA2.out a h) hb3.size) H3.out (by omega) (Short.one HQL.out) (fun a h => by obtain rfl := Option.some.inj h; exact lt_of_block hr3))
  have HB3 := Lib.hid (below_on HB2.out hb3)
  have hc : w2.cell? ⟨w.heap.size, 0, none⟩ = some (.int .i64 p) := by rw [cell_of_row w2 _ 0 _ _ _ HI2.out]; rfl
  have o0 := HO2.out.c0
  have o1 := HO2.out.c1
  have o2 := HO2.out.c2
  have o3 := HO2.out.c3
  clear hb3 hr3 H3 H2 HQ2 HA2
  go_wp2_with fail
  refine HJ.out.mono ?_
  rintro e w4 hret
  have HRET : Hid (RetV w (Is (putAt (tot (vals xs)) p q)) e w4) := by
    refine (RetV.mono hret (fun l h => put_is l ?_)).back HB3.out
    rw [← vals_filter xs (fun a => a != p)]
    exact h
  clear HJ hret
  obtain ⟨g1, n1, c1, zs1, rfl, _⟩ := id HRET.out
  go_wp2_with fail
  exact ⟨rfl, _, by simp [results, Tryz.results23, go_sem], HRET.out⟩
end Go.Proofs.YtmbnlhedbedcdaaGreat.V

/- slices.Equal at digits, sparse.inOneForm, walked. -/
namespace Go.Proofs.YtmbnlhedbedcdaaGreat.V
open Go.RowKit
open Go.Proofs.YtmbnlhedbedcdaaGreat.Q (IsQ OneQ RetQ below_on ql Qbx)

set_option maxRecDepth 100000 in
set_option maxHeartbeats 4000000 in
theorem equal_any {w : World} {A B : Option Addr} {n c m d : Nat} {xs ys : List Nat} (ha : Num w A xs) (hb : Num w B ys) (hn : n = xs.length) (hm : m = ys.length) (hl : n ≤ 1000000) (v : Bool) (hv : decide (xs = ys) = v) :
    Calls Tryz.prog 121 #[.slice A n c, .slice B m d] w (RetB w v) := by
  by_cases hnm : n = m
  · have HA := Lib.hid ha
    have HB := Lib.hid hb
    have HN := Lib.hid hn
    have HM := Lib.hid hm
    have HL := Lib.hid hl
    have HV := Lib.hid hv
    subst hnm
    clear ha hb hn hm hl hv
    have g0 : ((n : Int) != (n : Int)) = false := bne_self_eq_false _
    go_enter Tryz.func121, Tryz.ntmps121
    go_wp2_with fail
    go_loopw [13] (fun i wr => ∃ k : Nat, k ≤ n ∧ i = .int .i64 k ∧ Below w.heap.size w wr ∧ Hid (∀ j, j < k → dg xs j = dg ys j)) (fun i _ => n - (intOf i).toNat)
    case atStart => exact ⟨0, Nat.zero_le _, rfl, Below.refl _ _, fun j hj => absurd hj (Nat.not_lt_zero j)⟩
    case round =>
      obtain ⟨k, hk, rfl, hbw, HK⟩ := hrel
      have hwi : IntKind.i64.wrap ((k : Int) + 1) = (k : Int) + 1 := by have := HL.out; rw [IntKind.wrap_i64]; omega
      by_cases hlt : k < n
      · obtain ⟨b, off, rfl, hbl, hc1⟩ := HA.out.at_ (by have := HN.out; omega)
        obtain ⟨b', off', rfl, hbl', hc2⟩ := HB.out.at_ (by have := HM.out; omega)
        have h1 := (hbw.cell (p := ⟨b, off + k, none⟩) hbl).trans (hc1 k (by have := HN.out; omega))
        have h2 := (hbw.cell (p := ⟨b', off' + k, none⟩) hbl').trans (hc2 k (by have := HM.out; omega))
        have hlt' : (k : Int) < (n : Int) := by omega
        have hk0 : (0 : Int) ≤ (k : Int) := by omega
        clear hc1 hc2
        have HBW := Lib.hid hbw
        clear hbw
        obtain ⟨x, hx⟩ : ∃ x : Int, ((dg xs k : Nat) : Int) = x := ⟨_, rfl⟩
        obtain ⟨y, hy⟩ : ∃ y : Int, ((dg ys k : Nat) : Int) = y := ⟨_, rfl⟩
        have HXD := Lib.hid hx
        have HYD := Lib.hid hy
        rw [hx] at h1
        rw [hy] at h2
        by_cases hxy : x = y
        · have HE : Hid (dg xs k = dg ys k) := by show _ = _; omega
          have b1 : (x == y) = true := beq_iff_eq.2 hxy
          have b2 : (x != y) = false := by rw [hxy]; exact bne_self_eq_false _
          clear hx hy hxy
          go_wp2_with fail
          go_quiet (fail)
          go_wp2_with fail
          go_roundw
          case rel =>
            have := HL.out
            refine ⟨k + 1, by omega, by go_num, below_drewN HBW.out _, fun j hj => ?_⟩
            rcases Nat.lt_or_ge j k with h | h
            · exact HK.out j h
            · rw [show j = k by omega]; exact HE.out
          case measure => have := HL.out; simp [intOf]; omega
        · have b1 : (x == y) = false := beq_eq_false_iff_ne.2 hxy
          have b2 : (x != y) = true := bne_iff_ne.2 hxy
          have he : v = false := by
            rw [← HV.out, decide_eq_false_iff_not]
            intro e
            rw [e, hy] at hx
            exact hxy hx.symm
          subst he
          clear hx hy hxy
          go_wp2_with fail
          go_quiet (fail)
          go_wp2_with fail
          go_ret
          exact ⟨rfl, below_drewN HBW.out _⟩
      · have hlt' : ¬ (k : Int) < (n : Int) := by omega
        have he : v = true := by
          rw [← HV.out, decide_eq_true_iff]
          exact ext_dg (by rw [← HN.out, ← HM.out]) (fun j hj => HK.out j (by have := HN.out; omega))
        subst he
        go_wp2_with fail
        go_ret
        exact ⟨rfl, hbw⟩
  · have b1 : ((n : Int) == (m : Int)) = false := beq_eq_false_iff_ne.2 (by omega)
    have b2 : ((n : Int) != (m : Int)) = true := bne_iff_ne.2 (by omega)
    have HE : v = false := by
      rw [← hv, decide_eq_false_iff_not]
      intro e
      exact hnm (by rw [hn, hm, e])
    subst HE
    clear hnm hn hm hv hl ha hb
    go_enter Tryz.func121, Tryz.ntmps121
    go_wp2_with fail
    go_ret
    exact ⟨rfl, Below.refl _ _⟩
set_option maxRecDepth 100000 in
set_option maxHeartbeats 4000000 in
theorem as_any {w : World} {s s' : Bool} {A B : Option Addr} {n c m d : Nat} {xs ys : List Nat} (ha : Num w A xs) (hb : Num w B ys) (hn : n = xs.length) (hm : m = ys.length) (hl : n ≤ 1000000) (v : Bool) (hv : (decide (s = s') && decide (xs = ys)) = v) :
    Calls Tryz.prog 120 #[.agg #[.bool s, .slice A n c], .agg #[.bool s', .slice B m d]] w (RetB w v) := by
  obtain ⟨W0, hW0⟩ : ∃ V, (w.alloc (.cells #[.bool s, .slice A n c] 25)).alloc (.cells #[.bool s', .slice B m d] 25) = V := ⟨_, rfl⟩
  have hb0 : Below w.heap.size w W0 := by rw [← hW0]; exact ((Below.refl _ _).alloc (Nat.le_refl _) _).alloc (by simp) _
  have h1 : W0.heap[w.heap.size]? = some (.cells #[.bool s, .slice A n c] 25 (0, 0)) := by rw [← hW0]; exact (Below.heap_alloc _ _ w.heap.size (by simp)).trans (heap_alloc_new w _)
  have h2 : W0.heap[w.heap.size + 1]? = some (.cells #[.bool s', .slice B m d] 25 (0, 0)) := by rw [← hW0]; have h := heap_alloc_new (w.alloc (.cells #[.bool s, .slice A n c] 25)) (.cells #[.bool s', .slice B m d] 25); simpa using h
  have v0 : W0.cell? ⟨w.heap.size, 0, none⟩ = some (.bool s) := by rw [cell_of_row W0 _ 0 _ _ _ h1]; rfl
  have v1 : W0.cell? ⟨w.heap.size, 1, none⟩ = some (.slice A n c) := by rw [cell_of_row W0 _ 1 _ _ _ h1]; rfl
  have u0 : W0.cell? ⟨w.heap.size + 1, 0, none⟩ = some (.bool s') := by rw [cell_of_row W0 _ 0 _ _ _ h2]; rfl
  have u1 : W0.cell? ⟨w.heap.size + 1, 1, none⟩ = some (.slice B m d) := by rw [cell_of_row W0 _ 1 _ _ _ h2]; rfl
  have HB0 := Lib.hid hb0
  by_cases hs : s = s'
  · subst hs
    have HJ := Lib.hid (equal_any (c := c) (d := d) (ha.below hb0) (hb.below hb0) hn hm hl v (by simpa using hv))
    have g1 : (s == s) = true := beq_self_eq_true _
    clear ha hb hn hm hl hv hb0 h1 h2
    go_enter Tryz.func120, Tryz.ntmps120
    go_upto_region 1 with fail
    clear hW0
    go_wp2_with fail
    refine HJ.out.mono ?_
    rintro e w1 ⟨rfl, hb1⟩
    have HB1 := Lib.hid (below_on HB0.out hb1)
    clear hb1 HJ
    go_wp2_with fail
    exact ⟨rfl, .bool v, by simp [results, Tryz.results120, go_sem], rfl, HB1.out⟩
  · have g1 : (s == s') = false := beq_eq_false_iff_ne.2 hs
    have he : v = false := by rw [← hv, decide_eq_false hs, Bool.false_and]
    subst he
    clear ha hb hn hm hl hv hb0 h1 h2 hs
    go_enter Tryz.func120, Tryz.ntmps120
    go_upto_region 1 with fail
    clear hW0
    go_wp2_with fail
    exact ⟨rfl, .bool false, by simp [results, Tryz.results120, go_sem], rfl, HB0.out⟩
theorem num_same {w : World} {A : Option Addr} {xs ys : List Nat} (h1 : Num w A xs) (h2 : Num w A ys) (hl : xs.length = ys.length) : xs = ys := by
  refine ext_dg hl (fun i hi => ?_)
  obtain ⟨b, off, rfl, _, hc⟩ := h1.2 (by intro e; rw [e] at hi; simp at hi)
  obtain ⟨b', off', e, _, hc'⟩ := h2.2 (by intro e; rw [hl, e] at hi; simp at hi)
  obtain ⟨rfl, rfl⟩ : b = b' ∧ off = off' := by simpa using e
  have h3 := (hc i hi).symm.trans (hc' i (by omega))
  have h4 := Option.some.inj h3
  injection h4 with _ h5
  omega
set_option maxRecDepth 100000 in
set_option maxHeartbeats 4000000 in
/-- Is it in the one form? -/
theorem form_any {w : World} {s t : Bool} {A B : Option Addr} {n c m d k : Nat} {q : Rat} (h : IsQ w s A n c t B m d q k) (hk : 1 ≤ k) (hk2 : k ≤ 3000) :
    Calls Tryz.prog 88 #[.agg #[.bool s, .slice A n c, .bool t, .slice B m d]] w (fun e w' => ∃ v, e = .returned (.bool v) ∧ (v = true ↔ OneQ w s A n c t B m d q) ∧ Below w.heap.size w w') := by
  obtain ⟨xs, ys, hn, hm, hx, hy, _⟩ := h.ex
  obtain ⟨v1, hv1⟩ : ∃ v, (decide (s = zneg q.num) && decide (xs = dig q.num.natAbs)) = v := ⟨_, rfl⟩
  obtain ⟨v2, hv2⟩ : ∃ v, (decide (t = false) && decide (ys = Q.dden q)) = v := ⟨_, rfl⟩
  have HE : Hid ((v1 && v2) = true ↔ OneQ w s A n c t B m d q) := by
    show _ ↔ _
    rw [← hv1, ← hv2]
    simp only [Bool.and_eq_true, decide_eq_true_iff]
    constructor
    · rintro ⟨⟨e1, e2⟩, e3, e4⟩
      exact ⟨e1, by rw [hn, e2], e3, by rw [hm, e4], e2 ▸ hx, e4 ▸ hy, h.cap, h.cap2⟩
    · intro o
      exact ⟨⟨o.es, num_same hx o.num (hn.symm.trans o.en)⟩, o.et, num_same hy o.den (hm.symm.trans o.em)⟩
  obtain ⟨W0, hW0⟩ : ∃ V, w.alloc (.cells #[.bool s, .slice A n c, .bool t, .slice B m d] 27) = V := ⟨_, rfl⟩
  have hb0 : Below w.heap.size w W0 := by rw [← hW0]; exact (Below.refl _ _).alloc (Nat.le_refl _) _
  have HO : Hid (Qbx W0 w.heap.size s A n c t B m d) := by rw [← hW0]; exact Qbx.new _ _ rfl
  have HB0 := Lib.hid hb0
  have HQ := Lib.hid (h.below hb0)
  have HX := Lib.hid hx
  have HY := Lib.hid hy
  have HN := Lib.hid hn
  have HM := Lib.hid hm
  have HK : Hid (1 ≤ k ∧ k ≤ 3000 ∧ n ≤ 3000 ∧ m ≤ 3000) := ⟨hk, hk2, Nat.le_trans h.le hk2, Nat.le_trans h.le2 hk2⟩
  have HV1 := Lib.hid hv1
  have HV2 := Lib.hid hv2
  have o0 := HO.out.c0
  have o1 := HO.out.c1
  have o2 := HO.out.c2
  have o3 := HO.out.c3
  clear h hn hm hx hy hv1 hv2 hb0 hk hk2
  go_enter Tryz.func88, Tryz.ntmps88
  go_upto_region 2 with fail
  clear hW0
  go_wp2_with fail
  refine (Q.norm_q HQ.out HK.out.1 HK.out.2.1).mono ?_
  rintro e w1 ⟨s8, A8, n8, c8, t8, B8, m8, d8, rfl, h8, hb8⟩
  obtain ⟨W2, hW2⟩ : ∃ V, w1.alloc (.cells #[.bool s8, .slice A8 n8 c8, .bool t8, .slice B8 m8 d8] 27) = V := ⟨_, rfl⟩
  have hb2 : Below w1.heap.size w1 W2 := by rw [← hW2]; exact (Below.refl _ _).alloc (Nat.le_refl _) _
  have HO2 : Hid (Qbx W2 w1.heap.size s8 A8 n8 c8 t8 B8 m8 d8) := by rw [← hW2]; exact Qbx.new _ _ rfl
  have HI2 := Lib.hid ((HO.out.below hb8).below hb2)
  have HB2 := Lib.hid (below_on (below_on HB0.out hb8) hb2)
  have H8 := Lib.hid (h8.below hb2)
  clear o0 o1 o2 o3 h8 hb8 hb2 HQ HO
  have HS8 : Hid (s8 = zneg q.num) := H8.out.es
  have HT8 : Hid (t8 = false) := H8.out.et
  have v0 := HI2.out.c0
  have v1' := HI2.out.c1
  have v2' := HI2.out.c2
  have v3 := HI2.out.c3
  have u0 := HO2.out.c0
  have u1 := HO2.out.c1
  have u2 := HO2.out.c2
  have u3 := HO2.out.c3
  go_upto_region 3 with fail
  clear hW2
  go_wp2_with fail
  refine (as_any (HX.out.below HB2.out) H8.out.num HN.out H8.out.en (by have := HK.out; omega) v1 (by rw [HS8.out]; exact HV1.out)).mono ?_
  rintro e w3 ⟨rfl, hb3⟩
  have HI3 := Lib.hid (HI2.out.below hb3)
  have HO3 := Lib.hid (HO2.out.below hb3)
  have HB3 := Lib.hid (below_on HB2.out hb3)
  have H83 := Lib.hid (H8.out.below hb3)
  clear v0 v1' v2' v3 u0 u1 u2 u3 hb3
  have v0 := HI3.out.c0
  have v1' := HI3.out.c1
  have v2' := HI3.out.c2
  have v3 := HI3.out.c3
  have u0 := HO3.out.c0
  have u1 := HO3.out.c1
  have u2 := HO3.out.c2
  have u3 := HO3.out.c3
  cases v1 with
  | false =>
    go_wp2_with fail
    exact ⟨rfl, .bool false, by simp [results, Tryz.results88, go_sem], false, rfl, by rw [← HE.out]; simp, HB3.out⟩
  | true =>
    go_wp2_with fail
    refine (as_any (HY.out.below HB3.out) H83.out.den HM.out H83.out.em (by have := HK.out; omega) v2 (by rw [HT8.out]; exact HV2.out)).mono ?_
    rintro e w4 ⟨rfl, hb4⟩
    have HB4 := Lib.hid (below_on HB3.out hb4)
    clear hb4 v0 v1' v2' v3 u0 u1 u2 u3
    go_wp2_with fail
    exact ⟨rfl, .bool v2, by simp [results, Tryz.results88, go_sem], v2, rfl, by rw [← HE.out]; simp, HB4.out⟩
end Go.Proofs.YtmbnlhedbedcdaaGreat.V

/- sparse.Right, walked. -/
namespace Go.Proofs.YtmbnlhedbedcdaaGreat.V
open Go.RowKit
open Go.Proofs.YtmbnlhedbedcdaaGreat.Q (IsQ OneQ RetQ below_on ql Qbx qsign qsign_zero_iff)

theorem oneq_back {w W : World} {s t : Bool} {A B : Option Addr} {n c m d k : Nat} {q : Rat} (h : IsQ w s A n c t B m d q k) (hb : Below w.heap.size w W) (o : OneQ W s A n c t B m d q) : OneQ w s A n c t B m d q := by
  obtain ⟨xs, ys, hn, hm, hx, hy, _⟩ := h.ex
  have e1 : xs = dig q.num.natAbs := num_same (hx.below hb) o.num (hn.symm.trans o.en)
  have e2 : ys = Q.dden q := num_same (hy.below hb) o.den (hm.symm.trans o.em)
  exact ⟨o.es, o.en, o.et, o.em, e1 ▸ hx, e2 ▸ hy, o.cap, o.cap2⟩
/-- A term at its place in a vector of N places, in its one form. -/
def GoodAt (w : World) (N : Int) (ys : List (TV × Rat)) (j : Nat) : Prop :=
  ∀ y, ys[j]? = some y → 0 ≤ y.1.at_ ∧ y.1.at_ < N ∧ (∀ z, 0 < j → ys[j - 1]? = some z → z.1.at_ < y.1.at_) ∧ y.2 ≠ 0 ∧ OneQ w y.1.s y.1.A y.1.n y.1.c y.1.t y.1.B y.1.m y.1.d y.2
def RightV (w : World) (N : Int) (ys : List (TV × Rat)) : Prop := ∀ j, GoodAt w N ys j
def RetR (w : World) (N : Int) (ys : List (TV × Rat)) (e : Ending) (w' : World) : Prop := ∃ v, e = .returned (.bool v) ∧ (v = true ↔ RightV w N ys) ∧ Below w.heap.size w w'
theorem retr_no {w w' : World} {N : Int} {ys : List (TV × Rat)} (h : ¬ RightV w N ys) (hb : Below w.heap.size w w') : RetR w N ys (.returned (.bool false)) w' := ⟨false, rfl, ⟨fun h2 => (by cases h2), fun h2 => absurd h2 h⟩, hb⟩
set_option maxRecDepth 100000 in
set_option maxHeartbeats 4000000 in
theorem right_any {w : World} {A : Option Addr} {n c k : Nat} {ys : List (TV × Rat)} (h : IsV w A n c ys k) (hk : 1 ≤ k) (hk2 : k ≤ 700) (hn : n ≤ 1000000) (N : Int) :
    Calls Tryz.prog 32 #[.slice A n c, .int .i64 N] w (RetR w N ys) := by
  have H := Lib.hid h
  have HN := Lib.hid hn
  have HLEN := Lib.hid h.en
  have HK : Hid (1 ≤ k ∧ k ≤ 700) := ⟨hk, hk2⟩
  clear h hn hk hk2
  go_enter Tryz.func32, Tryz.ntmps32
  go_wp2_with fail
  go_loopw [9] (fun iv wr => ∃ i : Nat, i ≤ n ∧ iv = .int .i64 (i : Int) ∧ Hid (Below w.heap.size w wr) ∧ Hid (∀ j, j < i → GoodAt w N ys j)) (fun iv _ => n - (intOf iv).toNat)
  case atStart => exact ⟨0, Nat.zero_le _, rfl, Below.refl _ _, fun j hj => absurd hj (Nat.not_lt_zero j)⟩
  case round =>
    obtain ⟨i, hi, rfl, HB, HG⟩ := hrel
    by_cases hlt : i < n
    · have hi1 : (i : Int) < (n : Int) := by omega
      have hi0 : (0 : Int) ≤ (i : Int) := by omega
      have hwi : IntKind.i64.wrap ((i : Int) + 1) = (i : Int) + 1 := by have := HN.out; rw [IntKind.wrap_i64]; omega
      obtain ⟨u, hu⟩ : ∃ u, ys[i]? = some u := ⟨ys[i]'(by have := HLEN.out; omega), List.getElem?_eq_getElem (by have := HLEN.out; omega)⟩
      obtain ⟨b1, off1, hA1, hlt1, d0, d1, d2, d3, d4⟩ := H.out.row.at_ (j := i) (x := u.1) (by rw [List.getElem?_map, hu]; rfl)
      subst hA1
      have d0 := (HB.out.cell (p := ⟨b1, off1 + i * 5, none⟩) hlt1).trans d0
      have d1 := (HB.out.cell (p := ⟨b1, off1 + i * 5 + 1, none⟩) hlt1).trans d1
      have d2 := (HB.out.cell (p := ⟨b1, off1 + i * 5 + 2, none⟩) hlt1).trans d2
      have d3 := (HB.out.cell (p := ⟨b1, off1 + i * 5 + 3, none⟩) hlt1).trans d3
      have d4 := (HB.out.cell (p := ⟨b1, off1 + i * 5 + 4, none⟩) hlt1).trans d4
      obtain ⟨p, hp⟩ : ∃ p, u = p := ⟨_, rfl⟩
      rw [hp] at hu d0 d1 d2 d3 d4
      obtain ⟨⟨pat, ps, pA, pn, pc, pt, pB, pm, pd⟩, pq⟩ := p
      simp only at d0 d1 d2 d3 d4
      have HUI := Lib.hid hu
      have HU : Hid (IsQ w ps pA pn pc pt pB pm pd pq k) := (H.out.tq _ (List.mem_of_getElem? hu)).1
      -- what stands ahead
      obtain ⟨pz, hpz⟩ : ∃ pz : Int, 0 < i → (∃ z, ys[i - 1]? = some z ∧ z.1.at_ = pz) ∧ w.cell? ⟨b1, off1 + (i - 1) * 5, none⟩ = some (.int .i64 pz) := by
        by_cases h0 : 0 < i
        · obtain ⟨z, hz⟩ : ∃ z, ys[i - 1]? = some z := ⟨ys[i - 1]'(by have := HLEN.out; omega), List.getElem?_eq_getElem (by have := HLEN.out; omega)⟩
          obtain ⟨b2, off2, hA2, _, c0, _⟩ := H.out.row.at_ (j := i - 1) (x := z.1) (by rw [List.getElem?_map, hz]; rfl)
          obtain ⟨rfl, rfl⟩ : b1 = b2 ∧ off1 = off2 := by simpa using hA2
          exact ⟨z.1.at_, fun _ => ⟨⟨z, hz, rfl⟩, c0⟩⟩
        · exact ⟨0, fun h => absurd h h0⟩
      have HPZ := Lib.hid hpz
      have HL1 := Lib.hid hlt1
      clear hu hp hpz hlt1
      obtain ⟨V, hV⟩ : ∃ V, wr.alloc (.cells #[.int .i64 pat, .bool ps, .slice pA pn pc, .bool pt, .slice pB pm pd] 74) = V := ⟨_, rfl⟩
      have HVB : Hid (Below wr.heap.size wr V) := by rw [← hV]; exact (Below.refl _ _).alloc (Nat.le_refl _) _
      have HBX : Hid (V.heap[wr.heap.size]? = some (.cells #[.int .i64 pat, .bool ps, .slice pA pn pc, .bool pt, .slice pB pm pd] 74 (0, 0))) := by rw [← hV]; exact heap_alloc_new wr _
      have HBV := Lib.hid (below_on HB.out HVB.out)
      have e0 : V.cell? ⟨wr.heap.size, 0, none⟩ = some (.int .i64 pat) := by rw [cell_of_row V _ 0 _ _ _ HBX.out]; rfl
      have e1 : V.cell? ⟨wr.heap.size, 1, none⟩ = some (.bool ps) := by rw [cell_of_row V _ 1 _ _ _ HBX.out]; rfl
      have e2 : V.cell? ⟨wr.heap.size, 2, none⟩ = some (.slice pA pn pc) := by rw [cell_of_row V _ 2 _ _ _ HBX.out]; rfl
      have e3 : V.cell? ⟨wr.heap.size, 3, none⟩ = some (.bool pt) := by rw [cell_of_row V _ 3 _ _ _ HBX.out]; rfl
      have e4 : V.cell? ⟨wr.heap.size, 4, none⟩ = some (.slice pB pm pd) := by rw [cell_of_row V _ 4 _ _ _ HBX.out]; rfl
      by_cases h1 : pat < 0
      · have HNO : Hid (¬ RightV w N ys) := fun h => by have := (h i _ HUI.out).1; simp only at this; omega
        go_wp2_with fail
        exact ⟨rfl, .bool false, by simp [results, Tryz.results32, go_sem], retr_no HNO.out HBV.out⟩
      · have h1' : (0 : Int) ≤ pat := by omega
        by_cases h2 : N ≤ pat
        · have HNO : Hid (¬ RightV w N ys) := fun h => by have := (h i _ HUI.out).2.1; simp only at this; omega
          go_wp2_with fail
          exact ⟨rfl, .bool false, by simp [results, Tryz.results32, go_sem], retr_no HNO.out HBV.out⟩
        · have h2' : pat < N := by omega
          by_cases h3 : 0 < i
          · have h3' : (0 : Int) < (i : Int) := by omega
            have hws : IntKind.i64.wrap ((i : Int) - 1) = (i : Int) - 1 := by have := HN.out; rw [IntKind.wrap_i64]; omega
            have hw1 : (0 : Int) ≤ (i : Int) - 1 := by omega
            have hw2 : (i : Int) - 1 < (n : Int) := by omega
            have hw3 : ((i : Int) - 1).toNat = i - 1 := by omega
            have hz := (HBV.out.cell (p := ⟨b1, off1 + (i - 1) * 5, none⟩) HL1.out).trans (HPZ.out h3).2
            by_cases h4 : pat ≤ pz
            · have HNO : Hid (¬ RightV w N ys) := fun h => by
                obtain ⟨z, hz1, hz2⟩ := (HPZ.out h3).1
                have := (h i _ HUI.out).2.2.1 z h3 hz1
                simp only at this
                omega
              go_upto_region 6 with fail
              clear hV d0 d1 d2 d3 d4
              go_quiet (fail)
              go_wp2_with fail
              exact ⟨rfl, .bool false, by simp [results, Tryz.results32, go_sem], retr_no HNO.out (below_drewN HBV.out _)⟩
            · have h4' : pz < pat := by omega
              go_upto_region 6 with fail
              clear hV d0 d1 d2 d3 d4
              go_quiet (fail)
              obtain ⟨V2, hV2⟩ : ∃ X, V.drewN nq = X := ⟨_, rfl⟩
              have HB2 : Hid (Below w.heap.size w V2) := by rw [← hV2]; exact below_drewN HBV.out _
              have HX2 : Hid (V2.heap[wr.heap.size]? = some (.cells #[.int .i64 pat, .bool ps, .slice pA pn pc, .bool pt, .slice pB pm pd] 74 (0, 0))) := by rw [← hV2]; exact HBX.out
              try rw [hV2]
              clear hV2 e0 e1 e2 e3 e4
              have e0 : V2.cell? ⟨wr.heap.size, 0, none⟩ = some (.int .i64 pat) := by rw [cell_of_row V2 _ 0 _ _ _ HX2.out]; rfl
              have e1 : V2.cell? ⟨wr.heap.size, 1, none⟩ = some (.bool ps) := by rw [cell_of_row V2 _ 1 _ _ _ HX2.out]; rfl
              have e2 : V2.cell? ⟨wr.heap.size, 2, none⟩ = some (.slice pA pn pc) := by rw [cell_of_row V2 _ 2 _ _ _ HX2.out]; rfl
              have e3 : V2.cell? ⟨wr.heap.size, 3, none⟩ = some (.bool pt) := by rw [cell_of_row V2 _ 3 _ _ _ HX2.out]; rfl
              have e4 : V2.cell? ⟨wr.heap.size, 4, none⟩ = some (.slice pB pm pd) := by rw [cell_of_row V2 _ 4 _ _ _ HX2.out]; rfl
              obtain ⟨sg, hsg⟩ : ∃ s, qsign pq = s := ⟨_, rfl⟩
              by_cases hq0 : pq = 0
              · have g1 : (sg == 0) = true := by rw [← hsg, qsign_zero_iff.2 hq0]; rfl
                have HNO : Hid (¬ RightV w N ys) := fun h => (h i _ HUI.out).2.2.2.1 hq0
                go_wp2_with fail
                refine (Q.sign_q (HU.out.below HB2.out) (by have := HK.out; omega) sg hsg).mono ?_
                rintro e w3 ⟨rfl, hb3⟩
                have HB3 := Lib.hid (below_on HB2.out hb3)
                clear hb3 e0 e1 e2 e3 e4
                go_wp2_with fail
                exact ⟨rfl, .bool false, by simp [results, Tryz.results32, go_sem], retr_no HNO.out HB3.out⟩
              · have g1 : (sg == 0) = false := by rw [← hsg, beq_eq_false_iff_ne]; exact fun h => hq0 (qsign_zero_iff.1 h)
                go_wp2_with fail
                refine (Q.sign_q (HU.out.below HB2.out) (by have := HK.out; omega) sg hsg).mono ?_
                rintro e w3 ⟨rfl, hb3⟩
                have HB3 := Lib.hid (below_on HB2.out hb3)
                have HX3 := Lib.hid ((hb3.block wr.heap.size (lt_of_block HX2.out)).trans HX2.out)
                clear hb3 e0 e1 e2 e3 e4
                have e0 : w3.cell? ⟨wr.heap.size, 0, none⟩ = some (.int .i64 pat) := by rw [cell_of_row w3 _ 0 _ _ _ HX3.out]; rfl
                have e1 : w3.cell? ⟨wr.heap.size, 1, none⟩ = some (.bool ps) := by rw [cell_of_row w3 _ 1 _ _ _ HX3.out]; rfl
                have e2 : w3.cell? ⟨wr.heap.size, 2, none⟩ = some (.slice pA pn pc) := by rw [cell_of_row w3 _ 2 _ _ _ HX3.out]; rfl
                have e3 : w3.cell? ⟨wr.heap.size, 3, none⟩ = some (.bool pt) := by rw [cell_of_row w3 _ 3 _ _ _ HX3.out]; rfl
                have e4 : w3.cell? ⟨wr.heap.size, 4, none⟩ = some (.slice pB pm pd) := by rw [cell_of_row w3 _ 4 _ _ _ HX3.out]; rfl
                go_wp2_with fail
                refine (form_any (HU.out.below HB3.out) HK.out.1 (by have := HK.out; omega)).mono ?_
                rintro e w4 ⟨v, rfl, hv, hb4⟩
                have HB4 := Lib.hid (below_on HB3.out hb4)
                clear hb4 e0 e1 e2 e3 e4
                cases v with
                | false =>
                  have HNO : Hid (¬ RightV w N ys) := fun h => by
                    have h9 := hv.2 ((h i _ HUI.out).2.2.2.2.below HB3.out)
                    cases h9
                  clear hv
                  go_wp2_with fail
                  exact ⟨rfl, .bool false, by simp [results, Tryz.results32, go_sem], retr_no HNO.out HB4.out⟩
                | true =>
                  have HOK : Hid (GoodAt w N ys i) := by
                    intro y hy
                    obtain rfl := Option.some.inj (hy.symm.trans HUI.out)
                    exact ⟨h1', h2', fun z _ hz9 => by obtain ⟨z', hz1, hz2⟩ := (HPZ.out h3).1; obtain rfl := Option.some.inj (hz9.symm.trans hz1); rw [hz2]; exact h4', hq0, oneq_back HU.out HB3.out (hv.1 rfl)⟩
                  clear hv
                  go_wp2_with fail
                  go_roundw
                  case rel =>
                    refine ⟨i + 1, by omega, by go_num, HB4, ?_⟩
                    show ∀ j, j < i + 1 → GoodAt w N ys j
                    intro j hj
                    rcases Nat.lt_or_ge j i with h | h
                    · exact HG.out j h
                    · rw [show j = i by omega]; exact HOK.out
                  case measure => have := HN.out; simp [intOf]; omega
          · have h3' : ¬ (0 : Int) < (i : Int) := by omega
            go_upto_region 6 with fail
            clear hV d0 d1 d2 d3 d4
            go_quiet (fail)
            obtain ⟨V2, hV2⟩ : ∃ X, V.drewN nq = X := ⟨_, rfl⟩
            have HB2 : Hid (Below w.heap.size w V2) := by rw [← hV2]; exact below_drewN HBV.out _
            have HX2 : Hid (V2.heap[wr.heap.size]? = some (.cells #[.int .i64 pat, .bool ps, .slice pA pn pc, .bool pt, .slice pB pm pd] 74 (0, 0))) := by rw [← hV2]; exact HBX.out
            try rw [hV2]
            clear hV2 e0 e1 e2 e3 e4
            have e0 : V2.cell? ⟨wr.heap.size, 0, none⟩ = some (.int .i64 pat) := by rw [cell_of_row V2 _ 0 _ _ _ HX2.out]; rfl
            have e1 : V2.cell? ⟨wr.heap.size, 1, none⟩ = some (.bool ps) := by rw [cell_of_row V2 _ 1 _ _ _ HX2.out]; rfl
            have e2 : V2.cell? ⟨wr.heap.size, 2, none⟩ = some (.slice pA pn pc) := by rw [cell_of_row V2 _ 2 _ _ _ HX2.out]; rfl
            have e3 : V2.cell? ⟨wr.heap.size, 3, none⟩ = some (.bool pt) := by rw [cell_of_row V2 _ 3 _ _ _ HX2.out]; rfl
            have e4 : V2.cell? ⟨wr.heap.size, 4, none⟩ = some (.slice pB pm pd) := by rw [cell_of_row V2 _ 4 _ _ _ HX2.out]; rfl
            obtain ⟨sg, hsg⟩ : ∃ s, qsign pq = s := ⟨_, rfl⟩
            by_cases hq0 : pq = 0
            · have g1 : (sg == 0) = true := by rw [← hsg, qsign_zero_iff.2 hq0]; rfl
              have HNO : Hid (¬ RightV w N ys) := fun h => (h i _ HUI.out).2.2.2.1 hq0
              go_wp2_with fail
              refine (Q.sign_q (HU.out.below HB2.out) (by have := HK.out; omega) sg hsg).mono ?_
              rintro e w3 ⟨rfl, hb3⟩
              have HB3 := Lib.hid (below_on HB2.out hb3)
              clear hb3 e0 e1 e2 e3 e4
              go_wp2_with fail
              exact ⟨rfl, .bool false, by simp [results, Tryz.results32, go_sem], retr_no HNO.out HB3.out⟩
            · have g1 : (sg == 0) = false := by rw [← hsg, beq_eq_false_iff_ne]; exact fun h => hq0 (qsign_zero_iff.1 h)
              go_wp2_with fail
              refine (Q.sign_q (HU.out.below HB2.out) (by have := HK.out; omega) sg hsg).mono ?_
              rintro e w3 ⟨rfl, hb3⟩
              have HB3 := Lib.hid (below_on HB2.out hb3)
              have HX3 := Lib.hid ((hb3.block wr.heap.size (lt_of_block HX2.out)).trans HX2.out)
              clear hb3 e0 e1 e2 e3 e4
              have e0 : w3.cell? ⟨wr.heap.size, 0, none⟩ = some (.int .i64 pat) := by rw [cell_of_row w3 _ 0 _ _ _ HX3.out]; rfl
              have e1 : w3.cell? ⟨wr.heap.size, 1, none⟩ = some (.bool ps) := by rw [cell_of_row w3 _ 1 _ _ _ HX3.out]; rfl
              have e2 : w3.cell? ⟨wr.heap.size, 2, none⟩ = some (.slice pA pn pc) := by rw [cell_of_row w3 _ 2 _ _ _ HX3.out]; rfl
              have e3 : w3.cell? ⟨wr.heap.size, 3, none⟩ = some (.bool pt) := by rw [cell_of_row w3 _ 3 _ _ _ HX3.out]; rfl
              have e4 : w3.cell? ⟨wr.heap.size, 4, none⟩ = some (.slice pB pm pd) := by rw [cell_of_row w3 _ 4 _ _ _ HX3.out]; rfl
              go_wp2_with fail
              refine (form_any (HU.out.below HB3.out) HK.out.1 (by have := HK.out; omega)).mono ?_
              rintro e w4 ⟨v, rfl, hv, hb4⟩
              have HB4 := Lib.hid (below_on HB3.out hb4)
              clear hb4 e0 e1 e2 e3 e4
              cases v with
              | false =>
                have HNO : Hid (¬ RightV w N ys) := fun h => by
                  have h9 := hv.2 ((h i _ HUI.out).2.2.2.2.below HB3.out)
                  cases h9
                clear hv
                go_wp2_with fail
                exact ⟨rfl, .bool false, by simp [results, Tryz.results32, go_sem], retr_no HNO.out HB4.out⟩
              | true =>
                have HOK : Hid (GoodAt w N ys i) := by
                  intro y hy
                  obtain rfl := Option.some.inj (hy.symm.trans HUI.out)
                  exact ⟨h1', h2', fun z h9 _ => absurd h9 h3, hq0, oneq_back HU.out HB3.out (hv.1 rfl)⟩
                clear hv
                go_wp2_with fail
                go_roundw
                case rel =>
                  refine ⟨i + 1, by omega, by go_num, HB4, ?_⟩
                  show ∀ j, j < i + 1 → GoodAt w N ys j
                  intro j hj
                  rcases Nat.lt_or_ge j i with h | h
                  · exact HG.out j h
                  · rw [show j = i by omega]; exact HOK.out
                case measure => have := HN.out; simp [intOf]; omega
    · have hi1 : ¬ (i : Int) < (n : Int) := by omega
      have HY : Hid (RightV w N ys) := by
        intro j y hy
        have h1 := (List.getElem?_eq_some_iff.1 hy).1
        exact HG.out j (by have := HLEN.out; omega) y hy
      go_wp2_with fail
      exact ⟨rfl, .bool true, by simp [results, Tryz.results32, go_sem], true, rfl, ⟨fun _ => HY.out, fun _ => rfl⟩, HB.out⟩
end Go.Proofs.YtmbnlhedbedcdaaGreat.V

/- law05.term, walked. -/
namespace Go.Proofs.YtmbnlhedbedcdaaGreat.V
open Go.RowKit
open Go.Proofs.YtmbnlhedbedcdaaGreat.Q (IsQ OneQ RetQ below_on ql Qbx Box)

/-- A term whose number is in the one form. -/
def RetT (w : World) (a : Int) (q : Rat) (e : Ending) (w' : World) : Prop :=
  ∃ s A n c t B m d, e = .returned (.agg #[.int .i64 a, .bool s, .slice A n c, .bool t, .slice B m d]) ∧ OneQ w' s A n c t B m d q ∧ Below w.heap.size w w'
set_option maxRecDepth 100000 in
set_option maxHeartbeats 4000000 in
theorem term_any (w : World) (a y z : Int) (h1 : -9223372036854775808 ≤ y) (h2 : y ≤ 9223372036854775807) (h3 : -9223372036854775808 ≤ z) (h4 : z ≤ 9223372036854775807) (q : Rat) (hq : Rat.divInt y z = q) :
    Calls Tryz.prog 68 #[.int .i64 a, .int .i64 y, .int .i64 z] w (RetT w a q) := by
  obtain ⟨W0, hW0⟩ : ∃ V, w.alloc (.cells #[.int .i64 0, .bool false, .slice none 0 0, .bool false, .slice none 0 0] 74) = V := ⟨_, rfl⟩
  have HB0 : Hid (Below w.heap.size w W0) := by rw [← hW0]; exact (Below.refl _ _).alloc (Nat.le_refl _) _
  have HC0 : Hid (W0.heap[w.heap.size]? = some (.cells #[.int .i64 0, .bool false, .slice none 0 0, .bool false, .slice none 0 0] 74 (0, 0))) := by rw [← hW0]; exact heap_alloc_new w _
  have HJ := Lib.hid (Q.of_q W0 y z h1 h2 h3 h4 q hq)
  clear h1 h2 h3 h4 hq
  go_enter Tryz.func68, Tryz.ntmps68
  go_upto_region 1 with fail
  clear hW0
  go_wp2_with fail
  refine HJ.out.mono ?_
  rintro e w1 ⟨s8, A8, n8, c8, t8, B8, m8, d8, rfl, h8, hb8⟩
  have hc := (hb8.block w.heap.size (lt_of_block HC0.out)).trans HC0.out
  have HC := Lib.hid hc
  have H8 := Lib.hid h8
  have HB := Lib.hid (below_on HB0.out hb8)
  have e0 : w1.cell? ⟨w.heap.size, 0, none⟩ = some (.int .i64 0) := by rw [cell_of_row w1 _ 0 _ _ _ hc]; rfl
  have f0 : w1.frozen? ⟨w.heap.size, 0, none⟩ = false := frozen_of_row w1 _ 0 _ _ hc
  have e1 : w1.cell? ⟨w.heap.size, 1, none⟩ = some (.bool false) := by rw [cell_of_row w1 _ 1 _ _ _ hc]; rfl
  have f1 : w1.frozen? ⟨w.heap.size, 1, none⟩ = false := frozen_of_row w1 _ 1 _ _ hc
  have e2 : w1.cell? ⟨w.heap.size, 2, none⟩ = some (.slice none 0 0) := by rw [cell_of_row w1 _ 2 _ _ _ hc]; rfl
  have f2 : w1.frozen? ⟨w.heap.size, 2, none⟩ = false := frozen_of_row w1 _ 2 _ _ hc
  have e3 : w1.cell? ⟨w.heap.size, 3, none⟩ = some (.bool false) := by rw [cell_of_row w1 _ 3 _ _ _ hc]; rfl
  have f3 : w1.frozen? ⟨w.heap.size, 3, none⟩ = false := frozen_of_row w1 _ 3 _ _ hc
  have e4 : w1.cell? ⟨w.heap.size, 4, none⟩ = some (.slice none 0 0) := by rw [cell_of_row w1 _ 4 _ _ _ hc]; rfl
  have f4 : w1.frozen? ⟨w.heap.size, 4, none⟩ = false := frozen_of_row w1 _ 4 _ _ hc
  clear hc h8 hb8 HJ HC0 HB0
  go_wp2_with fail
  have hd : NoDig w1 (fun b => b = w.heap.size) := by
    intro b hb i v hv z
    rw [hb, cell_of_row _ _ i _ _ _ HC.out] at hv
    match i with
    | 0 => obtain rfl := Option.some.inj hv; intro h; cases h
    | 1 => obtain rfl := Option.some.inj hv; intro h; cases h
    | 2 => obtain rfl := Option.some.inj hv; intro h; cases h
    | 3 => obtain rfl := Option.some.inj hv; intro h; cases h
    | 4 => obtain rfl := Option.some.inj hv; intro h; cases h
    | i + 5 => simp at hv
  have hnear := (((((Near.refl (fun b => b = w.heap.size) w1).setCell w.heap.size 0 (.int .i64 a) rfl).setCell w.heap.size 1 (.bool s8) rfl).setCell w.heap.size 2 (.slice A8 n8 c8) rfl).setCell w.heap.size 3 (.bool t8) rfl).setCell w.heap.size 4 (.slice B8 m8 d8) rfl
  have hrow : ((((((w1).setCell ⟨w.heap.size, 0, none⟩ (.int .i64 a)).setCell ⟨w.heap.size, 1, none⟩ (.bool s8)).setCell ⟨w.heap.size, 2, none⟩ (.slice A8 n8 c8)).setCell ⟨w.heap.size, 3, none⟩ (.bool t8)).setCell ⟨w.heap.size, 4, none⟩ (.slice B8 m8 d8)).heap[w.heap.size]? = some (.cells _ 74 (0, 0)) := heap_setCell_same _ w.heap.size 4 _ _ _ (heap_setCell_same _ w.heap.size 3 _ _ _ (heap_setCell_same _ w.heap.size 2 _ _ _ (heap_setCell_same _ w.heap.size 1 _ _ _ (heap_setCell_same w1 w.heap.size 0 _ _ _ HC.out))))
  have p0 := cell_of_row _ w.heap.size 0 _ _ _ hrow
  have p1 := cell_of_row _ w.heap.size 1 _ _ _ hrow
  have p2 := cell_of_row _ w.heap.size 2 _ _ _ hrow
  have p3 := cell_of_row _ w.heap.size 3 _ _ _ hrow
  have p4 := cell_of_row _ w.heap.size 4 _ _ _ hrow
  have ho := H8.out
  have HO : Hid (OneQ ((((((w1).setCell ⟨w.heap.size, 0, none⟩ (.int .i64 a)).setCell ⟨w.heap.size, 1, none⟩ (.bool s8)).setCell ⟨w.heap.size, 2, none⟩ (.slice A8 n8 c8)).setCell ⟨w.heap.size, 3, none⟩ (.bool t8)).setCell ⟨w.heap.size, 4, none⟩ (.slice B8 m8 d8)) s8 A8 n8 c8 t8 B8 m8 d8 q) := ⟨ho.es, ho.en, ho.et, ho.em, num_near ho.num hd hnear, num_near ho.den hd hnear, ho.cap, ho.cap2⟩
  have HBL : Hid (Below w.heap.size w ((((((w1).setCell ⟨w.heap.size, 0, none⟩ (.int .i64 a)).setCell ⟨w.heap.size, 1, none⟩ (.bool s8)).setCell ⟨w.heap.size, 2, none⟩ (.slice A8 n8 c8)).setCell ⟨w.heap.size, 3, none⟩ (.bool t8)).setCell ⟨w.heap.size, 4, none⟩ (.slice B8 m8 d8))) := ((((HB.out.setCell (Nat.le_refl _) _).setCell (Nat.le_refl _) _).setCell (Nat.le_refl _) _).setCell (Nat.le_refl _) _).setCell (Nat.le_refl _) _
  clear hd hnear hrow ho e0 e1 e2 e3 e4 f0 f1 f2 f3 f4
  simp only [List.setIfInBounds_toArray, List.set_cons_zero, List.set_cons_succ, List.getElem?_toArray, List.getElem?_cons_zero, List.getElem?_cons_succ] at p0 p1 p2 p3 p4
  refine bodyPost_ret (v := .agg #[.int .i64 a, .bool s8, .slice A8 n8 c8, .bool t8, .slice B8 m8 d8]) (by simp [results, Tryz.results68, go_sem, p0, p1, p2, p3, p4]) rfl ?_
  exact ⟨s8, A8, n8, c8, t8, B8, m8, d8, rfl, HO.out, HBL.out⟩
end Go.Proofs.YtmbnlhedbedcdaaGreat.V

/- sparse.Dense, walked. -/
namespace Go.Proofs.YtmbnlhedbedcdaaGreat.V
open Go.RowKit
open Go.Proofs.YtmbnlhedbedcdaaGreat.Q (IsQ OneQ RetQ below_on ql Qbx)

/-- A call's answer as a vector that goes in again. -/
theorem own_isv {w : World} {g n c k : Nat} {zs : List (TV × Rat)} (ho : OwnT w 0 (.slice (some ⟨g, 0, none⟩) n c) (zs.map Prod.fst)) (h4 : ∀ y ∈ zs, OneQ w y.1.s y.1.A y.1.n y.1.c y.1.t y.1.B y.1.m y.1.d y.2 ∧ -9223372036854775808 ≤ y.1.at_ ∧ y.1.at_ ≤ 9223372036854775807) (hk : ∀ y ∈ zs, ql y.2 ≤ k) : IsV w (some ⟨g, 0, none⟩) n c zs k := by
  rcases ho.row.2 with ⟨h0, _⟩ | ⟨g', cap, cur, e, _, hgc, hnc, _, hcs, htake⟩
  · cases h0
  · obtain ⟨rfl, rfl, rfl⟩ : g = g' ∧ n = (zs.map Prod.fst).length ∧ c = cap := by simpa using e
    refine ⟨by rw [List.length_map], hnc, row_cells (lt_of_block hgc) ?_, fun y hy => ⟨(h4 y hy).1.isq (hk y hy), (h4 y hy).2⟩⟩
    intro j u hj
    rw [Nat.zero_add, cell_of_row w g j _ _ _ hgc]
    rw [← htake, List.getElem?_take] at hj
    split at hj
    · simpa using hj
    · cases hj
set_option maxRecDepth 100000 in
theorem keep_dense {w : World} {gI : Nat} {p : Int} (hg : w.heap[gI]? = some (.cells #[.int .i64 p] 3 (0, 0))) : Keep w 90 #[.pointer (some ⟨gI, 0, none⟩)] (fun a => decide (0 ≤ a) && decide (a < p)) := by
  refine ⟨enters_of Tryz.func90 (by kernel_rfl) rfl, ?_⟩
  intro W a hb _ _
  show Calls Tryz.prog 90 #[.int .i64 a, .pointer (some ⟨gI, 0, none⟩)] W (fun e W' => e = .returned (.bool (decide (0 ≤ a) && decide (a < p))) ∧ Below W.heap.size W W')
  have hc : W.cell? ⟨gI, 0, none⟩ = some (.int .i64 p) := by rw [cell_of_row W gI 0 _ _ _ ((hb.block gI (lt_of_block hg)).trans hg)]; rfl
  clear hg hb
  by_cases h0 : 0 ≤ a
  · by_cases h1 : a < p
    · rw [show (decide (0 ≤ a) && decide (a < p)) = true by rw [decide_eq_true h0, decide_eq_true h1]; rfl]
      go_enter Tryz.func90, Tryz.ntmps90
      go_wp2_with fail
      exact ⟨rfl, .bool true, by simp [results, Tryz.results90, go_sem], rfl, Below.refl _ _⟩
    · rw [show (decide (0 ≤ a) && decide (a < p)) = false by rw [decide_eq_true h0, decide_eq_false h1]; rfl]
      go_enter Tryz.func90, Tryz.ntmps90
      go_wp2_with fail
      exact ⟨rfl, .bool false, by simp [results, Tryz.results90, go_sem], rfl, Below.refl _ _⟩
  · rw [show (decide (0 ≤ a) && decide (a < p)) = false by rw [decide_eq_false h0]; rfl]
    go_enter Tryz.func90, Tryz.ntmps90
    go_wp2_with fail
    exact ⟨rfl, .bool false, by simp [results, Tryz.results90, go_sem], rfl, Below.refl _ _⟩
/-- A row of N fractions in their one form. -/
def Rats (w : World) (r N : Nat) (F : Nat → Rat) : Prop :=
  ∃ cur : Array Value, w.heap[r]? = some (.cells cur 27 (0, 0)) ∧ cur.size = N * 4 ∧ ∀ i, i < N → ∃ s A n c t B m d, cur[i * 4]? = some (.bool s) ∧ cur[i * 4 + 1]? = some (.slice A n c) ∧ cur[i * 4 + 2]? = some (.bool t) ∧ cur[i * 4 + 3]? = some (.slice B m d) ∧ OneQ w s A n c t B m d (F i)
theorem Rats.dig {w : World} {r N : Nat} {F : Nat → Rat} (h : Rats w r N F) : NoDig w (fun b => b = r) := by
  intro b hb i v hv z
  obtain ⟨cur, h1, h2, h3⟩ := h
  rw [hb, cell_of_row _ _ i _ _ _ h1] at hv
  have hi : i < N * 4 := by rw [← h2]; exact (Array.getElem?_eq_some_iff.1 hv).1
  obtain ⟨s, A, n, c, t, B, m, d, c0, c1, c2, c3, _⟩ := h3 (i / 4) (by omega)
  have h4 : i % 4 = 0 ∨ i % 4 = 1 ∨ i % 4 = 2 ∨ i % 4 = 3 := by omega
  rcases h4 with h4 | h4 | h4 | h4
  · rw [show i = i / 4 * 4 by omega, c0] at hv; obtain rfl := Option.some.inj hv; intro h; cases h
  · rw [show i = i / 4 * 4 + 1 by omega, c1] at hv; obtain rfl := Option.some.inj hv; intro h; cases h
  · rw [show i = i / 4 * 4 + 2 by omega, c2] at hv; obtain rfl := Option.some.inj hv; intro h; cases h
  · rw [show i = i / 4 * 4 + 3 by omega, c3] at hv; obtain rfl := Option.some.inj hv; intro h; cases h
theorem one_near {Own : Nat → Prop} {w wx : World} {s t : Bool} {A B : Option Addr} {n c m d : Nat} {q : Rat} (h : OneQ w s A n c t B m d q) (hd : NoDig w Own) (hn : Near Own w wx) : OneQ wx s A n c t B m d q :=
  ⟨h.es, h.en, h.et, h.em, num_near h.num hd hn, num_near h.den hd hn, h.cap, h.cap2⟩
theorem Rats.below {w W : World} {r N : Nat} {F : Nat → Rat} (h : Rats w r N F) (hb : Below w.heap.size w W) : Rats W r N F := by
  obtain ⟨cur, h1, h2, h3⟩ := h
  refine ⟨cur, (hb.block r (lt_of_block h1)).trans h1, h2, fun i hi => ?_⟩
  obtain ⟨s, A, n, c, t, B, m, d, c0, c1, c2, c3, ho⟩ := h3 i hi
  exact ⟨s, A, n, c, t, B, m, d, c0, c1, c2, c3, ho.below hb⟩
/-- The world behind a store of a fraction at a place of a row. -/
abbrev putR (w : World) (r a : Nat) (s : Bool) (A : Option Addr) (n c : Nat) (t : Bool) (B : Option Addr) (m d : Nat) : World :=
  (((w.setCell ⟨r, a * 4, none⟩ (.bool s)).setCell ⟨r, a * 4 + 1, none⟩ (.slice A n c)).setCell ⟨r, a * 4 + 2, none⟩ (.bool t)).setCell ⟨r, a * 4 + 3, none⟩ (.slice B m d)
theorem near_putR {w : World} {r a : Nat} {s t : Bool} {A B : Option Addr} {n c m d : Nat} : Near (fun b => b = r) w (putR w r a s A n c t B m d) :=
  ((((Near.refl (fun b => b = r) w).setCell r _ _ rfl).setCell r _ _ rfl).setCell r _ _ rfl).setCell r _ _ rfl
theorem Rats.put {w : World} {r N a : Nat} {F : Nat → Rat} {s t : Bool} {A B : Option Addr} {n c m d : Nat} {q : Rat} (h : Rats w r N F) (ha : a < N) (ho : OneQ w s A n c t B m d q) : Rats (putR w r a s A n c t B m d) r N (fun i => if i = a then q else F i) := by
  have hd := h.dig
  obtain ⟨cur, h1, h2, h3⟩ := h
  refine ⟨_, heap_setCell_same _ r _ _ _ _ (heap_setCell_same _ r _ _ _ _ (heap_setCell_same _ r _ _ _ _ (heap_setCell_same w r _ _ _ _ h1))), by simp [h2], fun i hi => ?_⟩
  by_cases e : i = a
  · subst e
    refine ⟨s, A, n, c, t, B, m, d, ?_, ?_, ?_, ?_, ?_⟩
    · simp [Array.getElem?_setIfInBounds, h2]; omega
    · simp [Array.getElem?_setIfInBounds, h2]; omega
    · simp [Array.getElem?_setIfInBounds, h2]; omega
    · simp [Array.getElem?_setIfInBounds, h2]; omega
    · show OneQ _ _ _ _ _ _ _ _ _ (if i = i then q else F i)
      rw [if_pos rfl]; exact one_near ho hd near_putR
  · obtain ⟨s', A', n', c', t', B', m', d', c0, c1, c2, c3, ho'⟩ := h3 i hi
    refine ⟨s', A', n', c', t', B', m', d', ?_, ?_, ?_, ?_, ?_⟩
    · rw [← c0]; simp only [Array.getElem?_setIfInBounds]; repeat rw [if_neg (by omega)]
    · rw [← c1]; simp only [Array.getElem?_setIfInBounds]; repeat rw [if_neg (by omega)]
    · rw [← c2]; simp only [Array.getElem?_setIfInBounds]; repeat rw [if_neg (by omega)]
    · rw [← c3]; simp only [Array.getElem?_setIfInBounds]; repeat rw [if_neg (by omega)]
    · show OneQ _ _ _ _ _ _ _ _ _ (if i = a then q else F i)
      rw [if_neg e]; exact one_near ho' hd near_putR
/-- What Dense tells. -/
def RetD (w : World) (N : Nat) (F : Nat → Rat) (e : Ending) (w' : World) : Prop :=
  ∃ r, e = .returned (.slice (some ⟨r, 0, none⟩) N N) ∧ w.heap.size ≤ r ∧ Rats w' r N F ∧ Below w.heap.size w w'
def zeroR : Value := .agg #[.bool false, .slice none 0 0, .bool false, .slice none 0 0]
theorem info_r : (Tryz.prog.info? 27).map (fun i => (i.zero, i.size, i.bytes)) = some (some zeroR, 4, 64) := by kernel_rfl
theorem made_r (n j : Nat) (h : j < n) : (madeCells zeroR.cells n)[j]? = some (zeroR.cells[j % 4]!) := by
  unfold madeCells
  rw [Array.getElem?_map, Array.getElem?_range, if_pos h]
  rfl
theorem make_r (w : World) (N : Nat) (hN : N ≤ 65536) : ∃ W, (Instr.makeSlice 52 (.int .i64 (N : Int)) (.int .i64 (N : Int))).run Tryz.prog w = .ok (.slice (some ⟨w.heap.size, 0, none⟩) N N) W ∧ Below w.heap.size w W ∧ W.heap.size = w.heap.size + 1 ∧ Rats W w.heap.size N (fun _ => 0) := by
  obtain ⟨i, hi, hz, hs, hb⟩ := info_parts info_r
  have under : Tryz.prog.underlying 52 = some (.slice 27) := by kernel_rfl
  have hr := run_make (P := Tryz.prog) w 52 27 i zeroR under hi hz .i64 .i64 (N : Int) (N : Int) (by omega) (Int.le_refl _) (by rw [hb]; omega) (by omega)
  simp only [Int.toNat_natCast, hs] at hr
  refine ⟨_, hr, (Below.refl _ _).alloc (Nat.le_refl _) _, by simp, _, heap_alloc_new w _, size_madeCells _ _, fun i hi => ?_⟩
  refine ⟨false, none, 0, 0, false, none, 0, 0, ?_, ?_, ?_, ?_, Go.Proofs.YtmbnlhedbedcdaaGreat.Q.oneq_zero _ _ _⟩
  · rw [made_r _ _ (by omega), show i * 4 % 4 = 0 by omega]; rfl
  · rw [made_r _ _ (by omega), show (i * 4 + 1) % 4 = 1 by omega]; rfl
  · rw [made_r _ _ (by omega), show (i * 4 + 2) % 4 = 2 by omega]; rfl
  · rw [made_r _ _ (by omega), show (i * 4 + 3) % 4 = 3 by omega]; rfl
theorem Rats.congr {w : World} {r N : Nat} {F G : Nat → Rat} (h : Rats w r N F) (hg : ∀ i, i < N → F i = G i) : Rats w r N G := by
  obtain ⟨cur, h1, h2, h3⟩ := h
  exact ⟨cur, h1, h2, fun i hi => by rw [← hg i hi]; exact h3 i hi⟩
structure DS (w4 wr : World) (r N : Nat) (l : List (Int × Rat)) (j : Nat) : Prop where
  near : Near (fun b => b = r) w4 wr
  rats : Rats wr r N (fun i => tot (l.take j) (i : Int))
theorem canon_take {l : List (Int × Rat)} (h : Canon l) {j : Nat} {a : Int} {q : Rat} (hj : l[j]? = some (a, q)) (i : Int) : tot (l.take (j + 1)) i = if i = a then q else tot (l.take j) i := by
  rw [List.take_add_one, hj, tot_append]
  have e : tot (some (a, q)).toList i = if a = i then q else 0 := by show (if a = i then q else 0) + 0 = _; grind
  rw [e]
  by_cases hi : i = a
  · subst hi
    rw [if_pos rfl, if_pos rfl, tot_none, Rat.zero_add]
    intro x hx hxe
    obtain ⟨m, hm, rfl⟩ := List.getElem_of_mem hx
    rw [List.length_take] at hm
    obtain ⟨hjl, hj2⟩ := List.getElem?_eq_some_iff.1 hj
    have h9 := List.pairwise_iff_getElem.1 h.up m j (by omega) hjl (by omega)
    rw [hj2] at h9
    rw [List.getElem_take] at hxe
    omega
  · rw [if_neg (fun e => hi e.symm), if_neg hi, Rat.add_zero]
theorem canon_mem {l : List (Int × Rat)} (h : Canon l) {x : Int × Rat} (hx : x ∈ l) : tot l x.1 = x.2 := by
  induction l with
  | nil => cases hx
  | cons b l ih =>
    rcases List.mem_cons.1 hx with rfl | hx
    · exact h.tot_head
    · rw [h.tot_tail (by have := h.head x hx; omega)]
      exact ih h.tail hx
theorem up_len (hi : Int) : ∀ (l : List (Int × Rat)) (lo : Int), l.Pairwise (fun s t => s.1 < t.1) → (∀ x ∈ l, lo ≤ x.1 ∧ x.1 < hi) → l.length ≤ (hi - lo).toNat
  | [], _, _, _ => Nat.zero_le _
  | x :: l, lo, h, hx => by
    have h1 := List.pairwise_cons.1 h
    have h2 := hx x (List.mem_cons_self ..)
    have h3 := up_len hi l (x.1 + 1) h1.2 (fun y hy => ⟨by have := h1.1 y hy; omega, (hx y (List.mem_cons_of_mem _ hy)).2⟩)
    rw [List.length_cons]
    omega
theorem tot_in {l : List (Int × Rat)} {a : Int} (h : tot l a ≠ 0) : ∃ x ∈ l, x.1 = a := by
  refine Classical.byContradiction (fun hn => h (tot_none (fun x hx e => hn ⟨x, hx, e⟩)))
theorem filter_in {l : List (Int × Rat)} {kp : Int → Bool} {a : Int} (h : kp a = true) : tot (l.filter (fun x => kp x.1)) a = tot l a := by
  rw [tot_filter, tot_filter l, List.filter_filter]
  congr 1
  refine List.filter_congr (fun x _ => ?_)
  by_cases e : x.1 = a
  · simp [e, h]
  · simp [e]
set_option maxRecDepth 100000 in
set_option maxHeartbeats 4000000 in
theorem dense_v {w : World} {A : Option Addr} {n c k : Nat} {xs : List (TV × Rat)} (hx : IsV w A n c xs k) (hk : k ≤ 700) (hn : n ≤ 1000000) (hsx : Short (vals xs)) (p : Int) (N : Nat) (hN : min (max p 0) 65536 = (N : Int)) :
    Calls Tryz.prog 35 #[.slice A n c, .int .i64 p] w (RetD w N (fun i => tot (vals xs) (i : Int))) := by
  have hNL : N ≤ 65536 := by omega
  obtain ⟨W0, hW0⟩ : ∃ V, w.alloc (.cells #[.int .i64 p] 3) = V := ⟨_, rfl⟩
  have hb0 : Below w.heap.size w W0 := by rw [← hW0]; exact (Below.refl _ _).alloc (Nat.le_refl _) _
  have hs0 : W0.heap.size = w.heap.size + 1 := by rw [← hW0]; simp
  have hi0 : W0.heap[w.heap.size]? = some (.cells #[.int .i64 p] 3 (0, 0)) := by rw [← hW0]; exact heap_alloc_new w _
  have v0 : W0.cell? ⟨w.heap.size, 0, none⟩ = some (.int .i64 p) := by rw [cell_of_row _ _ 0 _ _ _ hi0]; rfl
  have f0 : W0.frozen? ⟨w.heap.size, 0, none⟩ = false := frozen_of_row _ _ 0 _ _ hi0
  obtain ⟨W1, hW1⟩ : ∃ V, W0.setCell ⟨w.heap.size, 0, none⟩ (.int .i64 (N : Int)) = V := ⟨_, rfl⟩
  have hb1 : Below w.heap.size w W1 := by rw [← hW1]; exact hb0.setCell (Nat.le_refl _) _
  have hs1 : W1.heap.size = w.heap.size + 1 := by rw [← hW1]; simp [hs0]
  have hi1 : W1.heap[w.heap.size]? = some (.cells #[.int .i64 (N : Int)] 3 (0, 0)) := by rw [← hW1]; exact heap_setCell_same _ _ _ _ _ _ hi0
  have v1 : W1.cell? ⟨w.heap.size, 0, none⟩ = some (.int .i64 (N : Int)) := by rw [cell_of_row _ _ 0 _ _ _ hi1]; rfl
  obtain ⟨W2, hmk, hb2, hs2, hr2⟩ := make_r W1 N hNL
  have HB2 := Lib.hid (below_on hb1 hb2)
  have HX := Lib.hid (hx.below HB2.out)
  have HK := Lib.hid (keep_dense ((hb2.block w.heap.size (lt_of_block hi1)).trans hi1))
  have HR2 := Lib.hid hr2
  have HZ : Hid (W1.heap.size = w.heap.size + 1 ∧ W2.heap.size = w.heap.size + 2) := ⟨hs1, by omega⟩
  have HN := Lib.hid hn
  have HKK := Lib.hid hk
  have HS := Lib.hid hsx
  have HNL := Lib.hid hNL
  clear hx hk hn hsx hb0 hs0 hi0 hb1 hs1 hi1 hb2 hs2 hr2 hNL
  go_enter Tryz.func35, Tryz.ntmps35
  go_upto_region 3 with fail
  clear hW0 hW1 hmk v0 f0 v1
  go_wp2_with fail
  refine (only_any HX.out HN.out HK.out).mono ?_
  rintro e w3 ⟨A3, n3, c3, rfl, h3, hb3, ha3⟩
  have H3 := Lib.hid h3
  have HL3 : Hid (n3 ≤ n) := filter_len HX.out h3
  have HB3 := Lib.hid (below_on HB2.out hb3)
  have HR3 := Lib.hid (HR2.out.below hb3)
  have HZ3 : Hid (W1.heap.size < w3.heap.size) := by have := hb3.size; have := HZ.out; show _ < _; omega
  have HA3 : Hid (∀ a, A3 = some a → a.block < w3.heap.size) := by
    intro a ha
    rcases ha3 with h | ⟨g, h, _, hg⟩
    · rw [h] at ha; cases ha
    · rw [h] at ha; obtain rfl := Option.some.inj ha; exact hg
  obtain ⟨X, hX⟩ : ∃ X, (vals xs).filter (fun x => decide (0 ≤ x.1) && decide (x.1 < (N : Int))) = X := ⟨_, rfl⟩
  have HXE := Lib.hid hX
  have HSX : Hid (Short X) := by show Short X; rw [← hX]; exact HS.out.filter _
  have hve : vals (xs.filter (fun y => decide (0 ≤ y.1.at_) && decide (y.1.at_ < (N : Int)))) = X := by rw [← hX]; exact vals_filter xs (fun a => decide (0 ≤ a) && decide (a < (N : Int)))
  have HVE := Lib.hid hve
  clear h3 hb3 ha3 hX hve
  go_wp2_with fail
  refine (norm_v H3.out HKK.out (by have h1 := HL3.out; have h2 := HN.out; omega) (by rw [HVE.out]; exact HSX.out) HA3.out).mono ?_
  rintro e w4 ⟨g, n4, c4, zs, rfl, h1, h2, h5, h4, hb4⟩
  rw [HVE.out] at h5
  have HCAN := Lib.hid h5.1
  have HTOT := Lib.hid h5.2
  have HV4 : Hid (IsV w4 (some ⟨g, 0, none⟩) n4 c4 zs 700) := own_isv h1 h4 (fun y hy => by
    rw [← canon_mem h5.1 (List.mem_map.2 ⟨y, hy, rfl⟩ : (y.1.at_, y.2) ∈ vals zs), h5.2]
    exact HSX.out.tot _)
  have HO4 := Lib.hid h4
  have HR4 := Lib.hid (HR3.out.below hb4)
  have HG4 : Hid (g ≠ W1.heap.size) := by have := HZ3.out; show _ ≠ _; omega
  have HB4 := Lib.hid (below_on HB3.out hb4)
  clear h1 h2 h5 h4 hb4
  have HLEN : Hid (n4 = zs.length) := HV4.out.en
  have HIN : Hid (∀ y ∈ vals zs, 0 ≤ y.1 ∧ y.1 < (N : Int)) := by
    intro y hy
    have h9 : tot X y.1 ≠ 0 := by rw [← HTOT.out, canon_mem HCAN.out hy]; exact HCAN.out.nz _ hy
    obtain ⟨x, hx1, hx2⟩ := tot_in h9
    rw [← HXE.out, List.mem_filter] at hx1
    have h8 := hx1.2
    rw [Bool.and_eq_true, decide_eq_true_iff, decide_eq_true_iff, hx2] at h8
    exact h8
  have HN4 : Hid (n4 ≤ 1000000) := by
    have h9 := up_len (N : Int) (vals zs) 0 HCAN.out.up HIN.out
    rw [vals_len] at h9
    have h8 := HLEN.out
    have h7 := HNL.out
    show _ ≤ _
    omega
  have HDS : Hid (DS w4 w4 W1.heap.size N (vals zs) 0) := ⟨Near.refl _ _, HR4.out⟩
  go_wp2_with fail
  go_loopw [18] (fun iv wr => ∃ j : Nat, j ≤ n4 ∧ iv = .int .i64 (j : Int) ∧ Hid (DS w4 wr W1.heap.size N (vals zs) j)) (fun iv _ => n4 - (intOf iv).toNat)
  case atStart => exact ⟨0, Nat.zero_le _, rfl, HDS⟩
  case round =>
    clear HDS
    obtain ⟨j, hj, rfl, HDS⟩ := hrel
    by_cases hlt : j < n4
    · have hi1 : (j : Int) < (n4 : Int) := by omega
      have hi0 : (0 : Int) ≤ (j : Int) := by omega
      have hwi : IntKind.i64.wrap ((j : Int) + 1) = (j : Int) + 1 := by have := HN4.out; rw [IntKind.wrap_i64]; omega
      obtain ⟨u, hu⟩ : ∃ u, zs[j]? = some u := ⟨zs[j]'(by have := HLEN.out; omega), List.getElem?_eq_getElem (by have := HLEN.out; omega)⟩
      have HVW : Hid (IsV wr (some ⟨g, 0, none⟩) n4 c4 zs 700) := HV4.out.near (fun a ha h => by obtain rfl := Option.some.inj ha; exact HG4.out h) HR4.out.dig HDS.out.near
      obtain ⟨b1, off1, hA1, _, d0, d1, d2, d3, d4⟩ := HVW.out.row.at_ (j := j) (x := u.1) (by rw [List.getElem?_map, hu]; rfl)
      obtain ⟨rfl, rfl⟩ : g = b1 ∧ 0 = off1 := by simpa using hA1
      have ho := (HO4.out u (List.mem_of_getElem? hu)).1
      have hvj : (vals zs)[j]? = some (u.1.at_, u.2) := by unfold vals; rw [List.getElem?_map, hu]; rfl
      have hm9 : (u.1.at_, u.2) ∈ vals zs := List.mem_of_getElem? hvj
      have hin : 0 ≤ u.1.at_ ∧ u.1.at_ < (N : Int) := HIN.out _ hm9
      obtain ⟨an, han⟩ : ∃ an : Nat, u.1.at_ = (an : Int) := ⟨u.1.at_.toNat, by omega⟩
      have HAN : Hid (an < N) := by show _ < _; omega
      have HVJ : Hid ((vals zs)[j]? = some ((an : Int), u.2)) := by show _ = _; rw [hvj, han]
      have HOU := Lib.hid (one_near ho HR4.out.dig HDS.out.near)
      rw [han] at d0
      obtain ⟨y, hy⟩ : ∃ y, u = y := ⟨_, rfl⟩
      rw [hy] at d1 d2 d3 d4 HOU HVJ
      obtain ⟨⟨pat, ps, pA, pn, pc, pt, pB, pm, pd⟩, pq⟩ := y
      simp only [Nat.zero_add] at d0 d1 d2 d3 d4
      clear ho hvj hm9 hin hu hy han HVW hA1
      have hani : (an : Int) < (N : Int) := by have := HAN.out; omega
      have han0 : (0 : Int) ≤ (an : Int) := by omega
      obtain ⟨V, hV⟩ : ∃ V, wr.alloc (.cells #[.int .i64 (an : Int), .bool ps, .slice pA pn pc, .bool pt, .slice pB pm pd] 74) = V := ⟨_, rfl⟩
      have HVB : Hid (Below wr.heap.size wr V) := by rw [← hV]; exact (Below.refl _ _).alloc (Nat.le_refl _) _
      have hbx : V.heap[wr.heap.size]? = some (.cells #[.int .i64 (an : Int), .bool ps, .slice pA pn pc, .bool pt, .slice pB pm pd] 74 (0, 0)) := by rw [← hV]; exact heap_alloc_new wr _
      have e0 : V.cell? ⟨wr.heap.size, 0, none⟩ = some (.int .i64 (an : Int)) := by rw [cell_of_row V _ 0 _ _ _ hbx]; rfl
      have e1 : V.cell? ⟨wr.heap.size, 1, none⟩ = some (.bool ps) := by rw [cell_of_row V _ 1 _ _ _ hbx]; rfl
      have e2 : V.cell? ⟨wr.heap.size, 2, none⟩ = some (.slice pA pn pc) := by rw [cell_of_row V _ 2 _ _ _ hbx]; rfl
      have e3 : V.cell? ⟨wr.heap.size, 3, none⟩ = some (.bool pt) := by rw [cell_of_row V _ 3 _ _ _ hbx]; rfl
      have e4 : V.cell? ⟨wr.heap.size, 4, none⟩ = some (.slice pB pm pd) := by rw [cell_of_row V _ 4 _ _ _ hbx]; rfl
      have HRV := Lib.hid (HDS.out.rats.below HVB.out)
      obtain ⟨cur, r1, _, r3⟩ := HRV.out
      obtain ⟨s9, A9, n9, c9, t9, B9, m9, d9, q0, q1, q2, q3, _⟩ := r3 an HAN.out
      have z0 : V.cell? ⟨W1.heap.size, an * 4, none⟩ = some (.bool s9) := (cell_of_row _ _ _ _ _ _ r1).trans q0
      have z1 : V.cell? ⟨W1.heap.size, an * 4 + 1, none⟩ = some (.slice A9 n9 c9) := (cell_of_row _ _ _ _ _ _ r1).trans q1
      have z2 : V.cell? ⟨W1.heap.size, an * 4 + 2, none⟩ = some (.bool t9) := (cell_of_row _ _ _ _ _ _ r1).trans q2
      have z3 : V.cell? ⟨W1.heap.size, an * 4 + 3, none⟩ = some (.slice B9 m9 d9) := (cell_of_row _ _ _ _ _ _ r1).trans q3
      have y0 : V.frozen? ⟨W1.heap.size, an * 4, none⟩ = false := frozen_of_row _ _ _ _ _ r1
      have y1 : V.frozen? ⟨W1.heap.size, an * 4 + 1, none⟩ = false := frozen_of_row _ _ _ _ _ r1
      have y2 : V.frozen? ⟨W1.heap.size, an * 4 + 2, none⟩ = false := frozen_of_row _ _ _ _ _ r1
      have y3 : V.frozen? ⟨W1.heap.size, an * 4 + 3, none⟩ = false := frozen_of_row _ _ _ _ _ r1
      clear hbx r1 r3 q0 q1 q2 q3
      go_wp2_with fail
      go_roundw
      case rel =>
        have := HN4.out
        refine ⟨j + 1, by omega, by go_num, (HDS.out.near.below HVB.out).trans near_putR, ?_⟩
        refine (HRV.out.put HAN.out (HOU.out.below HVB.out)).congr (fun i _ => ?_)
        show (if i = an then pq else tot ((vals zs).take j) (i : Int)) = tot ((vals zs).take (j + 1)) (i : Int)
        rw [canon_take HCAN.out HVJ.out]
        by_cases e : i = an
        · rw [if_pos e, if_pos (by omega)]
        · rw [if_neg e, if_neg (by omega)]
      case measure => have := HN4.out; simp [intOf]; omega
    · have hi1 : ¬ (j : Int) < (n4 : Int) := by omega
      go_wp2_with fail
      refine ⟨rfl, .slice (some ⟨W1.heap.size, 0, none⟩) N N, by simp [results, Tryz.results35, go_sem], W1.heap.size, rfl, by have := HZ.out; omega, ?_, HDS.out.near.new HB4.out (fun b hb => by have := HZ.out; omega)⟩
      refine HDS.out.rats.congr (fun i hi => ?_)
      rw [List.take_of_length_le (by rw [vals_len]; have := HLEN.out; omega), HTOT.out, ← HXE.out]
      exact filter_in (kp := fun a => decide (0 ≤ a) && decide (a < (N : Int))) (by rw [Bool.and_eq_true, decide_eq_true_iff, decide_eq_true_iff]; omega)
end Go.Proofs.YtmbnlhedbedcdaaGreat.V

/- Small vectors: a row of terms just made goes in as a vector, and sums of its numbers are short. -/
namespace Go.Proofs.YtmbnlhedbedcdaaGreat.V
open Go.RowKit
open Go.Proofs.YtmbnlhedbedcdaaGreat.Q (IsQ OneQ RetQ below_on ql)

theorem lit_isv {w : World} {g k : Nat} {zs : List (TV × Rat)} (h : w.heap[g]? = some (.cells (flat (zs.map Prod.fst)).toArray 74 (0, 0))) (h4 : ∀ y ∈ zs, OneQ w y.1.s y.1.A y.1.n y.1.c y.1.t y.1.B y.1.m y.1.d y.2 ∧ -9223372036854775808 ≤ y.1.at_ ∧ y.1.at_ ≤ 9223372036854775807) (hk : ∀ y ∈ zs, ql y.2 ≤ k) : IsV w (some ⟨g, 0, none⟩) zs.length zs.length zs k := by
  refine ⟨rfl, Nat.le_refl _, row_cells (lt_of_block h) ?_, fun y hy => ⟨(h4 y hy).1.isq (hk y hy), (h4 y hy).2⟩⟩
  intro j u hj
  rw [Nat.zero_add, cell_of_row w g j _ _ _ h, ← hj]
  simp
/-- A fraction over a bottom P that is not 0 has no more digits than its top's bound and P have. -/
theorem Over.ql_le {P N k : Nat} {q : Rat} (h : Over P N q) (hP : P ≠ 0) (hp : (dig P).length ≤ k) (hN : (dig N).length ≤ k) : ql q ≤ k := by
  obtain ⟨n, h1, h2⟩ := h
  have h3 : (P : Rat) ≠ 0 := by
    intro e
    have : (P : Rat) = ((0 : Nat) : Rat) := e
    exact hP (Rat.natCast_inj.1 this)
  have e : q = Rat.divInt n (P : Int) := by
    have h4 := Q.div_mul n (d := (P : Int)) (by omega)
    rw [Rat.intCast_natCast] at h4
    have h5 : q * (P : Rat) = Rat.divInt n (P : Int) * (P : Rat) := h1.trans h4.symm
    have h6 : q * (P : Rat) * (P : Rat)⁻¹ = Rat.divInt n (P : Int) * (P : Rat) * (P : Rat)⁻¹ := by rw [h5]
    rw [Rat.mul_assoc, Rat.mul_assoc, Rat.mul_inv_cancel _ h3, Rat.mul_one, Rat.mul_one] at h6
    exact h6
  have h7 := Q.ql_div (n := n) (d := (P : Int)) (by omega)
  rw [← e] at h7
  have h8 : zl n ≤ k := Nat.le_trans (dl_le h2) hN
  have h9 : zl (P : Int) ≤ k := by show (dig ((P : Int)).natAbs).length ≤ k; rw [Int.natAbs_natCast]; exact hp
  omega
/-- Numbers over one bottom: every sum of them is short. -/
theorem short_of {P N : Nat} {l : List (Int × Rat)} (h : ∀ x ∈ l, Over P N x.2) (hP : P ≠ 0) (hp : (dig P).length ≤ 700) (hN : (dig (l.length * N)).length ≤ 700) : Short l := by
  intro l' hl hm
  refine Over.ql_le (Over.all (fun x hx => h x (hm x hx))) hP hp (Nat.le_trans (dl_le (Nat.mul_le_mul_right N hl)) hN)
/-- What has at each place what F tells, over one bottom, is short. -/
theorem short_is {P N L : Nat} {F : Int → Rat} {l : List (Int × Rat)} (h : Is F l) (hF : ∀ a, Over P N (F a)) (hL : l.length ≤ L) (hP : P ≠ 0) (hp : (dig P).length ≤ 700) (hN : (dig (L * N)).length ≤ 700) : Short l :=
  short_of (fun x hx => by rw [← canon_mem h.1 hx, h.2]; exact hF x.1) hP hp (Nat.le_trans (dl_le (Nat.mul_le_mul_right N hL)) hN)
end Go.Proofs.YtmbnlhedbedcdaaGreat.V

/- Right of a vector of one term, of none. -/
namespace Go.Proofs.YtmbnlhedbedcdaaGreat.V
open Go.RowKit
open Go.Proofs.YtmbnlhedbedcdaaGreat.Q (IsQ OneQ)

theorem rightv_nil (w : World) (N : Int) : RightV w N [] := fun j y hy => by cases hy
theorem rightv_one {w : World} {N : Int} {y : TV × Rat} : RightV w N [y] ↔ 0 ≤ y.1.at_ ∧ y.1.at_ < N ∧ y.2 ≠ 0 ∧ OneQ w y.1.s y.1.A y.1.n y.1.c y.1.t y.1.B y.1.m y.1.d y.2 := by
  constructor
  · intro h
    have h1 := h 0 y rfl
    exact ⟨h1.1, h1.2.1, h1.2.2.2.1, h1.2.2.2.2⟩
  · rintro ⟨h1, h2, h3, h4⟩ j z hz
    cases j with
    | zero =>
      obtain rfl := Option.some.inj hz
      exact ⟨h1, h2, fun _ h => absurd h (Nat.lt_irrefl 0), h3, h4⟩
    | succ j => cases hz
/-- Two terms of which the second does not stand behind the first are never right. -/
theorem rightv_two_no {w : World} {N : Int} {x y : TV × Rat} {l : List (TV × Rat)} (h : y.1.at_ ≤ x.1.at_) : ¬ RightV w N (x :: y :: l) := fun hr => by
  have h1 := (hr 1 y rfl).2.2.1 x (Nat.succ_pos 0) rfl
  omega
/-- Right tells what is so: of an answer 'v'. -/
theorem retr_is {w w' : World} {N : Int} {ys : List (TV × Rat)} {e : Ending} {b : Bool} (h : RetR w N ys e w') (hb : b = true ↔ RightV w N ys) : e = .returned (.bool b) ∧ Below w.heap.size w w' := by
  obtain ⟨v, h1, h2, h3⟩ := h
  have e : v = b := by
    cases v with
    | true => exact (hb.2 (h2.1 rfl)).symm
    | false =>
      cases b with
      | true => exact absurd (h2.2 (hb.1 rfl)) (by simp)
      | false => rfl
  exact ⟨e ▸ h1, h3⟩
end Go.Proofs.YtmbnlhedbedcdaaGreat.V
