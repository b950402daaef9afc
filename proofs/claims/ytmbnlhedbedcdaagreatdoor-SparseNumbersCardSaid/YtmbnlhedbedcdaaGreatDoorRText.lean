/- ratio: Text, Parse, walked. -/
import Derived.Test.YtmbnlhedbedcdaaGreatDoorQLow
import Derived.Test.YtmbnlhedbedcdaaGreatDoorDTop
namespace Go.Proofs.YtmbnlhedbedcdaaGreatDoor.Q
open Go.RowKit
open Go.Proofs.YtmbnlhedbedcdaaGreatDoor.D (textOf parseV Tab RetS RetPZ text_at sizeText nd_le isNumB behind signed dnum num_all dnum_lt dig_len10)

/-- What Text tells. -/
def qtext (p : Rat) : List UInt8 := if p.den = 1 then textOf p.num else textOf p.num ++ 47 :: textOf (p.den : Int)
theorem textOf_len (z : Int) (k : Nat) (hz : zl z ≤ k) (hk : 0 < k) : (textOf z).length ≤ 20 * k + 1 := by
  have h1 : (Lib.decDigits z.natAbs).length ≤ 20 * k := by
    rw [Lib.decDigits_length]
    refine nd_le (by omega) ?_
    have h2 := val_lt (dig_digs z.natAbs)
    rw [val_dig] at h2
    refine Nat.lt_of_lt_of_le h2 ?_
    refine Nat.le_trans (Nat.pow_le_pow_right B64_pos hz) ?_
    rw [Nat.pow_mul]
    exact Nat.pow_le_pow_left (by rw [B64_eq]; decide) k
  unfold textOf
  split
  · simp
  · split
    · rw [List.length_cons]; omega
    · omega
theorem cat_any {a b l : List UInt8} (h : a ++ b = l) : (⟨a.toArray⟩ ++ ⟨b.toArray⟩ : ByteArray) = ⟨l.toArray⟩ := by
  subst h
  apply ByteArray.ext
  simp
theorem text_j {w : World} {s : Bool} {A : Option Addr} {n c k : Nat} {z : Int} (h : IsZ w s A n c z k) (hk : k ≤ 1000) (htab : Tab w) (l : List UInt8) (hl : textOf z = l) :
    Calls Tryz.prog 19 #[.agg #[.bool s, .slice A n c]] w (RetS w l) := by
  obtain ⟨xs, rfl, ha, hx⟩ := h.ex
  exact text_at w s A c xs z l ha hx hl (by have := h.le; omega) h.cap htab
/-- A whole number and an error's number. -/
def RetZE (w : World) (z code : Int) (e : Ending) (w' : World) : Prop :=
  ∃ s A n c, e = .returned (.tuple #[.agg #[.bool s, .slice A n c], .int .i64 code]) ∧ OneZ w' s A n c z ∧ Below w.heap.size w w'
theorem parse_size (l : List UInt8) : zl (parseV l).1 ≤ 1000 := by
  have h0 : zl 0 ≤ 1000 := by show (dig ((0 : Int).natAbs)).length ≤ 1000; rw [show (0 : Int).natAbs = 0 from rfl, dig_zero]; exact Nat.zero_le _
  unfold parseV
  by_cases hn : isNumB (behind l) (signed l) = true
  · rw [if_pos hn]
    by_cases hl : 600 < (behind l).length
    · rw [if_pos hl]; exact h0
    · rw [if_neg hl]
      show (dig (zv (signed l) (dnum (behind l))).natAbs).length ≤ 1000
      rw [zv_natAbs]
      exact Nat.le_trans (dig_len10 (dnum_lt _ _ rfl (num_all hn))) (by omega)
  · rw [if_neg hn]; exact h0

set_option maxRecDepth 100000 in
set_option maxHeartbeats 8000000 in
theorem text_q {w : World} {s t : Bool} {A B : Option Addr} {n c m d k : Nat} {p : Rat} (h1 : IsQ w s A n c t B m d p k) (hk : 1 ≤ k) (hk2 : k ≤ 700) (htab : Tab w) (l : List UInt8) (hl : qtext p = l) :
    Calls Tryz.prog 6 #[.agg #[.bool s, .slice A n c, .bool t, .slice B m d]] w (RetS w l) := by
  have HW : Hid (Below w.heap.size w (w.alloc (.cells #[.bool s, .slice A n c, .bool t, .slice B m d] 26))) := (Below.refl _ _).alloc (Nat.le_refl _) _
  have HI : Hid (Qbx (w.alloc (.cells #[.bool s, .slice A n c, .bool t, .slice B m d] 26)) w.heap.size s A n c t B m d) := Qbx.new _ _ rfl
  have HP := Lib.hid (h1.alloc (.cells #[.bool s, .slice A n c, .bool t, .slice B m d] 26))
  have HT := Lib.hid htab
  have hql := h1.ql hk
  have h2 := num_le p
  have h3 := den_le p
  have h4 := den_zl p
  obtain ⟨X, hX⟩ : ∃ X, textOf p.num = X := ⟨_, rfl⟩
  obtain ⟨Y, hY⟩ : ∃ Y, textOf (p.den : Int) = Y := ⟨_, rfl⟩
  have hXl := textOf_len p.num k (by omega) (by omega)
  have hYl := textOf_len (p.den : Int) k (by omega) (by omega)
  rw [hX] at hXl
  rw [hY] at hYl
  have HX := Lib.hid hX
  have HY := Lib.hid hY
  have HNL : Hid (zl p.num ≤ 1000) := by show _ ≤ _; omega
  have HDL : Hid (zl (p.den : Int) ≤ 1000) := by show _ ≤ _; omega
  unfold qtext at hl
  rw [hX, hY] at hl
  by_cases hd : p.den = 1
  · rw [if_pos hd] at hl
    have HM : Hid (∀ {w : World} {s t : Bool} {A B : Option Addr} {n c m d : Nat}, OneQ w s A n c t B m d p → ((m : Int) == 0) = true) := by
      intro w s t A B n c m d h
      have := h.em
      unfold dden at this
      rw [if_pos hd] at this
      rw [this]; rfl
    have HL := Lib.hid hl
    clear h1 htab hql h2 h3 h4 hX hY hXl hYl hl hd
    go_enter Tryz.func6, Tryz.ntmps6
    go_wp2_with fail
    refine (norm_q HP.out hk (by omega)).mono ?_
    rintro e w1 ⟨s1, A1, n1, c1, t1, B1, m1, d1, rfl, h1, hb1⟩
    have hm0 := HM.out h1
    have HW1 := Lib.hid (below_put4 (s' := s1) (A' := A1) (n' := n1) (c' := c1) (t' := t1) (B' := B1) (m' := m1) (d' := d1) (below_on HW.out hb1) (Nat.le_refl w.heap.size))
    have HI1 := Lib.hid (HI.out.below hb1)
    have HN1 := Lib.hid (h1.top.on4 (s' := s1) (A' := A1) (n' := n1) (c' := c1) (t' := t1) (B' := B1) (m' := m1) (d' := d1) HI1.out.bx)
    clear h1 hb1
    have o0 := HI1.out.c0
    have o1 := HI1.out.c1
    have o2 := HI1.out.c2
    have o3 := HI1.out.c3
    have f0 := HI1.out.f 0
    have f1 := HI1.out.f 1
    have f2 := HI1.out.f 2
    have f3 := HI1.out.f 3
    go_wp2_with fail
    refine (text_j (HN1.out.isz HNL.out) (by omega) (HT.out.below HW1.out) X HX.out).mono ?_
    rintro e w2 ⟨rfl, hb2⟩
    have HW2 := Lib.hid (below_on HW1.out hb2)
    clear hb2
    go_wp2_with fail
    go_ret
    rw [HL.out]
    exact ⟨rfl, HW2.out⟩
  · rw [if_neg hd] at hl
    have HM : Hid (∀ {w : World} {s t : Bool} {A B : Option Addr} {n c m d : Nat}, OneQ w s A n c t B m d p → ((m : Int) == 0) = false ∧ OneZ w t B m d (p.den : Int)) := by
      intro w s t A B n c m d h
      have e := h.em
      unfold dden at e
      rw [if_neg hd] at e
      have hne : (dig p.den).length ≠ 0 := fun h2 => p.den_nz (dig_nil_iff.1 h2)
      refine ⟨by rw [beq_eq_false_iff_ne]; omega, ?_, by rw [e, den_zl], ?_, h.cap2⟩
      · rw [h.et]; unfold zneg; exact (decide_eq_false (by omega)).symm
      · have h5 := h.den
        unfold dden at h5
        rw [if_neg hd] at h5
        rw [Int.natAbs_natCast]; exact h5
    obtain ⟨U, hU⟩ : ∃ U, X ++ [47] = U := ⟨_, rfl⟩
    have hUl : U.length = X.length + 1 := by rw [← hU]; simp
    have hUY : U ++ Y = l := by rw [← hl, ← hU]; simp
    have c1 := cat_any hU
    have c2 := cat_any hUY
    have b1 : ¬ (9223372036854775807 < X.length + 1) := by omega
    have b2 : ¬ (9223372036854775807 < U.length + Y.length) := by omega
    clear h1 htab hql h2 h3 h4 hX hY hXl hYl hl hd hU hUl hUY
    go_enter Tryz.func6, Tryz.ntmps6
    go_wp2_with fail
    refine (norm_q HP.out hk (by omega)).mono ?_
    rintro e w1 ⟨s1, A1, n1, c1', t1, B1, m1, d1, rfl, h1, hb1⟩
    obtain ⟨hm0, hden⟩ := HM.out h1
    have HW1 := Lib.hid (below_put4 (s' := s1) (A' := A1) (n' := n1) (c' := c1') (t' := t1) (B' := B1) (m' := m1) (d' := d1) (below_on HW.out hb1) (Nat.le_refl w.heap.size))
    have HI1 := Lib.hid (HI.out.below hb1)
    have HN1 := Lib.hid (h1.top.on4 (s' := s1) (A' := A1) (n' := n1) (c' := c1') (t' := t1) (B' := B1) (m' := m1) (d' := d1) HI1.out.bx)
    have HD1 := Lib.hid (hden.on4 (s' := s1) (A' := A1) (n' := n1) (c' := c1') (t' := t1) (B' := B1) (m' := m1) (d' := d1) HI1.out.bx)
    have HJ1 := Lib.hid (HI1.out.put (s' := s1) (A' := A1) (n' := n1) (c' := c1') (t' := t1) (B' := B1) (m' := m1) (d' := d1))
    clear h1 hden hb1
    have o0 := HI1.out.c0
    have o1 := HI1.out.c1
    have o2 := HI1.out.c2
    have o3 := HI1.out.c3
    have f0 := HI1.out.f 0
    have f1 := HI1.out.f 1
    have f2 := HI1.out.f 2
    have f3 := HI1.out.f 3
    go_wp2_with fail
    go_region_held3 (fun V => V.cell? ⟨w.heap.size, 0, none⟩ = some (.bool s1) ∧ V.cell? ⟨w.heap.size, 1, none⟩ = some (.slice A1 n1 c1') ∧ V.cell? ⟨w.heap.size, 2, none⟩ = some (.bool t1) ∧ V.cell? ⟨w.heap.size, 3, none⟩ = some (.slice B1 m1 d1))
     (first | (with_reducible exact ⟨HJ3.out.c0, HJ3.out.c1, HJ3.out.c2, HJ3.out.c3⟩) | (with_reducible exact ⟨HJ2.out.c0, HJ2.out.c1, HJ2.out.c2, HJ2.out.c3⟩) | (with_reducible exact ⟨HJ1.out.drew.c0, HJ1.out.drew.c1, HJ1.out.drew.c2, HJ1.out.drew.c3⟩))
     (first
      | (go_at_call 19; (with_reducible refine (text_j (HD2.out.isz HDL.out) (by omega) (HT.out.below HW2.out) Y HY.out).mono ?_); rintro e w3 ⟨rfl, hb3⟩; have HW3 := Lib.hid (below_on HW2.out hb3); have HJ3 := Lib.hid (HJ2.out.below hb3))
      | (go_at_call 19; (with_reducible refine (text_j (HN1.out.drew.isz HNL.out) (by omega) (HT.out.below HW1.out.drew) X HX.out).mono ?_); rintro e w2 ⟨rfl, hb2⟩; have HW2 := Lib.hid (below_on HW1.out.drew hb2); have HJ2 := Lib.hid (HJ1.out.drew.below hb2); have HD2 := Lib.hid (HD1.out.drew.below hb2)))
    all_goals
      go_wp2_with fail
      go_ret
      exact ⟨rfl, HW3.out⟩

end Go.Proofs.YtmbnlhedbedcdaaGreatDoor.Q