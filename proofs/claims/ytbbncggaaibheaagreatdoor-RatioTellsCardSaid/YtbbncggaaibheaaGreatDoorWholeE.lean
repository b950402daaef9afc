/- whole: Add, Sub. -/
import Derived.Test.YtbbncggaaibheaaGreatDoorWholeC
namespace Go.Proofs.YtbbncggaaibheaaGreatDoor
open Go.RowKit

/-- What stands behind Add's first region: two signs, the structs, the result's. -/
structure AddAt (w : World) (s t : Bool) (A B : Option Addr) (n m c d p q : Nat) (W : World) : Prop where
  c4 : C4 w.heap.size (.bool s) (.slice A n c) (.bool t) (.slice B m d) W
  sp : Sbx W p s
  sq : Sbx W q t
  res : Ibx W (w.heap.size + 1 + 1) false none 0 0
  bel : Below w.heap.size w W

theorem zadd_same {s : Bool} {a b : Nat} : zv s (a + b) = zv s a + zv s b := by cases s <;> simp [zv] <;> omega
theorem zadd_less {s t : Bool} {a b : Nat} (h : s ≠ t) (hl : a ≤ b) : zv t (b - a) = zv s a + zv t b := by
  cases s <;> cases t <;> first | exact absurd rfl h | (simp [zv]; omega)
theorem zadd_more {s t : Bool} {a b : Nat} (h : s ≠ t) (hl : b ≤ a) : zv s (a - b) = zv s a + zv t b := by
  cases s <;> cases t <;> first | exact absurd rfl h | (simp [zv]; omega)

/-- The last region of Add, by whichever way: a call that tells the size, number, the store. -/
theorem add_last (w W W3 : World) (s t : Bool) (A B : Option Addr) (n k c d p q : Nat) (sg : Bool) (r c3 m : Nat) (A3 : Option Addr) (h : AddAt w s t A B n k c d p q W) (hr : Sbx W r sg) (hb : Below W.heap.size W W3) (hA3 : Num W3 A3 (dig m)) (hn : (dig m).length ≤ 8589934592) (hc3 : (dig m).length ≤ c3) :
    Calls Tryz.prog 64 #[.func (.func 119) #[] #[.pointer (some ⟨r, 0, none⟩)], .slice A3 (dig m).length c3] W3
      fun e w4 => e = .returned (.agg #[.bool (zneg (zv sg m)), .slice A3 (dig m).length c3]) ∧ Num w4 A3 (dig m) ∧ Ibx w4 (w.heap.size + 1 + 1) false none 0 0 ∧ Below w.heap.size w w4 ∧ Below W3.heap.size W3 w4 :=
  number_at w W W3 r (w.heap.size + 1 + 1) c3 m sg false A3 none 0 0 hr h.res h.bel hb hA3 hn hc3

set_option maxHeartbeats 4000000 in
theorem zadd_any (w : World) (s t : Bool) (A B : Option Addr) (c d : Nat) (xs ys : List Nat) (y z : Int) (ha : Num w A xs) (hb : Num w B ys) (hx : zv s (val xs) = y) (hy : zv t (val ys) = z) (hn : xs.length ≤ 400000) (hm : ys.length ≤ 400000) (hc : xs.length ≤ c) (hd : ys.length ≤ d) :
    Calls Tryz.prog 74 #[.agg #[.bool s, .slice A xs.length c], .agg #[.bool t, .slice B ys.length d]] w (RetZ w (y + z)) := by
  have hd1 := dig_length_val ha.1
  have hd2 := dig_length_val hb.1
  have HA := Lib.hid ha
  have HB := Lib.hid hb
  obtain ⟨a, hva⟩ : ∃ a, val xs = a := ⟨_, rfl⟩
  obtain ⟨b, hvb⟩ : ∃ b, val ys = b := ⟨_, rfl⟩
  rw [hva] at hd1 hx
  rw [hvb] at hd2 hy
  have HX := Lib.hid hx
  have HY := Lib.hid hy
  have HVA := Lib.hid hva
  have HVB := Lib.hid hvb
  clear ha hb hx hy hva hvb
  go_enter Tryz.func74, Tryz.ntmps74
  go_upto_region 1 with fail
  go_cut [5, 6] (fun s5 s6 wx => ∃ p q : Nat, s5 = .func (.func 119) #[] #[.pointer (some ⟨p, 0, none⟩)] ∧ s6 = .func (.func 119) #[] #[.pointer (some ⟨q, 0, none⟩)] ∧ AddAt w s t A B xs.length ys.length c d p q wx)
  case first =>
    go_region_held3 (fun W => W.cell? ⟨w.heap.size, 0, none⟩ = some (.bool s) ∧ W.cell? ⟨w.heap.size, 1, none⟩ = some (.slice A xs.length c) ∧ W.cell? ⟨w.heap.size + 1, 0, none⟩ = some (.bool t) ∧ W.cell? ⟨w.heap.size + 1, 1, none⟩ = some (.slice B ys.length d))
     (first | exact C4.alloc (by assumption) _ | exact C4.drew ((C4.base _ _ _ _ _ _ _).alloc _) | assumption)
     (first | (go_at_call 65; (with_reducible refine (signOf_any _ _).mono ?_); rintro e w1 ⟨rfl, rfl⟩))
    all_goals
      go_wp2_with fail
      go_meet
      case rel =>
        refine ⟨_, _, rfl, rfl, ⟨?_, ?_, ?_, ?_, ?_⟩⟩
        · exact ((C4.drew ((C4.base _ _ _ _ _ _ _).alloc _)).alloc _).alloc _
        · repeat (first | exact Sbx.new' _ _ _ (by simp) | (with_reducible refine Sbx.drew ?_) | (with_reducible refine Sbx.alloc ?_ _))
        · repeat (first | exact Sbx.new' _ _ _ (by simp) | (with_reducible refine Sbx.drew ?_) | (with_reducible refine Sbx.alloc ?_ _))
        · repeat (first | exact Ibx.new' _ _ _ _ _ _ (by simp) | (with_reducible refine Ibx.drew ?_) | (with_reducible refine Ibx.alloc ?_ _))
        · repeat (first | exact Below.refl _ _ | (with_reducible refine Below.drew ?_) | (with_reducible refine Below.alloc ?_ (by first | exact Nat.le_refl _ | (simp; done) | (simp; omega)) _))
  case rest =>
    obtain ⟨p, q, rfl, rfl, hW⟩ := hcut
    have HW := Lib.hid hW
    obtain ⟨k0, k1, k2, k3⟩ := hW.c4
    have HNA := Lib.hid (HA.out.below hW.bel)
    have HNB := Lib.hid (HB.out.below hW.bel)
    clear hW
    by_cases hst : s = t
    · subst hst
      have hda := dl_add a b
      have HADD := Lib.hid (add_v wc A B c d xs ys a b HNA.out HNB.out HVA.out HVB.out (by omega) (by omega) hc hd)
      have HZ : Hid (zv s (a + b) = y + z) := by show _ = _; rw [← HX.out, ← HY.out]; exact zadd_same
      have hss : (s == s) = true := by simp
      go_wp2_with fail
      refine HADD.out.mono ?_
      rintro e w3 ⟨A3, c3, rfl, hc3, h3, hb3⟩
      have HN := Lib.hid (add_last w wc w3 s s A B _ _ c d p q s p c3 (a + b) A3 HW.out HW.out.sp hb3 h3 (by omega) hc3)
      clear h3 hb3
      go_wp2_with fail
      refine HN.out.mono ?_
      rintro e w4 ⟨rfl, n4, I4, hb4, -⟩
      have c0 := I4.c0
      have c1 := I4.c1
      have f0 := I4.f 0
      have f1 := I4.f 1
      have N4 := Lib.hid n4
      have J4 := Lib.hid I4
      have B4 := Lib.hid hb4
      clear n4 I4 hb4 HN
      go_wp2_with fail
      refine bodyPost_ret (v := .agg #[.bool (zneg (zv s (a + b))), .slice A3 (dig (a + b)).length c3]) (by simp [results, Tryz.results74, go_sem, c0, c1]) rfl ?_
      exact retz_of HZ.out hc3 N4.out J4.out (by omega) B4.out _ _ rfl
    · have hss : (s == t) = false := by simp [hst]
      rcases Nat.lt_or_ge a b with hab | hab
      · have hcv := cmpv_lt hab
        have HCMP := cmp_v wc A B c d xs ys a b HNA.out HNB.out HVA.out HVB.out (by omega) (by omega) hc hd
        rw [hcv] at HCMP
        have HC := Lib.hid HCMP
        have HZ : Hid (zv t (b - a) = y + z) := by show _ = _; rw [← HX.out, ← HY.out]; exact zadd_less hst (Nat.le_of_lt hab)
        have hdl : (dig (b - a)).length ≤ max xs.length ys.length := by
          have h1 : (dig (b - a)).length ≤ (dig (max a b)).length := dl_le (by omega)
          rcases Nat.le_total a b with h2 | h2
          · rw [Nat.max_eq_right h2] at h1; omega
          · rw [Nat.max_eq_left h2] at h1; omega
        clear HCMP hcv
        go_wp2_with fail
        refine HC.out.mono ?_
        rintro e w2 ⟨rfl, hb2⟩
        have HB2 := Lib.hid hb2
        have k1' : w2.cell? ⟨w.heap.size, 1, none⟩ = some (.slice A xs.length c) := (hb2.cell (block_lt_of_cell k1)).trans k1
        have k3' : w2.cell? ⟨w.heap.size + 1, 1, none⟩ = some (.slice B ys.length d) := (hb2.cell (block_lt_of_cell k3)).trans k3
        have HSUB := Lib.hid (sub_v w2 B A d c ys xs b a (HNB.out.below HB2.out) (HNA.out.below HB2.out) HVB.out HVA.out (by omega) (by omega) hd hc)
        clear hb2
        go_wp2_with fail
        refine HSUB.out.mono ?_
        rintro e w3 ⟨A3, c3, rfl, hc3, h3, hb3⟩
        have HN := Lib.hid (add_last w wc w3 s t A B _ _ c d p q t q c3 (b - a) A3 HW.out HW.out.sq (HB2.out.trans (hb3.mono HB2.out.size)) h3 (by omega) hc3)
        clear h3 hb3
        go_wp2_with fail
        refine HN.out.mono ?_
        rintro e w4 ⟨rfl, n4, I4, hb4, -⟩
        have c0 := I4.c0
        have c1 := I4.c1
        have f0 := I4.f 0
        have f1 := I4.f 1
        have N4 := Lib.hid n4
        have J4 := Lib.hid I4
        have B4 := Lib.hid hb4
        clear n4 I4 hb4 HN
        go_wp2_with fail
        refine bodyPost_ret (v := .agg #[.bool (zneg (zv t (b - a))), .slice A3 (dig (b - a)).length c3]) (by simp [results, Tryz.results74, go_sem, c0, c1]) rfl ?_
        exact retz_of HZ.out hc3 N4.out J4.out (by omega) B4.out _ _ rfl
      · obtain ⟨v, hcv, hv0⟩ : ∃ v : Int, cmpv a b = v ∧ ¬ v < 0 := by
          rcases Nat.lt_or_ge b a with h | h
          · exact ⟨1, cmpv_gt h, by omega⟩
          · exact ⟨0, cmpv_eq (by omega), by omega⟩
        have HCMP := cmp_v wc A B c d xs ys a b HNA.out HNB.out HVA.out HVB.out (by omega) (by omega) hc hd
        rw [hcv] at HCMP
        have HC := Lib.hid HCMP
        have HZ : Hid (zv s (a - b) = y + z) := by show _ = _; rw [← HX.out, ← HY.out]; exact zadd_more hst hab
        have hdl : (dig (a - b)).length ≤ max xs.length ys.length := by
          have h1 : (dig (a - b)).length ≤ (dig (max a b)).length := dl_le (by omega)
          rcases Nat.le_total a b with h2 | h2
          · rw [Nat.max_eq_right h2] at h1; omega
          · rw [Nat.max_eq_left h2] at h1; omega
        clear HCMP hcv
        go_wp2_with fail
        refine HC.out.mono ?_
        rintro e w2 ⟨rfl, hb2⟩
        have HB2 := Lib.hid hb2
        have k1' : w2.cell? ⟨w.heap.size, 1, none⟩ = some (.slice A xs.length c) := (hb2.cell (block_lt_of_cell k1)).trans k1
        have k3' : w2.cell? ⟨w.heap.size + 1, 1, none⟩ = some (.slice B ys.length d) := (hb2.cell (block_lt_of_cell k3)).trans k3
        have HSUB := Lib.hid (sub_v w2 A B c d xs ys a b (HNA.out.below HB2.out) (HNB.out.below HB2.out) HVA.out HVB.out (by omega) (by omega) hc hd)
        clear hb2
        go_wp2_with fail
        refine HSUB.out.mono ?_
        rintro e w3 ⟨A3, c3, rfl, hc3, h3, hb3⟩
        have HN := Lib.hid (add_last w wc w3 s t A B _ _ c d p q s p c3 (a - b) A3 HW.out HW.out.sp (HB2.out.trans (hb3.mono HB2.out.size)) h3 (by omega) hc3)
        clear h3 hb3
        go_wp2_with fail
        refine HN.out.mono ?_
        rintro e w4 ⟨rfl, n4, I4, hb4, -⟩
        have c0 := I4.c0
        have c1 := I4.c1
        have f0 := I4.f 0
        have f1 := I4.f 1
        have N4 := Lib.hid n4
        have J4 := Lib.hid I4
        have B4 := Lib.hid hb4
        clear n4 I4 hb4 HN
        go_wp2_with fail
        refine bodyPost_ret (v := .agg #[.bool (zneg (zv s (a - b))), .slice A3 (dig (a - b)).length c3]) (by simp [results, Tryz.results74, go_sem, c0, c1]) rfl ?_
        exact retz_of HZ.out hc3 N4.out J4.out (by omega) B4.out _ _ rfl

set_option maxHeartbeats 2000000 in
theorem zsub_any (w : World) (s t : Bool) (A B : Option Addr) (c d : Nat) (xs ys : List Nat) (y z : Int) (ha : Num w A xs) (hb : Num w B ys) (hx : zv s (val xs) = y) (hy : zv t (val ys) = z) (hn : xs.length ≤ 400000) (hm : ys.length ≤ 400000) (hc : xs.length ≤ c) (hd : ys.length ≤ d) :
    Calls Tryz.prog 91 #[.agg #[.bool s, .slice A xs.length c], .agg #[.bool t, .slice B ys.length d]] w (RetZ w (y - z)) := by
  have HA := Lib.hid ha
  have HB := Lib.hid hb
  have hz : zv (!t) (val ys) = -z := by rw [← hy]; cases t <;> simp [zv]
  have HX := Lib.hid hx
  have HZ := Lib.hid hz
  have HYZ : Hid (y + -z = y - z) := by show _ = _; omega
  have HADD := Lib.hid (fun o1 o2 o3 => zadd_any (((w.alloc o1).alloc o2).alloc o3) s (!t) A B c d xs ys y (-z) (((ha.alloc _).alloc _).alloc _) (((hb.alloc _).alloc _).alloc _) hx hz hn hm hc hd)
  rw [HYZ.out] at HADD
  clear ha hb hx hy hz HX HZ HYZ HA HB
  go_enter Tryz.func91, Tryz.ntmps91
  go_wp2_with fail
  have I1 : Ibx (((w.alloc (.cells #[.bool s, .slice A xs.length c] 25)).alloc (.cells #[.bool t, .slice B ys.length d] 25)).alloc (.cells #[.bool false, .slice none 0 0] 25)) (w.heap.size + 1 + 1) false none 0 0 := Ibx.new' _ _ _ _ _ _ (by simp)
  have W1 : Below w.heap.size w (((w.alloc (.cells #[.bool s, .slice A xs.length c] 25)).alloc (.cells #[.bool t, .slice B ys.length d] 25)).alloc (.cells #[.bool false, .slice none 0 0] 25)) := (((Below.refl _ _).alloc (Nat.le_refl _) _).alloc (by simp) _).alloc (by simp; omega) _
  have HI := Lib.hid I1
  have HW := Lib.hid W1
  clear I1 W1
  refine (HADD.out _ _ _).mono ?_
  rintro e w4 ⟨A3, c3, rfl, hc3, h3, hb3⟩
  have I4 := HI.out.below hb3
  have c0 := I4.c0
  have c1 := I4.c1
  have f0 := I4.f 0
  have f1 := I4.f 1
  have J4 := Lib.hid I4
  have N4 := Lib.hid h3
  have B4 := Lib.hid (HW.out.trans (hb3.mono HW.out.size))
  clear I4 h3 hb3 HI HW HADD
  go_wp2_with fail
  refine bodyPost_ret (v := .agg #[.bool (zneg (y - z)), .slice A3 (dig (y - z).natAbs).length c3]) (by simp [results, Tryz.results91, go_sem, c0, c1]) rfl ?_
  have h := retz_of (s := zneg (y - z)) (m := (y - z).natAbs) (zv_zneg _) hc3 N4.out J4.out (by omega) B4.out (.bool (zneg (y - z))) (.slice A3 (dig (y - z).natAbs).length c3) rfl
  rw [zv_zneg] at h
  exact h
end Go.Proofs.YtbbncggaaibheaaGreatDoor
