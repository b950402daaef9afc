/- The document's answer for whole: Make. -/
import Derived.Test.YtginajegbknfhaaDoorEAll
import Derived.Test.YtginajegbknfhaaDoorWholeI
namespace Go.Proofs.YtginajegbknfhaaDoor.W
open Go.RowKit

theorem zneg_zv {s : Bool} {m : Nat} (h : m ≠ 0) : zneg (zv s m) = s := by
  apply zneg_of
  cases s <;> simp [zv] <;> omega

set_option maxHeartbeats 2000000 in
theorem make_any (w : World) (s : Bool) (A : Option Addr) (c : Nat) (xs : List Nat) (z : Int) (ha : Num w A xs) (hx : zv s (val xs) = z) (hn : xs.length ≤ 100000) :
    Calls Tryd.prog 37 #[.bool s, .slice A xs.length c] w (RetZ w z) := by
  have hl1 := E.dl_small ha.1
  have H1 := Lib.hid (fun o => E.small_any (w.alloc o) A c xs (ha.alloc o) (by omega))
  obtain ⟨m, hva⟩ : ∃ m, val xs = m := ⟨_, rfl⟩
  rw [hva] at hl1 H1 hx
  clear ha hva
  have HX := Lib.hid hx
  have HL := Lib.hid (fun W A' c' (h : E.Num W A' (E.dig m)) (hc : (E.dig m).length ≤ c') => E.large_any W A' c' (E.dig m) h (by omega) hc)
  rw [E.val_dig] at HL
  have HW : Hid (Below w.heap.size w (w.alloc (.cells #[.bool false, .slice none 0 0] 25))) := (Below.refl _ _).alloc (Nat.le_refl _) _
  have HI : Hid (Ibx (w.alloc (.cells #[.bool false, .slice none 0 0] 25)) w.heap.size false none 0 0) := Ibx.new' _ _ _ _ _ _ rfl
  clear hx
  by_cases h0 : m = 0
  · have hz : (((dig m).length : Int) == 0) = true := by rw [h0, dig_zero]; rfl
    have HS : Hid (zneg (zv s m) = false) := by show _ = _; rw [h0, zv_zero]; rfl
    clear h0
    go_enter Tryd.func37, Tryd.ntmps37
    go_wp2_with fail
    refine (H1.out _).mono ?_
    rintro e w1 ⟨A1, c1, rfl, hc1, h1, hb1⟩
    have HN1 := Lib.hid h1
    have HW1 := Lib.hid (HW.out.trans (hb1.mono HW.out.size))
    have HI1 := Lib.hid (HI.out.below hb1)
    clear h1 hb1 H1 HW HI
    go_wp2_with fail
    refine (HL.out w1 A1 c1 HN1.out hc1).mono ?_
    rintro e w2 ⟨A2, c2, rfl, hc2, h2, hb2⟩
    have HN2 := Lib.hid h2
    have HW2 := Lib.hid (HW1.out.trans (hb2.mono HW1.out.size))
    have I2 := HI1.out.below hb2
    have HI2 := Lib.hid I2
    have c0 := I2.c0
    have c1' := I2.c1
    have f0 := I2.f 0
    have f1 := I2.f 1
    clear h2 hb2 HN1 HW1 HI1 HL I2
    go_wp2_with fail
    refine bodyPost_ret (v := .agg #[.bool false, .slice A2 (dig m).length c2]) (by simp [results, Tryd.results37, go_sem, c0, c1']) rfl ?_
    have h := retz_of HX.out hc2 HN2.out HI2.out (Nat.le_refl _) HW2.out (.bool false) (.slice A2 (dig m).length c2) rfl
    rw [HS.out] at h
    exact h
  · have hz : (((dig m).length : Int) == 0) = false := by
      rw [beq_eq_false_iff_ne]
      intro h
      exact h0 (dig_nil_iff.1 (by omega))
    have HS : Hid (zneg (zv s m) = s) := zneg_zv h0
    clear h0
    go_enter Tryd.func37, Tryd.ntmps37
    go_wp2_with fail
    refine (H1.out _).mono ?_
    rintro e w1 ⟨A1, c1, rfl, hc1, h1, hb1⟩
    have HN1 := Lib.hid h1
    have HW1 := Lib.hid (HW.out.trans (hb1.mono HW.out.size))
    have HI1 := Lib.hid (HI.out.below hb1)
    clear h1 hb1 H1 HW HI
    go_wp2_with fail
    refine (HL.out w1 A1 c1 HN1.out hc1).mono ?_
    rintro e w2 ⟨A2, c2, rfl, hc2, h2, hb2⟩
    have HN2 := Lib.hid h2
    have HW2 := Lib.hid (HW1.out.trans (hb2.mono HW1.out.size))
    have I2 := HI1.out.below hb2
    have HI2 := Lib.hid I2
    have c0 := I2.c0
    have c1' := I2.c1
    have f0 := I2.f 0
    have f1 := I2.f 1
    clear h2 hb2 HN1 HW1 HI1 HL I2
    go_wp2_with fail
    refine bodyPost_ret (v := .agg #[.bool s, .slice A2 (dig m).length c2]) (by simp [results, Tryd.results37, go_sem, c0, c1']) rfl ?_
    have h := retz_of HX.out hc2 HN2.out HI2.out (Nat.le_refl _) HW2.out (.bool s) (.slice A2 (dig m).length c2) rfl
    rw [HS.out] at h
    exact h
end Go.Proofs.YtginajegbknfhaaDoor.W
