/- digits' law: awake. -/
import Derived.Test.YtginajegbknfhaaDoorDMath
import Derived.Test.YtginajegbknfhaaDoorAwake
namespace Go.Proofs.YtginajegbknfhaaDoor.D
open Go.RowKit

theorem parse_at (w : World) (l : List UInt8) (z code : Int) (hz : parseV l = (z, code)) (hl : l.length ≤ 1000000) :
    Calls Tryd.prog 6 #[.string ⟨l.toArray⟩] w (RetPZ w z code) := parse_any w l z code hz hl
theorem text_at (w : World) (s : Bool) (A : Option Addr) (c : Nat) (xs : List Nat) (z : Int) (l : List UInt8) (ha : Num w A xs) (hx : zv s (val xs) = z) (hl : textOf z = l) (hn : xs.length ≤ 1000) (hc : xs.length ≤ c) (htab : Tab w) :
    Calls Tryd.prog 8 #[.agg #[.bool s, .slice A xs.length c]] w (RetS w l) := by subst hl; exact text_any w s A c xs z ha hx hn hc htab
theorem small_at (w : World) (s : Bool) (A : Option Addr) (c : Nat) (xs : List Nat) (z : Int) (k : Int) (b : Bool) (ha : Num w A xs) (hx : zv s (val xs) = z) (hk : smallv z = k) (hb : smallb z = b) (hn : xs.length ≤ 1000) (hc : xs.length ≤ c) :
    Calls Tryd.prog 34 #[.agg #[.bool s, .slice A xs.length c]] w (fun e w' => e = .returned (.tuple #[.int .i64 k, .bool b]) ∧ Below w.heap.size w w') := by
  subst hk; subst hb; exact small_any w s A c xs z ha hx (by omega) hc
theorem zl_le {z : Int} (h1 : -9223372036854775808 ≤ z) (h2 : z ≤ 9223372036854775807) : (dig z.natAbs).length ≤ 1000 := Nat.le_trans (zl_small h1 h2) (by omega)
set_option maxRecDepth 100000 in
set_option maxHeartbeats 4000000 in
theorem awake_any (w : World) (htab : Tab w) : Calls Tryd.prog 9 #[] w (RetB w true) := by
  have HTAB := Lib.hid htab
  obtain ⟨z, hz⟩ : ∃ z : Int, z = -12 := ⟨_, rfl⟩
  obtain ⟨y, hy⟩ : ∃ y : Int, y = -5 := ⟨_, rfl⟩
  have t12 : Hid (parseV [45, 49, 50] = (z, 0)) := by show _ = _; rw [hz]; kernel_rfl
  have tbig : Hid (textOf 18446744073709551616 = [49, 56, 52, 52, 54, 55, 52, 52, 48, 55, 51, 55, 48, 57, 53, 53, 49, 54, 49, 54]) := text_parse (by kernel_rfl)
  have tm5 : Hid (textOf y = [45, 53]) := by show _ = _; rw [hy]; exact text_parse (by kernel_rfl)
  have t0 : Hid (textOf 0 = [48]) := rfl
  have hzl : Hid ((dig z.natAbs).length ≤ 1000) := by show _ ≤ _; rw [hz]; exact zl_le (by omega) (by omega)
  have hyl : Hid ((dig y.natAbs).length ≤ 1000) := by show _ ≤ _; rw [hy]; exact zl_le (by omega) (by omega)
  have hsv : Hid (smallv z = -12) := by show _ = _; rw [hz]; rfl
  have hsb : Hid (smallb z = true) := by show _ = _; rw [hz]; rfl
  have hO := Lib.hid (fun W => of_z W (-5) y hy.symm (by omega) (by omega))
  have hv01 : Hid (zv false (val [0, 1]) = 18446744073709551616) := by show _ = _; kernel_rfl
  clear htab hz hy
  go_enter Tryd.func9, Tryd.ntmps9
  go_wp2_with fail
  refine (parse_at _ [45, 49, 50] z 0 t12.out (by simp)).mono ?_
  rintro e w1 ⟨A1, c1, rfl, hc1, h1, hb1⟩
  have HB2 : Hid (Below w.heap.size w (w1.alloc (.cells #[.bool (zneg z), .slice A1 (dig z.natAbs).length c1] 25))) := hb1.alloc hb1.size _
  have HN2 : Hid (Num (w1.alloc (.cells #[.bool (zneg z), .slice A1 (dig z.natAbs).length c1] 25)) A1 (dig z.natAbs)) := h1.alloc _
  have HT2 := Lib.hid (HTAB.out.below HB2.out)
  clear h1 hb1
  go_wp2_with fail
  refine (small_at _ (zneg z) A1 c1 (dig z.natAbs) z (-12) true HN2.out (zv_dig z) hsv.out hsb.out hzl.out hc1).mono ?_
  rintro e w3 ⟨rfl, hb3⟩
  have HB3 := Lib.hid (HB2.out.trans (hb3.mono HB2.out.size))
  have HT3 := Lib.hid (HTAB.out.below HB3.out)
  clear hb3
  go_wp2_with fail
  refine (text_at _ false (some ⟨w3.heap.size, 0, none⟩) 2 [0, 1] 18446744073709551616 _ (Num.lit w3 [0, 1] (Digs.cons (by rw [B64_eq]; decide) (Digs.cons (by rw [B64_eq]; decide) Digs.nil))) hv01.out tbig.out (by simp) (by simp) (HT3.out.alloc _)).mono ?_
  rintro e w4 ⟨rfl, hb4⟩
  have HB4 := Lib.hid ((HB3.out.alloc HB3.out.size _).trans (hb4.mono (by simp; have := HB3.out.size; omega)))
  have HT4 := Lib.hid (HTAB.out.below HB4.out)
  clear hb4
  go_wp2_with fail
  refine (hO.out _).mono ?_
  rintro e w5 ⟨A5, c5, rfl, hc5, h5, hb5⟩
  have HB5 := Lib.hid (HB4.out.trans (hb5.mono HB4.out.size))
  have HT5 := Lib.hid (HTAB.out.below HB5.out)
  have HN5 := Lib.hid h5
  clear h5 hb5
  go_wp2_with fail
  refine (text_at _ (zneg y) A5 c5 (dig y.natAbs) y _ HN5.out (zv_dig y) tm5.out hyl.out hc5 HT5.out).mono ?_
  rintro e w6 ⟨rfl, hb6⟩
  have HB6 := Lib.hid (HB5.out.trans (hb6.mono HB5.out.size))
  have HT6 := Lib.hid (HTAB.out.below HB6.out)
  clear hb6
  go_wp2_with fail
  refine (text_at _ false none 0 [] 0 _ (Num.nil _ _) rfl t0.out (by simp) (by simp) HT6.out).mono ?_
  rintro e w7 ⟨rfl, hb7⟩
  have HB7 := Lib.hid (HB6.out.trans (hb7.mono HB6.out.size))
  clear hb7
  go_wp2_with fail
  go_ret
  exact ⟨rfl, HB7.out⟩
end Go.Proofs.YtginajegbknfhaaDoor.D
