/- DigitsBack, walked: a case. -/
import Derived.Test.YtginajegbknfhaaDoorDBackH
namespace Go.Proofs.YtginajegbknfhaaDoor.D
open Go.RowKit

set_option maxRecDepth 100000 in
set_option maxHeartbeats 8000000 in
theorem back_zero (w : World) (s : Bool) (A : Option Addr) (xs : List Nat) (c : Nat) (l : List UInt8) (d : Nat) (z zc code : Int) (ha : Num w A xs) (hx : zv s (val xs) = z) (hn : xs.length ≤ 30) (hc : xs.length ≤ c) (hl : l.length ≤ 700) (_hd : d ≤ 255) (hp : parseV l = (zc, code)) (hzc : (dig zc.natAbs).length ≤ 1000) (hcode : code = 0) (hz : z = 0) (htab : Tab w) :
    Calls Tryd.prog 5 #[.agg #[.bool s, .slice A xs.length c], .string ⟨l.toArray⟩, .int .u8 (d : Int)] w (RetB w true) := by
  have HTAB := Lib.hid htab
  have HX := Lib.hid hx
  have HPC := Lib.hid hp
  have HZC := Lib.hid hzc
  have hzn : z.natAbs = val xs := by rw [← hx, zv_natAbs]
  have HPT : Hid (parseV (textOf z) = (z, 0)) := parse_text (by rw [hzn]; exact len30 ha.1 hn)
  have hzl : (dig z.natAbs).length ≤ 30 := by rw [hzn]; exact Nat.le_trans (dig_length_val ha.1) hn
  have hn30 : (xs.length : Int) ≤ 30 := by omega
  have hl7 : ¬ (700 : Int) < (l.length : Int) := by omega
  have HZL := Lib.hid hzl
  obtain ⟨T, hT⟩ : ∃ T, textOf z = T := ⟨_, rfl⟩
  have HT := Lib.hid hT
  rw [hT] at HPT
  have hTl : T.length ≤ 600 := by rw [← hT, hz]; decide
  have HSG : Hid (z.sign = 0) := by show _ = _; rw [hz]; rfl
  have HTL := Lib.hid hTl
  have HI0 : Hid (BI w w.heap.size s A xs c (w.alloc (.cells #[.bool s, .slice A xs.length c] 25))) := ⟨(Below.refl _ _).alloc (Nat.le_refl _) _, Ibx.new' _ _ _ _ _ _ rfl, ha.alloc _⟩
  subst hcode
  have HTP : Hid (textOf zc = l) := text_parse hp
  clear ha hx htab hp hzc hzn hzl hT hz hTl
  go_enter Tryd.func5, Tryd.ntmps5
  go_wp2_with fail
  refine (short_t _ s A xs.length c 30 hn30).mono ?_
  rintro e w1 ⟨rfl, hb1⟩
  have HI1 := Lib.hid (HI0.out.step hb1)
  have k0 := HI1.out.k.1
  have k1 := HI1.out.k.2
  clear hb1 HI0
  go_wp2_with fail
  refine (text_at _ s A c xs z T HI1.out.num HX.out HT.out (by omega) hc (HTAB.out.below HI1.out.below)).mono ?_
  rintro e w2 ⟨rfl, hb2⟩
  have HI2 := Lib.hid (HI1.out.step hb2)
  clear hb2 HI1 k0 k1
  go_wp2_with fail
  refine (parse_at _ T z 0 HPT.out (by have := HTL.out; omega)).mono ?_
  rintro e w3 ⟨A3, c3, rfl, hc3, h3, hb3⟩
  obtain ⟨W3, hW3⟩ : ∃ W, w3.alloc (.cells #[.bool (zneg z), .slice A3 (dig z.natAbs).length c3] 25) = W := ⟨_, rfl⟩
  have HI3 : Hid (BI w w.heap.size s A xs c W3) := by rw [← hW3]; exact (HI2.out.step hb3).alloc _
  have HK3 : Hid (C2 w3.heap.size (.bool (zneg z)) (.slice A3 (dig z.natAbs).length c3) W3) := by rw [← hW3]; exact C2.base _ _ _ _
  have HN3 : Hid (Num W3 A3 (dig z.natAbs)) := by rw [← hW3]; exact h3.alloc _
  clear hb3 h3 HI2
  go_upto_region 5 with fail
  clear hW3
  have HSD : Hid (C2 w.heap.size (.bool s) (.slice A xs.length c) W3.drew ∧ C2 w3.heap.size (.bool (zneg z)) (.slice A3 (dig z.natAbs).length c3) W3.drew) := ⟨HI3.out.k, HK3.out⟩
  have HID := Lib.hid HI3.out.drew
  have HND : Hid (Num W3.drew A3 (dig z.natAbs)) := HN3.out.drew
  go_region_held3 (fun W => W.cell? ⟨w.heap.size, 0, none⟩ = some (.bool s) ∧ W.cell? ⟨w.heap.size, 1, none⟩ = some (.slice A xs.length c) ∧ W.cell? ⟨w3.heap.size, 0, none⟩ = some (.bool (zneg z)) ∧ W.cell? ⟨w3.heap.size, 1, none⟩ = some (.slice A3 (dig z.natAbs).length c3))
   (first | exact d2_of (C2.under (C2.under (HSD.out.1) hb4) hb5) (C2.under (C2.under (HSD.out.2) hb4) hb5) | exact d2_of (C2.under (HSD.out.1) hb4) (C2.under (HSD.out.2) hb4) | exact d2_of HSD.out.1 HSD.out.2)
   (first
    | (go_at_call 14; (refine (same2_any w4 A3 A4 c3 c4 z z (HND.out.below hb4) h4 rfl (Nat.le_trans HZL.out (by omega))).mono ?_); rintro e w5 ⟨rfl, hb5⟩; have HI5 := Lib.hid ((HID.out.step hb4).step hb5))
    | (go_at_call 16; (refine (norm_z _ s A c xs z HID.out.num HX.out (by omega) hc z rfl).mono ?_); rintro e w4 ⟨A4, c4, rfl, hc4, h4, hb4⟩))
  all_goals
    clear HSD HID HND HI3 HK3 HN3 hb4 hb5 h4
    have k0 := HI5.out.k.1
    have k1 := HI5.out.k.2
    go_wp2_with fail
    refine (parse_at _ l zc 0 HPC.out (by omega)).mono ?_
    rintro e w6 ⟨A6, c6, rfl, hc6, h6, hb6⟩
    obtain ⟨W6, hW6⟩ : ∃ W, w6.alloc (.cells #[.bool (zneg zc), .slice A6 (dig zc.natAbs).length c6] 25) = W := ⟨_, rfl⟩
    have HI6 : Hid (BI w w.heap.size s A xs c W6) := by rw [← hW6]; exact (HI5.out.step hb6).alloc _
    have q0 : W6.cell? ⟨w6.heap.size, 0, none⟩ = some (.bool (zneg zc)) := by rw [← hW6]; exact (C2.base _ _ _ _).1
    have q1 : W6.cell? ⟨w6.heap.size, 1, none⟩ = some (.slice A6 (dig zc.natAbs).length c6) := by rw [← hW6]; exact (C2.base _ _ _ _).2
    have HN6 : Hid (Num W6 A6 (dig zc.natAbs)) := by rw [← hW6]; exact h6.alloc _
    clear hb6 h6 HI5 k0 k1
    have k0 := HI6.out.k.1
    have k1 := HI6.out.k.2
    go_wp2_with fail
    refine (text_at _ (zneg zc) A6 c6 (dig zc.natAbs) zc l HN6.out (zv_dig _) HTP.out HZC.out hc6 (HTAB.out.below HI6.out.below)).mono ?_
    rintro e w7 ⟨rfl, hb7⟩
    have HI7 := Lib.hid (HI6.out.step hb7)
    clear hb7 HI6 k0 k1 q0 q1 hW6
    have k0 := HI7.out.k.1
    have k1 := HI7.out.k.2
    go_wp2_with fail
    refine (sign_z _ s A c xs z HI7.out.num HX.out (by omega) hc 0 HSG.out).mono ?_
    rintro e w8 ⟨rfl, hb8⟩
    have HI8 := Lib.hid (HI7.out.step hb8)
    clear hb8 HI7 k0 k1
    have k0 := HI8.out.k.1
    have k1 := HI8.out.k.2
    go_wp2_with fail
    refine (sign_z _ s A c xs z HI8.out.num HX.out (by omega) hc 0 HSG.out).mono ?_
    rintro e w9 ⟨rfl, hb9⟩
    have HI9 := Lib.hid (HI8.out.step hb9)
    clear hb9 HI8 k0 k1
    go_wp2_with fail
    refine (awake_any _ (HTAB.out.below HI9.out.below)).mono ?_
    rintro e wf ⟨rfl, hbf⟩
    have HIf := Lib.hid (HI9.out.step hbf)
    clear hbf
    go_wp2_with fail
    go_ret
    exact ⟨rfl, HIf.out.below⟩
end Go.Proofs.YtginajegbknfhaaDoor.D
