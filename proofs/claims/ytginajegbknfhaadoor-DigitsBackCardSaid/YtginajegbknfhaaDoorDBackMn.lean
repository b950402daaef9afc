/- DigitsBack, walked: a case. -/
import Derived.Test.YtginajegbknfhaaDoorDBackH
namespace Go.Proofs.YtginajegbknfhaaDoor.D
open Go.RowKit

set_option maxRecDepth 100000 in
set_option maxHeartbeats 8000000 in
theorem back_neg_n (w : World) (s : Bool) (A : Option Addr) (xs : List Nat) (c : Nat) (l : List UInt8) (d : Nat) (z zc code : Int) (ha : Num w A xs) (hx : zv s (val xs) = z) (hn : xs.length ≤ 30) (hc : xs.length ≤ c) (hl : l.length ≤ 700) (hd : d ≤ 255) (hp : parseV l = (zc, code)) (hzc : (dig zc.natAbs).length ≤ 1000) (hcode : code ≠ 0) (hz : z < 0) (htab : Tab w) :
    Calls Tryd.prog 5 #[.agg #[.bool s, .slice A xs.length c], .string ⟨l.toArray⟩, .int .u8 (d : Int)] w (RetB w true) := by
  have HTAB := Lib.hid htab
  have HX := Lib.hid hx
  have HPC := Lib.hid hp
  have HZC := Lib.hid hzc
  have hzn : z.natAbs = val xs := by rw [← hx, zv_natAbs]
  have HPT : Hid (parseV (textOf z) = (z, 0)) := parse_text (by rw [hzn]; exact len30 ha.1 hn)
  have hzl : (dig z.natAbs).length ≤ 30 := by rw [hzn]; exact Nat.le_trans (dig_length_val ha.1) hn
  have hn30 : (xs.length : Int) ≤ 30 := by omega
  have hl7 : ¬ (700 : Int) < (l.length : Int) := by omega
  have HZL := Lib.hid hzl
  obtain ⟨U, hU⟩ : ∃ U, textOf (-z) = U := ⟨_, rfl⟩
  have HU := Lib.hid hU
  have hTU : textOf z = 45 :: U := by rw [← hU, textOf_neg hz, textOf_pos (by omega), Int.natAbs_neg]
  have hTl : U.length ≤ 600 := by rw [← hU, textOf_pos (by omega), Int.natAbs_neg]; unfold sizeText; rw [if_neg (by omega), hzn]; exact len30 ha.1 hn
  obtain ⟨T, hT⟩ : ∃ T, textOf z = T := ⟨_, rfl⟩
  have HT := Lib.hid hT
  rw [hT] at HPT hTU
  have HTU := Lib.hid hTU
  have hTL1 : T.length = U.length + 1 := by rw [hTU]; rfl
  have hTs : (⟨T.toArray⟩ : ByteArray).extract 1 T.length = ⟨U.toArray⟩ := by rw [hTL1, hTU]; exact tail_at U
  have hT1 : (1 : Int) ≤ (T.length : Int) := by omega
  clear hTU hTL1
  have HSG : Hid (z.sign = -1) := Int.sign_eq_neg_one_of_neg hz
  have HTL := Lib.hid hTl
  have HI0 : Hid (BI w w.heap.size s A xs c (w.alloc (.cells #[.bool s, .slice A xs.length c] 25))) := ⟨(Below.refl _ _).alloc (Nat.le_refl _) _, Ibx.new' _ _ _ _ _ _ rfl, ha.alloc _⟩
  have hcode2 : (code == 0) = false := by rw [beq_eq_false_iff_ne]; exact hcode
  clear hcode
  obtain ⟨y, hy⟩ : ∃ y, -z = y := ⟨_, rfl⟩
  have HY := Lib.hid hy
  have hyp : 0 < y := by omega
  have hyl : (dig y.natAbs).length ≤ 30 := by rw [← hy, Int.natAbs_neg]; exact hzl
  have HYL := Lib.hid hyl
  have HSY : Hid (y.sign = 1) := Int.sign_eq_one_of_pos hyp
  rw [hy] at hU
  have HYP := Lib.hid hyp
  obtain ⟨k, hk⟩ : ∃ k, d % 10 = k := ⟨_, rfl⟩
  have hk10 : k < 10 := by omega
  have HK10 := Lib.hid hk10
  obtain ⟨ten, hten⟩ : ∃ t : Int, (10 : Int) = t := ⟨_, rfl⟩
  obtain ⟨kz, hkz⟩ : ∃ t : Int, (k : Int) = t := ⟨_, rfl⟩
  obtain ⟨m, hm⟩ : ∃ t : Int, y * ten = t := ⟨_, rfl⟩
  obtain ⟨p, hpp⟩ : ∃ t : Int, m + kz = t := ⟨_, rfl⟩
  have hp1 : p = y * 10 + (k : Int) := by rw [← hpp, ← hm, ← hten, ← hkz]
  obtain ⟨X, hX⟩ : ∃ X, textOf p = X := ⟨_, rfl⟩
  have HXX := Lib.hid hX
  have HXE : Hid (X = U ++ [UInt8.ofNat (48 + k)]) := by
    show _ = _
    rw [← hX, hp1, text_app hyp hk10, hU]
  have hyl2 : (dig y.natAbs).length ≤ 30 := HYL.out
  have HML : Hid ((dig m.natAbs).length ≤ 400) := by show _ ≤ _; rw [← hm, ← hten, Int.natAbs_mul]; exact Nat.le_trans (dig_mul_len hyl2 (by decide)) (by omega)
  have HPL : Hid ((dig p.natAbs).length ≤ 400) := by
    show _ ≤ _
    have e : p.natAbs ≤ y.natAbs * 100 := by rw [hp1]; omega
    exact Nat.le_trans (dig_length_mono e) (Nat.le_trans (dig_mul_len hyl2 (by decide)) (by omega))
  have HTEN := Lib.hid hten
  have HKZ := Lib.hid hkz
  have HM := Lib.hid hm
  have HPP := Lib.hid hpp
  have HKK := Lib.hid hk
  have hdk : (d : Int) % 10 = (k : Int) := by omega
  have hwk : IntKind.i64.wrap (k : Int) = (k : Int) := IntWalk.i64_in _ (by omega)
  obtain ⟨k1, hk1⟩ : ∃ k1, k + 1 = k1 := ⟨_, rfl⟩
  have hwk1 : IntKind.u8.wrap ((k : Int) + 1) = (k1 : Int) := by
    have h := IntWalk.u8_in ((k : Int) + 1) (by omega)
    rw [h]; omega
  have hs0 : (0 : Int) ≤ (k : Int) := by omega
  have hs1 : (k : Int) ≤ (k1 : Int) := by omega
  have hs2 : (k1 : Int) ≤ 10 := by omega
  obtain ⟨C, hC⟩ : ∃ C, UInt8.ofNat (48 + k) = C := ⟨_, rfl⟩
  have hex : (⟨#[48, 49, 50, 51, 52, 53, 54, 55, 56, 57]⟩ : ByteArray).extract k k1 = ⟨#[C]⟩ := by rw [← hk1, ← hC]; exact digit_at hk10
  rw [hC] at HXE
  have hcat := cat2 HXE.out.symm
  have hTl2 : ¬ (9223372036854775807 < U.length + 1) := by omega
  have HTB : Hid (-9223372036854775808 ≤ ten ∧ ten ≤ 9223372036854775807) := ⟨by omega, by omega⟩
  have HKB : Hid (-9223372036854775808 ≤ kz ∧ kz ≤ 9223372036854775807) := ⟨by omega, by omega⟩
  clear hten hkz hm hpp hp1 hX hk hk1 hC hk10 hy hyp hyl hyl2
  clear ha hx htab hp hzc hzn hzl hT hz hTl hU
  go_enter Tryd.func5, Tryd.ntmps5
  go_wp2_with fail
  refine (short_t _ s A xs.length c 30 hn30).mono ?_
  rintro e w1 ⟨rfl, hb1⟩
  have HI1 := Lib.hid (HI0.out.step hb1)
  have k0 := HI1.out.k.1
  have k1 := HI1.out.k.2
  clear hb1 HI0
  go_wp2_with fail
  refine (text_at _ s A c xs z T HI1.out.num HX.out HT.out (by omega) hc (HTAB.out.below HI1.out.below)).mono ?_
  rintro e w2 ⟨rfl, hb2⟩
  have HI2 := Lib.hid (HI1.out.step hb2)
  clear hb2 HI1 k0 k1
  go_wp2_with fail
  refine (parse_at _ T z 0 HPT.out (by have := HTL.out; rw [HTU.out, List.length_cons]; omega)).mono ?_
  rintro e w3 ⟨A3, c3, rfl, hc3, h3, hb3⟩
  obtain ⟨W3, hW3⟩ : ∃ W, w3.alloc (.cells #[.bool (zneg z), .slice A3 (dig z.natAbs).length c3] 25) = W := ⟨_, rfl⟩
  have HI3 : Hid (BI w w.heap.size s A xs c W3) := by rw [← hW3]; exact (HI2.out.step hb3).alloc _
  have HK3 : Hid (C2 w3.heap.size (.bool (zneg z)) (.slice A3 (dig z.natAbs).length c3) W3) := by rw [← hW3]; exact C2.base _ _ _ _
  have HN3 : Hid (Num W3 A3 (dig z.natAbs)) := by rw [← hW3]; exact h3.alloc _
  clear hb3 h3 HI2
  go_upto_region 5 with fail
  clear hW3
  have HSD : Hid (C2 w.heap.size (.bool s) (.slice A xs.length c) W3.drew ∧ C2 w3.heap.size (.bool (zneg z)) (.slice A3 (dig z.natAbs).length c3) W3.drew) := ⟨HI3.out.k, HK3.out⟩
  have HID := Lib.hid HI3.out.drew
  have HND : Hid (Num W3.drew A3 (dig z.natAbs)) := HN3.out.drew
  go_region_held3 (fun W => W.cell? ⟨w.heap.size, 0, none⟩ = some (.bool s) ∧ W.cell? ⟨w.heap.size, 1, none⟩ = some (.slice A xs.length c) ∧ W.cell? ⟨w3.heap.size, 0, none⟩ = some (.bool (zneg z)) ∧ W.cell? ⟨w3.heap.size, 1, none⟩ = some (.slice A3 (dig z.natAbs).length c3))
   (first | exact d2_of (C2.under (C2.under (HSD.out.1) hb4) hb5) (C2.under (C2.under (HSD.out.2) hb4) hb5) | exact d2_of (C2.under (HSD.out.1) hb4) (C2.under (HSD.out.2) hb4) | exact d2_of HSD.out.1 HSD.out.2)
   (first
    | (go_at_call 14; (refine (same2_any w4 A3 A4 c3 c4 z z (HND.out.below hb4) h4 rfl (Nat.le_trans HZL.out (by omega))).mono ?_); rintro e w5 ⟨rfl, hb5⟩; have HI5 := Lib.hid ((HID.out.step hb4).step hb5))
    | (go_at_call 16; (refine (norm_z _ s A c xs z HID.out.num HX.out (by omega) hc z rfl).mono ?_); rintro e w4 ⟨A4, c4, rfl, hc4, h4, hb4⟩))
  all_goals
    clear HSD HID HND HI3 HK3 HN3 hb4 hb5 h4
    have k0 := HI5.out.k.1
    have k1 := HI5.out.k.2
    go_wp2_with fail
    refine (parse_at _ l zc code HPC.out (by omega)).mono ?_
    rintro e w6 ⟨A6, c6, rfl, hc6, h6, hb6⟩
    obtain ⟨W6, hW6⟩ : ∃ W, w6.alloc (.cells #[.bool (zneg zc), .slice A6 (dig zc.natAbs).length c6] 25) = W := ⟨_, rfl⟩
    have HI6 : Hid (BI w w.heap.size s A xs c W6) := by rw [← hW6]; exact (HI5.out.step hb6).alloc _
    have q0 : W6.cell? ⟨w6.heap.size, 0, none⟩ = some (.bool (zneg zc)) := by rw [← hW6]; exact (C2.base _ _ _ _).1
    have q1 : W6.cell? ⟨w6.heap.size, 1, none⟩ = some (.slice A6 (dig zc.natAbs).length c6) := by rw [← hW6]; exact (C2.base _ _ _ _).2
    have HN6 : Hid (Num W6 A6 (dig zc.natAbs)) := by rw [← hW6]; exact h6.alloc _
    clear hb6 h6 HI5 k0 k1
    have k0 := HI6.out.k.1
    have k1 := HI6.out.k.2
    go_wp2_with fail
    have HI7 := HI6
    clear HI6 q0 q1
    refine (sign_z _ s A c xs z HI7.out.num HX.out (by omega) hc (-1) HSG.out).mono ?_
    rintro e w8 ⟨rfl, hb8⟩
    have HI8 := Lib.hid (HI7.out.step hb8)
    clear hb8 HI7 k0 k1
    have k0 := HI8.out.k.1
    have k1 := HI8.out.k.2
    go_wp2_with fail
    have f0 := HI8.out.box.f 0
    have f1 := HI8.out.box.f 1
    refine (neg_z _ s A c xs z HI8.out.num HX.out (by omega) hc y HY.out).mono ?_
    rintro e w8n ⟨A9, c9, rfl, hc9, h9, hb9⟩
    have HI8n := Lib.hid (HI8.out.step hb9)
    clear k0 k1 f0 f1 HI8
    obtain ⟨W9, hW9⟩ : ∃ W, (w8n.setCell ⟨w.heap.size, 0, none⟩ (.bool (zneg y))).setCell ⟨w.heap.size, 1, none⟩ (.slice A9 (dig y.natAbs).length c9) = W := ⟨_, rfl⟩
    have HI9 : Hid (BI w w.heap.size (zneg y) A9 (dig y.natAbs) c9 W9) := by rw [← hW9]; exact HI8n.out.store (Nat.le_refl _) h9
    have k0 := HI8n.out.k.1
    have k1 := HI8n.out.k.2
    have f0 := HI8n.out.box.f 0
    have f1 := HI8n.out.box.f 1
    clear hb9 h9 HI8n
    go_upto_region 13 with fail
    clear k0 k1 f0 f1 hW9
    have k0 := HI9.out.k.1
    have k1 := HI9.out.k.2
    go_wp2_with fail
    refine (sign_z _ (zneg y) A9 c9 (dig y.natAbs) y HI9.out.num (zv_dig y) (by have := HYL.out; omega) hc9 1 HSY.out).mono ?_
    rintro e w9 ⟨rfl, hb9⟩
    have HI9 := Lib.hid (HI9.out.step hb9)
    clear hb9 k0 k1
    have k0 := HI9.out.k.1
    have k1 := HI9.out.k.2
    go_upto_region 16 with fail
    have HID := Lib.hid HI9.out.drew
    have hlt : w.heap.size < w9.heap.size := HI9.out.box.lt
    clear k0 k1 HI9
    go_region_held3 (fun W => W.cell? ⟨w.heap.size, 0, none⟩ = some (.bool (zneg y)) ∧ W.cell? ⟨w.heap.size, 1, none⟩ = some (.slice A9 (dig y.natAbs).length c9))
     (first | exact C2.alloc (by assumption) _ | exact C2.alloc HI13.out.k _ | exact HI13.out.k | exact HI12.out.k | exact HI11.out.k | exact HI10.out.k | exact HID.out.k | exact C2.far (C2.far (by assumption) (by first | (simp; done) | (simp; omega) | omega) _) (by first | (simp; done) | (simp; omega) | omega) _)
     (first
      | (go_at_call 19; (refine (add_z _ (zneg m) (zneg kz) A11 A12 c11 c12 (dig m.natAbs) (dig kz.natAbs) m kz ?_ ?_ (zv_dig _) (zv_dig _) (Nat.le_trans HML.out (by omega)) (Nat.le_trans (zl_le HKB.out.1 HKB.out.2) (by omega)) hc11 hc12 p HPP.out).mono ?_); (first | exact HN11.out | exact HN11.out.alloc _); (first | exact HN12.out | exact HN12.out.alloc _); rintro e w13 ⟨A13, c13, rfl, hc13, h13, hb13⟩; have HN13 := Lib.hid h13; clear h13; (first | have HI13 := Lib.hid (HI12.out.step hb13) | have HI13 := Lib.hid ((HI12.out.alloc _).step hb13)); (first | have J13 := Ibx.below J12 hb13 | have J13 := Ibx.below (Ibx.new' _ false none 0 0 _ rfl) hb13 | skip); (first | (have j0 := J13.c0; have j1 := J13.c1; have g0 := J13.f 0; have g1 := J13.f 1) | skip); have hlt13 := HI13.out.box.lt)
      | (go_at_call 21; (with_reducible refine (of_z _ (k : Int) kz HKZ.out HKB.out.1 HKB.out.2).mono ?_); rintro e w12 ⟨A12, c12, rfl, hc12, h12, hb12⟩; have HN12 := Lib.hid h12; clear h12; (first | have HI12 := Lib.hid (HI11.out.step hb12) | have HI12 := Lib.hid ((HI11.out.alloc _).step hb12)); have hlt12 := HI12.out.box.lt; (first | have HN11 := Lib.hid (HN11.out.below hb12) | have HN11 := Lib.hid ((HN11.out.alloc _).below hb12)); (first | have J12 := Ibx.below J11 hb12 | have J12 := Ibx.below (Ibx.new' _ false none 0 0 _ rfl) hb12 | skip))
      | (go_at_call 20; (refine (mul_z _ (zneg y) (zneg ten) A9 A10 c9 c10 (dig y.natAbs) (dig ten.natAbs) y ten ?_ ?_ (zv_dig y) (zv_dig _) (by have := HYL.out; omega) (Nat.le_trans (zl_le HTB.out.1 HTB.out.2) (by omega)) hc9 hc10 m HM.out).mono ?_); (first | exact HI10.out.num | exact HI10.out.num.alloc _); (first | exact HN10.out | exact HN10.out.alloc _); rintro e w11 ⟨A11, c11, rfl, hc11, h11, hb11⟩; have HN11 := Lib.hid h11; clear h11; (first | have HI11 := Lib.hid (HI10.out.step hb11) | have HI11 := Lib.hid ((HI10.out.alloc _).step hb11)); have hlt11 := HI11.out.box.lt; (first | have J11 := Ibx.below J10 hb11 | have J11 := Ibx.below (Ibx.new' _ false none 0 0 _ rfl) hb11 | skip))
      | (go_at_call 21; (with_reducible refine (of_z _ 10 ten HTEN.out HTB.out.1 HTB.out.2).mono ?_); rintro e w10 ⟨A10, c10, rfl, hc10, h10, hb10⟩; have HN10 := Lib.hid h10; clear h10; (first | have HI10 := Lib.hid (HID.out.step hb10) | have HI10 := Lib.hid ((HID.out.alloc _).step hb10)); have hlt10 := HI10.out.box.lt; (first | have J10 := Ibx.below (Ibx.newd w9 _ rfl) hb10 | skip)))
    · obtain ⟨g, We, hg, hWe, HE⟩ := end_alloc (e := c13) HI13.out HN13.out
      rw [hWe, hg]
      clear hWe hg
      have HEE := Lib.hid HE
      clear HE
      clear HI10 HI11 HI12 HI13 HN10 HN11 HN12 HN13 HID hb10 hb11 hb12 hb13 hlt hlt10 hlt11 hlt12 hlt13
      go_upto_region 17 with fail
      have HE2 : Hid (EndF w w.heap.size (zneg y) A9 (dig y.natAbs) c9 g p A13 c13 We.drew) := ⟨HEE.out.i.drew, C2.drew HEE.out.k, HEE.out.num.drew⟩
      have HTX := Lib.hid (text_at We.drew (zneg p) A13 c13 (dig p.natAbs) p X HE2.out.num (zv_dig _) HXX.out (Nat.le_trans HPL.out (by omega)) hc13 (HTAB.out.below HE2.out.i.below))
      clear HEE
      go_region_held3 (fun W => W.cell? ⟨g, 0, none⟩ = some (.bool (zneg p)) ∧ W.cell? ⟨g, 1, none⟩ = some (.slice A13 (dig p.natAbs).length c13))
       (first | exact C2.under HE2.out.k hb14 | exact HE2.out.k | exact C2.under (C2.under HE2.out.k hb14) hb15)
       (first
        | (go_at_call 9; (with_reducible refine (awake_any _ (HTAB.out.below HB14.out)).mono ?_); rintro e w15 ⟨rfl, hb15⟩; have HB15 := Lib.hid (HB14.out.trans (hb15.mono HB14.out.size)))
        | (go_at_call 8; (with_reducible refine HTX.out.mono ?_); rintro e w14 ⟨rfl, hb14⟩; have HB14 := Lib.hid (HE2.out.i.below.trans (hb14.mono HE2.out.i.below.size))))
      all_goals
        go_wp2_with fail
        go_ret
        exact ⟨rfl, HB15.out⟩
    all_goals
      obtain ⟨g, We, hg, hWe, HE⟩ := end_store (e := c13) HI13.out J13 (by omega) (by omega) HN13.out
      rw [hWe, hg]
      clear hWe hg
      have HEE := Lib.hid HE
      clear HE
      clear j0 j1 g0 g1 J13
      (try clear J12)
      (try clear J11)
      (try clear J10)
      clear HI10 HI11 HI12 HI13 HN10 HN11 HN12 HN13 HID hb10 hb11 hb12 hb13 hlt hlt10 hlt11 hlt12 hlt13
      go_upto_region 17 with fail
      have HE2 : Hid (EndF w w.heap.size (zneg y) A9 (dig y.natAbs) c9 g p A13 c13 We.drew) := ⟨HEE.out.i.drew, C2.drew HEE.out.k, HEE.out.num.drew⟩
      have HTX := Lib.hid (text_at We.drew (zneg p) A13 c13 (dig p.natAbs) p X HE2.out.num (zv_dig _) HXX.out (Nat.le_trans HPL.out (by omega)) hc13 (HTAB.out.below HE2.out.i.below))
      clear HEE
      go_region_held3 (fun W => W.cell? ⟨g, 0, none⟩ = some (.bool (zneg p)) ∧ W.cell? ⟨g, 1, none⟩ = some (.slice A13 (dig p.natAbs).length c13))
       (first | exact C2.under HE2.out.k hb14 | exact HE2.out.k | exact C2.under (C2.under HE2.out.k hb14) hb15)
       (first
        | (go_at_call 9; (with_reducible refine (awake_any _ (HTAB.out.below HB14.out)).mono ?_); rintro e w15 ⟨rfl, hb15⟩; have HB15 := Lib.hid (HB14.out.trans (hb15.mono HB14.out.size)))
        | (go_at_call 8; (with_reducible refine HTX.out.mono ?_); rintro e w14 ⟨rfl, hb14⟩; have HB14 := Lib.hid (HE2.out.i.below.trans (hb14.mono HE2.out.i.below.size))))
      all_goals
        go_wp2_with fail
        go_ret
        exact ⟨rfl, HB15.out⟩
end Go.Proofs.YtginajegbknfhaaDoor.D
