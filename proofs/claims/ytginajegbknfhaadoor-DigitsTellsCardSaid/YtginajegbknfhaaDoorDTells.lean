/- DigitsTells, walked. -/
import Derived.Test.YtginajegbknfhaaDoorDRP
import Derived.Test.YtginajegbknfhaaDoorDRText
import Derived.Test.YtginajegbknfhaaDoorDBackH
import Derived.Test.YtginajegbknfhaaDoorECopy
namespace Go.Proofs.YtginajegbknfhaaDoor.D
open Go.RowKit

/-- What goes on to hold. -/
structure TI (w : World) (q r : Nat) (s : Bool) (A : Option Addr) (xs : List Nat) (c : Nat) (z : Int) (B C : Option Addr) (d e : Nat) (K : Option Addr) (W : World) : Prop where
  below : Below w.heap.size w W
  k : K3 w.heap.size q r (.bool s) (.slice A xs.length c) (.bool (zneg z)) (.slice B (dig z.natAbs).length d) (.bool (zneg z)) (.slice C (dig z.natAbs).length e) W
  n1 : Num W A xs
  n2 : Num W B (dig z.natAbs)
  n3 : Num W C (dig z.natAbs)
  n4 : Num W K xs
theorem TI.step {w : World} {q r : Nat} {s : Bool} {A : Option Addr} {xs : List Nat} {c : Nat} {z : Int} {B C : Option Addr} {d e : Nat} {K : Option Addr} {W W' : World} (h : TI w q r s A xs c z B C d e K W) (hb : Below W.heap.size W W') : TI w q r s A xs c z B C d e K W' :=
  ⟨h.below.trans (hb.mono h.below.size), K3.below hb h.k, h.n1.below hb, h.n2.below hb, h.n3.below hb, h.n4.below hb⟩
set_option maxRecDepth 100000 in
set_option maxHeartbeats 8000000 in
theorem tells_main (w : World) (s : Bool) (A : Option Addr) (xs : List Nat) (c : Nat) (l : List UInt8) (z zc code : Int) (T : List UInt8) (ha : Num w A xs) (hA : A = none → c = 0) (hx : zv s (val xs) = z) (hT : textOf z = T) (hn : xs.length ≤ 20) (hc : xs.length ≤ c) (hl : l.length ≤ 700) (hp : parseV l = (zc, code)) (hzc : (dig zc.natAbs).length ≤ 1000) (htab : Tab w) :
    Calls Tryd.prog 4 #[.agg #[.bool s, .slice A xs.length c], .string ⟨l.toArray⟩] w (RetB w true) := by
  have HTAB := Lib.hid htab
  have HX := Lib.hid hx
  have HPC := Lib.hid hp
  have HZC := Lib.hid hzc
  have HT := Lib.hid hT
  have hn20 : (xs.length : Int) ≤ 20 := by omega
  have hl7 : ¬ (700 : Int) < (l.length : Int) := by omega
  have HI0 : Hid (BI w w.heap.size s A xs c (w.alloc (.cells #[.bool s, .slice A xs.length c] 25))) := ⟨(Below.refl _ _).alloc (Nat.le_refl _) _, Ibx.new' _ _ _ _ _ _ rfl, ha.alloc _⟩
  clear ha hx hT htab hp hzc
  go_enter Tryd.func4, Tryd.ntmps4
  go_wp2_with fail
  refine (short_t _ s A xs.length c 20 hn20).mono ?_
  rintro e w1 ⟨rfl, hb1⟩
  have HI1 := Lib.hid (HI0.out.step hb1)
  have k0 := HI1.out.k.1
  have k1 := HI1.out.k.2
  clear hb1 HI0
  go_wp2_with fail
  refine (copyw_any _ A c xs HI1.out.num hA (by omega)).mono ?_
  rintro e w2 ⟨K, d2, rfl, hd2, hK, hb2⟩
  have HI2 := Lib.hid (HI1.out.step hb2)
  have HK2 := Lib.hid hK
  clear hb2 HI1 k0 k1 hK
  go_wp2_with fail
  refine (parse_at _ l zc code HPC.out (by omega)).mono ?_
  rintro e w3 ⟨A3, c3, rfl, hc3, h3, hb3⟩
  obtain ⟨W3, hW3⟩ : ∃ W, w3.alloc (.cells #[.bool (zneg zc), .slice A3 (dig zc.natAbs).length c3] 25) = W := ⟨_, rfl⟩
  have HI3 : Hid (BI w w.heap.size s A xs c W3) := by rw [← hW3]; exact (HI2.out.step hb3).alloc _
  have HK3 : Hid (C2 w3.heap.size (.bool (zneg zc)) (.slice A3 (dig zc.natAbs).length c3) W3) := by rw [← hW3]; exact C2.base _ _ _ _
  have HN3 : Hid (Num W3 A3 (dig zc.natAbs)) := by rw [← hW3]; exact h3.alloc _
  have HKK3 : Hid (Num W3 K xs) := by rw [← hW3]; exact (HK2.out.below hb3).alloc _
  clear hb3 h3 HI2 HK2
  go_wp2_with fail
  refine (rparse_any _ l zc code HPC.out (by omega)).mono ?_
  rintro e w4 ⟨A4, c4, rfl, hc4, h4, hb4⟩
  clear hW3
  obtain ⟨W4, hW4⟩ : ∃ W, w4.alloc (.cells #[.bool (zneg zc), .slice A4 (dig zc.natAbs).length c4] 25) = W := ⟨_, rfl⟩
  have HTI : Hid (TI w w3.heap.size w4.heap.size s A xs c zc A3 A4 c3 c4 K W4) := by
    rw [← hW4]
    have h0 := (HI3.out.step hb4).alloc (.cells #[.bool (zneg zc), .slice A4 (dig zc.natAbs).length c4] 25)
    exact ⟨h0.below, K3.of h0.k ((C2.under HK3.out hb4).alloc _) (C2.base _ _ _ _), h0.num, (HN3.out.below hb4).alloc _, h4.alloc _, (HKK3.out.below hb4).alloc _⟩
  clear hb4 h4 HI3 HK3 HN3 HKK3
  go_upto_region 6 with fail
  clear hW4
  have HTD : Hid (TI w w3.heap.size w4.heap.size s A xs c zc A3 A4 c3 c4 K W4.drew) := HTI.out.step (Below.refl _ _).drew
  go_region_held3 (fun W => W.cell? ⟨w.heap.size, 0, none⟩ = some (.bool s) ∧ W.cell? ⟨w.heap.size, 1, none⟩ = some (.slice A xs.length c) ∧ W.cell? ⟨w3.heap.size, 0, none⟩ = some (.bool (zneg zc)) ∧ W.cell? ⟨w3.heap.size, 1, none⟩ = some (.slice A3 (dig zc.natAbs).length c3) ∧ W.cell? ⟨w4.heap.size, 0, none⟩ = some (.bool (zneg zc)) ∧ W.cell? ⟨w4.heap.size, 1, none⟩ = some (.slice A4 (dig zc.natAbs).length c4))
   (first | exact HE5.out.k | exact HE4.out.k | exact HE3.out.k | exact HE2.out.k | exact HE1.out.k | exact HTD.out.k)
   (first
    | (go_at_call 9; (with_reducible refine (awake_any _ (HTAB.out.below HE4.out.below)).mono ?_); rintro e v5 ⟨rfl, hv5⟩; have HE5 := Lib.hid (HE4.out.step hv5))
    | (go_at_call 15; (refine (same_yes _ K A d2 c xs HE3.out.n4 HE3.out.n1 (by omega)).mono ?_); rintro e v4 ⟨rfl, hv4⟩; have HE4 := Lib.hid (HE3.out.step hv4))
    | (go_at_call 14; (refine (same2_any _ A3 A4 c3 c4 zc zc HE2.out.n2 HE2.out.n3 rfl (Nat.le_trans HZC.out (by omega))).mono ?_); rintro e v3 ⟨rfl, hv3⟩; have HE3 := Lib.hid (HE2.out.step hv3))
    | (go_at_call 13; (refine (Go.Proofs.YtginajegbknfhaaDoor.E.rtext_any _ s A c xs z T HE1.out.n1 HX.out HT.out (by omega)).mono ?_); rintro e v2 ⟨rfl, hv2⟩; have HE2 := Lib.hid (HE1.out.step hv2))
    | (go_at_call 8; (refine (text_at _ s A c xs z T HTD.out.n1 HX.out HT.out (by omega) hc (HTAB.out.below HTD.out.below)).mono ?_); rintro e v1 ⟨rfl, hv1⟩; have HE1 := Lib.hid (HTD.out.step hv1)))
  all_goals
    go_wp2_with fail
    go_ret
    exact ⟨rfl, HE5.out.below⟩
theorem parse_len2 (l : List UInt8) : (dig (parseV l).1.natAbs).length ≤ 1000 := by
  have h0 : (dig ((0 : Int).natAbs)).length ≤ 1000 := by rw [show (0 : Int).natAbs = 0 from rfl, dig_zero]; exact Nat.zero_le _
  unfold parseV
  by_cases hn : isNumB (behind l) (signed l) = true
  · rw [if_pos hn]
    by_cases hl : 600 < (behind l).length
    · rw [if_pos hl]; exact h0
    · rw [if_neg hl]
      show (dig (zv (signed l) (dnum (behind l))).natAbs).length ≤ 1000
      rw [zv_natAbs]
      exact Nat.le_trans (dig_len10 (dnum_lt _ _ rfl (num_all hn))) (by omega)
  · rw [if_neg hn]; exact h0
set_option maxRecDepth 100000 in
set_option maxHeartbeats 4000000 in
theorem tells_far (w : World) (s : Bool) (A : Option Addr) (xs : List Nat) (c : Nat) (l : List UInt8) (hn : ¬ xs.length ≤ 20) (htab : Tab w) :
    Calls Tryd.prog 4 #[.agg #[.bool s, .slice A xs.length c], .string ⟨l.toArray⟩] w (RetB w true) := by
  have HTAB := Lib.hid htab
  have hn30 : ¬ (xs.length : Int) ≤ 20 := by omega
  have HW0 : Hid (Below w.heap.size w (w.alloc (.cells #[.bool s, .slice A xs.length c] 25))) := (Below.refl _ _).alloc (Nat.le_refl _) _
  clear htab hn
  go_enter Tryd.func4, Tryd.ntmps4
  go_wp2_with fail
  refine (short_f _ s A xs.length c 20 (by omega)).mono ?_
  rintro e w1 ⟨rfl, hb1⟩
  have HW1 := Lib.hid (HW0.out.trans (hb1.mono HW0.out.size))
  clear hb1
  go_wp2_with fail
  refine (awake_any _ (HTAB.out.below HW1.out)).mono ?_
  rintro e w2 ⟨rfl, hb2⟩
  have HW2 := Lib.hid (HW1.out.trans (hb2.mono HW1.out.size))
  clear hb2
  go_wp2_with fail
  go_ret
  exact ⟨rfl, HW2.out⟩
set_option maxRecDepth 100000 in
set_option maxHeartbeats 4000000 in
theorem tells_long (w : World) (s : Bool) (A : Option Addr) (xs : List Nat) (c : Nat) (l : List UInt8) (hn : xs.length ≤ 20) (hl : ¬ l.length ≤ 700) (htab : Tab w) :
    Calls Tryd.prog 4 #[.agg #[.bool s, .slice A xs.length c], .string ⟨l.toArray⟩] w (RetB w true) := by
  have HTAB := Lib.hid htab
  have hn30 : (xs.length : Int) ≤ 20 := by omega
  have hl7 : (700 : Int) < (l.length : Int) := by omega
  have HW0 : Hid (Below w.heap.size w (w.alloc (.cells #[.bool s, .slice A xs.length c] 25))) := (Below.refl _ _).alloc (Nat.le_refl _) _
  clear htab hn hl
  go_enter Tryd.func4, Tryd.ntmps4
  go_wp2_with fail
  refine (short_t _ s A xs.length c 20 hn30).mono ?_
  rintro e w1 ⟨rfl, hb1⟩
  have HW1 := Lib.hid (HW0.out.trans (hb1.mono HW0.out.size))
  clear hb1
  go_wp2_with fail
  refine (awake_any _ (HTAB.out.below HW1.out)).mono ?_
  rintro e w2 ⟨rfl, hb2⟩
  have HW2 := Lib.hid (HW1.out.trans (hb2.mono HW1.out.size))
  clear hb2
  go_wp2_with fail
  go_ret
  exact ⟨rfl, HW2.out⟩
theorem tells_walk (w : World) (s : Bool) (A : Option Addr) (xs : List Nat) (c : Nat) (l : List UInt8) (ha : Num w A xs) (hA : A = none → c = 0) (hc : xs.length ≤ c) (htab : Tab w) :
    Calls Tryd.prog 4 #[.agg #[.bool s, .slice A xs.length c], .string ⟨l.toArray⟩] w (RetB w true) := by
  by_cases hn : xs.length ≤ 20
  · by_cases hl : l.length ≤ 700
    · obtain ⟨zc, code, hp⟩ : ∃ zc code, parseV l = (zc, code) := ⟨_, _, rfl⟩
      have hzc : (dig zc.natAbs).length ≤ 1000 := by
        have h := parse_len2 l
        rw [hp] at h
        exact h
      exact tells_main w s A xs c l _ zc code _ ha hA rfl rfl hn hc hl hp hzc htab
    · exact tells_long w s A xs c l hn hl htab
  · exact tells_far w s A xs c l hn htab
end Go.Proofs.YtginajegbknfhaaDoor.D
