/- DRP: several texts in one. -/
import Derived.Test.YtginajegbknfhaaDoorDBackH
import Derived.Test.YtginajegbknfhaaDoorDMake
/- The document's answer: Parse. -/
namespace Go.Proofs.YtginajegbknfhaaDoor.D
open Go.RowKit

theorem retp_flat (w : World) (o : Obj) (code : Int) : RetPZ w 0 code (.returned (.tuple #[.agg #[.bool false, .slice none 0 0], .int .i64 code])) (w.alloc o) := by
  have hz : dig ((0 : Int).natAbs) = [] := dig_zero
  exact ⟨none, 0, by rw [hz]; rfl, by rw [hz]; exact Nat.le_refl _, by rw [hz]; exact Num.nil _ _, (Below.refl _ _).alloc (Nat.le_refl _) _⟩
theorem rmul (W : World) (A B : Option Addr) (c q : Nat) (ha : Num W A (dig q)) (hb : Num W B [10]) (hn : (dig q).length ≤ 400000) :
    Calls Tryd.prog 36 #[.slice A (dig q).length c, .slice B 1 1] W (RetN W (q * 10)) := by
  have h := E.Mul_any W A B c 1 (dig q) [10] ha hb hn (by simp)
  rw [val_dig, val_one] at h
  exact h
theorem radd (W : World) (A B : Option Addr) (c q p : Nat) (ha : Num W A (dig q)) (hb : Num W B [p]) (hn : (dig q).length ≤ 400000) :
    Calls Tryd.prog 35 #[.slice A (dig q).length c, .slice B 1 1] W (RetN W (q + p)) := by
  have h := E.Add_any W A B c 1 (dig q) [p] ha hb hn (by simp)
  rw [val_dig, val_one] at h
  exact h
theorem Num.ten (w : World) : Num (w.alloc (.cells #[.int .u64 10] 31)) (some ⟨w.heap.size, 0, none⟩) [10] := Num.one w 10 (by decide)
theorem Num.one2 (w : World) (o : Obj) (x : Nat) (hx : x < 18446744073709551616) : Num ((w.alloc o).alloc (.cells #[.int .u64 x] 31)) (some ⟨w.heap.size + 1, 0, none⟩) [x] := by
  have h := Num.one (w.alloc o) x hx
  rw [show (w.alloc o).heap.size = w.heap.size + 1 by simp] at h
  exact h
theorem Num.ten2 (w : World) (o : Obj) : Num ((w.alloc o).alloc (.cells #[.int .u64 10] 31)) (some ⟨w.heap.size + 1, 0, none⟩) [10] := Num.one2 w o 10 (by decide)
theorem bel_a1 {w0 wr : World} (h : Below w0.heap.size w0 wr) (o : Obj) : Below w0.heap.size w0 ((wr.alloc o).drew) := (h.alloc h.size o).drew
theorem bel_a2 {w0 wr : World} (h : Below w0.heap.size w0 wr) (o o' : Obj) : Below w0.heap.size w0 (((wr.alloc o).alloc o').drew) := ((h.alloc h.size o).alloc (by simp; have := h.size; omega) o').drew
theorem bel_new {w0 wr w' : World} (h : Below w0.heap.size w0 wr) (hb : Below wr.heap.size wr w') : Below w0.heap.size w0 w' := h.trans (hb.mono h.size)

set_option maxRecDepth 100000 in
set_option maxHeartbeats 16000000 in
theorem rbad_nil (w : World) : Calls Tryd.prog 12 #[.string ⟨([] : List UInt8).toArray⟩] w (RetPZ w 0 11) := by
  have HI : Hid (Ibx (w.alloc (.cells #[.bool false, .slice none 0 0] 25)) w.heap.size false none 0 0) := Ibx.new' _ _ _ _ _ _ rfl
  have k0 := HI.out.c0
  have k1 := HI.out.c1
  have f0 := HI.out.f 0
  have f1 := HI.out.f 1
  go_enter Tryd.func12, Tryd.ntmps12
  go_wp2_with fail
  refine bodyPost_ret (v := .tuple #[.agg #[.bool false, .slice none 0 0], .int .i64 11]) (by simp [results, Tryd.results12, go_sem, k0, k1]) rfl ?_
  exact retp_flat w _ 11
set_option maxRecDepth 100000 in
set_option maxHeartbeats 16000000 in
theorem rbad_sign (w : World) : Calls Tryd.prog 12 #[.string ⟨([45] : List UInt8).toArray⟩] w (RetPZ w 0 11) := by
  have hx0 (h) : ((⟨([(45 : UInt8)]).toArray⟩ : ByteArray)[0]'h) = 45 := rfl
  have hTs : (⟨([(45 : UInt8)]).toArray⟩ : ByteArray).extract 1 1 = ⟨#[]⟩ := rfl
  have HI : Hid (Ibx (w.alloc (.cells #[.bool false, .slice none 0 0] 25)) w.heap.size false none 0 0) := Ibx.new' _ _ _ _ _ _ rfl
  have k0 := HI.out.c0
  have k1 := HI.out.c1
  have f0 := HI.out.f 0
  have f1 := HI.out.f 1
  go_enter Tryd.func12, Tryd.ntmps12
  go_wp2_with fail
  refine bodyPost_ret (v := .tuple #[.agg #[.bool false, .slice none 0 0], .int .i64 11]) (by simp [results, Tryd.results12, go_sem, k0, k1]) rfl ?_
  exact retp_flat w _ 11
set_option maxRecDepth 100000 in
set_option maxHeartbeats 16000000 in
theorem rok_pos (w : World) (x : UInt8) (r : List UInt8) (hx45 : ((x.toNat : Int) == 45) = false) (hx48 : ((x.toNat : Int) == 48) = false) (hx48' : ¬ x = 48) (z code : Int) (hlen : r.length ≤ 1000) (hbad : (x :: r).all isDig = false → z = 0 ∧ code = 11) (hlong : (x :: r).all isDig = true → 600 < r.length + 1 → z = 0 ∧ code = 3) (hgood : (x :: r).all isDig = true → ¬ 600 < r.length + 1 → zv false (dnum (x :: r)) = z ∧ code = 0) : Calls Tryd.prog 12 #[.string ⟨(x :: r).toArray⟩] w (RetPZ w z code) := by
  have HBAD := Lib.hid hbad
  have HLONG := Lib.hid hlong
  have HGOOD := Lib.hid hgood
  clear hbad hlong hgood
  have hx0 (h) : ((⟨(x :: r).toArray⟩ : ByteArray)[0]'h) = x := rfl
  have HI : Hid (Ibx (w.alloc (.cells #[.bool false, .slice none 0 0] 25)) w.heap.size false none 0 0) := Ibx.new' _ _ _ _ _ _ rfl
  have k0 := HI.out.c0
  have k1 := HI.out.c1
  have f0 := HI.out.f 0
  have f1 := HI.out.f 1
  have HW : Hid (Below w.heap.size w (w.alloc (.cells #[.bool false, .slice none 0 0] 25))) := (Below.refl _ _).alloc (Nat.le_refl _) _
  go_enter Tryd.func12, Tryd.ntmps12
  go_wp2_with fail
  go_loop [5] (fun iv => ∃ i : Nat, i ≤ r.length + 1 ∧ iv = .int .i64 (i : Int) ∧ Hid (∀ j, j < i → ∃ c, (x :: r)[j]? = some c ∧ isDig c = true)) (fun iv => r.length + 1 - (intOf iv).toNat)
  case atStart => exact ⟨0, Nat.zero_le _, rfl, fun j hj => by omega⟩
  case round =>
    obtain ⟨i, hi, rfl, HD⟩ := hrel
    by_cases hiL : i < r.length + 1
    · have hi1 : (i : Int) < (r.length : Int) + 1 := by omega
      have hi0 : (0 : Int) ≤ (i : Int) := by omega
      have hsz : i < (⟨(x :: r).toArray⟩ : ByteArray).size := by show i < (x :: r).toArray.size; rw [List.size_toArray]; exact hiL
      obtain ⟨y, hy⟩ : ∃ y : UInt8, (⟨(x :: r).toArray⟩ : ByteArray)[i]'hsz = y := ⟨_, rfl⟩
      have hyl : (x :: r)[i]? = some y := by rw [← hy]; exact Lib.data_getElem? _ i hsz
      have HY := Lib.hid hyl
      have hyb (h) : (⟨(x :: r).toArray⟩ : ByteArray)[i]'h = y := hy
      have t1 : IntKind.i64.wrap ((i : Int) + 1) = ((i + 1 : Nat) : Int) := by
        have h := IntWalk.i64_in ((i : Int) + 1) (by omega)
        rw [h]; omega
      obtain ⟨Y, hY⟩ : ∃ Y, y.toNat = Y := ⟨_, rfl⟩
      have HYY := Lib.hid hY
      clear hy hyl
      by_cases h1 : Y < 48
      · have d1 : (Y : Int) < 48 := by omega
        have HB : Hid (isDig y = false) := by show _ = _; unfold isDig; rw [HYY.out]; simp; omega
        obtain ⟨rfl, rfl⟩ := HBAD.out (not_all HY.out HB.out)
        go_wp2_with fail
        refine bodyPost_ret (v := .tuple #[.agg #[.bool false, .slice none 0 0], .int .i64 11]) (by simp [results, Tryd.results12, go_sem, k0, k1]) rfl ?_
        exact retp_flat w _ 11
      · have d1 : ¬ (Y : Int) < 48 := by omega
        by_cases h2 : Y ≤ 57
        · have d2 : ¬ (57 : Int) < (Y : Int) := by omega
          have HOK : Hid (isDig y = true) := by show _ = _; unfold isDig; rw [HYY.out]; simp; omega
          go_wp2_with fail
          go_round
          case rel => exact ⟨i + 1, by omega, rfl, dig_snoc HD.out HY.out HOK.out⟩
          case measure => first | (simp [intOf]; done) | (simp [intOf]; omega)
        · have d2 : (57 : Int) < (Y : Int) := by omega
          have HB : Hid (isDig y = false) := by show _ = _; unfold isDig; rw [HYY.out]; simp; omega
          obtain ⟨rfl, rfl⟩ := HBAD.out (not_all HY.out HB.out)
          go_wp2_with fail
          refine bodyPost_ret (v := .tuple #[.agg #[.bool false, .slice none 0 0], .int .i64 11]) (by simp [results, Tryd.results12, go_sem, k0, k1]) rfl ?_
          exact retp_flat w _ 11
    · have hi1 : ¬ (i : Int) < (r.length : Int) + 1 := by omega
      have hall := all_of HD.out (show i = (x :: r).length by rw [List.length_cons]; omega)
      by_cases hlg : 600 < r.length + 1
      · have hl6 : (600 : Int) < (r.length : Int) + 1 := by omega
        obtain ⟨rfl, rfl⟩ := HLONG.out hall hlg
        go_wp2_with fail
        refine bodyPost_ret (v := .tuple #[.agg #[.bool false, .slice none 0 0], .int .i64 3]) (by simp [results, Tryd.results12, go_sem, k0, k1]) rfl ?_
        exact retp_flat w _ 3
      · have hl6 : ¬ (600 : Int) < (r.length : Int) + 1 := by omega
        obtain ⟨hzz, rfl⟩ := HGOOD.out hall hlg
        have HZZ := Lib.hid hzz
        have HALL := Lib.hid hall
        clear hzz hall k0 k1 f0 f1
        go_wp2_with fail
        obtain ⟨w0, hw0⟩ : ∃ w0, w.alloc (.cells #[.bool false, .slice none 0 0] 25) = w0 := ⟨_, rfl⟩
        rw [hw0] at HI HW
        go_loopw [6, 7] (fun sv iv wx => ∃ (i q : Nat) (A : Option Addr) (c : Nat), i ≤ r.length + 1 ∧ iv = .int .i64 (i : Int) ∧ sv = .slice A (dig q).length c ∧ (dig q).length ≤ c ∧ Hid (q = dnum ((x :: r).take i)) ∧ Hid (Num wx A (dig q)) ∧ Hid (Below w0.heap.size w0 wx)) (fun _ iv _ => r.length + 1 - (intOf iv).toNat)
        case atStart => exact ⟨0, 0, none, 0, Nat.zero_le _, rfl, by rw [dig_zero]; rfl, by rw [dig_zero]; exact Nat.le_refl _, rfl, by rw [dig_zero]; exact Num.nil _ _, by show Below _ _ _; rw [← hw0]; exact Below.refl _ _⟩
        case round =>
          clear hw0
          obtain ⟨i, q, A, c, hi, rfl, rfl, hqc, hq, HN, HB⟩ := hrel
          have hq6 : (dig q).length ≤ 400 + 1000 := by
            rw [hq.out]
            refine Nat.le_trans (dig_len10 (dnum_lt _ _ rfl (all_take HALL.out i))) ?_
            rw [List.length_take, List.length_cons]
            omega
          by_cases hiL : i < r.length + 1
          · have hi1 : (i : Int) < (r.length : Int) + 1 := by omega
            have hi0 : (0 : Int) ≤ (i : Int) := by omega
            have hsz : i < (⟨(x :: r).toArray⟩ : ByteArray).size := by show i < (x :: r).toArray.size; rw [List.size_toArray]; exact hiL
            obtain ⟨y, hy⟩ : ∃ y : UInt8, (⟨(x :: r).toArray⟩ : ByteArray)[i]'hsz = y := ⟨_, rfl⟩
            have hyl : (x :: r)[i]? = some y := by rw [← hy]; exact Lib.data_getElem? _ i hsz
            have hyb (h) : (⟨(x :: r).toArray⟩ : ByteArray)[i]'h = y := hy
            have hyr := isDig_range (List.all_eq_true.1 HALL.out y (List.mem_of_getElem? hyl))
            have hdt := dnum_take hyl
            obtain ⟨Y, hY⟩ : ∃ Y, y.toNat = Y := ⟨_, rfl⟩
            rw [hY] at hyr hdt
            obtain ⟨v, hv⟩ : ∃ v, Y - 48 = v := ⟨_, rfl⟩
            rw [hv] at hdt
            have t1 : IntKind.i64.wrap ((i : Int) + 1) = ((i + 1 : Nat) : Int) := by
              have h := IntWalk.i64_in ((i : Int) + 1) (by omega)
              rw [h]; omega
            have t2 : IntKind.u8.wrap ((Y : Int) - 48) = (v : Int) := by
              have h := IntWalk.u8_in ((Y : Int) - 48) (by omega)
              rw [h]; omega
            have t3 : IntKind.u64.wrap (v : Int) = (v : Int) := IntWalk.u64_in _ (by omega)
            have HV64 : Hid (v < 18446744073709551616) := by show _ < _; omega
            obtain ⟨p, hp⟩ : ∃ p, q * 10 = p := ⟨_, rfl⟩
            obtain ⟨q2, hq2⟩ : ∃ q2, p + v = q2 := ⟨_, rfl⟩
            have HQ2 : Hid (q2 = dnum ((x :: r).take (i + 1))) := by show _ = _; rw [hdt, ← hq.out]; omega
            have HPL : Hid ((dig p).length ≤ 400000) := by show _ ≤ _; rw [← hp]; exact Nat.le_trans (dig_mul_len hq6 (by decide)) (by omega)
            have HP := Lib.hid hp
            have HPQ := Lib.hid hq2
            clear hy hyl hyr hdt hv hq hp hq2
            go_upto_region 18 with fail
            go_region_held3 (fun _ => True)
             (trivial)
             (first
              | (go_at_call 35; (refine (radd _ A3 _ c3 p v ?_ ?_ HPL.out).mono ?_); (first | exact HN3.out | exact HN3.out.alloc _); (first | exact Num.one _ v HV64.out | exact Num.below (Num.drew (Num.one _ v HV64.out)) hb3 | exact Num.below (Num.drew (Num.alloc (Num.one _ v HV64.out) _)) hb3 | exact Num.below (Num.drew (Num.one2 _ _ v HV64.out)) hb3); rintro e w4 ⟨A4, c4, rfl, hc4, h4, hb4⟩; have HN4 := Lib.hid h4; (first | have HB4 := Lib.hid (bel_new HB3.out hb4) | have HB4 := Lib.hid (bel_new (HB3.out.alloc HB3.out.size _) hb4)))
              | (go_at_call 36; (refine (rmul _ A _ c q ?_ ?_ (by omega)).mono ?_); (first | exact (HN.out.alloc _).drew | exact ((HN.out.alloc _).alloc _).drew); (first | exact Num.drew (Num.ten _) | exact Num.drew (Num.alloc (Num.ten _) _) | exact Num.drew (Num.ten2 _ _)); (rw [HP.out]); rintro e w3 ⟨A3, c3, rfl, hc3, h3, hb3⟩; have HN3 := Lib.hid h3; (first | have HB3 := Lib.hid (bel_new (bel_a1 HB.out _) hb3) | have HB3 := Lib.hid (bel_new (bel_a2 HB.out _ _) hb3))))
            all_goals
              clear HN3 HB3 hb3 hb4 h3 h4
              rw [HPQ.out] at hc4 HN4
              rw [HPQ.out]
              go_wp2_with fail
              go_roundw
              case rel => exact ⟨i + 1, q2, A4, c4, by omega, rfl, rfl, hc4, HQ2, HN4, HB4⟩
              case measure => first | (simp [intOf]; done) | (simp [intOf]; omega)
          · have hi1 : ¬ (i : Int) < (r.length : Int) + 1 := by omega
            have hqq : dnum (x :: r) = q := by rw [hq.out, List.take_of_length_le (by rw [List.length_cons]; omega)]
            have HMK := Lib.hid (fun V h => Go.Proofs.YtginajegbknfhaaDoor.W.make_any V false A c (dig q) z h (by rw [val_dig, ← hqq]; exact HZZ.out) (by omega))
            have I1 := HI.out.below HB.out
            have HI1 := Lib.hid I1
            have HW1 := Lib.hid (HW.out.trans (HB.out.mono HW.out.size))
            clear hqq hq I1
            go_wp2_with fail
            refine (HMK.out _ HN.out).mono ?_
            rintro e w5 ⟨A5, c5, rfl, hc5, h5, hb5⟩
            have HN5 := Lib.hid h5
            have I5 := HI1.out.below hb5
            have HI5 := Lib.hid I5
            have HW5 := Lib.hid (HW1.out.trans (hb5.mono HW1.out.size))
            have k0 := I5.c0
            have k1 := I5.c1
            have f0 := I5.f 0
            have f1 := I5.f 1
            clear h5 hb5 HI1 HW1 I5
            go_wp2_with fail
            refine bodyPost_ret (v := .tuple #[.agg #[.bool (zneg z), .slice A5 (dig z.natAbs).length c5], .int .i64 0]) (by simp [results, Tryd.results12, go_sem, k0, k1]) rfl ?_
            exact retp_of (w := w) (code := 0) rfl rfl hc5 HN5.out HI5.out (Nat.le_refl _) HW5.out (.bool (zneg z)) (.slice A5 (dig z.natAbs).length c5) rfl
end Go.Proofs.YtginajegbknfhaaDoor.D

/- The document's answer: Parse, further cases. -/
namespace Go.Proofs.YtginajegbknfhaaDoor.D
open Go.RowKit

set_option maxRecDepth 100000 in
set_option maxHeartbeats 16000000 in
theorem rbad_lead (w : World) (y : UInt8) (r : List UInt8): Calls Tryd.prog 12 #[.string ⟨(48 :: y :: r).toArray⟩] w (RetPZ w 0 11) := by
  have hx0 (h) : ((⟨((48 : UInt8) :: y :: r).toArray⟩ : ByteArray)[0]'h) = 48 := rfl
  have hl1 : (1 : Int) < (r.length : Int) + 1 + 1 := by omega
  have hl2 : (1 : Int) < ((r.length + 1 + 1 : Nat) : Int) := by omega
  have HI : Hid (Ibx (w.alloc (.cells #[.bool false, .slice none 0 0] 25)) w.heap.size false none 0 0) := Ibx.new' _ _ _ _ _ _ rfl
  have k0 := HI.out.c0
  have k1 := HI.out.c1
  have f0 := HI.out.f 0
  have f1 := HI.out.f 1
  go_enter Tryd.func12, Tryd.ntmps12
  go_wp2_with fail
  refine bodyPost_ret (v := .tuple #[.agg #[.bool false, .slice none 0 0], .int .i64 11]) (by simp [results, Tryd.results12, go_sem, k0, k1]) rfl ?_
  exact retp_flat w _ 11
set_option maxRecDepth 100000 in
set_option maxHeartbeats 16000000 in
theorem rbad_nlead (w : World) (y : UInt8) (r : List UInt8): Calls Tryd.prog 12 #[.string ⟨(45 :: 48 :: y :: r).toArray⟩] w (RetPZ w 0 11) := by
  have hx0 (h) : ((⟨((45 : UInt8) :: 48 :: y :: r).toArray⟩ : ByteArray)[0]'h) = 45 := rfl
  have hTs : (⟨((45 : UInt8) :: 48 :: y :: r).toArray⟩ : ByteArray).extract 1 (r.length + 1 + 1 + 1) = ⟨(48 :: y :: r).toArray⟩ := tail_at (48 :: y :: r)
  have hx1 (h) : ((⟨((48 : UInt8) :: y :: r).toArray⟩ : ByteArray)[0]'h) = 48 := rfl
  have hl1 : (1 : Int) < (r.length : Int) + 1 + 1 := by omega
  have hl2 : (1 : Int) < ((r.length + 1 + 1 : Nat) : Int) := by omega
  have HI : Hid (Ibx (w.alloc (.cells #[.bool false, .slice none 0 0] 25)) w.heap.size false none 0 0) := Ibx.new' _ _ _ _ _ _ rfl
  have k0 := HI.out.c0
  have k1 := HI.out.c1
  have f0 := HI.out.f 0
  have f1 := HI.out.f 1
  go_enter Tryd.func12, Tryd.ntmps12
  go_wp2_with fail
  refine bodyPost_ret (v := .tuple #[.agg #[.bool false, .slice none 0 0], .int .i64 11]) (by simp [results, Tryd.results12, go_sem, k0, k1]) rfl ?_
  exact retp_flat w _ 11
set_option maxRecDepth 100000 in
set_option maxHeartbeats 16000000 in
theorem rbad_nzero (w : World) : Calls Tryd.prog 12 #[.string ⟨([45, 48] : List UInt8).toArray⟩] w (RetPZ w 0 11) := by
  have hx0 (h) : ((⟨([(45 : UInt8), 48]).toArray⟩ : ByteArray)[0]'h) = 45 := rfl
  have hTs : (⟨([(45 : UInt8), 48]).toArray⟩ : ByteArray).extract 1 2 = ⟨#[48]⟩ := rfl
  have hx1 (h) : ((⟨#[(48 : UInt8)]⟩ : ByteArray)[0]'h) = 48 := rfl
  have HI : Hid (Ibx (w.alloc (.cells #[.bool false, .slice none 0 0] 25)) w.heap.size false none 0 0) := Ibx.new' _ _ _ _ _ _ rfl
  have k0 := HI.out.c0
  have k1 := HI.out.c1
  have f0 := HI.out.f 0
  have f1 := HI.out.f 1
  go_enter Tryd.func12, Tryd.ntmps12
  go_wp2_with fail
  refine bodyPost_ret (v := .tuple #[.agg #[.bool false, .slice none 0 0], .int .i64 11]) (by simp [results, Tryd.results12, go_sem, k0, k1]) rfl ?_
  exact retp_flat w _ 11
set_option maxRecDepth 100000 in
set_option maxHeartbeats 16000000 in
theorem rok_neg (w : World) (x : UInt8) (r : List UInt8) (hx48 : ((x.toNat : Int) == 48) = false) (hx48' : ¬ x = 48) (z code : Int) (hlen : r.length ≤ 1000) (hbad : (x :: r).all isDig = false → z = 0 ∧ code = 11) (hlong : (x :: r).all isDig = true → 600 < r.length + 1 → z = 0 ∧ code = 3) (hgood : (x :: r).all isDig = true → ¬ 600 < r.length + 1 → zv true (dnum (x :: r)) = z ∧ code = 0) : Calls Tryd.prog 12 #[.string ⟨(45 :: x :: r).toArray⟩] w (RetPZ w z code) := by
  have HBAD := Lib.hid hbad
  have HLONG := Lib.hid hlong
  have HGOOD := Lib.hid hgood
  clear hbad hlong hgood
  have hx0 (h) : ((⟨((45 : UInt8) :: x :: r).toArray⟩ : ByteArray)[0]'h) = 45 := rfl
  have hTs : (⟨((45 : UInt8) :: x :: r).toArray⟩ : ByteArray).extract 1 (r.length + 1 + 1) = ⟨(x :: r).toArray⟩ := tail_at (x :: r)
  have hx1 (h) : ((⟨(x :: r).toArray⟩ : ByteArray)[0]'h) = x := rfl
  have HI : Hid (Ibx (w.alloc (.cells #[.bool false, .slice none 0 0] 25)) w.heap.size false none 0 0) := Ibx.new' _ _ _ _ _ _ rfl
  have k0 := HI.out.c0
  have k1 := HI.out.c1
  have f0 := HI.out.f 0
  have f1 := HI.out.f 1
  have HW : Hid (Below w.heap.size w (w.alloc (.cells #[.bool false, .slice none 0 0] 25))) := (Below.refl _ _).alloc (Nat.le_refl _) _
  go_enter Tryd.func12, Tryd.ntmps12
  go_wp2_with fail
  go_loop [5] (fun iv => ∃ i : Nat, i ≤ r.length + 1 ∧ iv = .int .i64 (i : Int) ∧ Hid (∀ j, j < i → ∃ c, (x :: r)[j]? = some c ∧ isDig c = true)) (fun iv => r.length + 1 - (intOf iv).toNat)
  case atStart => exact ⟨0, Nat.zero_le _, rfl, fun j hj => by omega⟩
  case round =>
    obtain ⟨i, hi, rfl, HD⟩ := hrel
    by_cases hiL : i < r.length + 1
    · have hi1 : (i : Int) < (r.length : Int) + 1 := by omega
      have hi0 : (0 : Int) ≤ (i : Int) := by omega
      have hsz : i < (⟨(x :: r).toArray⟩ : ByteArray).size := by show i < (x :: r).toArray.size; rw [List.size_toArray]; exact hiL
      obtain ⟨y, hy⟩ : ∃ y : UInt8, (⟨(x :: r).toArray⟩ : ByteArray)[i]'hsz = y := ⟨_, rfl⟩
      have hyl : (x :: r)[i]? = some y := by rw [← hy]; exact Lib.data_getElem? _ i hsz
      have HY := Lib.hid hyl
      have hyb (h) : (⟨(x :: r).toArray⟩ : ByteArray)[i]'h = y := hy
      have t1 : IntKind.i64.wrap ((i : Int) + 1) = ((i + 1 : Nat) : Int) := by
        have h := IntWalk.i64_in ((i : Int) + 1) (by omega)
        rw [h]; omega
      obtain ⟨Y, hY⟩ : ∃ Y, y.toNat = Y := ⟨_, rfl⟩
      have HYY := Lib.hid hY
      clear hy hyl
      by_cases h1 : Y < 48
      · have d1 : (Y : Int) < 48 := by omega
        have HB : Hid (isDig y = false) := by show _ = _; unfold isDig; rw [HYY.out]; simp; omega
        obtain ⟨rfl, rfl⟩ := HBAD.out (not_all HY.out HB.out)
        go_wp2_with fail
        refine bodyPost_ret (v := .tuple #[.agg #[.bool false, .slice none 0 0], .int .i64 11]) (by simp [results, Tryd.results12, go_sem, k0, k1]) rfl ?_
        exact retp_flat w _ 11
      · have d1 : ¬ (Y : Int) < 48 := by omega
        by_cases h2 : Y ≤ 57
        · have d2 : ¬ (57 : Int) < (Y : Int) := by omega
          have HOK : Hid (isDig y = true) := by show _ = _; unfold isDig; rw [HYY.out]; simp; omega
          go_wp2_with fail
          go_round
          case rel => exact ⟨i + 1, by omega, rfl, dig_snoc HD.out HY.out HOK.out⟩
          case measure => first | (simp [intOf]; done) | (simp [intOf]; omega)
        · have d2 : (57 : Int) < (Y : Int) := by omega
          have HB : Hid (isDig y = false) := by show _ = _; unfold isDig; rw [HYY.out]; simp; omega
          obtain ⟨rfl, rfl⟩ := HBAD.out (not_all HY.out HB.out)
          go_wp2_with fail
          refine bodyPost_ret (v := .tuple #[.agg #[.bool false, .slice none 0 0], .int .i64 11]) (by simp [results, Tryd.results12, go_sem, k0, k1]) rfl ?_
          exact retp_flat w _ 11
    · have hi1 : ¬ (i : Int) < (r.length : Int) + 1 := by omega
      have hall := all_of HD.out (show i = (x :: r).length by rw [List.length_cons]; omega)
      by_cases hlg : 600 < r.length + 1
      · have hl6 : (600 : Int) < (r.length : Int) + 1 := by omega
        obtain ⟨rfl, rfl⟩ := HLONG.out hall hlg
        go_wp2_with fail
        refine bodyPost_ret (v := .tuple #[.agg #[.bool false, .slice none 0 0], .int .i64 3]) (by simp [results, Tryd.results12, go_sem, k0, k1]) rfl ?_
        exact retp_flat w _ 3
      · have hl6 : ¬ (600 : Int) < (r.length : Int) + 1 := by omega
        obtain ⟨hzz, rfl⟩ := HGOOD.out hall hlg
        have HZZ := Lib.hid hzz
        have HALL := Lib.hid hall
        clear hzz hall k0 k1 f0 f1
        go_wp2_with fail
        obtain ⟨w0, hw0⟩ : ∃ w0, w.alloc (.cells #[.bool false, .slice none 0 0] 25) = w0 := ⟨_, rfl⟩
        rw [hw0] at HI HW
        go_loopw [6, 7] (fun sv iv wx => ∃ (i q : Nat) (A : Option Addr) (c : Nat), i ≤ r.length + 1 ∧ iv = .int .i64 (i : Int) ∧ sv = .slice A (dig q).length c ∧ (dig q).length ≤ c ∧ Hid (q = dnum ((x :: r).take i)) ∧ Hid (Num wx A (dig q)) ∧ Hid (Below w0.heap.size w0 wx)) (fun _ iv _ => r.length + 1 - (intOf iv).toNat)
        case atStart => exact ⟨0, 0, none, 0, Nat.zero_le _, rfl, by rw [dig_zero]; rfl, by rw [dig_zero]; exact Nat.le_refl _, rfl, by rw [dig_zero]; exact Num.nil _ _, by show Below _ _ _; rw [← hw0]; exact Below.refl _ _⟩
        case round =>
          clear hw0
          obtain ⟨i, q, A, c, hi, rfl, rfl, hqc, hq, HN, HB⟩ := hrel
          have hq6 : (dig q).length ≤ 400 + 1000 := by
            rw [hq.out]
            refine Nat.le_trans (dig_len10 (dnum_lt _ _ rfl (all_take HALL.out i))) ?_
            rw [List.length_take, List.length_cons]
            omega
          by_cases hiL : i < r.length + 1
          · have hi1 : (i : Int) < (r.length : Int) + 1 := by omega
            have hi0 : (0 : Int) ≤ (i : Int) := by omega
            have hsz : i < (⟨(x :: r).toArray⟩ : ByteArray).size := by show i < (x :: r).toArray.size; rw [List.size_toArray]; exact hiL
            obtain ⟨y, hy⟩ : ∃ y : UInt8, (⟨(x :: r).toArray⟩ : ByteArray)[i]'hsz = y := ⟨_, rfl⟩
            have hyl : (x :: r)[i]? = some y := by rw [← hy]; exact Lib.data_getElem? _ i hsz
            have hyb (h) : (⟨(x :: r).toArray⟩ : ByteArray)[i]'h = y := hy
            have hyr := isDig_range (List.all_eq_true.1 HALL.out y (List.mem_of_getElem? hyl))
            have hdt := dnum_take hyl
            obtain ⟨Y, hY⟩ : ∃ Y, y.toNat = Y := ⟨_, rfl⟩
            rw [hY] at hyr hdt
            obtain ⟨v, hv⟩ : ∃ v, Y - 48 = v := ⟨_, rfl⟩
            rw [hv] at hdt
            have t1 : IntKind.i64.wrap ((i : Int) + 1) = ((i + 1 : Nat) : Int) := by
              have h := IntWalk.i64_in ((i : Int) + 1) (by omega)
              rw [h]; omega
            have t2 : IntKind.u8.wrap ((Y : Int) - 48) = (v : Int) := by
              have h := IntWalk.u8_in ((Y : Int) - 48) (by omega)
              rw [h]; omega
            have t3 : IntKind.u64.wrap (v : Int) = (v : Int) := IntWalk.u64_in _ (by omega)
            have HV64 : Hid (v < 18446744073709551616) := by show _ < _; omega
            obtain ⟨p, hp⟩ : ∃ p, q * 10 = p := ⟨_, rfl⟩
            obtain ⟨q2, hq2⟩ : ∃ q2, p + v = q2 := ⟨_, rfl⟩
            have HQ2 : Hid (q2 = dnum ((x :: r).take (i + 1))) := by show _ = _; rw [hdt, ← hq.out]; omega
            have HPL : Hid ((dig p).length ≤ 400000) := by show _ ≤ _; rw [← hp]; exact Nat.le_trans (dig_mul_len hq6 (by decide)) (by omega)
            have HP := Lib.hid hp
            have HPQ := Lib.hid hq2
            clear hy hyl hyr hdt hv hq hp hq2
            go_upto_region 18 with fail
            go_region_held3 (fun _ => True)
             (trivial)
             (first
              | (go_at_call 35; (refine (radd _ A3 _ c3 p v ?_ ?_ HPL.out).mono ?_); (first | exact HN3.out | exact HN3.out.alloc _); (first | exact Num.one _ v HV64.out | exact Num.below (Num.drew (Num.one _ v HV64.out)) hb3 | exact Num.below (Num.drew (Num.alloc (Num.one _ v HV64.out) _)) hb3 | exact Num.below (Num.drew (Num.one2 _ _ v HV64.out)) hb3); rintro e w4 ⟨A4, c4, rfl, hc4, h4, hb4⟩; have HN4 := Lib.hid h4; (first | have HB4 := Lib.hid (bel_new HB3.out hb4) | have HB4 := Lib.hid (bel_new (HB3.out.alloc HB3.out.size _) hb4)))
              | (go_at_call 36; (refine (rmul _ A _ c q ?_ ?_ (by omega)).mono ?_); (first | exact (HN.out.alloc _).drew | exact ((HN.out.alloc _).alloc _).drew); (first | exact Num.drew (Num.ten _) | exact Num.drew (Num.alloc (Num.ten _) _) | exact Num.drew (Num.ten2 _ _)); (rw [HP.out]); rintro e w3 ⟨A3, c3, rfl, hc3, h3, hb3⟩; have HN3 := Lib.hid h3; (first | have HB3 := Lib.hid (bel_new (bel_a1 HB.out _) hb3) | have HB3 := Lib.hid (bel_new (bel_a2 HB.out _ _) hb3))))
            all_goals
              clear HN3 HB3 hb3 hb4 h3 h4
              rw [HPQ.out] at hc4 HN4
              rw [HPQ.out]
              go_wp2_with fail
              go_roundw
              case rel => exact ⟨i + 1, q2, A4, c4, by omega, rfl, rfl, hc4, HQ2, HN4, HB4⟩
              case measure => first | (simp [intOf]; done) | (simp [intOf]; omega)
          · have hi1 : ¬ (i : Int) < (r.length : Int) + 1 := by omega
            have hqq : dnum (x :: r) = q := by rw [hq.out, List.take_of_length_le (by rw [List.length_cons]; omega)]
            have HMK := Lib.hid (fun V h => Go.Proofs.YtginajegbknfhaaDoor.W.make_any V true A c (dig q) z h (by rw [val_dig, ← hqq]; exact HZZ.out) (by omega))
            have I1 := HI.out.below HB.out
            have HI1 := Lib.hid I1
            have HW1 := Lib.hid (HW.out.trans (HB.out.mono HW.out.size))
            clear hqq hq I1
            go_wp2_with fail
            refine (HMK.out _ HN.out).mono ?_
            rintro e w5 ⟨A5, c5, rfl, hc5, h5, hb5⟩
            have HN5 := Lib.hid h5
            have I5 := HI1.out.below hb5
            have HI5 := Lib.hid I5
            have HW5 := Lib.hid (HW1.out.trans (hb5.mono HW1.out.size))
            have k0 := I5.c0
            have k1 := I5.c1
            have f0 := I5.f 0
            have f1 := I5.f 1
            clear h5 hb5 HI1 HW1 I5
            go_wp2_with fail
            refine bodyPost_ret (v := .tuple #[.agg #[.bool (zneg z), .slice A5 (dig z.natAbs).length c5], .int .i64 0]) (by simp [results, Tryd.results12, go_sem, k0, k1]) rfl ?_
            exact retp_of (w := w) (code := 0) rfl rfl hc5 HN5.out HI5.out (Nat.le_refl _) HW5.out (.bool (zneg z)) (.slice A5 (dig z.natAbs).length c5) rfl
end Go.Proofs.YtginajegbknfhaaDoor.D

/- The document's answer: Parse, further cases. -/
namespace Go.Proofs.YtginajegbknfhaaDoor.D
open Go.RowKit

theorem dig_zlen' : (dig ((0 : Int).natAbs)).length = 0 := by rw [show (0 : Int).natAbs = 0 from rfl, dig_zero]; rfl
theorem dz_len (A : Option Addr) (c : Nat) : (Value.slice A 0 c) = .slice A (dig 0).length c := by rw [dig_zero]; rfl
theorem rmul0 (W : World) (A B : Option Addr) (c : Nat) (hb : Num W B [10]) :
    Calls Tryd.prog 36 #[.slice A 0 c, .slice B 1 1] W (fun e w' => ∃ A' c', e = .returned (.slice A' 0 c') ∧ Below W.heap.size W w') := by
  have h := rmul W A B c 0 (by rw [dig_zero]; exact Num.nil _ _) hb (by rw [dig_zero]; decide)
  rw [dig_zero] at h
  refine h.mono ?_
  rintro e w' ⟨A', c', rfl, _, _, hb⟩
  exact ⟨A', c', by rw [Nat.zero_mul, dig_zero]; rfl, hb⟩
theorem radd0 (W : World) (A B : Option Addr) (c : Nat) (hb : Num W B [0]) :
    Calls Tryd.prog 35 #[.slice A 0 c, .slice B 1 1] W (fun e w' => ∃ A' c', e = .returned (.slice A' 0 c') ∧ Below W.heap.size W w') := by
  have h := radd W A B c 0 0 (by rw [dig_zero]; exact Num.nil _ _) hb (by rw [dig_zero]; decide)
  rw [dig_zero] at h
  refine h.mono ?_
  rintro e w' ⟨A', c', rfl, _, _, hb⟩
  exact ⟨A', c', by rw [Nat.add_zero, dig_zero]; rfl, hb⟩
theorem Num.nought (w : World) : Num (w.alloc (.cells #[.int .u64 0] 31)) (some ⟨w.heap.size, 0, none⟩) [0] := Num.one w 0 (by decide)
theorem Num.nought2 (w : World) (o : Obj) : Num ((w.alloc o).alloc (.cells #[.int .u64 0] 31)) (some ⟨w.heap.size + 1, 0, none⟩) [0] := Num.one2 w o 0 (by decide)
theorem rmake0 (W : World) (A : Option Addr) (c : Nat) : Calls Tryd.prog 37 #[.bool false, .slice A 0 c] W (RetZ W 0) :=
  Go.Proofs.YtginajegbknfhaaDoor.W.make_any W false A c [] 0 (Num.nil _ _) rfl (by simp)
set_option maxRecDepth 100000 in
set_option maxHeartbeats 16000000 in
theorem rok_zero (w : World) : Calls Tryd.prog 12 #[.string ⟨#[48]⟩] w (RetPZ w 0 0) := by
  have hx0 (h) : ((⟨#[(48 : UInt8)]⟩ : ByteArray)[0]'h) = 48 := rfl
  have HI : Hid (Ibx (w.alloc (.cells #[.bool false, .slice none 0 0] 25)) w.heap.size false none 0 0) := Ibx.new' _ _ _ _ _ _ rfl
  have HW : Hid (Below w.heap.size w (w.alloc (.cells #[.bool false, .slice none 0 0] 25))) := (Below.refl _ _).alloc (Nat.le_refl _) _
  go_enter Tryd.func12, Tryd.ntmps12
  go_wp2_with fail
  go_loop [5] (fun iv => ∃ i : Nat, i ≤ 1 ∧ iv = .int .i64 (i : Int)) (fun iv => 1 - (intOf iv).toNat)
  case atStart => exact ⟨0, by omega, rfl⟩
  case round =>
    obtain ⟨i, hi, rfl⟩ := hrel
    by_cases h1 : i = 1
    · subst h1
      go_wp2_with fail
      obtain ⟨w0, hw0⟩ : ∃ w0, w.alloc (.cells #[.bool false, .slice none 0 0] 25) = w0 := ⟨_, rfl⟩
      rw [hw0] at HI HW
      go_loopw [6, 7] (fun sv iv wx => ∃ (i : Nat) (A : Option Addr) (c : Nat), i ≤ 1 ∧ iv = .int .i64 (i : Int) ∧ sv = .slice A 0 c ∧ Hid (Below w0.heap.size w0 wx)) (fun _ iv _ => 1 - (intOf iv).toNat)
      case atStart => exact ⟨0, none, 0, by omega, rfl, rfl, by show Below _ _ _; rw [← hw0]; exact Below.refl _ _⟩
      case round =>
        clear hw0
        obtain ⟨i, A, c, hi, rfl, rfl, HB⟩ := hrel
        by_cases h2 : i = 1
        · subst h2
          have I1 := HI.out.below HB.out
          have HI1 := Lib.hid I1
          have HW1 := Lib.hid (HW.out.trans (HB.out.mono HW.out.size))
          clear I1
          go_wp2_with fail
          refine (rmake0 _ A c).mono ?_
          rintro e w5 ⟨A5, c5, rfl, hc5, h5, hb5⟩
          have HN5 := Lib.hid h5
          have I5 := HI1.out.below hb5
          have HI5 := Lib.hid I5
          have HW5 := Lib.hid (HW1.out.trans (hb5.mono HW1.out.size))
          have k0 := I5.c0
          have k1 := I5.c1
          have f0 := I5.f 0
          have f1 := I5.f 1
          rw [show zneg 0 = false from rfl]
          have hz : (dig (0 : Int).natAbs).length = 0 := dig_zlen'
          rw [hz]
          rw [hz] at hc5
          clear h5 hb5 HI1 HW1 I5 hz
          go_wp2_with fail
          refine bodyPost_ret (v := .tuple #[.agg #[.bool false, .slice A5 0 c5], .int .i64 0]) (by simp [results, Tryd.results12, go_sem, k0, k1]) rfl ?_
          exact ⟨A5, c5, by rw [dig_zlen']; rfl, by rw [dig_zlen']; exact hc5, HN5.out.two HI5.out _ _, (HW5.out.setCell (Nat.le_refl _) _).setCell (Nat.le_refl _) _⟩
        · obtain rfl : i = 0 := by omega
          go_upto_region 18 with fail
          go_region_held3 (fun _ => True)
           (trivial)
           (first
            | (go_at_call 35; (refine (radd0 _ A3 _ c3 ?_).mono ?_); (first | exact Num.nought _ | exact Num.below (Num.drew (Num.nought _)) hb3 | exact Num.below (Num.drew (Num.alloc (Num.nought _) _)) hb3 | exact Num.below (Num.drew (Num.nought2 _ _)) hb3); rintro e w4 ⟨A4, c4, rfl, hb4⟩; (first | have HB4 := Lib.hid (bel_new HB3.out hb4) | have HB4 := Lib.hid (bel_new (HB3.out.alloc HB3.out.size _) hb4)))
            | (go_at_call 36; (refine (rmul0 _ A _ c ?_).mono ?_); (first | exact Num.drew (Num.ten _) | exact Num.drew (Num.alloc (Num.ten _) _) | exact Num.drew (Num.ten2 _ _)); rintro e w3 ⟨A3, c3, rfl, hb3⟩; (first | have HB3 := Lib.hid (bel_new (bel_a1 HB.out _) hb3) | have HB3 := Lib.hid (bel_new (bel_a2 HB.out _ _) hb3))))
          all_goals
            clear HB3 hb3 hb4
            go_wp2_with fail
            go_roundw
            case rel => exact ⟨1, A4, c4, by omega, rfl, rfl, HB4⟩
            case measure => first | (simp [intOf]; done) | (simp [intOf]; omega)
    · obtain rfl : i = 0 := by omega
      go_wp2_with fail
      go_round
      case rel => exact ⟨1, by omega, rfl⟩
      case measure => first | (simp [intOf]; done) | (simp [intOf]; omega)
end Go.Proofs.YtginajegbknfhaaDoor.D

/- The document's Parse: all cases together. -/
namespace Go.Proofs.YtginajegbknfhaaDoor.D
open Go.RowKit

theorem toNat_ne {x : UInt8} {n : Nat} (h : x.toNat ≠ n) : ((x.toNat : Int) == (n : Int)) = false := by rw [beq_eq_false_iff_ne]; omega
theorem signed_no {x : UInt8} {r : List UInt8} (h : x ≠ 45) : signed (x :: r) = false := by
  cases hs : signed (x :: r) with
  | false => rfl
  | true => exact absurd (List.cons.inj (signed_of hs)).1 h
theorem parse_pos {x : UInt8} {r : List UInt8} {b : Bool} (h : x ≠ 48) : isNumB (x :: r) b = (x :: r).all isDig := by
  unfold isNumB
  have : (x == 48) = false := by rw [beq_eq_false_iff_ne]; exact h
  simp [this]
theorem rparse_any (w : World) (l : List UInt8) (z code : Int) (hz : parseV l = (z, code)) (hl : l.length ≤ 1000) :
    Calls Tryd.prog 12 #[.string ⟨l.toArray⟩] w (RetPZ w z code) := by
  match l with
  | [] =>
    obtain ⟨rfl, rfl⟩ : (0 : Int) = z ∧ (11 : Int) = code := by
      have h : parseV [] = (0, 11) := by decide
      rw [h] at hz
      exact ⟨congrArg Prod.fst hz, congrArg Prod.snd hz⟩
    exact rbad_nil w
  | x :: r =>
    by_cases h45 : x = 45
    · subst h45
      match r with
      | [] =>
        obtain ⟨rfl, rfl⟩ : (0 : Int) = z ∧ (11 : Int) = code := by
          have h : parseV [45] = (0, 11) := by decide
          rw [h] at hz
          exact ⟨congrArg Prod.fst hz, congrArg Prod.snd hz⟩
        exact rbad_sign w
      | y :: r =>
        have hp : parseV (45 :: y :: r) = if isNumB (y :: r) true then (if 600 < (y :: r).length then (0, 3) else (zv true (dnum (y :: r)), 0)) else (0, 11) := by
          unfold parseV
          rw [signed_cons, behind_cons]
        rw [hp] at hz
        by_cases h48 : y = 48
        · subst h48
          have hb : isNumB (48 :: r) true = false := by unfold isNumB; simp
          rw [hb] at hz
          obtain ⟨rfl, rfl⟩ : (0 : Int) = z ∧ (11 : Int) = code := ⟨congrArg Prod.fst hz, congrArg Prod.snd hz⟩
          match r with
          | [] => exact rbad_nzero w
          | u :: r => exact rbad_nlead w u r
        · rw [parse_pos h48] at hz
          refine rok_neg w y r (toNat_ne (n := 48) (fun e => h48 (UInt8.toNat_inj.1 e))) h48 z code (by simp at hl; omega) ?_ ?_ ?_
          · intro ha
            rw [ha] at hz
            exact ⟨(congrArg Prod.fst hz).symm, (congrArg Prod.snd hz).symm⟩
          · intro ha hlg
            rw [ha, if_pos rfl, if_pos (by rw [List.length_cons]; exact hlg)] at hz
            exact ⟨(congrArg Prod.fst hz).symm, (congrArg Prod.snd hz).symm⟩
          · intro ha hlg
            rw [ha, if_pos rfl, if_neg (by rw [List.length_cons]; exact hlg)] at hz
            exact ⟨congrArg Prod.fst hz, (congrArg Prod.snd hz).symm⟩
    · have hp : parseV (x :: r) = if isNumB (x :: r) false then (if 600 < (x :: r).length then (0, 3) else (zv false (dnum (x :: r)), 0)) else (0, 11) := by
        unfold parseV
        rw [behind_of (signed_no h45), signed_no h45]
      rw [hp] at hz
      by_cases h48 : x = 48
      · subst h48
        match r with
        | [] =>
          obtain ⟨rfl, rfl⟩ : (0 : Int) = z ∧ (0 : Int) = code := by
            have h : (if isNumB [48] false = true then (if 600 < ([48] : List UInt8).length then ((0 : Int), (3 : Int)) else (zv false (dnum [48]), 0)) else (0, 11)) = (0, 0) := by decide
            rw [h] at hz
            exact ⟨congrArg Prod.fst hz, congrArg Prod.snd hz⟩
          exact rok_zero w
        | u :: r =>
          have hb : isNumB (48 :: u :: r) false = false := by unfold isNumB; simp
          rw [hb] at hz
          obtain ⟨rfl, rfl⟩ : (0 : Int) = z ∧ (11 : Int) = code := ⟨congrArg Prod.fst hz, congrArg Prod.snd hz⟩
          exact rbad_lead w u r
      · rw [parse_pos h48] at hz
        refine rok_pos w x r (toNat_ne (n := 45) (fun e => h45 (UInt8.toNat_inj.1 e))) (toNat_ne (n := 48) (fun e => h48 (UInt8.toNat_inj.1 e))) h48 z code (by simp at hl; omega) ?_ ?_ ?_
        · intro ha
          rw [ha] at hz
          exact ⟨(congrArg Prod.fst hz).symm, (congrArg Prod.snd hz).symm⟩
        · intro ha hlg
          rw [ha, if_pos rfl, if_pos (by rw [List.length_cons]; exact hlg)] at hz
          exact ⟨(congrArg Prod.fst hz).symm, (congrArg Prod.snd hz).symm⟩
        · intro ha hlg
          rw [ha, if_pos rfl, if_neg (by rw [List.length_cons]; exact hlg)] at hz
          exact ⟨congrArg Prod.fst hz, (congrArg Prod.snd hz).symm⟩
end Go.Proofs.YtginajegbknfhaaDoor.D
