/- The document's answer: Text. -/
import Derived.Test.YtginajegbknfhaaDoorDBackH
import Derived.Test.YtginajegbknfhaaDoorDMake
namespace Go.Proofs.YtginajegbknfhaaDoor.E
open Go.RowKit
open Go.Proofs.YtginajegbknfhaaDoor.D (sizeText textOf hideC digit_at cat2 RetS textOf_neg textOf_pos Tab)

theorem size_app {n : Nat} (h : n ≠ 0) : sizeText n = sizeText (n / 10) ++ [UInt8.ofNat (48 + n % 10)] := by
  unfold sizeText
  rw [if_neg h]
  by_cases h1 : n < 10
  · rw [if_pos (by omega), Lib.decDigits_one h1, show n % 10 = n by omega]; rfl
  · rw [if_neg (by omega), Lib.decDigits, dif_neg h1]
theorem rep_set (i E : Nat) (qs : List Nat) : (List.replicate (i + 1) 0 ++ qs).set i E = List.replicate i 0 ++ E :: qs := by
  rw [List.replicate_succ', List.append_assoc, List.set_append_right _ _ (by simp)]
  simp
set_option maxRecDepth 100000 in
set_option maxHeartbeats 16000000 in
theorem rtext_any (w : World) (s : Bool) (A : Option Addr) (c : Nat) (xs : List Nat) (z : Int) (l : List UInt8) (ha : Go.Proofs.YtginajegbknfhaaDoor.Num w A xs) (hx : zv s (Go.Proofs.YtginajegbknfhaaDoor.val xs) = z) (hl : textOf z = l) (hn : xs.length ≤ 1000) :
    Calls Tryd.prog 13 #[.agg #[.bool s, .slice A xs.length c]] w (RetS w l) := by
  have hl1 := dl_small ha.1
  have hsl := D.sizeText_len ha.1 hn
  have H1 := Lib.hid (fun o => small_any (w.alloc o) A c xs (ha.alloc o) (by omega))
  have hzn : z.natAbs = Go.Proofs.YtginajegbknfhaaDoor.val xs := by rw [← hx, zv_natAbs]
  obtain ⟨n, hva⟩ : ∃ n, Go.Proofs.YtginajegbknfhaaDoor.val xs = n := ⟨_, rfl⟩
  rw [hva] at hl1 H1 hsl hzn hx
  have hl8 : (dig n).length ≤ 8000 := by omega
  have HL8 := Lib.hid hl8
  have HSL := Lib.hid hsl
  have HZN := Lib.hid hzn
  have HX := Lib.hid hx
  have HLL := Lib.hid hl
  have HW0 : Hid (Below w.heap.size w (w.alloc (.cells #[.bool s, .slice A xs.length c] 25))) := (Below.refl _ _).alloc (Nat.le_refl _) _
  have HK0 : Hid (C2 w.heap.size (.bool s) (.slice A xs.length c) (w.alloc (.cells #[.bool s, .slice A xs.length c] 25))) := C2.base _ _ _ _
  clear ha hx hl hva hl1 hsl hzn hl8
  go_enter Tryd.func13, Tryd.ntmps13
  go_wp2_with fail
  refine (H1.out _).mono ?_
  rintro e w1 ⟨A1, c1, rfl, hc1, h1, hb1⟩
  have HN1 := Lib.hid h1
  have HB1 := Lib.hid (HW0.out.trans (hb1.mono HW0.out.size))
  have HK1 := Lib.hid (C2.below hb1 HK0.out)
  clear h1 hb1 HW0 HK0 H1
  go_wp2_with fail
  go_loopg [3, 4] n (fun G dv tv wr => ∃ (t : List UInt8) (A' : Option Addr) (c' : Nat), dv = .slice A' (dig G).length c' ∧ tv = .string ⟨t.toArray⟩ ∧ (dig G).length ≤ c' ∧ (dig G).length ≤ 8000 ∧ Hid (sizeText n = sizeText G ++ t) ∧ Hid (Num wr A' (dig G)) ∧ Hid (Below w1.heap.size w1 wr))
  case atStart => exact ⟨[], A1, c1, rfl, rfl, hc1, HL8.out, by show _ = _; rw [List.append_nil], HN1, Below.refl _ _⟩
  case round =>
    obtain ⟨t, A', c', rfl, rfl, hc', hG8, ht, HN, HB⟩ := hrel
    by_cases h0 : gk = 0
    · have hz : ¬ (0 : Int) < ((dig gk).length : Int) := by rw [h0, dig_zero]; simp
      have htn : sizeText n = t := by
        have h := ht.out
        rw [h0] at h
        exact h
      have HBW := Lib.hid (HB1.out.trans (HB.out.mono HB1.out.size))
      have k0 := (C2.below HB.out HK1.out).1
      by_cases hn0 : n = 0
      · have htt : t = [] := by rw [← htn, hn0]; rfl
        have HF : Hid ([48] = l) := by
          show _ = _
          rw [← HLL.out, ← HX.out, hn0, zv_zero]; rfl
        subst htt
        clear ht htn h0 hn0
        go_wp2_with fail
        go_ret
        exact ⟨by rw [← HF.out]; rfl, HBW.out⟩
      · obtain ⟨x, u, hxu⟩ : ∃ x u, t = x :: u := by
          obtain ⟨x, u, e, _⟩ := D.dg_top (Nat.pos_of_ne_zero hn0)
          refine ⟨x, u, ?_⟩
          rw [← htn]
          unfold sizeText
          rw [if_neg hn0, e]
        have htl : t.length ≤ 64000 := by rw [← htn]; exact HSL.out
        have hul : (x :: u).length ≤ 64000 := by rw [← hxu]; exact htl
        cases s with
        | true =>
          have HF : Hid (45 :: x :: u = l) := by
            show _ = _
            have hzz : z < 0 := by rw [← HX.out]; unfold zv; simp; omega
            rw [← HLL.out, textOf_neg hzz, HZN.out, htn, hxu]
          have hcat : (⟨#[45]⟩ ++ ⟨(x :: u).toArray⟩ : ByteArray) = ⟨l.toArray⟩ := cat2 HF.out
          have hl2 : ¬ (9223372036854775807 < 1 + (u.length + 1)) := by simp at hul; omega
          subst hxu
          clear ht htn h0 hn0 htl hul
          go_wp2_with fail
          go_ret
          exact ⟨rfl, HBW.out⟩
        | false =>
          have HF : Hid (x :: u = l) := by
            show _ = _
            have hzz : 0 < z := by rw [← HX.out]; unfold zv; simp; omega
            rw [← HLL.out, textOf_pos hzz, HZN.out, htn, hxu]
          subst hxu
          clear ht htn h0 hn0 htl hul
          go_wp2_with fail
          go_ret
          exact ⟨by rw [← HF.out]; rfl, HBW.out⟩
    · obtain ⟨wo, rfl⟩ : ∃ x, x = wr := ⟨wr, rfl⟩
      have hz : (0 : Int) < ((dig gk).length : Int) := by
        have := mt dig_nil_iff.1 h0
        omega
      have hmk := run_make_u64' ((dig gk).length : Int) (dig gk).length rfl (by omega)
      have HG0 := Lib.hid h0
      obtain ⟨L, hL⟩ : ∃ L, (dig gk).length = L := ⟨_, rfl⟩
      have HLE := Lib.hid hL
      rw [hL] at hz hmk hc' hG8
      rw [hL]
      clear h0 hL
      go_wp2_with fail
      clear hmk
      go_loopw [5, 7] (fun rv iv wx => ∃ (m r : Nat) (qs : List Nat), m ≤ L ∧ iv = .int .i64 ((m : Int) - 1) ∧ rv = .int .i64 (r : Int) ∧ r < 10 ∧ qs.length + m = L ∧ Digs qs ∧ Hid (r = val ((dig gk).drop m) % 10) ∧ Hid (val qs = val ((dig gk).drop m) / 10) ∧ Blk wx wo.heap.size (List.replicate m 0 ++ qs) ∧ Below wo.heap.size wo wx) (fun _ iv _ => (intOf iv + 1).toNat)
      case atStart => exact ⟨L, 0, [], Nat.le_refl _, by go_num, rfl, by omega, by simp, Digs.nil, by show _ = _; rw [← HLE.out]; simp [val_nil], by show _ = _; rw [← HLE.out]; simp [val_nil], by rw [List.append_nil]; exact Blk.made wo _, (Below.refl _ _).alloc (Nat.le_refl _) _⟩
      case round =>
        obtain ⟨m, r, qs, hm, rfl, rfl, hr10, hql, hqd, hr, hq, hblk, hbel⟩ := hrel
        cases m with
        | succ i =>
          have hil : i < L := by omega
          have hild : i < (dig gk).length := by rw [HLE.out]; exact hil
          obtain ⟨b0, o0, rfl, hb0, hcell⟩ := (HN.out.below hbel).at_ (by omega)
          have hx := hcell i hild
          obtain ⟨x, hxe⟩ : ∃ x, dg (dig gk) i = x := ⟨_, rfl⟩
          have hx256 : x < 256 := by rw [← hxe]; exact dg_lt (dig_digs gk) i
          rw [hxe] at hx
          have hdrop := drop_pred hild
          rw [hxe] at hdrop
          obtain ⟨R2, hR2⟩ : ∃ R, 256 * r = R := ⟨_, rfl⟩
          obtain ⟨cur, hcur⟩ : ∃ R, R2 + x = R := ⟨_, rfl⟩
          obtain ⟨E2, hE2⟩ : ∃ R, cur / 10 = R := ⟨_, rfl⟩
          obtain ⟨r2, hr2⟩ : ∃ R, cur % 10 = R := ⟨_, rfl⟩
          have t1 : IntKind.i64.wrap (256 * (r : Int)) = (R2 : Int) := by
            have h := IntWalk.i64_in (256 * (r : Int)) (by omega)
            rw [h]; omega
          have t2 : IntKind.i64.wrap ((R2 : Int) + (x : Int)) = (cur : Int) := by
            have h := IntWalk.i64_in ((R2 : Int) + (x : Int)) (by omega)
            rw [h]; omega
          have t3 : (cur : Int) / 10 = (E2 : Int) := by omega
          have t4 : (cur : Int) % 10 = (r2 : Int) := by omega
          have t5 : (cur : Int).tdiv 10 = (E2 : Int) := by rw [Int.tdiv_eq_ediv_of_nonneg (by omega)]; exact t3
          have t6 : (cur : Int).tmod 10 = (r2 : Int) := by rw [Int.tmod_eq_emod_of_nonneg (by omega)]; exact t4
          have t7 : IntKind.i64.wrap (E2 : Int) = (E2 : Int) := IntWalk.i64_in _ (by omega)
          have t8 : IntKind.i64.wrap (r2 : Int) = (r2 : Int) := IntWalk.i64_in _ (by omega)
          have hE256 : E2 < 256 := by omega
          have hvv : val ((dig gk).drop i) = x + 256 * val ((dig gk).drop (i + 1)) := by rw [hdrop]; exact val_cons _ _
          have hr' := hr.out
          have hq' := hq.out
          obtain ⟨V, hV⟩ : ∃ V, val ((dig gk).drop (i + 1)) = V := ⟨_, rfl⟩
          rw [hV] at hvv hr' hq'
          have HR3 : Hid (r2 = val ((dig gk).drop i) % 10) := by show _ = _; rw [hvv]; omega
          have HQ3 : Hid (val (E2 :: qs) = val ((dig gk).drop i) / 10) := by show _ = _; rw [hvv, val_cons, B64_eq, hq']; omega
          have HR10 : Hid (r2 < 10) := by show _ < _; omega
          have HQL : Hid ((E2 :: qs).length + i = L) := by show _ = _; rw [List.length_cons]; omega
          have HQD : Hid (Digs (E2 :: qs)) := Digs.cons (by rw [B64_eq]; exact hE256) hqd
          have hoc := hblk.cell (i := i) (by simp; omega)
          rw [show dg (List.replicate (i + 1) 0 ++ qs) i = 0 by rw [dg_append_left (by simp), dg_of_lt (by simp)]; simp] at hoc
          have hof := hblk.frozen i
          have HBLK : Hid (Blk (wr.setCell ⟨wo.heap.size, i, none⟩ (.int .i64 (E2 : Int))) wo.heap.size (List.replicate i 0 ++ E2 :: qs)) := by
            have h := hblk.set_ i E2
            rw [rep_set] at h
            exact h
          have HBEL : Hid (Below wo.heap.size wo (wr.setCell ⟨wo.heap.size, i, none⟩ (.int .i64 (E2 : Int)))) := hbel.setCell (Nat.le_refl _) _
          have hi0 : (0 : Int) ≤ (i : Int) := by omega
          have hiL : (i : Int) < (L : Int) := by omega
          clear hcell hxe hx256 hdrop hR2 hcur hE2 hr2 hE256 hvv hr' hq' hV hr hq hblk hbel hqd hql hm hild hil
          go_wp2_with fail
          go_roundw
          case rel => exact ⟨i, r2, E2 :: qs, by omega, by go_num, rfl, HR10.out, HQL.out, HQD.out, HR3, HQ3, HBLK.out, HBEL.out⟩
          case measure => first | (simp [intOf]; done) | (simp [intOf]; omega)
        | zero =>
          have hqL : qs.length = L := by omega
          have hr2 := hr.out
          have hq2 := hq.out
          rw [List.drop_zero, val_dig] at hr2 hq2
          rw [List.replicate_zero, List.nil_append] at hblk
          have HRG : Hid (sizeText gk = sizeText (gk / 10) ++ [UInt8.ofNat (48 + r)]) := by show _ = _; rw [size_app HG0.out, hr2]
          obtain ⟨C, hC⟩ : ∃ C, UInt8.ofNat (48 + r) = C := ⟨_, rfl⟩
          obtain ⟨r1, hr1⟩ : ∃ r1, r + 1 = r1 := ⟨_, rfl⟩
          have hw1 : IntKind.i64.wrap ((r : Int) + 1) = (r1 : Int) := by
            have h := IntWalk.i64_in ((r : Int) + 1) (by omega)
            rw [h]; omega
          have hs0 : (0 : Int) ≤ (r : Int) := by omega
          have hs1 : (r : Int) ≤ (r1 : Int) := by omega
          have hs2 : (r1 : Int) ≤ 10 := by omega
          have hex : (⟨#[48, 49, 50, 51, 52, 53, 54, 55, 56, 57]⟩ : ByteArray).extract r r1 = ⟨#[C]⟩ := by rw [← hr1, ← hC]; exact digit_at hr10
          obtain ⟨T2, hT2⟩ : ∃ T2, [C] ++ t = T2 := ⟨_, rfl⟩
          have hcat : (⟨#[C]⟩ ++ ⟨t.toArray⟩ : ByteArray) = ⟨T2.toArray⟩ := cat2 hT2
          have htl : t.length ≤ 64000 := by
            have h := congrArg List.length ht.out
            rw [List.length_append] at h
            have := HSL.out
            omega
          have htl2 : ¬ (9223372036854775807 < 1 + t.length) := by omega
          have HT2 : Hid (sizeText n = sizeText (gk / 10) ++ T2) := by
            show _ = _
            rw [ht.out, HRG.out, hC, List.append_assoc, hT2]
          have HOS := Lib.hid hqd
          have HV : Hid (val qs = gk / 10) := hq2
          have HBK := Lib.hid hblk
          have HBE := Lib.hid (HB.out.trans (hbel.mono HB.out.size))
          have HNQ := Lib.hid (hblk.num hqd)
          have HL0 : Hid (qs.length = L) := hqL
          have hL8 : L ≤ 8000 := hG8
          clear hr2 hq2 hr hq hr10 hC hr1 hT2 htl ht hqd hblk hbel hql hqL hm HN
          go_wp2_with fail
          go_loop [9] (fun nv => ∃ k : Nat, k ≤ L ∧ nv = .int .i64 (k : Int) ∧ Hid (val (qs.take k) = val qs)) (fun nv => (intOf nv).toNat)
          case atStart => exact ⟨L, Nat.le_refl _, rfl, by show _ = _; rw [← HL0.out, List.take_length]⟩
          case round =>
            obtain ⟨k, hk, rfl, hv⟩ := hrel
            cases k with
            | zero =>
              have HKL : 0 ≤ L := Nat.zero_le _
              have hdt : dig (gk / 10) = qs.take 0 := by rw [← HV.out]; exact dig_take_of HOS.out (by rw [HL0.out]; exact hk) hv.out (.inl rfl)
              have hdl : (dig (gk / 10)).length = 0 := by rw [hdt, List.length_take, HL0.out]; exact Nat.min_eq_left hk
              have HDL := Lib.hid hdl
              have HNT : Hid (Num wr (some ⟨wo.heap.size, 0, none⟩) (dig (gk / 10))) := by rw [hdt]; exact HNQ.out.take _
              have HM : Hid (gk / 10 < gk) := by show _ < _; have := HG0.out; omega
              clear hdt hdl
              go_wp2_with fail
              go_roundg (gk / 10)
              case measure => exact HM.out
              case rel => exact ⟨T2, some ⟨wo.heap.size, 0, none⟩, L, by rw [HDL.out], rfl, by rw [HDL.out]; exact HKL, by rw [HDL.out]; exact Nat.le_trans HKL hL8, HT2, HNT, HBE⟩
            | succ j =>
              have HKL : j + 1 ≤ L := hk
              have hjL : (j : Int) < (L : Int) := by omega
              have hj0 : (0 : Int) ≤ (j : Int) := by omega
              have hjp : (0 : Int) < ((j + 1 : Nat) : Int) := by omega
              have hck := HBK.out.cell (i := j) (by rw [HL0.out]; omega)
              have t1 : IntKind.i64.wrap (((j + 1 : Nat) : Int) - 1) = (j : Int) := by
                have h := IntWalk.i64_in (((j + 1 : Nat) : Int) - 1) (by omega)
                rw [h]; omega
              have t2 : IntKind.i64.wrap (j : Int) = (j : Int) := IntWalk.i64_in _ (by omega)
              obtain ⟨y, hy⟩ : ∃ y, dg qs j = y := ⟨_, rfl⟩
              rw [hy] at hck
              by_cases hz2 : y = 0
              · have hz' : ((y : Int) == 0) = true := by rw [hz2]; rfl
                have HZ : Hid (dg qs (j + 1 - 1) = 0) := by show _ = _; rw [Nat.add_sub_cancel, hy, hz2]
                clear hz2 hy
                go_wp2_with fail
                go_round
                case rel => exact ⟨j, by omega, by first | rfl | (congr 1; omega), (val_take_pred (Nat.succ_ne_zero j) HZ.out).trans hv.out⟩
                case measure => first | (simp [intOf]; done) | (simp [intOf]; omega)
              · have hz' : ((y : Int) == 0) = false := by rw [beq_eq_false_iff_ne]; omega
                have hne : dg qs (j + 1 - 1) ≠ 0 := by rw [Nat.add_sub_cancel, hy]; exact hz2
                have hdt : dig (gk / 10) = qs.take (j + 1) := by rw [← HV.out]; exact dig_take_of HOS.out (by rw [HL0.out]; exact hk) hv.out (.inr hne)
                have hdl : (dig (gk / 10)).length = j + 1 := by rw [hdt, List.length_take, HL0.out]; exact Nat.min_eq_left hk
                have HDL := Lib.hid hdl
                have HNT : Hid (Num wr (some ⟨wo.heap.size, 0, none⟩) (dig (gk / 10))) := by rw [hdt]; exact HNQ.out.take _
                have HM : Hid (gk / 10 < gk) := by show _ < _; have := HG0.out; omega
                clear hdt hdl hne hz2 hy
                go_wp2_with fail
                go_roundg (gk / 10)
                case measure => exact HM.out
                case rel => exact ⟨T2, some ⟨wo.heap.size, 0, none⟩, L, by rw [HDL.out], rfl, by rw [HDL.out]; exact HKL, by rw [HDL.out]; exact Nat.le_trans HKL hL8, HT2, HNT, HBE⟩
end Go.Proofs.YtginajegbknfhaaDoor.E
