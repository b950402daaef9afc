/- PTop: several texts in one. -/
import Derived.Test.YtbbncggaaibheaaGreatDoorEAll
import Derived.Test.YtbbncggaaibheaaGreatDoorWholeI
import Derived.Test.YtbbncggaaibheaaGreatDoorDBackH
import Derived.Test.YtbbncggaaibheaaGreatDoorWTop
import Derived.Test.YtbbncggaaibheaaGreatDoorQLow
import Derived.Test.YtbbncggaaibheaaGreatDoorQOps
namespace Go.Proofs.YtbbncggaaibheaaGreatDoor.E
open Go.RowKit
open Go.Proofs.YtbbncggaaibheaaGreatDoor.D (sizeText textOf hideC digit_at cat2 RetS textOf_neg textOf_pos Tab)
theorem size_app {n : Nat} (h : n ≠ 0) : sizeText n = sizeText (n / 10) ++ [UInt8.ofNat (48 + n % 10)] := by
 unfold sizeText
 rw [if_neg h]
 by_cases h1 : n < 10
 ·rw [if_pos (by omega), Lib.decDigits_one h1, show n % 10 = n by omega]; rfl
 ·rw [if_neg (by omega), Lib.decDigits, dif_neg h1]
theorem rep_set (i E : Nat) (qs : List Nat) : (List.replicate (i + 1) 0 ++ qs).set i E = List.replicate i 0 ++ E :: qs := by
 rw [List.replicate_succ', List.append_assoc, List.set_append_right _ _ (by simp)]
 simp
set_option maxRecDepth 100000 in
set_option maxHeartbeats 16000000 in
theorem rtext_any (w : World) (s : Bool) (A : Option Addr) (c : Nat) (xs : List Nat) (z : Int) (l : List UInt8) (ha : Go.Proofs.YtbbncggaaibheaaGreatDoor.Num w A xs) (hx : zv s (Go.Proofs.YtbbncggaaibheaaGreatDoor.val xs) = z) (hl : textOf z = l) (hn : xs.length ≤ 1000) :
  Calls Tryz.prog 98 #[.agg #[.bool s, .slice A xs.length c]] w (RetS w l) := by
 have hl1 := dl_small ha.1
 have hsl := D.sizeText_len ha.1 hn
 have H1 := Lib.hid (fun o => small_any (w.alloc o) A c xs (ha.alloc o) (by omega))
 have hzn : z.natAbs = Go.Proofs.YtbbncggaaibheaaGreatDoor.val xs := by rw [← hx, zv_natAbs]
 obtain ⟨n, hva⟩ : ∃ n, Go.Proofs.YtbbncggaaibheaaGreatDoor.val xs = n := ⟨_, rfl⟩
 rw [hva] at hl1 H1 hsl hzn hx
 have hl8 : (dig n).length ≤ 8000 := by omega
 have HL8 := Lib.hid hl8
 have HSL := Lib.hid hsl
 have HZN := Lib.hid hzn
 have HX := Lib.hid hx
 have HLL := Lib.hid hl
 have HW0 : Hid (Below w.heap.size w (w.alloc (.cells #[.bool s, .slice A xs.length c] 25))) := (Below.refl _ _).alloc (Nat.le_refl _) _
 have HK0 : Hid (C2 w.heap.size (.bool s) (.slice A xs.length c) (w.alloc (.cells #[.bool s, .slice A xs.length c] 25))) := C2.base _ _ _ _
 clear ha hx hl hva hl1 hsl hzn hl8
 go_enter Tryz.func98, Tryz.ntmps98
 go_wp2_with fail
 refine (H1.out _).mono ?_
 rintro e w1 ⟨A1, c1, rfl, hc1, h1, hb1⟩
 have HN1 := Lib.hid h1
 have HB1 := Lib.hid (HW0.out.trans (hb1.mono HW0.out.size))
 have HK1 := Lib.hid (C2.below hb1 HK0.out)
 clear h1 hb1 HW0 HK0 H1
 go_wp2_with fail
 go_loopg [3, 4] n (fun G dv tv wr => ∃ (t : List UInt8) (A' : Option Addr) (c' : Nat), dv = .slice A' (dig G).length c' ∧ tv = .string ⟨t.toArray⟩ ∧ (dig G).length ≤ c' ∧ (dig G).length ≤ 8000 ∧ Hid (sizeText n = sizeText G ++ t) ∧ Hid (Num wr A' (dig G)) ∧ Hid (Below w1.heap.size w1 wr))
 case atStart => exact ⟨[], A1, c1, rfl, rfl, hc1, HL8.out, by show _ = _; rw [List.append_nil], HN1, Below.refl _ _⟩
 case round =>
  obtain ⟨t, A', c', rfl, rfl, hc', hG8, ht, HN, HB⟩ := hrel
  by_cases h0 : gk = 0
  ·have hz : ¬ (0 : Int) < ((dig gk).length : Int) := by rw [h0, dig_zero]; simp
   have htn : sizeText n = t := by
    have h := ht.out
    rw [h0] at h
    exact h
   have HBW := Lib.hid (HB1.out.trans (HB.out.mono HB1.out.size))
   have k0 := (C2.below HB.out HK1.out).1
   by_cases hn0 : n = 0
   ·have htt : t = [] := by rw [← htn, hn0]; rfl
    have HF : Hid ([48] = l) := by
     show _ = _
     rw [← HLL.out, ← HX.out, hn0, zv_zero]; rfl
    subst htt
    clear ht htn h0 hn0
    go_wp2_with fail
    go_ret
    exact ⟨by rw [← HF.out]; rfl, HBW.out⟩
   ·obtain ⟨x, u, hxu⟩ : ∃ x u, t = x :: u := by
     obtain ⟨x, u, e, _⟩ := D.dg_top (Nat.pos_of_ne_zero hn0)
     refine ⟨x, u, ?_⟩
     rw [← htn]
     unfold sizeText
     rw [if_neg hn0, e]
    have htl : t.length ≤ 64000 := by rw [← htn]; exact HSL.out
    have hul : (x :: u).length ≤ 64000 := by rw [← hxu]; exact htl
    cases s with
    | true =>
     have HF : Hid (45 :: x :: u = l) := by
      show _ = _
      have hzz : z < 0 := by rw [← HX.out]; unfold zv; simp; omega
      rw [← HLL.out, textOf_neg hzz, HZN.out, htn, hxu]
     have hcat : (⟨#[45]⟩ ++ ⟨(x :: u).toArray⟩ : ByteArray) = ⟨l.toArray⟩ := cat2 HF.out
     have hl2 : ¬ (9223372036854775807 < 1 + (u.length + 1)) := by simp at hul; omega
     subst hxu
     clear ht htn h0 hn0 htl hul
     go_wp2_with fail
     go_ret
     exact ⟨rfl, HBW.out⟩
    | false =>
     have HF : Hid (x :: u = l) := by
      show _ = _
      have hzz : 0 < z := by rw [← HX.out]; unfold zv; simp; omega
      rw [← HLL.out, textOf_pos hzz, HZN.out, htn, hxu]
     subst hxu
     clear ht htn h0 hn0 htl hul
     go_wp2_with fail
     go_ret
     exact ⟨by rw [← HF.out]; rfl, HBW.out⟩
  ·obtain ⟨wo, rfl⟩ : ∃ x, x = wr := ⟨wr, rfl⟩
   have hz : (0 : Int) < ((dig gk).length : Int) := by
    have := mt dig_nil_iff.1 h0
    omega
   have hmk := run_make_u64' ((dig gk).length : Int) (dig gk).length rfl (by omega)
   have HG0 := Lib.hid h0
   obtain ⟨L, hL⟩ : ∃ L, (dig gk).length = L := ⟨_, rfl⟩
   have HLE := Lib.hid hL
   rw [hL] at hz hmk hc' hG8
   rw [hL]
   clear h0 hL
   go_wp2_with fail
   clear hmk
   go_loopw [5, 7] (fun rv iv wx => ∃ (m r : Nat) (qs : List Nat), m ≤ L ∧ iv = .int .i64 ((m : Int) - 1) ∧ rv = .int .i64 (r : Int) ∧ r < 10 ∧ qs.length + m = L ∧ Digs qs ∧ Hid (r = val ((dig gk).drop m) % 10) ∧ Hid (val qs = val ((dig gk).drop m) / 10) ∧ Blk wx wo.heap.size (List.replicate m 0 ++ qs) ∧ Below wo.heap.size wo wx) (fun _ iv _ => (intOf iv + 1).toNat)
   case atStart => exact ⟨L, 0, [], Nat.le_refl _, by go_num, rfl, by omega, by simp, Digs.nil, by show _ = _; rw [← HLE.out]; simp [val_nil], by show _ = _; rw [← HLE.out]; simp [val_nil], by rw [List.append_nil]; exact Blk.made wo _, (Below.refl _ _).alloc (Nat.le_refl _) _⟩
   case round =>
    obtain ⟨m, r, qs, hm, rfl, rfl, hr10, hql, hqd, hr, hq, hblk, hbel⟩ := hrel
    cases m with
    | succ i =>
     have hil : i < L := by omega
     have hild : i < (dig gk).length := by rw [HLE.out]; exact hil
     obtain ⟨b0, o0, rfl, hb0, hcell⟩ := (HN.out.below hbel).at_ (by omega)
     have hx := hcell i hild
     obtain ⟨x, hxe⟩ : ∃ x, dg (dig gk) i = x := ⟨_, rfl⟩
     have hx256 : x < 256 := by rw [← hxe]; exact dg_lt (dig_digs gk) i
     rw [hxe] at hx
     have hdrop := drop_pred hild
     rw [hxe] at hdrop
     obtain ⟨R2, hR2⟩ : ∃ R, 256 * r = R := ⟨_, rfl⟩
     obtain ⟨cur, hcur⟩ : ∃ R, R2 + x = R := ⟨_, rfl⟩
     obtain ⟨E2, hE2⟩ : ∃ R, cur / 10 = R := ⟨_, rfl⟩
     obtain ⟨r2, hr2⟩ : ∃ R, cur % 10 = R := ⟨_, rfl⟩
     have t1 : IntKind.i64.wrap (256 * (r : Int)) = (R2 : Int) := by
      have h := IntWalk.i64_in (256 * (r : Int)) (by omega)
      rw [h]; omega
     have t2 : IntKind.i64.wrap ((R2 : Int) + (x : Int)) = (cur : Int) := by
      have h := IntWalk.i64_in ((R2 : Int) + (x : Int)) (by omega)
      rw [h]; omega
     have t3 : (cur : Int) / 10 = (E2 : Int) := by omega
     have t4 : (cur : Int) % 10 = (r2 : Int) := by omega
     have t5 : (cur : Int).tdiv 10 = (E2 : Int) := by rw [Int.tdiv_eq_ediv_of_nonneg (by omega)]; exact t3
     have t6 : (cur : Int).tmod 10 = (r2 : Int) := by rw [Int.tmod_eq_emod_of_nonneg (by omega)]; exact t4
     have t7 : IntKind.i64.wrap (E2 : Int) = (E2 : Int) := IntWalk.i64_in _ (by omega)
     have t8 : IntKind.i64.wrap (r2 : Int) = (r2 : Int) := IntWalk.i64_in _ (by omega)
     have hE256 : E2 < 256 := by omega
     have hvv : val ((dig gk).drop i) = x + 256 * val ((dig gk).drop (i + 1)) := by rw [hdrop]; exact val_cons _ _
     have hr' := hr.out
     have hq' := hq.out
     obtain ⟨V, hV⟩ : ∃ V, val ((dig gk).drop (i + 1)) = V := ⟨_, rfl⟩
     rw [hV] at hvv hr' hq'
     have HR3 : Hid (r2 = val ((dig gk).drop i) % 10) := by show _ = _; rw [hvv]; omega
     have HQ3 : Hid (val (E2 :: qs) = val ((dig gk).drop i) / 10) := by show _ = _; rw [hvv, val_cons, B64_eq, hq']; omega
     have HR10 : Hid (r2 < 10) := by show _ < _; omega
     have HQL : Hid ((E2 :: qs).length + i = L) := by show _ = _; rw [List.length_cons]; omega
     have HQD : Hid (Digs (E2 :: qs)) := Digs.cons (by rw [B64_eq]; exact hE256) hqd
     have hoc := hblk.cell (i := i) (by simp; omega)
     rw [show dg (List.replicate (i + 1) 0 ++ qs) i = 0 by rw [dg_append_left (by simp), dg_of_lt (by simp)]; simp] at hoc
     have hof := hblk.frozen i
     have HBLK : Hid (Blk (wr.setCell ⟨wo.heap.size, i, none⟩ (.int .i64 (E2 : Int))) wo.heap.size (List.replicate i 0 ++ E2 :: qs)) := by
      have h := hblk.set_ i E2
      rw [rep_set] at h
      exact h
     have HBEL : Hid (Below wo.heap.size wo (wr.setCell ⟨wo.heap.size, i, none⟩ (.int .i64 (E2 : Int)))) := hbel.setCell (Nat.le_refl _) _
     have hi0 : (0 : Int) ≤ (i : Int) := by omega
     have hiL : (i : Int) < (L : Int) := by omega
     clear hcell hxe hx256 hdrop hR2 hcur hE2 hr2 hE256 hvv hr' hq' hV hr hq hblk hbel hqd hql hm hild hil
     go_wp2_with fail
     go_roundw
     case rel => exact ⟨i, r2, E2 :: qs, by omega, by go_num, rfl, HR10.out, HQL.out, HQD.out, HR3, HQ3, HBLK.out, HBEL.out⟩
     case measure => first | (simp [intOf]; done) | (simp [intOf]; omega)
    | zero =>
     have hqL : qs.length = L := by omega
     have hr2 := hr.out
     have hq2 := hq.out
     rw [List.drop_zero, val_dig] at hr2 hq2
     rw [List.replicate_zero, List.nil_append] at hblk
     have HRG : Hid (sizeText gk = sizeText (gk / 10) ++ [UInt8.ofNat (48 + r)]) := by show _ = _; rw [size_app HG0.out, hr2]
     obtain ⟨C, hC⟩ : ∃ C, UInt8.ofNat (48 + r) = C := ⟨_, rfl⟩
     obtain ⟨r1, hr1⟩ : ∃ r1, r + 1 = r1 := ⟨_, rfl⟩
     have hw1 : IntKind.i64.wrap ((r : Int) + 1) = (r1 : Int) := by
      have h := IntWalk.i64_in ((r : Int) + 1) (by omega)
      rw [h]; omega
     have hs0 : (0 : Int) ≤ (r : Int) := by omega
     have hs1 : (r : Int) ≤ (r1 : Int) := by omega
     have hs2 : (r1 : Int) ≤ 10 := by omega
     have hex : (⟨#[48, 49, 50, 51, 52, 53, 54, 55, 56, 57]⟩ : ByteArray).extract r r1 = ⟨#[C]⟩ := by rw [← hr1, ← hC]; exact digit_at hr10
     obtain ⟨T2, hT2⟩ : ∃ T2, [C] ++ t = T2 := ⟨_, rfl⟩
     have hcat : (⟨#[C]⟩ ++ ⟨t.toArray⟩ : ByteArray) = ⟨T2.toArray⟩ := cat2 hT2
     have htl : t.length ≤ 64000 := by
      have h := congrArg List.length ht.out
      rw [List.length_append] at h
      have := HSL.out
      omega
     have htl2 : ¬ (9223372036854775807 < 1 + t.length) := by omega
     have HT2 : Hid (sizeText n = sizeText (gk / 10) ++ T2) := by
      show _ = _
      rw [ht.out, HRG.out, hC, List.append_assoc, hT2]
     have HOS := Lib.hid hqd
     have HV : Hid (val qs = gk / 10) := hq2
     have HBK := Lib.hid hblk
     have HBE := Lib.hid (HB.out.trans (hbel.mono HB.out.size))
     have HNQ := Lib.hid (hblk.num hqd)
     have HL0 : Hid (qs.length = L) := hqL
     have hL8 : L ≤ 8000 := hG8
     clear hr2 hq2 hr hq hr10 hC hr1 hT2 htl ht hqd hblk hbel hql hqL hm HN
     go_wp2_with fail
     go_loop [9] (fun nv => ∃ k : Nat, k ≤ L ∧ nv = .int .i64 (k : Int) ∧ Hid (val (qs.take k) = val qs)) (fun nv => (intOf nv).toNat)
     case atStart => exact ⟨L, Nat.le_refl _, rfl, by show _ = _; rw [← HL0.out, List.take_length]⟩
     case round =>
      obtain ⟨k, hk, rfl, hv⟩ := hrel
      cases k with
      | zero =>
       have HKL : 0 ≤ L := Nat.zero_le _
       have hdt : dig (gk / 10) = qs.take 0 := by rw [← HV.out]; exact dig_take_of HOS.out (by rw [HL0.out]; exact hk) hv.out (.inl rfl)
       have hdl : (dig (gk / 10)).length = 0 := by rw [hdt, List.length_take, HL0.out]; exact Nat.min_eq_left hk
       have HDL := Lib.hid hdl
       have HNT : Hid (Num wr (some ⟨wo.heap.size, 0, none⟩) (dig (gk / 10))) := by rw [hdt]; exact HNQ.out.take _
       have HM : Hid (gk / 10 < gk) := by show _ < _; have := HG0.out; omega
       clear hdt hdl
       go_wp2_with fail
       go_roundg (gk / 10)
       case measure => exact HM.out
       case rel => exact ⟨T2, some ⟨wo.heap.size, 0, none⟩, L, by rw [HDL.out], rfl, by rw [HDL.out]; exact HKL, by rw [HDL.out]; exact Nat.le_trans HKL hL8, HT2, HNT, HBE⟩
      | succ j =>
       have HKL : j + 1 ≤ L := hk
       have hjL : (j : Int) < (L : Int) := by omega
       have hj0 : (0 : Int) ≤ (j : Int) := by omega
       have hjp : (0 : Int) < ((j + 1 : Nat) : Int) := by omega
       have hck := HBK.out.cell (i := j) (by rw [HL0.out]; omega)
       have t1 : IntKind.i64.wrap (((j + 1 : Nat) : Int) - 1) = (j : Int) := by
        have h := IntWalk.i64_in (((j + 1 : Nat) : Int) - 1) (by omega)
        rw [h]; omega
       have t2 : IntKind.i64.wrap (j : Int) = (j : Int) := IntWalk.i64_in _ (by omega)
       obtain ⟨y, hy⟩ : ∃ y, dg qs j = y := ⟨_, rfl⟩
       rw [hy] at hck
       by_cases hz2 : y = 0
       ·have hz' : ((y : Int) == 0) = true := by rw [hz2]; rfl
        have HZ : Hid (dg qs (j + 1 - 1) = 0) := by show _ = _; rw [Nat.add_sub_cancel, hy, hz2]
        clear hz2 hy
        go_wp2_with fail
        go_round
        case rel => exact ⟨j, by omega, by first | rfl | (congr 1; omega), (val_take_pred (Nat.succ_ne_zero j) HZ.out).trans hv.out⟩
        case measure => first | (simp [intOf]; done) | (simp [intOf]; omega)
       ·have hz' : ((y : Int) == 0) = false := by rw [beq_eq_false_iff_ne]; omega
        have hne : dg qs (j + 1 - 1) ≠ 0 := by rw [Nat.add_sub_cancel, hy]; exact hz2
        have hdt : dig (gk / 10) = qs.take (j + 1) := by rw [← HV.out]; exact dig_take_of HOS.out (by rw [HL0.out]; exact hk) hv.out (.inr hne)
        have hdl : (dig (gk / 10)).length = j + 1 := by rw [hdt, List.length_take, HL0.out]; exact Nat.min_eq_left hk
        have HDL := Lib.hid hdl
        have HNT : Hid (Num wr (some ⟨wo.heap.size, 0, none⟩) (dig (gk / 10))) := by rw [hdt]; exact HNQ.out.take _
        have HM : Hid (gk / 10 < gk) := by show _ < _; have := HG0.out; omega
        clear hdt hdl hne hz2 hy
        go_wp2_with fail
        go_roundg (gk / 10)
        case measure => exact HM.out
        case rel => exact ⟨T2, some ⟨wo.heap.size, 0, none⟩, L, by rw [HDL.out], rfl, by rw [HDL.out]; exact HKL, by rw [HDL.out]; exact Nat.le_trans HKL hL8, HT2, HNT, HBE⟩
end Go.Proofs.YtbbncggaaibheaaGreatDoor.E
namespace Go.Proofs.YtbbncggaaibheaaGreatDoor.D
open Go.RowKit
theorem retp_flat (w : World) (o : Obj) (code : Int) : RetPZ w 0 code (.returned (.tuple #[.agg #[.bool false, .slice none 0 0], .int .i64 code])) (w.alloc o) := by
 have hz : dig ((0 : Int).natAbs) = [] := dig_zero
 exact ⟨none, 0, by rw [hz]; rfl, by rw [hz]; exact Nat.le_refl _, by rw [hz]; exact Num.nil _ _, (Below.refl _ _).alloc (Nat.le_refl _) _⟩
theorem rmul (W : World) (A B : Option Addr) (c q : Nat) (ha : Num W A (dig q)) (hb : Num W B [10]) (hn : (dig q).length ≤ 400000) :
  Calls Tryz.prog 142 #[.slice A (dig q).length c, .slice B 1 1] W (RetN W (q * 10)) := by
 have h := E.Mul_any W A B c 1 (dig q) [10] ha hb hn (by simp)
 rw [val_dig, val_one] at h
 exact h
theorem radd (W : World) (A B : Option Addr) (c q p : Nat) (ha : Num W A (dig q)) (hb : Num W B [p]) (hn : (dig q).length ≤ 400000) :
  Calls Tryz.prog 139 #[.slice A (dig q).length c, .slice B 1 1] W (RetN W (q + p)) := by
 have h := E.Add_any W A B c 1 (dig q) [p] ha hb hn (by simp)
 rw [val_dig, val_one] at h
 exact h
theorem Num.ten (w : World) : Num (w.alloc (.cells #[.int .u64 10] 30)) (some ⟨w.heap.size, 0, none⟩) [10] := Num.one w 10 (by decide)
theorem Num.one2 (w : World) (o : Obj) (x : Nat) (hx : x < 18446744073709551616) : Num ((w.alloc o).alloc (.cells #[.int .u64 x] 30)) (some ⟨w.heap.size + 1, 0, none⟩) [x] := by
 have h := Num.one (w.alloc o) x hx
 rw [show (w.alloc o).heap.size = w.heap.size + 1 by simp] at h
 exact h
theorem Num.ten2 (w : World) (o : Obj) : Num ((w.alloc o).alloc (.cells #[.int .u64 10] 30)) (some ⟨w.heap.size + 1, 0, none⟩) [10] := Num.one2 w o 10 (by decide)
theorem bel_a1 {w0 wr : World} (h : Below w0.heap.size w0 wr) (o : Obj) : Below w0.heap.size w0 ((wr.alloc o).drew) := (h.alloc h.size o).drew
theorem bel_a2 {w0 wr : World} (h : Below w0.heap.size w0 wr) (o o' : Obj) : Below w0.heap.size w0 (((wr.alloc o).alloc o').drew) := ((h.alloc h.size o).alloc (by simp; have := h.size; omega) o').drew
theorem bel_new {w0 wr w' : World} (h : Below w0.heap.size w0 wr) (hb : Below wr.heap.size wr w') : Below w0.heap.size w0 w' := h.trans (hb.mono h.size)
set_option maxRecDepth 100000 in
set_option maxHeartbeats 16000000 in
theorem rbad_nil (w : World) : Calls Tryz.prog 99 #[.string ⟨([] : List UInt8).toArray⟩] w (RetPZ w 0 11) := by
 have HI : Hid (Ibx (w.alloc (.cells #[.bool false, .slice none 0 0] 25)) w.heap.size false none 0 0) := Ibx.new' _ _ _ _ _ _ rfl
 have k0 := HI.out.c0
 have k1 := HI.out.c1
 have f0 := HI.out.f 0
 have f1 := HI.out.f 1
 go_enter Tryz.func99, Tryz.ntmps99
 go_wp2_with fail
 refine bodyPost_ret (v := .tuple #[.agg #[.bool false, .slice none 0 0], .int .i64 11]) (by simp [results, Tryz.results99, go_sem, k0, k1]) rfl ?_
 exact retp_flat w _ 11
set_option maxRecDepth 100000 in
set_option maxHeartbeats 16000000 in
theorem rbad_sign (w : World) : Calls Tryz.prog 99 #[.string ⟨([45] : List UInt8).toArray⟩] w (RetPZ w 0 11) := by
 have hx0 (h) : ((⟨([(45 : UInt8)]).toArray⟩ : ByteArray)[0]'h) = 45 := rfl
 have hTs : (⟨([(45 : UInt8)]).toArray⟩ : ByteArray).extract 1 1 = ⟨#[]⟩ := rfl
 have HI : Hid (Ibx (w.alloc (.cells #[.bool false, .slice none 0 0] 25)) w.heap.size false none 0 0) := Ibx.new' _ _ _ _ _ _ rfl
 have k0 := HI.out.c0
 have k1 := HI.out.c1
 have f0 := HI.out.f 0
 have f1 := HI.out.f 1
 go_enter Tryz.func99, Tryz.ntmps99
 go_wp2_with fail
 refine bodyPost_ret (v := .tuple #[.agg #[.bool false, .slice none 0 0], .int .i64 11]) (by simp [results, Tryz.results99, go_sem, k0, k1]) rfl ?_
 exact retp_flat w _ 11
set_option maxRecDepth 100000 in
set_option maxHeartbeats 16000000 in
theorem rok_pos (w : World) (x : UInt8) (r : List UInt8) (hx45 : ((x.toNat : Int) == 45) = false) (hx48 : ((x.toNat : Int) == 48) = false) (hx48' : ¬ x = 48) (z code : Int) (hlen : r.length ≤ 2000) (hbad : (x :: r).all isDig = false → z = 0 ∧ code = 11) (hlong : (x :: r).all isDig = true → 600 < r.length + 1 → z = 0 ∧ code = 3) (hgood : (x :: r).all isDig = true → ¬ 600 < r.length + 1 → zv false (dnum (x :: r)) = z ∧ code = 0) : Calls Tryz.prog 99 #[.string ⟨(x :: r).toArray⟩] w (RetPZ w z code) := by
 have HBAD := Lib.hid hbad
 have HLONG := Lib.hid hlong
 have HGOOD := Lib.hid hgood
 clear hbad hlong hgood
 have hx0 (h) : ((⟨(x :: r).toArray⟩ : ByteArray)[0]'h) = x := rfl
 have HI : Hid (Ibx (w.alloc (.cells #[.bool false, .slice none 0 0] 25)) w.heap.size false none 0 0) := Ibx.new' _ _ _ _ _ _ rfl
 have k0 := HI.out.c0
 have k1 := HI.out.c1
 have f0 := HI.out.f 0
 have f1 := HI.out.f 1
 have HW : Hid (Below w.heap.size w (w.alloc (.cells #[.bool false, .slice none 0 0] 25))) := (Below.refl _ _).alloc (Nat.le_refl _) _
 go_enter Tryz.func99, Tryz.ntmps99
 go_wp2_with fail
 go_loop [5] (fun iv => ∃ i : Nat, i ≤ r.length + 1 ∧ iv = .int .i64 (i : Int) ∧ Hid (∀ j, j < i → ∃ c, (x :: r)[j]? = some c ∧ isDig c = true)) (fun iv => r.length + 1 - (intOf iv).toNat)
 case atStart => exact ⟨0, Nat.zero_le _, rfl, fun j hj => by omega⟩
 case round =>
  obtain ⟨i, hi, rfl, HD⟩ := hrel
  by_cases hiL : i < r.length + 1
  ·have hi1 : (i : Int) < (r.length : Int) + 1 := by omega
   have hi0 : (0 : Int) ≤ (i : Int) := by omega
   have hsz : i < (⟨(x :: r).toArray⟩ : ByteArray).size := by show i < (x :: r).toArray.size; rw [List.size_toArray]; exact hiL
   obtain ⟨y, hy⟩ : ∃ y : UInt8, (⟨(x :: r).toArray⟩ : ByteArray)[i]'hsz = y := ⟨_, rfl⟩
   have hyl : (x :: r)[i]? = some y := by rw [← hy]; exact Lib.data_getElem? _ i hsz
   have HY := Lib.hid hyl
   have hyb (h) : (⟨(x :: r).toArray⟩ : ByteArray)[i]'h = y := hy
   have t1 : IntKind.i64.wrap ((i : Int) + 1) = ((i + 1 : Nat) : Int) := by
    have h := IntWalk.i64_in ((i : Int) + 1) (by omega)
    rw [h]; omega
   obtain ⟨Y, hY⟩ : ∃ Y, y.toNat = Y := ⟨_, rfl⟩
   have HYY := Lib.hid hY
   clear hy hyl
   by_cases h1 : Y < 48
   ·have d1 : (Y : Int) < 48 := by omega
    have HB : Hid (isDig y = false) := by show _ = _; unfold isDig; rw [HYY.out]; simp; omega
    obtain ⟨rfl, rfl⟩ := HBAD.out (not_all HY.out HB.out)
    go_wp2_with fail
    refine bodyPost_ret (v := .tuple #[.agg #[.bool false, .slice none 0 0], .int .i64 11]) (by simp [results, Tryz.results99, go_sem, k0, k1]) rfl ?_
    exact retp_flat w _ 11
   ·have d1 : ¬ (Y : Int) < 48 := by omega
    by_cases h2 : Y ≤ 57
    ·have d2 : ¬ (57 : Int) < (Y : Int) := by omega
     have HOK : Hid (isDig y = true) := by show _ = _; unfold isDig; rw [HYY.out]; simp; omega
     go_wp2_with fail
     go_round
     case rel => exact ⟨i + 1, by omega, rfl, dig_snoc HD.out HY.out HOK.out⟩
     case measure => first | (simp [intOf]; done) | (simp [intOf]; omega)
    ·have d2 : (57 : Int) < (Y : Int) := by omega
     have HB : Hid (isDig y = false) := by show _ = _; unfold isDig; rw [HYY.out]; simp; omega
     obtain ⟨rfl, rfl⟩ := HBAD.out (not_all HY.out HB.out)
     go_wp2_with fail
     refine bodyPost_ret (v := .tuple #[.agg #[.bool false, .slice none 0 0], .int .i64 11]) (by simp [results, Tryz.results99, go_sem, k0, k1]) rfl ?_
     exact retp_flat w _ 11
  ·have hi1 : ¬ (i : Int) < (r.length : Int) + 1 := by omega
   have hall := all_of HD.out (show i = (x :: r).length by rw [List.length_cons]; omega)
   by_cases hlg : 600 < r.length + 1
   ·have hl6 : (600 : Int) < (r.length : Int) + 1 := by omega
    obtain ⟨rfl, rfl⟩ := HLONG.out hall hlg
    go_wp2_with fail
    refine bodyPost_ret (v := .tuple #[.agg #[.bool false, .slice none 0 0], .int .i64 3]) (by simp [results, Tryz.results99, go_sem, k0, k1]) rfl ?_
    exact retp_flat w _ 3
   ·have hl6 : ¬ (600 : Int) < (r.length : Int) + 1 := by omega
    obtain ⟨hzz, rfl⟩ := HGOOD.out hall hlg
    have HZZ := Lib.hid hzz
    have HALL := Lib.hid hall
    clear hzz hall k0 k1 f0 f1
    go_wp2_with fail
    obtain ⟨w0, hw0⟩ : ∃ w0, w.alloc (.cells #[.bool false, .slice none 0 0] 25) = w0 := ⟨_, rfl⟩
    rw [hw0] at HI HW
    go_loopw [6, 7] (fun sv iv wx => ∃ (i q : Nat) (A : Option Addr) (c : Nat), i ≤ r.length + 1 ∧ iv = .int .i64 (i : Int) ∧ sv = .slice A (dig q).length c ∧ (dig q).length ≤ c ∧ Hid (q = dnum ((x :: r).take i)) ∧ Hid (Num wx A (dig q)) ∧ Hid (Below w0.heap.size w0 wx)) (fun _ iv _ => r.length + 1 - (intOf iv).toNat)
    case atStart => exact ⟨0, 0, none, 0, Nat.zero_le _, rfl, by rw [dig_zero]; rfl, by rw [dig_zero]; exact Nat.le_refl _, rfl, by rw [dig_zero]; exact Num.nil _ _, by show Below _ _ _; rw [← hw0]; exact Below.refl _ _⟩
    case round =>
     clear hw0
     obtain ⟨i, q, A, c, hi, rfl, rfl, hqc, hq, HN, HB⟩ := hrel
     have hq6 : (dig q).length ≤ 400 + 2000 := by
      rw [hq.out]
      refine Nat.le_trans (dig_len10 (dnum_lt _ _ rfl (all_take HALL.out i))) ?_
      rw [List.length_take, List.length_cons]
      omega
     by_cases hiL : i < r.length + 1
     ·have hi1 : (i : Int) < (r.length : Int) + 1 := by omega
      have hi0 : (0 : Int) ≤ (i : Int) := by omega
      have hsz : i < (⟨(x :: r).toArray⟩ : ByteArray).size := by show i < (x :: r).toArray.size; rw [List.size_toArray]; exact hiL
      obtain ⟨y, hy⟩ : ∃ y : UInt8, (⟨(x :: r).toArray⟩ : ByteArray)[i]'hsz = y := ⟨_, rfl⟩
      have hyl : (x :: r)[i]? = some y := by rw [← hy]; exact Lib.data_getElem? _ i hsz
      have hyb (h) : (⟨(x :: r).toArray⟩ : ByteArray)[i]'h = y := hy
      have hyr := isDig_range (List.all_eq_true.1 HALL.out y (List.mem_of_getElem? hyl))
      have hdt := dnum_take hyl
      obtain ⟨Y, hY⟩ : ∃ Y, y.toNat = Y := ⟨_, rfl⟩
      rw [hY] at hyr hdt
      obtain ⟨v, hv⟩ : ∃ v, Y - 48 = v := ⟨_, rfl⟩
      rw [hv] at hdt
      have t1 : IntKind.i64.wrap ((i : Int) + 1) = ((i + 1 : Nat) : Int) := by
       have h := IntWalk.i64_in ((i : Int) + 1) (by omega)
       rw [h]; omega
      have t2 : IntKind.u8.wrap ((Y : Int) - 48) = (v : Int) := by
       have h := IntWalk.u8_in ((Y : Int) - 48) (by omega)
       rw [h]; omega
      have t3 : IntKind.u64.wrap (v : Int) = (v : Int) := IntWalk.u64_in _ (by omega)
      have HV64 : Hid (v < 18446744073709551616) := by show _ < _; omega
      obtain ⟨p, hp⟩ : ∃ p, q * 10 = p := ⟨_, rfl⟩
      obtain ⟨q2, hq2⟩ : ∃ q2, p + v = q2 := ⟨_, rfl⟩
      have HQ2 : Hid (q2 = dnum ((x :: r).take (i + 1))) := by show _ = _; rw [hdt, ← hq.out]; omega
      have HPL : Hid ((dig p).length ≤ 400000) := by show _ ≤ _; rw [← hp]; exact Nat.le_trans (dig_mul_len hq6 (by decide)) (by omega)
      have HP := Lib.hid hp
      have HPQ := Lib.hid hq2
      clear hy hyl hyr hdt hv hq hp hq2
      go_upto_region 18 with fail
      go_region_held3 (fun _ => True)
       (trivial)
       (first
       | (go_at_call 139; (refine (radd _ A3 _ c3 p v ?_ ?_ HPL.out).mono ?_); (first | exact HN3.out | exact HN3.out.alloc _); (first | exact Num.one _ v HV64.out | exact Num.below (Num.drew (Num.one _ v HV64.out)) hb3 | exact Num.below (Num.drew (Num.alloc (Num.one _ v HV64.out) _)) hb3 | exact Num.below (Num.drew (Num.one2 _ _ v HV64.out)) hb3); rintro e w4 ⟨A4, c4, rfl, hc4, h4, hb4⟩; have HN4 := Lib.hid h4; (first | have HB4 := Lib.hid (bel_new HB3.out hb4) | have HB4 := Lib.hid (bel_new (HB3.out.alloc HB3.out.size _) hb4)))
       | (go_at_call 142; (refine (rmul _ A _ c q ?_ ?_ (by omega)).mono ?_); (first | exact (HN.out.alloc _).drew | exact ((HN.out.alloc _).alloc _).drew); (first | exact Num.drew (Num.ten _) | exact Num.drew (Num.alloc (Num.ten _) _) | exact Num.drew (Num.ten2 _ _)); (rw [HP.out]); rintro e w3 ⟨A3, c3, rfl, hc3, h3, hb3⟩; have HN3 := Lib.hid h3; (first | have HB3 := Lib.hid (bel_new (bel_a1 HB.out _) hb3) | have HB3 := Lib.hid (bel_new (bel_a2 HB.out _ _) hb3))))
      all_goals
       clear HN3 HB3 hb3 hb4 h3 h4
       rw [HPQ.out] at hc4 HN4
       rw [HPQ.out]
       go_wp2_with fail
       go_roundw
       case rel => exact ⟨i + 1, q2, A4, c4, by omega, rfl, rfl, hc4, HQ2, HN4, HB4⟩
       case measure => first | (simp [intOf]; done) | (simp [intOf]; omega)
     ·have hi1 : ¬ (i : Int) < (r.length : Int) + 1 := by omega
      have hqq : dnum (x :: r) = q := by rw [hq.out, List.take_of_length_le (by rw [List.length_cons]; omega)]
      have HMK := Lib.hid (fun V h => Go.Proofs.YtbbncggaaibheaaGreatDoor.W.make_any V false A c (dig q) z h (by rw [val_dig, ← hqq]; exact HZZ.out) (by omega))
      have I1 := HI.out.below HB.out
      have HI1 := Lib.hid I1
      have HW1 := Lib.hid (HW.out.trans (HB.out.mono HW.out.size))
      clear hqq hq I1
      go_wp2_with fail
      refine (HMK.out _ HN.out).mono ?_
      rintro e w5 ⟨A5, c5, rfl, hc5, h5, hb5⟩
      have HN5 := Lib.hid h5
      have I5 := HI1.out.below hb5
      have HI5 := Lib.hid I5
      have HW5 := Lib.hid (HW1.out.trans (hb5.mono HW1.out.size))
      have k0 := I5.c0
      have k1 := I5.c1
      have f0 := I5.f 0
      have f1 := I5.f 1
      clear h5 hb5 HI1 HW1 I5
      go_wp2_with fail
      refine bodyPost_ret (v := .tuple #[.agg #[.bool (zneg z), .slice A5 (dig z.natAbs).length c5], .int .i64 0]) (by simp [results, Tryz.results99, go_sem, k0, k1]) rfl ?_
      exact retp_of (w := w) (code := 0) rfl rfl hc5 HN5.out HI5.out (Nat.le_refl _) HW5.out (.bool (zneg z)) (.slice A5 (dig z.natAbs).length c5) rfl
end Go.Proofs.YtbbncggaaibheaaGreatDoor.D
namespace Go.Proofs.YtbbncggaaibheaaGreatDoor.D
open Go.RowKit
set_option maxRecDepth 100000 in
set_option maxHeartbeats 16000000 in
theorem rbad_lead (w : World) (y : UInt8) (r : List UInt8): Calls Tryz.prog 99 #[.string ⟨(48 :: y :: r).toArray⟩] w (RetPZ w 0 11) := by
 have hx0 (h) : ((⟨((48 : UInt8) :: y :: r).toArray⟩ : ByteArray)[0]'h) = 48 := rfl
 have hl1 : (1 : Int) < (r.length : Int) + 1 + 1 := by omega
 have hl2 : (1 : Int) < ((r.length + 1 + 1 : Nat) : Int) := by omega
 have HI : Hid (Ibx (w.alloc (.cells #[.bool false, .slice none 0 0] 25)) w.heap.size false none 0 0) := Ibx.new' _ _ _ _ _ _ rfl
 have k0 := HI.out.c0
 have k1 := HI.out.c1
 have f0 := HI.out.f 0
 have f1 := HI.out.f 1
 go_enter Tryz.func99, Tryz.ntmps99
 go_wp2_with fail
 refine bodyPost_ret (v := .tuple #[.agg #[.bool false, .slice none 0 0], .int .i64 11]) (by simp [results, Tryz.results99, go_sem, k0, k1]) rfl ?_
 exact retp_flat w _ 11
set_option maxRecDepth 100000 in
set_option maxHeartbeats 16000000 in
theorem rbad_nlead (w : World) (y : UInt8) (r : List UInt8): Calls Tryz.prog 99 #[.string ⟨(45 :: 48 :: y :: r).toArray⟩] w (RetPZ w 0 11) := by
 have hx0 (h) : ((⟨((45 : UInt8) :: 48 :: y :: r).toArray⟩ : ByteArray)[0]'h) = 45 := rfl
 have hTs : (⟨((45 : UInt8) :: 48 :: y :: r).toArray⟩ : ByteArray).extract 1 (r.length + 1 + 1 + 1) = ⟨(48 :: y :: r).toArray⟩ := tail_at (48 :: y :: r)
 have hx1 (h) : ((⟨((48 : UInt8) :: y :: r).toArray⟩ : ByteArray)[0]'h) = 48 := rfl
 have hl1 : (1 : Int) < (r.length : Int) + 1 + 1 := by omega
 have hl2 : (1 : Int) < ((r.length + 1 + 1 : Nat) : Int) := by omega
 have HI : Hid (Ibx (w.alloc (.cells #[.bool false, .slice none 0 0] 25)) w.heap.size false none 0 0) := Ibx.new' _ _ _ _ _ _ rfl
 have k0 := HI.out.c0
 have k1 := HI.out.c1
 have f0 := HI.out.f 0
 have f1 := HI.out.f 1
 go_enter Tryz.func99, Tryz.ntmps99
 go_wp2_with fail
 refine bodyPost_ret (v := .tuple #[.agg #[.bool false, .slice none 0 0], .int .i64 11]) (by simp [results, Tryz.results99, go_sem, k0, k1]) rfl ?_
 exact retp_flat w _ 11
set_option maxRecDepth 100000 in
set_option maxHeartbeats 16000000 in
theorem rbad_nzero (w : World) : Calls Tryz.prog 99 #[.string ⟨([45, 48] : List UInt8).toArray⟩] w (RetPZ w 0 11) := by
 have hx0 (h) : ((⟨([(45 : UInt8), 48]).toArray⟩ : ByteArray)[0]'h) = 45 := rfl
 have hTs : (⟨([(45 : UInt8), 48]).toArray⟩ : ByteArray).extract 1 2 = ⟨#[48]⟩ := rfl
 have hx1 (h) : ((⟨#[(48 : UInt8)]⟩ : ByteArray)[0]'h) = 48 := rfl
 have HI : Hid (Ibx (w.alloc (.cells #[.bool false, .slice none 0 0] 25)) w.heap.size false none 0 0) := Ibx.new' _ _ _ _ _ _ rfl
 have k0 := HI.out.c0
 have k1 := HI.out.c1
 have f0 := HI.out.f 0
 have f1 := HI.out.f 1
 go_enter Tryz.func99, Tryz.ntmps99
 go_wp2_with fail
 refine bodyPost_ret (v := .tuple #[.agg #[.bool false, .slice none 0 0], .int .i64 11]) (by simp [results, Tryz.results99, go_sem, k0, k1]) rfl ?_
 exact retp_flat w _ 11
set_option maxRecDepth 100000 in
set_option maxHeartbeats 16000000 in
theorem rok_neg (w : World) (x : UInt8) (r : List UInt8) (hx48 : ((x.toNat : Int) == 48) = false) (hx48' : ¬ x = 48) (z code : Int) (hlen : r.length ≤ 2000) (hbad : (x :: r).all isDig = false → z = 0 ∧ code = 11) (hlong : (x :: r).all isDig = true → 600 < r.length + 1 → z = 0 ∧ code = 3) (hgood : (x :: r).all isDig = true → ¬ 600 < r.length + 1 → zv true (dnum (x :: r)) = z ∧ code = 0) : Calls Tryz.prog 99 #[.string ⟨(45 :: x :: r).toArray⟩] w (RetPZ w z code) := by
 have HBAD := Lib.hid hbad
 have HLONG := Lib.hid hlong
 have HGOOD := Lib.hid hgood
 clear hbad hlong hgood
 have hx0 (h) : ((⟨((45 : UInt8) :: x :: r).toArray⟩ : ByteArray)[0]'h) = 45 := rfl
 have hTs : (⟨((45 : UInt8) :: x :: r).toArray⟩ : ByteArray).extract 1 (r.length + 1 + 1) = ⟨(x :: r).toArray⟩ := tail_at (x :: r)
 have hx1 (h) : ((⟨(x :: r).toArray⟩ : ByteArray)[0]'h) = x := rfl
 have HI : Hid (Ibx (w.alloc (.cells #[.bool false, .slice none 0 0] 25)) w.heap.size false none 0 0) := Ibx.new' _ _ _ _ _ _ rfl
 have k0 := HI.out.c0
 have k1 := HI.out.c1
 have f0 := HI.out.f 0
 have f1 := HI.out.f 1
 have HW : Hid (Below w.heap.size w (w.alloc (.cells #[.bool false, .slice none 0 0] 25))) := (Below.refl _ _).alloc (Nat.le_refl _) _
 go_enter Tryz.func99, Tryz.ntmps99
 go_wp2_with fail
 go_loop [5] (fun iv => ∃ i : Nat, i ≤ r.length + 1 ∧ iv = .int .i64 (i : Int) ∧ Hid (∀ j, j < i → ∃ c, (x :: r)[j]? = some c ∧ isDig c = true)) (fun iv => r.length + 1 - (intOf iv).toNat)
 case atStart => exact ⟨0, Nat.zero_le _, rfl, fun j hj => by omega⟩
 case round =>
  obtain ⟨i, hi, rfl, HD⟩ := hrel
  by_cases hiL : i < r.length + 1
  ·have hi1 : (i : Int) < (r.length : Int) + 1 := by omega
   have hi0 : (0 : Int) ≤ (i : Int) := by omega
   have hsz : i < (⟨(x :: r).toArray⟩ : ByteArray).size := by show i < (x :: r).toArray.size; rw [List.size_toArray]; exact hiL
   obtain ⟨y, hy⟩ : ∃ y : UInt8, (⟨(x :: r).toArray⟩ : ByteArray)[i]'hsz = y := ⟨_, rfl⟩
   have hyl : (x :: r)[i]? = some y := by rw [← hy]; exact Lib.data_getElem? _ i hsz
   have HY := Lib.hid hyl
   have hyb (h) : (⟨(x :: r).toArray⟩ : ByteArray)[i]'h = y := hy
   have t1 : IntKind.i64.wrap ((i : Int) + 1) = ((i + 1 : Nat) : Int) := by
    have h := IntWalk.i64_in ((i : Int) + 1) (by omega)
    rw [h]; omega
   obtain ⟨Y, hY⟩ : ∃ Y, y.toNat = Y := ⟨_, rfl⟩
   have HYY := Lib.hid hY
   clear hy hyl
   by_cases h1 : Y < 48
   ·have d1 : (Y : Int) < 48 := by omega
    have HB : Hid (isDig y = false) := by show _ = _; unfold isDig; rw [HYY.out]; simp; omega
    obtain ⟨rfl, rfl⟩ := HBAD.out (not_all HY.out HB.out)
    go_wp2_with fail
    refine bodyPost_ret (v := .tuple #[.agg #[.bool false, .slice none 0 0], .int .i64 11]) (by simp [results, Tryz.results99, go_sem, k0, k1]) rfl ?_
    exact retp_flat w _ 11
   ·have d1 : ¬ (Y : Int) < 48 := by omega
    by_cases h2 : Y ≤ 57
    ·have d2 : ¬ (57 : Int) < (Y : Int) := by omega
     have HOK : Hid (isDig y = true) := by show _ = _; unfold isDig; rw [HYY.out]; simp; omega
     go_wp2_with fail
     go_round
     case rel => exact ⟨i + 1, by omega, rfl, dig_snoc HD.out HY.out HOK.out⟩
     case measure => first | (simp [intOf]; done) | (simp [intOf]; omega)
    ·have d2 : (57 : Int) < (Y : Int) := by omega
     have HB : Hid (isDig y = false) := by show _ = _; unfold isDig; rw [HYY.out]; simp; omega
     obtain ⟨rfl, rfl⟩ := HBAD.out (not_all HY.out HB.out)
     go_wp2_with fail
     refine bodyPost_ret (v := .tuple #[.agg #[.bool false, .slice none 0 0], .int .i64 11]) (by simp [results, Tryz.results99, go_sem, k0, k1]) rfl ?_
     exact retp_flat w _ 11
  ·have hi1 : ¬ (i : Int) < (r.length : Int) + 1 := by omega
   have hall := all_of HD.out (show i = (x :: r).length by rw [List.length_cons]; omega)
   by_cases hlg : 600 < r.length + 1
   ·have hl6 : (600 : Int) < (r.length : Int) + 1 := by omega
    obtain ⟨rfl, rfl⟩ := HLONG.out hall hlg
    go_wp2_with fail
    refine bodyPost_ret (v := .tuple #[.agg #[.bool false, .slice none 0 0], .int .i64 3]) (by simp [results, Tryz.results99, go_sem, k0, k1]) rfl ?_
    exact retp_flat w _ 3
   ·have hl6 : ¬ (600 : Int) < (r.length : Int) + 1 := by omega
    obtain ⟨hzz, rfl⟩ := HGOOD.out hall hlg
    have HZZ := Lib.hid hzz
    have HALL := Lib.hid hall
    clear hzz hall k0 k1 f0 f1
    go_wp2_with fail
    obtain ⟨w0, hw0⟩ : ∃ w0, w.alloc (.cells #[.bool false, .slice none 0 0] 25) = w0 := ⟨_, rfl⟩
    rw [hw0] at HI HW
    go_loopw [6, 7] (fun sv iv wx => ∃ (i q : Nat) (A : Option Addr) (c : Nat), i ≤ r.length + 1 ∧ iv = .int .i64 (i : Int) ∧ sv = .slice A (dig q).length c ∧ (dig q).length ≤ c ∧ Hid (q = dnum ((x :: r).take i)) ∧ Hid (Num wx A (dig q)) ∧ Hid (Below w0.heap.size w0 wx)) (fun _ iv _ => r.length + 1 - (intOf iv).toNat)
    case atStart => exact ⟨0, 0, none, 0, Nat.zero_le _, rfl, by rw [dig_zero]; rfl, by rw [dig_zero]; exact Nat.le_refl _, rfl, by rw [dig_zero]; exact Num.nil _ _, by show Below _ _ _; rw [← hw0]; exact Below.refl _ _⟩
    case round =>
     clear hw0
     obtain ⟨i, q, A, c, hi, rfl, rfl, hqc, hq, HN, HB⟩ := hrel
     have hq6 : (dig q).length ≤ 400 + 2000 := by
      rw [hq.out]
      refine Nat.le_trans (dig_len10 (dnum_lt _ _ rfl (all_take HALL.out i))) ?_
      rw [List.length_take, List.length_cons]
      omega
     by_cases hiL : i < r.length + 1
     ·have hi1 : (i : Int) < (r.length : Int) + 1 := by omega
      have hi0 : (0 : Int) ≤ (i : Int) := by omega
      have hsz : i < (⟨(x :: r).toArray⟩ : ByteArray).size := by show i < (x :: r).toArray.size; rw [List.size_toArray]; exact hiL
      obtain ⟨y, hy⟩ : ∃ y : UInt8, (⟨(x :: r).toArray⟩ : ByteArray)[i]'hsz = y := ⟨_, rfl⟩
      have hyl : (x :: r)[i]? = some y := by rw [← hy]; exact Lib.data_getElem? _ i hsz
      have hyb (h) : (⟨(x :: r).toArray⟩ : ByteArray)[i]'h = y := hy
      have hyr := isDig_range (List.all_eq_true.1 HALL.out y (List.mem_of_getElem? hyl))
      have hdt := dnum_take hyl
      obtain ⟨Y, hY⟩ : ∃ Y, y.toNat = Y := ⟨_, rfl⟩
      rw [hY] at hyr hdt
      obtain ⟨v, hv⟩ : ∃ v, Y - 48 = v := ⟨_, rfl⟩
      rw [hv] at hdt
      have t1 : IntKind.i64.wrap ((i : Int) + 1) = ((i + 1 : Nat) : Int) := by
       have h := IntWalk.i64_in ((i : Int) + 1) (by omega)
       rw [h]; omega
      have t2 : IntKind.u8.wrap ((Y : Int) - 48) = (v : Int) := by
       have h := IntWalk.u8_in ((Y : Int) - 48) (by omega)
       rw [h]; omega
      have t3 : IntKind.u64.wrap (v : Int) = (v : Int) := IntWalk.u64_in _ (by omega)
      have HV64 : Hid (v < 18446744073709551616) := by show _ < _; omega
      obtain ⟨p, hp⟩ : ∃ p, q * 10 = p := ⟨_, rfl⟩
      obtain ⟨q2, hq2⟩ : ∃ q2, p + v = q2 := ⟨_, rfl⟩
      have HQ2 : Hid (q2 = dnum ((x :: r).take (i + 1))) := by show _ = _; rw [hdt, ← hq.out]; omega
      have HPL : Hid ((dig p).length ≤ 400000) := by show _ ≤ _; rw [← hp]; exact Nat.le_trans (dig_mul_len hq6 (by decide)) (by omega)
      have HP := Lib.hid hp
      have HPQ := Lib.hid hq2
      clear hy hyl hyr hdt hv hq hp hq2
      go_upto_region 18 with fail
      go_region_held3 (fun _ => True)
       (trivial)
       (first
       | (go_at_call 139; (refine (radd _ A3 _ c3 p v ?_ ?_ HPL.out).mono ?_); (first | exact HN3.out | exact HN3.out.alloc _); (first | exact Num.one _ v HV64.out | exact Num.below (Num.drew (Num.one _ v HV64.out)) hb3 | exact Num.below (Num.drew (Num.alloc (Num.one _ v HV64.out) _)) hb3 | exact Num.below (Num.drew (Num.one2 _ _ v HV64.out)) hb3); rintro e w4 ⟨A4, c4, rfl, hc4, h4, hb4⟩; have HN4 := Lib.hid h4; (first | have HB4 := Lib.hid (bel_new HB3.out hb4) | have HB4 := Lib.hid (bel_new (HB3.out.alloc HB3.out.size _) hb4)))
       | (go_at_call 142; (refine (rmul _ A _ c q ?_ ?_ (by omega)).mono ?_); (first | exact (HN.out.alloc _).drew | exact ((HN.out.alloc _).alloc _).drew); (first | exact Num.drew (Num.ten _) | exact Num.drew (Num.alloc (Num.ten _) _) | exact Num.drew (Num.ten2 _ _)); (rw [HP.out]); rintro e w3 ⟨A3, c3, rfl, hc3, h3, hb3⟩; have HN3 := Lib.hid h3; (first | have HB3 := Lib.hid (bel_new (bel_a1 HB.out _) hb3) | have HB3 := Lib.hid (bel_new (bel_a2 HB.out _ _) hb3))))
      all_goals
       clear HN3 HB3 hb3 hb4 h3 h4
       rw [HPQ.out] at hc4 HN4
       rw [HPQ.out]
       go_wp2_with fail
       go_roundw
       case rel => exact ⟨i + 1, q2, A4, c4, by omega, rfl, rfl, hc4, HQ2, HN4, HB4⟩
       case measure => first | (simp [intOf]; done) | (simp [intOf]; omega)
     ·have hi1 : ¬ (i : Int) < (r.length : Int) + 1 := by omega
      have hqq : dnum (x :: r) = q := by rw [hq.out, List.take_of_length_le (by rw [List.length_cons]; omega)]
      have HMK := Lib.hid (fun V h => Go.Proofs.YtbbncggaaibheaaGreatDoor.W.make_any V true A c (dig q) z h (by rw [val_dig, ← hqq]; exact HZZ.out) (by omega))
      have I1 := HI.out.below HB.out
      have HI1 := Lib.hid I1
      have HW1 := Lib.hid (HW.out.trans (HB.out.mono HW.out.size))
      clear hqq hq I1
      go_wp2_with fail
      refine (HMK.out _ HN.out).mono ?_
      rintro e w5 ⟨A5, c5, rfl, hc5, h5, hb5⟩
      have HN5 := Lib.hid h5
      have I5 := HI1.out.below hb5
      have HI5 := Lib.hid I5
      have HW5 := Lib.hid (HW1.out.trans (hb5.mono HW1.out.size))
      have k0 := I5.c0
      have k1 := I5.c1
      have f0 := I5.f 0
      have f1 := I5.f 1
      clear h5 hb5 HI1 HW1 I5
      go_wp2_with fail
      refine bodyPost_ret (v := .tuple #[.agg #[.bool (zneg z), .slice A5 (dig z.natAbs).length c5], .int .i64 0]) (by simp [results, Tryz.results99, go_sem, k0, k1]) rfl ?_
      exact retp_of (w := w) (code := 0) rfl rfl hc5 HN5.out HI5.out (Nat.le_refl _) HW5.out (.bool (zneg z)) (.slice A5 (dig z.natAbs).length c5) rfl
end Go.Proofs.YtbbncggaaibheaaGreatDoor.D
namespace Go.Proofs.YtbbncggaaibheaaGreatDoor.D
open Go.RowKit
theorem dig_zlen' : (dig ((0 : Int).natAbs)).length = 0 := by rw [show (0 : Int).natAbs = 0 from rfl, dig_zero]; rfl
theorem dz_len (A : Option Addr) (c : Nat) : (Value.slice A 0 c) = .slice A (dig 0).length c := by rw [dig_zero]; rfl
theorem rmul0 (W : World) (A B : Option Addr) (c : Nat) (hb : Num W B [10]) :
  Calls Tryz.prog 142 #[.slice A 0 c, .slice B 1 1] W (fun e w' => ∃ A' c', e = .returned (.slice A' 0 c') ∧ Below W.heap.size W w') := by
 have h := rmul W A B c 0 (by rw [dig_zero]; exact Num.nil _ _) hb (by rw [dig_zero]; decide)
 rw [dig_zero] at h
 refine h.mono ?_
 rintro e w' ⟨A', c', rfl, _, _, hb⟩
 exact ⟨A', c', by rw [Nat.zero_mul, dig_zero]; rfl, hb⟩
theorem radd0 (W : World) (A B : Option Addr) (c : Nat) (hb : Num W B [0]) :
  Calls Tryz.prog 139 #[.slice A 0 c, .slice B 1 1] W (fun e w' => ∃ A' c', e = .returned (.slice A' 0 c') ∧ Below W.heap.size W w') := by
 have h := radd W A B c 0 0 (by rw [dig_zero]; exact Num.nil _ _) hb (by rw [dig_zero]; decide)
 rw [dig_zero] at h
 refine h.mono ?_
 rintro e w' ⟨A', c', rfl, _, _, hb⟩
 exact ⟨A', c', by rw [Nat.add_zero, dig_zero]; rfl, hb⟩
theorem Num.nought (w : World) : Num (w.alloc (.cells #[.int .u64 0] 30)) (some ⟨w.heap.size, 0, none⟩) [0] := Num.one w 0 (by decide)
theorem Num.nought2 (w : World) (o : Obj) : Num ((w.alloc o).alloc (.cells #[.int .u64 0] 30)) (some ⟨w.heap.size + 1, 0, none⟩) [0] := Num.one2 w o 0 (by decide)
theorem rmake0 (W : World) (A : Option Addr) (c : Nat) : Calls Tryz.prog 138 #[.bool false, .slice A 0 c] W (RetZ W 0) :=
 Go.Proofs.YtbbncggaaibheaaGreatDoor.W.make_any W false A c [] 0 (Num.nil _ _) rfl (by simp)
set_option maxRecDepth 100000 in
set_option maxHeartbeats 16000000 in
theorem rok_zero (w : World) : Calls Tryz.prog 99 #[.string ⟨#[48]⟩] w (RetPZ w 0 0) := by
 have hx0 (h) : ((⟨#[(48 : UInt8)]⟩ : ByteArray)[0]'h) = 48 := rfl
 have HI : Hid (Ibx (w.alloc (.cells #[.bool false, .slice none 0 0] 25)) w.heap.size false none 0 0) := Ibx.new' _ _ _ _ _ _ rfl
 have HW : Hid (Below w.heap.size w (w.alloc (.cells #[.bool false, .slice none 0 0] 25))) := (Below.refl _ _).alloc (Nat.le_refl _) _
 go_enter Tryz.func99, Tryz.ntmps99
 go_wp2_with fail
 go_loop [5] (fun iv => ∃ i : Nat, i ≤ 1 ∧ iv = .int .i64 (i : Int)) (fun iv => 1 - (intOf iv).toNat)
 case atStart => exact ⟨0, by omega, rfl⟩
 case round =>
  obtain ⟨i, hi, rfl⟩ := hrel
  by_cases h1 : i = 1
  ·subst h1
   go_wp2_with fail
   obtain ⟨w0, hw0⟩ : ∃ w0, w.alloc (.cells #[.bool false, .slice none 0 0] 25) = w0 := ⟨_, rfl⟩
   rw [hw0] at HI HW
   go_loopw [6, 7] (fun sv iv wx => ∃ (i : Nat) (A : Option Addr) (c : Nat), i ≤ 1 ∧ iv = .int .i64 (i : Int) ∧ sv = .slice A 0 c ∧ Hid (Below w0.heap.size w0 wx)) (fun _ iv _ => 1 - (intOf iv).toNat)
   case atStart => exact ⟨0, none, 0, by omega, rfl, rfl, by show Below _ _ _; rw [← hw0]; exact Below.refl _ _⟩
   case round =>
    clear hw0
    obtain ⟨i, A, c, hi, rfl, rfl, HB⟩ := hrel
    by_cases h2 : i = 1
    ·subst h2
     have I1 := HI.out.below HB.out
     have HI1 := Lib.hid I1
     have HW1 := Lib.hid (HW.out.trans (HB.out.mono HW.out.size))
     clear I1
     go_wp2_with fail
     refine (rmake0 _ A c).mono ?_
     rintro e w5 ⟨A5, c5, rfl, hc5, h5, hb5⟩
     have HN5 := Lib.hid h5
     have I5 := HI1.out.below hb5
     have HI5 := Lib.hid I5
     have HW5 := Lib.hid (HW1.out.trans (hb5.mono HW1.out.size))
     have k0 := I5.c0
     have k1 := I5.c1
     have f0 := I5.f 0
     have f1 := I5.f 1
     rw [show zneg 0 = false from rfl]
     have hz : (dig (0 : Int).natAbs).length = 0 := dig_zlen'
     rw [hz]
     rw [hz] at hc5
     clear h5 hb5 HI1 HW1 I5 hz
     go_wp2_with fail
     refine bodyPost_ret (v := .tuple #[.agg #[.bool false, .slice A5 0 c5], .int .i64 0]) (by simp [results, Tryz.results99, go_sem, k0, k1]) rfl ?_
     exact ⟨A5, c5, by rw [dig_zlen']; rfl, by rw [dig_zlen']; exact hc5, HN5.out.two HI5.out _ _, (HW5.out.setCell (Nat.le_refl _) _).setCell (Nat.le_refl _) _⟩
    ·obtain rfl : i = 0 := by omega
     go_upto_region 18 with fail
     go_region_held3 (fun _ => True)
      (trivial)
      (first
      | (go_at_call 139; (refine (radd0 _ A3 _ c3 ?_).mono ?_); (first | exact Num.nought _ | exact Num.below (Num.drew (Num.nought _)) hb3 | exact Num.below (Num.drew (Num.alloc (Num.nought _) _)) hb3 | exact Num.below (Num.drew (Num.nought2 _ _)) hb3); rintro e w4 ⟨A4, c4, rfl, hb4⟩; (first | have HB4 := Lib.hid (bel_new HB3.out hb4) | have HB4 := Lib.hid (bel_new (HB3.out.alloc HB3.out.size _) hb4)))
      | (go_at_call 142; (refine (rmul0 _ A _ c ?_).mono ?_); (first | exact Num.drew (Num.ten _) | exact Num.drew (Num.alloc (Num.ten _) _) | exact Num.drew (Num.ten2 _ _)); rintro e w3 ⟨A3, c3, rfl, hb3⟩; (first | have HB3 := Lib.hid (bel_new (bel_a1 HB.out _) hb3) | have HB3 := Lib.hid (bel_new (bel_a2 HB.out _ _) hb3))))
     all_goals
      clear HB3 hb3 hb4
      go_wp2_with fail
      go_roundw
      case rel => exact ⟨1, A4, c4, by omega, rfl, rfl, HB4⟩
      case measure => first | (simp [intOf]; done) | (simp [intOf]; omega)
  ·obtain rfl : i = 0 := by omega
   go_wp2_with fail
   go_round
   case rel => exact ⟨1, by omega, rfl⟩
   case measure => first | (simp [intOf]; done) | (simp [intOf]; omega)
end Go.Proofs.YtbbncggaaibheaaGreatDoor.D
namespace Go.Proofs.YtbbncggaaibheaaGreatDoor.D
open Go.RowKit
theorem toNat_ne {x : UInt8} {n : Nat} (h : x.toNat ≠ n) : ((x.toNat : Int) == (n : Int)) = false := by rw [beq_eq_false_iff_ne]; omega
theorem signed_no {x : UInt8} {r : List UInt8} (h : x ≠ 45) : signed (x :: r) = false := by
 cases hs : signed (x :: r) with
 | false => rfl
 | true => exact absurd (List.cons.inj (signed_of hs)).1 h
theorem parse_pos {x : UInt8} {r : List UInt8} {b : Bool} (h : x ≠ 48) : isNumB (x :: r) b = (x :: r).all isDig := by
 unfold isNumB
 have : (x == 48) = false := by rw [beq_eq_false_iff_ne]; exact h
 simp [this]
theorem rparse_any (w : World) (l : List UInt8) (z code : Int) (hz : parseV l = (z, code)) (hl : l.length ≤ 2000) :
  Calls Tryz.prog 99 #[.string ⟨l.toArray⟩] w (RetPZ w z code) := by
 match l with
 | [] =>
  obtain ⟨rfl, rfl⟩ : (0 : Int) = z ∧ (11 : Int) = code := by
   have h : parseV [] = (0, 11) := by decide
   rw [h] at hz
   exact ⟨congrArg Prod.fst hz, congrArg Prod.snd hz⟩
  exact rbad_nil w
 | x :: r =>
  by_cases h45 : x = 45
  ·subst h45
   match r with
   | [] =>
    obtain ⟨rfl, rfl⟩ : (0 : Int) = z ∧ (11 : Int) = code := by
     have h : parseV [45] = (0, 11) := by decide
     rw [h] at hz
     exact ⟨congrArg Prod.fst hz, congrArg Prod.snd hz⟩
    exact rbad_sign w
   | y :: r =>
    have hp : parseV (45 :: y :: r) = if isNumB (y :: r) true then (if 600 < (y :: r).length then (0, 3) else (zv true (dnum (y :: r)), 0)) else (0, 11) := by
     unfold parseV
     rw [signed_cons, behind_cons]
    rw [hp] at hz
    by_cases h48 : y = 48
    ·subst h48
     have hb : isNumB (48 :: r) true = false := by unfold isNumB; simp
     rw [hb] at hz
     obtain ⟨rfl, rfl⟩ : (0 : Int) = z ∧ (11 : Int) = code := ⟨congrArg Prod.fst hz, congrArg Prod.snd hz⟩
     match r with
     | [] => exact rbad_nzero w
     | u :: r => exact rbad_nlead w u r
    ·rw [parse_pos h48] at hz
     refine rok_neg w y r (toNat_ne (n := 48) (fun e => h48 (UInt8.toNat_inj.1 e))) h48 z code (by simp at hl; omega) ?_ ?_ ?_
     ·intro ha
      rw [ha] at hz
      exact ⟨(congrArg Prod.fst hz).symm, (congrArg Prod.snd hz).symm⟩
     ·intro ha hlg
      rw [ha, if_pos rfl, if_pos (by rw [List.length_cons]; exact hlg)] at hz
      exact ⟨(congrArg Prod.fst hz).symm, (congrArg Prod.snd hz).symm⟩
     ·intro ha hlg
      rw [ha, if_pos rfl, if_neg (by rw [List.length_cons]; exact hlg)] at hz
      exact ⟨congrArg Prod.fst hz, (congrArg Prod.snd hz).symm⟩
  ·have hp : parseV (x :: r) = if isNumB (x :: r) false then (if 600 < (x :: r).length then (0, 3) else (zv false (dnum (x :: r)), 0)) else (0, 11) := by
    unfold parseV
    rw [behind_of (signed_no h45), signed_no h45]
   rw [hp] at hz
   by_cases h48 : x = 48
   ·subst h48
    match r with
    | [] =>
     obtain ⟨rfl, rfl⟩ : (0 : Int) = z ∧ (0 : Int) = code := by
      have h : (if isNumB [48] false = true then (if 600 < ([48] : List UInt8).length then ((0 : Int), (3 : Int)) else (zv false (dnum [48]), 0)) else (0, 11)) = (0, 0) := by decide
      rw [h] at hz
      exact ⟨congrArg Prod.fst hz, congrArg Prod.snd hz⟩
     exact rok_zero w
    | u :: r =>
     have hb : isNumB (48 :: u :: r) false = false := by unfold isNumB; simp
     rw [hb] at hz
     obtain ⟨rfl, rfl⟩ : (0 : Int) = z ∧ (11 : Int) = code := ⟨congrArg Prod.fst hz, congrArg Prod.snd hz⟩
     exact rbad_lead w u r
   ·rw [parse_pos h48] at hz
    refine rok_pos w x r (toNat_ne (n := 45) (fun e => h45 (UInt8.toNat_inj.1 e))) (toNat_ne (n := 48) (fun e => h48 (UInt8.toNat_inj.1 e))) h48 z code (by simp at hl; omega) ?_ ?_ ?_
    ·intro ha
     rw [ha] at hz
     exact ⟨(congrArg Prod.fst hz).symm, (congrArg Prod.snd hz).symm⟩
    ·intro ha hlg
     rw [ha, if_pos rfl, if_pos (by rw [List.length_cons]; exact hlg)] at hz
     exact ⟨(congrArg Prod.fst hz).symm, (congrArg Prod.snd hz).symm⟩
    ·intro ha hlg
     rw [ha, if_pos rfl, if_neg (by rw [List.length_cons]; exact hlg)] at hz
     exact ⟨congrArg Prod.fst hz, (congrArg Prod.snd hz).symm⟩
end Go.Proofs.YtbbncggaaibheaaGreatDoor.D
namespace Go.Proofs.YtbbncggaaibheaaGreatDoor.Q.P
open Go.RowKit
section
variable {w : World} {s t : Bool} {A B : Option Addr} {n c m d k : Nat} {y z : Int}
theorem add_j (h1 : IsZ w s A n c y k) (h2 : IsZ w t B m d z k) (hk : k ≤ 3000) (r : Int) (hr : y + z = r) : Calls Tryz.prog 88 #[.agg #[.bool s, .slice A n c], .agg #[.bool t, .slice B m d]] w (RetJ w r) := by
 obtain ⟨xs, rfl, ha, hx⟩ := h1.ex
 obtain ⟨ys, rfl, hb, hy⟩ := h2.ex
 exact (wadd_z w s t A B c d xs ys y z ha hb hx hy (by have := h1.le; omega) (by have := h2.le; omega) h1.cap h2.cap r hr).mono fun _ _ => retj_of
theorem mul_j (h1 : IsZ w s A n c y k) (h2 : IsZ w t B m d z k) (hk : k ≤ 3000) (r : Int) (hr : y * z = r) : Calls Tryz.prog 89 #[.agg #[.bool s, .slice A n c], .agg #[.bool t, .slice B m d]] w (RetJ w r) := by
 obtain ⟨xs, rfl, ha, hx⟩ := h1.ex
 obtain ⟨ys, rfl, hb, hy⟩ := h2.ex
 exact (wmul_z w s t A B c d xs ys y z ha hb hx hy (by have := h1.le; omega) (by have := h2.le; omega) h1.cap h2.cap r hr).mono fun _ _ => retj_of
theorem gcd_j (h1 : IsZ w s A n c y k) (h2 : IsZ w t B m d z k) (hk : k ≤ 3000) (r : Int) (hr : ((Nat.gcd y.natAbs z.natAbs : Nat) : Int) = r) : Calls Tryz.prog 137 #[.agg #[.bool s, .slice A n c], .agg #[.bool t, .slice B m d]] w (RetJ w r) := by
 obtain ⟨xs, rfl, ha, hx⟩ := h1.ex
 obtain ⟨ys, rfl, hb, hy⟩ := h2.ex
 exact (wgcd_z w s t A B c d xs ys y z ha hb hx hy (by have := h1.le; omega) (by have := h2.le; omega) h1.cap h2.cap r hr).mono fun _ _ => retj_of
theorem cmp_j (h1 : IsZ w s A n c y k) (h2 : IsZ w t B m d z k) (hk : k ≤ 3000) (r : Int) (hr : zcmp y z = r) : Calls Tryz.prog 94 #[.agg #[.bool s, .slice A n c], .agg #[.bool t, .slice B m d]] w (RetI w r) := by
 obtain ⟨xs, rfl, ha, hx⟩ := h1.ex
 obtain ⟨ys, rfl, hb, hy⟩ := h2.ex
 exact wcmp_z w s t A B c d xs ys y z ha hb hx hy (by have := h1.le; omega) (by have := h2.le; omega) h1.cap h2.cap r hr
theorem divmod_j (h1 : IsZ w s A n c y k) (h2 : IsZ w t B m d z k) (hk : k ≤ 3000) (q r : Int) (hq : y / z = q) (hr : zrem y z = r) : Calls Tryz.prog 95 #[.agg #[.bool s, .slice A n c], .agg #[.bool t, .slice B m d]] w (RetJJ w q r) := by
 obtain ⟨xs, rfl, ha, hx⟩ := h1.ex
 obtain ⟨ys, rfl, hb, hy⟩ := h2.ex
 refine (wdivmod_z w s t A B c d xs ys y z ha hb hx hy (by have := h1.le; omega) (by have := h2.le; omega) h1.cap h2.cap q r hq hr).mono ?_
 rintro e w' ⟨A1, c1, B1, d1, rfl, hc, hd, h3, h4, h5⟩
 exact ⟨_, _, _, _, _, _, _, _, rfl, ⟨rfl, rfl, h3, hc⟩, ⟨rfl, rfl, h4, hd⟩, h5⟩
theorem norm_j (h1 : IsZ w s A n c y k) (hk : k ≤ 3000) : Calls Tryz.prog 136 #[.agg #[.bool s, .slice A n c]] w (RetJ w y) := by
 obtain ⟨xs, rfl, ha, hx⟩ := h1.ex
 exact (wnorm_z w s A c xs y ha hx (by have := h1.le; omega) h1.cap _ rfl).mono fun _ _ => retj_of
theorem neg_j (h1 : IsZ w s A n c y k) (hk : k ≤ 3000) (r : Int) (hr : -y = r) : Calls Tryz.prog 93 #[.agg #[.bool s, .slice A n c]] w (RetJ w r) := by
 obtain ⟨xs, rfl, ha, hx⟩ := h1.ex
 exact (wneg_z w s A c xs y ha hx (by have := h1.le; omega) h1.cap r hr).mono fun _ _ => retj_of
theorem sign_j (h1 : IsZ w s A n c y k) (hk : k ≤ 3000) (r : Int) (hr : y.sign = r) : Calls Tryz.prog 92 #[.agg #[.bool s, .slice A n c]] w (RetI w r) := by
 obtain ⟨xs, rfl, ha, hx⟩ := h1.ex
 exact wsign_z w s A c xs y ha hx (by have := h1.le; omega) h1.cap _ hr
end
theorem of_j (w : World) (z r : Int) (hr : z = r) (h1 : -9223372036854775808 ≤ r) (h2 : r ≤ 9223372036854775807) : Calls Tryz.prog 96 #[.int .i64 z] w (RetJ w r) := (wof_z w z r hr h1 h2).mono fun _ _ => retj_of
set_option maxRecDepth 100000 in
set_option maxHeartbeats 2000000 in
theorem lowest_q {w : World} {s t : Bool} {A B : Option Addr} {n c m d k : Nat} {y z : Int} {q : Rat} (h1 : IsZ w s A n c y k) (h2 : IsZ w t B m d z k) (hk : 1 ≤ k) (hk2 : k ≤ 3000) (hzp : 0 < z) (hq : Rat.divInt y z = q) :
  Calls Tryz.prog 87 #[.agg #[.bool s, .slice A n c], .agg #[.bool t, .slice B m d]] w (RetQ w q) := by
 have HS := Lib.hid (SQ.start w s A n c t B m d)
 have HA := Lib.hid (((h1.alloc (.cells #[.bool s, .slice A n c] 25)).alloc (.cells #[.bool t, .slice B m d] 25)).alloc (.cells #[.bool false, .slice none 0 0, .bool false, .slice none 0 0] 28))
 have HB := Lib.hid (((h2.alloc (.cells #[.bool s, .slice A n c] 25)).alloc (.cells #[.bool t, .slice B m d] 25)).alloc (.cells #[.bool false, .slice none 0 0, .bool false, .slice none 0 0] 28))
 have hly := h1.zl
 have hlz := h2.zl
 have hlow := low (n := y) hzp
 have hgl : zl (((Nat.gcd y.natAbs z.natAbs : Nat) : Int)) ≤ k := by
  refine Nat.le_trans ?_ hlz
  unfold zl
  rw [Int.natAbs_natCast]
  exact dl_le (Nat.gcd_le_right _ (by omega))
 obtain ⟨g, hg⟩ : ∃ g : Int, ((Nat.gcd y.natAbs z.natAbs : Nat) : Int) = g := ⟨_, rfl⟩
 rw [hq, hg] at hlow
 rw [hg] at hgl
 have hle := low_le (n := y) hzp
 rw [hq] at hle
 have HDL : Hid (zl (q.den : Int) ≤ k) := by show _ ≤ _; rw [den_zl]; exact Nat.le_trans (dl_le hle.2) hlz
 obtain ⟨one, hone⟩ : ∃ one : Int, (1 : Int) = one := ⟨_, rfl⟩
 have HOB : Hid (one = 1) := hone.symm
 have HOL : Hid (zl one ≤ k) := by show _ ≤ _; rw [← hone]; exact Nat.le_trans (zl_small (by omega) (by omega)) hk
 have HONE := Lib.hid hone
 have HG := Lib.hid hg
 have HGL := Lib.hid hgl
 have HN := Lib.hid hlow.1
 have HD := Lib.hid hlow.2
 clear h1 h2 hly hlz hlow hgl hg hle hq hone
 go_enter Tryz.func87, Tryz.ntmps87
 go_wp2_with fail
 refine (gcd_j HA.out HB.out hk2 g HG.out).mono ?_
 rintro e w1 ⟨sg, Ag, ng, cg, rfl, h1, hb1⟩
 have HS1 := Lib.hid (HS.out.below hb1)
 have HA1 := Lib.hid (HA.out.below hb1)
 have HB1 := Lib.hid (HB.out.below hb1)
 have H1 := Lib.hid (h1.isz HGL.out)
 have HLW : Hid (w.heap.size + 1 + 1 < w1.heap.size) := HS1.out.o.lt
 clear h1 hb1 HS HA HB
 obtain ⟨W, hW⟩ : ∃ W, w1.alloc (.cells #[.bool sg, .slice Ag ng cg] 25) = W := ⟨_, rfl⟩
 have HG2 : Hid (Ibx W w1.heap.size sg Ag ng cg) := by rw [← hW]; exact Ibx.new' _ _ _ _ _ _ rfl
 have HS2 : Hid (SQ w W s A n c t B m d) := by rw [← hW]; exact HS1.out.alloc _
 have HA2 : Hid (IsZ W s A n c y k) := by rw [← hW]; exact HA1.out.alloc _
 have HB2 : Hid (IsZ W t B m d z k) := by rw [← hW]; exact HB1.out.alloc _
 have HO2 : Hid (IsZ W sg Ag ng cg g k) := by rw [← hW]; exact H1.out.alloc _
 clear HS1 HA1 HB1 H1
 have k0 := HS2.out.i1.c0
 have k1 := HS2.out.i1.c1
 have g0 := HG2.out.c0
 have g1 := HG2.out.c1
 go_wp2_with fail
 refine (divmod_j HA2.out HO2.out hk2 q.num _ HN.out rfl).mono ?_
 rintro e w3 ⟨s3, A3, n3, c3, sr, Ar, nr, cr, rfl, h3, hr3, hb3⟩
 clear hW k0 k1 g0 g1
 have HS3 := Lib.hid (HS2.out.below hb3)
 have HG3 := Lib.hid (HG2.out.below hb3)
 have HB3 := Lib.hid (HB2.out.below hb3)
 have HO3 := Lib.hid (HO2.out.below hb3)
 have HN3 := Lib.hid h3
 clear h3 hr3 hb3 HS2 HG2 HA2 HB2 HO2
 obtain ⟨V, hV⟩ : ∃ V, (w3.setCell ⟨w.heap.size, 0, none⟩ (.bool s3)).setCell ⟨w.heap.size, 1, none⟩ (.slice A3 n3 c3) = V := ⟨_, rfl⟩
 have HS4 : Hid (SQ w V s3 A3 n3 c3 t B m d) := by rw [← hV]; exact HS3.out.fst
 have HG4 : Hid (Ibx V w1.heap.size sg Ag ng cg) := by rw [← hV]; exact HG3.out.put_far (by have := HLW.out; omega)
 have HB4 : Hid (IsZ V t B m d z k) := by rw [← hV]; exact HB3.out.on2 HS3.out.i1.bx
 have HO4 : Hid (IsZ V sg Ag ng cg g k) := by rw [← hV]; exact HO3.out.on2 HS3.out.i1.bx
 have HN4 : Hid (OneZ V s3 A3 n3 c3 q.num) := by rw [← hV]; exact HN3.out.on2 HS3.out.i1.bx
 have j0 := HS3.out.i1.c0
 have j1 := HS3.out.i1.c1
 have f0 := HS3.out.i1.f 0
 have f1 := HS3.out.i1.f 1
 have k0 := HS4.out.i2.c0
 have k1 := HS4.out.i2.c1
 have g0 := HG4.out.c0
 have g1 := HG4.out.c1
 go_wp2_with fail
 refine (divmod_j HB4.out HO4.out hk2 (q.den : Int) _ HD.out rfl).mono ?_
 rintro e w5 ⟨s5, A5, n5, c5, sr, Ar, nr, cr, rfl, h5, hr5, hb5⟩
 clear hV j0 j1 f0 f1 k0 k1 g0 g1
 have HS5 := Lib.hid (HS4.out.below hb5)
 have HN5 := Lib.hid (HN4.out.below hb5)
 have HD5 := Lib.hid h5
 clear h5 hr5 hb5 HS3 HG3 HB3 HO3 HN3 HS4 HG4 HB4 HO4 HN4
 obtain ⟨U, hU⟩ : ∃ U, (w5.setCell ⟨w.heap.size + 1, 0, none⟩ (.bool s5)).setCell ⟨w.heap.size + 1, 1, none⟩ (.slice A5 n5 c5) = U := ⟨_, rfl⟩
 have HS6 : Hid (SQ w U s3 A3 n3 c3 s5 A5 n5 c5) := by rw [← hU]; exact HS5.out.snd
 have HN6 : Hid (OneZ U s3 A3 n3 c3 q.num) := by rw [← hU]; exact HN5.out.on2 HS5.out.i2.bx
 have HD6 : Hid (OneZ U s5 A5 n5 c5 (q.den : Int)) := by rw [← hU]; exact HD5.out.on2 HS5.out.i2.bx
 have j0 := HS5.out.i2.c0
 have j1 := HS5.out.i2.c1
 have f0 := HS5.out.i2.f 0
 have f1 := HS5.out.i2.f 1
 obtain ⟨kc, hkc⟩ : ∃ kc, zcmp (q.den : Int) one = kc := ⟨_, rfl⟩
 have HKC := Lib.hid hkc
 go_upto_region 4 with fail
 clear hU HS5 HN5 HD5 j0 j1 f0 f1
 have hdn := q.den_nz
 by_cases hd1 : q.den = 1
 ·have b1 : (kc == 0) = true := by rw [← hkc, hd1, HOB.out]; rfl
  clear hkc hdn
  go_region_held3 (fun V => V.cell? ⟨w.heap.size + 1, 0, none⟩ = some (.bool s5) ∧ V.cell? ⟨w.heap.size + 1, 1, none⟩ = some (.slice A5 n5 c5))
   (first | (with_reducible exact ⟨HS8.out.i2.c0, HS8.out.i2.c1⟩) | (with_reducible exact ⟨HS7.out.i2.c0, HS7.out.i2.c1⟩) | (with_reducible exact ⟨HS6.out.drew.i2.c0, HS6.out.drew.i2.c1⟩))
   (first
   | (go_at_call 94; (with_reducible refine (cmp_j (HD7.out.isz HDL.out) (HO7.out.isz HOL.out) hk2 kc HKC.out).mono ?_); rintro e w8 ⟨rfl, hb8⟩; have HS8 := Lib.hid (HS7.out.below hb8); have HN8 := Lib.hid (HN7.out.below hb8); have HD8 := Lib.hid (HD7.out.below hb8))
   | (go_at_call 96; (with_reducible refine (of_j _ 1 one HONE.out (by have := HOB.out; omega) (by have := HOB.out; omega)).mono ?_); rintro e w7 ⟨s7, A7, n7, c7, rfl, h7, hb7⟩; have HS7 := Lib.hid (HS6.out.drew.below hb7); have HN7 := Lib.hid (HN6.out.drew.below hb7); have HD7 := Lib.hid (HD6.out.drew.below hb7); have HO7 := Lib.hid h7))
  all_goals
   have k0 := HS8.out.i1.c0
   have k1 := HS8.out.i1.c1
   have k2 := HS8.out.i2.c0
   have k3 := HS8.out.i2.c1
   have f0 := HS8.out.i2.f 0
   have f1 := HS8.out.i2.f 1
   have o0 := HS8.out.o.c0
   have o1 := HS8.out.o.c1
   have o2 := HS8.out.o.c2
   have o3 := HS8.out.o.c3
   have p0 := HS8.out.o.f 0
   have p1 := HS8.out.o.f 1
   have p2 := HS8.out.o.f 2
   have p3 := HS8.out.o.f 3
   go_wp2_with fail
   refine bodyPost_ret (v := .agg #[.bool s3, .slice A3 n3 c3, .bool false, .slice none 0 0]) (by simp [results, Tryz.results87, go_sem, o0, o1, o2, o3]) rfl ?_
   exact retq_put (oneq_one (HN8.out.on2 HS8.out.i2.bx) hd1 0) HS8.out.snd.o (by omega) HS8.out.snd.bel
 ·have b1 : (kc == 0) = false := by
   rw [beq_eq_false_iff_ne, ← hkc, HOB.out]
   unfold zcmp
   split
   ·omega
   ·split <;> omega
  clear hkc hdn
  go_region_held3 (fun V => V.cell? ⟨w.heap.size + 1, 0, none⟩ = some (.bool s5) ∧ V.cell? ⟨w.heap.size + 1, 1, none⟩ = some (.slice A5 n5 c5))
   (first | (with_reducible exact ⟨HS8.out.i2.c0, HS8.out.i2.c1⟩) | (with_reducible exact ⟨HS7.out.i2.c0, HS7.out.i2.c1⟩) | (with_reducible exact ⟨HS6.out.drew.i2.c0, HS6.out.drew.i2.c1⟩))
   (first
   | (go_at_call 94; (with_reducible refine (cmp_j (HD7.out.isz HDL.out) (HO7.out.isz HOL.out) hk2 kc HKC.out).mono ?_); rintro e w8 ⟨rfl, hb8⟩; have HS8 := Lib.hid (HS7.out.below hb8); have HN8 := Lib.hid (HN7.out.below hb8); have HD8 := Lib.hid (HD7.out.below hb8))
   | (go_at_call 96; (with_reducible refine (of_j _ 1 one HONE.out (by have := HOB.out; omega) (by have := HOB.out; omega)).mono ?_); rintro e w7 ⟨s7, A7, n7, c7, rfl, h7, hb7⟩; have HS7 := Lib.hid (HS6.out.drew.below hb7); have HN7 := Lib.hid (HN6.out.drew.below hb7); have HD7 := Lib.hid (HD6.out.drew.below hb7); have HO7 := Lib.hid h7))
  all_goals
   have k0 := HS8.out.i1.c0
   have k1 := HS8.out.i1.c1
   have k2 := HS8.out.i2.c0
   have k3 := HS8.out.i2.c1
   have o0 := HS8.out.o.c0
   have o1 := HS8.out.o.c1
   have o2 := HS8.out.o.c2
   have o3 := HS8.out.o.c3
   have p0 := HS8.out.o.f 0
   have p1 := HS8.out.o.f 1
   have p2 := HS8.out.o.f 2
   have p3 := HS8.out.o.f 3
   go_wp2_with fail
   refine bodyPost_ret (v := .agg #[.bool s3, .slice A3 n3 c3, .bool s5, .slice A5 n5 c5]) (by simp [results, Tryz.results87, go_sem, o0, o1, o2, o3]) rfl ?_
   exact retq_put (oneq_of HN8.out HD8.out hd1) HS8.out.o (by omega) HS8.out.bel
end Go.Proofs.YtbbncggaaibheaaGreatDoor.Q.P
namespace Go.Proofs.YtbbncggaaibheaaGreatDoor.Q.P
open Go.RowKit
set_option maxRecDepth 100000 in
set_option maxHeartbeats 2000000 in
theorem make_q {w : World} {s t : Bool} {A B : Option Addr} {n c m d k : Nat} {y z : Int} (h1 : IsZ w s A n c y k) (h2 : IsZ w t B m d z k) (hk : 1 ≤ k) (hk2 : k ≤ 3000) (q : Rat) (hq : Rat.divInt y z = q) :
  Calls Tryz.prog 40 #[.agg #[.bool s, .slice A n c], .agg #[.bool t, .slice B m d]] w (RetQ w q) := by
 have HS := Lib.hid (SQ.start w s A n c t B m d)
 have HA := Lib.hid (((h1.alloc (.cells #[.bool s, .slice A n c] 25)).alloc (.cells #[.bool t, .slice B m d] 25)).alloc (.cells #[.bool false, .slice none 0 0, .bool false, .slice none 0 0] 28))
 have HB := Lib.hid (((h2.alloc (.cells #[.bool s, .slice A n c] 25)).alloc (.cells #[.bool t, .slice B m d] 25)).alloc (.cells #[.bool false, .slice none 0 0, .bool false, .slice none 0 0] 28))
 obtain ⟨sg, hsg⟩ : ∃ sg, z.sign = sg := ⟨_, rfl⟩
 have HSG := Lib.hid hsg
 rcases Int.lt_trichotomy z 0 with hz | hz | hz
 ·have hs1 : (sg == 0) = false := by rw [← hsg, Int.sign_eq_neg_one_of_neg hz]; rfl
  have hs2 : sg < 0 := by rw [← hsg, Int.sign_eq_neg_one_of_neg hz]; omega
  obtain ⟨y', hy'⟩ : ∃ y', -y = y' := ⟨_, rfl⟩
  obtain ⟨z', hz'⟩ : ∃ z', -z = z' := ⟨_, rfl⟩
  have hzp : 0 < z' := by omega
  have HQ : Hid (Rat.divInt y' z' = q) := by show _ = _; rw [← hq, ← hy', ← hz', Rat.neg_divInt_neg]
  have HYL : Hid (zl y' ≤ k) := by show _ ≤ _; rw [← hy', zl_neg]; exact h1.zl
  have HZL : Hid (zl z' ≤ k) := by show _ ≤ _; rw [← hz', zl_neg]; exact h2.zl
  have HY := Lib.hid hy'
  have HZ := Lib.hid hz'
  clear h1 h2 hq hsg hz hy' hz'
  go_enter Tryz.func40, Tryz.ntmps40
  go_wp2_with fail
  refine (sign_j HB.out hk2 sg HSG.out).mono ?_
  rintro e w1 ⟨rfl, hb1⟩
  have HS1 := Lib.hid (HS.out.below hb1)
  have HA1 := Lib.hid (HA.out.below hb1)
  have HB1 := Lib.hid (HB.out.below hb1)
  clear hb1
  have k0 := HS1.out.i1.c0
  have k1 := HS1.out.i1.c1
  go_wp2_with fail
  refine (neg_j HA1.out hk2 y' HY.out).mono ?_
  rintro e w2 ⟨s2, A2, n2, c2, rfl, h2, hb2⟩
  have HS2 := Lib.hid (HS1.out.below hb2)
  have HB2 := Lib.hid (HB1.out.below hb2)
  have HN2 := Lib.hid (h2.isz HYL.out)
  clear h2 hb2 k0 k1
  obtain ⟨V, hV⟩ : ∃ V, (w2.setCell ⟨w.heap.size, 0, none⟩ (.bool s2)).setCell ⟨w.heap.size, 1, none⟩ (.slice A2 n2 c2) = V := ⟨_, rfl⟩
  have HS3 : Hid (SQ w V s2 A2 n2 c2 t B m d) := by rw [← hV]; exact HS2.out.fst
  have HB3 : Hid (IsZ V t B m d z k) := by rw [← hV]; exact HB2.out.on2 HS2.out.i1.bx
  have HN3 : Hid (IsZ V s2 A2 n2 c2 y' k) := by rw [← hV]; exact HN2.out.on2 HS2.out.i1.bx
  have j0 := HS2.out.i1.c0
  have j1 := HS2.out.i1.c1
  have f0 := HS2.out.i1.f 0
  have f1 := HS2.out.i1.f 1
  have k0 := HS3.out.i2.c0
  have k1 := HS3.out.i2.c1
  go_wp2_with fail
  refine (neg_j HB3.out hk2 z' HZ.out).mono ?_
  rintro e w4 ⟨s4, A4, n4, c4, rfl, h4, hb4⟩
  clear hV j0 j1 f0 f1 k0 k1
  have HS4 := Lib.hid (HS3.out.below hb4)
  have HN4 := Lib.hid (HN3.out.below hb4)
  have HD4 := Lib.hid (h4.isz HZL.out)
  clear h4 hb4
  obtain ⟨U, hU⟩ : ∃ U, (w4.setCell ⟨w.heap.size + 1, 0, none⟩ (.bool s4)).setCell ⟨w.heap.size + 1, 1, none⟩ (.slice A4 n4 c4) = U := ⟨_, rfl⟩
  have HS5 : Hid (SQ w U s2 A2 n2 c2 s4 A4 n4 c4) := by rw [← hU]; exact HS4.out.snd
  have HN5 : Hid (IsZ U s2 A2 n2 c2 y' k) := by rw [← hU]; exact HN4.out.on2 HS4.out.i2.bx
  have HD5 : Hid (IsZ U s4 A4 n4 c4 z' k) := by rw [← hU]; exact HD4.out.on2 HS4.out.i2.bx
  have j0 := HS4.out.i2.c0
  have j1 := HS4.out.i2.c1
  have f0 := HS4.out.i2.f 0
  have f1 := HS4.out.i2.f 1
  have k0 := HS5.out.i1.c0
  have k1 := HS5.out.i1.c1
  have k2 := HS5.out.i2.c0
  have k3 := HS5.out.i2.c1
  go_wp2_with fail
  refine (lowest_q HN5.out HD5.out hk hk2 hzp HQ.out).mono ?_
  rintro e w8 ⟨s8, A8, n8, c8, t8, B8, m8, d8, rfl, h8, hb8⟩
  clear hU j0 j1 f0 f1 k0 k1 k2 k3
  have HS8 := Lib.hid (HS5.out.below hb8)
  have HR8 := Lib.hid h8
  clear h8 hb8
  have o0 := HS8.out.o.c0
  have o1 := HS8.out.o.c1
  have o2 := HS8.out.o.c2
  have o3 := HS8.out.o.c3
  have f0 := HS8.out.o.f 0
  have f1 := HS8.out.o.f 1
  have f2 := HS8.out.o.f 2
  have f3 := HS8.out.o.f 3
  go_wp2_with fail
  refine bodyPost_ret (v := .agg #[.bool s8, .slice A8 n8 c8, .bool t8, .slice B8 m8 d8]) (by simp [results, Tryz.results40, go_sem, o0, o1, o2, o3]) rfl ?_
  exact retq_put HR8.out HS8.out.o (by omega) HS8.out.bel
 ·have hs1 : (sg == 0) = true := by rw [← hsg, hz]; rfl
  have HQ : Hid (q = 0) := by show _ = _; rw [← hq, hz, Rat.divInt_zero]
  clear h1 h2 hq hsg hz
  go_enter Tryz.func40, Tryz.ntmps40
  go_wp2_with fail
  refine (sign_j HB.out hk2 sg HSG.out).mono ?_
  rintro e w1 ⟨rfl, hb1⟩
  have HS1 := Lib.hid (HS.out.below hb1)
  clear hb1
  have o0 := HS1.out.o.c0
  have o1 := HS1.out.o.c1
  have o2 := HS1.out.o.c2
  have o3 := HS1.out.o.c3
  have f0 := HS1.out.o.f 0
  have f1 := HS1.out.o.f 1
  have f2 := HS1.out.o.f 2
  have f3 := HS1.out.o.f 3
  go_wp2_with fail
  refine bodyPost_ret (v := .agg #[.bool false, .slice none 0 0, .bool false, .slice none 0 0]) (by simp [results, Tryz.results40, go_sem, o0, o1, o2, o3]) rfl ?_
  exact (by rw [HQ.out]; exact retq_put (oneq_zero _ 0 0) HS1.out.o (by omega) HS1.out.bel)
 ·have hs1 : (sg == 0) = false := by rw [← hsg, Int.sign_eq_one_of_pos hz]; rfl
  have hs2 : ¬ sg < 0 := by rw [← hsg, Int.sign_eq_one_of_pos hz]; omega
  have HQ := Lib.hid hq
  clear h1 h2 hq hsg
  go_enter Tryz.func40, Tryz.ntmps40
  go_wp2_with fail
  refine (sign_j HB.out hk2 sg HSG.out).mono ?_
  rintro e w1 ⟨rfl, hb1⟩
  have HS1 := Lib.hid (HS.out.below hb1)
  have HA1 := Lib.hid (HA.out.below hb1)
  have HB1 := Lib.hid (HB.out.below hb1)
  clear hb1
  have k0 := HS1.out.i1.c0
  have k1 := HS1.out.i1.c1
  have k2 := HS1.out.i2.c0
  have k3 := HS1.out.i2.c1
  go_wp2_with fail
  refine (lowest_q HA1.out HB1.out hk hk2 hz HQ.out).mono ?_
  rintro e w8 ⟨s8, A8, n8, c8, t8, B8, m8, d8, rfl, h8, hb8⟩
  have HS8 := Lib.hid (HS1.out.below hb8)
  have HR8 := Lib.hid h8
  clear h8 hb8 k0 k1 k2 k3
  have o0 := HS8.out.o.c0
  have o1 := HS8.out.o.c1
  have o2 := HS8.out.o.c2
  have o3 := HS8.out.o.c3
  have f0 := HS8.out.o.f 0
  have f1 := HS8.out.o.f 1
  have f2 := HS8.out.o.f 2
  have f3 := HS8.out.o.f 3
  go_wp2_with fail
  refine bodyPost_ret (v := .agg #[.bool s8, .slice A8 n8 c8, .bool t8, .slice B8 m8 d8]) (by simp [results, Tryz.results40, go_sem, o0, o1, o2, o3]) rfl ?_
  exact retq_put HR8.out HS8.out.o (by omega) HS8.out.bel
end Go.Proofs.YtbbncggaaibheaaGreatDoor.Q.P
namespace Go.Proofs.YtbbncggaaibheaaGreatDoor.Q.P
open Go.RowKit
structure PA (w wx : World) (s : Bool) (A : Option Addr) (n c : Nat) (t : Bool) (B : Option Addr) (m d : Nat) : Prop where
 bel : Below w.heap.size w wx
 a : Qbx wx w.heap.size s A n c t B m d
 o1 : Ibx wx (w.heap.size + 1) false none 0 0
 o2 : Ibx wx (w.heap.size + 1 + 1) false none 0 0
theorem PA.start (w : World) (s : Bool) (A : Option Addr) (n c : Nat) (t : Bool) (B : Option Addr) (m d : Nat) : PA w (((w.alloc (.cells #[.bool s, .slice A n c, .bool t, .slice B m d] 28)).alloc (.cells #[.bool false, .slice none 0 0] 25)).alloc (.cells #[.bool false, .slice none 0 0] 25)) s A n c t B m d :=
 ⟨(((Below.refl _ _).alloc (Nat.le_refl _) _).alloc (by simp) _).alloc (by simp; omega) _, ((Qbx.new _ _ rfl).alloc _).alloc _, (Ibx.new' _ _ _ _ _ _ (by simp)).alloc _, Ibx.new' _ _ _ _ _ _ (by simp)⟩
theorem PA.below {w wx wy : World} {s t : Bool} {A B : Option Addr} {n c m d : Nat} (h : PA w wx s A n c t B m d) (hb : Below wx.heap.size wx wy) : PA w wy s A n c t B m d :=
 ⟨below_on h.bel hb, h.a.below hb, h.o1.below hb, h.o2.below hb⟩
set_option maxRecDepth 100000 in
set_option maxHeartbeats 4000000 in
theorem parts_any {w : World} {s t : Bool} {A B : Option Addr} {n c m d k : Nat} {q : Rat} (h : IsQ w s A n c t B m d q k) (hk : 1 ≤ k) (hk2 : k ≤ 3000) :
  Calls Tryz.prog 86 #[.agg #[.bool s, .slice A n c, .bool t, .slice B m d]] w (RetP w q k) := by
 obtain ⟨y, z, hy, hz, hq⟩ := h.two
 have HS := Lib.hid (PA.start w s A n c t B m d)
 have HY := Lib.hid (((hy.alloc (.cells #[.bool s, .slice A n c, .bool t, .slice B m d] 28)).alloc (.cells #[.bool false, .slice none 0 0] 25)).alloc (.cells #[.bool false, .slice none 0 0] 25))
 have HZ := Lib.hid (((hz.alloc (.cells #[.bool s, .slice A n c, .bool t, .slice B m d] 28)).alloc (.cells #[.bool false, .slice none 0 0] 25)).alloc (.cells #[.bool false, .slice none 0 0] 25))
 have HYL := Lib.hid hy.zl
 have HZL := Lib.hid hz.zl
 have HQ := Lib.hid hq
 have HOL : Hid (zl (1 : Int) ≤ k) := Nat.le_trans (zl_small (by omega) (by omega)) hk
 clear hy hz hq h
 go_enter Tryz.func86, Tryz.ntmps86
 go_wp2_with fail
 refine (norm_j HY.out hk2).mono ?_
 rintro e w1 ⟨s1, A1, n1, c1, rfl, h1, hb1⟩
 have HS1 := Lib.hid (HS.out.below hb1)
 have HZ1 := Lib.hid (HZ.out.below hb1)
 have HN1 := Lib.hid h1
 clear h1 hb1 HS HY HZ
 obtain ⟨V, hV⟩ : ∃ V, w1.alloc (.cells #[.bool s1, .slice A1 n1 c1] 25) = V := ⟨_, rfl⟩
 have HV : Hid (Below w1.heap.size w1 V) := by rw [← hV]; exact (Below.refl _ _).alloc (Nat.le_refl _) _
 have HI1 : Hid (Ibx V w1.heap.size s1 A1 n1 c1) := by rw [← hV]; exact Ibx.new' _ _ _ _ _ _ rfl
 have HLW : Hid (w.heap.size + 1 + 1 < w1.heap.size) := HS1.out.o2.lt
 have HS2 := Lib.hid (HS1.out.below HV.out)
 have HZ2 := Lib.hid (HZ1.out.below HV.out)
 have HN2 := Lib.hid (HN1.out.below HV.out)
 clear HS1 HZ1 HN1 HV
 have k0 := HS2.out.a.c0
 have k1 := HS2.out.a.c1
 have k2 := HS2.out.a.c2
 have k3 := HS2.out.a.c3
 go_wp2_with fail
 refine (norm_j HZ2.out hk2).mono ?_
 rintro e w2 ⟨s2, A2, n2, c2, rfl, h2, hb2⟩
 clear hV k0 k1 k2 k3
 have HS3 := Lib.hid (HS2.out.below hb2)
 have HI3 := Lib.hid (HI1.out.below hb2)
 have HN3 := Lib.hid (HN2.out.below hb2)
 have HD3 := Lib.hid h2
 clear h2 hb2 HS2 HI1 HN2 HZ2
 obtain ⟨W, hW⟩ : ∃ W, w2.alloc (.cells #[.bool s2, .slice A2 n2 c2] 25) = W := ⟨_, rfl⟩
 have HV : Hid (Below w2.heap.size w2 W) := by rw [← hW]; exact (Below.refl _ _).alloc (Nat.le_refl _) _
 have HI4 : Hid (Ibx W w2.heap.size s2 A2 n2 c2) := by rw [← hW]; exact Ibx.new' _ _ _ _ _ _ rfl
 have HLX : Hid (w.heap.size + 1 + 1 < w2.heap.size) := HS3.out.o2.lt
 have HNE : Hid (w1.heap.size ≠ w2.heap.size) := Nat.ne_of_lt HI3.out.lt
 have HS := Lib.hid (HS3.out.below HV.out)
 have HN := Lib.hid (HN3.out.below HV.out)
 have HD := Lib.hid (HD3.out.below HV.out)
 have HP : Hid (PS w W w1.heap.size w2.heap.size s1 A1 n1 c1 s2 A2 n2 c2) := ⟨HS.out.bel, HI3.out.below HV.out, HI4.out, HS.out.o1, HS.out.o2, HNE.out, HLW.out, HLX.out⟩
 clear HS3 HI3 HN3 HD3 HV HI4
 have k3 := HS.out.a.c3
 have k2 := HS.out.a.c2
 have r0 := HP.out.i2.c0
 have r1 := HP.out.i2.c1
 have fr0 := HP.out.i2.f 0
 have fr1 := HP.out.i2.f 1
 by_cases hm : m = 0
 ·have hm0 : ((m : Int) == 0) = true := by rw [hm]; rfl
  have HE : Hid (Rat.divInt y 1 = q) := by show _ = _; rw [← HQ.out, if_pos hm]
  clear hm
  go_wp2_with fail
  refine (of_j _ 1 1 rfl (by omega) (by omega)).mono ?_
  rintro e w3 ⟨s3, A3, n3, c3, rfl, h3, hb3⟩
  obtain rfl : s3 = false := h3.es
  clear hW k2 k3 r0 r1 fr0 fr1
  have HP3 := Lib.hid (HP.out.below hb3)
  have HN3 := Lib.hid (HN.out.below hb3)
  have HO3 := Lib.hid h3
  clear h3 hb3
  obtain ⟨U, hU⟩ : ∃ U, (w3.setCell ⟨w2.heap.size, 0, none⟩ (.bool false)).setCell ⟨w2.heap.size, 1, none⟩ (.slice A3 n3 c3) = U := ⟨_, rfl⟩
  have HP4 : Hid (PS w U w1.heap.size w2.heap.size s1 A1 n1 c1 false A3 n3 c3) := by rw [← hU]; exact HP3.out.den
  have HN4 : Hid (OneZ U s1 A1 n1 c1 y) := by rw [← hU]; exact HN3.out.on2 HP3.out.i2.bx
  have HO4 : Hid (OneZ U false A3 n3 c3 1) := by rw [← hU]; exact HO3.out.on2 HP3.out.i2.bx
  have r0 := HP3.out.i2.c0
  have r1 := HP3.out.i2.c1
  have fr0 := HP3.out.i2.f 0
  have fr1 := HP3.out.i2.f 1
  have t0 := HP4.out.i2.c0
  have t1 := HP4.out.i2.c1
  go_wp2_with fail
  refine (sign_j (HO4.out.isz HOL.out) hk2 1 rfl).mono ?_
  rintro e w5 ⟨rfl, hb5⟩
  clear hU r0 r1 fr0 fr1 t0 t1
  have HP5 := Lib.hid (HP4.out.below hb5)
  have HN5 := Lib.hid ((HN4.out.below hb5).isz HYL.out)
  have HO5 := Lib.hid ((HO4.out.below hb5).isz HOL.out)
  clear hb5
  have p0 := HP5.out.i1.c0
  have p1 := HP5.out.i1.c1
  have r0 := HP5.out.i2.c0
  have r1 := HP5.out.i2.c1
  have o0 := HP5.out.o1.c0
  have o1 := HP5.out.o1.c1
  have v0 := HP5.out.o2.c0
  have v1 := HP5.out.o2.c1
  have fo0 := HP5.out.o1.f 0
  have fo1 := HP5.out.o1.f 1
  have fv0 := HP5.out.o2.f 0
  have fv1 := HP5.out.o2.f 1
  have hpp := HLW.out
  have hrr := HLX.out
  have e1 : w.heap.size + 1 ≠ w1.heap.size := by omega
  have e2 : w.heap.size + 1 + 1 ≠ w1.heap.size := by omega
  have e3 : w.heap.size + 1 ≠ w2.heap.size := by omega
  have e4 : w.heap.size + 1 + 1 ≠ w2.heap.size := by omega
  go_upto_region 10 with fail
  go_region
  all_goals
   go_wp2_with fail
   refine bodyPost_ret (v := .tuple #[.agg #[.bool s1, .slice A1 n1 c1], .agg #[.bool false, .slice A3 n3 c3]]) (by simp [results, Tryz.results86, go_sem, o0, o1, v0, v1]) rfl ?_
   exact ⟨s1, A1, n1, c1, false, A3, n3, c3, _, _, rfl, ((HN5.out.on2 HP5.out.o1.bx).on2 (HP5.out.o2.put_far (by omega)).bx).drew, ((HO5.out.on2 HP5.out.o1.bx).on2 (HP5.out.o2.put_far (by omega)).bx).drew, by omega, HE.out, (below_put2 (below_put2 HP5.out.bel (by omega)) (by omega)).drew⟩
 ·have hm0 : ((m : Int) == 0) = false := by rw [beq_eq_false_iff_ne]; omega
  have HE : Hid (Rat.divInt y z = q) := by show _ = _; rw [← HQ.out, if_neg hm]
  clear hm
  obtain ⟨sg, hsg⟩ : ∃ sg, z.sign = sg := ⟨_, rfl⟩
  have HSG := Lib.hid hsg
  rcases Int.lt_trichotomy z 0 with hz | hz | hz
  ·have hs1 : (sg == 0) = false := by rw [← hsg, Int.sign_eq_neg_one_of_neg hz]; rfl
   obtain rfl : s2 = true := by rw [HD.out.es]; unfold zneg; exact decide_eq_true hz
   have HZP : Hid (0 < -z) := by show _ < _; omega
   have HE2 : Hid (Rat.divInt (-y) (-z) = q) := by show _ = _; rw [Rat.neg_divInt_neg, HE.out]
   have HNL : Hid (zl (-y) ≤ k) := by show _ ≤ _; rw [zl_neg]; exact HYL.out
   have HDL : Hid (zl (-z) ≤ k) := by show _ ≤ _; rw [zl_neg]; exact HZL.out
   obtain ⟨y', hy'⟩ : ∃ y', -y = y' := ⟨_, rfl⟩
   obtain ⟨z', hz'⟩ : ∃ z', -z = z' := ⟨_, rfl⟩
   rw [hy'] at HE2 HNL
   rw [hz'] at HE2 HZP HDL
   have HY' := Lib.hid hy'
   have HZ' := Lib.hid hz'
   clear hsg hz hy' hz'
   go_wp2_with fail
   refine (sign_j (HD.out.isz HZL.out) hk2 sg HSG.out).mono ?_
   rintro e w3 ⟨rfl, hb3⟩
   clear hW k2 k3 r0 r1 fr0 fr1
   have HP3 := Lib.hid (HP.out.below hb3)
   have HN3 := Lib.hid ((HN.out.below hb3).isz HYL.out)
   have HD3 := Lib.hid ((HD.out.below hb3).isz HZL.out)
   clear hb3
   have p0 := HP3.out.i1.c0
   have p1 := HP3.out.i1.c1
   have r0 := HP3.out.i2.c0
   have r1 := HP3.out.i2.c1
   go_wp2_with fail
   refine (neg_j HN3.out hk2 y' HY'.out).mono ?_
   rintro e w4 ⟨s4, A4, n4, c4, rfl, h4, hb4⟩
   clear p0 p1 r0 r1
   have HP4 := Lib.hid (HP3.out.below hb4)
   have HD4 := Lib.hid (HD3.out.below hb4)
   have HN4 := Lib.hid h4
   clear h4 hb4
   obtain ⟨U, hU⟩ : ∃ U, (w4.setCell ⟨w1.heap.size, 0, none⟩ (.bool s4)).setCell ⟨w1.heap.size, 1, none⟩ (.slice A4 n4 c4) = U := ⟨_, rfl⟩
   have HP5 : Hid (PS w U w1.heap.size w2.heap.size s4 A4 n4 c4 true A2 n2 c2) := by rw [← hU]; exact HP4.out.num
   have HN5 : Hid (OneZ U s4 A4 n4 c4 y') := by rw [← hU]; exact HN4.out.on2 HP4.out.i1.bx
   have HD5 : Hid (IsZ U true A2 n2 c2 z k) := by rw [← hU]; exact HD4.out.on2 HP4.out.i1.bx
   have p0 := HP4.out.i1.c0
   have p1 := HP4.out.i1.c1
   have fp0 := HP4.out.i1.f 0
   have fp1 := HP4.out.i1.f 1
   have r0 := HP5.out.i2.c0
   have r1 := HP5.out.i2.c1
   go_wp2_with fail
   refine (neg_j HD5.out hk2 z' HZ'.out).mono ?_
   rintro e w6 ⟨s6, A6, n6, c6, rfl, h6, hb6⟩
   clear hU p0 p1 fp0 fp1 r0 r1
   have HP6 := Lib.hid (HP5.out.below hb6)
   have HN6 := Lib.hid (HN5.out.below hb6)
   have HD6 := Lib.hid h6
   clear h6 hb6
   obtain ⟨X, hX⟩ : ∃ X, (w6.setCell ⟨w2.heap.size, 0, none⟩ (.bool s6)).setCell ⟨w2.heap.size, 1, none⟩ (.slice A6 n6 c6) = X := ⟨_, rfl⟩
   have HP7 : Hid (PS w X w1.heap.size w2.heap.size s4 A4 n4 c4 s6 A6 n6 c6) := by rw [← hX]; exact HP6.out.den
   have HN7 : Hid (IsZ X s4 A4 n4 c4 y' k) := by rw [← hX]; exact (HN6.out.on2 HP6.out.i2.bx).isz HNL.out
   have HD7 : Hid (IsZ X s6 A6 n6 c6 z' k) := by rw [← hX]; exact (HD6.out.on2 HP6.out.i2.bx).isz HDL.out
   have q0 := HP6.out.i2.c0
   have q1 := HP6.out.i2.c1
   have fq0 := HP6.out.i2.f 0
   have fq1 := HP6.out.i2.f 1
   go_upto_region 10 with fail
   clear hX q0 q1 fq0 fq1
   have p0 := HP7.out.i1.c0
   have p1 := HP7.out.i1.c1
   have r0 := HP7.out.i2.c0
   have r1 := HP7.out.i2.c1
   have o0 := HP7.out.o1.c0
   have o1 := HP7.out.o1.c1
   have v0 := HP7.out.o2.c0
   have v1 := HP7.out.o2.c1
   have fo0 := HP7.out.o1.f 0
   have fo1 := HP7.out.o1.f 1
   have fv0 := HP7.out.o2.f 0
   have fv1 := HP7.out.o2.f 1
   have hpp := HLW.out
   have hrr := HLX.out
   have e1 : w.heap.size + 1 ≠ w1.heap.size := by omega
   have e2 : w.heap.size + 1 + 1 ≠ w1.heap.size := by omega
   have e3 : w.heap.size + 1 ≠ w2.heap.size := by omega
   have e4 : w.heap.size + 1 + 1 ≠ w2.heap.size := by omega
   go_region
   all_goals
    go_wp2_with fail
    refine bodyPost_ret (v := .tuple #[.agg #[.bool s4, .slice A4 n4 c4], .agg #[.bool s6, .slice A6 n6 c6]]) (by simp [results, Tryz.results86, go_sem, o0, o1, v0, v1]) rfl ?_
    exact ⟨s4, A4, n4, c4, s6, A6, n6, c6, _, _, rfl, ((HN7.out.on2 HP7.out.o1.bx).on2 (HP7.out.o2.put_far (by omega)).bx).drew, ((HD7.out.on2 HP7.out.o1.bx).on2 (HP7.out.o2.put_far (by omega)).bx).drew, HZP.out, HE2.out, (below_put2 (below_put2 HP7.out.bel (by omega)) (by omega)).drew⟩
  ·have hs1 : (sg == 0) = true := by rw [← hsg, hz]; rfl
   have HE0 : Hid (Rat.divInt 0 1 = q) := by show _ = _; rw [← HE.out, hz, Rat.divInt_zero, Rat.zero_divInt]
   clear hsg hz
   go_wp2_with fail
   refine (sign_j (HD.out.isz HZL.out) hk2 sg HSG.out).mono ?_
   rintro e w3 ⟨rfl, hb3⟩
   clear hW k2 k3 r0 r1 fr0 fr1
   have HP3 := Lib.hid (HP.out.below hb3)
   clear hb3
   go_wp2_with fail
   refine (of_j _ 1 1 rfl (by omega) (by omega)).mono ?_
   rintro e w4 ⟨s4, A4, n4, c4, rfl, h4, hb4⟩
   have HP4 := Lib.hid (HP3.out.below hb4)
   have HO4 := Lib.hid (h4.isz HOL.out)
   clear h4 hb4
   have o0 := HP4.out.o1.c0
   have o1 := HP4.out.o1.c1
   have v0 := HP4.out.o2.c0
   have v1 := HP4.out.o2.c1
   have fo0 := HP4.out.o1.f 0
   have fo1 := HP4.out.o1.f 1
   have fv0 := HP4.out.o2.f 0
   have fv1 := HP4.out.o2.f 1
   go_wp2_with fail
   refine bodyPost_ret (v := .tuple #[.agg #[.bool false, .slice none 0 0], .agg #[.bool s4, .slice A4 n4 c4]]) (by simp [results, Tryz.results86, go_sem, o0, o1, v0, v1]) rfl ?_
   exact ⟨false, none, 0, 0, s4, A4, n4, c4, 0, 1, rfl, IsZ.nil _ _ _ _ _, (HO4.out.on2 HP4.out.o1.bx).on2 (HP4.out.o2.put_far (by omega)).bx, by omega, HE0.out, below_put2 (below_put2 HP4.out.bel (by omega)) (by omega)⟩
  ·have hs1 : (sg == 0) = false := by rw [← hsg, Int.sign_eq_one_of_pos hz]; rfl
   obtain rfl : s2 = false := by rw [HD.out.es]; unfold zneg; exact decide_eq_false (by omega)
   clear hsg
   go_wp2_with fail
   refine (sign_j (HD.out.isz HZL.out) hk2 sg HSG.out).mono ?_
   rintro e w3 ⟨rfl, hb3⟩
   clear hW k2 k3 r0 r1 fr0 fr1
   have HP3 := Lib.hid (HP.out.below hb3)
   have HN3 := Lib.hid ((HN.out.below hb3).isz HYL.out)
   have HD3 := Lib.hid ((HD.out.below hb3).isz HZL.out)
   clear hb3
   have p0 := HP3.out.i1.c0
   have p1 := HP3.out.i1.c1
   have r0 := HP3.out.i2.c0
   have r1 := HP3.out.i2.c1
   have o0 := HP3.out.o1.c0
   have o1 := HP3.out.o1.c1
   have v0 := HP3.out.o2.c0
   have v1 := HP3.out.o2.c1
   have fo0 := HP3.out.o1.f 0
   have fo1 := HP3.out.o1.f 1
   have fv0 := HP3.out.o2.f 0
   have fv1 := HP3.out.o2.f 1
   have hpp := HLW.out
   have hrr := HLX.out
   have e1 : w.heap.size + 1 ≠ w1.heap.size := by omega
   have e2 : w.heap.size + 1 + 1 ≠ w1.heap.size := by omega
   have e3 : w.heap.size + 1 ≠ w2.heap.size := by omega
   have e4 : w.heap.size + 1 + 1 ≠ w2.heap.size := by omega
   go_upto_region 10 with fail
   go_region
   all_goals
    go_wp2_with fail
    refine bodyPost_ret (v := .tuple #[.agg #[.bool s1, .slice A1 n1 c1], .agg #[.bool false, .slice A2 n2 c2]]) (by simp [results, Tryz.results86, go_sem, o0, o1, v0, v1]) rfl ?_
    exact ⟨s1, A1, n1, c1, false, A2, n2, c2, _, _, rfl, ((HN3.out.on2 HP3.out.o1.bx).on2 (HP3.out.o2.put_far (by omega)).bx).drew, ((HD3.out.on2 HP3.out.o1.bx).on2 (HP3.out.o2.put_far (by omega)).bx).drew, hz, HE.out, (below_put2 (below_put2 HP3.out.bel (by omega)) (by omega)).drew⟩
end Go.Proofs.YtbbncggaaibheaaGreatDoor.Q.P
namespace Go.Proofs.YtbbncggaaibheaaGreatDoor.Q.P
open Go.RowKit
set_option maxRecDepth 100000 in
set_option maxHeartbeats 4000000 in
theorem norm_q {w : World} {s t : Bool} {A B : Option Addr} {n c m d k : Nat} {p : Rat} (h1 : IsQ w s A n c t B m d p k) (hk : 1 ≤ k) (hk2 : k ≤ 3000) :
  Calls Tryz.prog 39 #[.agg #[.bool s, .slice A n c, .bool t, .slice B m d]] w (RetQ w p) := by
 have HS := Lib.hid (S1.start w s A n c t B m d)
 have HP := Lib.hid ((h1.alloc (.cells #[.bool s, .slice A n c, .bool t, .slice B m d] 28)).alloc (.cells #[.bool false, .slice none 0 0, .bool false, .slice none 0 0] 28))
 clear h1
 go_enter Tryz.func39, Tryz.ntmps39
 go_wp2_with fail
 refine (parts_any HP.out hk (by omega)).mono ?_
 rintro e w1 ⟨s1, A1, n1, c1, s2, A2, n2, c2, x, dx, rfl, hx, hdx, hdp, hqp, hb1⟩
 have HS1 := Lib.hid (HS.out.below hb1)
 have HX1 := Lib.hid hx
 have HD1 := Lib.hid hdx
 have HQP := Lib.hid hqp
 clear hx hdx hqp hb1 HS HP
 obtain ⟨W, hW⟩ : ∃ W, (w1.alloc (.cells #[.bool s1, .slice A1 n1 c1] 25)).alloc (.cells #[.bool s2, .slice A2 n2 c2] 25) = W := ⟨_, rfl⟩
 have HV : Hid (Below w1.heap.size w1 W) := by rw [← hW]; exact ((Below.refl _ _).alloc (Nat.le_refl _) _).alloc (by simp) _
 have HI2 : Hid (Ibx W w1.heap.size s1 A1 n1 c1) := by rw [← hW]; exact (Ibx.new' _ _ _ _ _ _ rfl).alloc _
 have HJ2 : Hid (Ibx W (w1.heap.size + 1) s2 A2 n2 c2) := by rw [← hW]; exact Ibx.new' _ _ _ _ _ _ (by simp)
 have HS2 := Lib.hid (HS1.out.below HV.out)
 have HX2 := Lib.hid (HX1.out.below HV.out)
 have HD2 := Lib.hid (HD1.out.below HV.out)
 clear HX1 HD1 HV
 have k0 := HI2.out.c0
 have k1 := HI2.out.c1
 have j0 := HJ2.out.c0
 have j1 := HJ2.out.c1
 go_wp2_with fail
 refine (lowest_q HX2.out HD2.out hk hk2 hdp HQP.out).mono ?_
 rintro e w8 ⟨s8, A8, n8, c8, t8, B8, m8, d8, rfl, h8, hb8⟩
 clear hW k0 k1 j0 j1
 have HS8 := Lib.hid (HS2.out.below hb8)
 have HR8 := Lib.hid h8
 clear h8 hb8
 have o0 := HS8.out.o.c0
 have o1 := HS8.out.o.c1
 have o2 := HS8.out.o.c2
 have o3 := HS8.out.o.c3
 have f0 := HS8.out.o.f 0
 have f1 := HS8.out.o.f 1
 have f2 := HS8.out.o.f 2
 have f3 := HS8.out.o.f 3
 go_wp2_with fail
 refine bodyPost_ret (v := .agg #[.bool s8, .slice A8 n8 c8, .bool t8, .slice B8 m8 d8]) (by simp [results, Tryz.results39, go_sem, o0, o1, o2, o3]) rfl ?_
 exact retq_put HR8.out HS8.out.o (by omega) HS8.out.bel
set_option maxRecDepth 100000 in
set_option maxHeartbeats 4000000 in
theorem sign_q {w : World} {s t : Bool} {A B : Option Addr} {n c m d k : Nat} {p : Rat} (h1 : IsQ w s A n c t B m d p k) (hk : 1 ≤ k) (hk2 : k ≤ 3000) (r : Int) (hr : qsign p = r) :
  Calls Tryz.prog 38 #[.agg #[.bool s, .slice A n c, .bool t, .slice B m d]] w (RetI w r) := by
 have HS : Hid (Below w.heap.size w (w.alloc (.cells #[.bool s, .slice A n c, .bool t, .slice B m d] 28))) := (Below.refl _ _).alloc (Nat.le_refl _) _
 have HP := Lib.hid (h1.alloc (.cells #[.bool s, .slice A n c, .bool t, .slice B m d] 28))
 have HR := Lib.hid hr
 clear h1 hr
 go_enter Tryz.func38, Tryz.ntmps38
 go_wp2_with fail
 refine (parts_any HP.out hk (by omega)).mono ?_
 rintro e w1 ⟨s1, A1, n1, c1, s2, A2, n2, c2, x, dx, rfl, hx, hdx, hdp, hqp, hb1⟩
 have HS1 := Lib.hid (below_on HS.out hb1)
 have HX1 := Lib.hid hx
 have HD1 := Lib.hid hdx
 have HQP := Lib.hid hqp
 clear hx hdx hqp hb1 HS HP
 obtain ⟨W, hW⟩ : ∃ W, (w1.alloc (.cells #[.bool s1, .slice A1 n1 c1] 25)).alloc (.cells #[.bool s2, .slice A2 n2 c2] 25) = W := ⟨_, rfl⟩
 have HV : Hid (Below w1.heap.size w1 W) := by rw [← hW]; exact ((Below.refl _ _).alloc (Nat.le_refl _) _).alloc (by simp) _
 have HI2 : Hid (Ibx W w1.heap.size s1 A1 n1 c1) := by rw [← hW]; exact (Ibx.new' _ _ _ _ _ _ rfl).alloc _
 have HJ2 : Hid (Ibx W (w1.heap.size + 1) s2 A2 n2 c2) := by rw [← hW]; exact Ibx.new' _ _ _ _ _ _ (by simp)
 have HS2 := Lib.hid (below_on HS1.out HV.out)
 have HX2 := Lib.hid (HX1.out.below HV.out)
 have HD2 := Lib.hid (HD1.out.below HV.out)
 clear HX1 HD1 HV
 have k0 := HI2.out.c0
 have k1 := HI2.out.c1
 have j0 := HJ2.out.c0
 have j1 := HJ2.out.c1
 have HSG : Hid (x.sign = r) := by show _ = _; rw [← HR.out, ← HQP.out, sign_pos hdp]
 go_wp2_with fail
 refine (sign_j HX2.out hk2 r HSG.out).mono ?_
 rintro e w8 ⟨rfl, hb8⟩
 clear hW k0 k1 j0 j1
 have HS8 := Lib.hid (below_on HS2.out hb8)
 clear hb8
 go_wp2_with fail
 go_ret
 exact ⟨rfl, HS8.out⟩
set_option maxRecDepth 100000 in
set_option maxHeartbeats 4000000 in
theorem neg_q {w : World} {s t : Bool} {A B : Option Addr} {n c m d k : Nat} {p : Rat} (h1 : IsQ w s A n c t B m d p k) (hk : 1 ≤ k) (hk2 : k ≤ 3000) (q : Rat) (hq : -p = q) :
  Calls Tryz.prog 41 #[.agg #[.bool s, .slice A n c, .bool t, .slice B m d]] w (RetQ w q) := by
 have HS := Lib.hid (S1.start w s A n c t B m d)
 have HP := Lib.hid ((h1.alloc (.cells #[.bool s, .slice A n c, .bool t, .slice B m d] 28)).alloc (.cells #[.bool false, .slice none 0 0, .bool false, .slice none 0 0] 28))
 have HQ := Lib.hid hq
 clear h1 hq
 go_enter Tryz.func41, Tryz.ntmps41
 go_wp2_with fail
 refine (parts_any HP.out hk (by omega)).mono ?_
 rintro e w1 ⟨s1, A1, n1, c1, s2, A2, n2, c2, x, dx, rfl, hx, hdx, hdp, hqp, hb1⟩
 have HS1 := Lib.hid (HS.out.below hb1)
 have HX1 := Lib.hid hx
 have HD1 := Lib.hid hdx
 have HQP := Lib.hid hqp
 clear hx hdx hqp hb1 HS HP
 obtain ⟨W, hW⟩ : ∃ W, (w1.alloc (.cells #[.bool s1, .slice A1 n1 c1] 25)).alloc (.cells #[.bool s2, .slice A2 n2 c2] 25) = W := ⟨_, rfl⟩
 have HV : Hid (Below w1.heap.size w1 W) := by rw [← hW]; exact ((Below.refl _ _).alloc (Nat.le_refl _) _).alloc (by simp) _
 have HI2 : Hid (Ibx W w1.heap.size s1 A1 n1 c1) := by rw [← hW]; exact (Ibx.new' _ _ _ _ _ _ rfl).alloc _
 have HJ2 : Hid (Ibx W (w1.heap.size + 1) s2 A2 n2 c2) := by rw [← hW]; exact Ibx.new' _ _ _ _ _ _ (by simp)
 have HS2 := Lib.hid (HS1.out.below HV.out)
 have HX2 := Lib.hid (HX1.out.below HV.out)
 have HD2 := Lib.hid (HD1.out.below HV.out)
 clear HX1 HD1 HV
 have k0 := HI2.out.c0
 have k1 := HI2.out.c1
 have j0 := HJ2.out.c0
 have j1 := HJ2.out.c1
 have HLW : Hid (w.heap.size + 1 < w1.heap.size) := HS1.out.o.lt
 obtain ⟨y, hy⟩ : ∃ y, -x = y := ⟨_, rfl⟩
 have HE : Hid (Rat.divInt y dx = q) := by show _ = _; rw [← HQ.out, ← HQP.out, ← hy, Rat.neg_divInt]
 have HYL : Hid (zl y ≤ k) := by show _ ≤ _; rw [← hy, zl_neg]; exact HX2.out.zl
 have HY := Lib.hid hy
 clear hy HS1
 go_upto_region 2 with fail
 clear hW k0 k1 j0 j1
 go_region_held3 (fun V => V.cell? ⟨w1.heap.size, 0, none⟩ = some (.bool s1) ∧ V.cell? ⟨w1.heap.size, 1, none⟩ = some (.slice A1 n1 c1) ∧ V.cell? ⟨w1.heap.size + 1, 0, none⟩ = some (.bool s2) ∧ V.cell? ⟨w1.heap.size + 1, 1, none⟩ = some (.slice A2 n2 c2))
  (first | (with_reducible exact ⟨(HI8.out.put4_far (by have := HLW.out; omega)).c0, (HI8.out.put4_far (by have := HLW.out; omega)).c1, (HJ8.out.put4_far (by have := HLW.out; omega)).c0, (HJ8.out.put4_far (by have := HLW.out; omega)).c1⟩) | (with_reducible exact ⟨HI8.out.c0, HI8.out.c1, HJ8.out.c0, HJ8.out.c1⟩) | (with_reducible exact ⟨HI5.out.c0, HI5.out.c1, HJ5.out.c0, HJ5.out.c1⟩) | (with_reducible exact ⟨HI2.out.drew.c0, HI2.out.drew.c1, HJ2.out.drew.c0, HJ2.out.drew.c1⟩))
  (first
  | (go_at_call 87; (refine (lowest_q HN5.out HD5.out hk hk2 hdp HE.out).mono ?_); rintro e w8 ⟨s8, A8, n8, c8, t8, B8, m8, d8, rfl, h8, hb8⟩; have HS8 := Lib.hid (HS5.out.below hb8); have HI8 := Lib.hid (HI5.out.below hb8); have HJ8 := Lib.hid (HJ5.out.below hb8); have HR8 := Lib.hid h8; have o0 := HS8.out.o.c0; have o1 := HS8.out.o.c1; have o2 := HS8.out.o.c2; have o3 := HS8.out.o.c3; have f0 := HS8.out.o.f 0; have f1 := HS8.out.o.f 1; have f2 := HS8.out.o.f 2; have f3 := HS8.out.o.f 3)
  | (go_at_call 93; (with_reducible refine (neg_j HX2.out.drew hk2 y HY.out).mono ?_); rintro e w5 ⟨s5, A5, n5, c5, rfl, h5, hb5⟩; have HS5 := Lib.hid (HS2.out.drew.below hb5); have HI5 := Lib.hid (HI2.out.drew.below hb5); have HJ5 := Lib.hid (HJ2.out.drew.below hb5); have HD5 := Lib.hid (HD2.out.drew.below hb5); have HN5 := Lib.hid (h5.isz HYL.out)))
 all_goals
  go_wp2_with fail
  refine bodyPost_ret (v := .agg #[.bool s8, .slice A8 n8 c8, .bool t8, .slice B8 m8 d8]) (by simp [results, Tryz.results41, go_sem, o0, o1, o2, o3]) rfl ?_
  exact retq_put HR8.out HS8.out.o (by omega) HS8.out.bel
set_option maxRecDepth 100000 in
set_option maxHeartbeats 4000000 in
theorem abs_q {w : World} {s t : Bool} {A B : Option Addr} {n c m d k : Nat} {y : Rat} (h : IsQ w s A n c t B m d y k) (hk : 1 ≤ k) (hk2 : k ≤ 3000) (q : Rat) (hq : (if y < 0 then -y else y) = q) :
  Calls Tryz.prog 42 #[.agg #[.bool s, .slice A n c, .bool t, .slice B m d]] w (RetQ w q) := by
 have HS := Lib.hid (S1.start w s A n c t B m d)
 have HQ := Lib.hid ((h.alloc (.cells #[.bool s, .slice A n c, .bool t, .slice B m d] 28)).alloc (.cells #[.bool false, .slice none 0 0, .bool false, .slice none 0 0] 28))
 obtain ⟨sg, hsg⟩ : ∃ sg, qsign y = sg := ⟨_, rfl⟩
 have HSG := Lib.hid hsg
 by_cases h0 : y < 0
 ·have HN : Hid (-y = q) := by show _ = _; rw [← hq, if_pos h0]
  have hs0 : sg < 0 := by rw [← hsg]; exact qsign_neg_iff.2 h0
  clear h0 hsg
  clear h hq
  go_enter Tryz.func42, Tryz.ntmps42
  go_wp2_with fail
  refine (sign_q HQ.out hk hk2 sg HSG.out).mono ?_
  rintro e w1 ⟨rfl, hb1⟩
  have HS1 := Lib.hid (HS.out.below hb1)
  have HQ1 := Lib.hid (HQ.out.below hb1)
  clear hb1
  have k0 := HS1.out.i.c0
  have k1 := HS1.out.i.c1
  have k2 := HS1.out.i.c2
  have k3 := HS1.out.i.c3
  go_wp2_with fail
  refine (neg_q HQ1.out hk hk2 q HN.out).mono ?_
  rintro e w3 ⟨s3, A3, n3, c3, t3, B3, m3, d3, rfl, h3, hb3⟩
  have HS3 := Lib.hid (HS1.out.below hb3)
  have HR3 := Lib.hid h3
  clear h3 hb3
  have o0 := HS3.out.o.c0
  have o1 := HS3.out.o.c1
  have o2 := HS3.out.o.c2
  have o3 := HS3.out.o.c3
  have f0 := HS3.out.o.f 0
  have f1 := HS3.out.o.f 1
  have f2 := HS3.out.o.f 2
  have f3 := HS3.out.o.f 3
  go_wp2_with fail
  refine bodyPost_ret (v := .agg #[.bool s3, .slice A3 n3 c3, .bool t3, .slice B3 m3 d3]) (by simp [results, Tryz.results42, go_sem, o0, o1, o2, o3]) rfl ?_
  exact retq_put HR3.out HS3.out.o (by omega) HS3.out.bel
 ·have HN : Hid (y = q) := by show _ = _; rw [← hq, if_neg h0]
  have hs0 : ¬ sg < 0 := by rw [← hsg]; exact fun h => h0 (qsign_neg_iff.1 h)
  clear h0 hsg
  clear h hq
  go_enter Tryz.func42, Tryz.ntmps42
  go_wp2_with fail
  refine (sign_q HQ.out hk hk2 sg HSG.out).mono ?_
  rintro e w1 ⟨rfl, hb1⟩
  have HS1 := Lib.hid (HS.out.below hb1)
  have HQ1 := Lib.hid (HQ.out.below hb1)
  clear hb1
  have k0 := HS1.out.i.c0
  have k1 := HS1.out.i.c1
  have k2 := HS1.out.i.c2
  have k3 := HS1.out.i.c3
  go_wp2_with fail
  refine (norm_q HQ1.out hk hk2).mono ?_
  rintro e w3 ⟨s3, A3, n3, c3, t3, B3, m3, d3, rfl, h3, hb3⟩
  rw [HN.out] at h3
  have HS3 := Lib.hid (HS1.out.below hb3)
  have HR3 := Lib.hid h3
  clear h3 hb3
  have o0 := HS3.out.o.c0
  have o1 := HS3.out.o.c1
  have o2 := HS3.out.o.c2
  have o3 := HS3.out.o.c3
  have f0 := HS3.out.o.f 0
  have f1 := HS3.out.o.f 1
  have f2 := HS3.out.o.f 2
  have f3 := HS3.out.o.f 3
  go_wp2_with fail
  refine bodyPost_ret (v := .agg #[.bool s3, .slice A3 n3 c3, .bool t3, .slice B3 m3 d3]) (by simp [results, Tryz.results42, go_sem, o0, o1, o2, o3]) rfl ?_
  exact retq_put HR3.out HS3.out.o (by omega) HS3.out.bel
end Go.Proofs.YtbbncggaaibheaaGreatDoor.Q.P
namespace Go.Proofs.YtbbncggaaibheaaGreatDoor.Q.P
open Go.RowKit
set_option maxRecDepth 100000 in
set_option maxHeartbeats 4000000 in
theorem mul_q {w : World} {s t s' t' : Bool} {A B A' B' : Option Addr} {n c m d n' c' m' d' k : Nat} {p r : Rat} (h1 : IsQ w s A n c t B m d p k) (h2 : IsQ w s' A' n' c' t' B' m' d' r k) (hk : 1 ≤ k) (hk2 : k ≤ 700) (q : Rat) (hq : p * r = q) :
  Calls Tryz.prog 36 #[.agg #[.bool s, .slice A n c, .bool t, .slice B m d], .agg #[.bool s', .slice A' n' c', .bool t', .slice B' m' d']] w (RetQ w q) := by
 have HS := Lib.hid (S2.start w s A n c t B m d s' A' n' c' t' B' m' d')
 have HP := Lib.hid (((h1.alloc (.cells #[.bool s, .slice A n c, .bool t, .slice B m d] 28)).alloc (.cells #[.bool s', .slice A' n' c', .bool t', .slice B' m' d'] 28)).alloc (.cells #[.bool false, .slice none 0 0, .bool false, .slice none 0 0] 28))
 have HR := Lib.hid (((h2.alloc (.cells #[.bool s, .slice A n c, .bool t, .slice B m d] 28)).alloc (.cells #[.bool s', .slice A' n' c', .bool t', .slice B' m' d'] 28)).alloc (.cells #[.bool false, .slice none 0 0, .bool false, .slice none 0 0] 28))
 have HQ := Lib.hid hq
 clear h1 h2 hq
 go_enter Tryz.func36, Tryz.ntmps36
 go_wp2_with fail
 refine (parts_any HP.out hk (by omega)).mono ?_
 rintro e w1 ⟨s1, A1, n1, c1, s2, A2, n2, c2, x, dx, rfl, hx, hdx, hdp, hqp, hb1⟩
 have HS1 := Lib.hid (HS.out.below hb1)
 have HX1 := Lib.hid hx
 have HDX1 := Lib.hid hdx
 have HR1 := Lib.hid (HR.out.below hb1)
 clear hx hdx hb1 HS HP HR
 obtain ⟨V, hV⟩ : ∃ V, (w1.alloc (.cells #[.bool s1, .slice A1 n1 c1] 25)).alloc (.cells #[.bool s2, .slice A2 n2 c2] 25) = V := ⟨_, rfl⟩
 have HV : Hid (Below w1.heap.size w1 V) := by rw [← hV]; exact ((Below.refl _ _).alloc (Nat.le_refl _) _).alloc (by simp) _
 have HI1 : Hid (Ibx V w1.heap.size s1 A1 n1 c1) := by rw [← hV]; exact (Ibx.new' _ _ _ _ _ _ rfl).alloc _
 have HJ1 : Hid (Ibx V (w1.heap.size + 1) s2 A2 n2 c2) := by rw [← hV]; exact Ibx.new' _ _ _ _ _ _ (by simp)
 have HS2 := Lib.hid (HS1.out.below HV.out)
 have HX2 := Lib.hid (HX1.out.below HV.out)
 have HDX2 := Lib.hid (HDX1.out.below HV.out)
 have HR2 := Lib.hid (HR1.out.below HV.out)
 have HLW : Hid (w.heap.size + 1 + 1 < w1.heap.size) := HS1.out.o.lt
 have k0 := HS2.out.i2.c0
 have k1 := HS2.out.i2.c1
 have k2 := HS2.out.i2.c2
 have k3 := HS2.out.i2.c3
 clear HS1 HX1 HDX1 HR1 HV
 go_wp2_with fail
 refine (parts_any HR2.out hk (by omega)).mono ?_
 rintro e w2 ⟨s3, A3, n3, c3, s4, A4, n4, c4, y, ey, rfl, hy, hey, hep, hqr, hb2⟩
 clear hV
 have HS3 := Lib.hid (HS2.out.below hb2)
 have HI3 := Lib.hid (HI1.out.below hb2)
 have HJ3 := Lib.hid (HJ1.out.below hb2)
 have HX3 := Lib.hid (HX2.out.below hb2)
 have HDX3 := Lib.hid (HDX2.out.below hb2)
 have HY3 := Lib.hid hy
 have HEY3 := Lib.hid hey
 have HLW2 : Hid (w.heap.size + 1 + 1 < w2.heap.size) := HS3.out.o.lt
 clear hy hey hb2 HS2 HI1 HJ1 HX2 HDX2 HR2 k0 k1 k2 k3
 obtain ⟨W, hW⟩ : ∃ W, (w2.alloc (.cells #[.bool s3, .slice A3 n3 c3] 25)).alloc (.cells #[.bool s4, .slice A4 n4 c4] 25) = W := ⟨_, rfl⟩
 have HV : Hid (Below w2.heap.size w2 W) := by rw [← hW]; exact ((Below.refl _ _).alloc (Nat.le_refl _) _).alloc (by simp) _
 have HI4 : Hid (Ibx W w2.heap.size s3 A3 n3 c3) := by rw [← hW]; exact (Ibx.new' _ _ _ _ _ _ rfl).alloc _
 have HJ4 : Hid (Ibx W (w2.heap.size + 1) s4 A4 n4 c4) := by rw [← hW]; exact Ibx.new' _ _ _ _ _ _ (by simp)
 have HS := Lib.hid (HS3.out.below HV.out)
 have HD : Hid (D4 W w1.heap.size w2.heap.size s1 A1 n1 c1 s2 A2 n2 c2 s3 A3 n3 c3 s4 A4 n4 c4 x dx y ey k) := ⟨HI3.out.below HV.out, HJ3.out.below HV.out, HI4.out, HJ4.out, HX3.out.below HV.out, HDX3.out.below HV.out, HY3.out.below HV.out, HEY3.out.below HV.out⟩
 have HQP := Lib.hid hqp
 have HQR := Lib.hid hqr
 clear HS3 HI3 HJ3 HI4 HJ4 HX3 HDX3 HY3 HEY3 HV hqp hqr
 obtain ⟨N, hN⟩ : ∃ N, x * y = N := ⟨_, rfl⟩
 obtain ⟨M, hM⟩ : ∃ M, dx * ey = M := ⟨_, rfl⟩
 have HE : Hid (Rat.divInt N M = q) := by
  show _ = _
  rw [← HQ.out, ← HQP.out, ← HQR.out, ← hN, ← hM]
  exact (Rat.divInt_mul_divInt _ _).symm
 have HNL : Hid (zl N ≤ 3000) := by show _ ≤ _; rw [← hN]; have h1 := zl_mul x y; have h2 := HD.out.z1.zl; have h3 := HD.out.z3.zl; omega
 have HML : Hid (zl M ≤ 3000) := by show _ ≤ _; rw [← hM]; have h1 := zl_mul dx ey; have h2 := HD.out.z2.zl; have h3 := HD.out.z4.zl; omega
 have hMp : 0 < M := by rw [← hM]; exact Int.mul_pos hdp hep
 have HN := Lib.hid hN
 have HM := Lib.hid hM
 clear hN hM
 go_upto_region 3 with fail
 clear hW
 go_region_held3 (fun V => V.cell? ⟨w1.heap.size, 0, none⟩ = some (.bool s1) ∧ V.cell? ⟨w1.heap.size, 1, none⟩ = some (.slice A1 n1 c1) ∧ V.cell? ⟨w1.heap.size + 1, 0, none⟩ = some (.bool s2) ∧ V.cell? ⟨w1.heap.size + 1, 1, none⟩ = some (.slice A2 n2 c2) ∧ V.cell? ⟨w2.heap.size, 0, none⟩ = some (.bool s3) ∧ V.cell? ⟨w2.heap.size, 1, none⟩ = some (.slice A3 n3 c3) ∧ V.cell? ⟨w2.heap.size + 1, 0, none⟩ = some (.bool s4) ∧ V.cell? ⟨w2.heap.size + 1, 1, none⟩ = some (.slice A4 n4 c4))
  (first | (with_reducible exact HD8.out.keep4 HLW.out HLW2.out) | (with_reducible exact HD8.out.keep) | (with_reducible exact HD6.out.keep) | (with_reducible exact HD5.out.keep) | (with_reducible exact HD.out.drew.keep))
  (first
  | (go_at_call 87; (refine (lowest_q (HN6.out.isz HNL.out) (HM6.out.isz HML.out) (by omega) (by omega) hMp HE.out).mono ?_); rintro e w8 ⟨s8, A8, n8, c8, t8, B8, m8, d8, rfl, h8, hb8⟩; have HS8 := Lib.hid (HS6.out.below hb8); have HD8 := Lib.hid (HD6.out.below hb8); have HR8 := Lib.hid h8; have o0 := HS8.out.o.c0; have o1 := HS8.out.o.c1; have o2 := HS8.out.o.c2; have o3 := HS8.out.o.c3; have f0 := HS8.out.o.f 0; have f1 := HS8.out.o.f 1; have f2 := HS8.out.o.f 2; have f3 := HS8.out.o.f 3)
  | (go_at_call 89; (refine (mul_j HD5.out.z2 HD5.out.z4 (by omega) M HM.out).mono ?_); rintro e w6 ⟨s6, A6, n6, c6, rfl, h6, hb6⟩; have HS6 := Lib.hid (HS5.out.below hb6); have HD6 := Lib.hid (HD5.out.below hb6); have HN6 := Lib.hid (HN5.out.below hb6); have HM6 := Lib.hid h6)
  | (go_at_call 89; (refine (mul_j HD.out.drew.z1 HD.out.drew.z3 (by omega) N HN.out).mono ?_); rintro e w5 ⟨s5, A5, n5, c5, rfl, h5, hb5⟩; have HS5 := Lib.hid (HS.out.drew.below hb5); have HD5 := Lib.hid (HD.out.drew.below hb5); have HN5 := Lib.hid h5))
 all_goals
  go_wp2_with fail
  refine bodyPost_ret (v := .agg #[.bool s8, .slice A8 n8 c8, .bool t8, .slice B8 m8 d8]) (by simp [results, Tryz.results36, go_sem, o0, o1, o2, o3]) rfl ?_
  exact retq_put HR8.out HS8.out.o (by omega) HS8.out.bel
set_option maxRecDepth 100000 in
set_option maxHeartbeats 4000000 in
theorem quo_q {w : World} {s t s' t' : Bool} {A B A' B' : Option Addr} {n c m d n' c' m' d' k : Nat} {p r : Rat} (h1 : IsQ w s A n c t B m d p k) (h2 : IsQ w s' A' n' c' t' B' m' d' r k) (hk : 1 ≤ k) (hk2 : k ≤ 700) (q : Rat) (hq : p / r = q) :
  Calls Tryz.prog 37 #[.agg #[.bool s, .slice A n c, .bool t, .slice B m d], .agg #[.bool s', .slice A' n' c', .bool t', .slice B' m' d']] w (RetQ w q) := by
 have HS := Lib.hid (S2.start w s A n c t B m d s' A' n' c' t' B' m' d')
 have HP := Lib.hid (((h1.alloc (.cells #[.bool s, .slice A n c, .bool t, .slice B m d] 28)).alloc (.cells #[.bool s', .slice A' n' c', .bool t', .slice B' m' d'] 28)).alloc (.cells #[.bool false, .slice none 0 0, .bool false, .slice none 0 0] 28))
 have HR := Lib.hid (((h2.alloc (.cells #[.bool s, .slice A n c, .bool t, .slice B m d] 28)).alloc (.cells #[.bool s', .slice A' n' c', .bool t', .slice B' m' d'] 28)).alloc (.cells #[.bool false, .slice none 0 0, .bool false, .slice none 0 0] 28))
 have HQ := Lib.hid hq
 clear h1 h2 hq
 go_enter Tryz.func37, Tryz.ntmps37
 go_wp2_with fail
 refine (parts_any HP.out hk (by omega)).mono ?_
 rintro e w1 ⟨s1, A1, n1, c1, s2, A2, n2, c2, x, dx, rfl, hx, hdx, hdp, hqp, hb1⟩
 have HS1 := Lib.hid (HS.out.below hb1)
 have HX1 := Lib.hid hx
 have HDX1 := Lib.hid hdx
 have HR1 := Lib.hid (HR.out.below hb1)
 clear hx hdx hb1 HS HP HR
 obtain ⟨V, hV⟩ : ∃ V, (w1.alloc (.cells #[.bool s1, .slice A1 n1 c1] 25)).alloc (.cells #[.bool s2, .slice A2 n2 c2] 25) = V := ⟨_, rfl⟩
 have HV : Hid (Below w1.heap.size w1 V) := by rw [← hV]; exact ((Below.refl _ _).alloc (Nat.le_refl _) _).alloc (by simp) _
 have HI1 : Hid (Ibx V w1.heap.size s1 A1 n1 c1) := by rw [← hV]; exact (Ibx.new' _ _ _ _ _ _ rfl).alloc _
 have HJ1 : Hid (Ibx V (w1.heap.size + 1) s2 A2 n2 c2) := by rw [← hV]; exact Ibx.new' _ _ _ _ _ _ (by simp)
 have HS2 := Lib.hid (HS1.out.below HV.out)
 have HX2 := Lib.hid (HX1.out.below HV.out)
 have HDX2 := Lib.hid (HDX1.out.below HV.out)
 have HR2 := Lib.hid (HR1.out.below HV.out)
 have HLW : Hid (w.heap.size + 1 + 1 < w1.heap.size) := HS1.out.o.lt
 have k0 := HS2.out.i2.c0
 have k1 := HS2.out.i2.c1
 have k2 := HS2.out.i2.c2
 have k3 := HS2.out.i2.c3
 clear HS1 HX1 HDX1 HR1 HV
 go_wp2_with fail
 refine (parts_any HR2.out hk (by omega)).mono ?_
 rintro e w2 ⟨s3, A3, n3, c3, s4, A4, n4, c4, y, ey, rfl, hy, hey, hep, hqr, hb2⟩
 clear hV
 have HS3 := Lib.hid (HS2.out.below hb2)
 have HI3 := Lib.hid (HI1.out.below hb2)
 have HJ3 := Lib.hid (HJ1.out.below hb2)
 have HX3 := Lib.hid (HX2.out.below hb2)
 have HDX3 := Lib.hid (HDX2.out.below hb2)
 have HY3 := Lib.hid hy
 have HEY3 := Lib.hid hey
 have HLW2 : Hid (w.heap.size + 1 + 1 < w2.heap.size) := HS3.out.o.lt
 clear hy hey hb2 HS2 HI1 HJ1 HX2 HDX2 HR2 k0 k1 k2 k3
 obtain ⟨W, hW⟩ : ∃ W, (w2.alloc (.cells #[.bool s3, .slice A3 n3 c3] 25)).alloc (.cells #[.bool s4, .slice A4 n4 c4] 25) = W := ⟨_, rfl⟩
 have HV : Hid (Below w2.heap.size w2 W) := by rw [← hW]; exact ((Below.refl _ _).alloc (Nat.le_refl _) _).alloc (by simp) _
 have HI4 : Hid (Ibx W w2.heap.size s3 A3 n3 c3) := by rw [← hW]; exact (Ibx.new' _ _ _ _ _ _ rfl).alloc _
 have HJ4 : Hid (Ibx W (w2.heap.size + 1) s4 A4 n4 c4) := by rw [← hW]; exact Ibx.new' _ _ _ _ _ _ (by simp)
 have HS := Lib.hid (HS3.out.below HV.out)
 have HD : Hid (D4 W w1.heap.size w2.heap.size s1 A1 n1 c1 s2 A2 n2 c2 s3 A3 n3 c3 s4 A4 n4 c4 x dx y ey k) := ⟨HI3.out.below HV.out, HJ3.out.below HV.out, HI4.out, HJ4.out, HX3.out.below HV.out, HDX3.out.below HV.out, HY3.out.below HV.out, HEY3.out.below HV.out⟩
 have HQP := Lib.hid hqp
 have HQR := Lib.hid hqr
 clear HS3 HI3 HJ3 HI4 HJ4 HX3 HDX3 HY3 HEY3 HV hqp hqr
 obtain ⟨N, hN⟩ : ∃ N, x * ey = N := ⟨_, rfl⟩
 obtain ⟨M, hM⟩ : ∃ M, dx * y = M := ⟨_, rfl⟩
 have HE : Hid (Rat.divInt N M = q) := by
  show _ = _
  rw [← HQ.out, ← HQP.out, ← HQR.out, ← hN, ← hM]
  exact div_quo
 have HNL : Hid (zl N ≤ 3000) := by show _ ≤ _; rw [← hN]; have h1 := zl_mul x ey; have h2 := HD.out.z1.zl; have h3 := HD.out.z4.zl; omega
 have HML : Hid (zl M ≤ 3000) := by show _ ≤ _; rw [← hM]; have h1 := zl_mul dx y; have h2 := HD.out.z2.zl; have h3 := HD.out.z3.zl; omega
 have HN := Lib.hid hN
 have HM := Lib.hid hM
 clear hN hM
 go_upto_region 3 with fail
 clear hW
 go_region_held3 (fun V => V.cell? ⟨w1.heap.size, 0, none⟩ = some (.bool s1) ∧ V.cell? ⟨w1.heap.size, 1, none⟩ = some (.slice A1 n1 c1) ∧ V.cell? ⟨w1.heap.size + 1, 0, none⟩ = some (.bool s2) ∧ V.cell? ⟨w1.heap.size + 1, 1, none⟩ = some (.slice A2 n2 c2) ∧ V.cell? ⟨w2.heap.size, 0, none⟩ = some (.bool s3) ∧ V.cell? ⟨w2.heap.size, 1, none⟩ = some (.slice A3 n3 c3) ∧ V.cell? ⟨w2.heap.size + 1, 0, none⟩ = some (.bool s4) ∧ V.cell? ⟨w2.heap.size + 1, 1, none⟩ = some (.slice A4 n4 c4))
  (first | (with_reducible exact HD8.out.keep4 HLW.out HLW2.out) | (with_reducible exact HD8.out.keep) | (with_reducible exact HD6.out.keep) | (with_reducible exact HD5.out.keep) | (with_reducible exact HD.out.drew.keep))
  (first
  | (go_at_call 40; (refine (make_q (HN6.out.isz HNL.out) (HM6.out.isz HML.out) (by omega) (by omega) q HE.out).mono ?_); rintro e w8 ⟨s8, A8, n8, c8, t8, B8, m8, d8, rfl, h8, hb8⟩; have HS8 := Lib.hid (HS6.out.below hb8); have HD8 := Lib.hid (HD6.out.below hb8); have HR8 := Lib.hid h8; have o0 := HS8.out.o.c0; have o1 := HS8.out.o.c1; have o2 := HS8.out.o.c2; have o3 := HS8.out.o.c3; have f0 := HS8.out.o.f 0; have f1 := HS8.out.o.f 1; have f2 := HS8.out.o.f 2; have f3 := HS8.out.o.f 3)
  | (go_at_call 89; (refine (mul_j HD5.out.z2 HD5.out.z3 (by omega) M HM.out).mono ?_); rintro e w6 ⟨s6, A6, n6, c6, rfl, h6, hb6⟩; have HS6 := Lib.hid (HS5.out.below hb6); have HD6 := Lib.hid (HD5.out.below hb6); have HN6 := Lib.hid (HN5.out.below hb6); have HM6 := Lib.hid h6)
  | (go_at_call 89; (refine (mul_j HD.out.drew.z1 HD.out.drew.z4 (by omega) N HN.out).mono ?_); rintro e w5 ⟨s5, A5, n5, c5, rfl, h5, hb5⟩; have HS5 := Lib.hid (HS.out.drew.below hb5); have HD5 := Lib.hid (HD.out.drew.below hb5); have HN5 := Lib.hid h5))
 all_goals
  go_wp2_with fail
  refine bodyPost_ret (v := .agg #[.bool s8, .slice A8 n8 c8, .bool t8, .slice B8 m8 d8]) (by simp [results, Tryz.results37, go_sem, o0, o1, o2, o3]) rfl ?_
  exact retq_put HR8.out HS8.out.o (by omega) HS8.out.bel
set_option maxRecDepth 100000 in
set_option maxHeartbeats 4000000 in
theorem add_q {w : World} {s t s' t' : Bool} {A B A' B' : Option Addr} {n c m d n' c' m' d' k : Nat} {p r : Rat} (h1 : IsQ w s A n c t B m d p k) (h2 : IsQ w s' A' n' c' t' B' m' d' r k) (hk : 1 ≤ k) (hk2 : k ≤ 700) (q : Rat) (hq : p + r = q) :
  Calls Tryz.prog 33 #[.agg #[.bool s, .slice A n c, .bool t, .slice B m d], .agg #[.bool s', .slice A' n' c', .bool t', .slice B' m' d']] w (RetQ w q) := by
 have HS := Lib.hid (S2.start w s A n c t B m d s' A' n' c' t' B' m' d')
 have HP := Lib.hid (((h1.alloc (.cells #[.bool s, .slice A n c, .bool t, .slice B m d] 28)).alloc (.cells #[.bool s', .slice A' n' c', .bool t', .slice B' m' d'] 28)).alloc (.cells #[.bool false, .slice none 0 0, .bool false, .slice none 0 0] 28))
 have HR := Lib.hid (((h2.alloc (.cells #[.bool s, .slice A n c, .bool t, .slice B m d] 28)).alloc (.cells #[.bool s', .slice A' n' c', .bool t', .slice B' m' d'] 28)).alloc (.cells #[.bool false, .slice none 0 0, .bool false, .slice none 0 0] 28))
 have HQ := Lib.hid hq
 clear h1 h2 hq
 go_enter Tryz.func33, Tryz.ntmps33
 go_wp2_with fail
 refine (parts_any HP.out hk (by omega)).mono ?_
 rintro e w1 ⟨s1, A1, n1, c1, s2, A2, n2, c2, x, dx, rfl, hx, hdx, hdp, hqp, hb1⟩
 have HS1 := Lib.hid (HS.out.below hb1)
 have HX1 := Lib.hid hx
 have HDX1 := Lib.hid hdx
 have HR1 := Lib.hid (HR.out.below hb1)
 clear hx hdx hb1 HS HP HR
 obtain ⟨V, hV⟩ : ∃ V, (w1.alloc (.cells #[.bool s1, .slice A1 n1 c1] 25)).alloc (.cells #[.bool s2, .slice A2 n2 c2] 25) = V := ⟨_, rfl⟩
 have HV : Hid (Below w1.heap.size w1 V) := by rw [← hV]; exact ((Below.refl _ _).alloc (Nat.le_refl _) _).alloc (by simp) _
 have HI1 : Hid (Ibx V w1.heap.size s1 A1 n1 c1) := by rw [← hV]; exact (Ibx.new' _ _ _ _ _ _ rfl).alloc _
 have HJ1 : Hid (Ibx V (w1.heap.size + 1) s2 A2 n2 c2) := by rw [← hV]; exact Ibx.new' _ _ _ _ _ _ (by simp)
 have HS2 := Lib.hid (HS1.out.below HV.out)
 have HX2 := Lib.hid (HX1.out.below HV.out)
 have HDX2 := Lib.hid (HDX1.out.below HV.out)
 have HR2 := Lib.hid (HR1.out.below HV.out)
 have HLW : Hid (w.heap.size + 1 + 1 < w1.heap.size) := HS1.out.o.lt
 have k0 := HS2.out.i2.c0
 have k1 := HS2.out.i2.c1
 have k2 := HS2.out.i2.c2
 have k3 := HS2.out.i2.c3
 clear HS1 HX1 HDX1 HR1 HV
 go_wp2_with fail
 refine (parts_any HR2.out hk (by omega)).mono ?_
 rintro e w2 ⟨s3, A3, n3, c3, s4, A4, n4, c4, y, ey, rfl, hy, hey, hep, hqr, hb2⟩
 clear hV
 have HS3 := Lib.hid (HS2.out.below hb2)
 have HI3 := Lib.hid (HI1.out.below hb2)
 have HJ3 := Lib.hid (HJ1.out.below hb2)
 have HX3 := Lib.hid (HX2.out.below hb2)
 have HDX3 := Lib.hid (HDX2.out.below hb2)
 have HY3 := Lib.hid hy
 have HEY3 := Lib.hid hey
 have HLW2 : Hid (w.heap.size + 1 + 1 < w2.heap.size) := HS3.out.o.lt
 clear hy hey hb2 HS2 HI1 HJ1 HX2 HDX2 HR2 k0 k1 k2 k3
 obtain ⟨W, hW⟩ : ∃ W, (w2.alloc (.cells #[.bool s3, .slice A3 n3 c3] 25)).alloc (.cells #[.bool s4, .slice A4 n4 c4] 25) = W := ⟨_, rfl⟩
 have HV : Hid (Below w2.heap.size w2 W) := by rw [← hW]; exact ((Below.refl _ _).alloc (Nat.le_refl _) _).alloc (by simp) _
 have HI4 : Hid (Ibx W w2.heap.size s3 A3 n3 c3) := by rw [← hW]; exact (Ibx.new' _ _ _ _ _ _ rfl).alloc _
 have HJ4 : Hid (Ibx W (w2.heap.size + 1) s4 A4 n4 c4) := by rw [← hW]; exact Ibx.new' _ _ _ _ _ _ (by simp)
 have HS := Lib.hid (HS3.out.below HV.out)
 have HD : Hid (D4 W w1.heap.size w2.heap.size s1 A1 n1 c1 s2 A2 n2 c2 s3 A3 n3 c3 s4 A4 n4 c4 x dx y ey k) := ⟨HI3.out.below HV.out, HJ3.out.below HV.out, HI4.out, HJ4.out, HX3.out.below HV.out, HDX3.out.below HV.out, HY3.out.below HV.out, HEY3.out.below HV.out⟩
 have HQP := Lib.hid hqp
 have HQR := Lib.hid hqr
 clear HS3 HI3 HJ3 HI4 HJ4 HX3 HDX3 HY3 HEY3 HV hqp hqr
 obtain ⟨N, hN⟩ : ∃ N, x * ey = N := ⟨_, rfl⟩
 obtain ⟨M, hM⟩ : ∃ M, y * dx = M := ⟨_, rfl⟩
 obtain ⟨U, hU⟩ : ∃ U, N + M = U := ⟨_, rfl⟩
 obtain ⟨E, hE⟩ : ∃ E, dx * ey = E := ⟨_, rfl⟩
 have hEp : 0 < E := by rw [← hE]; exact Int.mul_pos hdp hep
 have HE : Hid (Rat.divInt U E = q) := by
  show _ = _
  rw [← HQ.out, ← HQP.out, ← HQR.out, ← hU, ← hN, ← hM, ← hE]
  exact (Rat.divInt_add_divInt _ _ (by omega) (by omega)).symm
 have HNL : Hid (zl N ≤ 1400) := by show _ ≤ _; rw [← hN]; have h1 := zl_mul x ey; have h2 := HD.out.z1.zl; have h3 := HD.out.z4.zl; omega
 have HML : Hid (zl M ≤ 1400) := by show _ ≤ _; rw [← hM]; have h1 := zl_mul y dx; have h2 := HD.out.z3.zl; have h3 := HD.out.z2.zl; omega
 have HUL : Hid (zl U ≤ 3000) := by show _ ≤ _; rw [← hU]; have h1 := zl_add N M; have h2 := HNL.out; have h3 := HML.out; omega
 have HEL : Hid (zl E ≤ 3000) := by show _ ≤ _; rw [← hE]; have h1 := zl_mul dx ey; have h2 := HD.out.z2.zl; have h3 := HD.out.z4.zl; omega
 have HN := Lib.hid hN
 have HM := Lib.hid hM
 have HU := Lib.hid hU
 have HEE := Lib.hid hE
 clear hN hM hU hE
 go_upto_region 3 with fail
 clear hW
 go_region_held3 (fun V => V.cell? ⟨w1.heap.size, 0, none⟩ = some (.bool s1) ∧ V.cell? ⟨w1.heap.size, 1, none⟩ = some (.slice A1 n1 c1) ∧ V.cell? ⟨w1.heap.size + 1, 0, none⟩ = some (.bool s2) ∧ V.cell? ⟨w1.heap.size + 1, 1, none⟩ = some (.slice A2 n2 c2) ∧ V.cell? ⟨w2.heap.size, 0, none⟩ = some (.bool s3) ∧ V.cell? ⟨w2.heap.size, 1, none⟩ = some (.slice A3 n3 c3) ∧ V.cell? ⟨w2.heap.size + 1, 0, none⟩ = some (.bool s4) ∧ V.cell? ⟨w2.heap.size + 1, 1, none⟩ = some (.slice A4 n4 c4))
  (first | (with_reducible exact HD8.out.keep4 HLW.out HLW2.out) | (with_reducible exact HD8.out.keep) | (with_reducible exact HDb.out.keep) | (with_reducible exact HDa.out.keep) | (with_reducible exact HD6.out.keep) | (with_reducible exact HD5.out.keep) | (with_reducible exact HD.out.drew.keep))
  (first
  | (go_at_call 87; (refine (lowest_q (HUb.out.isz HUL.out) (HEb.out.isz HEL.out) (by omega) (by omega) hEp HE.out).mono ?_); rintro e w8 ⟨s8, A8, n8, c8, t8, B8, m8, d8, rfl, h8, hb8⟩; have HS8 := Lib.hid (HSb.out.below hb8); have HD8 := Lib.hid (HDb.out.below hb8); have HR8 := Lib.hid h8; have o0 := HS8.out.o.c0; have o1 := HS8.out.o.c1; have o2 := HS8.out.o.c2; have o3 := HS8.out.o.c3; have f0 := HS8.out.o.f 0; have f1 := HS8.out.o.f 1; have f2 := HS8.out.o.f 2; have f3 := HS8.out.o.f 3)
  | (go_at_call 89; (refine (mul_j HDa.out.z2 HDa.out.z4 (by omega) E HEE.out).mono ?_); rintro e wb ⟨sb, Ab, nb, cb, rfl, hb, hbb⟩; have HSb := Lib.hid (HSa.out.below hbb); have HDb := Lib.hid (HDa.out.below hbb); have HUb := Lib.hid (HUa.out.below hbb); have HEb := Lib.hid hb)
  | (go_at_call 88; (refine (add_j (HN6.out.isz HNL.out) (HM6.out.isz HML.out) (by omega) U HU.out).mono ?_); rintro e wa ⟨sa, Aa, na, ca, rfl, ha, hba⟩; have HSa := Lib.hid (HS6.out.below hba); have HDa := Lib.hid (HD6.out.below hba); have HUa := Lib.hid ha)
  | (go_at_call 89; (refine (mul_j HD5.out.z3 HD5.out.z2 (by omega) M HM.out).mono ?_); rintro e w6 ⟨s6, A6, n6, c6, rfl, h6, hb6⟩; have HS6 := Lib.hid (HS5.out.below hb6); have HD6 := Lib.hid (HD5.out.below hb6); have HN6 := Lib.hid (HN5.out.below hb6); have HM6 := Lib.hid h6)
  | (go_at_call 89; (refine (mul_j HD.out.drew.z1 HD.out.drew.z4 (by omega) N HN.out).mono ?_); rintro e w5 ⟨s5, A5, n5, c5, rfl, h5, hb5⟩; have HS5 := Lib.hid (HS.out.drew.below hb5); have HD5 := Lib.hid (HD.out.drew.below hb5); have HN5 := Lib.hid h5))
 all_goals
  go_wp2_with fail
  refine bodyPost_ret (v := .agg #[.bool s8, .slice A8 n8 c8, .bool t8, .slice B8 m8 d8]) (by simp [results, Tryz.results33, go_sem, o0, o1, o2, o3]) rfl ?_
  exact retq_put HR8.out HS8.out.o (by omega) HS8.out.bel
set_option maxRecDepth 100000 in
set_option maxHeartbeats 4000000 in
theorem sub_q {w : World} {s t s' t' : Bool} {A B A' B' : Option Addr} {n c m d n' c' m' d' k : Nat} {p r : Rat} (h1 : IsQ w s A n c t B m d p k) (h2 : IsQ w s' A' n' c' t' B' m' d' r k) (hk : 1 ≤ k) (hk2 : k ≤ 700) (q : Rat) (hq : p - r = q) :
  Calls Tryz.prog 35 #[.agg #[.bool s, .slice A n c, .bool t, .slice B m d], .agg #[.bool s', .slice A' n' c', .bool t', .slice B' m' d']] w (RetQ w q) := by
 have HS := Lib.hid (S2.start w s A n c t B m d s' A' n' c' t' B' m' d')
 have HP := Lib.hid (((h1.alloc (.cells #[.bool s, .slice A n c, .bool t, .slice B m d] 28)).alloc (.cells #[.bool s', .slice A' n' c', .bool t', .slice B' m' d'] 28)).alloc (.cells #[.bool false, .slice none 0 0, .bool false, .slice none 0 0] 28))
 have HR := Lib.hid (((h2.alloc (.cells #[.bool s, .slice A n c, .bool t, .slice B m d] 28)).alloc (.cells #[.bool s', .slice A' n' c', .bool t', .slice B' m' d'] 28)).alloc (.cells #[.bool false, .slice none 0 0, .bool false, .slice none 0 0] 28))
 obtain ⟨v, hv⟩ : ∃ v, -r = v := ⟨_, rfl⟩
 have HV := Lib.hid hv
 have HVL : Hid (ql v ≤ k) := by show _ ≤ _; rw [← hv, ql_neg]; exact h2.ql hk
 have HQ : Hid (p + v = q) := by show _ = _; rw [← hq, ← hv]; grind
 clear h1 h2 hq hv
 go_enter Tryz.func35, Tryz.ntmps35
 go_upto_region 1 with fail
 go_region_held3 (fun V => V.cell? ⟨w.heap.size, 0, none⟩ = some (.bool s) ∧ V.cell? ⟨w.heap.size, 1, none⟩ = some (.slice A n c) ∧ V.cell? ⟨w.heap.size, 2, none⟩ = some (.bool t) ∧ V.cell? ⟨w.heap.size, 3, none⟩ = some (.slice B m d) ∧ V.cell? ⟨w.heap.size + 1, 0, none⟩ = some (.bool s') ∧ V.cell? ⟨w.heap.size + 1, 1, none⟩ = some (.slice A' n' c') ∧ V.cell? ⟨w.heap.size + 1, 2, none⟩ = some (.bool t') ∧ V.cell? ⟨w.heap.size + 1, 3, none⟩ = some (.slice B' m' d'))
  (first | (have a1 := HSb.out.i1.put4_far (g' := w.heap.size + 1 + 1) (s' := s8) (A' := A8) (n' := n8) (c' := c8) (t' := t8) (B' := B8) (m' := m8) (d' := d8) (by omega); have a2 := HSb.out.i2.put4_far (g' := w.heap.size + 1 + 1) (s' := s8) (A' := A8) (n' := n8) (c' := c8) (t' := t8) (B' := B8) (m' := m8) (d' := d8) (by omega); with_reducible exact ⟨a1.c0, a1.c1, a1.c2, a1.c3, a2.c0, a2.c1, a2.c2, a2.c3⟩) | (with_reducible exact ⟨HSb.out.i1.c0, HSb.out.i1.c1, HSb.out.i1.c2, HSb.out.i1.c3, HSb.out.i2.c0, HSb.out.i2.c1, HSb.out.i2.c2, HSb.out.i2.c3⟩) | (with_reducible exact ⟨HSa.out.i1.c0, HSa.out.i1.c1, HSa.out.i1.c2, HSa.out.i1.c3, HSa.out.i2.c0, HSa.out.i2.c1, HSa.out.i2.c2, HSa.out.i2.c3⟩) | (with_reducible exact ⟨HS.out.drew.i1.c0, HS.out.drew.i1.c1, HS.out.drew.i1.c2, HS.out.drew.i1.c3, HS.out.drew.i2.c0, HS.out.drew.i2.c1, HS.out.drew.i2.c2, HS.out.drew.i2.c3⟩))
  (first
  | (go_at_call 33; (refine (add_q HPa.out (HRa.out.isq HVL.out) hk hk2 q HQ.out).mono ?_); rintro e wb ⟨s8, A8, n8, c8, t8, B8, m8, d8, rfl, h8, hbb⟩; have HSb := Lib.hid (HSa.out.below hbb); have HRb := Lib.hid h8; have o0 := HSb.out.o.c0; have o1 := HSb.out.o.c1; have o2 := HSb.out.o.c2; have o3 := HSb.out.o.c3; have f0 := HSb.out.o.f 0; have f1 := HSb.out.o.f 1; have f2 := HSb.out.o.f 2; have f3 := HSb.out.o.f 3)
  | (go_at_call 41; (refine (neg_q HR.out.drew hk (by omega) v HV.out).mono ?_); rintro e wa ⟨sa, Aa, na, ca, ta, Ba, ma, da, rfl, ha, hba⟩; have HSa := Lib.hid (HS.out.drew.below hba); have HPa := Lib.hid (HP.out.drew.below hba); have HRa := Lib.hid ha))
 all_goals
  go_wp2_with fail
  refine bodyPost_ret (v := .agg #[.bool s8, .slice A8 n8 c8, .bool t8, .slice B8 m8 d8]) (by simp [results, Tryz.results35, go_sem, o0, o1, o2, o3]) rfl ?_
  exact retq_put HRb.out HSb.out.o (by omega) HSb.out.bel
set_option maxRecDepth 100000 in
set_option maxHeartbeats 4000000 in
theorem cmp_q {w : World} {s t s' t' : Bool} {A B A' B' : Option Addr} {n c m d n' c' m' d' k : Nat} {p r : Rat} (h1 : IsQ w s A n c t B m d p k) (h2 : IsQ w s' A' n' c' t' B' m' d' r k) (hk : 1 ≤ k) (hk2 : k ≤ 700) (kk : Int) (hq : qcmp p r = kk) :
  Calls Tryz.prog 45 #[.agg #[.bool s, .slice A n c, .bool t, .slice B m d], .agg #[.bool s', .slice A' n' c', .bool t', .slice B' m' d']] w (RetI w kk) := by
 have HS := Lib.hid (P2.start w s A n c t B m d s' A' n' c' t' B' m' d')
 have HP := Lib.hid ((h1.alloc (.cells #[.bool s, .slice A n c, .bool t, .slice B m d] 28)).alloc (.cells #[.bool s', .slice A' n' c', .bool t', .slice B' m' d'] 28))
 have HR := Lib.hid ((h2.alloc (.cells #[.bool s, .slice A n c, .bool t, .slice B m d] 28)).alloc (.cells #[.bool s', .slice A' n' c', .bool t', .slice B' m' d'] 28))
 have HQ := Lib.hid hq
 clear h1 h2 hq
 go_enter Tryz.func45, Tryz.ntmps45
 go_wp2_with fail
 refine (parts_any HP.out hk (by omega)).mono ?_
 rintro e w1 ⟨s1, A1, n1, c1, s2, A2, n2, c2, x, dx, rfl, hx, hdx, hdp, hqp, hb1⟩
 have HS1 := Lib.hid (HS.out.below hb1)
 have HX1 := Lib.hid hx
 have HDX1 := Lib.hid hdx
 have HR1 := Lib.hid (HR.out.below hb1)
 clear hx hdx hb1 HS HP HR
 obtain ⟨V, hV⟩ : ∃ V, (w1.alloc (.cells #[.bool s1, .slice A1 n1 c1] 25)).alloc (.cells #[.bool s2, .slice A2 n2 c2] 25) = V := ⟨_, rfl⟩
 have HV : Hid (Below w1.heap.size w1 V) := by rw [← hV]; exact ((Below.refl _ _).alloc (Nat.le_refl _) _).alloc (by simp) _
 have HI1 : Hid (Ibx V w1.heap.size s1 A1 n1 c1) := by rw [← hV]; exact (Ibx.new' _ _ _ _ _ _ rfl).alloc _
 have HJ1 : Hid (Ibx V (w1.heap.size + 1) s2 A2 n2 c2) := by rw [← hV]; exact Ibx.new' _ _ _ _ _ _ (by simp)
 have HS2 := Lib.hid (HS1.out.below HV.out)
 have HX2 := Lib.hid (HX1.out.below HV.out)
 have HDX2 := Lib.hid (HDX1.out.below HV.out)
 have HR2 := Lib.hid (HR1.out.below HV.out)
 have HLW : Hid (w.heap.size + 1 < w1.heap.size) := HS1.out.i2.lt
 have k0 := HS2.out.i2.c0
 have k1 := HS2.out.i2.c1
 have k2 := HS2.out.i2.c2
 have k3 := HS2.out.i2.c3
 clear HS1 HX1 HDX1 HR1 HV
 go_wp2_with fail
 refine (parts_any HR2.out hk (by omega)).mono ?_
 rintro e w2 ⟨s3, A3, n3, c3, s4, A4, n4, c4, y, ey, rfl, hy, hey, hep, hqr, hb2⟩
 clear hV
 have HS3 := Lib.hid (HS2.out.below hb2)
 have HI3 := Lib.hid (HI1.out.below hb2)
 have HJ3 := Lib.hid (HJ1.out.below hb2)
 have HX3 := Lib.hid (HX2.out.below hb2)
 have HDX3 := Lib.hid (HDX2.out.below hb2)
 have HY3 := Lib.hid hy
 have HEY3 := Lib.hid hey
 have HLW2 : Hid (w.heap.size + 1 < w2.heap.size) := HS3.out.i2.lt
 clear hy hey hb2 HS2 HI1 HJ1 HX2 HDX2 HR2 k0 k1 k2 k3
 obtain ⟨W, hW⟩ : ∃ W, (w2.alloc (.cells #[.bool s3, .slice A3 n3 c3] 25)).alloc (.cells #[.bool s4, .slice A4 n4 c4] 25) = W := ⟨_, rfl⟩
 have HV : Hid (Below w2.heap.size w2 W) := by rw [← hW]; exact ((Below.refl _ _).alloc (Nat.le_refl _) _).alloc (by simp) _
 have HI4 : Hid (Ibx W w2.heap.size s3 A3 n3 c3) := by rw [← hW]; exact (Ibx.new' _ _ _ _ _ _ rfl).alloc _
 have HJ4 : Hid (Ibx W (w2.heap.size + 1) s4 A4 n4 c4) := by rw [← hW]; exact Ibx.new' _ _ _ _ _ _ (by simp)
 have HS := Lib.hid (HS3.out.below HV.out)
 have HD : Hid (D4 W w1.heap.size w2.heap.size s1 A1 n1 c1 s2 A2 n2 c2 s3 A3 n3 c3 s4 A4 n4 c4 x dx y ey k) := ⟨HI3.out.below HV.out, HJ3.out.below HV.out, HI4.out, HJ4.out, HX3.out.below HV.out, HDX3.out.below HV.out, HY3.out.below HV.out, HEY3.out.below HV.out⟩
 have HQP := Lib.hid hqp
 have HQR := Lib.hid hqr
 clear HS3 HI3 HJ3 HI4 HJ4 HX3 HDX3 HY3 HEY3 HV hqp hqr
 obtain ⟨N, hN⟩ : ∃ N, x * ey = N := ⟨_, rfl⟩
 obtain ⟨M, hM⟩ : ∃ M, y * dx = M := ⟨_, rfl⟩
 have HE : Hid (zcmp N M = kk) := by
  show _ = _
  rw [← HQ.out, ← HQP.out, ← HQR.out, ← hN, ← hM]
  exact zcmp_div hdp hep
 have HNL : Hid (zl N ≤ 3000) := by show _ ≤ _; rw [← hN]; have h1 := zl_mul x ey; have h2 := HD.out.z1.zl; have h3 := HD.out.z4.zl; omega
 have HML : Hid (zl M ≤ 3000) := by show _ ≤ _; rw [← hM]; have h1 := zl_mul y dx; have h2 := HD.out.z3.zl; have h3 := HD.out.z2.zl; omega
 have HN := Lib.hid hN
 have HM := Lib.hid hM
 clear hN hM
 go_upto_region 3 with fail
 clear hW
 go_region_held3 (fun V => V.cell? ⟨w1.heap.size, 0, none⟩ = some (.bool s1) ∧ V.cell? ⟨w1.heap.size, 1, none⟩ = some (.slice A1 n1 c1) ∧ V.cell? ⟨w1.heap.size + 1, 0, none⟩ = some (.bool s2) ∧ V.cell? ⟨w1.heap.size + 1, 1, none⟩ = some (.slice A2 n2 c2) ∧ V.cell? ⟨w2.heap.size, 0, none⟩ = some (.bool s3) ∧ V.cell? ⟨w2.heap.size, 1, none⟩ = some (.slice A3 n3 c3) ∧ V.cell? ⟨w2.heap.size + 1, 0, none⟩ = some (.bool s4) ∧ V.cell? ⟨w2.heap.size + 1, 1, none⟩ = some (.slice A4 n4 c4))
  (first | (with_reducible exact HD8.out.keep) | (with_reducible exact HD6.out.keep) | (with_reducible exact HD5.out.keep) | (with_reducible exact HD.out.drew.keep))
  (first
  | (go_at_call 94; (with_reducible refine (cmp_j (HN6.out.isz HNL.out) (HM6.out.isz HML.out) (by omega) kk HE.out).mono ?_); rintro e w8 ⟨rfl, hb8⟩; have HS8 := Lib.hid (HS6.out.below hb8); have HD8 := Lib.hid (HD6.out.below hb8))
  | (go_at_call 89; (with_reducible refine (mul_j HD5.out.z3 HD5.out.z2 (by omega) M HM.out).mono ?_); rintro e w6 ⟨s6, A6, n6, c6, rfl, h6, hb6⟩; have HS6 := Lib.hid (HS5.out.below hb6); have HD6 := Lib.hid (HD5.out.below hb6); have HN6 := Lib.hid (HN5.out.below hb6); have HM6 := Lib.hid h6)
  | (go_at_call 89; (with_reducible refine (mul_j HD.out.drew.z1 HD.out.drew.z4 (by omega) N HN.out).mono ?_); rintro e w5 ⟨s5, A5, n5, c5, rfl, h5, hb5⟩; have HS5 := Lib.hid (HS.out.drew.below hb5); have HD5 := Lib.hid (HD.out.drew.below hb5); have HN5 := Lib.hid h5))
 all_goals
  go_wp2_with fail
  go_ret
  exact ⟨rfl, HS8.out.bel⟩
set_option maxRecDepth 100000 in
set_option maxHeartbeats 4000000 in
theorem max_q {w : World} {s t s' t' : Bool} {A B A' B' : Option Addr} {n c m d n' c' m' d' k : Nat} {p r : Rat} (h1 : IsQ w s A n c t B m d p k) (h2 : IsQ w s' A' n' c' t' B' m' d' r k) (hk : 1 ≤ k) (hk2 : k ≤ 700) (q : Rat) (hq : (if p < r then r else p) = q) :
  Calls Tryz.prog 43 #[.agg #[.bool s, .slice A n c, .bool t, .slice B m d], .agg #[.bool s', .slice A' n' c', .bool t', .slice B' m' d']] w (RetQ w q) := by
 have HS := Lib.hid (S2.start w s A n c t B m d s' A' n' c' t' B' m' d')
 have HP := Lib.hid (((h1.alloc (.cells #[.bool s, .slice A n c, .bool t, .slice B m d] 28)).alloc (.cells #[.bool s', .slice A' n' c', .bool t', .slice B' m' d'] 28)).alloc (.cells #[.bool false, .slice none 0 0, .bool false, .slice none 0 0] 28))
 have HR := Lib.hid (((h2.alloc (.cells #[.bool s, .slice A n c, .bool t, .slice B m d] 28)).alloc (.cells #[.bool s', .slice A' n' c', .bool t', .slice B' m' d'] 28)).alloc (.cells #[.bool false, .slice none 0 0, .bool false, .slice none 0 0] 28))
 obtain ⟨kk, hkk⟩ : ∃ kk, qcmp p r = kk := ⟨_, rfl⟩
 have HK := Lib.hid hkk
 by_cases hc : p < r
 ·have hk0 : ¬ 0 ≤ kk := by rw [← hkk]; have := qcmp_neg_iff.2 hc; omega
  have HQ : Hid (r = q) := by show _ = _; rw [← hq, if_pos hc]
  clear h1 h2 hq hkk hc
  go_enter Tryz.func43, Tryz.ntmps43
  go_wp2_with fail
  refine (cmp_q HP.out HR.out hk hk2 kk HK.out).mono ?_
  rintro e w1 ⟨rfl, hb1⟩
  have HS1 := Lib.hid (HS.out.below hb1)
  have HX1 := Lib.hid (HR.out.below hb1)
  clear hb1
  have k0 := HS1.out.i2.c0
  have k1 := HS1.out.i2.c1
  have k2 := HS1.out.i2.c2
  have k3 := HS1.out.i2.c3
  go_wp2_with fail
  refine (norm_q HX1.out hk (by omega)).mono ?_
  rintro e w2 ⟨s8, A8, n8, c8, t8, B8, m8, d8, rfl, h2, hb2⟩
  rw [HQ.out] at h2
  have HS8 := Lib.hid (HS1.out.below hb2)
  have HR8 := Lib.hid h2
  clear h2 hb2 k0 k1 k2 k3
  have o0 := HS8.out.o.c0
  have o1 := HS8.out.o.c1
  have o2 := HS8.out.o.c2
  have o3 := HS8.out.o.c3
  have f0 := HS8.out.o.f 0
  have f1 := HS8.out.o.f 1
  have f2 := HS8.out.o.f 2
  have f3 := HS8.out.o.f 3
  go_wp2_with fail
  refine bodyPost_ret (v := .agg #[.bool s8, .slice A8 n8 c8, .bool t8, .slice B8 m8 d8]) (by simp [results, Tryz.results43, go_sem, o0, o1, o2, o3]) rfl ?_
  exact retq_put HR8.out HS8.out.o (by omega) HS8.out.bel
 ·have hk0 : 0 ≤ kk := by rw [← hkk]; have : ¬ _ := fun h => hc (qcmp_neg_iff.1 h); omega
  have HQ : Hid (p = q) := by show _ = _; rw [← hq, if_neg hc]
  clear h1 h2 hq hkk hc
  go_enter Tryz.func43, Tryz.ntmps43
  go_wp2_with fail
  refine (cmp_q HP.out HR.out hk hk2 kk HK.out).mono ?_
  rintro e w1 ⟨rfl, hb1⟩
  have HS1 := Lib.hid (HS.out.below hb1)
  have HX1 := Lib.hid (HP.out.below hb1)
  clear hb1
  have k0 := HS1.out.i1.c0
  have k1 := HS1.out.i1.c1
  have k2 := HS1.out.i1.c2
  have k3 := HS1.out.i1.c3
  go_wp2_with fail
  refine (norm_q HX1.out hk (by omega)).mono ?_
  rintro e w2 ⟨s8, A8, n8, c8, t8, B8, m8, d8, rfl, h2, hb2⟩
  rw [HQ.out] at h2
  have HS8 := Lib.hid (HS1.out.below hb2)
  have HR8 := Lib.hid h2
  clear h2 hb2 k0 k1 k2 k3
  have o0 := HS8.out.o.c0
  have o1 := HS8.out.o.c1
  have o2 := HS8.out.o.c2
  have o3 := HS8.out.o.c3
  have f0 := HS8.out.o.f 0
  have f1 := HS8.out.o.f 1
  have f2 := HS8.out.o.f 2
  have f3 := HS8.out.o.f 3
  go_wp2_with fail
  refine bodyPost_ret (v := .agg #[.bool s8, .slice A8 n8 c8, .bool t8, .slice B8 m8 d8]) (by simp [results, Tryz.results43, go_sem, o0, o1, o2, o3]) rfl ?_
  exact retq_put HR8.out HS8.out.o (by omega) HS8.out.bel
set_option maxRecDepth 100000 in
set_option maxHeartbeats 4000000 in
theorem min_q {w : World} {s t s' t' : Bool} {A B A' B' : Option Addr} {n c m d n' c' m' d' k : Nat} {p r : Rat} (h1 : IsQ w s A n c t B m d p k) (h2 : IsQ w s' A' n' c' t' B' m' d' r k) (hk : 1 ≤ k) (hk2 : k ≤ 700) (q : Rat) (hq : (if r < p then r else p) = q) :
  Calls Tryz.prog 44 #[.agg #[.bool s, .slice A n c, .bool t, .slice B m d], .agg #[.bool s', .slice A' n' c', .bool t', .slice B' m' d']] w (RetQ w q) := by
 have HS := Lib.hid (S2.start w s A n c t B m d s' A' n' c' t' B' m' d')
 have HP := Lib.hid (((h1.alloc (.cells #[.bool s, .slice A n c, .bool t, .slice B m d] 28)).alloc (.cells #[.bool s', .slice A' n' c', .bool t', .slice B' m' d'] 28)).alloc (.cells #[.bool false, .slice none 0 0, .bool false, .slice none 0 0] 28))
 have HR := Lib.hid (((h2.alloc (.cells #[.bool s, .slice A n c, .bool t, .slice B m d] 28)).alloc (.cells #[.bool s', .slice A' n' c', .bool t', .slice B' m' d'] 28)).alloc (.cells #[.bool false, .slice none 0 0, .bool false, .slice none 0 0] 28))
 obtain ⟨kk, hkk⟩ : ∃ kk, qcmp p r = kk := ⟨_, rfl⟩
 have HK := Lib.hid hkk
 by_cases hc : r < p
 ·have hk0 : ¬ kk ≤ 0 := by rw [← hkk]; have := qcmp_pos_iff.2 hc; omega
  have HQ : Hid (r = q) := by show _ = _; rw [← hq, if_pos hc]
  clear h1 h2 hq hkk hc
  go_enter Tryz.func44, Tryz.ntmps44
  go_wp2_with fail
  refine (cmp_q HP.out HR.out hk hk2 kk HK.out).mono ?_
  rintro e w1 ⟨rfl, hb1⟩
  have HS1 := Lib.hid (HS.out.below hb1)
  have HX1 := Lib.hid (HR.out.below hb1)
  clear hb1
  have k0 := HS1.out.i2.c0
  have k1 := HS1.out.i2.c1
  have k2 := HS1.out.i2.c2
  have k3 := HS1.out.i2.c3
  go_wp2_with fail
  refine (norm_q HX1.out hk (by omega)).mono ?_
  rintro e w2 ⟨s8, A8, n8, c8, t8, B8, m8, d8, rfl, h2, hb2⟩
  rw [HQ.out] at h2
  have HS8 := Lib.hid (HS1.out.below hb2)
  have HR8 := Lib.hid h2
  clear h2 hb2 k0 k1 k2 k3
  have o0 := HS8.out.o.c0
  have o1 := HS8.out.o.c1
  have o2 := HS8.out.o.c2
  have o3 := HS8.out.o.c3
  have f0 := HS8.out.o.f 0
  have f1 := HS8.out.o.f 1
  have f2 := HS8.out.o.f 2
  have f3 := HS8.out.o.f 3
  go_wp2_with fail
  refine bodyPost_ret (v := .agg #[.bool s8, .slice A8 n8 c8, .bool t8, .slice B8 m8 d8]) (by simp [results, Tryz.results44, go_sem, o0, o1, o2, o3]) rfl ?_
  exact retq_put HR8.out HS8.out.o (by omega) HS8.out.bel
 ·have hk0 : kk ≤ 0 := by rw [← hkk]; have : ¬ _ := fun h => hc (qcmp_pos_iff.1 h); omega
  have HQ : Hid (p = q) := by show _ = _; rw [← hq, if_neg hc]
  clear h1 h2 hq hkk hc
  go_enter Tryz.func44, Tryz.ntmps44
  go_wp2_with fail
  refine (cmp_q HP.out HR.out hk hk2 kk HK.out).mono ?_
  rintro e w1 ⟨rfl, hb1⟩
  have HS1 := Lib.hid (HS.out.below hb1)
  have HX1 := Lib.hid (HP.out.below hb1)
  clear hb1
  have k0 := HS1.out.i1.c0
  have k1 := HS1.out.i1.c1
  have k2 := HS1.out.i1.c2
  have k3 := HS1.out.i1.c3
  go_wp2_with fail
  refine (norm_q HX1.out hk (by omega)).mono ?_
  rintro e w2 ⟨s8, A8, n8, c8, t8, B8, m8, d8, rfl, h2, hb2⟩
  rw [HQ.out] at h2
  have HS8 := Lib.hid (HS1.out.below hb2)
  have HR8 := Lib.hid h2
  clear h2 hb2 k0 k1 k2 k3
  have o0 := HS8.out.o.c0
  have o1 := HS8.out.o.c1
  have o2 := HS8.out.o.c2
  have o3 := HS8.out.o.c3
  have f0 := HS8.out.o.f 0
  have f1 := HS8.out.o.f 1
  have f2 := HS8.out.o.f 2
  have f3 := HS8.out.o.f 3
  go_wp2_with fail
  refine bodyPost_ret (v := .agg #[.bool s8, .slice A8 n8 c8, .bool t8, .slice B8 m8 d8]) (by simp [results, Tryz.results44, go_sem, o0, o1, o2, o3]) rfl ?_
  exact retq_put HR8.out HS8.out.o (by omega) HS8.out.bel
theorem _root_.Go.Proofs.YtbbncggaaibheaaGreatDoor.Q.SF.drew {w wx : World} {s t : Bool} {A B : Option Addr} {n c m d : Nat} (h : SF w wx s A n c t B m d) : SF w wx.drew s A n c t B m d := h.below ((Below.refl _ _).drew)
theorem ceil_quo {n d : Int} (hd : 0 < d) : (Rat.divInt n d).ceil = n / d + (if 0 < n % d then 1 else 0) := by
 rw [Rat.ceil_eq_neg_floor_neg, Rat.neg_divInt, ← floor_div hd]
 have h1 := Int.emod_add_mul_ediv n d
 have h2 := Int.emod_nonneg n (show d ≠ 0 by omega)
 have h3 := Int.emod_lt_of_pos n hd
 generalize n / d = q at *
 generalize n % d = r at *
 by_cases hr : 0 < r
 ·rw [if_pos hr]
  have : -n / d = -q - 1 := by
   refine (Int.ediv_eq_iff_of_pos hd).2 ⟨?_, ?_⟩
   ·rw [← h1]; grind
   ·rw [← h1]; grind
  omega
 ·rw [if_neg hr]
  have hr0 : r = 0 := by omega
  subst hr0
  have : -n / d = -q := by
   rw [← h1, show -(0 + d * q) = d * (-q) by grind]
   exact Int.mul_ediv_cancel_left _ (by omega)
  omega
set_option maxRecDepth 100000 in
set_option maxHeartbeats 4000000 in
theorem floor_q {w : World} {s t : Bool} {A B : Option Addr} {n c m d k : Nat} {p : Rat} (h1 : IsQ w s A n c t B m d p k) (hk : 1 ≤ k) (hk2 : k ≤ 700) (r : Int) (hr : p.floor = r) :
  Calls Tryz.prog 46 #[.agg #[.bool s, .slice A n c, .bool t, .slice B m d]] w (RetJ w r) := by
 have HS := Lib.hid (SF.start w s A n c t B m d)
 have HP := Lib.hid ((h1.alloc (.cells #[.bool s, .slice A n c, .bool t, .slice B m d] 28)).alloc (.cells #[.bool false, .slice none 0 0] 25))
 have HR := Lib.hid hr
 clear h1 hr
 go_enter Tryz.func46, Tryz.ntmps46
 go_wp2_with fail
 refine (parts_any HP.out hk (by omega)).mono ?_
 rintro e w1 ⟨s1, A1, n1, c1, s2, A2, n2, c2, x, dx, rfl, hx, hdx, hdp, hqp, hb1⟩
 have HS1 := Lib.hid (HS.out.below hb1)
 have HX1 := Lib.hid hx
 have HD1 := Lib.hid hdx
 have HQP := Lib.hid hqp
 clear hx hdx hqp hb1 HS HP
 obtain ⟨W, hW⟩ : ∃ W, (w1.alloc (.cells #[.bool s1, .slice A1 n1 c1] 25)).alloc (.cells #[.bool s2, .slice A2 n2 c2] 25) = W := ⟨_, rfl⟩
 have HV : Hid (Below w1.heap.size w1 W) := by rw [← hW]; exact ((Below.refl _ _).alloc (Nat.le_refl _) _).alloc (by simp) _
 have HI2 : Hid (Ibx W w1.heap.size s1 A1 n1 c1) := by rw [← hW]; exact (Ibx.new' _ _ _ _ _ _ rfl).alloc _
 have HJ2 : Hid (Ibx W (w1.heap.size + 1) s2 A2 n2 c2) := by rw [← hW]; exact Ibx.new' _ _ _ _ _ _ (by simp)
 have HS2 := Lib.hid (HS1.out.below HV.out)
 have HX2 := Lib.hid (HX1.out.below HV.out)
 have HD2 := Lib.hid (HD1.out.below HV.out)
 clear HX1 HD1 HV
 have k0 := HI2.out.c0
 have k1 := HI2.out.c1
 have j0 := HJ2.out.c0
 have j1 := HJ2.out.c1
 have HLW : Hid (w.heap.size + 1 < w1.heap.size) := HS1.out.o.lt
 obtain ⟨Q, hQ⟩ : ∃ Q, x / dx = Q := ⟨_, rfl⟩
 obtain ⟨M, hM⟩ : ∃ M, x % dx = M := ⟨_, rfl⟩
 have HQ := Lib.hid hQ
 have HM : Hid (zrem x dx = M) := by show _ = _; rw [zrem_pos hdp, hM]
 have HQL : Hid (zl Q ≤ k) := by show _ ≤ _; rw [← hQ]; exact Nat.le_trans (zl_quo _ _) HX2.out.zl
 have HML : Hid (zl M ≤ k) := by
  show _ ≤ _
  refine Nat.le_trans ?_ HD2.out.zl
  have h2 := Int.emod_nonneg x (show dx ≠ 0 by omega)
  have h3 := Int.emod_lt_of_pos x hdp
  rw [← hM]
  exact dl_le (by omega)
 have HE : Hid (Q = r) := by show _ = _; rw [← HR.out, ← HQP.out, ← hQ]; exact floor_div hdp
 clear HS1 hQ hM
 go_wp2_with fail
 refine (divmod_j HX2.out HD2.out (by omega) Q M HQ.out HM.out).mono ?_
 rintro e w2 ⟨s3, A3, n3, c3, s4, A4, n4, c4, rfl, h3, h4, hb2⟩
 clear hW k0 k1 j0 j1
 have HS3 := Lib.hid (HS2.out.below hb2)
 have HN3 := Lib.hid h3
 have HM3 := Lib.hid h4
 clear h3 h4 hb2 HS2 HX2 HD2
 obtain ⟨V, hV⟩ : ∃ V, (w2.alloc (.cells #[.bool s3, .slice A3 n3 c3] 25)).alloc (.cells #[.bool s4, .slice A4 n4 c4] 25) = V := ⟨_, rfl⟩
 have HV : Hid (Below w2.heap.size w2 V) := by rw [← hV]; exact ((Below.refl _ _).alloc (Nat.le_refl _) _).alloc (by simp) _
 have HI4 : Hid (Ibx V w2.heap.size s3 A3 n3 c3) := by rw [← hV]; exact (Ibx.new' _ _ _ _ _ _ rfl).alloc _
 have HJ4 : Hid (Ibx V (w2.heap.size + 1) s4 A4 n4 c4) := by rw [← hV]; exact Ibx.new' _ _ _ _ _ _ (by simp)
 have HLX : Hid (w.heap.size + 1 < w2.heap.size) := HS3.out.o.lt
 have HS4 := Lib.hid (HS3.out.below HV.out)
 have HN4 := Lib.hid (HN3.out.below HV.out)
 have HM4 := Lib.hid (HM3.out.below HV.out)
 clear HS3 HN3 HM3 HV HI2 HJ2
 have k0 := HI4.out.c0
 have k1 := HI4.out.c1
 have j0 := HJ4.out.c0
 have j1 := HJ4.out.c1
 have HE2 := HE.out
 subst HE2
 have hlx := HLX.out
 have o0 := HS4.out.o.c0
 have o1 := HS4.out.o.c1
 have f0 := HS4.out.o.f 0
 have f1 := HS4.out.o.f 1
 go_wp2_with fail
 refine bodyPost_ret (v := .agg #[.bool s3, .slice A3 n3 c3]) (by simp [results, Tryz.results46, go_sem, o0, o1]) rfl ?_
 exact retj_put HN4.out HS4.out.o (by omega) HS4.out.bel
set_option maxRecDepth 100000 in
set_option maxHeartbeats 4000000 in
theorem ceil_q {w : World} {s t : Bool} {A B : Option Addr} {n c m d k : Nat} {p : Rat} (h1 : IsQ w s A n c t B m d p k) (hk : 1 ≤ k) (hk2 : k ≤ 700) (r : Int) (hr : p.ceil = r) :
  Calls Tryz.prog 47 #[.agg #[.bool s, .slice A n c, .bool t, .slice B m d]] w (RetJ w r) := by
 have HS := Lib.hid (SF.start w s A n c t B m d)
 have HP := Lib.hid ((h1.alloc (.cells #[.bool s, .slice A n c, .bool t, .slice B m d] 28)).alloc (.cells #[.bool false, .slice none 0 0] 25))
 have HR := Lib.hid hr
 have HOL : Hid (zl (1 : Int) ≤ k) := Nat.le_trans (zl_small (by omega) (by omega)) hk
 clear h1 hr
 go_enter Tryz.func47, Tryz.ntmps47
 go_wp2_with fail
 refine (parts_any HP.out hk (by omega)).mono ?_
 rintro e w1 ⟨s1, A1, n1, c1, s2, A2, n2, c2, x, dx, rfl, hx, hdx, hdp, hqp, hb1⟩
 have HS1 := Lib.hid (HS.out.below hb1)
 have HX1 := Lib.hid hx
 have HD1 := Lib.hid hdx
 have HQP := Lib.hid hqp
 clear hx hdx hqp hb1 HS HP
 obtain ⟨W, hW⟩ : ∃ W, (w1.alloc (.cells #[.bool s1, .slice A1 n1 c1] 25)).alloc (.cells #[.bool s2, .slice A2 n2 c2] 25) = W := ⟨_, rfl⟩
 have HV : Hid (Below w1.heap.size w1 W) := by rw [← hW]; exact ((Below.refl _ _).alloc (Nat.le_refl _) _).alloc (by simp) _
 have HI2 : Hid (Ibx W w1.heap.size s1 A1 n1 c1) := by rw [← hW]; exact (Ibx.new' _ _ _ _ _ _ rfl).alloc _
 have HJ2 : Hid (Ibx W (w1.heap.size + 1) s2 A2 n2 c2) := by rw [← hW]; exact Ibx.new' _ _ _ _ _ _ (by simp)
 have HS2 := Lib.hid (HS1.out.below HV.out)
 have HX2 := Lib.hid (HX1.out.below HV.out)
 have HD2 := Lib.hid (HD1.out.below HV.out)
 clear HX1 HD1 HV
 have k0 := HI2.out.c0
 have k1 := HI2.out.c1
 have j0 := HJ2.out.c0
 have j1 := HJ2.out.c1
 have HLW : Hid (w.heap.size + 1 < w1.heap.size) := HS1.out.o.lt
 obtain ⟨Q, hQ⟩ : ∃ Q, x / dx = Q := ⟨_, rfl⟩
 obtain ⟨M, hM⟩ : ∃ M, x % dx = M := ⟨_, rfl⟩
 have HQ := Lib.hid hQ
 have HM : Hid (zrem x dx = M) := by show _ = _; rw [zrem_pos hdp, hM]
 have HQL : Hid (zl Q ≤ k) := by show _ ≤ _; rw [← hQ]; exact Nat.le_trans (zl_quo _ _) HX2.out.zl
 have HML : Hid (zl M ≤ k) := by
  show _ ≤ _
  refine Nat.le_trans ?_ HD2.out.zl
  have h2 := Int.emod_nonneg x (show dx ≠ 0 by omega)
  have h3 := Int.emod_lt_of_pos x hdp
  rw [← hM]
  exact dl_le (by omega)
 have HE : Hid (Q + (if 0 < M then 1 else 0) = r) := by show _ = _; rw [← HR.out, ← HQP.out, ceil_quo hdp, hQ, hM]
 clear HS1 hQ hM
 go_wp2_with fail
 refine (divmod_j HX2.out HD2.out (by omega) Q M HQ.out HM.out).mono ?_
 rintro e w2 ⟨s3, A3, n3, c3, s4, A4, n4, c4, rfl, h3, h4, hb2⟩
 clear hW k0 k1 j0 j1
 have HS3 := Lib.hid (HS2.out.below hb2)
 have HN3 := Lib.hid h3
 have HM3 := Lib.hid h4
 clear h3 h4 hb2 HS2 HX2 HD2
 obtain ⟨V, hV⟩ : ∃ V, (w2.alloc (.cells #[.bool s3, .slice A3 n3 c3] 25)).alloc (.cells #[.bool s4, .slice A4 n4 c4] 25) = V := ⟨_, rfl⟩
 have HV : Hid (Below w2.heap.size w2 V) := by rw [← hV]; exact ((Below.refl _ _).alloc (Nat.le_refl _) _).alloc (by simp) _
 have HI4 : Hid (Ibx V w2.heap.size s3 A3 n3 c3) := by rw [← hV]; exact (Ibx.new' _ _ _ _ _ _ rfl).alloc _
 have HJ4 : Hid (Ibx V (w2.heap.size + 1) s4 A4 n4 c4) := by rw [← hV]; exact Ibx.new' _ _ _ _ _ _ (by simp)
 have HLX : Hid (w.heap.size + 1 < w2.heap.size) := HS3.out.o.lt
 have HS4 := Lib.hid (HS3.out.below HV.out)
 have HN4 := Lib.hid (HN3.out.below HV.out)
 have HM4 := Lib.hid (HM3.out.below HV.out)
 clear HS3 HN3 HM3 HV HI2 HJ2
 have k0 := HI4.out.c0
 have k1 := HI4.out.c1
 have j0 := HJ4.out.c0
 have j1 := HJ4.out.c1
 obtain ⟨sg, hsg⟩ : ∃ sg, M.sign = sg := ⟨_, rfl⟩
 have HSG := Lib.hid hsg
 have hlx := HLX.out
 by_cases hm : 0 < M
 ·have hs0 : 0 < sg := by rw [← hsg, Int.sign_eq_one_of_pos hm]; omega
  have HE2 : Hid (Q + 1 = r) := by show _ = _; rw [← HE.out, if_pos hm]
  clear hsg hm
  go_wp2_with fail
  refine (sign_j (HM4.out.isz HML.out) (by omega) sg HSG.out).mono ?_
  rintro e w5 ⟨rfl, hb5⟩
  clear hV k0 k1 j0 j1
  have HS5 := Lib.hid (HS4.out.below hb5)
  have HI5 := Lib.hid (HI4.out.below hb5)
  have HN5 := Lib.hid (HN4.out.below hb5)
  have HJ5 := Lib.hid (HJ4.out.below hb5)
  clear hb5
  have k0 := HI5.out.c0
  have k1 := HI5.out.c1
  go_upto_region 4 with fail
  rw [show Op.load 25 (Operand.tmp 5) = hideL (Op.load 25 (Operand.tmp 5)) from rfl]
  go_region_held3 (fun V => V.cell? ⟨w2.heap.size + 1, 0, none⟩ = some (.bool s4))
   (first | (with_reducible exact (HJ7.out.put_far (by omega)).c0) | (with_reducible exact HJ7.out.c0) | (with_reducible exact HJ6.out.c0) | (with_reducible exact HJ5.out.drew.c0))
   (first
   | (go_at_call 88; (with_reducible refine (add_j (HN6.out.isz HQL.out) (HO6.out.isz HOL.out) (by omega) r HE2.out).mono ?_); rintro e w7 ⟨s7, A7, n7, c7, rfl, h7, hb7⟩; have HS7 := Lib.hid (HS6.out.below hb7); have HI7 := Lib.hid (HI6.out.below hb7); have HJ7 := Lib.hid (HJ6.out.below hb7); have HN7 := Lib.hid h7; have u0 := HI7.out.c0; have u1 := HI7.out.c1; have fu0 := HI7.out.f 0; have fu1 := HI7.out.f 1)
   | (go_at_call 96; (with_reducible refine (of_j _ 1 1 rfl (by omega) (by omega)).mono ?_); rintro e w6 ⟨s6, A6, n6, c6, rfl, h6, hb6⟩; have HS6 := Lib.hid (HS5.out.drew.below hb6); have HI6 := Lib.hid (HI5.out.drew.below hb6); have HJ6 := Lib.hid (HJ5.out.drew.below hb6); have HN6 := Lib.hid (HN5.out.drew.below hb6); have HO6 := Lib.hid h6; have v0 := HI6.out.c0; have v1 := HI6.out.c1))
  all_goals
   obtain ⟨X, hX⟩ : ∃ X, (w7.setCell ⟨w2.heap.size, 0, none⟩ (.bool s7)).setCell ⟨w2.heap.size, 1, none⟩ (.slice A7 n7 c7) = X := ⟨_, rfl⟩
   have HI8 : Hid (Ibx X w2.heap.size s7 A7 n7 c7) := by rw [← hX]; exact HI7.out.put
   have HO8 : Hid (Ibx X (w.heap.size + 1) false none 0 0) := by rw [← hX]; exact HS7.out.o.put_far (by omega)
   have HB8 : Hid (Below w.heap.size w X) := by rw [← hX]; exact below_put2 HS7.out.bel (by omega)
   have HN8 : Hid (OneZ X s7 A7 n7 c7 r) := by rw [← hX]; exact HN7.out.on2 HI7.out.bx
   have u0' := HI8.out.c0
   have u1' := HI8.out.c1
   have o0 := HO8.out.c0
   have o1 := HO8.out.c1
   have f0 := HO8.out.f 0
   have f1 := HO8.out.f 1
   go_wp2_with fail
   refine bodyPost_ret (v := .agg #[.bool s7, .slice A7 n7 c7]) (by simp [results, Tryz.results47, go_sem, o0, o1]) rfl ?_
   exact retj_put HN8.out HO8.out (by omega) HB8.out
 ·have hs0 : ¬ 0 < sg := by rw [← hsg]; exact fun h => hm (Int.sign_pos_iff.1 h)
  have HE2 : Hid (Q = r) := by show _ = _; rw [← HE.out, if_neg hm, Int.add_zero]
  have HE3 := HE2.out
  subst HE3
  clear hsg hm
  go_wp2_with fail
  refine (sign_j (HM4.out.isz HML.out) (by omega) sg HSG.out).mono ?_
  rintro e w5 ⟨rfl, hb5⟩
  clear hV k0 k1 j0 j1
  have HS5 := Lib.hid (HS4.out.below hb5)
  have HI5 := Lib.hid (HI4.out.below hb5)
  have HN5 := Lib.hid (HN4.out.below hb5)
  clear hb5
  have k0 := HI5.out.c0
  have k1 := HI5.out.c1
  have o0 := HS5.out.o.c0
  have o1 := HS5.out.o.c1
  have f0 := HS5.out.o.f 0
  have f1 := HS5.out.o.f 1
  go_wp2_with fail
  refine bodyPost_ret (v := .agg #[.bool s3, .slice A3 n3 c3]) (by simp [results, Tryz.results47, go_sem, o0, o1]) rfl ?_
  exact retj_put HN5.out HS5.out.o (by omega) HS5.out.bel
end Go.Proofs.YtbbncggaaibheaaGreatDoor.Q.P
namespace Go.Proofs.YtbbncggaaibheaaGreatDoor.Q.P
open Go.RowKit
open Go.Proofs.YtbbncggaaibheaaGreatDoor.D (textOf RetS)
theorem text_j {w : World} {s : Bool} {A : Option Addr} {n c k : Nat} {z : Int} (h : IsZ w s A n c z k) (hk : k ≤ 1000) (l : List UInt8) (hl : textOf z = l) :
  Calls Tryz.prog 98 #[.agg #[.bool s, .slice A n c]] w (RetS w l) := by
 obtain ⟨xs, rfl, ha, hx⟩ := h.ex
 exact E.rtext_any w s A c xs z l ha hx hl (by have := h.le; omega)
set_option maxRecDepth 100000 in
set_option maxHeartbeats 4000000 in
theorem text_q {w : World} {s t : Bool} {A B : Option Addr} {n c m d k : Nat} {p : Rat} (h1 : IsQ w s A n c t B m d p k) (hk : 1 ≤ k) (hk2 : k ≤ 700) (l : List UInt8) (hl : qtext p = l) :
  Calls Tryz.prog 49 #[.agg #[.bool s, .slice A n c, .bool t, .slice B m d]] w (RetS w l) := by
 have HW : Hid (Below w.heap.size w (w.alloc (.cells #[.bool s, .slice A n c, .bool t, .slice B m d] 28))) := (Below.refl _ _).alloc (Nat.le_refl _) _
 have HI : Hid (Qbx (w.alloc (.cells #[.bool s, .slice A n c, .bool t, .slice B m d] 28)) w.heap.size s A n c t B m d) := Qbx.new _ _ rfl
 have HP := Lib.hid (h1.alloc (.cells #[.bool s, .slice A n c, .bool t, .slice B m d] 28))
 have hql := h1.ql hk
 have h2 := num_le p
 have h3 := den_le p
 have h4 := den_zl p
 obtain ⟨X, hX⟩ : ∃ X, textOf p.num = X := ⟨_, rfl⟩
 obtain ⟨Y, hY⟩ : ∃ Y, textOf (p.den : Int) = Y := ⟨_, rfl⟩
 have hXl := textOf_len p.num k (by omega) (by omega)
 have hYl := textOf_len (p.den : Int) k (by omega) (by omega)
 rw [hX] at hXl
 rw [hY] at hYl
 have HX := Lib.hid hX
 have HY := Lib.hid hY
 have HNL : Hid (zl p.num ≤ 1000) := by show _ ≤ _; omega
 have HDL : Hid (zl (p.den : Int) ≤ 1000) := by show _ ≤ _; omega
 unfold qtext at hl
 rw [hX, hY] at hl
 by_cases hd : p.den = 1
 ·rw [if_pos hd] at hl
  have HM : Hid (∀ {w : World} {s t : Bool} {A B : Option Addr} {n c m d : Nat}, OneQ w s A n c t B m d p → m = 0) := by
   intro w s t A B n c m d h
   have := h.em
   unfold dden at this
   rw [if_pos hd] at this
   exact this
  have HL := Lib.hid hl
  clear h1 hql h2 h3 h4 hX hY hXl hYl hl hd
  go_enter Tryz.func49, Tryz.ntmps49
  go_wp2_with fail
  refine (norm_q HP.out hk (by omega)).mono ?_
  rintro e w1 ⟨s1, A1, n1, c1', t1, B1, m1, d1, rfl, h1, hb1⟩
  have hm0 : ¬ ((0 : Int) < (m1 : Int)) := by have := HM.out h1; omega
  have HW1 := Lib.hid (below_put4 (s' := s1) (A' := A1) (n' := n1) (c' := c1') (t' := t1) (B' := B1) (m' := m1) (d' := d1) (below_on HW.out hb1) (Nat.le_refl w.heap.size))
  have HI1 := Lib.hid (HI.out.below hb1)
  have HN1 := Lib.hid (h1.top.on4 (s' := s1) (A' := A1) (n' := n1) (c' := c1') (t' := t1) (B' := B1) (m' := m1) (d' := d1) HI1.out.bx)
  have HJ1 := Lib.hid (HI1.out.put (s' := s1) (A' := A1) (n' := n1) (c' := c1') (t' := t1) (B' := B1) (m' := m1) (d' := d1))
  skip
  clear h1 hb1
  have o0 := HI1.out.c0
  have o1 := HI1.out.c1
  have o2 := HI1.out.c2
  have o3 := HI1.out.c3
  have f0 := HI1.out.f 0
  have f1 := HI1.out.f 1
  have f2 := HI1.out.f 2
  have f3 := HI1.out.f 3
  go_wp2_with fail
  refine (text_j (HN1.out.isz HNL.out) (by omega) X HX.out).mono ?_
  rintro e w2 ⟨rfl, hb2⟩
  have HW2 := Lib.hid (below_on HW1.out hb2)
  have HJ2 := Lib.hid (HJ1.out.below hb2)
  skip
  clear hb2
  have k0 := HJ2.out.c0
  have k1 := HJ2.out.c1
  have k2 := HJ2.out.c2
  have k3 := HJ2.out.c3
  go_wp2_with fail
  go_ret
  rw [HL.out]
  exact ⟨rfl, HW2.out⟩
 ·rw [if_neg hd] at hl
  have HM : Hid (∀ {w : World} {s t : Bool} {A B : Option Addr} {n c m d : Nat}, OneQ w s A n c t B m d p → (0 : Int) < (m : Int) ∧ OneZ w t B m d (p.den : Int)) := by
   intro w s t A B n c m d h
   have e := h.em
   unfold dden at e
   rw [if_neg hd] at e
   have hne : (dig p.den).length ≠ 0 := fun h2 => p.den_nz (dig_nil_iff.1 h2)
   refine ⟨by omega, ?_, by rw [e, den_zl], ?_, h.cap2⟩
   ·rw [h.et]; unfold zneg; exact (decide_eq_false (by omega)).symm
   ·have h5 := h.den
    unfold dden at h5
    rw [if_neg hd] at h5
    rw [Int.natAbs_natCast]; exact h5
  obtain ⟨U, hU⟩ : ∃ U, X ++ [47] = U := ⟨_, rfl⟩
  have hUl : U.length = X.length + 1 := by rw [← hU]; simp
  have hUY : U ++ Y = l := by rw [← hl, ← hU]; simp
  have c1 := cat_any hU
  have c2 := cat_any hUY
  have b1 : ¬ (9223372036854775807 < X.length + 1) := by omega
  have b2 : ¬ (9223372036854775807 < U.length + Y.length) := by omega
  clear h1 hql h2 h3 h4 hX hY hXl hYl hl hd hU hUl hUY
  go_enter Tryz.func49, Tryz.ntmps49
  go_wp2_with fail
  refine (norm_q HP.out hk (by omega)).mono ?_
  rintro e w1 ⟨s1, A1, n1, c1', t1, B1, m1, d1, rfl, h1, hb1⟩
  obtain ⟨hm0, hden⟩ := HM.out h1
  have HW1 := Lib.hid (below_put4 (s' := s1) (A' := A1) (n' := n1) (c' := c1') (t' := t1) (B' := B1) (m' := m1) (d' := d1) (below_on HW.out hb1) (Nat.le_refl w.heap.size))
  have HI1 := Lib.hid (HI.out.below hb1)
  have HN1 := Lib.hid (h1.top.on4 (s' := s1) (A' := A1) (n' := n1) (c' := c1') (t' := t1) (B' := B1) (m' := m1) (d' := d1) HI1.out.bx)
  have HJ1 := Lib.hid (HI1.out.put (s' := s1) (A' := A1) (n' := n1) (c' := c1') (t' := t1) (B' := B1) (m' := m1) (d' := d1))
  have HD1 := Lib.hid (hden.on4 (s' := s1) (A' := A1) (n' := n1) (c' := c1') (t' := t1) (B' := B1) (m' := m1) (d' := d1) HI1.out.bx)
  clear hden
  clear h1 hb1
  have o0 := HI1.out.c0
  have o1 := HI1.out.c1
  have o2 := HI1.out.c2
  have o3 := HI1.out.c3
  have f0 := HI1.out.f 0
  have f1 := HI1.out.f 1
  have f2 := HI1.out.f 2
  have f3 := HI1.out.f 3
  go_wp2_with fail
  refine (text_j (HN1.out.isz HNL.out) (by omega) X HX.out).mono ?_
  rintro e w2 ⟨rfl, hb2⟩
  have HW2 := Lib.hid (below_on HW1.out hb2)
  have HJ2 := Lib.hid (HJ1.out.below hb2)
  have HD2 := Lib.hid (HD1.out.below hb2)
  clear hb2
  have k0 := HJ2.out.c0
  have k1 := HJ2.out.c1
  have k2 := HJ2.out.c2
  have k3 := HJ2.out.c3
  go_upto_region 4 with fail
  clear o0 o1 o2 o3 f0 f1 f2 f3
  go_wp2_with fail
  refine (text_j (HD2.out.isz HDL.out) (by omega) Y HY.out).mono ?_
  rintro e w3 ⟨rfl, hb3⟩
  have HW3 := Lib.hid (below_on HW2.out hb3)
  clear hb3
  go_wp2_with fail
  go_ret
  exact ⟨rfl, HW3.out⟩
end Go.Proofs.YtbbncggaaibheaaGreatDoor.Q.P
namespace Go.Proofs.YtbbncggaaibheaaGreatDoor.Q.P
open Go.RowKit
open Go.Proofs.YtbbncggaaibheaaGreatDoor.D (parseV RetPZ signed behind isNumB dnum)
theorem parse_j (w : World) (l : List UInt8) (z code : Int) (hz : parseV l = (z, code)) (hl : l.length ≤ 2000) :
  Calls Tryz.prog 99 #[.string ⟨l.toArray⟩] w (RetZE w z code) := by
 refine (D.rparse_any w l z code hz hl).mono ?_
 rintro e w' ⟨A, c, rfl, hc, hn, hb⟩
 exact ⟨_, _, _, _, rfl, ⟨rfl, rfl, hn, hc⟩, hb⟩
theorem parse_pos {l : List UInt8} {z code : Int} (hp : Lib.hasPrefix l [45] = false) (h : parseV l = (z, code)) : 0 ≤ z := by
 unfold parseV at h
 have hs : signed l = false := hp
 rw [hs] at h
 split at h
 ·split at h
  ·have := congrArg Prod.fst h; simp at this; omega
  ·have := congrArg Prod.fst h; simp [zv] at this; omega
 ·have := congrArg Prod.fst h; simp at this; omega
def atOf (l : List UInt8) (k : Nat) : Nat := k + ((l.drop k).takeWhile (fun c => !(c == 47))).length
theorem atOf_end (l : List UInt8) : atOf l l.length = l.length := by unfold atOf; simp
theorem atOf_hit {l : List UInt8} {i : Nat} {y : UInt8} (h : l[i]? = some y) (hy : y = 47) : atOf l i = i := by
 obtain ⟨hi, e⟩ := List.getElem?_eq_some_iff.1 h
 unfold atOf
 rw [List.drop_eq_getElem_cons hi, e, hy]
 simp
theorem atOf_miss {l : List UInt8} {i : Nat} {y : UInt8} (h : l[i]? = some y) (hy : y ≠ 47) : atOf l i = atOf l (i + 1) := by
 obtain ⟨hi, e⟩ := List.getElem?_eq_some_iff.1 h
 unfold atOf
 rw [List.drop_eq_getElem_cons hi, e, List.takeWhile_cons_of_pos (by simp [hy]), List.length_cons]
 omega
theorem atOf_none {l : List UInt8} (h : slashAt l = none) : atOf l 0 = l.length := by
 unfold atOf
 rw [List.drop_zero, Nat.zero_add]
 induction l with
 | nil => rfl
 | cons c r ih =>
  unfold slashAt at h
  by_cases hc : (c == 47) = true
  ·rw [if_pos hc] at h; cases h
  ·rw [if_neg hc] at h
   cases hr : slashAt r with
   | none => rw [List.takeWhile_cons_of_pos (by simpa using hc), List.length_cons, ih hr, List.length_cons]
   | some p => rw [hr] at h; cases h
theorem atOf_some {l a b : List UInt8} (h : slashAt l = some (a, b)) : atOf l 0 = a.length := by
 unfold atOf
 rw [List.drop_zero, Nat.zero_add]
 induction l generalizing a b with
 | nil => cases h
 | cons c r ih =>
  unfold slashAt at h
  by_cases hc : (c == 47) = true
  ·rw [if_pos hc] at h
   obtain ⟨rfl, rfl⟩ : [] = a ∧ r = b := by simpa using h
   rw [List.takeWhile_cons_of_neg (by simpa using hc)]
  ·rw [if_neg hc] at h
   cases hr : slashAt r with
   | none => rw [hr] at h; cases h
   | some p =>
    obtain ⟨a1, b1⟩ := p
    rw [hr] at h
    obtain ⟨rfl, rfl⟩ : c :: a1 = a ∧ b1 = b := by simpa using h
    rw [List.takeWhile_cons_of_pos (by simpa using hc), List.length_cons, ih hr, List.length_cons]
theorem sl_all (l : List UInt8) : (⟨l.toArray⟩ : ByteArray).extract 0 l.length = ⟨l.toArray⟩ := by
 apply ByteArray.ext
 simp
theorem slash_char {y : UInt8} {n : Nat} (h : y.toNat = n) : y = 47 ↔ n = 47 := by
 rw [← h]
 exact ⟨fun e => by rw [e]; rfl, fun e => UInt8.toNat_inj.1 e⟩
theorem prefix_cons {c : UInt8} {r : List UInt8} : Lib.hasPrefix (c :: r) [45] = decide (c.toNat = 45) := by
 unfold Lib.hasPrefix
 simp only [List.isPrefixOf, Bool.and_true]
 by_cases h : c = 45
 ·subst h; rfl
 ·have h1 : ((45 : UInt8) == c) = false := by rw [beq_eq_false_iff_ne]; exact fun e => h e.symm
  rw [h1]
  exact (decide_eq_false (p := c.toNat = 45) (fun e => h (UInt8.toNat_inj.1 e))).symm
set_option maxRecDepth 100000 in
set_option maxHeartbeats 4000000 in
theorem parse_q (w : World) (l : List UInt8) (q : Rat) (code : Int) (hq : qparse l = (q, code)) (hl : l.length ≤ 1300) :
  Calls Tryz.prog 50 #[.string ⟨l.toArray⟩] w (RetQE w q code) := by
 obtain ⟨a, b, hab⟩ : ∃ a b, (slashAt l).getD (l, [49]) = (a, b) := ⟨_, _, rfl⟩
 have hlen : a.length ≤ 1300 ∧ b.length ≤ 1301 := by
  cases hs : slashAt l with
  | none => rw [hs] at hab; obtain ⟨rfl, rfl⟩ : l = a ∧ [49] = b := by simpa using hab
            exact ⟨hl, by simp⟩
  | some p =>
   obtain ⟨a1, b1⟩ := p
   rw [hs] at hab
   obtain ⟨rfl, rfl⟩ : a1 = a ∧ b1 = b := by simpa using hab
   have := (slash_some hs).1
   have h2 : l.length = a1.length + (b1.length + 1) := by rw [this]; simp
   omega
 obtain ⟨y, e1, hp1⟩ : ∃ y e1, parseV a = (y, e1) := ⟨_, _, rfl⟩
 obtain ⟨z, e2, hp2⟩ : ∃ z e2, parseV b = (z, e2) := ⟨_, _, rfl⟩
 have hz1 := parse_size a
 have hz2 := parse_size b
 rw [hp1] at hz1
 rw [hp2] at hz2
 obtain ⟨pf, hpf⟩ : ∃ pf, Lib.hasPrefix b [45] = pf := ⟨_, rfl⟩
 unfold qparse at hq
 rw [hab] at hq
 simp only [hp1, hp2, hpf] at hq
 have HP1 := Lib.hid hp1
 have HP2 := Lib.hid hp2
 have HZ1 := Lib.hid hz1
 have HZ2 := Lib.hid hz2
 have HL1 := Lib.hid hlen.1
 have HL2 := Lib.hid hlen.2
 have HPF := Lib.hid hpf
 have HQ := Lib.hid hq
 have HS0 := Lib.hid (S0.start w)
 have HCUT : Hid (slashAt l = none ∧ a = l ∧ b = [49] ∨ slashAt l = some (a, b)) := by
  show _ ∨ _
  cases hs : slashAt l with
  | none => rw [hs] at hab; obtain ⟨rfl, rfl⟩ : l = a ∧ [49] = b := by simpa using hab
            exact .inl ⟨rfl, rfl, rfl⟩
  | some p => rw [hs] at hab; exact .inr (by rw [show p = (a, b) from hab])
 have HLL := Lib.hid hl
 clear hab hlen hp1 hp2 hz1 hz2 hpf hq hl
 have HAT : Hid (atOf l 0 = a.length) := by
  show _ = _
  rcases HCUT.out with ⟨hs, ha, hb⟩ | hs
  ·rw [ha]; exact atOf_none hs
  ·exact atOf_some hs
 have hsl : (⟨l.toArray⟩ : ByteArray).extract 0 a.length = ⟨a.toArray⟩ := by
  rcases HCUT.out with ⟨hs, ha, hb⟩ | hs
  ·rw [ha]; exact sl_all l
  ·rw [(slash_some hs).1]; exact sl_front a b
 have hal : a.length ≤ l.length := by
  rcases HCUT.out with ⟨hs, ha, hb⟩ | hs
  ·rw [ha]; exact Nat.le_refl _
  ·rw [(slash_some hs).1]; simp
 have hal0 : (0 : Int) ≤ (a.length : Int) := by omega
 have hal1 : (a.length : Int) ≤ (l.length : Int) := by omega
 have HALN := Lib.hid hal
 have t0 : IntKind.i64.wrap ((l.length : Int) - 1) = (l.length : Int) - 1 := IntWalk.i64_in _ (by have := HLL.out; omega)
 clear hal
 go_enter Tryz.func50, Tryz.ntmps50
 go_wp2_with fail
 go_loop [4, 5] (fun av iv => ∃ k : Nat, k ≤ l.length ∧ av = .int .i64 ((atOf l k : Nat) : Int) ∧ iv = .int .i64 ((k : Int) - 1)) (fun _ iv => (intOf iv + 1).toNat)
 case atStart => exact ⟨l.length, Nat.le_refl _, by rw [atOf_end], rfl⟩
 case round =>
  obtain ⟨k, hk, rfl, rfl⟩ := hrel
  rcases k with _ | i
  ·rw [HAT.out, show ((0 : Nat) : Int) - 1 = -1 from rfl]
   clear t0
   go_wp2_with fail
   refine (parse_j _ a y e1 HP1.out (by have := HL1.out; omega)).mono ?_
   rintro e w2 ⟨s1, A1, n1, c1, rfl, h2, hb2⟩
   have HS2 := Lib.hid (HS0.out.below hb2)
   have HY2 := Lib.hid (h2.isz HZ1.out)
   clear h2 hb2 HS0
   obtain ⟨W, hW⟩ : ∃ W, w2.alloc (.cells #[.bool s1, .slice A1 n1 c1] 25) = W := ⟨_, rfl⟩
   have HI3 : Hid (Ibx W w2.heap.size s1 A1 n1 c1) := by rw [← hW]; exact Ibx.new' _ _ _ _ _ _ rfl
   have HV : Hid (Below w2.heap.size w2 W) := by rw [← hW]; exact (Below.refl _ _).alloc (Nat.le_refl _) _
   have HS3 := Lib.hid (HS2.out.below HV.out)
   have HY3 := Lib.hid (HY2.out.below HV.out)
   clear HS2 HY2 HV
   go_wp2_with fail
   refine (of_j _ 1 1 rfl (by omega) (by omega)).mono ?_
   rintro e w4 ⟨s2, A2, n2, c2, rfl, h4, hb4⟩
   clear hW
   have HI4 := Lib.hid (HI3.out.below hb4)
   have HS4 := Lib.hid (HS3.out.below hb4)
   have HY4 := Lib.hid (HY3.out.below hb4)
   have HO4 := Lib.hid (h4.isz (k := 1000) (Nat.le_trans (zl_small (by omega) (by omega)) (by omega)))
   clear h4 hb4 HS3 HY3 HI3
   obtain ⟨V, hV⟩ : ∃ V, w4.alloc (.cells #[.bool s2, .slice A2 n2 c2] 25) = V := ⟨_, rfl⟩
   have HPB : Hid (PB w V w2.heap.size w4.heap.size s1 A1 n1 c1 s2 A2 n2 c2 y 1) := by
    rw [← hV]
    exact ⟨HS4.out.bel.alloc HS4.out.bel.size _, HS4.out.o.alloc _, HI4.out.alloc _, Ibx.new' _ _ _ _ _ _ rfl, HY4.out.alloc _, HO4.out.alloc _⟩
   have HNE : Hid (w2.heap.size ≠ w4.heap.size) := Nat.ne_of_lt HI4.out.lt
   have HGE : Hid (w.heap.size < w4.heap.size) := HS4.out.o.lt
   clear HS4 HI4 HY4 HO4
   go_upto_if 35 with fail
   clear hV
   go_cut [9] from 35 to 56 (fun f wx => ∃ (s' : Bool) (A' : Option Addr) (n' c' : Nat), f = .int .i64 e2 ∧ pf = false ∧ Hid (PB w wx w2.heap.size w4.heap.size s1 A1 n1 c1 s' A' n' c' y z))
   case first =>
    rcases HCUT.out with ⟨hs, ha, hb⟩ | hs
    ·obtain ⟨hz1, he2⟩ : (1 : Int) = z ∧ (0 : Int) = e2 := by
      have h := HP2.out
      rw [hb] at h
      have h2 : parseV [49] = (1, 0) := by kernel_rfl
      rw [h2] at h
      exact ⟨congrArg Prod.fst h, congrArg Prod.snd h⟩
     have hpf : pf = false := by have h := HPF.out; rw [hb] at h; rw [← h]; rfl
     have HG : Hid (pf = false ∧ (0 : Int) = e2) := ⟨hpf, he2⟩
     rw [hz1] at HPB
     have hg : ¬ ((a.length : Int) < (l.length : Int)) := by rw [ha]; omega
     clear hs ha hb hz1 he2 hpf HCUT HQ HP1 HP2
     go_wp2_with fail
     go_meet
     exact ⟨_, _, _, _, by rw [HG.out.2], HG.out.1, HPB⟩
    ·have hll := (slash_some hs).1
     have hlen : l.length = a.length + (b.length + 1) := by rw [hll]; simp
     have hg : (a.length : Int) < (l.length : Int) := by omega
     obtain ⟨J, hJ⟩ : ∃ J, a.length + 1 = J := ⟨_, rfl⟩
     have t1 : IntKind.i64.wrap ((a.length : Int) + 1) = (J : Int) := by
      have h := IntWalk.i64_in ((a.length : Int) + 1) (by have := HLL.out; omega)
      rw [h]; omega
     have hsb : (⟨l.toArray⟩ : ByteArray).extract J l.length = ⟨b.toArray⟩ := by
      have e := sl_back a b
      rw [← hll, ← hlen, hJ] at e
      exact e
     have hJ0 : (0 : Int) ≤ (J : Int) := by omega
     have hJ1 : (J : Int) ≤ (l.length : Int) := by omega
     rcases b with _ | ⟨ch, r⟩
     ·have hpf : pf = false := HPF.out.symm
      have HG := Lib.hid hpf
      have hg2 : ¬ ((J : Int) < (l.length : Int)) := by have h9 : ([] : List UInt8).length = 0 := rfl; omega
      clear hs hll hlen hJ hpf HCUT HQ HP1
      go_wp2_with fail
      refine (parse_j _ [] z e2 HP2.out (by have := HL2.out; omega)).mono ?_
      rintro e w6 ⟨s6, A6, n6, c6, rfl, h6, hb6⟩
      have HP6 := Lib.hid (HPB.out.below hb6)
      have HZ6 := Lib.hid (h6.isz HZ2.out)
      clear h6 hb6
      have r0 := HP6.out.i2.c0
      have r1 := HP6.out.i2.c1
      have fr0 := HP6.out.i2.f 0
      have fr1 := HP6.out.i2.f 1
      go_wp2_with fail
      go_meet
      exact ⟨s6, A6, n6, c6, rfl, HG.out, ⟨below_put2 HP6.out.bel (Nat.le_of_lt HGE.out), HP6.out.o.put2_far (Nat.ne_of_lt HGE.out), HP6.out.i1.put_far HNE.out, HP6.out.i2.put, HP6.out.z1.on2 HP6.out.i2.bx, HZ6.out.on2 HP6.out.i2.bx⟩⟩
     ·obtain ⟨C, hC⟩ : ∃ C, ch.toNat = C := ⟨_, rfl⟩
      have hsz : J < (⟨l.toArray⟩ : ByteArray).size := by show J < l.toArray.size; rw [List.size_toArray]; simp at hlen; omega
      have hyb (h) : (⟨l.toArray⟩ : ByteArray)[J]'h = ch := by
       have e := Lib.data_getElem? (⟨l.toArray⟩ : ByteArray) J hsz
       have e2 : l[J]? = some ch := by
        rw [hll, ← hJ, List.getElem?_append_right (by omega), show a.length + 1 - a.length = 1 by omega]; rfl
       have e3 := e2.symm.trans e
       exact (Option.some.inj e3).symm
      have hg2 : (J : Int) < (l.length : Int) := by rw [hlen, ← hJ, List.length_cons]; omega
      have hpf := HPF.out
      rw [prefix_cons, hC] at hpf
      have HCC := Lib.hid hC
      by_cases h45 : C = 45
      ·have d1 : ((C : Int) == 45) = true := by rw [h45]; rfl
       have hpt : pf = true := by rw [← hpf, decide_eq_true h45]
       obtain ⟨hq1, hq2⟩ : (0 : Rat) = q ∧ (11 : Int) = code := by have h := HQ.out; rw [if_pos (.inr (.inr hpt))] at h; simpa using h
       have HRZ : Hid ((0 : Rat) = q) := hq1
       subst hq2
       clear hs hll hlen hJ hpf hpt h45 HCUT HQ HP1 hq1
       go_upto_region 12 with fail
       have o0 := HPB.out.o.c0
       have o1 := HPB.out.o.c1
       have o2 := HPB.out.o.c2
       have o3 := HPB.out.o.c3
       have f0 := HPB.out.o.f 0
       have f1 := HPB.out.o.f 1
       have f2 := HPB.out.o.f 2
       have f3 := HPB.out.o.f 3
       go_wp2_with fail
       refine bodyPost_ret (v := .tuple #[.agg #[.bool false, .slice none 0 0, .bool false, .slice none 0 0], .int .i64 11]) (by simp [results, Tryz.results50, go_sem, o0, o1, o2, o3]) rfl ?_
       exact HRZ.out ▸ retqe_put (oneq_zero _ 0 0) HPB.out.o (Nat.le_refl _) HPB.out.bel
      ·have d1 : ((C : Int) == 45) = false := by rw [beq_eq_false_iff_ne]; omega
       have hpf2 : pf = false := by rw [← hpf, decide_eq_false h45]
       have HG := Lib.hid hpf2
       clear hs hll hlen hJ hpf hpf2 h45 HCUT HQ HP1
       go_wp2_with fail
       refine (parse_j _ (ch :: r) z e2 HP2.out (by have := HL2.out; omega)).mono ?_
       rintro e w6 ⟨s6, A6, n6, c6, rfl, h6, hb6⟩
       have HP6 := Lib.hid (HPB.out.below hb6)
       have HZ6 := Lib.hid (h6.isz HZ2.out)
       clear h6 hb6
       have r0 := HP6.out.i2.c0
       have r1 := HP6.out.i2.c1
       have fr0 := HP6.out.i2.f 0
       have fr1 := HP6.out.i2.f 1
       go_wp2_with fail
       go_meet
       exact ⟨s6, A6, n6, c6, rfl, HG.out, ⟨below_put2 HP6.out.bel (Nat.le_of_lt HGE.out), HP6.out.o.put2_far (Nat.ne_of_lt HGE.out), HP6.out.i1.put_far HNE.out, HP6.out.i2.put, HP6.out.z1.on2 HP6.out.i2.bx, HZ6.out.on2 HP6.out.i2.bx⟩⟩
   case rest =>
    clear HPB HAT
    obtain ⟨s2', A2', n2', c2', rfl, hpf, HPB⟩ := hcut
    have HQ2 := HQ.out
    have HZN : Hid (0 ≤ z) := parse_pos (HPF.out.trans hpf) HP2.out
    subst hpf
    by_cases h11 : e1 = 11 ∨ e2 = 11
    ·obtain ⟨hq1, hq2⟩ : (0 : Rat) = q ∧ (11 : Int) = code := by rw [if_pos (by rcases h11 with h | h; exact .inl h; exact .inr (.inl h))] at HQ2; simpa using HQ2
     have HRZ : Hid ((0 : Rat) = q) := hq1
     subst hq2
     by_cases x1 : e1 = 11
     ·have z1 : (e1 == 11) = true := beq_iff_eq.2 x1
      clear x1 h11 hq1 HQ2
      go_upto_region 15 with fail
      have o0 := HPB.out.o.c0
      have o1 := HPB.out.o.c1
      have o2 := HPB.out.o.c2
      have o3 := HPB.out.o.c3
      have f0 := HPB.out.o.f 0
      have f1 := HPB.out.o.f 1
      have f2 := HPB.out.o.f 2
      have f3 := HPB.out.o.f 3
      go_wp2_with fail
      refine bodyPost_ret (v := .tuple #[.agg #[.bool false, .slice none 0 0, .bool false, .slice none 0 0], .int .i64 11]) (by simp [results, Tryz.results50, go_sem, o0, o1, o2, o3]) rfl ?_
      exact HRZ.out ▸ retqe_put (oneq_zero _ 0 0) HPB.out.o (Nat.le_refl _) HPB.out.bel
     ·have z1 : (e1 == 11) = false := beq_eq_false_iff_ne.2 x1
      have x2 : e2 = 11 := by rcases h11 with h | h; exact absurd h x1; exact h
      have z2 : (e2 == 11) = true := beq_iff_eq.2 x2
      clear x1 x2 h11 hq1 HQ2
      go_upto_region 15 with fail
      have o0 := HPB.out.o.c0
      have o1 := HPB.out.o.c1
      have o2 := HPB.out.o.c2
      have o3 := HPB.out.o.c3
      have f0 := HPB.out.o.f 0
      have f1 := HPB.out.o.f 1
      have f2 := HPB.out.o.f 2
      have f3 := HPB.out.o.f 3
      go_wp2_with fail
      refine bodyPost_ret (v := .tuple #[.agg #[.bool false, .slice none 0 0, .bool false, .slice none 0 0], .int .i64 11]) (by simp [results, Tryz.results50, go_sem, o0, o1, o2, o3]) rfl ?_
      exact HRZ.out ▸ retqe_put (oneq_zero _ 0 0) HPB.out.o (Nat.le_refl _) HPB.out.bel
    ·have x1 : e1 ≠ 11 := fun h => h11 (.inl h)
     have x2 : e2 ≠ 11 := fun h => h11 (.inr h)
     have z1 : (e1 == 11) = false := beq_eq_false_iff_ne.2 x1
     have z2 : (e2 == 11) = false := beq_eq_false_iff_ne.2 x2
     rw [if_neg (by rintro (h | h | h); exact x1 h; exact x2 h; cases h)] at HQ2
     by_cases h0 : e1 ≠ 0 ∨ e2 ≠ 0
     ·obtain ⟨hq1, hq2⟩ : (0 : Rat) = q ∧ (3 : Int) = code := by rw [if_pos h0] at HQ2; simpa using HQ2
      have HRZ : Hid ((0 : Rat) = q) := hq1
      subst hq2
      by_cases y1 : e1 = 0
      ·have y2 : e2 ≠ 0 := by rcases h0 with h | h; exact absurd y1 h; exact h
       have g1 : (e1 == 0) = true := beq_iff_eq.2 y1
       have g2 : (e2 == 0) = false := beq_eq_false_iff_ne.2 y2
       have g3 : (e1 != 0) = false := by rw [y1]; rfl
       have g4 : (e2 != 0) = true := bne_iff_ne.2 y2
       clear x1 x2 h11 hq1 HQ2 h0 y1 y2
       go_upto_region 17 with fail
       have o0 := HPB.out.o.c0
       have o1 := HPB.out.o.c1
       have o2 := HPB.out.o.c2
       have o3 := HPB.out.o.c3
       have f0 := HPB.out.o.f 0
       have f1 := HPB.out.o.f 1
       have f2 := HPB.out.o.f 2
       have f3 := HPB.out.o.f 3
       go_wp2_with fail
       refine bodyPost_ret (v := .tuple #[.agg #[.bool false, .slice none 0 0, .bool false, .slice none 0 0], .int .i64 3]) (by simp [results, Tryz.results50, go_sem, o0, o1, o2, o3]) rfl ?_
       exact HRZ.out ▸ retqe_put (oneq_zero _ 0 0) HPB.out.o (Nat.le_refl _) HPB.out.bel
      ·have g1 : (e1 == 0) = false := beq_eq_false_iff_ne.2 y1
       have g3 : (e1 != 0) = true := bne_iff_ne.2 y1
       clear x1 x2 h11 hq1 HQ2 h0 y1
       go_upto_region 17 with fail
       have o0 := HPB.out.o.c0
       have o1 := HPB.out.o.c1
       have o2 := HPB.out.o.c2
       have o3 := HPB.out.o.c3
       have f0 := HPB.out.o.f 0
       have f1 := HPB.out.o.f 1
       have f2 := HPB.out.o.f 2
       have f3 := HPB.out.o.f 3
       go_wp2_with fail
       refine bodyPost_ret (v := .tuple #[.agg #[.bool false, .slice none 0 0, .bool false, .slice none 0 0], .int .i64 3]) (by simp [results, Tryz.results50, go_sem, o0, o1, o2, o3]) rfl ?_
       exact HRZ.out ▸ retqe_put (oneq_zero _ 0 0) HPB.out.o (Nat.le_refl _) HPB.out.bel
     ·have y1 : e1 = 0 := by rcases Decidable.em (e1 = 0) with h | h; exact h; exact absurd (.inl h) h0
      have y2 : e2 = 0 := by rcases Decidable.em (e2 = 0) with h | h; exact h; exact absurd (.inr h) h0
      rw [if_neg h0] at HQ2
      subst y1
      subst y2
      clear x1 x2 z1 z2 h11 h0
      have k2 := HPB.out.i2.c0
      have k3 := HPB.out.i2.c1
      by_cases hz : z = 0
      ·obtain ⟨hq1, hq2⟩ : (0 : Rat) = q ∧ (10 : Int) = code := by rw [if_pos hz] at HQ2; simpa using HQ2
       have HRZ : Hid ((0 : Rat) = q) := hq1
       have HSG : Hid (z.sign = 0) := by show _ = _; rw [hz]; rfl
       subst hq2
       clear hq1 HQ2 hz
       go_wp2_with fail
       refine (sign_j HPB.out.z2 (by omega) 0 HSG.out).mono ?_
       rintro e w6 ⟨rfl, hb6⟩
       have HPC := Lib.hid (HPB.out.below hb6)
       clear hb6 k2 k3
       have o0 := HPC.out.o.c0
       have o1 := HPC.out.o.c1
       have o2 := HPC.out.o.c2
       have o3 := HPC.out.o.c3
       have f0 := HPC.out.o.f 0
       have f1 := HPC.out.o.f 1
       have f2 := HPC.out.o.f 2
       have f3 := HPC.out.o.f 3
       go_wp2_with fail
       refine bodyPost_ret (v := .tuple #[.agg #[.bool false, .slice none 0 0, .bool false, .slice none 0 0], .int .i64 10]) (by simp [results, Tryz.results50, go_sem, o0, o1, o2, o3]) rfl ?_
       exact HRZ.out ▸ retqe_put (oneq_zero _ 0 0) HPC.out.o (Nat.le_refl _) HPC.out.bel
      ·obtain ⟨hq1, hq2⟩ : Rat.divInt y z = q ∧ (0 : Int) = code := by rw [if_neg hz] at HQ2; simpa using HQ2
       have hzp : 0 < z := by have := HZN.out; omega
       have HSG : Hid (z.sign = 1) := Int.sign_eq_one_of_pos hzp
       have HRQ := Lib.hid hq1
       subst hq2
       clear hq1 HQ2 hz
       go_wp2_with fail
       refine (sign_j HPB.out.z2 (by omega) 1 HSG.out).mono ?_
       rintro e w6 ⟨rfl, hb6⟩
       have HPC := Lib.hid (HPB.out.below hb6)
       clear hb6 k2 k3
       have k0 := HPC.out.i1.c0
       have k1 := HPC.out.i1.c1
       have k2 := HPC.out.i2.c0
       have k3 := HPC.out.i2.c1
       go_wp2_with fail
       refine (lowest_q HPC.out.z1 HPC.out.z2 (by omega) (by omega) hzp HRQ.out).mono ?_
       rintro e w7 ⟨s7, A7, n7, c7, t7, B7, m7, d7, rfl, h7, hb7⟩
       have HPD := Lib.hid (HPC.out.below hb7)
       have HR7 := Lib.hid h7
       clear h7 hb7 k0 k1 k2 k3
       have o0 := HPD.out.o.c0
       have o1 := HPD.out.o.c1
       have o2 := HPD.out.o.c2
       have o3 := HPD.out.o.c3
       have f0 := HPD.out.o.f 0
       have f1 := HPD.out.o.f 1
       have f2 := HPD.out.o.f 2
       have f3 := HPD.out.o.f 3
       go_wp2_with fail
       refine bodyPost_ret (v := .tuple #[.agg #[.bool s7, .slice A7 n7 c7, .bool t7, .slice B7 m7 d7], .int .i64 0]) (by simp [results, Tryz.results50, go_sem, o0, o1, o2, o3]) rfl ?_
       exact retqe_put HR7.out HPD.out.o (Nat.le_refl _) HPD.out.bel
  ·have e0 : ((i + 1 : Nat) : Int) - 1 = (i : Int) := by omega
   rw [e0]
   have hiL : i < l.length := by omega
   have hi0 : (0 : Int) ≤ (i : Int) := by omega
   have hi1 : (i : Int) < (l.length : Int) := by omega
   have hsz : i < (⟨l.toArray⟩ : ByteArray).size := by show i < l.toArray.size; rw [List.size_toArray]; exact hiL
   obtain ⟨u, hu⟩ : ∃ u : UInt8, (⟨l.toArray⟩ : ByteArray)[i]'hsz = u := ⟨_, rfl⟩
   have hul : l[i]? = some u := by rw [← hu]; exact Lib.data_getElem? _ i hsz
   have hyb (h) : (⟨l.toArray⟩ : ByteArray)[i]'h = u := hu
   have t1 : IntKind.i64.wrap ((i : Int) - 1) = (i : Int) - 1 := IntWalk.i64_in _ (by have := HLL.out; omega)
   obtain ⟨C, hC⟩ : ∃ C, u.toNat = C := ⟨_, rfl⟩
   have hiff := slash_char hC
   obtain ⟨at1, hat1⟩ : ∃ at1, atOf l (i + 1) = at1 := ⟨_, rfl⟩
   rw [hat1]
   have HM : Hid (u ≠ 47 → atOf l i = at1) := fun h => by rw [← hat1]; exact atOf_miss hul h
   have HH : Hid (u = 47 → atOf l i = i) := fun h => atOf_hit hul h
   clear hu hul hat1 e0 t0
   by_cases h47 : C = 47
   ·have d1 : ((C : Int) == 47) = true := by rw [h47]; rfl
    have HE : Hid (atOf l i = i) := HH.out (hiff.2 h47)
    clear h47 hiff
    go_wp2_with fail
    go_round
    case rel => exact ⟨i, by omega, by rw [HE.out], rfl⟩
    case measure => first | (simp [intOf]; done) | (simp [intOf]; omega)
   ·have d1 : ((C : Int) == 47) = false := by rw [beq_eq_false_iff_ne]; omega
    have HE : Hid (atOf l i = at1) := HM.out (fun h => h47 (hiff.1 h))
    clear h47 hiff
    go_wp2_with fail
    go_round
    case rel => exact ⟨i, by omega, by rw [HE.out], rfl⟩
    case measure => first | (simp [intOf]; done) | (simp [intOf]; omega)
end Go.Proofs.YtbbncggaaibheaaGreatDoor.Q.P
