/- digits.Text, walked. -/
import Derived.Test.YtginajegbknfhaaDoorDPre
import Derived.Test.YtginajegbknfhaaDoorWholeI
import Derived.Laws.IdiomStrings
namespace Go.Proofs.YtginajegbknfhaaDoor.D
open Go.RowKit

theorem under_str : Tryd.prog.underlying 9 = some .string := by kernel_rfl
theorem under_b : Tryd.prog.underlying 5 = some (.int .u8) := by kernel_rfl
/-- An integer's text. -/
def textOf (z : Int) : List UInt8 := if z = 0 then [48] else if z < 0 then 45 :: Lib.decDigits z.natAbs else Lib.decDigits z.natAbs
theorem dg_top {v : Nat} (h : 0 < v) : ∃ d r, Lib.decDigits v = d :: r ∧ d ≠ 48 := by
  induction v using Nat.strongRecOn with
  | _ v ih =>
    by_cases h1 : v < 10
    · refine ⟨_, [], Lib.decDigits_one h1, ?_⟩
      intro e
      have e2 := congrArg UInt8.toNat e
      simp at e2
      omega
    · obtain ⟨d, r, e, hd⟩ := ih (v / 10) (by omega) (by omega)
      refine ⟨d, r ++ [UInt8.ofNat (48 + v % 10)], ?_, hd⟩
      rw [Lib.decDigits, dif_neg h1, e]
      rfl
/-- What is left of the digits without the noughts ahead. -/
def sizeText (n : Nat) : List UInt8 := if n = 0 then [] else Lib.decDigits n
theorem trim_rep (k : Nat) (l : List UInt8) : Lib.trimLeftB (List.replicate k 48 ++ l) 48 = Lib.trimLeftB l 48 := by
  unfold Lib.trimLeftB
  induction k with
  | zero => rfl
  | succ k ih =>
    rw [List.replicate_succ, List.cons_append, List.dropWhile_cons]
    simp [ih]
theorem nd_le {n k : Nat} (hk : 0 < k) (h : n < 10 ^ k) : Lib.nDigits n ≤ k := by
  induction k generalizing n with
  | zero => omega
  | succ k ih =>
    by_cases h1 : n < 10
    · rw [Lib.nDigits_small h1]; omega
    · rw [Lib.nDigits_big h1]
      have hk0 : 0 < k := by
        rcases Nat.eq_zero_or_pos k with e | e
        · subst e; simp at h; omega
        · exact e
      have := ih hk0 (n := n / 10) (by rw [Nat.pow_succ] at h; omega)
      omega
theorem trim_pad {k n : Nat} (hk : 0 < k) (h : n < 10 ^ k) : Lib.trimLeftB (pad k n) 48 = sizeText n := by
  unfold sizeText
  by_cases h0 : n = 0
  · subst h0
    rw [if_pos rfl, pad_nought]
    have := trim_rep k []
    rw [List.append_nil] at this
    rw [this]; rfl
  · rw [if_neg h0, pad_dec (nd_le hk h), trim_rep]
    obtain ⟨d, r, e, hd⟩ := dg_top (Nat.pos_of_ne_zero h0)
    rw [e]
    unfold Lib.trimLeftB
    rw [List.dropWhile_cons, if_neg (by simpa using hd)]
theorem pow_cmp {L k : Nat} (h : L ≤ k) : B64 ^ L ≤ 10 ^ (64 * k) := by
  rw [B64_pow, ← Nat.pow_mul]
  exact Nat.le_trans (Nat.pow_le_pow_left (by omega) _) (Nat.pow_le_pow_right (by omega) (by omega))
theorem sizeText_len {xs : List Nat} (hd : Digs xs) (h : xs.length ≤ 1000) : (sizeText (val xs)).length ≤ 64000 := by
  have h1 := val_lt hd
  obtain ⟨K, hK⟩ : ∃ K, 1000 = K := ⟨_, rfl⟩
  have h2 := pow_cmp (show xs.length ≤ K by omega)
  have h3 : 64 * K = 64000 := by omega
  unfold sizeText
  split
  · exact Nat.zero_le _
  · rw [Lib.decDigits_length]
    exact Nat.le_trans (nd_le (by omega) (Nat.lt_of_lt_of_le h1 h2)) (Nat.le_of_eq h3)
theorem textOf_zero : textOf 0 = [48] := rfl
theorem textOf_neg {z : Int} (h : z < 0) : textOf z = 45 :: sizeText z.natAbs := by unfold textOf sizeText; rw [if_neg (by omega), if_pos h, if_neg (by omega)]
theorem textOf_pos {z : Int} (h : 0 < z) : textOf z = sizeText z.natAbs := by unfold textOf sizeText; rw [if_neg (by omega), if_neg (by omega), if_neg (by omega)]

/-- powersFor, in the form in which appendDigits wants it. -/
def RetPw (w : World) (n : Nat) (e : Ending) (w' : World) : Prop :=
  ∃ g k cp, e = .returned (.slice (some ⟨g, 0, none⟩) k cp) ∧ 0 < k ∧ k ≤ cp ∧ PwS w' g k ∧ n < PW k ∧ 2 ^ k ≤ 2100 ∧ Below w.heap.size w w'
theorem powers_at (w : World) (A : Option Addr) (c : Nat) (xs : List Nat) (ha : Num w A xs) (hn : xs.length ≤ 1000) (hc : xs.length ≤ c) :
    Calls Tryd.prog 33 #[.slice A xs.length c] w (RetPw w (val xs)) := by
  refine (powers_any w A c xs ha hn hc).mono ?_
  rintro e w' ⟨v, vs, rfl, ho, hp, h1, h2, hb⟩
  have hpos := ho.pos
  rcases ho.row.2 with ⟨_, h0⟩ | ⟨g, cap, cur, rfl, hbg, hgc, hnc, hcm, hcs, htake⟩
  · omega
  · refine ⟨g, vs.length, cap, rfl, hpos, hnc, ?_, h1, h2, hb⟩
    intro i hi
    obtain ⟨A, c, k1, k2, k3⟩ := hp i hi
    refine ⟨A, c, ?_, k2, k3⟩
    have h := ho.row.cells (g := g) rfl i _ k1
    have hadd : (⟨g, 0, none⟩ : Addr).add i = ⟨g, i, none⟩ := by unfold Addr.add; split <;> simp_all
    rw [hadd] at h
    exact h
/-- appendDigits from nothing, and what its bytes are as a text. -/
theorem adig_nil (w : World) (A : Option Addr) (c s g k cp : Nat) (xs : List Nat) (hxs : val xs = s) (hxl : xs.length ≤ 100000) (ha : Num w A xs) (hs : s < PW k) (hc : xs.length ≤ c) (hk : 2 ^ k ≤ 2100) (hk0 : 0 < k) (hp : PwS w g k) (hcp : k ≤ cp) (htab : Tab w) :
    Calls Tryd.prog 32 #[.slice none 0 0, .slice A xs.length c, .slice (some ⟨g, 0, none⟩) k cp] w (fun e w' => ∃ b n m l, e = .returned (.slice (some ⟨b, 0, none⟩) n m) ∧ (convert 52 9 (.slice (some ⟨b, 0, none⟩) n m)).run Tryd.prog w' = .ok (.string ⟨l.toArray⟩) w' ∧ Lib.trimLeftB l 48 = sizeText s ∧ Below w.heap.size w w') := by
  obtain ⟨k, rfl⟩ : ∃ j, k = j + 1 := ⟨k - 1, by omega⟩
  have hpw := Nat.two_pow_pos (k + 1)
  refine (adig_step (adig_any k) hk w w.heap.size (.slice none 0 0) [] A c s g cp xs hxs hxl (Own.nil _ _) (Nat.le_refl _) ha hs hc hp hcp htab (by simp; omega)).mono ?_
  rintro e w' ⟨v, rfl, ho, hf⟩
  rw [List.nil_append] at ho
  have hpl := pad_length (19 * 2 ^ (k + 1)) s
  rcases ho.row.2 with ⟨_, h0⟩ | ⟨b, cap, cur, rfl, hbg, hgc, hnc, hcm, hcs, htake⟩
  · omega
  · refine ⟨b, _, cap, pad (19 * 2 ^ (k + 1)) s, rfl, ?_, trim_pad (by omega) hs, ⟨hf.g.os, hf.g.tape, hf.g.output, hf.g.size, fun i hi => hf.g.block i hi (by simp [Value.ownBlock])⟩⟩
    refine run_convert_bytes_back w' _ _ _ ⟨b, 0, none⟩ cap _ under_u8s under_b under_str ?_
    intro j hj
    exact ho.row.cells (g := b) rfl j _ (by unfold Lib.strCells; simp [hj])

theorem trim_at (w : World) (l d : List UInt8) (h : Lib.trimLeftB l 48 = d) :
    Calls Tryd.prog 31 #[.string ⟨l.toArray⟩, .string ⟨#[48]⟩] w fun e w' => e = .returned (.string ⟨d.toArray⟩) ∧ w = w' := by
  refine (Tryd.strings_TrimLeft_one ⟨l.toArray⟩ 48 (by decide) w).mono ?_
  rintro e w' ⟨he, hw⟩
  refine ⟨?_, hw.symm⟩
  rw [he, ← h]
/-- A text handed back. -/
theorem rets_of {w w' : World} {l m : List UInt8} (e : l = m) (hb : Below w.heap.size w w') : RetS w m (.returned (.string ⟨l.toArray⟩)) w' := ⟨by rw [e], hb⟩

/-- An operation behind a name: it is not tried ahead of its turn. -/
def hideC (o : Op) : Op := o
@[go_sem] theorem hideC_eq (o : Op) : hideC o = o := rfl
set_option maxHeartbeats 4000000 in
theorem text_any (w : World) (s : Bool) (A : Option Addr) (c : Nat) (xs : List Nat) (z : Int) (ha : Num w A xs) (hx : zv s (val xs) = z) (hn : xs.length ≤ 1000) (hc : xs.length ≤ c) (htab : Tab w) :
    Calls Tryd.prog 8 #[.agg #[.bool s, .slice A xs.length c]] w (RetS w (textOf z)) := by
  have HA := Lib.hid ha
  have HX := Lib.hid hx
  have HT := Lib.hid htab
  have hzn : z.natAbs = val xs := by rw [← hx, zv_natAbs]
  obtain ⟨m, hm⟩ : ∃ m, val xs = m := ⟨_, rfl⟩
  have HM := Lib.hid hm
  rw [hm] at hzn
  have HZ := Lib.hid hzn
  obtain ⟨D, hD⟩ : ∃ D, sizeText m = D := ⟨_, rfl⟩
  have HD := Lib.hid hD
  have hDl : D.length ≤ 64000 := by rw [← hD, ← hm]; exact sizeText_len ha.1 hn
  have hD1 : ¬ (9223372036854775807 < 1 + D.length) := by omega
  have hD2 : 1 + D.length ≤ 9223372036854775807 := by omega
  have HA0 : Hid (Num ((w.alloc (.cells #[.bool s, .slice A xs.length c] 25)).drew) A xs) := (ha.alloc _).drew
  have HT0 : Hid (Tab ((w.alloc (.cells #[.bool s, .slice A xs.length c] 25)).drew)) := htab.alloc _
  have HS0 : Hid (C2 w.heap.size (.bool s) (.slice A xs.length c) ((w.alloc (.cells #[.bool s, .slice A xs.length c] 25)).drew)) := C2.drew (C2.base _ _ _ _)
  have HB0 : Hid (Below w.heap.size w ((w.alloc (.cells #[.bool s, .slice A xs.length c] 25)).drew)) := ((Below.refl _ _).alloc (Nat.le_refl _) _).drew
  clear ha htab hm
  rcases Int.lt_trichotomy z 0 with hz | hz | hz
  · have HSG : Hid (z.sign = -1) := by show _ = _; first | exact Int.sign_eq_neg_one_of_neg hz | (rw [hz]; rfl) | exact Int.sign_eq_one_of_pos hz
    have HRES : Hid (45 :: D = textOf z) := by
      show _ = _
      rw [textOf_neg hz, hzn, hD]
    clear hz
    go_enter Tryd.func8, Tryd.ntmps8
    go_wp2_with fail
    rw [show Op.convert 52 9 (Operand.tmp 9) = hideC (Op.convert 52 9 (Operand.tmp 9)) from rfl]
    go_region_held3 (fun W => W.cell? ⟨w.heap.size, 0, none⟩ = some (.bool s) ∧ W.cell? ⟨w.heap.size, 1, none⟩ = some (.slice A xs.length c))
     (first | exact C2.below hb2 (by assumption) | exact C2.below hb1 (by assumption) | exact C2.drew (C2.base _ _ _ _) | assumption)
     (first
      | (go_at_call 31; (with_reducible refine (trim_at _ l D ?_).mono ?_); (exact htr.trans HD.out); rintro e w3 ⟨rfl, rfl⟩)
      | (go_at_call 32; (refine (adig_nil w1 A c m g k cp xs HM.out (by omega) (HA0.out.below hb1) (by rw [← HM.out]; exact hpn) hc hk2 hk0 hpw hkc (HT0.out.below hb1)).mono ?_); rintro e w2 ⟨b, n, mm, l, rfl, hcv, htr, hb2⟩; have hS2 := C2.below hb2 (C2.below hb1 HS0.out); have HN2 := Lib.hid ((HA0.out.below hb1).below hb2); have HB2 := Lib.hid (HB0.out.trans ((hb1.trans (hb2.mono hb1.size)).mono (by simp))))
      | (go_at_call 33; (with_reducible refine (powers_at _ A c xs ?_ hn hc).mono ?_); (exact HA0.out); rintro e w1 ⟨g, k, cp, rfl, hk0, hkc, hpw, hpn, hk2, hb1⟩))
    all_goals
      have c0 := hS2.1
      have c1 := hS2.2
      have HSGN := Lib.hid (sign_z w2 s A c xs z HN2.out HX.out (by omega) hc _ HSG.out)
      clear hS2 hcv htr hb2 hb1 hk2 hpn hpw hkc hk0 HA0 HT0 HS0 HB0
      go_wp2_with fail
      refine HSGN.out.mono ?_
      rintro e w4 ⟨rfl, hb4⟩
      have HB4 := Lib.hid (HB2.out.trans (hb4.mono HB2.out.size))
      clear hb4
      go_wp2_with fail
      go_ret
      exact rets_of HRES.out HB4.out
  · have HSG : Hid (z.sign = 0) := by show _ = _; first | exact Int.sign_eq_neg_one_of_neg hz | (rw [hz]; rfl) | exact Int.sign_eq_one_of_pos hz
    have HRES : Hid ([48] = textOf z) := by
      show _ = _
      rw [hz]; rfl
    clear hz
    go_enter Tryd.func8, Tryd.ntmps8
    go_wp2_with fail
    rw [show Op.convert 52 9 (Operand.tmp 9) = hideC (Op.convert 52 9 (Operand.tmp 9)) from rfl]
    go_region_held3 (fun W => W.cell? ⟨w.heap.size, 0, none⟩ = some (.bool s) ∧ W.cell? ⟨w.heap.size, 1, none⟩ = some (.slice A xs.length c))
     (first | exact C2.below hb2 (by assumption) | exact C2.below hb1 (by assumption) | exact C2.drew (C2.base _ _ _ _) | assumption)
     (first
      | (go_at_call 31; (with_reducible refine (trim_at _ l D ?_).mono ?_); (exact htr.trans HD.out); rintro e w3 ⟨rfl, rfl⟩)
      | (go_at_call 32; (refine (adig_nil w1 A c m g k cp xs HM.out (by omega) (HA0.out.below hb1) (by rw [← HM.out]; exact hpn) hc hk2 hk0 hpw hkc (HT0.out.below hb1)).mono ?_); rintro e w2 ⟨b, n, mm, l, rfl, hcv, htr, hb2⟩; have hS2 := C2.below hb2 (C2.below hb1 HS0.out); have HN2 := Lib.hid ((HA0.out.below hb1).below hb2); have HB2 := Lib.hid (HB0.out.trans ((hb1.trans (hb2.mono hb1.size)).mono (by simp))))
      | (go_at_call 33; (with_reducible refine (powers_at _ A c xs ?_ hn hc).mono ?_); (exact HA0.out); rintro e w1 ⟨g, k, cp, rfl, hk0, hkc, hpw, hpn, hk2, hb1⟩))
    all_goals
      have c0 := hS2.1
      have c1 := hS2.2
      have HSGN := Lib.hid (sign_z w2 s A c xs z HN2.out HX.out (by omega) hc _ HSG.out)
      clear hS2 hcv htr hb2 hb1 hk2 hpn hpw hkc hk0 HA0 HT0 HS0 HB0
      go_wp2_with fail
      refine HSGN.out.mono ?_
      rintro e w4 ⟨rfl, hb4⟩
      have HB4 := Lib.hid (HB2.out.trans (hb4.mono HB2.out.size))
      clear hb4
      go_wp2_with fail
      go_ret
      exact rets_of HRES.out HB4.out
  · have HSG : Hid (z.sign = 1) := by show _ = _; first | exact Int.sign_eq_neg_one_of_neg hz | (rw [hz]; rfl) | exact Int.sign_eq_one_of_pos hz
    have HRES : Hid (D = textOf z) := by
      show _ = _
      rw [textOf_pos hz, hzn, hD]
    clear hz
    go_enter Tryd.func8, Tryd.ntmps8
    go_wp2_with fail
    rw [show Op.convert 52 9 (Operand.tmp 9) = hideC (Op.convert 52 9 (Operand.tmp 9)) from rfl]
    go_region_held3 (fun W => W.cell? ⟨w.heap.size, 0, none⟩ = some (.bool s) ∧ W.cell? ⟨w.heap.size, 1, none⟩ = some (.slice A xs.length c))
     (first | exact C2.below hb2 (by assumption) | exact C2.below hb1 (by assumption) | exact C2.drew (C2.base _ _ _ _) | assumption)
     (first
      | (go_at_call 31; (with_reducible refine (trim_at _ l D ?_).mono ?_); (exact htr.trans HD.out); rintro e w3 ⟨rfl, rfl⟩)
      | (go_at_call 32; (refine (adig_nil w1 A c m g k cp xs HM.out (by omega) (HA0.out.below hb1) (by rw [← HM.out]; exact hpn) hc hk2 hk0 hpw hkc (HT0.out.below hb1)).mono ?_); rintro e w2 ⟨b, n, mm, l, rfl, hcv, htr, hb2⟩; have hS2 := C2.below hb2 (C2.below hb1 HS0.out); have HN2 := Lib.hid ((HA0.out.below hb1).below hb2); have HB2 := Lib.hid (HB0.out.trans ((hb1.trans (hb2.mono hb1.size)).mono (by simp))))
      | (go_at_call 33; (with_reducible refine (powers_at _ A c xs ?_ hn hc).mono ?_); (exact HA0.out); rintro e w1 ⟨g, k, cp, rfl, hk0, hkc, hpw, hpn, hk2, hb1⟩))
    all_goals
      have c0 := hS2.1
      have c1 := hS2.2
      have HSGN := Lib.hid (sign_z w2 s A c xs z HN2.out HX.out (by omega) hc _ HSG.out)
      clear hS2 hcv htr hb2 hb1 hk2 hpn hpw hkc hk0 HA0 HT0 HS0 HB0
      go_wp2_with fail
      refine HSGN.out.mono ?_
      rintro e w4 ⟨rfl, hb4⟩
      have HB4 := Lib.hid (HB2.out.trans (hb4.mono HB2.out.size))
      clear hb4
      go_wp2_with fail
      go_ret
      exact rets_of HRES.out HB4.out
end Go.Proofs.YtginajegbknfhaaDoor.D
