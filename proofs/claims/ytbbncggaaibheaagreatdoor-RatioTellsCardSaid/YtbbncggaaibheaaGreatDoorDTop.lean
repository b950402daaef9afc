/- DTop: several texts in one. -/
import Derived.Test.YtbbncggaaibheaaGreatDoorDPre
import Derived.Test.YtbbncggaaibheaaGreatDoorWholeI
import Derived.Laws.IdiomStrings
import Derived.Laws.RangeString
import Derived.Laws.RangeAny
import Derived.Lib.OthersKept
import Derived.Deep.LoopGhost
import Derived.Test.YtbbncggaaibheaaGreatDoorAwake
/- digits.Text, walked. -/
namespace Go.Proofs.YtbbncggaaibheaaGreatDoor.D
open Go.RowKit

theorem under_str : Tryz.prog.underlying 9 = some .string := by kernel_rfl
theorem under_b : Tryz.prog.underlying 5 = some (.int .u8) := by kernel_rfl
/-- An integer's text. -/
def textOf (z : Int) : List UInt8 := if z = 0 then [48] else if z < 0 then 45 :: Lib.decDigits z.natAbs else Lib.decDigits z.natAbs
theorem dg_top {v : Nat} (h : 0 < v) : ∃ d r, Lib.decDigits v = d :: r ∧ d ≠ 48 := by
  induction v using Nat.strongRecOn with
  | _ v ih =>
    by_cases h1 : v < 10
    · refine ⟨_, [], Lib.decDigits_one h1, ?_⟩
      intro e
      have e2 := congrArg UInt8.toNat e
      simp at e2
      omega
    · obtain ⟨d, r, e, hd⟩ := ih (v / 10) (by omega) (by omega)
      refine ⟨d, r ++ [UInt8.ofNat (48 + v % 10)], ?_, hd⟩
      rw [Lib.decDigits, dif_neg h1, e]
      rfl
/-- What is left of the digits without the noughts ahead. -/
def sizeText (n : Nat) : List UInt8 := if n = 0 then [] else Lib.decDigits n
theorem trim_rep (k : Nat) (l : List UInt8) : Lib.trimLeftB (List.replicate k 48 ++ l) 48 = Lib.trimLeftB l 48 := by
  unfold Lib.trimLeftB
  induction k with
  | zero => rfl
  | succ k ih =>
    rw [List.replicate_succ, List.cons_append, List.dropWhile_cons]
    simp [ih]
theorem nd_le {n k : Nat} (hk : 0 < k) (h : n < 10 ^ k) : Lib.nDigits n ≤ k := by
  induction k generalizing n with
  | zero => omega
  | succ k ih =>
    by_cases h1 : n < 10
    · rw [Lib.nDigits_small h1]; omega
    · rw [Lib.nDigits_big h1]
      have hk0 : 0 < k := by
        rcases Nat.eq_zero_or_pos k with e | e
        · subst e; simp at h; omega
        · exact e
      have := ih hk0 (n := n / 10) (by rw [Nat.pow_succ] at h; omega)
      omega
theorem trim_pad {k n : Nat} (hk : 0 < k) (h : n < 10 ^ k) : Lib.trimLeftB (pad k n) 48 = sizeText n := by
  unfold sizeText
  by_cases h0 : n = 0
  · subst h0
    rw [if_pos rfl, pad_nought]
    have := trim_rep k []
    rw [List.append_nil] at this
    rw [this]; rfl
  · rw [if_neg h0, pad_dec (nd_le hk h), trim_rep]
    obtain ⟨d, r, e, hd⟩ := dg_top (Nat.pos_of_ne_zero h0)
    rw [e]
    unfold Lib.trimLeftB
    rw [List.dropWhile_cons, if_neg (by simpa using hd)]
theorem pow_cmp {L k : Nat} (h : L ≤ k) : B64 ^ L ≤ 10 ^ (64 * k) := by
  rw [B64_pow, ← Nat.pow_mul]
  exact Nat.le_trans (Nat.pow_le_pow_left (by omega) _) (Nat.pow_le_pow_right (by omega) (by omega))
theorem sizeText_len {xs : List Nat} (hd : Digs xs) (h : xs.length ≤ 1000) : (sizeText (val xs)).length ≤ 64000 := by
  have h1 := val_lt hd
  obtain ⟨K, hK⟩ : ∃ K, 1000 = K := ⟨_, rfl⟩
  have h2 := pow_cmp (show xs.length ≤ K by omega)
  have h3 : 64 * K = 64000 := by omega
  unfold sizeText
  split
  · exact Nat.zero_le _
  · rw [Lib.decDigits_length]
    exact Nat.le_trans (nd_le (by omega) (Nat.lt_of_lt_of_le h1 h2)) (Nat.le_of_eq h3)
theorem textOf_zero : textOf 0 = [48] := rfl
theorem textOf_neg {z : Int} (h : z < 0) : textOf z = 45 :: sizeText z.natAbs := by unfold textOf sizeText; rw [if_neg (by omega), if_pos h, if_neg (by omega)]
theorem textOf_pos {z : Int} (h : 0 < z) : textOf z = sizeText z.natAbs := by unfold textOf sizeText; rw [if_neg (by omega), if_neg (by omega), if_neg (by omega)]

/-- powersFor, in the form in which appendDigits wants it. -/
def RetPw (w : World) (n : Nat) (e : Ending) (w' : World) : Prop :=
  ∃ g k cp, e = .returned (.slice (some ⟨g, 0, none⟩) k cp) ∧ 0 < k ∧ k ≤ cp ∧ PwS w' g k ∧ n < PW k ∧ 2 ^ k ≤ 2100 ∧ Below w.heap.size w w'
theorem powers_at (w : World) (A : Option Addr) (c : Nat) (xs : List Nat) (ha : Num w A xs) (hn : xs.length ≤ 1000) (hc : xs.length ≤ c) :
    Calls Tryz.prog 148 #[.slice A xs.length c] w (RetPw w (val xs)) := by
  refine (powers_any w A c xs ha hn hc).mono ?_
  rintro e w' ⟨v, vs, rfl, ho, hp, h1, h2, hb⟩
  have hpos := ho.pos
  rcases ho.row.2 with ⟨_, h0⟩ | ⟨g, cap, cur, rfl, hbg, hgc, hnc, hcm, hcs, htake⟩
  · omega
  · refine ⟨g, vs.length, cap, rfl, hpos, hnc, ?_, h1, h2, hb⟩
    intro i hi
    obtain ⟨A, c, k1, k2, k3⟩ := hp i hi
    refine ⟨A, c, ?_, k2, k3⟩
    have h := ho.row.cells (g := g) rfl i _ k1
    have hadd : (⟨g, 0, none⟩ : Addr).add i = ⟨g, i, none⟩ := by unfold Addr.add; split <;> simp_all
    rw [hadd] at h
    exact h
/-- appendDigits from nothing, and what its bytes are as a text. -/
theorem adig_nil (w : World) (A : Option Addr) (c s g k cp : Nat) (xs : List Nat) (hxs : val xs = s) (hxl : xs.length ≤ 100000) (ha : Num w A xs) (hs : s < PW k) (hc : xs.length ≤ c) (hk : 2 ^ k ≤ 2100) (hk0 : 0 < k) (hp : PwS w g k) (hcp : k ≤ cp) (htab : Tab w) :
    Calls Tryz.prog 147 #[.slice none 0 0, .slice A xs.length c, .slice (some ⟨g, 0, none⟩) k cp] w (fun e w' => ∃ b n m l, e = .returned (.slice (some ⟨b, 0, none⟩) n m) ∧ (convert 87 9 (.slice (some ⟨b, 0, none⟩) n m)).run Tryz.prog w' = .ok (.string ⟨l.toArray⟩) w' ∧ Lib.trimLeftB l 48 = sizeText s ∧ Below w.heap.size w w') := by
  obtain ⟨k, rfl⟩ : ∃ j, k = j + 1 := ⟨k - 1, by omega⟩
  have hpw := Nat.two_pow_pos (k + 1)
  refine (adig_step (adig_any k) hk w w.heap.size (.slice none 0 0) [] A c s g cp xs hxs hxl (Own.nil _ _) (Nat.le_refl _) ha hs hc hp hcp htab (by simp; omega)).mono ?_
  rintro e w' ⟨v, rfl, ho, hf⟩
  rw [List.nil_append] at ho
  have hpl := pad_length (19 * 2 ^ (k + 1)) s
  rcases ho.row.2 with ⟨_, h0⟩ | ⟨b, cap, cur, rfl, hbg, hgc, hnc, hcm, hcs, htake⟩
  · omega
  · refine ⟨b, _, cap, pad (19 * 2 ^ (k + 1)) s, rfl, ?_, trim_pad (by omega) hs, ⟨hf.g.os, hf.g.tape, hf.g.output, hf.g.size, fun i hi => hf.g.block i hi (by simp [Value.ownBlock])⟩⟩
    refine run_convert_bytes_back w' _ _ _ ⟨b, 0, none⟩ cap _ under_u8s under_b under_str ?_
    intro j hj
    exact ho.row.cells (g := b) rfl j _ (by unfold Lib.strCells; simp [hj])

theorem trim_at (w : World) (l d : List UInt8) (h : Lib.trimLeftB l 48 = d) :
    Calls Tryz.prog 146 #[.string ⟨l.toArray⟩, .string ⟨#[48]⟩] w fun e w' => e = .returned (.string ⟨d.toArray⟩) ∧ w = w' := by
  refine (Tryz.strings_TrimLeft_one ⟨l.toArray⟩ 48 (by decide) w).mono ?_
  rintro e w' ⟨he, hw⟩
  refine ⟨?_, hw.symm⟩
  rw [he, ← h]
/-- A text handed back. -/
theorem rets_of {w w' : World} {l m : List UInt8} (e : l = m) (hb : Below w.heap.size w w') : RetS w m (.returned (.string ⟨l.toArray⟩)) w' := ⟨by rw [e], hb⟩

/-- An operation behind a name: it is not tried ahead of its turn. -/
def hideC (o : Op) : Op := o
@[go_sem] theorem hideC_eq (o : Op) : hideC o = o := rfl
set_option maxHeartbeats 4000000 in
theorem text_any (w : World) (s : Bool) (A : Option Addr) (c : Nat) (xs : List Nat) (z : Int) (ha : Num w A xs) (hx : zv s (val xs) = z) (hn : xs.length ≤ 1000) (hc : xs.length ≤ c) (htab : Tab w) :
    Calls Tryz.prog 97 #[.agg #[.bool s, .slice A xs.length c]] w (RetS w (textOf z)) := by
  have HA := Lib.hid ha
  have HX := Lib.hid hx
  have HT := Lib.hid htab
  have hzn : z.natAbs = val xs := by rw [← hx, zv_natAbs]
  obtain ⟨m, hm⟩ : ∃ m, val xs = m := ⟨_, rfl⟩
  have HM := Lib.hid hm
  rw [hm] at hzn
  have HZ := Lib.hid hzn
  obtain ⟨D, hD⟩ : ∃ D, sizeText m = D := ⟨_, rfl⟩
  have HD := Lib.hid hD
  have hDl : D.length ≤ 64000 := by rw [← hD, ← hm]; exact sizeText_len ha.1 hn
  have hD1 : ¬ (9223372036854775807 < 1 + D.length) := by omega
  have hD2 : 1 + D.length ≤ 9223372036854775807 := by omega
  have HA0 : Hid (Num ((w.alloc (.cells #[.bool s, .slice A xs.length c] 25)).drew) A xs) := (ha.alloc _).drew
  have HT0 : Hid (Tab ((w.alloc (.cells #[.bool s, .slice A xs.length c] 25)).drew)) := htab.alloc _
  have HS0 : Hid (C2 w.heap.size (.bool s) (.slice A xs.length c) ((w.alloc (.cells #[.bool s, .slice A xs.length c] 25)).drew)) := C2.drew (C2.base _ _ _ _)
  have HB0 : Hid (Below w.heap.size w ((w.alloc (.cells #[.bool s, .slice A xs.length c] 25)).drew)) := ((Below.refl _ _).alloc (Nat.le_refl _) _).drew
  clear ha htab hm
  rcases Int.lt_trichotomy z 0 with hz | hz | hz
  · have HSG : Hid (z.sign = -1) := by show _ = _; first | exact Int.sign_eq_neg_one_of_neg hz | (rw [hz]; rfl) | exact Int.sign_eq_one_of_pos hz
    have HRES : Hid (45 :: D = textOf z) := by
      show _ = _
      rw [textOf_neg hz, hzn, hD]
    clear hz
    go_enter Tryz.func97, Tryz.ntmps97
    go_wp2_with fail
    rw [show Op.convert 87 9 (Operand.tmp 9) = hideC (Op.convert 87 9 (Operand.tmp 9)) from rfl]
    go_region_held3 (fun W => W.cell? ⟨w.heap.size, 0, none⟩ = some (.bool s) ∧ W.cell? ⟨w.heap.size, 1, none⟩ = some (.slice A xs.length c))
     (first | exact C2.below hb2 (by assumption) | exact C2.below hb1 (by assumption) | exact C2.drew (C2.base _ _ _ _) | assumption)
     (first
      | (go_at_call 146; (with_reducible refine (trim_at _ l D ?_).mono ?_); (exact htr.trans HD.out); rintro e w3 ⟨rfl, rfl⟩)
      | (go_at_call 147; (refine (adig_nil w1 A c m g k cp xs HM.out (by omega) (HA0.out.below hb1) (by rw [← HM.out]; exact hpn) hc hk2 hk0 hpw hkc (HT0.out.below hb1)).mono ?_); rintro e w2 ⟨b, n, mm, l, rfl, hcv, htr, hb2⟩; have hS2 := C2.below hb2 (C2.below hb1 HS0.out); have HN2 := Lib.hid ((HA0.out.below hb1).below hb2); have HB2 := Lib.hid (HB0.out.trans ((hb1.trans (hb2.mono hb1.size)).mono (by simp))))
      | (go_at_call 148; (with_reducible refine (powers_at _ A c xs ?_ hn hc).mono ?_); (exact HA0.out); rintro e w1 ⟨g, k, cp, rfl, hk0, hkc, hpw, hpn, hk2, hb1⟩))
    all_goals
      have c0 := hS2.1
      have c1 := hS2.2
      have HSGN := Lib.hid (sign_z w2 s A c xs z HN2.out HX.out (by omega) hc _ HSG.out)
      clear hS2 hcv htr hb2 hb1 hk2 hpn hpw hkc hk0 HA0 HT0 HS0 HB0
      go_wp2_with fail
      refine HSGN.out.mono ?_
      rintro e w4 ⟨rfl, hb4⟩
      have HB4 := Lib.hid (HB2.out.trans (hb4.mono HB2.out.size))
      clear hb4
      go_wp2_with fail
      go_ret
      exact rets_of HRES.out HB4.out
  · have HSG : Hid (z.sign = 0) := by show _ = _; first | exact Int.sign_eq_neg_one_of_neg hz | (rw [hz]; rfl) | exact Int.sign_eq_one_of_pos hz
    have HRES : Hid ([48] = textOf z) := by
      show _ = _
      rw [hz]; rfl
    clear hz
    go_enter Tryz.func97, Tryz.ntmps97
    go_wp2_with fail
    rw [show Op.convert 87 9 (Operand.tmp 9) = hideC (Op.convert 87 9 (Operand.tmp 9)) from rfl]
    go_region_held3 (fun W => W.cell? ⟨w.heap.size, 0, none⟩ = some (.bool s) ∧ W.cell? ⟨w.heap.size, 1, none⟩ = some (.slice A xs.length c))
     (first | exact C2.below hb2 (by assumption) | exact C2.below hb1 (by assumption) | exact C2.drew (C2.base _ _ _ _) | assumption)
     (first
      | (go_at_call 146; (with_reducible refine (trim_at _ l D ?_).mono ?_); (exact htr.trans HD.out); rintro e w3 ⟨rfl, rfl⟩)
      | (go_at_call 147; (refine (adig_nil w1 A c m g k cp xs HM.out (by omega) (HA0.out.below hb1) (by rw [← HM.out]; exact hpn) hc hk2 hk0 hpw hkc (HT0.out.below hb1)).mono ?_); rintro e w2 ⟨b, n, mm, l, rfl, hcv, htr, hb2⟩; have hS2 := C2.below hb2 (C2.below hb1 HS0.out); have HN2 := Lib.hid ((HA0.out.below hb1).below hb2); have HB2 := Lib.hid (HB0.out.trans ((hb1.trans (hb2.mono hb1.size)).mono (by simp))))
      | (go_at_call 148; (with_reducible refine (powers_at _ A c xs ?_ hn hc).mono ?_); (exact HA0.out); rintro e w1 ⟨g, k, cp, rfl, hk0, hkc, hpw, hpn, hk2, hb1⟩))
    all_goals
      have c0 := hS2.1
      have c1 := hS2.2
      have HSGN := Lib.hid (sign_z w2 s A c xs z HN2.out HX.out (by omega) hc _ HSG.out)
      clear hS2 hcv htr hb2 hb1 hk2 hpn hpw hkc hk0 HA0 HT0 HS0 HB0
      go_wp2_with fail
      refine HSGN.out.mono ?_
      rintro e w4 ⟨rfl, hb4⟩
      have HB4 := Lib.hid (HB2.out.trans (hb4.mono HB2.out.size))
      clear hb4
      go_wp2_with fail
      go_ret
      exact rets_of HRES.out HB4.out
  · have HSG : Hid (z.sign = 1) := by show _ = _; first | exact Int.sign_eq_neg_one_of_neg hz | (rw [hz]; rfl) | exact Int.sign_eq_one_of_pos hz
    have HRES : Hid (D = textOf z) := by
      show _ = _
      rw [textOf_pos hz, hzn, hD]
    clear hz
    go_enter Tryz.func97, Tryz.ntmps97
    go_wp2_with fail
    rw [show Op.convert 87 9 (Operand.tmp 9) = hideC (Op.convert 87 9 (Operand.tmp 9)) from rfl]
    go_region_held3 (fun W => W.cell? ⟨w.heap.size, 0, none⟩ = some (.bool s) ∧ W.cell? ⟨w.heap.size, 1, none⟩ = some (.slice A xs.length c))
     (first | exact C2.below hb2 (by assumption) | exact C2.below hb1 (by assumption) | exact C2.drew (C2.base _ _ _ _) | assumption)
     (first
      | (go_at_call 146; (with_reducible refine (trim_at _ l D ?_).mono ?_); (exact htr.trans HD.out); rintro e w3 ⟨rfl, rfl⟩)
      | (go_at_call 147; (refine (adig_nil w1 A c m g k cp xs HM.out (by omega) (HA0.out.below hb1) (by rw [← HM.out]; exact hpn) hc hk2 hk0 hpw hkc (HT0.out.below hb1)).mono ?_); rintro e w2 ⟨b, n, mm, l, rfl, hcv, htr, hb2⟩; have hS2 := C2.below hb2 (C2.below hb1 HS0.out); have HN2 := Lib.hid ((HA0.out.below hb1).below hb2); have HB2 := Lib.hid (HB0.out.trans ((hb1.trans (hb2.mono hb1.size)).mono (by simp))))
      | (go_at_call 148; (with_reducible refine (powers_at _ A c xs ?_ hn hc).mono ?_); (exact HA0.out); rintro e w1 ⟨g, k, cp, rfl, hk0, hkc, hpw, hpn, hk2, hb1⟩))
    all_goals
      have c0 := hS2.1
      have c1 := hS2.2
      have HSGN := Lib.hid (sign_z w2 s A c xs z HN2.out HX.out (by omega) hc _ HSG.out)
      clear hS2 hcv htr hb2 hb1 hk2 hpn hpw hkc hk0 HA0 HT0 HS0 HB0
      go_wp2_with fail
      refine HSGN.out.mono ?_
      rintro e w4 ⟨rfl, hb4⟩
      have HB4 := Lib.hid (HB2.out.trans (hb4.mono HB2.out.size))
      clear hb4
      go_wp2_with fail
      go_ret
      exact rets_of HRES.out HB4.out
end Go.Proofs.YtbbncggaaibheaaGreatDoor.D

/- isNumeral, walked. -/
namespace Go.Proofs.YtbbncggaaibheaaGreatDoor.D
open Go.RowKit

/-- A decimal digit. -/
def isDig (c : UInt8) : Bool := 48 ≤ c.toNat && c.toNat ≤ 57
/-- Digits and nothing else, with no 0 ahead of another one, nor behind a sign. -/
def isNumB (l : List UInt8) (b : Bool) : Bool :=
  match l with
  | [] => false
  | x :: r => !(x == 48 && (b || !r.isEmpty)) && (x :: r).all isDig
theorem isNumB_nil (b : Bool) : isNumB [] b = false := rfl

set_option maxHeartbeats 4000000 in
theorem isnum_nil (w : World) (b : Bool) : Calls Tryz.prog 129 #[.string ⟨#[]⟩, .bool b] w (RetB w false) := by
  go_enter Tryz.func129, Tryz.ntmps129
  go_wp2_with fail
  go_ret
  exact ⟨rfl, Below.refl _ _⟩
theorem dig_snoc {l : List UInt8} {i : Nat} {y : UInt8} (h : ∀ j, j < i → ∃ c, l[j]? = some c ∧ isDig c = true) (hy : l[i]? = some y) (hd : isDig y = true) : Hid (∀ j, j < i + 1 → ∃ c, l[j]? = some c ∧ isDig c = true) := by
  intro j hj
  by_cases e : j < i
  · exact h j e
  · obtain rfl : j = i := by omega
    exact ⟨y, hy, hd⟩
theorem all_of {l : List UInt8} {i : Nat} (h : ∀ j, j < i → ∃ c, l[j]? = some c ∧ isDig c = true) (hi : i = l.length) : l.all isDig = true := by
  rw [List.all_eq_true]
  intro x hx
  obtain ⟨j, hj, rfl⟩ := List.getElem_of_mem hx
  obtain ⟨c, e, hc⟩ := h j (by omega)
  rw [List.getElem?_eq_getElem hj] at e
  injection e with e
  rw [e]; exact hc
theorem not_all {l : List UInt8} {i : Nat} {y : UInt8} (hy : l[i]? = some y) (hd : isDig y = false) : l.all isDig = false := by
  rw [List.all_eq_false]
  exact ⟨y, List.mem_of_getElem? hy, by rw [hd]; decide⟩
set_option maxHeartbeats 4000000 in
theorem isnum_lead (w : World) (r : List UInt8) : Calls Tryz.prog 129 #[.string ⟨(48 :: r).toArray⟩, .bool true] w (RetB w false) := by
  have hx0 (h) : ((⟨((48 : UInt8) :: r).toArray⟩ : ByteArray)[0]'h) = 48 := rfl
  go_enter Tryz.func129, Tryz.ntmps129
  go_wp2_with fail
  go_ret
  exact ⟨rfl, Below.refl _ _⟩
set_option maxHeartbeats 4000000 in
theorem isnum_zeros (w : World) (y : UInt8) (r : List UInt8) : Calls Tryz.prog 129 #[.string ⟨(48 :: y :: r).toArray⟩, .bool false] w (RetB w false) := by
  have hx0 (h) : ((⟨((48 : UInt8) :: y :: r).toArray⟩ : ByteArray)[0]'h) = 48 := rfl
  have hl1 : (1 : Int) < ((r.length + 1 + 1 : Nat) : Int) := by omega
  go_enter Tryz.func129, Tryz.ntmps129
  go_wp2_with fail
  go_ret
  exact ⟨rfl, Below.refl _ _⟩
set_option maxRecDepth 100000 in
set_option maxHeartbeats 4000000 in
theorem isnum_zero (w : World) (x : UInt8) (r : List UInt8) (hx : x = 48) (hr : r.length = 0) : Calls Tryz.prog 129 #[.string ⟨(x :: r).toArray⟩, .bool false] w (RetB w ((x :: r).all isDig)) := by
  obtain ⟨a, ha⟩ : ∃ a, (x :: r).all isDig = a := ⟨_, rfl⟩
  rw [ha]
  have HFIN : Hid ((x :: r).all isDig = true → a = true) := fun h => ha.symm.trans h
  have HNO : Hid ((x :: r).all isDig = false → a = false) := fun h => ha.symm.trans h
  have hx0 (h) : ((⟨(x :: r).toArray⟩ : ByteArray)[0]'h) = x := rfl
  have hx48 : ((x.toNat : Int) == 48) = true := by rw [hx]; rfl
  have hlen1 : ¬ (1 : Int) < ((r.length + 1 : Nat) : Int) := by omega
  have hlen2 : ¬ (1 : Int) < (r.length : Int) + 1 := by omega
  clear ha hx hr
  go_enter Tryz.func129, Tryz.ntmps129
  go_wp2_with fail
  go_loopg [] (x :: r).length (fun g wx => ∃ i : Nat, i + g = (x :: r).length ∧ wx = w.iter ⟨(x :: r).toArray⟩ i ∧ Hid (∀ j, j < i → ∃ c, (x :: r)[j]? = some c ∧ isDig c = true))
  case atStart => exact ⟨0, by omega, rfl, fun j hj => by omega⟩
  case round =>
    obtain ⟨i, hig, rfl, HD⟩ := hrel
    cases gk with
    | zero =>
      have hnx := run_next_end (P := Tryz.prog) w ⟨(x :: r).toArray⟩ i (h := by show ¬ i < (x :: r).toArray.size; rw [List.size_toArray]; omega)
      go_wp2_with fail
      go_ret
      refine ⟨?_, (Below.refl _ _).alloc (Nat.le_refl _) _⟩
      rw [HFIN.out (all_of HD.out (by omega))]; rfl
    | succ g =>
      have hi : i < (⟨(x :: r).toArray⟩ : ByteArray).size := by show i < (x :: r).toArray.size; rw [List.size_toArray]; omega
      obtain ⟨y, hy⟩ : ∃ y : UInt8, (⟨(x :: r).toArray⟩ : ByteArray)[i]'hi = y := ⟨_, rfl⟩
      have hyl : (x :: r)[i]? = some y := by rw [← hy]; exact Lib.data_getElem? _ i hi
      have HY := Lib.hid hyl
      by_cases h128 : y.toNat < 128
      · have hnx := fun ty => run_next_ascii (P := Tryz.prog) w ⟨(x :: r).toArray⟩ i ty hi (by rw [hy]; exact h128)
        rw [hy] at hnx
        obtain ⟨Y, hY⟩ : ∃ Y, y.toNat = Y := ⟨_, rfl⟩
        have HYY := Lib.hid hY
        rw [hY] at hnx h128
        clear hyl hy hi hY
        by_cases h1 : Y < 48
        · have d1 : (Y : Int) < 48 := by omega
          have HBAD : Hid (isDig y = false) := by show _ = _; unfold isDig; rw [HYY.out]; simp; omega
          go_wp2_with fail
          go_ret
          exact ⟨by rw [HNO.out (not_all HY.out HBAD.out)]; rfl, (Below.refl _ _).alloc (Nat.le_refl _) _⟩
        · have d1 : ¬ (Y : Int) < 48 := by omega
          by_cases h2 : Y ≤ 57
          · have d2 : ¬ (57 : Int) < (Y : Int) := by omega
            have HOK : Hid (isDig y = true) := by show _ = _; unfold isDig; rw [HYY.out]; simp; omega
            go_wp2_with fail
            go_roundg g
            case measure => omega
            case rel => exact ⟨i + 1, by omega, rfl, dig_snoc HD.out HY.out HOK.out⟩
          · have d2 : (57 : Int) < (Y : Int) := by omega
            have HBAD : Hid (isDig y = false) := by show _ = _; unfold isDig; rw [HYY.out]; simp; omega
            go_wp2_with fail
            go_ret
            exact ⟨by rw [HNO.out (not_all HY.out HBAD.out)]; rfl, (Below.refl _ _).alloc (Nat.le_refl _) _⟩
      · have hnx : ∀ ty, (Instr.next (.pointer (some ⟨w.heap.size, 0, none⟩)) true ty).run Tryz.prog (w.iter ⟨(x :: r).toArray⟩ i) = _ := fun ty => run_next_any w ⟨(x :: r).toArray⟩ i ty hi
        have hr := (decode_high ⟨(x :: r).toArray⟩ i hi (by rw [hy]; omega)).1
        have HBAD : Hid (isDig y = false) := by show _ = _; unfold isDig; simp; omega
        obtain ⟨R, hR⟩ : ∃ R, (Utf8.decode ⟨(x :: r).toArray⟩ i).1 = R := ⟨_, rfl⟩
        obtain ⟨K, hK⟩ : ∃ K, i + (Utf8.decode ⟨(x :: r).toArray⟩ i).2 = K := ⟨_, rfl⟩
        rw [hR, hK] at hnx
        rw [hR] at hr
        have d1 : ¬ (R : Int) < 48 := by omega
        have d2 : (57 : Int) < (R : Int) := by omega
        clear hyl hy hi hR hK hr
        go_wp2_with fail
        go_ret
        exact ⟨by rw [HNO.out (not_all HY.out HBAD.out)]; rfl, (Below.refl _ _).alloc (Nat.le_refl _) _⟩

set_option maxRecDepth 100000 in
set_option maxHeartbeats 4000000 in
theorem isnum_go (w : World) (x : UInt8) (r : List UInt8) (b : Bool) (hx : x ≠ 48) : Calls Tryz.prog 129 #[.string ⟨(x :: r).toArray⟩, .bool b] w (RetB w ((x :: r).all isDig)) := by
  obtain ⟨a, ha⟩ : ∃ a, (x :: r).all isDig = a := ⟨_, rfl⟩
  rw [ha]
  have HFIN : Hid ((x :: r).all isDig = true → a = true) := fun h => ha.symm.trans h
  have HNO : Hid ((x :: r).all isDig = false → a = false) := fun h => ha.symm.trans h
  have hx0 (h) : ((⟨(x :: r).toArray⟩ : ByteArray)[0]'h) = x := rfl
  have hx48 : ((x.toNat : Int) == 48) = false := by
    rw [beq_eq_false_iff_ne]
    intro e
    apply hx
    apply UInt8.toNat_inj.1
    show x.toNat = 48
    omega
  clear ha hx
  go_enter Tryz.func129, Tryz.ntmps129
  go_wp2_with fail
  go_loopg [] (x :: r).length (fun g wx => ∃ i : Nat, i + g = (x :: r).length ∧ wx = w.iter ⟨(x :: r).toArray⟩ i ∧ Hid (∀ j, j < i → ∃ c, (x :: r)[j]? = some c ∧ isDig c = true))
  case atStart => exact ⟨0, by omega, rfl, fun j hj => by omega⟩
  case round =>
    obtain ⟨i, hig, rfl, HD⟩ := hrel
    cases gk with
    | zero =>
      have hnx := run_next_end (P := Tryz.prog) w ⟨(x :: r).toArray⟩ i (h := by show ¬ i < (x :: r).toArray.size; rw [List.size_toArray]; omega)
      go_wp2_with fail
      go_ret
      refine ⟨?_, (Below.refl _ _).alloc (Nat.le_refl _) _⟩
      rw [HFIN.out (all_of HD.out (by omega))]; rfl
    | succ g =>
      have hi : i < (⟨(x :: r).toArray⟩ : ByteArray).size := by show i < (x :: r).toArray.size; rw [List.size_toArray]; omega
      obtain ⟨y, hy⟩ : ∃ y : UInt8, (⟨(x :: r).toArray⟩ : ByteArray)[i]'hi = y := ⟨_, rfl⟩
      have hyl : (x :: r)[i]? = some y := by rw [← hy]; exact Lib.data_getElem? _ i hi
      have HY := Lib.hid hyl
      by_cases h128 : y.toNat < 128
      · have hnx := fun ty => run_next_ascii (P := Tryz.prog) w ⟨(x :: r).toArray⟩ i ty hi (by rw [hy]; exact h128)
        rw [hy] at hnx
        obtain ⟨Y, hY⟩ : ∃ Y, y.toNat = Y := ⟨_, rfl⟩
        have HYY := Lib.hid hY
        rw [hY] at hnx h128
        clear hyl hy hi hY
        by_cases h1 : Y < 48
        · have d1 : (Y : Int) < 48 := by omega
          have HBAD : Hid (isDig y = false) := by show _ = _; unfold isDig; rw [HYY.out]; simp; omega
          go_wp2_with fail
          go_ret
          exact ⟨by rw [HNO.out (not_all HY.out HBAD.out)]; rfl, (Below.refl _ _).alloc (Nat.le_refl _) _⟩
        · have d1 : ¬ (Y : Int) < 48 := by omega
          by_cases h2 : Y ≤ 57
          · have d2 : ¬ (57 : Int) < (Y : Int) := by omega
            have HOK : Hid (isDig y = true) := by show _ = _; unfold isDig; rw [HYY.out]; simp; omega
            go_wp2_with fail
            go_roundg g
            case measure => omega
            case rel => exact ⟨i + 1, by omega, rfl, dig_snoc HD.out HY.out HOK.out⟩
          · have d2 : (57 : Int) < (Y : Int) := by omega
            have HBAD : Hid (isDig y = false) := by show _ = _; unfold isDig; rw [HYY.out]; simp; omega
            go_wp2_with fail
            go_ret
            exact ⟨by rw [HNO.out (not_all HY.out HBAD.out)]; rfl, (Below.refl _ _).alloc (Nat.le_refl _) _⟩
      · have hnx : ∀ ty, (Instr.next (.pointer (some ⟨w.heap.size, 0, none⟩)) true ty).run Tryz.prog (w.iter ⟨(x :: r).toArray⟩ i) = _ := fun ty => run_next_any w ⟨(x :: r).toArray⟩ i ty hi
        have hr := (decode_high ⟨(x :: r).toArray⟩ i hi (by rw [hy]; omega)).1
        have HBAD : Hid (isDig y = false) := by show _ = _; unfold isDig; simp; omega
        obtain ⟨R, hR⟩ : ∃ R, (Utf8.decode ⟨(x :: r).toArray⟩ i).1 = R := ⟨_, rfl⟩
        obtain ⟨K, hK⟩ : ∃ K, i + (Utf8.decode ⟨(x :: r).toArray⟩ i).2 = K := ⟨_, rfl⟩
        rw [hR, hK] at hnx
        rw [hR] at hr
        have d1 : ¬ (R : Int) < 48 := by omega
        have d2 : (57 : Int) < (R : Int) := by omega
        clear hyl hy hi hR hK hr
        go_wp2_with fail
        go_ret
        exact ⟨by rw [HNO.out (not_all HY.out HBAD.out)]; rfl, (Below.refl _ _).alloc (Nat.le_refl _) _⟩

theorem isnum_any (w : World) (l : List UInt8) (b : Bool) : Calls Tryz.prog 129 #[.string ⟨l.toArray⟩, .bool b] w (RetB w (isNumB l b)) := by
  match l with
  | [] => exact isnum_nil w b
  | x :: r =>
    by_cases hx : x = 48
    · subst hx
      cases b with
      | true => exact isnum_lead w r
      | false =>
        match r with
        | [] => 
          have e : isNumB [48] false = ([48] : List UInt8).all isDig := by unfold isNumB; rfl
          rw [e]
          exact isnum_zero w 48 [] rfl rfl
        | y :: r => exact isnum_zeros w y r
    · have e : isNumB (x :: r) b = (x :: r).all isDig := by
        unfold isNumB
        have : (x == 48) = false := by rw [beq_eq_false_iff_ne]; exact hx
        simp [this]
      rw [e]
      exact isnum_go w x r b hx
end Go.Proofs.YtbbncggaaibheaaGreatDoor.D

/- lift, gather: a numeral's value. -/
namespace Go.Proofs.YtbbncggaaibheaaGreatDoor.D
open Go.RowKit

theorem Num.one (w : World) (x : Nat) (hx : x < 18446744073709551616) : Num (w.alloc (.cells #[.int .u64 x] 30)) (some ⟨w.heap.size, 0, none⟩) [x] :=
  (Blk.lit w [x]).num (Digs.cons (by rw [B64_eq]; exact hx) Digs.nil)
theorem val_one (x : Nat) : val [x] = x := by simp [val]
theorem dig_mul_len {s sc k : Nat} (hl : (dig s).length ≤ k) (hsc : sc < 18446744073709551616) : (dig (s * sc)).length ≤ k + 1 := by
  refine dig_length_le ?_
  rw [Nat.pow_succ]
  have h1 := val_lt (dig_digs s)
  rw [val_dig] at h1
  exact Nat.mul_lt_mul'' (Nat.lt_of_lt_of_le h1 (Nat.pow_le_pow_right (by rw [B64_eq]; omega) hl)) (by rw [B64_eq]; exact hsc)
set_option maxHeartbeats 4000000 in
theorem lift_any (w : World) (A : Option Addr) (c s sc p r : Nat) (ha : Num w A (dig s)) (hl : (dig s).length ≤ 10000) (hc : (dig s).length ≤ c) (hsc : sc < 18446744073709551616) (hp : p < 18446744073709551616) (hr : s * sc + p = r) :
    Calls Tryz.prog 171 #[.slice A (dig s).length c, .int .u64 sc, .int .u64 p] w (RetN w r) := by
  have HM : Hid (∀ W, Num W A (dig s) → Calls Tryz.prog 124 #[.slice A (dig s).length c, .slice (some ⟨W.heap.size, 0, none⟩) 1 1] (W.alloc (.cells #[.int .u64 sc] 30)) (RetN (W.alloc (.cells #[.int .u64 sc] 30)) (s * sc))) := fun W h =>
    mul_v (W.alloc _) A (some ⟨W.heap.size, 0, none⟩) c 1 (dig s) [sc] s sc (h.alloc _) (Num.one W sc hsc) (val_dig _) (val_one _) (by omega) (by simp) hc (by simp)
  have hml : (dig (s * sc)).length ≤ 10001 := dig_mul_len hl hsc
  have HA2 : Hid (∀ W B d, Num W B (dig (s * sc)) → (dig (s * sc)).length ≤ d → Calls Tryz.prog 117 #[.slice B (dig (s * sc)).length d, .slice (some ⟨W.heap.size, 0, none⟩) 1 1] (W.alloc (.cells #[.int .u64 p] 30)) (RetN (W.alloc (.cells #[.int .u64 p] 30)) r)) := fun W B d h hd => by
    rw [← hr]
    exact add_v (W.alloc _) B (some ⟨W.heap.size, 0, none⟩) d 1 (dig (s * sc)) [p] (s * sc) p (h.alloc _) (Num.one W p hp) (val_dig _) (val_one _) (by omega) (by simp) hd (by simp)
  have HA := Lib.hid ha
  have HB0 : Hid (Below w.heap.size w (w.alloc (.cells #[.int .u64 sc] 30))) := (Below.refl _ _).alloc (Nat.le_refl _) _
  obtain ⟨q, hq⟩ : ∃ q, s * sc = q := ⟨_, rfl⟩
  rw [hq] at HM HA2
  clear ha hsc hp hr hml hq
  go_enter Tryz.func171, Tryz.ntmps171
  go_wp2_with fail
  refine (HM.out w HA.out).mono ?_
  rintro e w1 ⟨A1, c1, rfl, hc1, h1, hb1⟩
  have HN1 := Lib.hid h1
  have HB1 := Lib.hid (HB0.out.trans (hb1.mono HB0.out.size))
  have HB2 : Hid (Below w.heap.size w (w1.alloc (.cells #[.int .u64 p] 30))) := HB1.out.alloc HB1.out.size _
  clear h1 hb1
  go_wp2_with fail
  refine (HA2.out w1 A1 c1 HN1.out hc1).mono ?_
  rintro e w2 ⟨A2, c2, rfl, hc2, h2, hb2⟩
  have HN2 := Lib.hid h2
  have HB3 := Lib.hid (HB2.out.trans (hb2.mono HB2.out.size))
  clear h2 hb2
  go_wp2_with fail
  go_ret
  exact ⟨A2, c2, rfl, hc2, HN2.out, HB3.out⟩

/-- The number whose digits they are. -/
def dnum (l : List UInt8) : Nat := l.foldl (fun a c => 10 * a + (c.toNat - 48)) 0
theorem dnum_snoc (l : List UInt8) (c : UInt8) : dnum (l ++ [c]) = 10 * dnum l + (c.toNat - 48) := by unfold dnum; rw [List.foldl_append]; rfl
theorem dnum_take {l : List UInt8} {i : Nat} {c : UInt8} (h : l[i]? = some c) : dnum (l.take (i + 1)) = 10 * dnum (l.take i) + (c.toNat - 48) := by
  rw [List.take_add_one, h]
  exact dnum_snoc _ _
theorem isDig_range {c : UInt8} (h : isDig c = true) : 48 ≤ c.toNat ∧ c.toNat ≤ 57 := by unfold isDig at h; simpa using h
theorem dnum_lt : ∀ (n : Nat) (l : List UInt8), l.length = n → l.all isDig = true → dnum l < 10 ^ n := by
  intro n
  induction n with
  | zero => intro l h _; rw [List.length_eq_zero_iff.1 h]; decide
  | succ n ih =>
    intro l h hd
    have hne : l ≠ [] := by intro e; rw [e] at h; simp at h
    have e := List.dropLast_concat_getLast hne
    have hlast : isDig (l.getLast hne) = true := List.all_eq_true.1 hd _ (List.getLast_mem hne)
    have hdl : l.dropLast.all isDig = true := by
      rw [List.all_eq_true] at hd ⊢
      exact fun x hx => hd x (List.dropLast_subset l hx)
    have h1 := ih l.dropLast (by rw [List.length_dropLast]; omega) hdl
    have h2 := isDig_range hlast
    rw [← e, dnum_snoc, Nat.pow_succ]
    omega
theorem all_take {l : List UInt8} (h : l.all isDig = true) (n : Nat) : (l.take n).all isDig = true := by
  rw [List.all_eq_true] at h ⊢
  exact fun x hx => h x (List.mem_of_mem_take hx)
theorem dig_len10 {n k : Nat} (h : n < 10 ^ k) : (dig n).length ≤ k := dig_length_le (Nat.lt_of_lt_of_le h (Nat.pow_le_pow_left (by rw [B64_eq]; omega) _))
theorem Num.iterAt {w : World} {A : Option Addr} {xs : List Nat} {k pos : Nat} {s : ByteArray} (h : Num w A xs) (hk : w.heap[k]? = some (.stringIter s pos)) (pos' : Nat) : Num (w.iterAt k s pos') A xs :=
  ⟨h.1, fun hn => by
    obtain ⟨b, off, e, hlt, hc⟩ := h.2 hn
    refine ⟨b, off, e, by rw [Lib.iterAt_size]; exact hlt, fun i hi => ?_⟩
    refine (World.cell?_of_block (Lib.iterAt_other w k b s pos' ?_)).trans (hc i hi)
    intro e2
    subst e2
    have := hc i hi
    unfold World.cell? at this
    simp only [hk] at this
    cases this⟩
set_option maxRecDepth 100000 in
set_option maxHeartbeats 4000000 in
theorem gather_any (w : World) (l : List UInt8) (hd : l.all isDig = true) (hl : l.length ≤ 600) :
    Calls Tryz.prog 130 #[.string ⟨l.toArray⟩] w (RetN w (dnum l)) := by
  have HD := Lib.hid hd
  clear hd
  go_enter Tryz.func130, Tryz.ntmps130
  go_wp2_with fail
  go_loopg [3, 4, 5] l.length (fun g sv pv cv wx => ∃ (i q c p : Nat) (A : Option Addr) (d : Nat), i + g = l.length ∧ sv = .slice A (dig q).length d ∧ pv = .int .u64 (p : Int) ∧ cv = .int .u64 ((10 ^ c : Nat) : Int) ∧ c < 19 ∧ p < 10 ^ c ∧ (dig q).length ≤ d ∧ Hid ((dig q).length ≤ i) ∧ Hid (dnum (l.take i) = q * 10 ^ c + p) ∧ Hid (Num wx A (dig q)) ∧ Hid (wx.heap[w.heap.size]? = some (.stringIter ⟨l.toArray⟩ i)) ∧ Hid (Below w.heap.size w wx))
  case atStart => exact ⟨0, 0, 0, 0, none, 0, by omega, by rw [dig_zero]; rfl, rfl, rfl, by omega, by omega, by rw [dig_zero]; exact Nat.le_refl _, by show _ ≤ _; rw [dig_zero]; exact Nat.le_refl _, rfl, by rw [dig_zero]; exact Num.nil _ _, World.iter_heap w _ 0, (Below.refl _ _).alloc (Nat.le_refl _) _⟩
  case round =>
    obtain ⟨i, q, c, p, A, d, hig, rfl, rfl, rfl, hc, hp, hqd, hqi, hdn, HN, hit, HB⟩ := hrel
    have h19 : 10 ^ c ≤ 10 ^ 18 := Nat.pow_le_pow_right (by omega) (by omega)
    obtain ⟨S, hS⟩ : ∃ S, 10 ^ c = S := ⟨_, rfl⟩
    have HS := Lib.hid hS
    have hS18 : S ≤ 1000000000000000000 := by rw [← hS]; exact h19
    have hpS : p < S := by rw [← hS]; exact hp
    rw [hS]
    have hil : i ≤ l.length := by omega
    have hq6 : (dig q).length ≤ 600 := by have := hqi.out; omega
    cases gk with
    | zero =>
      have HR : Hid (q * S + p = dnum l) := by
        show _ = _
        rw [← hS, ← hdn.out, List.take_of_length_le (by omega)]
      have HL := Lib.hid (lift_any wr A d q S p (dnum l) HN.out (by omega) hqd (by omega) (by omega) HR.out)
      have hnx : ∀ ty, (Instr.next (.pointer (some ⟨w.heap.size, 0, none⟩)) true ty).run Tryz.prog wr = _ := fun ty => Lib.run_next_end_at wr w.heap.size ⟨l.toArray⟩ i ty hit.out (by show ¬ i < l.toArray.size; rw [List.size_toArray]; omega)
      clear hS hS18 hpS hp h19 hit HN hdn hqi
      go_wp2_with fail
      refine HL.out.mono ?_
      rintro e w1 ⟨A1, c1, rfl, hc1, h1, hb1⟩
      have HN1 := Lib.hid h1
      have HB1 := Lib.hid (HB.out.trans (hb1.mono HB.out.size))
      clear h1 hb1
      go_wp2_with fail
      go_ret
      exact ⟨A1, c1, rfl, hc1, HN1.out, HB1.out⟩
    | succ g =>
      have hi : i < (⟨l.toArray⟩ : ByteArray).size := by show i < l.toArray.size; rw [List.size_toArray]; omega
      obtain ⟨y, hy⟩ : ∃ y : UInt8, (⟨l.toArray⟩ : ByteArray)[i]'hi = y := ⟨_, rfl⟩
      have hyl : l[i]? = some y := by rw [← hy]; exact Lib.data_getElem? _ i hi
      have hyr := isDig_range (List.all_eq_true.1 HD.out y (List.mem_of_getElem? hyl))
      have hnx := fun ty => Lib.run_next_ascii_at (P := Tryz.prog) wr w.heap.size ⟨l.toArray⟩ i ty hit.out hi (by rw [hy]; omega)
      rw [hy] at hnx
      have hdt := dnum_take hyl
      obtain ⟨Y, hY⟩ : ∃ Y, y.toNat = Y := ⟨_, rfl⟩
      rw [hY] at hnx hyr hdt
      obtain ⟨D, hD⟩ : ∃ D, Y - 48 = D := ⟨_, rfl⟩
      rw [hD] at hdt
      have hD9 : D ≤ 9 := by omega
      obtain ⟨p10, hp10⟩ : ∃ x, 10 * p = x := ⟨_, rfl⟩
      obtain ⟨p2, hp2⟩ : ∃ x, p10 + D = x := ⟨_, rfl⟩
      obtain ⟨S2, hS2⟩ : ∃ x, 10 * S = x := ⟨_, rfl⟩
      have t1 : IntKind.i32.wrap ((Y : Int) - 48) = (D : Int) := by
        have h : (Y : Int) - 48 = (D : Int) := by omega
        rw [h]
        exact IntWalk.i32_in _ (by omega)
      have t2 : IntKind.u64.wrap (D : Int) = (D : Int) := IntWalk.u64_in _ (by omega)
      have t3 : IntKind.u64.wrap (10 * (p : Int)) = (p10 : Int) := by
        have h : 10 * (p : Int) = (p10 : Int) := by omega
        rw [h]
        exact IntWalk.u64_in _ (by omega)
      have t4 : IntKind.u64.wrap ((p10 : Int) + (D : Int)) = (p2 : Int) := by
        have h : (p10 : Int) + (D : Int) = (p2 : Int) := by omega
        rw [h]
        exact IntWalk.u64_in _ (by omega)
      have t5 : IntKind.u64.wrap (10 * (S : Int)) = (S2 : Int) := by
        have h : 10 * (S : Int) = (S2 : Int) := by omega
        rw [h]
        exact IntWalk.u64_in _ (by omega)
      have hS2c : 10 ^ (c + 1) = S2 := by rw [Nat.pow_succ, hS]; omega
      have HS2 := Lib.hid hS2c
      have HP2 : Hid (p2 < S2) := by show _ < _; omega
      have HR : Hid (dnum (l.take (i + 1)) = q * S2 + p2) := by
        show _ = _
        rw [hdt, hdn.out, hS, ← hp2, ← hp10, ← hS2, Nat.mul_add, Nat.mul_left_comm]
        omega
      obtain ⟨W, hW⟩ : ∃ W, wr.iterAt w.heap.size ⟨l.toArray⟩ (i + 1) = W := ⟨_, rfl⟩
      have HN2 : Hid (Num W A (dig q)) := by rw [← hW]; exact Num.iterAt HN.out hit.out _
      have HIT2 : Hid (W.heap[w.heap.size]? = some (.stringIter ⟨l.toArray⟩ (i + 1))) := by rw [← hW]; exact Lib.iterAt_heap _ _ _ _ _ hit.out
      have HB2 : Hid (Below w.heap.size w W) := by rw [← hW]; exact Lib.below_iterAt HB.out (Nat.le_refl _) _ _
      rw [hW] at hnx
      have hig2 : i + 1 + g = l.length := by omega
      have hqi2 : Hid ((dig q).length ≤ i + 1) := by show _ ≤ _; have := hqi.out; omega
      have HQ6 := Lib.hid hq6
      by_cases hc18 : c = 18
      · have hS2v : S2 = 10000000000000000000 := by rw [← hS2c, hc18]
        have hcond : ((S2 : Int) == 10000000000000000000) = true := by rw [hS2v]; rfl
        have HL := Lib.hid (lift_any W A d q S2 p2 (dnum (l.take (i + 1))) HN2.out (by omega) hqd (by rw [hS2v]; decide) (Nat.lt_of_lt_of_le HP2.out (by rw [hS2v]; decide)) HR.out.symm)
        have hlr : Hid ((dig (dnum (l.take (i + 1)))).length ≤ i + 1) := dig_len10 (dnum_lt (i + 1) _ (by rw [List.length_take]; omega) (all_take HD.out _))
        obtain ⟨r, hr⟩ : ∃ r, dnum (l.take (i + 1)) = r := ⟨_, rfl⟩
        have HRR := Lib.hid hr
        rw [hr] at HL hlr
        clear hS hS18 hpS hp h19 hit HN hdn hqi hyr hyl hy hi hY hD hD9 hdt hp10 hp2 hS2 hS2c hW HB hr hS2v hq6 hil
        go_wp2_with fail
        refine HL.out.mono ?_
        rintro e w1 ⟨A1, c1, rfl, hc1, h1, hb1⟩
        have HN3 := Lib.hid h1
        have HIT3 : Hid (w1.heap[w.heap.size]? = some (.stringIter ⟨l.toArray⟩ (i + 1))) := (hb1.block _ (Array.getElem?_eq_some_iff.1 HIT2.out).1).trans HIT2.out
        have HB3 := Lib.hid (HB2.out.trans (hb1.mono HB2.out.size))
        clear h1 hb1
        go_wp2_with fail
        go_roundg g
        case measure => omega
        case rel => exact ⟨i + 1, r, 0, 0, A1, c1, hig2, rfl, rfl, rfl, by omega, by omega, hc1, hlr, by show _ = _; rw [HRR.out, Nat.pow_zero, Nat.mul_one, Nat.add_zero], HN3, HIT3, HB3⟩
      · have hS2l : S2 ≤ 1000000000000000000 := by
          rw [← hS2c]; exact Nat.le_trans (Nat.pow_le_pow_right (by omega) (show c + 1 ≤ 18 by omega)) (by decide)
        have hcond : ((S2 : Int) == 10000000000000000000) = false := by rw [beq_eq_false_iff_ne]; omega
        have hc1 : c + 1 < 19 := by omega
        clear hS hS18 hpS hp h19 hit HN hdn hqi hyr hyl hy hi hY hD hD9 hdt hp10 hp2 hS2 hS2c hW HB hq6 hil hS2l
        go_wp2_with fail
        go_roundg g
        case measure => omega
        case rel => exact ⟨i + 1, q, c + 1, p2, A, d, hig2, rfl, rfl, by rw [HS2.out], hc1, by rw [HS2.out]; exact HP2.out, hqd, hqi2, by show _ = _; rw [HS2.out]; exact HR.out, HN2, HIT2, HB2⟩
end Go.Proofs.YtbbncggaaibheaaGreatDoor.D

/- digits.Parse, walked. -/
namespace Go.Proofs.YtbbncggaaibheaaGreatDoor.D
open Go.RowKit

theorem foldl_dnum (l : List UInt8) (a : Nat) : l.foldl (fun a c => 10 * a + (c.toNat - 48)) a = a * 10 ^ l.length + dnum l := by
  unfold dnum
  induction l generalizing a with
  | nil => simp
  | cons c l ih =>
    rw [List.foldl_cons, List.foldl_cons, ih, ih (10 * 0 + _), List.length_cons, Nat.pow_succ, Nat.add_mul]
    rw [Nat.mul_comm 10 a, Nat.mul_assoc, Nat.mul_comm 10]
    simp [Nat.add_assoc]
theorem dnum_cons (c : UInt8) (l : List UInt8) : dnum (c :: l) = (c.toNat - 48) * 10 ^ l.length + dnum l := by
  have h := foldl_dnum l (10 * 0 + (c.toNat - 48))
  rw [show 10 * 0 + (c.toNat - 48) = c.toNat - 48 by omega] at h
  rw [← h]
  unfold dnum
  rw [List.foldl_cons]
  simp
/-- Whether a sign stands ahead, and the digits behind it. -/
def signed (l : List UInt8) : Bool := Lib.hasPrefix l [45]
def behind (l : List UInt8) : List UInt8 := Lib.trimPrefix l [45]
/-- What Parse tells. -/
def parseV (l : List UInt8) : Int × Int :=
  if isNumB (behind l) (signed l) then (if 600 < (behind l).length then (0, 3) else (zv (signed l) (dnum (behind l)), 0)) else (0, 11)
theorem num_sign {d : List UInt8} {b : Bool} (h : isNumB d b = true) : zneg (zv b (dnum d)) = b := by
  match d, h with
  | x :: r, h =>
    unfold isNumB at h
    simp only [Bool.and_eq_true, Bool.not_eq_true'] at h
    cases b with
    | false => unfold zv zneg; simp
    | true =>
      simp only [Bool.true_or, Bool.and_true] at h
      have hx : x ≠ 48 := by have := h.1; rw [beq_eq_false_iff_ne] at this; exact this
      have hd := isDig_range (List.all_eq_true.1 h.2 x (List.mem_cons_self ..))
      have hne : x.toNat ≠ 48 := fun e => hx (UInt8.toNat_inj.1 e)
      have h1 : 0 < 10 ^ r.length := Nat.pow_pos (by omega)
      have h2 : 1 * 10 ^ r.length ≤ (x.toNat - 48) * 10 ^ r.length := Nat.mul_le_mul_right _ (by omega)
      have h3 := dnum_cons x r
      have h4 : dnum (x :: r) ≠ 0 := by omega
      show zneg (-((dnum (x :: r) : Nat) : Int)) = true
      unfold zneg
      simp
      omega
theorem num_all {d : List UInt8} {b : Bool} (h : isNumB d b = true) : d.all isDig = true := by
  match d, h with
  | x :: r, h =>
    unfold isNumB at h
    rw [Bool.and_eq_true] at h
    exact h.2
/-- A whole number and an error's number. -/
def RetPZ (w : World) (z code : Int) (e : Ending) (w' : World) : Prop :=
  ∃ A c, e = .returned (.tuple #[.agg #[.bool (zneg z), .slice A (dig z.natAbs).length c], .int .i64 code]) ∧ (dig z.natAbs).length ≤ c ∧ Num w' A (dig z.natAbs) ∧ Below w.heap.size w w'
theorem cut_at (w : World) (l : List UInt8) : Calls Tryz.prog 128 #[.string ⟨l.toArray⟩, .string ⟨#[45]⟩] w fun e w' => e = .returned (.tuple #[.string ⟨(behind l).toArray⟩, .bool (signed l)]) ∧ w = w' := by
  refine (Tryz.strings_CutPrefix ⟨l.toArray⟩ ⟨#[45]⟩ w).mono ?_
  rintro e w' ⟨he, hw⟩
  exact ⟨he, hw.symm⟩
theorem retp_of {w w4 wf : World} {s : Bool} {m c g : Nat} {z code : Int} {A A0 : Option Addr} {s0 : Bool} {n0 c0 : Nat} (hs : zneg z = s) (hm : z.natAbs = m) (hc : (dig m).length ≤ c) (hA : Num w4 A (dig m)) (hg : Ibx w4 g s0 A0 n0 c0) (hgw : w.heap.size ≤ g) (hb : Below w.heap.size w w4)
    (v0 v1 : Value) (hwf : wf = (w4.setCell ⟨g, 0, none⟩ v0).setCell ⟨g, 1, none⟩ v1) : RetPZ w z code (.returned (.tuple #[.agg #[.bool s, .slice A (dig m).length c], .int .i64 code])) wf := by
  subst hs hm hwf
  exact ⟨A, c, rfl, hc, hA.two hg _ _, (hb.setCell hgw _).setCell hgw _⟩
theorem retp_zero {w w4 wf : World} {code : Int} {g : Nat} {A0 : Option Addr} {s0 : Bool} {n0 c0 : Nat} (_hg : Ibx w4 g s0 A0 n0 c0) (hgw : w.heap.size ≤ g) (hb : Below w.heap.size w w4)
    (v0 v1 : Value) (hwf : wf = (w4.setCell ⟨g, 0, none⟩ v0).setCell ⟨g, 1, none⟩ v1) : RetPZ w 0 code (.returned (.tuple #[.agg #[.bool false, .slice none 0 0], .int .i64 code])) wf := by
  have hz : dig ((0 : Int).natAbs) = [] := dig_zero
  subst hwf
  exact ⟨none, 0, by rw [hz]; rfl, by rw [hz]; exact Nat.le_refl _, by rw [hz]; exact Num.nil _ _, (hb.setCell hgw _).setCell hgw _⟩
set_option maxRecDepth 100000 in
set_option maxHeartbeats 4000000 in
theorem parse_any (w : World) (l : List UInt8) (z code : Int) (hz : parseV l = (z, code)) (hl : l.length ≤ 1000000) :
    Calls Tryz.prog 78 #[.string ⟨l.toArray⟩] w (RetPZ w z code) := by
  have HC := Lib.hid (fun W => cut_at W l)
  have hbl : (behind l).length ≤ 1000000 := by
    unfold behind Lib.trimPrefix
    split
    · rw [List.length_drop]; omega
    · exact hl
  have HNUM := Lib.hid (fun W => isnum_any W (behind l) (signed l))
  have HG := Lib.hid (fun W h1 h2 => gather_any W (behind l) h1 h2)
  have hsg := fun h => num_sign (d := behind l) (b := signed l) h
  have hal := fun h => num_all (d := behind l) (b := signed l) h
  unfold parseV at hz
  obtain ⟨d, hd⟩ : ∃ d, behind l = d := ⟨_, rfl⟩
  obtain ⟨b, hb⟩ : ∃ b, signed l = b := ⟨_, rfl⟩
  rw [hd, hb] at hz HNUM hsg hal
  rw [hd] at hbl HG
  rw [hd, hb] at HC
  have HW : Hid (Below w.heap.size w (w.alloc (.cells #[.bool false, .slice none 0 0] 25))) := (Below.refl _ _).alloc (Nat.le_refl _) _
  have HI : Hid (Ibx (w.alloc (.cells #[.bool false, .slice none 0 0] 25)) w.heap.size false none 0 0) := Ibx.new' _ _ _ _ _ _ rfl
  clear hd hb
  cases hn : isNumB d b with
  | false =>
    rw [hn] at hz HNUM
    obtain ⟨rfl, rfl⟩ : (0 : Int) = z ∧ (11 : Int) = code := by simpa using hz
    clear hz hn hsg hal HG
    go_enter Tryz.func78, Tryz.ntmps78
    go_wp2_with fail
    refine (HC.out _).mono ?_
    rintro e w1 ⟨rfl, rfl⟩
    go_wp2_with fail
    refine (HNUM.out _).mono ?_
    rintro e w2 ⟨rfl, hb2⟩
    have HW2 := Lib.hid (HW.out.trans (hb2.mono HW.out.size))
    have I2 := HI.out.below hb2
    have HI2 := Lib.hid I2
    have c0 := I2.c0
    have c1' := I2.c1
    have f0 := I2.f 0
    have f1 := I2.f 1
    clear hb2 HW HI I2
    go_wp2_with fail
    refine bodyPost_ret (v := .tuple #[.agg #[.bool false, .slice none 0 0], .int .i64 11]) (by simp [results, Tryz.results78, go_sem, c0, c1']) rfl ?_
    have h := retp_zero (w := w) (code := 11) HI2.out (Nat.le_refl _) HW2.out (.bool false) (.slice none 0 0) rfl
    exact h
  | true =>
    rw [hn] at hz HNUM
    by_cases hlong : 600 < d.length
    · have hl6 : (600 : Int) < (d.length : Int) := by omega
      obtain ⟨rfl, rfl⟩ : (0 : Int) = z ∧ (3 : Int) = code := by simpa [hlong] using hz
      clear hz hn hsg hal HG
      go_enter Tryz.func78, Tryz.ntmps78
      go_wp2_with fail
      refine (HC.out _).mono ?_
      rintro e w1 ⟨rfl, rfl⟩
      go_wp2_with fail
      refine (HNUM.out _).mono ?_
      rintro e w2 ⟨rfl, hb2⟩
      have HW2 := Lib.hid (HW.out.trans (hb2.mono HW.out.size))
      have I2 := HI.out.below hb2
      have HI2 := Lib.hid I2
      have c0 := I2.c0
      have c1' := I2.c1
      have f0 := I2.f 0
      have f1 := I2.f 1
      clear hb2 HW HI I2
      go_wp2_with fail
      refine bodyPost_ret (v := .tuple #[.agg #[.bool false, .slice none 0 0], .int .i64 3]) (by simp [results, Tryz.results78, go_sem, c0, c1']) rfl ?_
      have h := retp_zero (w := w) (code := 3) HI2.out (Nat.le_refl _) HW2.out (.bool false) (.slice none 0 0) rfl
      exact h
    · have hl6 : ¬ (600 : Int) < (d.length : Int) := by omega
      obtain ⟨hz1, rfl⟩ : zv b (dnum d) = z ∧ (0 : Int) = code := by simpa [hlong] using hz
      have HZ : Hid (zneg z = b) := by show _ = _; rw [← hz1]; exact hsg hn
      have HZ2 : Hid (z.natAbs = dnum d) := by show _ = _; rw [← hz1]; exact zv_natAbs _ _
      have HGG := Lib.hid (fun W => HG.out W (hal hn) (by omega))
      clear hz hn hsg hal HG hz1
      obtain ⟨m, hm⟩ : ∃ m, dnum d = m := ⟨_, rfl⟩
      rw [hm] at HGG HZ2
      clear hm
      go_enter Tryz.func78, Tryz.ntmps78
      go_wp2_with fail
      refine (HC.out _).mono ?_
      rintro e w1 ⟨rfl, rfl⟩
      go_wp2_with fail
      refine (HNUM.out _).mono ?_
      rintro e w2 ⟨rfl, hb2⟩
      have HW2 := Lib.hid (HW.out.trans (hb2.mono HW.out.size))
      have I2 := HI.out.below hb2
      have HI2 := Lib.hid I2
      have c0 := I2.c0
      have c1' := I2.c1
      have f0 := I2.f 0
      have f1 := I2.f 1
      clear hb2 HW HI I2
      go_wp2_with fail
      refine (HGG.out _).mono ?_
      rintro e w3 ⟨A3, d3, rfl, hd3, h3, hb3⟩
      have HN3 := Lib.hid h3
      have HW3 := Lib.hid (HW2.out.trans (hb3.mono HW2.out.size))
      have I3 := HI2.out.below hb3
      have HI3 := Lib.hid I3
      have k0 := I3.c0
      have k1' := I3.c1
      have g0 := I3.f 0
      have g1 := I3.f 1
      clear h3 hb3 HI2 HW2 I3
      go_wp2_with fail
      refine bodyPost_ret (v := .tuple #[.agg #[.bool b, .slice A3 (dig m).length d3], .int .i64 0]) (by simp [results, Tryz.results78, go_sem, k0, k1']) rfl ?_
      have h := retp_of (w := w) (code := 0) HZ.out HZ2.out hd3 HN3.out HI3.out (Nat.le_refl _) HW3.out (.bool b) (.slice A3 (dig m).length d3) rfl
      exact h
end Go.Proofs.YtbbncggaaibheaaGreatDoor.D

/- Text and Parse, one behind the other: mathematics. -/
namespace Go.Proofs.YtbbncggaaibheaaGreatDoor.D
open Go.RowKit

theorem ofNat_sub {c : UInt8} (h : isDig c = true) : UInt8.ofNat (48 + (c.toNat - 48)) = c := by
  have h1 := isDig_range h
  rw [show 48 + (c.toNat - 48) = c.toNat by omega]
  exact UInt8.ofNat_toNat
theorem toNat_dig {k : Nat} (h : k < 10) : (UInt8.ofNat (48 + k)).toNat = 48 + k := by
  rw [UInt8.toNat_ofNat']
  omega
theorem isDig_ofNat {k : Nat} (h : k < 10) : isDig (UInt8.ofNat (48 + k)) = true := by
  unfold isDig
  rw [toNat_dig h]
  simp
  omega
theorem dec_all (n : Nat) : (Lib.decDigits n).all isDig = true := by
  induction n using Nat.strongRecOn with
  | _ n ih =>
    by_cases h : n < 10
    · rw [Lib.decDigits_one h, List.all_cons, List.all_nil, isDig_ofNat h]; rfl
    · rw [Lib.decDigits, dif_neg h, List.all_append, ih (n / 10) (by omega), List.all_cons, List.all_nil, isDig_ofNat (Nat.mod_lt n (by omega))]; rfl
theorem dnum_dec (n : Nat) : dnum (Lib.decDigits n) = n := by
  induction n using Nat.strongRecOn with
  | _ n ih =>
    by_cases h : n < 10
    · rw [Lib.decDigits_one h]
      show 10 * 0 + ((UInt8.ofNat (48 + n)).toNat - 48) = n
      rw [toNat_dig h]; omega
    · rw [Lib.decDigits, dif_neg h, dnum_snoc, ih (n / 10) (by omega), toNat_dig (Nat.mod_lt n (by omega))]
      omega
theorem dnum_pos {x : UInt8} {r : List UInt8} (hx : x ≠ 48) (h : (x :: r).all isDig = true) : 0 < dnum (x :: r) := by
  have hd := isDig_range (List.all_eq_true.1 h x (List.mem_cons_self ..))
  have hne : x.toNat ≠ 48 := fun e => hx (UInt8.toNat_inj.1 e)
  have h1 : 0 < 10 ^ r.length := Nat.pow_pos (by omega)
  have h2 : 1 * 10 ^ r.length ≤ (x.toNat - 48) * 10 ^ r.length := Nat.mul_le_mul_right _ (by omega)
  have h3 := dnum_cons x r
  omega
theorem dec_dnum : ∀ (n : Nat) (x : UInt8) (r : List UInt8), r.length = n → (x :: r).all isDig = true → (x ≠ 48 ∨ r = []) → Lib.decDigits (dnum (x :: r)) = x :: r := by
  intro n
  induction n with
  | zero =>
    intro x r hr h _
    have hr0 := List.length_eq_zero_iff.1 hr
    subst hr0
    have hx := List.all_eq_true.1 h x (List.mem_cons_self ..)
    have h1 := isDig_range hx
    have e : dnum [x] = x.toNat - 48 := by show 10 * 0 + (x.toNat - 48) = _; omega
    rw [e, Lib.decDigits_one (by omega), ofNat_sub hx]
  | succ n ih =>
    intro x r hr h hh
    have hne : r ≠ [] := by intro e; rw [e] at hr; simp at hr
    have hx : x ≠ 48 := by rcases hh with h1 | h1; exact h1; exact absurd h1 hne
    have e := List.dropLast_concat_getLast hne
    obtain ⟨c, hc⟩ : ∃ c, r.getLast hne = c := ⟨_, rfl⟩
    obtain ⟨q, hq⟩ : ∃ q, r.dropLast = q := ⟨_, rfl⟩
    rw [hc, hq] at e
    rw [← e] at h ⊢
    have hq2 : (x :: q).all isDig = true ∧ isDig c = true := by
      rw [← List.cons_append, List.all_append] at h
      simpa using h
    have hql : q.length = n := by rw [← hq, List.length_dropLast]; omega
    have h1 := ih x q hql hq2.1 (.inl hx)
    have hp := dnum_pos hx hq2.1
    have hr1 := isDig_range hq2.2
    rw [← List.cons_append, dnum_snoc]
    rw [Lib.decDigits, dif_neg (by omega)]
    rw [show (10 * dnum (x :: q) + (c.toNat - 48)) / 10 = dnum (x :: q) by omega, show (10 * dnum (x :: q) + (c.toNat - 48)) % 10 = c.toNat - 48 by omega, h1, ofNat_sub hq2.2]
/-- A sign and digits. -/
theorem signed_of {l : List UInt8} (h : signed l = true) : l = 45 :: behind l := by
  match l, h with
  | x :: r, h =>
    have hx : x = 45 := by
      unfold signed Lib.hasPrefix at h
      simp [List.isPrefixOf] at h
      exact h.symm
    subst hx
    unfold behind Lib.trimPrefix
    rw [if_pos (by unfold signed at h; exact h)]
    rfl
theorem behind_of {l : List UInt8} (h : signed l = false) : behind l = l := by
  unfold behind Lib.trimPrefix
  rw [if_neg (by unfold signed at h; rw [h]; decide)]
theorem signed_cons (r : List UInt8) : signed (45 :: r) = true := by unfold signed Lib.hasPrefix; simp [List.isPrefixOf]
theorem signed_dig {l : List UInt8} (h : l.all isDig = true) : signed l = false := by
  cases hs : signed l with
  | false => rfl
  | true =>
    have e := signed_of hs
    rw [e] at h
    have := isDig_range (List.all_eq_true.1 h 45 (List.mem_cons_self ..))
    simp at this
theorem behind_cons (r : List UInt8) : behind (45 :: r) = r := by
  exact (List.cons.inj (signed_of (signed_cons r))).2.symm
/-- A numeral is its number's text. -/
theorem text_num {d : List UInt8} {b : Bool} (h : isNumB d b = true) : textOf (zv b (dnum d)) = if b = true then 45 :: d else d := by
  match d, h with
  | x :: r, h =>
    unfold isNumB at h
    simp only [Bool.and_eq_true, Bool.not_eq_true', Bool.and_eq_false_iff, Bool.or_eq_false_iff] at h
    have hx : x ≠ 48 ∨ r = [] := by
      rcases h.1 with h1 | h1
      · left; rw [beq_eq_false_iff_ne] at h1; exact h1
      · right; have := h1.2; simpa using this
    have hdd := dec_dnum _ x r rfl h.2 hx
    cases b with
    | true =>
      have hx2 : x ≠ 48 := by
        rcases h.1 with h1 | h1
        · rw [beq_eq_false_iff_ne] at h1; exact h1
        · exact absurd h1.1 (by decide)
      have hp := dnum_pos hx2 h.2
      have hz : zv true (dnum (x :: r)) < 0 := by unfold zv; simp; omega
      rw [textOf_neg hz, zv_natAbs]
      unfold sizeText
      rw [if_neg (by omega), hdd]
      rfl
    | false =>
      simp only [Bool.false_eq_true, if_false]
      by_cases h0 : dnum (x :: r) = 0
      · have hx48 : x = 48 := by
          rcases Decidable.em (x = 48) with h1 | h1
          · exact h1
          · have := dnum_pos h1 h.2; omega
        have hr : r = [] := by
          rcases hx with h1 | h1
          · exact absurd hx48 h1
          · exact h1
        subst hx48 hr
        rfl
      · have hz : 0 < zv false (dnum (x :: r)) := by unfold zv; simp; omega
        rw [textOf_pos hz, zv_natAbs]
        unfold sizeText
        rw [if_neg h0, hdd]
/-- Text of what Parse tells is the text. -/
theorem text_parse {l : List UInt8} {z : Int} (h : parseV l = (z, 0)) : textOf z = l := by
  unfold parseV at h
  by_cases hn : isNumB (behind l) (signed l) = true
  · rw [if_pos hn] at h
    by_cases hl : 600 < (behind l).length
    · rw [if_pos hl] at h
      injection h with _ h
      exact absurd h (by decide)
    · rw [if_neg hl] at h
      injection h with h _
      rw [← h, text_num hn]
      cases hs : signed l with
      | true => rw [if_pos rfl]; exact (signed_of hs).symm
      | false => simp only [Bool.false_eq_true, if_false]; exact behind_of hs
  · rw [if_neg hn] at h
    injection h with _ h
    exact absurd h (by decide)
theorem num_dec {n : Nat} (h : 0 < n) (b : Bool) : isNumB (Lib.decDigits n) b = true := by
  obtain ⟨d, r, e, hd⟩ := dg_top h
  have ha := dec_all n
  rw [e] at ha ⊢
  unfold isNumB
  have : (d == 48) = false := by rw [beq_eq_false_iff_ne]; exact hd
  simp only [this, Bool.false_and, Bool.not_false, Bool.true_and]
  exact ha
/-- Parse of a number's text is the number. -/
theorem parse_text {z : Int} (h : (Lib.decDigits z.natAbs).length ≤ 600) : parseV (textOf z) = (z, 0) := by
  rcases Int.lt_trichotomy z 0 with hz | hz | hz
  · have hp : 0 < z.natAbs := by omega
    rw [textOf_neg hz]
    unfold sizeText
    rw [if_neg (by omega)]
    unfold parseV
    rw [signed_cons, behind_cons, if_pos (num_dec hp true), if_neg (by omega), dnum_dec]
    congr 1
    unfold zv
    simp; omega
  · subst hz; decide
  · have hp : 0 < z.natAbs := by omega
    rw [textOf_pos hz]
    unfold sizeText
    rw [if_neg (by omega)]
    unfold parseV
    rw [signed_dig (dec_all _), behind_of (signed_dig (dec_all _)), if_pos (num_dec hp false), if_neg (by omega), dnum_dec]
    congr 1
    unfold zv
    simp; omega
end Go.Proofs.YtbbncggaaibheaaGreatDoor.D

/- digits' law: awake. -/
namespace Go.Proofs.YtbbncggaaibheaaGreatDoor.D
open Go.RowKit

theorem parse_at (w : World) (l : List UInt8) (z code : Int) (hz : parseV l = (z, code)) (hl : l.length ≤ 1000000) :
    Calls Tryz.prog 78 #[.string ⟨l.toArray⟩] w (RetPZ w z code) := parse_any w l z code hz hl
theorem text_at (w : World) (s : Bool) (A : Option Addr) (c : Nat) (xs : List Nat) (z : Int) (l : List UInt8) (ha : Num w A xs) (hx : zv s (val xs) = z) (hl : textOf z = l) (hn : xs.length ≤ 1000) (hc : xs.length ≤ c) (htab : Tab w) :
    Calls Tryz.prog 97 #[.agg #[.bool s, .slice A xs.length c]] w (RetS w l) := by subst hl; exact text_any w s A c xs z ha hx hn hc htab
theorem small_at (w : World) (s : Bool) (A : Option Addr) (c : Nat) (xs : List Nat) (z : Int) (k : Int) (b : Bool) (ha : Num w A xs) (hx : zv s (val xs) = z) (hk : smallv z = k) (hb : smallb z = b) (hn : xs.length ≤ 1000) (hc : xs.length ≤ c) :
    Calls Tryz.prog 166 #[.agg #[.bool s, .slice A xs.length c]] w (fun e w' => e = .returned (.tuple #[.int .i64 k, .bool b]) ∧ Below w.heap.size w w') := by
  subst hk; subst hb; exact small_any w s A c xs z ha hx (by omega) hc
theorem zl_le {z : Int} (h1 : -9223372036854775808 ≤ z) (h2 : z ≤ 9223372036854775807) : (dig z.natAbs).length ≤ 1000 := Nat.le_trans (zl_small h1 h2) (by omega)
end Go.Proofs.YtbbncggaaibheaaGreatDoor.D
