/- DTop: several texts in one. -/
import Derived.Test.YtmbnlhedbedcdaaGreatDoorDPre
import Derived.Test.YtmbnlhedbedcdaaGreatDoorWAll
import Derived.Laws.IdiomStrings
import Derived.Laws.RangeString
import Derived.Laws.RangeAny
import Derived.Lib.OthersKept
import Derived.Deep.LoopGhost
import Derived.Test.YtmbnlhedbedcdaaGreatDoorAwake
/- digits.Text, walked. -/
namespace Go.Proofs.YtmbnlhedbedcdaaGreatDoor.D
open Go.RowKit

theorem under_str : Tryz.prog.underlying 9 = some .string := by kernel_rfl
theorem under_b : Tryz.prog.underlying 5 = some (.int .u8) := by kernel_rfl
/-- An integer's text. -/
def textOf (z : Int) : List UInt8 := if z = 0 then [48] else if z < 0 then 45 :: Lib.decDigits z.natAbs else Lib.decDigits z.natAbs
theorem dg_top {v : Nat} (h : 0 < v) : ∃ d r, Lib.decDigits v = d :: r ∧ d ≠ 48 := by
  induction v using Nat.strongRecOn with
  | _ v ih =>
    by_cases h1 : v < 10
    · refine ⟨_, [], Lib.decDigits_one h1, ?_⟩
      intro e
      have e2 := congrArg UInt8.toNat e
      simp at e2
      omega
    · obtain ⟨d, r, e, hd⟩ := ih (v / 10) (by omega) (by omega)
      refine ⟨d, r ++ [UInt8.ofNat (48 + v % 10)], ?_, hd⟩
      rw [Lib.decDigits, dif_neg h1, e]
      rfl
/-- What is left of the digits without the noughts ahead. -/
def sizeText (n : Nat) : List UInt8 := if n = 0 then [] else Lib.decDigits n
theorem trim_rep (k : Nat) (l : List UInt8) : Lib.trimLeftB (List.replicate k 48 ++ l) 48 = Lib.trimLeftB l 48 := by
  unfold Lib.trimLeftB
  induction k with
  | zero => rfl
  | succ k ih =>
    rw [List.replicate_succ, List.cons_append, List.dropWhile_cons]
    simp [ih]
theorem nd_le {n k : Nat} (hk : 0 < k) (h : n < 10 ^ k) : Lib.nDigits n ≤ k := by
  induction k generalizing n with
  | zero => omega
  | succ k ih =>
    by_cases h1 : n < 10
    · rw [Lib.nDigits_small h1]; omega
    · rw [Lib.nDigits_big h1]
      have hk0 : 0 < k := by
        rcases Nat.eq_zero_or_pos k with e | e
        · subst e; simp at h; omega
        · exact e
      have := ih hk0 (n := n / 10) (by rw [Nat.pow_succ] at h; omega)
      omega
theorem trim_pad {k n : Nat} (hk : 0 < k) (h : n < 10 ^ k) : Lib.trimLeftB (pad k n) 48 = sizeText n := by
  unfold sizeText
  by_cases h0 : n = 0
  · subst h0
    rw [if_pos rfl, pad_nought]
    have := trim_rep k []
    rw [List.append_nil] at this
    rw [this]; rfl
  · rw [if_neg h0, pad_dec (nd_le hk h), trim_rep]
    obtain ⟨d, r, e, hd⟩ := dg_top (Nat.pos_of_ne_zero h0)
    rw [e]
    unfold Lib.trimLeftB
    rw [List.dropWhile_cons, if_neg (by simpa using hd)]
theorem pow_cmp {L k : Nat} (h : L ≤ k) : B64 ^ L ≤ 10 ^ (64 * k) := by
  rw [B64_pow, ← Nat.pow_mul]
  exact Nat.le_trans (Nat.pow_le_pow_left (by omega) _) (Nat.pow_le_pow_right (by omega) (by omega))
theorem sizeText_len {xs : List Nat} (hd : Digs xs) (h : xs.length ≤ 1000) : (sizeText (val xs)).length ≤ 64000 := by
  have h1 := val_lt hd
  obtain ⟨K, hK⟩ : ∃ K, 1000 = K := ⟨_, rfl⟩
  have h2 := pow_cmp (show xs.length ≤ K by omega)
  have h3 : 64 * K = 64000 := by omega
  unfold sizeText
  split
  · exact Nat.zero_le _
  · rw [Lib.decDigits_length]
    exact Nat.le_trans (nd_le (by omega) (Nat.lt_of_lt_of_le h1 h2)) (Nat.le_of_eq h3)
theorem textOf_zero : textOf 0 = [48] := rfl
theorem textOf_neg {z : Int} (h : z < 0) : textOf z = 45 :: sizeText z.natAbs := by unfold textOf sizeText; rw [if_neg (by omega), if_pos h, if_neg (by omega)]
theorem textOf_pos {z : Int} (h : 0 < z) : textOf z = sizeText z.natAbs := by unfold textOf sizeText; rw [if_neg (by omega), if_neg (by omega), if_neg (by omega)]

/-- powersFor, in the form in which appendDigits wants it. -/
def RetPw (w : World) (n : Nat) (e : Ending) (w' : World) : Prop :=
  ∃ g k cp, e = .returned (.slice (some ⟨g, 0, none⟩) k cp) ∧ 0 < k ∧ k ≤ cp ∧ PwS w' g k ∧ n < PW k ∧ 2 ^ k ≤ 2100 ∧ Below w.heap.size w w'
theorem powers_at (w : World) (A : Option Addr) (c : Nat) (xs : List Nat) (ha : Num w A xs) (hn : xs.length ≤ 1000) (hc : xs.length ≤ c) :
    Calls Tryz.prog 44 #[.slice A xs.length c] w (RetPw w (val xs)) := by
  refine (powers_any w A c xs ha hn hc).mono ?_
  rintro e w' ⟨v, vs, rfl, ho, hp, h1, h2, hb⟩
  have hpos := ho.pos
  rcases ho.row.2 with ⟨_, h0⟩ | ⟨g, cap, cur, rfl, hbg, hgc, hnc, hcm, hcs, htake⟩
  · omega
  · refine ⟨g, vs.length, cap, rfl, hpos, hnc, ?_, h1, h2, hb⟩
    intro i hi
    obtain ⟨A, c, k1, k2, k3⟩ := hp i hi
    refine ⟨A, c, ?_, k2, k3⟩
    have h := ho.row.cells (g := g) rfl i _ k1
    have hadd : (⟨g, 0, none⟩ : Addr).add i = ⟨g, i, none⟩ := by unfold Addr.add; split <;> simp_all
    rw [hadd] at h
    exact h
/-- appendDigits from nothing, and what its bytes are as a text. -/
theorem adig_nil (w : World) (A : Option Addr) (c s g k cp : Nat) (xs : List Nat) (hxs : val xs = s) (hxl : xs.length ≤ 100000) (ha : Num w A xs) (hs : s < PW k) (hc : xs.length ≤ c) (hk : 2 ^ k ≤ 2100) (hk0 : 0 < k) (hp : PwS w g k) (hcp : k ≤ cp) (htab : Tab w) :
    Calls Tryz.prog 43 #[.slice none 0 0, .slice A xs.length c, .slice (some ⟨g, 0, none⟩) k cp] w (fun e w' => ∃ b n m l, e = .returned (.slice (some ⟨b, 0, none⟩) n m) ∧ (convert 66 9 (.slice (some ⟨b, 0, none⟩) n m)).run Tryz.prog w' = .ok (.string ⟨l.toArray⟩) w' ∧ Lib.trimLeftB l 48 = sizeText s ∧ Below w.heap.size w w') := by
  obtain ⟨k, rfl⟩ : ∃ j, k = j + 1 := ⟨k - 1, by omega⟩
  have hpw := Nat.two_pow_pos (k + 1)
  refine (adig_step (adig_any k) hk w w.heap.size (.slice none 0 0) [] A c s g cp xs hxs hxl (Own.nil _ _) (Nat.le_refl _) ha hs hc hp hcp htab (by simp; omega)).mono ?_
  rintro e w' ⟨v, rfl, ho, hf⟩
  rw [List.nil_append] at ho
  have hpl := pad_length (19 * 2 ^ (k + 1)) s
  rcases ho.row.2 with ⟨_, h0⟩ | ⟨b, cap, cur, rfl, hbg, hgc, hnc, hcm, hcs, htake⟩
  · omega
  · refine ⟨b, _, cap, pad (19 * 2 ^ (k + 1)) s, rfl, ?_, trim_pad (by omega) hs, ⟨hf.g.os, hf.g.tape, hf.g.output, hf.g.size, fun i hi => hf.g.block i hi (by simp [Value.ownBlock])⟩⟩
    refine run_convert_bytes_back w' _ _ _ ⟨b, 0, none⟩ cap _ under_u8s under_b under_str ?_
    intro j hj
    exact ho.row.cells (g := b) rfl j _ (by unfold Lib.strCells; simp [hj])

theorem trim_at (w : World) (l d : List UInt8) (h : Lib.trimLeftB l 48 = d) :
    Calls Tryz.prog 42 #[.string ⟨l.toArray⟩, .string ⟨#[48]⟩] w fun e w' => e = .returned (.string ⟨d.toArray⟩) ∧ w = w' := by
  refine (Tryz.strings_TrimLeft_one ⟨l.toArray⟩ 48 (by decide) w).mono ?_
  rintro e w' ⟨he, hw⟩
  refine ⟨?_, hw.symm⟩
  rw [he, ← h]
/-- A text handed back. -/
theorem rets_of {w w' : World} {l m : List UInt8} (e : l = m) (hb : Below w.heap.size w w') : RetS w m (.returned (.string ⟨l.toArray⟩)) w' := ⟨by rw [e], hb⟩

/-- An operation behind a name: it is not tried ahead of its turn. -/
def hideC (o : Op) : Op := o
@[go_sem] theorem hideC_eq (o : Op) : hideC o = o := rfl
set_option maxHeartbeats 4000000 in
theorem text_any (w : World) (s : Bool) (A : Option Addr) (c : Nat) (xs : List Nat) (z : Int) (ha : Num w A xs) (hx : zv s (val xs) = z) (hn : xs.length ≤ 1000) (hc : xs.length ≤ c) (htab : Tab w) :
    Calls Tryz.prog 19 #[.agg #[.bool s, .slice A xs.length c]] w (RetS w (textOf z)) := by
  have HA := Lib.hid ha
  have HX := Lib.hid hx
  have HT := Lib.hid htab
  have hzn : z.natAbs = val xs := by rw [← hx, zv_natAbs]
  obtain ⟨m, hm⟩ : ∃ m, val xs = m := ⟨_, rfl⟩
  have HM := Lib.hid hm
  rw [hm] at hzn
  have HZ := Lib.hid hzn
  obtain ⟨D, hD⟩ : ∃ D, sizeText m = D := ⟨_, rfl⟩
  have HD := Lib.hid hD
  have hDl : D.length ≤ 64000 := by rw [← hD, ← hm]; exact sizeText_len ha.1 hn
  have hD1 : ¬ (9223372036854775807 < 1 + D.length) := by omega
  have hD2 : 1 + D.length ≤ 9223372036854775807 := by omega
  have HA0 : Hid (Num ((w.alloc (.cells #[.bool s, .slice A xs.length c] 24)).drew) A xs) := (ha.alloc _).drew
  have HT0 : Hid (Tab ((w.alloc (.cells #[.bool s, .slice A xs.length c] 24)).drew)) := htab.alloc _
  have HS0 : Hid (C2 w.heap.size (.bool s) (.slice A xs.length c) ((w.alloc (.cells #[.bool s, .slice A xs.length c] 24)).drew)) := C2.drew (C2.base _ _ _ _)
  have HB0 : Hid (Below w.heap.size w ((w.alloc (.cells #[.bool s, .slice A xs.length c] 24)).drew)) := ((Below.refl _ _).alloc (Nat.le_refl _) _).drew
  clear ha htab hm
  rcases Int.lt_trichotomy z 0 with hz | hz | hz
  · have HSG : Hid (z.sign = -1) := by show _ = _; first | exact Int.sign_eq_neg_one_of_neg hz | (rw [hz]; rfl) | exact Int.sign_eq_one_of_pos hz
    have HRES : Hid (45 :: D = textOf z) := by
      show _ = _
      rw [textOf_neg hz, hzn, hD]
    clear hz
    go_enter Tryz.func19, Tryz.ntmps19
    go_wp2_with fail
    rw [show Op.convert 66 9 (Operand.tmp 9) = hideC (Op.convert 66 9 (Operand.tmp 9)) from rfl]
    go_region_held3 (fun W => W.cell? ⟨w.heap.size, 0, none⟩ = some (.bool s) ∧ W.cell? ⟨w.heap.size, 1, none⟩ = some (.slice A xs.length c))
     (first | exact C2.below hb2 (by assumption) | exact C2.below hb1 (by assumption) | exact C2.drew (C2.base _ _ _ _) | assumption)
     (first
      | (go_at_call 42; (with_reducible refine (trim_at _ l D ?_).mono ?_); (exact htr.trans HD.out); rintro e w3 ⟨rfl, rfl⟩)
      | (go_at_call 43; (refine (adig_nil w1 A c m g k cp xs HM.out (by omega) (HA0.out.below hb1) (by rw [← HM.out]; exact hpn) hc hk2 hk0 hpw hkc (HT0.out.below hb1)).mono ?_); rintro e w2 ⟨b, n, mm, l, rfl, hcv, htr, hb2⟩; have hS2 := C2.below hb2 (C2.below hb1 HS0.out); have HN2 := Lib.hid ((HA0.out.below hb1).below hb2); have HB2 := Lib.hid (HB0.out.trans ((hb1.trans (hb2.mono hb1.size)).mono (by simp))))
      | (go_at_call 44; (with_reducible refine (powers_at _ A c xs ?_ hn hc).mono ?_); (exact HA0.out); rintro e w1 ⟨g, k, cp, rfl, hk0, hkc, hpw, hpn, hk2, hb1⟩))
    all_goals
      have c0 := hS2.1
      have c1 := hS2.2
      have HSGN := Lib.hid (sign_z w2 s A c xs z HN2.out HX.out (by omega) hc _ HSG.out)
      clear hS2 hcv htr hb2 hb1 hk2 hpn hpw hkc hk0 HA0 HT0 HS0 HB0
      go_wp2_with fail
      refine HSGN.out.mono ?_
      rintro e w4 ⟨rfl, hb4⟩
      have HB4 := Lib.hid (HB2.out.trans (hb4.mono HB2.out.size))
      clear hb4
      go_wp2_with fail
      go_ret
      exact rets_of HRES.out HB4.out
  · have HSG : Hid (z.sign = 0) := by show _ = _; first | exact Int.sign_eq_neg_one_of_neg hz | (rw [hz]; rfl) | exact Int.sign_eq_one_of_pos hz
    have HRES : Hid ([48] = textOf z) := by
      show _ = _
      rw [hz]; rfl
    clear hz
    go_enter Tryz.func19, Tryz.ntmps19
    go_wp2_with fail
    rw [show Op.convert 66 9 (Operand.tmp 9) = hideC (Op.convert 66 9 (Operand.tmp 9)) from rfl]
    go_region_held3 (fun W => W.cell? ⟨w.heap.size, 0, none⟩ = some (.bool s) ∧ W.cell? ⟨w.heap.size, 1, none⟩ = some (.slice A xs.length c))
     (first | exact C2.below hb2 (by assumption) | exact C2.below hb1 (by assumption) | exact C2.drew (C2.base _ _ _ _) | assumption)
     (first
      | (go_at_call 42; (with_reducible refine (trim_at _ l D ?_).mono ?_); (exact htr.trans HD.out); rintro e w3 ⟨rfl, rfl⟩)
      | (go_at_call 43; (refine (adig_nil w1 A c m g k cp xs HM.out (by omega) (HA0.out.below hb1) (by rw [← HM.out]; exact hpn) hc hk2 hk0 hpw hkc (HT0.out.below hb1)).mono ?_); rintro e w2 ⟨b, n, mm, l, rfl, hcv, htr, hb2⟩; have hS2 := C2.below hb2 (C2.below hb1 HS0.out); have HN2 := Lib.hid ((HA0.out.below hb1).below hb2); have HB2 := Lib.hid (HB0.out.trans ((hb1.trans (hb2.mono hb1.size)).mono (by simp))))
      | (go_at_call 44; (with_reducible refine (powers_at _ A c xs ?_ hn hc).mono ?_); (exact HA0.out); rintro e w1 ⟨g, k, cp, rfl, hk0, hkc, hpw, hpn, hk2, hb1⟩))
    all_goals
      have c0 := hS2.1
      have c1 := hS2.2
      have HSGN := Lib.hid (sign_z w2 s A c xs z HN2.out HX.out (by omega) hc _ HSG.out)
      clear hS2 hcv htr hb2 hb1 hk2 hpn hpw hkc hk0 HA0 HT0 HS0 HB0
      go_wp2_with fail
      refine HSGN.out.mono ?_
      rintro e w4 ⟨rfl, hb4⟩
      have HB4 := Lib.hid (HB2.out.trans (hb4.mono HB2.out.size))
      clear hb4
      go_wp2_with fail
      go_ret
      exact rets_of HRES.out HB4.out
  · have HSG : Hid (z.sign = 1) := by show _ = _; first | exact Int.sign_eq_neg_one_of_neg hz | (rw [hz]; rfl) | exact Int.sign_eq_one_of_pos hz
    have HRES : Hid (D = textOf z) := by
      show _ = _
      rw [textOf_pos hz, hzn, hD]
    clear hz
    go_enter Tryz.func19, Tryz.ntmps19
    go_wp2_with fail
    rw [show Op.convert 66 9 (Operand.tmp 9) = hideC (Op.convert 66 9 (Operand.tmp 9)) from rfl]
    go_region_held3 (fun W => W.cell? ⟨w.heap.size, 0, none⟩ = some (.bool s) ∧ W.cell? ⟨w.heap.size, 1, none⟩ = some (.slice A xs.length c))
     (first | exact C2.below hb2 (by assumption) | exact C2.below hb1 (by assumption) | exact C2.drew (C2.base _ _ _ _) | assumption)
     (first
      | (go_at_call 42; (with_reducible refine (trim_at _ l D ?_).mono ?_); (exact htr.trans HD.out); rintro e w3 ⟨rfl, rfl⟩)
      | (go_at_call 43; (refine (adig_nil w1 A c m g k cp xs HM.out (by omega) (HA0.out.below hb1) (by rw [← HM.out]; exact hpn) hc hk2 hk0 hpw hkc (HT0.out.below hb1)).mono ?_); rintro e w2 ⟨b, n, mm, l, rfl, hcv, htr, hb2⟩; have hS2 := C2.below hb2 (C2.below hb1 HS0.out); have HN2 := Lib.hid ((HA0.out.below hb1).below hb2); have HB2 := Lib.hid (HB0.out.trans ((hb1.trans (hb2.mono hb1.size)).mono (by simp))))
      | (go_at_call 44; (with_reducible refine (powers_at _ A c xs ?_ hn hc).mono ?_); (exact HA0.out); rintro e w1 ⟨g, k, cp, rfl, hk0, hkc, hpw, hpn, hk2, hb1⟩))
    all_goals
      have c0 := hS2.1
      have c1 := hS2.2
      have HSGN := Lib.hid (sign_z w2 s A c xs z HN2.out HX.out (by omega) hc _ HSG.out)
      clear hS2 hcv htr hb2 hb1 hk2 hpn hpw hkc hk0 HA0 HT0 HS0 HB0
      go_wp2_with fail
      refine HSGN.out.mono ?_
      rintro e w4 ⟨rfl, hb4⟩
      have HB4 := Lib.hid (HB2.out.trans (hb4.mono HB2.out.size))
      clear hb4
      go_wp2_with fail
      go_ret
      exact rets_of HRES.out HB4.out
end Go.Proofs.YtmbnlhedbedcdaaGreatDoor.D

/- isNumeral, walked. -/
namespace Go.Proofs.YtmbnlhedbedcdaaGreatDoor.D
open Go.RowKit

/-- A decimal digit. -/
def isDig (c : UInt8) : Bool := 48 ≤ c.toNat && c.toNat ≤ 57
/-- Digits and nothing else, with no 0 ahead of another one, nor behind a sign. -/
def isNumB (l : List UInt8) (b : Bool) : Bool :=
  match l with
  | [] => false
  | x :: r => !(x == 48 && (b || !r.isEmpty)) && (x :: r).all isDig
theorem isNumB_nil (b : Bool) : isNumB [] b = false := rfl

theorem dig_snoc {l : List UInt8} {i : Nat} {y : UInt8} (h : ∀ j, j < i → ∃ c, l[j]? = some c ∧ isDig c = true) (hy : l[i]? = some y) (hd : isDig y = true) : Hid (∀ j, j < i + 1 → ∃ c, l[j]? = some c ∧ isDig c = true) := by
  intro j hj
  by_cases e : j < i
  · exact h j e
  · obtain rfl : j = i := by omega
    exact ⟨y, hy, hd⟩
theorem all_of {l : List UInt8} {i : Nat} (h : ∀ j, j < i → ∃ c, l[j]? = some c ∧ isDig c = true) (hi : i = l.length) : l.all isDig = true := by
  rw [List.all_eq_true]
  intro x hx
  obtain ⟨j, hj, rfl⟩ := List.getElem_of_mem hx
  obtain ⟨c, e, hc⟩ := h j (by omega)
  rw [List.getElem?_eq_getElem hj] at e
  injection e with e
  rw [e]; exact hc
theorem not_all {l : List UInt8} {i : Nat} {y : UInt8} (hy : l[i]? = some y) (hd : isDig y = false) : l.all isDig = false := by
  rw [List.all_eq_false]
  exact ⟨y, List.mem_of_getElem? hy, by rw [hd]; decide⟩
end Go.Proofs.YtmbnlhedbedcdaaGreatDoor.D

/- lift, gather: a numeral's value. -/
namespace Go.Proofs.YtmbnlhedbedcdaaGreatDoor.D
open Go.RowKit

theorem Num.one (w : World) (x : Nat) (hx : x < 18446744073709551616) : Num (w.alloc (.cells #[.int .u64 x] 36)) (some ⟨w.heap.size, 0, none⟩) [x] :=
  (Blk.lit w [x]).num (Digs.cons (by rw [B64_eq]; exact hx) Digs.nil)
theorem val_one (x : Nat) : val [x] = x := by simp [val]
theorem dig_mul_len {s sc k : Nat} (hl : (dig s).length ≤ k) (hsc : sc < 18446744073709551616) : (dig (s * sc)).length ≤ k + 1 := by
  refine dig_length_le ?_
  rw [Nat.pow_succ]
  have h1 := val_lt (dig_digs s)
  rw [val_dig] at h1
  exact Nat.mul_lt_mul'' (Nat.lt_of_lt_of_le h1 (Nat.pow_le_pow_right (by rw [B64_eq]; omega) hl)) (by rw [B64_eq]; exact hsc)
/-- The number whose digits they are. -/
def dnum (l : List UInt8) : Nat := l.foldl (fun a c => 10 * a + (c.toNat - 48)) 0
theorem dnum_snoc (l : List UInt8) (c : UInt8) : dnum (l ++ [c]) = 10 * dnum l + (c.toNat - 48) := by unfold dnum; rw [List.foldl_append]; rfl
theorem dnum_take {l : List UInt8} {i : Nat} {c : UInt8} (h : l[i]? = some c) : dnum (l.take (i + 1)) = 10 * dnum (l.take i) + (c.toNat - 48) := by
  rw [List.take_add_one, h]
  exact dnum_snoc _ _
theorem isDig_range {c : UInt8} (h : isDig c = true) : 48 ≤ c.toNat ∧ c.toNat ≤ 57 := by unfold isDig at h; simpa using h
theorem dnum_lt : ∀ (n : Nat) (l : List UInt8), l.length = n → l.all isDig = true → dnum l < 10 ^ n := by
  intro n
  induction n with
  | zero => intro l h _; rw [List.length_eq_zero_iff.1 h]; decide
  | succ n ih =>
    intro l h hd
    have hne : l ≠ [] := by intro e; rw [e] at h; simp at h
    have e := List.dropLast_concat_getLast hne
    have hlast : isDig (l.getLast hne) = true := List.all_eq_true.1 hd _ (List.getLast_mem hne)
    have hdl : l.dropLast.all isDig = true := by
      rw [List.all_eq_true] at hd ⊢
      exact fun x hx => hd x (List.dropLast_subset l hx)
    have h1 := ih l.dropLast (by rw [List.length_dropLast]; omega) hdl
    have h2 := isDig_range hlast
    rw [← e, dnum_snoc, Nat.pow_succ]
    omega
theorem all_take {l : List UInt8} (h : l.all isDig = true) (n : Nat) : (l.take n).all isDig = true := by
  rw [List.all_eq_true] at h ⊢
  exact fun x hx => h x (List.mem_of_mem_take hx)
theorem dig_len10 {n k : Nat} (h : n < 10 ^ k) : (dig n).length ≤ k := dig_length_le (Nat.lt_of_lt_of_le h (Nat.pow_le_pow_left (by rw [B64_eq]; omega) _))
theorem Num.iterAt {w : World} {A : Option Addr} {xs : List Nat} {k pos : Nat} {s : ByteArray} (h : Num w A xs) (hk : w.heap[k]? = some (.stringIter s pos)) (pos' : Nat) : Num (w.iterAt k s pos') A xs :=
  ⟨h.1, fun hn => by
    obtain ⟨b, off, e, hlt, hc⟩ := h.2 hn
    refine ⟨b, off, e, by rw [Lib.iterAt_size]; exact hlt, fun i hi => ?_⟩
    refine (World.cell?_of_block (Lib.iterAt_other w k b s pos' ?_)).trans (hc i hi)
    intro e2
    subst e2
    have := hc i hi
    unfold World.cell? at this
    simp only [hk] at this
    cases this⟩
end Go.Proofs.YtmbnlhedbedcdaaGreatDoor.D

/- digits.Parse, walked. -/
namespace Go.Proofs.YtmbnlhedbedcdaaGreatDoor.D
open Go.RowKit

theorem foldl_dnum (l : List UInt8) (a : Nat) : l.foldl (fun a c => 10 * a + (c.toNat - 48)) a = a * 10 ^ l.length + dnum l := by
  unfold dnum
  induction l generalizing a with
  | nil => simp
  | cons c l ih =>
    rw [List.foldl_cons, List.foldl_cons, ih, ih (10 * 0 + _), List.length_cons, Nat.pow_succ, Nat.add_mul]
    rw [Nat.mul_comm 10 a, Nat.mul_assoc, Nat.mul_comm 10]
    simp [Nat.add_assoc]
theorem dnum_cons (c : UInt8) (l : List UInt8) : dnum (c :: l) = (c.toNat - 48) * 10 ^ l.length + dnum l := by
  have h := foldl_dnum l (10 * 0 + (c.toNat - 48))
  rw [show 10 * 0 + (c.toNat - 48) = c.toNat - 48 by omega] at h
  rw [← h]
  unfold dnum
  rw [List.foldl_cons]
  simp
/-- Whether a sign stands ahead, and the digits behind it. -/
def signed (l : List UInt8) : Bool := Lib.hasPrefix l [45]
def behind (l : List UInt8) : List UInt8 := Lib.trimPrefix l [45]
/-- What Parse tells. -/
def parseV (l : List UInt8) : Int × Int :=
  if isNumB (behind l) (signed l) then (if 600 < (behind l).length then (0, 3) else (zv (signed l) (dnum (behind l)), 0)) else (0, 11)
theorem num_sign {d : List UInt8} {b : Bool} (h : isNumB d b = true) : zneg (zv b (dnum d)) = b := by
  match d, h with
  | x :: r, h =>
    unfold isNumB at h
    simp only [Bool.and_eq_true, Bool.not_eq_true'] at h
    cases b with
    | false => unfold zv zneg; simp
    | true =>
      simp only [Bool.true_or, Bool.and_true] at h
      have hx : x ≠ 48 := by have := h.1; rw [beq_eq_false_iff_ne] at this; exact this
      have hd := isDig_range (List.all_eq_true.1 h.2 x (List.mem_cons_self ..))
      have hne : x.toNat ≠ 48 := fun e => hx (UInt8.toNat_inj.1 e)
      have h1 : 0 < 10 ^ r.length := Nat.pow_pos (by omega)
      have h2 : 1 * 10 ^ r.length ≤ (x.toNat - 48) * 10 ^ r.length := Nat.mul_le_mul_right _ (by omega)
      have h3 := dnum_cons x r
      have h4 : dnum (x :: r) ≠ 0 := by omega
      show zneg (-((dnum (x :: r) : Nat) : Int)) = true
      unfold zneg
      simp
      omega
theorem num_all {d : List UInt8} {b : Bool} (h : isNumB d b = true) : d.all isDig = true := by
  match d, h with
  | x :: r, h =>
    unfold isNumB at h
    rw [Bool.and_eq_true] at h
    exact h.2
/-- A whole number and an error's number. -/
def RetPZ (w : World) (z code : Int) (e : Ending) (w' : World) : Prop :=
  ∃ A c, e = .returned (.tuple #[.agg #[.bool (zneg z), .slice A (dig z.natAbs).length c], .int .i64 code]) ∧ (dig z.natAbs).length ≤ c ∧ Num w' A (dig z.natAbs) ∧ Below w.heap.size w w'
theorem retp_of {w w4 wf : World} {s : Bool} {m c g : Nat} {z code : Int} {A A0 : Option Addr} {s0 : Bool} {n0 c0 : Nat} (hs : zneg z = s) (hm : z.natAbs = m) (hc : (dig m).length ≤ c) (hA : Num w4 A (dig m)) (hg : Ibx w4 g s0 A0 n0 c0) (hgw : w.heap.size ≤ g) (hb : Below w.heap.size w w4)
    (v0 v1 : Value) (hwf : wf = (w4.setCell ⟨g, 0, none⟩ v0).setCell ⟨g, 1, none⟩ v1) : RetPZ w z code (.returned (.tuple #[.agg #[.bool s, .slice A (dig m).length c], .int .i64 code])) wf := by
  subst hs hm hwf
  exact ⟨A, c, rfl, hc, hA.two hg _ _, (hb.setCell hgw _).setCell hgw _⟩
theorem retp_zero {w w4 wf : World} {code : Int} {g : Nat} {A0 : Option Addr} {s0 : Bool} {n0 c0 : Nat} (_hg : Ibx w4 g s0 A0 n0 c0) (hgw : w.heap.size ≤ g) (hb : Below w.heap.size w w4)
    (v0 v1 : Value) (hwf : wf = (w4.setCell ⟨g, 0, none⟩ v0).setCell ⟨g, 1, none⟩ v1) : RetPZ w 0 code (.returned (.tuple #[.agg #[.bool false, .slice none 0 0], .int .i64 code])) wf := by
  have hz : dig ((0 : Int).natAbs) = [] := dig_zero
  subst hwf
  exact ⟨none, 0, by rw [hz]; rfl, by rw [hz]; exact Nat.le_refl _, by rw [hz]; exact Num.nil _ _, (hb.setCell hgw _).setCell hgw _⟩
end Go.Proofs.YtmbnlhedbedcdaaGreatDoor.D

/- Text and Parse, one behind the other: mathematics. -/
namespace Go.Proofs.YtmbnlhedbedcdaaGreatDoor.D
open Go.RowKit

theorem ofNat_sub {c : UInt8} (h : isDig c = true) : UInt8.ofNat (48 + (c.toNat - 48)) = c := by
  have h1 := isDig_range h
  rw [show 48 + (c.toNat - 48) = c.toNat by omega]
  exact UInt8.ofNat_toNat
theorem toNat_dig {k : Nat} (h : k < 10) : (UInt8.ofNat (48 + k)).toNat = 48 + k := by
  rw [UInt8.toNat_ofNat']
  omega
theorem isDig_ofNat {k : Nat} (h : k < 10) : isDig (UInt8.ofNat (48 + k)) = true := by
  unfold isDig
  rw [toNat_dig h]
  simp
  omega
theorem dec_all (n : Nat) : (Lib.decDigits n).all isDig = true := by
  induction n using Nat.strongRecOn with
  | _ n ih =>
    by_cases h : n < 10
    · rw [Lib.decDigits_one h, List.all_cons, List.all_nil, isDig_ofNat h]; rfl
    · rw [Lib.decDigits, dif_neg h, List.all_append, ih (n / 10) (by omega), List.all_cons, List.all_nil, isDig_ofNat (Nat.mod_lt n (by omega))]; rfl
theorem dnum_dec (n : Nat) : dnum (Lib.decDigits n) = n := by
  induction n using Nat.strongRecOn with
  | _ n ih =>
    by_cases h : n < 10
    · rw [Lib.decDigits_one h]
      show 10 * 0 + ((UInt8.ofNat (48 + n)).toNat - 48) = n
      rw [toNat_dig h]; omega
    · rw [Lib.decDigits, dif_neg h, dnum_snoc, ih (n / 10) (by omega), toNat_dig (Nat.mod_lt n (by omega))]
      omega
theorem dnum_pos {x : UInt8} {r : List UInt8} (hx : x ≠ 48) (h : (x :: r).all isDig = true) : 0 < dnum (x :: r) := by
  have hd := isDig_range (List.all_eq_true.1 h x (List.mem_cons_self ..))
  have hne : x.toNat ≠ 48 := fun e => hx (UInt8.toNat_inj.1 e)
  have h1 : 0 < 10 ^ r.length := Nat.pow_pos (by omega)
  have h2 : 1 * 10 ^ r.length ≤ (x.toNat - 48) * 10 ^ r.length := Nat.mul_le_mul_right _ (by omega)
  have h3 := dnum_cons x r
  omega
theorem dec_dnum : ∀ (n : Nat) (x : UInt8) (r : List UInt8), r.length = n → (x :: r).all isDig = true → (x ≠ 48 ∨ r = []) → Lib.decDigits (dnum (x :: r)) = x :: r := by
  intro n
  induction n with
  | zero =>
    intro x r hr h _
    have hr0 := List.length_eq_zero_iff.1 hr
    subst hr0
    have hx := List.all_eq_true.1 h x (List.mem_cons_self ..)
    have h1 := isDig_range hx
    have e : dnum [x] = x.toNat - 48 := by show 10 * 0 + (x.toNat - 48) = _; omega
    rw [e, Lib.decDigits_one (by omega), ofNat_sub hx]
  | succ n ih =>
    intro x r hr h hh
    have hne : r ≠ [] := by intro e; rw [e] at hr; simp at hr
    have hx : x ≠ 48 := by rcases hh with h1 | h1; exact h1; exact absurd h1 hne
    have e := List.dropLast_concat_getLast hne
    obtain ⟨c, hc⟩ : ∃ c, r.getLast hne = c := ⟨_, rfl⟩
    obtain ⟨q, hq⟩ : ∃ q, r.dropLast = q := ⟨_, rfl⟩
    rw [hc, hq] at e
    rw [← e] at h ⊢
    have hq2 : (x :: q).all isDig = true ∧ isDig c = true := by
      rw [← List.cons_append, List.all_append] at h
      simpa using h
    have hql : q.length = n := by rw [← hq, List.length_dropLast]; omega
    have h1 := ih x q hql hq2.1 (.inl hx)
    have hp := dnum_pos hx hq2.1
    have hr1 := isDig_range hq2.2
    rw [← List.cons_append, dnum_snoc]
    rw [Lib.decDigits, dif_neg (by omega)]
    rw [show (10 * dnum (x :: q) + (c.toNat - 48)) / 10 = dnum (x :: q) by omega, show (10 * dnum (x :: q) + (c.toNat - 48)) % 10 = c.toNat - 48 by omega, h1, ofNat_sub hq2.2]
/-- A sign and digits. -/
theorem signed_of {l : List UInt8} (h : signed l = true) : l = 45 :: behind l := by
  match l, h with
  | x :: r, h =>
    have hx : x = 45 := by
      unfold signed Lib.hasPrefix at h
      simp [List.isPrefixOf] at h
      exact h.symm
    subst hx
    unfold behind Lib.trimPrefix
    rw [if_pos (by unfold signed at h; exact h)]
    rfl
theorem behind_of {l : List UInt8} (h : signed l = false) : behind l = l := by
  unfold behind Lib.trimPrefix
  rw [if_neg (by unfold signed at h; rw [h]; decide)]
theorem signed_cons (r : List UInt8) : signed (45 :: r) = true := by unfold signed Lib.hasPrefix; simp [List.isPrefixOf]
theorem signed_dig {l : List UInt8} (h : l.all isDig = true) : signed l = false := by
  cases hs : signed l with
  | false => rfl
  | true =>
    have e := signed_of hs
    rw [e] at h
    have := isDig_range (List.all_eq_true.1 h 45 (List.mem_cons_self ..))
    simp at this
theorem behind_cons (r : List UInt8) : behind (45 :: r) = r := by
  exact (List.cons.inj (signed_of (signed_cons r))).2.symm
/-- A numeral is its number's text. -/
theorem text_num {d : List UInt8} {b : Bool} (h : isNumB d b = true) : textOf (zv b (dnum d)) = if b = true then 45 :: d else d := by
  match d, h with
  | x :: r, h =>
    unfold isNumB at h
    simp only [Bool.and_eq_true, Bool.not_eq_true', Bool.and_eq_false_iff, Bool.or_eq_false_iff] at h
    have hx : x ≠ 48 ∨ r = [] := by
      rcases h.1 with h1 | h1
      · left; rw [beq_eq_false_iff_ne] at h1; exact h1
      · right; have := h1.2; simpa using this
    have hdd := dec_dnum _ x r rfl h.2 hx
    cases b with
    | true =>
      have hx2 : x ≠ 48 := by
        rcases h.1 with h1 | h1
        · rw [beq_eq_false_iff_ne] at h1; exact h1
        · exact absurd h1.1 (by decide)
      have hp := dnum_pos hx2 h.2
      have hz : zv true (dnum (x :: r)) < 0 := by unfold zv; simp; omega
      rw [textOf_neg hz, zv_natAbs]
      unfold sizeText
      rw [if_neg (by omega), hdd]
      rfl
    | false =>
      simp only [Bool.false_eq_true, if_false]
      by_cases h0 : dnum (x :: r) = 0
      · have hx48 : x = 48 := by
          rcases Decidable.em (x = 48) with h1 | h1
          · exact h1
          · have := dnum_pos h1 h.2; omega
        have hr : r = [] := by
          rcases hx with h1 | h1
          · exact absurd hx48 h1
          · exact h1
        subst hx48 hr
        rfl
      · have hz : 0 < zv false (dnum (x :: r)) := by unfold zv; simp; omega
        rw [textOf_pos hz, zv_natAbs]
        unfold sizeText
        rw [if_neg h0, hdd]
/-- Text of what Parse tells is the text. -/
theorem text_parse {l : List UInt8} {z : Int} (h : parseV l = (z, 0)) : textOf z = l := by
  unfold parseV at h
  by_cases hn : isNumB (behind l) (signed l) = true
  · rw [if_pos hn] at h
    by_cases hl : 600 < (behind l).length
    · rw [if_pos hl] at h
      injection h with _ h
      exact absurd h (by decide)
    · rw [if_neg hl] at h
      injection h with h _
      rw [← h, text_num hn]
      cases hs : signed l with
      | true => rw [if_pos rfl]; exact (signed_of hs).symm
      | false => simp only [Bool.false_eq_true, if_false]; exact behind_of hs
  · rw [if_neg hn] at h
    injection h with _ h
    exact absurd h (by decide)
theorem num_dec {n : Nat} (h : 0 < n) (b : Bool) : isNumB (Lib.decDigits n) b = true := by
  obtain ⟨d, r, e, hd⟩ := dg_top h
  have ha := dec_all n
  rw [e] at ha ⊢
  unfold isNumB
  have : (d == 48) = false := by rw [beq_eq_false_iff_ne]; exact hd
  simp only [this, Bool.false_and, Bool.not_false, Bool.true_and]
  exact ha
/-- Parse of a number's text is the number. -/
theorem parse_text {z : Int} (h : (Lib.decDigits z.natAbs).length ≤ 600) : parseV (textOf z) = (z, 0) := by
  rcases Int.lt_trichotomy z 0 with hz | hz | hz
  · have hp : 0 < z.natAbs := by omega
    rw [textOf_neg hz]
    unfold sizeText
    rw [if_neg (by omega)]
    unfold parseV
    rw [signed_cons, behind_cons, if_pos (num_dec hp true), if_neg (by omega), dnum_dec]
    congr 1
    unfold zv
    simp; omega
  · subst hz; decide
  · have hp : 0 < z.natAbs := by omega
    rw [textOf_pos hz]
    unfold sizeText
    rw [if_neg (by omega)]
    unfold parseV
    rw [signed_dig (dec_all _), behind_of (signed_dig (dec_all _)), if_pos (num_dec hp false), if_neg (by omega), dnum_dec]
    congr 1
    unfold zv
    simp; omega
end Go.Proofs.YtmbnlhedbedcdaaGreatDoor.D

/- digits' law: awake. -/
namespace Go.Proofs.YtmbnlhedbedcdaaGreatDoor.D
open Go.RowKit

theorem text_at (w : World) (s : Bool) (A : Option Addr) (c : Nat) (xs : List Nat) (z : Int) (l : List UInt8) (ha : Num w A xs) (hx : zv s (val xs) = z) (hl : textOf z = l) (hn : xs.length ≤ 1000) (hc : xs.length ≤ c) (htab : Tab w) :
    Calls Tryz.prog 19 #[.agg #[.bool s, .slice A xs.length c]] w (RetS w l) := by subst hl; exact text_any w s A c xs z ha hx hn hc htab
theorem small_at (w : World) (s : Bool) (A : Option Addr) (c : Nat) (xs : List Nat) (z : Int) (k : Int) (b : Bool) (ha : Num w A xs) (hx : zv s (val xs) = z) (hk : smallv z = k) (hb : smallb z = b) (hn : xs.length ≤ 1000) (hc : xs.length ≤ c) :
    Calls Tryz.prog 87 #[.agg #[.bool s, .slice A xs.length c]] w (fun e w' => e = .returned (.tuple #[.int .i64 k, .bool b]) ∧ Below w.heap.size w w') := by
  subst hk; subst hb; exact small_any w s A c xs z ha hx (by omega) hc
theorem zl_le {z : Int} (h1 : -9223372036854775808 ≤ z) (h2 : z ≤ 9223372036854775807) : (dig z.natAbs).length ≤ 1000 := Nat.le_trans (zl_small h1 h2) (by omega)
end Go.Proofs.YtmbnlhedbedcdaaGreatDoor.D
