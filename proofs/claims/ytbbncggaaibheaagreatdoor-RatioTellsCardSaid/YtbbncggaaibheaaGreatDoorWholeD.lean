/- whole: Of, Small. -/
import Derived.Test.YtbbncggaaibheaaGreatDoorWholeC
namespace Go.Proofs.YtbbncggaaibheaaGreatDoor
open Go.RowKit

theorem u64_neg_wrap {n : Int} (h1 : -9223372036854775808 ≤ n) (h2 : n < 0) : IntKind.u64.wrap (-IntKind.u64.wrap n) = ((n.natAbs : Nat) : Int) := by
  rw [IntKind.wrap_u64, IntKind.wrap_u64]; omega
theorem u64_wrap_nonneg {n : Int} (h1 : n ≤ 9223372036854775807) (h2 : 0 ≤ n) : IntKind.u64.wrap n = ((n.natAbs : Nat) : Int) := by
  rw [IntKind.wrap_u64]; omega

theorem Blk.lit1' (w : World) (x : Nat) : Blk (w.alloc (.cells #[.int .u64 (x : Int)] 30)) w.heap.size [x] := Blk.lit w [x]

theorem of_tail (W1 : World) (p : Nat) (z : Int) (hp : p = W1.heap.size) (hlt : z.natAbs < B64) :
    Calls Tryz.prog 66 #[.slice (some ⟨p, 0, none⟩) 1 1] (W1.alloc (.cells #[.int .u64 ((z.natAbs : Nat) : Int)] 30))
      fun e w3 => ∃ A3 c3, e = .returned (.slice A3 (dig z.natAbs).length c3) ∧ (dig z.natAbs).length ≤ c3 ∧ (dig z.natAbs).length ≤ 1 ∧ Num w3 A3 (dig z.natAbs) ∧ Below (W1.alloc (.cells #[.int .u64 ((z.natAbs : Nat) : Int)] 30)).heap.size (W1.alloc (.cells #[.int .u64 ((z.natAbs : Nat) : Int)] 30)) w3 := by
  subst hp
  have hd : Digs [z.natAbs] := Digs.cons hlt Digs.nil
  have h := trim_v (W1.alloc (.cells #[.int .u64 ((z.natAbs : Nat) : Int)] 30)) (some ⟨W1.heap.size, 0, none⟩) 1 [z.natAbs] z.natAbs ((Blk.lit1' W1 z.natAbs).num hd) (by rw [val_cons, val_nil]; omega) (by simp) (by simp)
  refine h.mono ?_
  rintro e w3 ⟨A3, c3, rfl, hc3, h3, hb3⟩
  exact ⟨A3, c3, rfl, hc3, dig_length_le (by rw [Nat.pow_one]; exact hlt), h3, hb3⟩

set_option maxHeartbeats 2000000 in
theorem of_any (w : World) (z : Int) (h1 : -9223372036854775808 ≤ z) (h2 : z ≤ 9223372036854775807) :
    Calls Tryz.prog 9 #[.int .i64 z] w (RetZ w z) := by
  have hlt : z.natAbs < B64 := by rw [B64_eq]; omega
  have HLT := Lib.hid hlt
  clear hlt
  by_cases hs : z < 0
  · have hw1 := u64_neg_wrap h1 hs
    have HZ : Hid (zv true z.natAbs = z) := by show _ = _; simp only [zv, if_true]; omega
    go_enter Tryz.func9, Tryz.ntmps9
    go_wp2_with fail
    refine (signOf_any _ _).mono ?_
    rintro e w1 ⟨rfl, rfl⟩
    have S1 : Sbx ((w.alloc (.cells #[.bool false, .slice none 0 0] 25)).alloc (.cells #[.bool true] 4)) (w.heap.size + 1) true := Sbx.new' _ _ _ (by simp)
    have I1 : Ibx ((w.alloc (.cells #[.bool false, .slice none 0 0] 25)).alloc (.cells #[.bool true] 4)) w.heap.size false none 0 0 := (Ibx.new' _ _ _ _ _ _ rfl).alloc _
    have W1 : Below w.heap.size w ((w.alloc (.cells #[.bool false, .slice none 0 0] 25)).alloc (.cells #[.bool true] 4)) := ((Below.refl _ _).alloc (Nat.le_refl _) _).alloc (by simp) _
    have HS := Lib.hid S1
    have HI := Lib.hid I1
    have HW := Lib.hid W1
    have HT := Lib.hid (of_tail ((w.alloc (.cells #[.bool false, .slice none 0 0] 25)).alloc (.cells #[.bool true] 4)) (w.heap.size + 1 + 1) z (by simp) HLT.out)
    clear S1 I1 W1
    go_wp2_with fail
    refine HT.out.mono ?_
    rintro e w3 ⟨A3, c3, rfl, hc3, hl3, ha3, hb3⟩
    have HN := Lib.hid (number_at w _ w3 (w.heap.size + 1) w.heap.size c3 z.natAbs true false A3 none 0 0 (HS.out.alloc _) (HI.out.alloc _) (HW.out.alloc HW.out.size _) hb3 ha3 (by omega) hc3)
    clear hb3 HS HI HW HT ha3
    go_wp2_with fail
    refine HN.out.mono ?_
    rintro e w4 ⟨rfl, n4, I4, hb4, -⟩
    have c0 := I4.c0
    have c1 := I4.c1
    have f0 := I4.f 0
    have f1 := I4.f 1
    have N4 := Lib.hid n4
    have J4 := Lib.hid I4
    have B4 := Lib.hid hb4
    clear n4 I4 hb4 HN
    go_wp2_with fail
    refine bodyPost_ret (v := .agg #[.bool (zneg (zv true z.natAbs)), .slice A3 (dig z.natAbs).length c3]) (by simp [results, Tryz.results9, go_sem, c0, c1]) rfl ?_
    exact retz_of HZ.out hc3 N4.out J4.out (Nat.le_refl _) B4.out _ _ rfl
  · have hw1 := u64_wrap_nonneg h2 (by omega)
    have HZ : Hid (zv false z.natAbs = z) := by show _ = _; simp only [zv]; rw [if_neg (by simp)]; omega
    go_enter Tryz.func9, Tryz.ntmps9
    go_wp2_with fail
    refine (signOf_any _ _).mono ?_
    rintro e w1 ⟨rfl, rfl⟩
    have S1 : Sbx ((w.alloc (.cells #[.bool false, .slice none 0 0] 25)).alloc (.cells #[.bool false] 4)) (w.heap.size + 1) false := Sbx.new' _ _ _ (by simp)
    have I1 : Ibx ((w.alloc (.cells #[.bool false, .slice none 0 0] 25)).alloc (.cells #[.bool false] 4)) w.heap.size false none 0 0 := (Ibx.new' _ _ _ _ _ _ rfl).alloc _
    have W1 : Below w.heap.size w ((w.alloc (.cells #[.bool false, .slice none 0 0] 25)).alloc (.cells #[.bool false] 4)) := ((Below.refl _ _).alloc (Nat.le_refl _) _).alloc (by simp) _
    have HS := Lib.hid S1
    have HI := Lib.hid I1
    have HW := Lib.hid W1
    have HT := Lib.hid (of_tail ((w.alloc (.cells #[.bool false, .slice none 0 0] 25)).alloc (.cells #[.bool false] 4)) (w.heap.size + 1 + 1) z (by simp) HLT.out)
    clear S1 I1 W1
    go_wp2_with fail
    refine HT.out.mono ?_
    rintro e w3 ⟨A3, c3, rfl, hc3, hl3, ha3, hb3⟩
    have HN := Lib.hid (number_at w _ w3 (w.heap.size + 1) w.heap.size c3 z.natAbs false false A3 none 0 0 (HS.out.alloc _) (HI.out.alloc _) (HW.out.alloc HW.out.size _) hb3 ha3 (by omega) hc3)
    clear hb3 HS HI HW HT ha3
    go_wp2_with fail
    refine HN.out.mono ?_
    rintro e w4 ⟨rfl, n4, I4, hb4, -⟩
    have c0 := I4.c0
    have c1 := I4.c1
    have f0 := I4.f 0
    have f1 := I4.f 1
    have N4 := Lib.hid n4
    have J4 := Lib.hid I4
    have B4 := Lib.hid hb4
    clear n4 I4 hb4 HN
    go_wp2_with fail
    refine bodyPost_ret (v := .agg #[.bool (zneg (zv false z.natAbs)), .slice A3 (dig z.natAbs).length c3]) (by simp [results, Tryz.results9, go_sem, c0, c1]) rfl ?_
    exact retz_of HZ.out hc3 N4.out J4.out (Nat.le_refl _) B4.out _ _ rfl

/-- What Small tells. -/
def smallv (z : Int) : Int := if -9223372036854775808 ≤ z ∧ z ≤ 9223372036854775807 then z else 0
def smallb (z : Int) : Bool := decide (-9223372036854775808 ≤ z ∧ z ≤ 9223372036854775807)

theorem one_digit {xs : List Nat} (hd : Digs xs) (h : val xs < B64) (hp : 0 < xs.length) : val xs = dg xs 0 := by
  cases xs with
  | nil => simp at hp
  | cons x r =>
    rw [val_cons] at h ⊢
    have h1 : val r = 0 := by
      rcases Nat.eq_zero_or_pos (val r) with h2 | h2
      · exact h2
      · have := Nat.mul_le_mul_left B64 h2
        omega
    rw [h1]; rfl
theorem blen_small {m : Nat} : blen m ≤ 64 ↔ m < B64 := by
  constructor
  · intro h
    have h1 := blen_lt m
    have h2 : 2 ^ blen m ≤ 2 ^ 64 := Nat.pow_le_pow_right (by omega) h
    rw [B64_pow]; omega
  · intro h
    exact blen_le_of_lt (by rw [← B64_pow]; exact h)

set_option maxHeartbeats 2000000 in
theorem small_any (w : World) (s : Bool) (A : Option Addr) (c : Nat) (xs : List Nat) (z : Int) (ha : Num w A xs) (hx : zv s (val xs) = z) (hn : xs.length ≤ 1000000) (hc : xs.length ≤ c) :
    Calls Tryz.prog 166 #[.agg #[.bool s, .slice A xs.length c]] w fun e w' => e = .returned (.tuple #[.int .i64 (smallv z), .bool (smallb z)]) ∧ Below w.heap.size w w' := by
  have HB := Lib.hid (fun o => bits_any (w.alloc o) A c xs (ha.alloc o) (by omega) hc)
  have HW : Hid (Below w.heap.size w (w.alloc (.cells #[.bool s, .slice A xs.length c] 25))) := (Below.refl _ _).alloc (Nat.le_refl _) _
  have hdl := dig_length_val ha.1
  obtain ⟨m, hm⟩ : ∃ m, val xs = m := ⟨_, rfl⟩
  rw [hm] at hx hdl HB
  by_cases h0 : m = 0
  · have hz : (((blen m : Nat) : Int) == 0) = true := by rw [h0, blen_zero]; rfl
    have HZ : Hid (z = 0) := by show _ = _; rw [← hx, h0, zv_zero]
    clear ha hx hm h0
    go_enter Tryz.func166, Tryz.ntmps166
    go_wp2_with fail
    refine (HB.out _).mono ?_
    rintro e w' ⟨rfl, rfl⟩
    go_wp2_with fail
    go_ret2
    rw [HZ.out]
    exact ⟨rfl, HW.out⟩
  · have hz : (((blen m : Nat) : Int) == 0) = false := by rw [beq_eq_false_iff_ne]; have := blen_pos h0; omega
    have hxp : 0 < xs.length := by
      rcases Nat.eq_zero_or_pos xs.length with h | h
      · rw [List.length_eq_zero_iff.1 h] at hm; exact absurd hm.symm h0
      · exact h
    have hxp' : (0 : Int) < (xs.length : Int) := by omega
    obtain ⟨b1, o1, rfl, hb1, hcell⟩ := ha.at_ hxp
    have hx0 := hcell 0 hxp
    rw [Nat.add_zero] at hx0
    have hx1 : (w.alloc (.cells #[.bool s, .slice (some ⟨b1, o1, none⟩) xs.length c] 25)).cell? ⟨b1, o1, none⟩ = some (.int .u64 ((dg xs 0 : Nat) : Int)) := (World.cell?_alloc_lt w _ _ hb1).trans hx0
    have hdg := dg_lt ha.1 0
    have h64 : m < B64 → m = dg xs 0 := fun h => hm ▸ one_digit ha.1 (hm ▸ h) hxp
    by_cases hbig : m < B64
    · have hbl := blen_small.2 hbig
      have hbl' : ¬ (64 : Int) < ((blen m : Nat) : Int) := by omega
      have hbd : decide ((64 : Int) < ((blen m : Nat) : Int)) = false := decide_eq_false hbl'
      have hmx := h64 hbig
      rw [← hmx] at hx1
      cases s with
      | false =>
        have hzm : z = (m : Int) := by rw [← hx]; simp [zv]
        by_cases hf : m ≤ 9223372036854775807
        · have g1 : ¬ (9223372036854775807 : Int) < (m : Int) := by omega
          have gd : decide ((9223372036854775807 : Int) < (m : Int)) = false := decide_eq_false g1
          have HV : Hid (smallv z = (m : Int)) := by show _ = _; unfold smallv; rw [if_pos (by omega)]; exact hzm
          have HF : Hid (smallb z = true) := by show _ = _; unfold smallb; exact decide_eq_true (by omega)
          have hwr : IntKind.i64.wrap (m : Int) = (m : Int) := IntWalk.i64_in _ (by omega)
          clear ha hx hm h0 hx0 hcell h64 hmx hzm hbig hdg
          go_enter Tryz.func166, Tryz.ntmps166
          go_wp2_with fail
          refine (HB.out _).mono ?_
          rintro e w' ⟨rfl, rfl⟩
          go_wp2_with fail
          go_ret2
          rw [HV.out, HF.out]
          exact ⟨rfl, HW.out⟩
        · have g1 : (9223372036854775807 : Int) < (m : Int) := by omega
          have gd : decide ((9223372036854775807 : Int) < (m : Int)) = true := decide_eq_true g1
          have HV : Hid (smallv z = 0) := by show _ = _; unfold smallv; rw [if_neg (by omega)]
          have HF : Hid (smallb z = false) := by show _ = _; unfold smallb; exact decide_eq_false (by omega)
          clear ha hx hm h0 hx0 hcell h64 hmx hzm hbig hdg
          go_enter Tryz.func166, Tryz.ntmps166
          go_wp2_with fail
          refine (HB.out _).mono ?_
          rintro e w' ⟨rfl, rfl⟩
          go_wp2_with fail
          go_ret2
          rw [HV.out, HF.out]
          exact ⟨rfl, HW.out⟩
      | true =>
        have hzm : z = -(m : Int) := by rw [← hx]; simp [zv]
        have hw2 : IntKind.u64.wrap ((9223372036854775807 : Int) + 1) = 9223372036854775808 := by rw [IntKind.wrap_u64]; rfl
        by_cases hf : m ≤ 9223372036854775808
        · have g1 : ¬ (9223372036854775808 : Int) < (m : Int) := by omega
          have gd : decide ((9223372036854775808 : Int) < (m : Int)) = false := decide_eq_false g1
          have HV : Hid (smallv z = -(m : Int)) := by show _ = _; unfold smallv; rw [if_pos (by omega)]; exact hzm
          have HF : Hid (smallb z = true) := by show _ = _; unfold smallb; exact decide_eq_true (by omega)
          have hwr : IntKind.i64.wrap (IntKind.u64.wrap (-(m : Int))) = -(m : Int) := by rw [IntKind.wrap_u64, IntKind.wrap_i64]; omega
          clear ha hx hm h0 hx0 hcell h64 hmx hzm hbig hdg
          go_enter Tryz.func166, Tryz.ntmps166
          go_wp2_with fail
          refine (HB.out _).mono ?_
          rintro e w' ⟨rfl, rfl⟩
          go_wp2_with fail
          go_ret2
          rw [HV.out, HF.out]
          exact ⟨rfl, HW.out⟩
        · have g1 : (9223372036854775808 : Int) < (m : Int) := by omega
          have gd : decide ((9223372036854775808 : Int) < (m : Int)) = true := decide_eq_true g1
          have HV : Hid (smallv z = 0) := by show _ = _; unfold smallv; rw [if_neg (by omega)]
          have HF : Hid (smallb z = false) := by show _ = _; unfold smallb; exact decide_eq_false (by omega)
          clear ha hx hm h0 hx0 hcell h64 hmx hzm hbig hdg
          go_enter Tryz.func166, Tryz.ntmps166
          go_wp2_with fail
          refine (HB.out _).mono ?_
          rintro e w' ⟨rfl, rfl⟩
          go_wp2_with fail
          go_ret2
          rw [HV.out, HF.out]
          exact ⟨rfl, HW.out⟩
    · have hbl' : (64 : Int) < ((blen m : Nat) : Int) := by
        have : ¬ blen m ≤ 64 := fun h => hbig (blen_small.1 h)
        omega
      have hbd : decide ((64 : Int) < ((blen m : Nat) : Int)) = true := decide_eq_true hbl'
      have hzm : z < -9223372036854775808 ∨ 9223372036854775807 < z := by
        rw [B64_eq] at hbig
        rw [← hx]
        cases s <;> simp only [zv, if_true, Bool.false_eq_true, if_false] <;> omega
      have HV : Hid (smallv z = 0) := by show _ = _; unfold smallv; rw [if_neg (by omega)]
      have HF : Hid (smallb z = false) := by show _ = _; unfold smallb; exact decide_eq_false (by omega)
      clear ha hx hm h0 hx0 hcell h64 hzm hbig hdg
      cases s with
      | true =>
        have hw2 : IntKind.u64.wrap ((9223372036854775807 : Int) + 1) = 9223372036854775808 := by rw [IntKind.wrap_u64]; rfl
        go_enter Tryz.func166, Tryz.ntmps166
        go_wp2_with fail
        refine (HB.out _).mono ?_
        rintro e w' ⟨rfl, rfl⟩
        go_wp2_with fail
        go_ret2
        rw [HV.out, HF.out]
        exact ⟨rfl, HW.out⟩
      | false =>
        go_enter Tryz.func166, Tryz.ntmps166
        go_wp2_with fail
        refine (HB.out _).mono ?_
        rintro e w' ⟨rfl, rfl⟩
        go_wp2_with fail
        go_ret2
        rw [HV.out, HF.out]
        exact ⟨rfl, HW.out⟩
end Go.Proofs.YtbbncggaaibheaaGreatDoor
