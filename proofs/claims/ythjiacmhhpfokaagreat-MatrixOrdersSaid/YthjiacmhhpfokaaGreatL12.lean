/- Part 12 of the proof: WholeF, WholeD. -/
import Derived.Test.YthjiacmhhpfokaaGreatL11
namespace Go.Proofs.YthjiacmhhpfokaaGreat
open Nat renaming le_refl → lR
section
open Go.RowKit
def RetZZ (w : World) (q r : Int) (e : Ending) (w' : World) : Prop :=
 ∃ A c B d, e = .returned (.tuple #[.agg #[.bool (zneg q), .slice A (dig q.natAbs).length c], .agg #[.bool (zneg r), .slice B (dig r.natAbs).length d]]) ∧
  (dig q.natAbs).length ≤ c ∧ (dig r.natAbs).length ≤ d ∧ Num w' A (dig q.natAbs) ∧ Num w' B (dig r.natAbs) ∧ Below w.heap.size w w'
def zrem (y z : Int) : Int := if z = 0 then 0 else y % z
theorem zdm_uniq {y q r : Int} {b : Nat} (hb : 0 < b) (h : r + (b : Int) * q = y) (h0 : 0 ≤ r) (h1 : r < (b : Int)) : y / (b : Int) = q ∧ y % (b : Int) = r :=
 (Int.ediv_emod_unique (by omega)).2 ⟨h, h0, h1⟩
def dq (s : Bool) (a b : Nat) : Nat := if s = true ∧ 0 < dmr a b then dmq a b + 1 else dmq a b
def dr (s : Bool) (a b : Nat) : Nat := if s = true ∧ 0 < dmr a b then b - dmr a b else dmr a b
theorem zdm_eq (s t : Bool) (a b : Nat) : zv (s != t) (dq s a b) = zv s a / zv t b ∧ zv false (dr s a b) = zrem (zv s a) (zv t b) := by
 rcases Nat.eq_zero_or_pos b with hb | hb
 ·subst hb
  have e1 : dmr a 0 = 0 := by unfold dmr; rw [if_pos rfl]
  have e2 : dmq a 0 = 0 := Nat.div_zero a
  unfold dq dr zrem
  rw [e1, e2, if_neg (by omega), if_neg (by omega), zv_zero, zv_zero, zv_zero, Int.ediv_zero, if_pos rfl]
  exact ⟨rfl, rfl⟩
 ·have e1 : dmr a b = a % b := by unfold dmr; rw [if_neg (by omega)]
  have e2 : dmq a b = a / b := rfl
  have hml := Nat.mod_lt a hb
  have hdm := Nat.div_add_mod a b
  obtain ⟨q, hq⟩ : ∃ q, q = a / b := ⟨_, rfl⟩
  obtain ⟨r, hr⟩ : ∃ r, r = a % b := ⟨_, rfl⟩
  rw [← hq, ← hr] at hdm
  rw [← hr] at hml e1
  rw [← hq] at e2
  have hzt : zv t b ≠ 0 := by cases t <;> simp [zv] <;> omega
  have key : zv s (dq s a b) = zv s a / (b : Int) ∧ zv false (dr s a b) = zv s a % (b : Int) := by
   have hdi : (b : Int) * (q : Int) + (r : Int) = (a : Int) := by exact_mod_cast hdm
   cases s with
   | false =>
    have h := zdm_uniq (y := (a : Int)) (q := (q : Int)) (r := (r : Int)) hb (by omega) (by omega) (by omega)
    unfold dq dr
    rw [if_neg (by simp), if_neg (by simp), e1, e2]
    simp only [zv, Bool.false_eq_true, if_false]
    exact ⟨h.1.symm, h.2.symm⟩
   | true =>
    by_cases h0 : 0 < r
    ·have h := zdm_uniq (y := -(a : Int)) (q := -((q : Int) + 1)) (r := (b : Int) - (r : Int)) hb (by rw [Int.mul_neg, Int.mul_add, Int.mul_one]; omega) (by omega) (by omega)
     unfold dq dr
     rw [e1, e2, if_pos ⟨rfl, h0⟩, if_pos ⟨rfl, h0⟩]
     simp only [zv, Bool.false_eq_true, if_false, if_true]
     rw [h.1, h.2]
     constructor <;> omega
    ·have h := zdm_uniq (y := -(a : Int)) (q := -(q : Int)) (r := (r : Int)) hb (by rw [Int.mul_neg]; omega) (by omega) (by omega)
     unfold dq dr
     rw [e1, e2, if_neg (by omega), if_neg (by omega)]
     simp only [zv, Bool.false_eq_true, if_false, if_true]
     exact ⟨h.1.symm, h.2.symm⟩
  unfold zrem
  rw [if_neg hzt]
  cases t with
  | false =>
   rw [Bool.bne_false]
   have e : zv false b = (b : Int) := by simp [zv]
   rw [e]
   exact key
  | true =>
   have e : zv true b = -(b : Int) := by simp [zv]
   rw [e, Int.ediv_neg, Int.emod_neg, ← key.1]
   refine ⟨?_, key.2⟩
   cases s <;> simp [zv]
theorem dq_len (s : Bool) (a b : Nat) : (dig (dq s a b)).length ≤ (dig a).length + 2 := by
 have h : dq s a b ≤ a + 1 := by unfold dq; have := Nat.div_le_self a b; have e : dmq a b = a / b := rfl; split <;> omega
 have h2 := dl_add a 1
 have h3 : (dig 1).length ≤ 1 := dig_length_le (by rw [B64_eq]; omega)
 have h4 := dl_le h
 omega
theorem dr_len (s : Bool) (a b : Nat) : (dig (dr s a b)).length ≤ max (dig a).length (dig b).length := by
 have h : dr s a b ≤ max a b := by
  unfold dr dmr
  have := Nat.mod_le a b
  split <;> split <;> omega
 have h4 := dl_le h
 rcases Nat.le_total a b with h2 | h2
 ·rw [Nat.max_eq_right h2] at h4; omega
 ·rw [Nat.max_eq_left h2] at h4; omega
structure DivAt (w : World) (s t : Bool) (A B : Option Addr) (n m c d : Nat) (A1 A2 : Option Addr) (q r : Nat) (W : World) : Prop where
 c4 : C4 w.heap.size (.bool s) (.slice A n c) (.bool t) (.slice B m d) W
 g1 : Ibx W (w.heap.size + 1 + 1) false none 0 0
 g2 : Ibx W (w.heap.size + 1 + 1 + 1) false none 0 0
 q : Num W A1 (dig q)
 r : Num W A2 (dig r)
 bel : Below w.heap.size w W
theorem retzz_of {w w8 : World} {sq : Bool} {q r c1 c2 : Nat} {y z : Int} {A1 A2 : Option Addr} (hy : zv sq q = y) (hz : zv false r = z) (hc1 : (dig q).length ≤ c1) (hc2 : (dig r).length ≤ c2) (h1 : Num w8 A1 (dig q)) (h2 : Num w8 A2 (dig r)) {g1 g2 : Nat} {s1 s2 : Bool} {B1 B2 : Option Addr} {n1 n2 d1 d2 : Nat}
  (hg1 : Ibx w8 g1 s1 B1 n1 d1) (hg2 : Ibx w8 g2 s2 B2 n2 d2) (hne : g1 ≠ g2) (hw1 : w.heap.size ≤ g1) (hw2 : w.heap.size ≤ g2) (hb : Below w.heap.size w w8) (v0 v1 v2 v3 : Value) :
  RetZZ w y z (.returned (.tuple #[.agg #[.bool (zneg (zv sq q)), .slice A1 (dig q).length c1], .agg #[.bool (zneg (zv false r)), .slice A2 (dig r).length c2]])) ((((w8.setCell ⟨g1, 0, none⟩ v0).setCell ⟨g1, 1, none⟩ v1).setCell ⟨g2, 0, none⟩ v2).setCell ⟨g2, 1, none⟩ v3) := by
 subst hy; subst hz
 have hg2' : Ibx ((w8.setCell ⟨g1, 0, none⟩ v0).setCell ⟨g1, 1, none⟩ v1) g2 s2 B2 n2 d2 := (hg2.far (fun e => hne e.symm) v0).far (fun e => hne e.symm) v1
 refine ⟨A1, c1, A2, c2, by rw [zv_natAbs, zv_natAbs], by rw [zv_natAbs]; exact hc1, by rw [zv_natAbs]; exact hc2, by rw [zv_natAbs]; exact (h1.two hg1 v0 v1).two hg2' v2 v3, by rw [zv_natAbs]; exact (h2.two hg1 v0 v1).two hg2' v2 v3, ?_⟩
 exact (((hb.setCell hw1 _).setCell hw1 _).setCell hw2 _).setCell hw2 _
end

section
open Lib renaming hid → lh
set_option maxHeartbeats 2000000
open Go.RowKit
theorem u64_neg_wrap {n : Int} (h1 : -9223372036854775808 ≤ n) (h2 : n < 0) : IntKind.u64.wrap (-IntKind.u64.wrap n) = ((n.natAbs : Nat) : Int) := by
 rw [IntKind.wrap_u64, IntKind.wrap_u64]; omega
theorem u64_wrap_nonneg {n : Int} (h1 : n ≤ 9223372036854775807) (h2 : 0 ≤ n) : IntKind.u64.wrap n = ((n.natAbs : Nat) : Int) := by
 rw [IntKind.wrap_u64]; omega
theorem Blk.lit1' (w : World) (x : Nat) : Blk (w.alloc (.cells #[.int .u64 (x : Int)] 164)) w.heap.size [x] := Blk.lit w [x]
theorem of_tail (W1 : World) (p : Nat) (z : Int) (hp : p = W1.heap.size) (hlt : z.natAbs < B64) :
  Calls Tryz.prog 168 #[.slice (some ⟨p, 0, none⟩) 1 1] (W1.alloc (.cells #[.int .u64 ((z.natAbs : Nat) : Int)] 164))
   fun e w3 => ∃ A3 c3, e = .returned (.slice A3 (dig z.natAbs).length c3) ∧ (dig z.natAbs).length ≤ c3 ∧ (dig z.natAbs).length ≤ 1 ∧ Num w3 A3 (dig z.natAbs) ∧ Below (W1.alloc (.cells #[.int .u64 ((z.natAbs : Nat) : Int)] 164)).heap.size (W1.alloc (.cells #[.int .u64 ((z.natAbs : Nat) : Int)] 164)) w3 := by
 subst hp
 have hd : Digs [z.natAbs] := Digs.cons hlt Digs.nil
 have h := trim_v (W1.alloc (.cells #[.int .u64 ((z.natAbs : Nat) : Int)] 164)) (some ⟨W1.heap.size, 0, none⟩) 1 [z.natAbs] z.natAbs ((Blk.lit1' W1 z.natAbs).num hd) (by rw [val_cons, val_nil]; omega) (by simp) (by simp)
 refine h.mono ?_
 rintro e w3 ⟨A3, c3, rfl, hc3, h3, hb3⟩
 exact ⟨A3, c3, rfl, hc3, dig_length_le (by rw [Nat.pow_one]; exact hlt), h3, hb3⟩
theorem of_any (w : World) (z : Int) (h1 : -9223372036854775808 ≤ z) (h2 : z ≤ 9223372036854775807) :
  Calls Tryz.prog 126 #[.int .i64 z] w (RetZ w z) := by
 have hlt : z.natAbs < B64 := by rw [B64_eq]; omega
 have HLT := lh hlt
 clear hlt
 by_cases hs : z < 0
 ·have hw1 := u64_neg_wrap h1 hs
  have HZ : Hid (zv true z.natAbs = z) := by show _ = _; simp only [zv, if_true]; omega
  go_enter Tryz.func126, Tryz.ntmps126
  go_wp2_with fail
  refine (signOf_any _ _).mono ?_
  rintro e w1 ⟨rfl, rfl⟩
  have S1 : Sbx ((w.alloc (.cells #[.bool false, .slice none 0 0] 25)).alloc (.cells #[.bool true] 4)) (w.heap.size + 1) true := Sbx.new' _ _ _ (by simp)
  have I1 : Ibx ((w.alloc (.cells #[.bool false, .slice none 0 0] 25)).alloc (.cells #[.bool true] 4)) w.heap.size false none 0 0 := (Ibx.new' _ _ _ _ _ _ rfl).alloc _
  have W1 : Below w.heap.size w ((w.alloc (.cells #[.bool false, .slice none 0 0] 25)).alloc (.cells #[.bool true] 4)) := ((Below.refl _ _).alloc (lR _) _).alloc (by simp) _
  have HS := lh S1
  have HI := lh I1
  have HW := lh W1
  have HT := lh (of_tail ((w.alloc (.cells #[.bool false, .slice none 0 0] 25)).alloc (.cells #[.bool true] 4)) (w.heap.size + 1 + 1) z (by simp) HLT.out)
  clear S1 I1 W1
  go_wp2_with fail
  refine HT.out.mono ?_
  rintro e w3 ⟨A3, c3, rfl, hc3, hl3, ha3, hb3⟩
  have HN := lh (number_at w _ w3 (w.heap.size + 1) w.heap.size c3 z.natAbs true false A3 none 0 0 (HS.out.alloc _) (HI.out.alloc _) (HW.out.alloc HW.out.size _) hb3 ha3 (by omega) hc3)
  clear hb3 HS HI HW HT ha3
  go_wp2_with fail
  refine HN.out.mono ?_
  rintro e w4 ⟨rfl, n4, I4, hb4, -⟩
  have c0 := I4.c0
  have c1 := I4.c1
  have f0 := I4.f 0
  have f1 := I4.f 1
  have N4 := lh n4
  have J4 := lh I4
  have B4 := lh hb4
  clear n4 I4 hb4 HN
  go_wp2_with fail
  refine bodyPost_ret (v := .agg #[.bool (zneg (zv true z.natAbs)), .slice A3 (dig z.natAbs).length c3]) (by simp [results, Tryz.results126, go_sem, c0, c1]) rfl ?_
  exact retz_of HZ.out hc3 N4.out J4.out (lR _) B4.out _ _ rfl
 ·have hw1 := u64_wrap_nonneg h2 (by omega)
  have HZ : Hid (zv false z.natAbs = z) := by show _ = _; simp only [zv]; rw [if_neg (by simp)]; omega
  go_enter Tryz.func126, Tryz.ntmps126
  go_wp2_with fail
  refine (signOf_any _ _).mono ?_
  rintro e w1 ⟨rfl, rfl⟩
  have S1 : Sbx ((w.alloc (.cells #[.bool false, .slice none 0 0] 25)).alloc (.cells #[.bool false] 4)) (w.heap.size + 1) false := Sbx.new' _ _ _ (by simp)
  have I1 : Ibx ((w.alloc (.cells #[.bool false, .slice none 0 0] 25)).alloc (.cells #[.bool false] 4)) w.heap.size false none 0 0 := (Ibx.new' _ _ _ _ _ _ rfl).alloc _
  have W1 : Below w.heap.size w ((w.alloc (.cells #[.bool false, .slice none 0 0] 25)).alloc (.cells #[.bool false] 4)) := ((Below.refl _ _).alloc (lR _) _).alloc (by simp) _
  have HS := lh S1
  have HI := lh I1
  have HW := lh W1
  have HT := lh (of_tail ((w.alloc (.cells #[.bool false, .slice none 0 0] 25)).alloc (.cells #[.bool false] 4)) (w.heap.size + 1 + 1) z (by simp) HLT.out)
  clear S1 I1 W1
  go_wp2_with fail
  refine HT.out.mono ?_
  rintro e w3 ⟨A3, c3, rfl, hc3, hl3, ha3, hb3⟩
  have HN := lh (number_at w _ w3 (w.heap.size + 1) w.heap.size c3 z.natAbs false false A3 none 0 0 (HS.out.alloc _) (HI.out.alloc _) (HW.out.alloc HW.out.size _) hb3 ha3 (by omega) hc3)
  clear hb3 HS HI HW HT ha3
  go_wp2_with fail
  refine HN.out.mono ?_
  rintro e w4 ⟨rfl, n4, I4, hb4, -⟩
  have c0 := I4.c0
  have c1 := I4.c1
  have f0 := I4.f 0
  have f1 := I4.f 1
  have N4 := lh n4
  have J4 := lh I4
  have B4 := lh hb4
  clear n4 I4 hb4 HN
  go_wp2_with fail
  refine bodyPost_ret (v := .agg #[.bool (zneg (zv false z.natAbs)), .slice A3 (dig z.natAbs).length c3]) (by simp [results, Tryz.results126, go_sem, c0, c1]) rfl ?_
  exact retz_of HZ.out hc3 N4.out J4.out (lR _) B4.out _ _ rfl
def smallv (z : Int) : Int := if -9223372036854775808 ≤ z ∧ z ≤ 9223372036854775807 then z else 0
def smallb (z : Int) : Bool := decide (-9223372036854775808 ≤ z ∧ z ≤ 9223372036854775807)
theorem one_digit {xs : List Nat} (hd : Digs xs) (h : val xs < B64) (hp : 0 < xs.length) : val xs = dg xs 0 := by
 cases xs with
 | nil => simp at hp
 | cons x r =>
  rw [val_cons] at h ⊢
  have h1 : val r = 0 := by
   rcases Nat.eq_zero_or_pos (val r) with h2 | h2
   ·exact h2
   ·have := Nat.mul_le_mul_left B64 h2
    omega
  rw [h1]; rfl
theorem blen_small {m : Nat} : blen m ≤ 64 ↔ m < B64 := by
 constructor
 ·intro h
  have h1 := blen_lt m
  have h2 : 2 ^ blen m ≤ 2 ^ 64 := Nat.pow_le_pow_right (by omega) h
  rw [B64_pow]; omega
 ·intro h
  exact blen_le_of_lt (by rw [← B64_pow]; exact h)
theorem small_any (w : World) (s : Bool) (A : Option Addr) (c : Nat) (xs : List Nat) (z : Int) (ha : Num w A xs) (hx : zv s (val xs) = z) (hn : xs.length ≤ 1000000) (hc : xs.length ≤ c) :
  Calls Tryz.prog 202 #[.agg #[.bool s, .slice A xs.length c]] w fun e w' => e = .returned (.tuple #[.int .i64 (smallv z), .bool (smallb z)]) ∧ Below w.heap.size w w' := by
 have HB := lh (fun o => bits_any (w.alloc o) A c xs (ha.alloc o) (by omega) hc)
 have HW : Hid (Below w.heap.size w (w.alloc (.cells #[.bool s, .slice A xs.length c] 25))) := (Below.refl _ _).alloc (lR _) _
 have hdl := dig_length_val ha.1
 obtain ⟨m, hm⟩ : ∃ m, val xs = m := ⟨_, rfl⟩
 rw [hm] at hx hdl HB
 by_cases h0 : m = 0
 ·have hz : (((blen m : Nat) : Int) == 0) = true := by rw [h0, blen_zero]; rfl
  have HZ : Hid (z = 0) := by show _ = _; rw [← hx, h0, zv_zero]
  clear ha hx hm h0
  go_enter Tryz.func202, Tryz.ntmps202
  go_wp2_with fail
  refine (HB.out _).mono ?_
  rintro e w' ⟨rfl, rfl⟩
  go_wp2_with fail
  go_ret2
  rw [HZ.out]
  exact ⟨rfl, HW.out⟩
 ·have hz : (((blen m : Nat) : Int) == 0) = false := by rw [beq_eq_false_iff_ne]; have := blen_pos h0; omega
  have hxp : 0 < xs.length := by
   rcases Nat.eq_zero_or_pos xs.length with h | h
   ·rw [List.length_eq_zero_iff.1 h] at hm; exact absurd hm.symm h0
   ·exact h
  have hxp' : (0 : Int) < (xs.length : Int) := by omega
  obtain ⟨b1, o1, rfl, hb1, hcell⟩ := ha.at_ hxp
  have hx0 := hcell 0 hxp
  rw [Nat.add_zero] at hx0
  have hx1 : (w.alloc (.cells #[.bool s, .slice (some ⟨b1, o1, none⟩) xs.length c] 25)).cell? ⟨b1, o1, none⟩ = some (.int .u64 ((dg xs 0 : Nat) : Int)) := (World.cell?_alloc_lt w _ _ hb1).trans hx0
  have hdg := dg_lt ha.1 0
  have h64 : m < B64 → m = dg xs 0 := fun h => hm ▸ one_digit ha.1 (hm ▸ h) hxp
  by_cases hbig : m < B64
  ·have hbl := blen_small.2 hbig
   have hbl' : ¬ (64 : Int) < ((blen m : Nat) : Int) := by omega
   have hbd : decide ((64 : Int) < ((blen m : Nat) : Int)) = false := decide_eq_false hbl'
   have hmx := h64 hbig
   rw [← hmx] at hx1
   cases s with
   | false =>
    have hzm : z = (m : Int) := by rw [← hx]; simp [zv]
    by_cases hf : m ≤ 9223372036854775807
    ·have g1 : ¬ (9223372036854775807 : Int) < (m : Int) := by omega
     have gd : decide ((9223372036854775807 : Int) < (m : Int)) = false := decide_eq_false g1
     have HV : Hid (smallv z = (m : Int)) := by show _ = _; unfold smallv; rw [if_pos (by omega)]; exact hzm
     have HF : Hid (smallb z = true) := by show _ = _; unfold smallb; exact decide_eq_true (by omega)
     have hwr : IntKind.i64.wrap (m : Int) = (m : Int) := IntWalk.i64_in _ (by omega)
     clear ha hx hm h0 hx0 hcell h64 hmx hzm hbig hdg
     go_enter Tryz.func202, Tryz.ntmps202
     go_wp2_with fail
     refine (HB.out _).mono ?_
     rintro e w' ⟨rfl, rfl⟩
     go_wp2_with fail
     go_ret2
     rw [HV.out, HF.out]
     exact ⟨rfl, HW.out⟩
    ·have g1 : (9223372036854775807 : Int) < (m : Int) := by omega
     have gd : decide ((9223372036854775807 : Int) < (m : Int)) = true := decide_eq_true g1
     have HV : Hid (smallv z = 0) := by show _ = _; unfold smallv; rw [if_neg (by omega)]
     have HF : Hid (smallb z = false) := by show _ = _; unfold smallb; exact decide_eq_false (by omega)
     clear ha hx hm h0 hx0 hcell h64 hmx hzm hbig hdg
     go_enter Tryz.func202, Tryz.ntmps202
     go_wp2_with fail
     refine (HB.out _).mono ?_
     rintro e w' ⟨rfl, rfl⟩
     go_wp2_with fail
     go_ret2
     rw [HV.out, HF.out]
     exact ⟨rfl, HW.out⟩
   | true =>
    have hzm : z = -(m : Int) := by rw [← hx]; simp [zv]
    have hw2 : IntKind.u64.wrap ((9223372036854775807 : Int) + 1) = 9223372036854775808 := by rw [IntKind.wrap_u64]; rfl
    by_cases hf : m ≤ 9223372036854775808
    ·have g1 : ¬ (9223372036854775808 : Int) < (m : Int) := by omega
     have gd : decide ((9223372036854775808 : Int) < (m : Int)) = false := decide_eq_false g1
     have HV : Hid (smallv z = -(m : Int)) := by show _ = _; unfold smallv; rw [if_pos (by omega)]; exact hzm
     have HF : Hid (smallb z = true) := by show _ = _; unfold smallb; exact decide_eq_true (by omega)
     have hwr : IntKind.i64.wrap (IntKind.u64.wrap (-(m : Int))) = -(m : Int) := by rw [IntKind.wrap_u64, IntKind.wrap_i64]; omega
     clear ha hx hm h0 hx0 hcell h64 hmx hzm hbig hdg
     go_enter Tryz.func202, Tryz.ntmps202
     go_wp2_with fail
     refine (HB.out _).mono ?_
     rintro e w' ⟨rfl, rfl⟩
     go_wp2_with fail
     go_ret2
     rw [HV.out, HF.out]
     exact ⟨rfl, HW.out⟩
    ·have g1 : (9223372036854775808 : Int) < (m : Int) := by omega
     have gd : decide ((9223372036854775808 : Int) < (m : Int)) = true := decide_eq_true g1
     have HV : Hid (smallv z = 0) := by show _ = _; unfold smallv; rw [if_neg (by omega)]
     have HF : Hid (smallb z = false) := by show _ = _; unfold smallb; exact decide_eq_false (by omega)
     clear ha hx hm h0 hx0 hcell h64 hmx hzm hbig hdg
     go_enter Tryz.func202, Tryz.ntmps202
     go_wp2_with fail
     refine (HB.out _).mono ?_
     rintro e w' ⟨rfl, rfl⟩
     go_wp2_with fail
     go_ret2
     rw [HV.out, HF.out]
     exact ⟨rfl, HW.out⟩
  ·have hbl' : (64 : Int) < ((blen m : Nat) : Int) := by
    have : ¬ blen m ≤ 64 := fun h => hbig (blen_small.1 h)
    omega
   have hbd : decide ((64 : Int) < ((blen m : Nat) : Int)) = true := decide_eq_true hbl'
   have hzm : z < -9223372036854775808 ∨ 9223372036854775807 < z := by
    rw [B64_eq] at hbig
    rw [← hx]
    cases s <;> simp only [zv, if_true, Bool.false_eq_true, if_false] <;> omega
   have HV : Hid (smallv z = 0) := by show _ = _; unfold smallv; rw [if_neg (by omega)]
   have HF : Hid (smallb z = false) := by show _ = _; unfold smallb; exact decide_eq_false (by omega)
   clear ha hx hm h0 hx0 hcell h64 hzm hbig hdg
   cases s with
   | true =>
    have hw2 : IntKind.u64.wrap ((9223372036854775807 : Int) + 1) = 9223372036854775808 := by rw [IntKind.wrap_u64]; rfl
    go_enter Tryz.func202, Tryz.ntmps202
    go_wp2_with fail
    refine (HB.out _).mono ?_
    rintro e w' ⟨rfl, rfl⟩
    go_wp2_with fail
    go_ret2
    rw [HV.out, HF.out]
    exact ⟨rfl, HW.out⟩
   | false =>
    go_enter Tryz.func202, Tryz.ntmps202
    go_wp2_with fail
    refine (HB.out _).mono ?_
    rintro e w' ⟨rfl, rfl⟩
    go_wp2_with fail
    go_ret2
    rw [HV.out, HF.out]
    exact ⟨rfl, HW.out⟩
