/- digits.Parse, walked. -/
import Derived.Test.YtginajegbknfhaaDoorDLift
namespace Go.Proofs.YtginajegbknfhaaDoor.D
open Go.RowKit

theorem foldl_dnum (l : List UInt8) (a : Nat) : l.foldl (fun a c => 10 * a + (c.toNat - 48)) a = a * 10 ^ l.length + dnum l := by
  unfold dnum
  induction l generalizing a with
  | nil => simp
  | cons c l ih =>
    rw [List.foldl_cons, List.foldl_cons, ih, ih (10 * 0 + _), List.length_cons, Nat.pow_succ, Nat.add_mul]
    rw [Nat.mul_comm 10 a, Nat.mul_assoc, Nat.mul_comm 10]
    simp [Nat.add_assoc]
theorem dnum_cons (c : UInt8) (l : List UInt8) : dnum (c :: l) = (c.toNat - 48) * 10 ^ l.length + dnum l := by
  have h := foldl_dnum l (10 * 0 + (c.toNat - 48))
  rw [show 10 * 0 + (c.toNat - 48) = c.toNat - 48 by omega] at h
  rw [← h]
  unfold dnum
  rw [List.foldl_cons]
  simp
/-- Whether a sign stands ahead, and the digits behind it. -/
def signed (l : List UInt8) : Bool := Lib.hasPrefix l [45]
def behind (l : List UInt8) : List UInt8 := Lib.trimPrefix l [45]
/-- What Parse tells. -/
def parseV (l : List UInt8) : Int × Int :=
  if isNumB (behind l) (signed l) then (if 600 < (behind l).length then (0, 3) else (zv (signed l) (dnum (behind l)), 0)) else (0, 11)
theorem num_sign {d : List UInt8} {b : Bool} (h : isNumB d b = true) : zneg (zv b (dnum d)) = b := by
  match d, h with
  | x :: r, h =>
    unfold isNumB at h
    simp only [Bool.and_eq_true, Bool.not_eq_true'] at h
    cases b with
    | false => unfold zv zneg; simp
    | true =>
      simp only [Bool.true_or, Bool.and_true] at h
      have hx : x ≠ 48 := by have := h.1; rw [beq_eq_false_iff_ne] at this; exact this
      have hd := isDig_range (List.all_eq_true.1 h.2 x (List.mem_cons_self ..))
      have hne : x.toNat ≠ 48 := fun e => hx (UInt8.toNat_inj.1 e)
      have h1 : 0 < 10 ^ r.length := Nat.pow_pos (by omega)
      have h2 : 1 * 10 ^ r.length ≤ (x.toNat - 48) * 10 ^ r.length := Nat.mul_le_mul_right _ (by omega)
      have h3 := dnum_cons x r
      have h4 : dnum (x :: r) ≠ 0 := by omega
      show zneg (-((dnum (x :: r) : Nat) : Int)) = true
      unfold zneg
      simp
      omega
theorem num_all {d : List UInt8} {b : Bool} (h : isNumB d b = true) : d.all isDig = true := by
  match d, h with
  | x :: r, h =>
    unfold isNumB at h
    rw [Bool.and_eq_true] at h
    exact h.2
/-- A whole number and an error's number. -/
def RetPZ (w : World) (z code : Int) (e : Ending) (w' : World) : Prop :=
  ∃ A c, e = .returned (.tuple #[.agg #[.bool (zneg z), .slice A (dig z.natAbs).length c], .int .i64 code]) ∧ (dig z.natAbs).length ≤ c ∧ Num w' A (dig z.natAbs) ∧ Below w.heap.size w w'
theorem cut_at (w : World) (l : List UInt8) : Calls Tryd.prog 22 #[.string ⟨l.toArray⟩, .string ⟨#[45]⟩] w fun e w' => e = .returned (.tuple #[.string ⟨(behind l).toArray⟩, .bool (signed l)]) ∧ w = w' := by
  refine (Tryd.strings_CutPrefix ⟨l.toArray⟩ ⟨#[45]⟩ w).mono ?_
  rintro e w' ⟨he, hw⟩
  exact ⟨he, hw.symm⟩
theorem retp_of {w w4 wf : World} {s : Bool} {m c g : Nat} {z code : Int} {A A0 : Option Addr} {s0 : Bool} {n0 c0 : Nat} (hs : zneg z = s) (hm : z.natAbs = m) (hc : (dig m).length ≤ c) (hA : Num w4 A (dig m)) (hg : Ibx w4 g s0 A0 n0 c0) (hgw : w.heap.size ≤ g) (hb : Below w.heap.size w w4)
    (v0 v1 : Value) (hwf : wf = (w4.setCell ⟨g, 0, none⟩ v0).setCell ⟨g, 1, none⟩ v1) : RetPZ w z code (.returned (.tuple #[.agg #[.bool s, .slice A (dig m).length c], .int .i64 code])) wf := by
  subst hs hm hwf
  exact ⟨A, c, rfl, hc, hA.two hg _ _, (hb.setCell hgw _).setCell hgw _⟩
theorem retp_zero {w w4 wf : World} {code : Int} {g : Nat} {A0 : Option Addr} {s0 : Bool} {n0 c0 : Nat} (_hg : Ibx w4 g s0 A0 n0 c0) (hgw : w.heap.size ≤ g) (hb : Below w.heap.size w w4)
    (v0 v1 : Value) (hwf : wf = (w4.setCell ⟨g, 0, none⟩ v0).setCell ⟨g, 1, none⟩ v1) : RetPZ w 0 code (.returned (.tuple #[.agg #[.bool false, .slice none 0 0], .int .i64 code])) wf := by
  have hz : dig ((0 : Int).natAbs) = [] := dig_zero
  subst hwf
  exact ⟨none, 0, by rw [hz]; rfl, by rw [hz]; exact Nat.le_refl _, by rw [hz]; exact Num.nil _ _, (hb.setCell hgw _).setCell hgw _⟩
set_option maxRecDepth 100000 in
set_option maxHeartbeats 4000000 in
theorem parse_any (w : World) (l : List UInt8) (z code : Int) (hz : parseV l = (z, code)) (hl : l.length ≤ 1000000) :
    Calls Tryd.prog 6 #[.string ⟨l.toArray⟩] w (RetPZ w z code) := by
  have HC := Lib.hid (fun W => cut_at W l)
  have hbl : (behind l).length ≤ 1000000 := by
    unfold behind Lib.trimPrefix
    split
    · rw [List.length_drop]; omega
    · exact hl
  have HNUM := Lib.hid (fun W => isnum_any W (behind l) (signed l))
  have HG := Lib.hid (fun W h1 h2 => gather_any W (behind l) h1 h2)
  have hsg := fun h => num_sign (d := behind l) (b := signed l) h
  have hal := fun h => num_all (d := behind l) (b := signed l) h
  unfold parseV at hz
  obtain ⟨d, hd⟩ : ∃ d, behind l = d := ⟨_, rfl⟩
  obtain ⟨b, hb⟩ : ∃ b, signed l = b := ⟨_, rfl⟩
  rw [hd, hb] at hz HNUM hsg hal
  rw [hd] at hbl HG
  rw [hd, hb] at HC
  have HW : Hid (Below w.heap.size w (w.alloc (.cells #[.bool false, .slice none 0 0] 25))) := (Below.refl _ _).alloc (Nat.le_refl _) _
  have HI : Hid (Ibx (w.alloc (.cells #[.bool false, .slice none 0 0] 25)) w.heap.size false none 0 0) := Ibx.new' _ _ _ _ _ _ rfl
  clear hd hb
  cases hn : isNumB d b with
  | false =>
    rw [hn] at hz HNUM
    obtain ⟨rfl, rfl⟩ : (0 : Int) = z ∧ (11 : Int) = code := by simpa using hz
    clear hz hn hsg hal HG
    go_enter Tryd.func6, Tryd.ntmps6
    go_wp2_with fail
    refine (HC.out _).mono ?_
    rintro e w1 ⟨rfl, rfl⟩
    go_wp2_with fail
    refine (HNUM.out _).mono ?_
    rintro e w2 ⟨rfl, hb2⟩
    have HW2 := Lib.hid (HW.out.trans (hb2.mono HW.out.size))
    have I2 := HI.out.below hb2
    have HI2 := Lib.hid I2
    have c0 := I2.c0
    have c1' := I2.c1
    have f0 := I2.f 0
    have f1 := I2.f 1
    clear hb2 HW HI I2
    go_wp2_with fail
    refine bodyPost_ret (v := .tuple #[.agg #[.bool false, .slice none 0 0], .int .i64 11]) (by simp [results, Tryd.results6, go_sem, c0, c1']) rfl ?_
    have h := retp_zero (w := w) (code := 11) HI2.out (Nat.le_refl _) HW2.out (.bool false) (.slice none 0 0) rfl
    exact h
  | true =>
    rw [hn] at hz HNUM
    by_cases hlong : 600 < d.length
    · have hl6 : (600 : Int) < (d.length : Int) := by omega
      obtain ⟨rfl, rfl⟩ : (0 : Int) = z ∧ (3 : Int) = code := by simpa [hlong] using hz
      clear hz hn hsg hal HG
      go_enter Tryd.func6, Tryd.ntmps6
      go_wp2_with fail
      refine (HC.out _).mono ?_
      rintro e w1 ⟨rfl, rfl⟩
      go_wp2_with fail
      refine (HNUM.out _).mono ?_
      rintro e w2 ⟨rfl, hb2⟩
      have HW2 := Lib.hid (HW.out.trans (hb2.mono HW.out.size))
      have I2 := HI.out.below hb2
      have HI2 := Lib.hid I2
      have c0 := I2.c0
      have c1' := I2.c1
      have f0 := I2.f 0
      have f1 := I2.f 1
      clear hb2 HW HI I2
      go_wp2_with fail
      refine bodyPost_ret (v := .tuple #[.agg #[.bool false, .slice none 0 0], .int .i64 3]) (by simp [results, Tryd.results6, go_sem, c0, c1']) rfl ?_
      have h := retp_zero (w := w) (code := 3) HI2.out (Nat.le_refl _) HW2.out (.bool false) (.slice none 0 0) rfl
      exact h
    · have hl6 : ¬ (600 : Int) < (d.length : Int) := by omega
      obtain ⟨hz1, rfl⟩ : zv b (dnum d) = z ∧ (0 : Int) = code := by simpa [hlong] using hz
      have HZ : Hid (zneg z = b) := by show _ = _; rw [← hz1]; exact hsg hn
      have HZ2 : Hid (z.natAbs = dnum d) := by show _ = _; rw [← hz1]; exact zv_natAbs _ _
      have HGG := Lib.hid (fun W => HG.out W (hal hn) (by omega))
      clear hz hn hsg hal HG hz1
      obtain ⟨m, hm⟩ : ∃ m, dnum d = m := ⟨_, rfl⟩
      rw [hm] at HGG HZ2
      clear hm
      go_enter Tryd.func6, Tryd.ntmps6
      go_wp2_with fail
      refine (HC.out _).mono ?_
      rintro e w1 ⟨rfl, rfl⟩
      go_wp2_with fail
      refine (HNUM.out _).mono ?_
      rintro e w2 ⟨rfl, hb2⟩
      have HW2 := Lib.hid (HW.out.trans (hb2.mono HW.out.size))
      have I2 := HI.out.below hb2
      have HI2 := Lib.hid I2
      have c0 := I2.c0
      have c1' := I2.c1
      have f0 := I2.f 0
      have f1 := I2.f 1
      clear hb2 HW HI I2
      go_wp2_with fail
      refine (HGG.out _).mono ?_
      rintro e w3 ⟨A3, d3, rfl, hd3, h3, hb3⟩
      have HN3 := Lib.hid h3
      have HW3 := Lib.hid (HW2.out.trans (hb3.mono HW2.out.size))
      have I3 := HI2.out.below hb3
      have HI3 := Lib.hid I3
      have k0 := I3.c0
      have k1' := I3.c1
      have g0 := I3.f 0
      have g1 := I3.f 1
      clear h3 hb3 HI2 HW2 I3
      go_wp2_with fail
      refine bodyPost_ret (v := .tuple #[.agg #[.bool b, .slice A3 (dig m).length d3], .int .i64 0]) (by simp [results, Tryd.results6, go_sem, k0, k1']) rfl ?_
      have h := retp_of (w := w) (code := 0) HZ.out HZ2.out hd3 HN3.out HI3.out (Nat.le_refl _) HW3.out (.bool b) (.slice A3 (dig m).length d3) rfl
      exact h
end Go.Proofs.YtginajegbknfhaaDoor.D
