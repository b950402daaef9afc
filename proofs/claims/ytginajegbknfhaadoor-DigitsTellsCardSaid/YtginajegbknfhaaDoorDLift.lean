/- lift, gather: a numeral's value. -/
import Derived.Test.YtginajegbknfhaaDoorDNumeral
namespace Go.Proofs.YtginajegbknfhaaDoor.D
open Go.RowKit

theorem Num.one (w : World) (x : Nat) (hx : x < 18446744073709551616) : Num (w.alloc (.cells #[.int .u64 x] 31)) (some ⟨w.heap.size, 0, none⟩) [x] :=
  (Blk.lit w [x]).num (Digs.cons (by rw [B64_eq]; exact hx) Digs.nil)
theorem val_one (x : Nat) : val [x] = x := by simp [val]
theorem dig_mul_len {s sc k : Nat} (hl : (dig s).length ≤ k) (hsc : sc < 18446744073709551616) : (dig (s * sc)).length ≤ k + 1 := by
  refine dig_length_le ?_
  rw [Nat.pow_succ]
  have h1 := val_lt (dig_digs s)
  rw [val_dig] at h1
  exact Nat.mul_lt_mul'' (Nat.lt_of_lt_of_le h1 (Nat.pow_le_pow_right (by rw [B64_eq]; omega) hl)) (by rw [B64_eq]; exact hsc)
set_option maxHeartbeats 4000000 in
theorem lift_any (w : World) (A : Option Addr) (c s sc p r : Nat) (ha : Num w A (dig s)) (hl : (dig s).length ≤ 10000) (hc : (dig s).length ≤ c) (hsc : sc < 18446744073709551616) (hp : p < 18446744073709551616) (hr : s * sc + p = r) :
    Calls Tryd.prog 47 #[.slice A (dig s).length c, .int .u64 sc, .int .u64 p] w (RetN w r) := by
  have HM : Hid (∀ W, Num W A (dig s) → Calls Tryd.prog 45 #[.slice A (dig s).length c, .slice (some ⟨W.heap.size, 0, none⟩) 1 1] (W.alloc (.cells #[.int .u64 sc] 31)) (RetN (W.alloc (.cells #[.int .u64 sc] 31)) (s * sc))) := fun W h =>
    mul_v (W.alloc _) A (some ⟨W.heap.size, 0, none⟩) c 1 (dig s) [sc] s sc (h.alloc _) (Num.one W sc hsc) (val_dig _) (val_one _) (by omega) (by simp) hc (by simp)
  have hml : (dig (s * sc)).length ≤ 10001 := dig_mul_len hl hsc
  have HA2 : Hid (∀ W B d, Num W B (dig (s * sc)) → (dig (s * sc)).length ≤ d → Calls Tryd.prog 42 #[.slice B (dig (s * sc)).length d, .slice (some ⟨W.heap.size, 0, none⟩) 1 1] (W.alloc (.cells #[.int .u64 p] 31)) (RetN (W.alloc (.cells #[.int .u64 p] 31)) r)) := fun W B d h hd => by
    rw [← hr]
    exact add_v (W.alloc _) B (some ⟨W.heap.size, 0, none⟩) d 1 (dig (s * sc)) [p] (s * sc) p (h.alloc _) (Num.one W p hp) (val_dig _) (val_one _) (by omega) (by simp) hd (by simp)
  have HA := Lib.hid ha
  have HB0 : Hid (Below w.heap.size w (w.alloc (.cells #[.int .u64 sc] 31))) := (Below.refl _ _).alloc (Nat.le_refl _) _
  obtain ⟨q, hq⟩ : ∃ q, s * sc = q := ⟨_, rfl⟩
  rw [hq] at HM HA2
  clear ha hsc hp hr hml hq
  go_enter Tryd.func47, Tryd.ntmps47
  go_wp2_with fail
  refine (HM.out w HA.out).mono ?_
  rintro e w1 ⟨A1, c1, rfl, hc1, h1, hb1⟩
  have HN1 := Lib.hid h1
  have HB1 := Lib.hid (HB0.out.trans (hb1.mono HB0.out.size))
  have HB2 : Hid (Below w.heap.size w (w1.alloc (.cells #[.int .u64 p] 31))) := HB1.out.alloc HB1.out.size _
  clear h1 hb1
  go_wp2_with fail
  refine (HA2.out w1 A1 c1 HN1.out hc1).mono ?_
  rintro e w2 ⟨A2, c2, rfl, hc2, h2, hb2⟩
  have HN2 := Lib.hid h2
  have HB3 := Lib.hid (HB2.out.trans (hb2.mono HB2.out.size))
  clear h2 hb2
  go_wp2_with fail
  go_ret
  exact ⟨A2, c2, rfl, hc2, HN2.out, HB3.out⟩

/-- The number whose digits they are. -/
def dnum (l : List UInt8) : Nat := l.foldl (fun a c => 10 * a + (c.toNat - 48)) 0
theorem dnum_snoc (l : List UInt8) (c : UInt8) : dnum (l ++ [c]) = 10 * dnum l + (c.toNat - 48) := by unfold dnum; rw [List.foldl_append]; rfl
theorem dnum_take {l : List UInt8} {i : Nat} {c : UInt8} (h : l[i]? = some c) : dnum (l.take (i + 1)) = 10 * dnum (l.take i) + (c.toNat - 48) := by
  rw [List.take_add_one, h]
  exact dnum_snoc _ _
theorem isDig_range {c : UInt8} (h : isDig c = true) : 48 ≤ c.toNat ∧ c.toNat ≤ 57 := by unfold isDig at h; simpa using h
theorem dnum_lt : ∀ (n : Nat) (l : List UInt8), l.length = n → l.all isDig = true → dnum l < 10 ^ n := by
  intro n
  induction n with
  | zero => intro l h _; rw [List.length_eq_zero_iff.1 h]; decide
  | succ n ih =>
    intro l h hd
    have hne : l ≠ [] := by intro e; rw [e] at h; simp at h
    have e := List.dropLast_concat_getLast hne
    have hlast : isDig (l.getLast hne) = true := List.all_eq_true.1 hd _ (List.getLast_mem hne)
    have hdl : l.dropLast.all isDig = true := by
      rw [List.all_eq_true] at hd ⊢
      exact fun x hx => hd x (List.dropLast_subset l hx)
    have h1 := ih l.dropLast (by rw [List.length_dropLast]; omega) hdl
    have h2 := isDig_range hlast
    rw [← e, dnum_snoc, Nat.pow_succ]
    omega
theorem all_take {l : List UInt8} (h : l.all isDig = true) (n : Nat) : (l.take n).all isDig = true := by
  rw [List.all_eq_true] at h ⊢
  exact fun x hx => h x (List.mem_of_mem_take hx)
theorem dig_len10 {n k : Nat} (h : n < 10 ^ k) : (dig n).length ≤ k := dig_length_le (Nat.lt_of_lt_of_le h (Nat.pow_le_pow_left (by rw [B64_eq]; omega) _))
theorem Num.iterAt {w : World} {A : Option Addr} {xs : List Nat} {k pos : Nat} {s : ByteArray} (h : Num w A xs) (hk : w.heap[k]? = some (.stringIter s pos)) (pos' : Nat) : Num (w.iterAt k s pos') A xs :=
  ⟨h.1, fun hn => by
    obtain ⟨b, off, e, hlt, hc⟩ := h.2 hn
    refine ⟨b, off, e, by rw [Lib.iterAt_size]; exact hlt, fun i hi => ?_⟩
    refine (World.cell?_of_block (Lib.iterAt_other w k b s pos' ?_)).trans (hc i hi)
    intro e2
    subst e2
    have := hc i hi
    unfold World.cell? at this
    simp only [hk] at this
    cases this⟩
set_option maxRecDepth 100000 in
set_option maxHeartbeats 4000000 in
theorem gather_any (w : World) (l : List UInt8) (hd : l.all isDig = true) (hl : l.length ≤ 600) :
    Calls Tryd.prog 24 #[.string ⟨l.toArray⟩] w (RetN w (dnum l)) := by
  have HD := Lib.hid hd
  clear hd
  go_enter Tryd.func24, Tryd.ntmps24
  go_wp2_with fail
  go_loopg [3, 4, 5] l.length (fun g sv pv cv wx => ∃ (i q c p : Nat) (A : Option Addr) (d : Nat), i + g = l.length ∧ sv = .slice A (dig q).length d ∧ pv = .int .u64 (p : Int) ∧ cv = .int .u64 ((10 ^ c : Nat) : Int) ∧ c < 19 ∧ p < 10 ^ c ∧ (dig q).length ≤ d ∧ Hid ((dig q).length ≤ i) ∧ Hid (dnum (l.take i) = q * 10 ^ c + p) ∧ Hid (Num wx A (dig q)) ∧ Hid (wx.heap[w.heap.size]? = some (.stringIter ⟨l.toArray⟩ i)) ∧ Hid (Below w.heap.size w wx))
  case atStart => exact ⟨0, 0, 0, 0, none, 0, by omega, by rw [dig_zero]; rfl, rfl, rfl, by omega, by omega, by rw [dig_zero]; exact Nat.le_refl _, by show _ ≤ _; rw [dig_zero]; exact Nat.le_refl _, rfl, by rw [dig_zero]; exact Num.nil _ _, World.iter_heap w _ 0, (Below.refl _ _).alloc (Nat.le_refl _) _⟩
  case round =>
    obtain ⟨i, q, c, p, A, d, hig, rfl, rfl, rfl, hc, hp, hqd, hqi, hdn, HN, hit, HB⟩ := hrel
    have h19 : 10 ^ c ≤ 10 ^ 18 := Nat.pow_le_pow_right (by omega) (by omega)
    obtain ⟨S, hS⟩ : ∃ S, 10 ^ c = S := ⟨_, rfl⟩
    have HS := Lib.hid hS
    have hS18 : S ≤ 1000000000000000000 := by rw [← hS]; exact h19
    have hpS : p < S := by rw [← hS]; exact hp
    rw [hS]
    have hil : i ≤ l.length := by omega
    have hq6 : (dig q).length ≤ 600 := by have := hqi.out; omega
    cases gk with
    | zero =>
      have HR : Hid (q * S + p = dnum l) := by
        show _ = _
        rw [← hS, ← hdn.out, List.take_of_length_le (by omega)]
      have HL := Lib.hid (lift_any wr A d q S p (dnum l) HN.out (by omega) hqd (by omega) (by omega) HR.out)
      have hnx : ∀ ty, (Instr.next (.pointer (some ⟨w.heap.size, 0, none⟩)) true ty).run Tryd.prog wr = _ := fun ty => Lib.run_next_end_at wr w.heap.size ⟨l.toArray⟩ i ty hit.out (by show ¬ i < l.toArray.size; rw [List.size_toArray]; omega)
      clear hS hS18 hpS hp h19 hit HN hdn hqi
      go_wp2_with fail
      refine HL.out.mono ?_
      rintro e w1 ⟨A1, c1, rfl, hc1, h1, hb1⟩
      have HN1 := Lib.hid h1
      have HB1 := Lib.hid (HB.out.trans (hb1.mono HB.out.size))
      clear h1 hb1
      go_wp2_with fail
      go_ret
      exact ⟨A1, c1, rfl, hc1, HN1.out, HB1.out⟩
    | succ g =>
      have hi : i < (⟨l.toArray⟩ : ByteArray).size := by show i < l.toArray.size; rw [List.size_toArray]; omega
      obtain ⟨y, hy⟩ : ∃ y : UInt8, (⟨l.toArray⟩ : ByteArray)[i]'hi = y := ⟨_, rfl⟩
      have hyl : l[i]? = some y := by rw [← hy]; exact Lib.data_getElem? _ i hi
      have hyr := isDig_range (List.all_eq_true.1 HD.out y (List.mem_of_getElem? hyl))
      have hnx := fun ty => Lib.run_next_ascii_at (P := Tryd.prog) wr w.heap.size ⟨l.toArray⟩ i ty hit.out hi (by rw [hy]; omega)
      rw [hy] at hnx
      have hdt := dnum_take hyl
      obtain ⟨Y, hY⟩ : ∃ Y, y.toNat = Y := ⟨_, rfl⟩
      rw [hY] at hnx hyr hdt
      obtain ⟨D, hD⟩ : ∃ D, Y - 48 = D := ⟨_, rfl⟩
      rw [hD] at hdt
      have hD9 : D ≤ 9 := by omega
      obtain ⟨p10, hp10⟩ : ∃ x, 10 * p = x := ⟨_, rfl⟩
      obtain ⟨p2, hp2⟩ : ∃ x, p10 + D = x := ⟨_, rfl⟩
      obtain ⟨S2, hS2⟩ : ∃ x, 10 * S = x := ⟨_, rfl⟩
      have t1 : IntKind.i32.wrap ((Y : Int) - 48) = (D : Int) := by
        have h : (Y : Int) - 48 = (D : Int) := by omega
        rw [h]
        exact IntWalk.i32_in _ (by omega)
      have t2 : IntKind.u64.wrap (D : Int) = (D : Int) := IntWalk.u64_in _ (by omega)
      have t3 : IntKind.u64.wrap (10 * (p : Int)) = (p10 : Int) := by
        have h : 10 * (p : Int) = (p10 : Int) := by omega
        rw [h]
        exact IntWalk.u64_in _ (by omega)
      have t4 : IntKind.u64.wrap ((p10 : Int) + (D : Int)) = (p2 : Int) := by
        have h : (p10 : Int) + (D : Int) = (p2 : Int) := by omega
        rw [h]
        exact IntWalk.u64_in _ (by omega)
      have t5 : IntKind.u64.wrap (10 * (S : Int)) = (S2 : Int) := by
        have h : 10 * (S : Int) = (S2 : Int) := by omega
        rw [h]
        exact IntWalk.u64_in _ (by omega)
      have hS2c : 10 ^ (c + 1) = S2 := by rw [Nat.pow_succ, hS]; omega
      have HS2 := Lib.hid hS2c
      have HP2 : Hid (p2 < S2) := by show _ < _; omega
      have HR : Hid (dnum (l.take (i + 1)) = q * S2 + p2) := by
        show _ = _
        rw [hdt, hdn.out, hS, ← hp2, ← hp10, ← hS2, Nat.mul_add, Nat.mul_left_comm]
        omega
      obtain ⟨W, hW⟩ : ∃ W, wr.iterAt w.heap.size ⟨l.toArray⟩ (i + 1) = W := ⟨_, rfl⟩
      have HN2 : Hid (Num W A (dig q)) := by rw [← hW]; exact Num.iterAt HN.out hit.out _
      have HIT2 : Hid (W.heap[w.heap.size]? = some (.stringIter ⟨l.toArray⟩ (i + 1))) := by rw [← hW]; exact Lib.iterAt_heap _ _ _ _ _ hit.out
      have HB2 : Hid (Below w.heap.size w W) := by rw [← hW]; exact Lib.below_iterAt HB.out (Nat.le_refl _) _ _
      rw [hW] at hnx
      have hig2 : i + 1 + g = l.length := by omega
      have hqi2 : Hid ((dig q).length ≤ i + 1) := by show _ ≤ _; have := hqi.out; omega
      have HQ6 := Lib.hid hq6
      by_cases hc18 : c = 18
      · have hS2v : S2 = 10000000000000000000 := by rw [← hS2c, hc18]
        have hcond : ((S2 : Int) == 10000000000000000000) = true := by rw [hS2v]; rfl
        have HL := Lib.hid (lift_any W A d q S2 p2 (dnum (l.take (i + 1))) HN2.out (by omega) hqd (by rw [hS2v]; decide) (Nat.lt_of_lt_of_le HP2.out (by rw [hS2v]; decide)) HR.out.symm)
        have hlr : Hid ((dig (dnum (l.take (i + 1)))).length ≤ i + 1) := dig_len10 (dnum_lt (i + 1) _ (by rw [List.length_take]; omega) (all_take HD.out _))
        obtain ⟨r, hr⟩ : ∃ r, dnum (l.take (i + 1)) = r := ⟨_, rfl⟩
        have HRR := Lib.hid hr
        rw [hr] at HL hlr
        clear hS hS18 hpS hp h19 hit HN hdn hqi hyr hyl hy hi hY hD hD9 hdt hp10 hp2 hS2 hS2c hW HB hr hS2v hq6 hil
        go_wp2_with fail
        refine HL.out.mono ?_
        rintro e w1 ⟨A1, c1, rfl, hc1, h1, hb1⟩
        have HN3 := Lib.hid h1
        have HIT3 : Hid (w1.heap[w.heap.size]? = some (.stringIter ⟨l.toArray⟩ (i + 1))) := (hb1.block _ (Array.getElem?_eq_some_iff.1 HIT2.out).1).trans HIT2.out
        have HB3 := Lib.hid (HB2.out.trans (hb1.mono HB2.out.size))
        clear h1 hb1
        go_wp2_with fail
        go_roundg g
        case measure => omega
        case rel => exact ⟨i + 1, r, 0, 0, A1, c1, hig2, rfl, rfl, rfl, by omega, by omega, hc1, hlr, by show _ = _; rw [HRR.out, Nat.pow_zero, Nat.mul_one, Nat.add_zero], HN3, HIT3, HB3⟩
      · have hS2l : S2 ≤ 1000000000000000000 := by
          rw [← hS2c]; exact Nat.le_trans (Nat.pow_le_pow_right (by omega) (show c + 1 ≤ 18 by omega)) (by decide)
        have hcond : ((S2 : Int) == 10000000000000000000) = false := by rw [beq_eq_false_iff_ne]; omega
        have hc1 : c + 1 < 19 := by omega
        clear hS hS18 hpS hp h19 hit HN hdn hqi hyr hyl hy hi hY hD hD9 hdt hp10 hp2 hS2 hS2c hW HB hq6 hil hS2l
        go_wp2_with fail
        go_roundg g
        case measure => omega
        case rel => exact ⟨i + 1, q, c + 1, p2, A, d, hig2, rfl, rfl, by rw [HS2.out], hc1, by rw [HS2.out]; exact HP2.out, hqd, hqi2, by show _ = _; rw [HS2.out]; exact HR.out, HN2, HIT2, HB2⟩
end Go.Proofs.YtginajegbknfhaaDoor.D
