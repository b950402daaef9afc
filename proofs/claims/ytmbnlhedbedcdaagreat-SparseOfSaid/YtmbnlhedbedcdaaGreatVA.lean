/- VA: several texts in one. -/
import Derived.Test.YtmbnlhedbedcdaaGreatQOps
import Derived.Test.YtmbnlhedbedcdaaGreatVMath
import Derived.Test.YtmbnlhedbedcdaaGreatRAdd
import Derived.Test.YtmbnlhedbedcdaaGreatVLib
import Derived.Deep.AppendSrc
import Derived.Deep.DeepAppendWide
import Derived.Test.YtmbnlhedbedcdaaGreatQLow
import Derived.Laws.EntriesVeiled
/- Vectors in memory: rows of terms. -/
namespace Go.Proofs.YtmbnlhedbedcdaaGreat.V
open Go.RowKit
open Go.Proofs.YtmbnlhedbedcdaaGreat.Q (IsQ OneQ RetQ Qbx put4 below_on)

/-- A term as it lies in a row. -/
structure TV where
  at_ : Int
  s : Bool
  A : Option Addr
  n : Nat
  c : Nat
  t : Bool
  B : Option Addr
  m : Nat
  d : Nat
instance : Inhabited TV := ⟨⟨0, false, none, 0, 0, false, none, 0, 0⟩⟩
def TV.enc (x : TV) : List Value := [.int .i64 x.at_, .bool x.s, .slice x.A x.n x.c, .bool x.t, .slice x.B x.m x.d]
/-- A row of terms. -/
def Row (w : World) (A : Option Addr) (xs : List TV) : Prop :=
  xs ≠ [] → ∃ b off, A = some ⟨b, off, none⟩ ∧ b < w.heap.size ∧ ∀ j x, xs[j]? = some x → ∀ i v, x.enc[i]? = some v → w.cell? ⟨b, off + j * 5 + i, none⟩ = some v
/-- What a term counts. -/
def TQ (w : World) (x : TV) (q : Rat) (k : Nat) : Prop := IsQ w x.s x.A x.n x.c x.t x.B x.m x.d q k ∧ -9223372036854775808 ≤ x.at_ ∧ x.at_ ≤ 9223372036854775807
/-- A vector, in any form: terms, and what each counts. -/
structure IsV (w : World) (A : Option Addr) (n c : Nat) (ys : List (TV × Rat)) (k : Nat) : Prop where
  en : n = ys.length
  cap : n ≤ c
  row : Row w A (ys.map Prod.fst)
  tq : ∀ y ∈ ys, TQ w y.1 y.2 k
def vals (ys : List (TV × Rat)) : List (Int × Rat) := ys.map (fun y => (y.1.at_, y.2))
theorem Row.below {w w' : World} {A : Option Addr} {xs : List TV} (h : Row w A xs) (hb : Below w.heap.size w w') : Row w' A xs := by
  intro hne
  obtain ⟨b, off, e, hlt, hc⟩ := h hne
  exact ⟨b, off, e, Nat.lt_of_lt_of_le hlt hb.size, fun j x hj i v hv => (hb.cell (p := ⟨b, off + j * 5 + i, none⟩) hlt).trans (hc j x hj i v hv)⟩
theorem TQ.below {w w' : World} {x : TV} {q : Rat} {k : Nat} (h : TQ w x q k) (hb : Below w.heap.size w w') : TQ w' x q k := ⟨h.1.below hb, h.2⟩
theorem IsV.below {w w' : World} {A : Option Addr} {n c k : Nat} {ys : List (TV × Rat)} (h : IsV w A n c ys k) (hb : Below w.heap.size w w') : IsV w' A n c ys k :=
  ⟨h.en, h.cap, h.row.below hb, fun y hy => (h.tq y hy).below hb⟩
theorem Row.at_ {w : World} {A : Option Addr} {xs : List TV} (h : Row w A xs) {j : Nat} {x : TV} (hj : xs[j]? = some x) : ∃ b off, A = some ⟨b, off, none⟩ ∧ b < w.heap.size ∧
    w.cell? ⟨b, off + j * 5, none⟩ = some (.int .i64 x.at_) ∧ w.cell? ⟨b, off + j * 5 + 1, none⟩ = some (.bool x.s) ∧ w.cell? ⟨b, off + j * 5 + 2, none⟩ = some (.slice x.A x.n x.c) ∧ w.cell? ⟨b, off + j * 5 + 3, none⟩ = some (.bool x.t) ∧ w.cell? ⟨b, off + j * 5 + 4, none⟩ = some (.slice x.B x.m x.d) := by
  obtain ⟨b, off, e, hlt, hc⟩ := h (by intro e; rw [e] at hj; cases hj)
  exact ⟨b, off, e, hlt, hc j x hj 0 _ rfl, hc j x hj 1 _ rfl, hc j x hj 2 _ rfl, hc j x hj 3 _ rfl, hc j x hj 4 _ rfl⟩
theorem vals_at {ys : List (TV × Rat)} {i : Nat} {y : TV × Rat} (h : ys[i]? = some y) : (vals ys).drop i = (y.1.at_, y.2) :: (vals ys).drop (i + 1) := by
  obtain ⟨hi, e⟩ := List.getElem?_eq_some_iff.1 h
  unfold vals
  rw [List.drop_eq_getElem_cons (by simpa using hi), List.getElem_map, e]
theorem vals_len (ys : List (TV × Rat)) : (vals ys).length = ys.length := by unfold vals; rw [List.length_map]
set_option maxRecDepth 100000 in
set_option maxHeartbeats 2000000 in
theorem many_any {w : World} {A : Option Addr} {n c k : Nat} {ys : List (TV × Rat)} (h : IsV w A n c ys k) (a : Int) (hn : n ≤ 1000000000) :
    Calls Tryz.prog 119 #[.slice A n c, .int .i64 a] w (fun e w' => e = .returned (.int .i64 ((lead (vals ys) a : Nat) : Int)) ∧ w' = w) := by
  have H := Lib.hid h
  have HLEN := Lib.hid h.en
  have HN := Lib.hid hn
  obtain ⟨L, hL⟩ : ∃ L, lead (vals ys) a = L := ⟨_, rfl⟩
  rw [hL]
  have HL := Lib.hid hL
  clear h hn hL
  go_enter Tryz.func119, Tryz.ntmps119
  go_wp2_with fail
  go_loop [5] (fun iv => ∃ i : Nat, i ≤ n ∧ iv = .int .i64 (i : Int) ∧ Hid (i + lead ((vals ys).drop i) a = L)) (fun iv => n - (intOf iv).toNat)
  case atStart => exact ⟨0, Nat.zero_le _, rfl, by show _ = _; rw [List.drop_zero, Nat.zero_add, HL.out]⟩
  case round =>
    obtain ⟨i, hi, rfl, HI⟩ := hrel
    by_cases hlt : i < n
    · have hi1 : (i : Int) < (n : Int) := by omega
      have hi0 : (0 : Int) ≤ (i : Int) := by omega
      obtain ⟨y, hy⟩ : ∃ y, ys[i]? = some y := ⟨ys[i]'(by have := HLEN.out; omega), List.getElem?_eq_getElem (by have := HLEN.out; omega)⟩
      obtain ⟨b, off, hA, _, c0, c1, c2, c3, c4⟩ := H.out.row.at_ (j := i) (x := y.1) (by rw [List.getElem?_map, hy]; rfl)
      subst hA
      have hv := vals_at hy
      have HST : Hid (lead ((vals ys).drop i) a = if y.1.at_ = a then lead ((vals ys).drop (i + 1)) a + 1 else 0) := by show _ = _; rw [hv]; rfl
      obtain ⟨p, hp⟩ : ∃ p, y.1.at_ = p := ⟨_, rfl⟩
      rw [hp] at c0 HST
      have t1 : IntKind.i64.wrap ((i : Int) + 1) = ((i + 1 : Nat) : Int) := by
        have h := IntWalk.i64_in ((i : Int) + 1) (by have := HN.out; omega)
        rw [h]; omega
      clear hy hv c1 c2 c3 c4 hp
      by_cases hpa : p = a
      · have b1 : (p == a) = true := beq_iff_eq.2 hpa
        have HS2 : Hid (i + 1 + lead ((vals ys).drop (i + 1)) a = L) := by
          have h1 := HI.out
          have h2 := HST.out
          rw [if_pos hpa] at h2
          show _ = _
          omega
        clear hpa
        go_wp2_with fail
        go_round
        case rel => exact ⟨i + 1, by omega, rfl, HS2⟩
        case measure => first | (simp [intOf]; done) | (simp [intOf]; omega)
      · have b1 : (p == a) = false := beq_eq_false_iff_ne.2 hpa
        have HE : Hid (i = L) := by
          have h1 := HI.out
          have h2 := HST.out
          rw [if_neg hpa] at h2
          show _ = _
          omega
        clear hpa
        go_wp2_with fail
        go_ret
        rw [HE.out]
        exact ⟨rfl, rfl⟩
    · have hi1 : ¬ (i : Int) < (n : Int) := by omega
      have HE : Hid (i = L) := by
        have h1 := HI.out
        rw [List.drop_eq_nil_of_le (by rw [vals_len]; have := HLEN.out; omega)] at h1
        exact h1
      go_wp2_with fail
      go_ret
      rw [HE.out]
      exact ⟨rfl, rfl⟩
set_option maxRecDepth 100000 in
set_option maxHeartbeats 2000000 in
theorem first_any {w : World} {A B : Option Addr} {n c m d k l : Nat} {xs ys : List (TV × Rat)} (h1 : IsV w A n c xs k) (h2 : IsV w B m d ys l) (hne : xs ≠ [] ∨ ys ≠ []) :
    Calls Tryz.prog 118 #[.slice A n c, .slice B m d] w (fun e w' => e = .returned (.int .i64 (firstAt (vals xs) (vals ys))) ∧ Below w.heap.size w w') := by
  have HB := Lib.hid (Below.refl w.heap.size w)
  rcases xs with _ | ⟨x, xs⟩
  · rcases ys with _ | ⟨y, ys⟩
    · simp at hne
    · have e1 := h1.en
      have e2 := h2.en
      obtain ⟨b, off, hA, _, c0, _⟩ := h2.row.at_ (j := 0) (x := y.1) rfl
      subst hA
      have g1 : ((n : Int) == 0) = true := by rw [e1]; rfl
      have g2 : (0 : Int) < (m : Int) := by rw [e2, List.length_cons]; omega
      have HF : Hid (firstAt (vals []) (vals (y :: ys)) = y.1.at_) := rfl
      clear h1 h2 hne e1 e2
      simp only [Nat.zero_mul, Nat.add_zero] at c0
      go_enter Tryz.func118, Tryz.ntmps118
      go_wp2_with fail
      go_ret
      rw [HF.out]
      exact ⟨rfl, HB.out⟩
  · have e1 := h1.en
    obtain ⟨b, off, hA, _, c0, _⟩ := h1.row.at_ (j := 0) (x := x.1) rfl
    subst hA
    have g1 : ((n : Int) == 0) = false := by rw [e1, List.length_cons, beq_eq_false_iff_ne]; omega
    have g2 : (0 : Int) < (n : Int) := by rw [e1, List.length_cons]; omega
    simp only [Nat.zero_mul, Nat.add_zero] at c0
    rcases ys with _ | ⟨y, ys⟩
    · have e2 := h2.en
      have g3 : ((m : Int) == 0) = true := by rw [e2]; rfl
      have HF : Hid (firstAt (vals (x :: xs)) (vals []) = x.1.at_) := rfl
      clear h1 h2 hne e1 e2
      go_enter Tryz.func118, Tryz.ntmps118
      go_wp2_with fail
      go_ret
      rw [HF.out]
      exact ⟨rfl, HB.out⟩
    · have e2 := h2.en
      obtain ⟨b', off', hB, _, d0, _⟩ := h2.row.at_ (j := 0) (x := y.1) rfl
      subst hB
      simp only [Nat.zero_mul, Nat.add_zero] at d0
      have g3 : ((m : Int) == 0) = false := by rw [e2, List.length_cons, beq_eq_false_iff_ne]; omega
      have g4 : (0 : Int) < (m : Int) := by rw [e2, List.length_cons]; omega
      have HF : Hid (firstAt (vals (x :: xs)) (vals (y :: ys)) = min x.1.at_ y.1.at_) := rfl
      obtain ⟨p, hp⟩ : ∃ p, x.1.at_ = p := ⟨_, rfl⟩
      obtain ⟨q, hq⟩ : ∃ q, y.1.at_ = q := ⟨_, rfl⟩
      rw [hp] at c0 HF
      rw [hq] at d0 HF
      clear h1 h2 hne e1 e2 hp hq
      go_enter Tryz.func118, Tryz.ntmps118
      go_upto_region 5 with fail
      go_region
      all_goals
        go_wp2_with fail
        go_ret
        rw [HF.out]
        exact ⟨rfl, HB.out.drew⟩
end Go.Proofs.YtmbnlhedbedcdaaGreat.V

/- sparse.sum, walked. -/
namespace Go.Proofs.YtmbnlhedbedcdaaGreat.V
open Go.RowKit
open Go.Proofs.YtmbnlhedbedcdaaGreat.Q (IsQ OneQ RetQ Qbx put4 below_on ql below_put4 put2)

/-- A fraction, in any form. -/
def RetA (w : World) (q : Rat) (k : Nat) (e : Ending) (w' : World) : Prop :=
  ∃ s A n c t B m d, e = .returned (.agg #[.bool s, .slice A n c, .bool t, .slice B m d]) ∧ IsQ w' s A n c t B m d q k ∧ Below w.heap.size w w'
theorem ql_null : ql 0 ≤ 1 := by
  have h := Q.ql_div (n := 0) (d := 1) (by omega)
  rw [Rat.zero_divInt] at h
  have h1 := zl_small (z := 0) (by omega) (by omega)
  have h2 := zl_small (z := 1) (by omega) (by omega)
  omega
theorem IsV.nil (w : World) (A : Option Addr) (c k : Nat) : IsV w A 0 c [] k := ⟨rfl, Nat.zero_le _, fun h => absurd rfl h, fun _ h => by cases h⟩
theorem IsV.drop {w : World} {b off n c k : Nat} {ys : List (TV × Rat)} (h : IsV w (some ⟨b, off, none⟩) n c ys k) (i : Nat) : IsV w (some ⟨b, off + i * 5, none⟩) (n - i) (c - i) (ys.drop i) k := by
  refine ⟨by rw [h.en, List.length_drop], by have := h.cap; omega, ?_, fun y hy => h.tq y (List.mem_of_mem_drop hy)⟩
  intro hne
  obtain ⟨b2, off2, e, hlt, hc⟩ := h.row (by intro e; apply hne; rw [List.map_drop, e, List.drop_nil])
  obtain ⟨rfl, rfl⟩ : b = b2 ∧ off = off2 := by simpa using e
  refine ⟨b, off + i * 5, rfl, hlt, fun j x hj i2 v hv => ?_⟩
  rw [List.map_drop, List.getElem?_drop] at hj
  have := hc (i + j) x hj i2 v hv
  rw [show off + i * 5 + j * 5 + i2 = off + (i + j) * 5 + i2 by omega]
  exact this
theorem IsV.take {w : World} {A : Option Addr} {n c k : Nat} {ys : List (TV × Rat)} (h : IsV w A n c ys k) {i : Nat} (hi : i ≤ n) : IsV w A i c (ys.take i) k := by
  refine ⟨by rw [List.length_take, ← h.en]; omega, by have := h.cap; omega, ?_, fun y hy => h.tq y (List.mem_of_mem_take hy)⟩
  intro hne
  obtain ⟨b, off, e, hlt, hc⟩ := h.row (by intro e; apply hne; rw [List.map_take, e, List.take_nil])
  refine ⟨b, off, e, hlt, fun j x hj i2 v hv => hc j x ?_ i2 v hv⟩
  rw [List.map_take, List.getElem?_take] at hj
  split at hj
  · exact hj
  · cases hj
theorem all_take_succ {l : List (Int × Rat)} {i : Nat} {p : Int × Rat} (h : l[i]? = some p) : all (l.take (i + 1)) = all (l.take i) + p.2 := by
  rw [List.take_add_one, h, all_append]
  show _ = all (l.take i) + p.2
  have : all (some p).toList = p.2 := by show p.2 + 0 = p.2; grind
  rw [this]
/-- sum's own memory. -/
structure SM (w wx : World) (s : Bool) (A : Option Addr) (n c : Nat) (t : Bool) (B : Option Addr) (m d : Nat) (q : Rat) : Prop where
  bel : Below w.heap.size w wx
  o : Qbx wx w.heap.size false none 0 0 false none 0 0
  tot : Qbx wx (w.heap.size + 1) s A n c t B m d
  val : IsQ wx s A n c t B m d q 700
theorem SM.below {w wx wy : World} {s t : Bool} {A B : Option Addr} {n c m d : Nat} {q : Rat} (h : SM w wx s A n c t B m d q) (hb : Below wx.heap.size wx wy) : SM w wy s A n c t B m d q := ⟨below_on h.bel hb, h.o.below hb, h.tot.below hb, h.val.below hb⟩
set_option maxRecDepth 100000 in
set_option maxHeartbeats 4000000 in
theorem sum_any {w : World} {A : Option Addr} {n c k : Nat} {ys : List (TV × Rat)} (h : IsV w A n c ys k) (hk : k ≤ 700) (hn : n ≤ 1000000000) (hp : ∀ i, ql (all ((vals ys).take i)) ≤ 700) :
    Calls Tryz.prog 85 #[.slice A n c] w (RetA w (all (vals ys)) 700) := by
  rcases ys with _ | ⟨y, ys⟩
  · have e1 : n = 0 := h.en
    have g1 : ((n : Int) == 0) = true := by rw [e1]; rfl
    have HB : Hid (Below w.heap.size w (w.alloc (.cells #[.bool false, .slice none 0 0, .bool false, .slice none 0 0] 27))) := (Below.refl _ _).alloc (Nat.le_refl _) _
    have HO : Hid (Qbx (w.alloc (.cells #[.bool false, .slice none 0 0, .bool false, .slice none 0 0] 27)) w.heap.size false none 0 0 false none 0 0) := Qbx.new _ _ rfl
    clear h hk hn hp e1
    have o0 := HO.out.c0
    have o1 := HO.out.c1
    have o2 := HO.out.c2
    have o3 := HO.out.c3
    go_enter Tryz.func85, Tryz.ntmps85
    go_wp2_with fail
    refine bodyPost_ret (v := .agg #[.bool false, .slice none 0 0, .bool false, .slice none 0 0]) (by simp [results, Tryz.results85, go_sem, o0, o1, o2, o3]) rfl ?_
    exact ⟨false, none, 0, 0, false, none, 0, 0, rfl, (Q.oneq_zero _ 0 0).isq (Nat.le_trans ql_null (by omega)), by first | exact HB.out | exact below_put4 HB.out (Nat.le_refl _)⟩
  · have HLEN : Hid (n = ys.length + 1) := h.en
    have hy := h.tq y (List.mem_cons_self ..)
    obtain ⟨b, off, hA, _, c0, c1, c2, c3, c4⟩ := h.row.at_ (j := 0) (x := y.1) rfl
    subst hA
    simp only [Nat.zero_mul, Nat.add_zero] at c0 c1 c2 c3 c4
    have g1 : ((n : Int) == 0) = false := by rw [HLEN.out, beq_eq_false_iff_ne]; omega
    have g2 : (0 : Int) < (n : Int) := by rw [HLEN.out]; omega
    have g3 : (1 : Int) ≤ (n : Int) := by rw [HLEN.out]; omega
    have HN := Lib.hid hn
    have HP := Lib.hid hp
    have HK := Lib.hid hk
    obtain ⟨p, hpy⟩ : ∃ p, y.1 = p := ⟨_, rfl⟩
    obtain ⟨q0, hqy⟩ : ∃ q0, y.2 = q0 := ⟨_, rfl⟩
    rw [hpy, hqy] at hy
    rw [hpy] at c0 c1 c2 c3 c4
    obtain ⟨at_, s, A, na, ca, t, B, ma, da⟩ := p
    have H := Lib.hid h
    have HV : Hid (vals (y :: ys) = (at_, q0) :: vals ys) := by show _ = _; unfold vals; rw [List.map_cons, hpy, hqy]
    have HS : Hid (SM w ((w.alloc (.cells #[.bool false, .slice none 0 0, .bool false, .slice none 0 0] 27)).alloc (.cells #[.bool s, .slice A na ca, .bool t, .slice B ma da] 27)) s A na ca t B ma da (all ((vals (y :: ys)).take 1))) := by
      refine ⟨((Below.refl _ _).alloc (Nat.le_refl _) _).alloc (by simp) _, (Qbx.new _ _ rfl).alloc _, Qbx.new _ _ (by simp), ?_⟩
      rw [HV.out]
      have : all (List.take 1 ((at_, q0) :: vals ys)) = q0 := by show q0 + 0 = q0; grind
      rw [this]
      exact ((hy.1.alloc _).alloc _).mono hk
    have HW : Hid (Below w.heap.size w ((w.alloc (.cells #[.bool false, .slice none 0 0, .bool false, .slice none 0 0] 27)).alloc (.cells #[.bool s, .slice A na ca, .bool t, .slice B ma da] 27))) := HS.out.bel
    obtain ⟨ql0, hql0⟩ : ∃ v, vals (y :: ys) = v := ⟨_, rfl⟩
    rw [hql0] at HS HV HP ⊢
    have HT : Hid (IsV w (some ⟨b, off + 1 * 5, none⟩) (n - 1) (c - 1) ys k) := h.drop 1
    clear h hn hp hk hy hpy hqy hql0
    go_enter Tryz.func85, Tryz.ntmps85
    go_upto_region 4 with fail
    go_cut [15, 16, 17] (fun s15 s16 s17 wx => ∃ (A' : Option Addr) (N1 C1 : Nat), s15 = .slice A' N1 C1 ∧ s16 = .int .i64 (N1 : Int) ∧ s17 = .int .i64 0 ∧ Hid (IsV w A' N1 C1 ys k) ∧ Hid (SM w wx s A na ca t B ma da (all (ql0.take 1))))
    case first =>
      by_cases hc : c = 1
      · have hn1 : n = 1 := by have h1 := H.out.cap; have h2 := HLEN.out; omega
        have HE : Hid (ys = []) := by have h2 := HLEN.out; exact List.eq_nil_of_length_eq_zero (by omega)
        subst hc
        subst hn1
        go_wp2_with fail
        go_meet
        exact ⟨_, _, _, rfl, rfl, rfl, by rw [HE.out]; exact IsV.nil _ _ _ _, HS⟩
      · go_wp2_with fail
        go_meet
        exact ⟨_, _, _, rfl, rfl, rfl, HT, HS⟩
    case rest =>
      clear HT HS HW c0 c1 c2 c3 c4 g1 g2 g3
      obtain ⟨A', N1, C1, rfl, rfl, rfl, HT, HS⟩ := hcut
      have HLEN1 : Hid (N1 = ys.length) := HT.out.en
      have HN1 : Hid (N1 ≤ 1000000000) := by have h1 := HLEN.out; have h2 := HLEN1.out; have h3 := HN.out; show _ ≤ _; omega
      have HALL : Hid (ql0.length = N1 + 1) := by show _ = _; rw [HV.out, List.length_cons, vals_len, HLEN1.out]
      clear HLEN HN
      go_wp2_with fail
      go_loopw [17] (fun iv wr => ∃ (i : Nat) (s : Bool) (A : Option Addr) (na ca : Nat) (t : Bool) (B : Option Addr) (ma da : Nat), i ≤ N1 ∧ iv = .int .i64 (i : Int) ∧ Hid (SM w wr s A na ca t B ma da (all (ql0.take (i + 1))))) (fun iv _ => N1 - (intOf iv).toNat)
      case atStart => exact ⟨0, s, A, na, ca, t, B, ma, da, Nat.zero_le _, rfl, HS⟩
      case round =>
        clear HS
        obtain ⟨i, s, A, na, ca, t, B, ma, da, hi, rfl, HS⟩ := hrel
        by_cases hlt : i < N1
        · have hi1 : (i : Int) < (N1 : Int) := by omega
          have hi0 : (0 : Int) ≤ (i : Int) := by omega
          obtain ⟨u, hu⟩ : ∃ u, ys[i]? = some u := ⟨ys[i]'(by have := HLEN1.out; omega), List.getElem?_eq_getElem (by have := HLEN1.out; omega)⟩
          have hw := HS.out.bel
          obtain ⟨b1, off1, hA1, hlt1, d0, d1, d2, d3, d4⟩ := HT.out.row.at_ (j := i) (x := u.1) (by rw [List.getElem?_map, hu]; rfl)
          subst hA1
          have d0 := (hw.cell (p := ⟨b1, off1 + i * 5, none⟩) hlt1).trans d0
          have d1 := (hw.cell (p := ⟨b1, off1 + i * 5 + 1, none⟩) hlt1).trans d1
          have d2 := (hw.cell (p := ⟨b1, off1 + i * 5 + 2, none⟩) hlt1).trans d2
          have d3 := (hw.cell (p := ⟨b1, off1 + i * 5 + 3, none⟩) hlt1).trans d3
          have d4 := (hw.cell (p := ⟨b1, off1 + i * 5 + 4, none⟩) hlt1).trans d4
          have huq := HT.out.tq u (List.mem_of_getElem? hu)
          obtain ⟨p, hpu⟩ : ∃ p, u.1 = p := ⟨_, rfl⟩
          obtain ⟨r, hru⟩ : ∃ r, u.2 = r := ⟨_, rfl⟩
          rw [hpu, hru] at huq
          rw [hpu] at d0 d1 d2 d3 d4
          have HTS : Hid (all (ql0.take (i + 1 + 1)) = all (ql0.take (i + 1)) + r) := by
            show _ = _
            refine all_take_succ (p := (p.at_, r)) ?_
            rw [HV.out, List.getElem?_cons_succ]
            unfold vals
            rw [List.getElem?_map, hu]
            show some (u.1.at_, u.2) = _
            rw [hpu, hru]
          obtain ⟨pat, ps, pA, pn, pc, pt, pB, pm, pd⟩ := p
          have HQ := Lib.hid (huq.1.below (below_on (Below.refl _ _) (hw.mono (Nat.le_refl _)))) 
          obtain ⟨v, hv⟩ : ∃ v, all (ql0.take (i + 1)) = v := ⟨_, rfl⟩
          obtain ⟨v2, hv2⟩ : ∃ v2, all (ql0.take (i + 1 + 1)) = v2 := ⟨_, rfl⟩
          rw [hv] at HS HTS
          rw [hv2] at HTS
          have HQL : Hid (ql v2 ≤ 700) := by show _ ≤ _; rw [← hv2]; exact HP.out _
          have HV2 := Lib.hid hv2
          have t1 : IntKind.i64.wrap ((i : Int) + 1) = ((i + 1 : Nat) : Int) := by
            have h := IntWalk.i64_in ((i : Int) + 1) (by have := HN1.out; omega)
            rw [h]; omega
          clear hu hw hlt1 huq hpu hru hv hv2
          have v0 := HS.out.tot.c0
          have v1 := HS.out.tot.c1
          have v2' := HS.out.tot.c2
          have v3 := HS.out.tot.c3
          obtain ⟨V, hV⟩ : ∃ V, wr.alloc (.cells #[.int .i64 pat, .bool ps, .slice pA pn pc, .bool pt, .slice pB pm pd] 74) = V := ⟨_, rfl⟩
          have HVB : Hid (Below wr.heap.size wr V) := by rw [← hV]; exact (Below.refl _ _).alloc (Nat.le_refl _) _
          have HS1 := Lib.hid (HS.out.below HVB.out)
          have HQ1 := Lib.hid (HQ.out.below HVB.out)
          have v4 := HS1.out.tot.c0
          have v5 := HS1.out.tot.c1
          have v6 := HS1.out.tot.c2
          have v7 := HS1.out.tot.c3
          have hbx : V.heap[wr.heap.size]? = some (.cells #[.int .i64 pat, .bool ps, .slice pA pn pc, .bool pt, .slice pB pm pd] 74 (0, 0)) := by rw [← hV]; exact heap_alloc_new wr _
          have e1 : V.cell? ⟨wr.heap.size, 1, none⟩ = some (.bool ps) := by rw [cell_of_row V _ 1 _ _ _ hbx]; rfl
          have e2 : V.cell? ⟨wr.heap.size, 2, none⟩ = some (.slice pA pn pc) := by rw [cell_of_row V _ 2 _ _ _ hbx]; rfl
          have e3 : V.cell? ⟨wr.heap.size, 3, none⟩ = some (.bool pt) := by rw [cell_of_row V _ 3 _ _ _ hbx]; rfl
          have e4 : V.cell? ⟨wr.heap.size, 4, none⟩ = some (.slice pB pm pd) := by rw [cell_of_row V _ 4 _ _ _ hbx]; rfl
          clear HVB HS HQ hbx
          go_wp2_with fail
          refine (Q.add_q HS1.out.val (HQ1.out.mono (l := 700) HK.out) (by omega) (by omega) v2 HTS.out.symm).mono ?_
          rintro e w5 ⟨s8, A8, n8, c8, t8, B8, m8, d8, rfl, h8, hb8⟩
          clear hV v0 v1 v2' v3 v4 v5 v6 v7 d0 d1 d2 d3 d4 e1 e2 e3 e4
          have HS5 := Lib.hid (HS1.out.below hb8)
          have HR5 := Lib.hid h8
          clear h8 hb8 HS1 HQ1
          have v0 := HS5.out.tot.c0
          have v1 := HS5.out.tot.c1
          have v2' := HS5.out.tot.c2
          have v3 := HS5.out.tot.c3
          have f0 := HS5.out.tot.f 0
          have f1 := HS5.out.tot.f 1
          have f2 := HS5.out.tot.f 2
          have f3 := HS5.out.tot.f 3
          go_wp2_with fail
          go_roundw
          case rel =>
            refine ⟨i + 1, s8, A8, n8, c8, t8, B8, m8, d8, by omega, by go_num, ?_⟩
            rw [HV2.out]
            exact ⟨below_put4 HS5.out.bel (by omega), HS5.out.o.put4_far (by omega), HS5.out.tot.put, (HR5.out.on4 HS5.out.tot.bx).isq HQL.out⟩
          case measure => simp [intOf]; omega
        · have hi1 : ¬ (i : Int) < (N1 : Int) := by omega
          have HE : Hid (all (ql0.take (i + 1)) = all ql0) := by show _ = _; rw [List.take_of_length_le (by have := HALL.out; omega)]
          rw [HE.out] at HS
          have v0 := HS.out.tot.c0
          have v1 := HS.out.tot.c1
          have v2 := HS.out.tot.c2
          have v3 := HS.out.tot.c3
          have o0 := HS.out.o.c0
          have o1 := HS.out.o.c1
          have o2 := HS.out.o.c2
          have o3 := HS.out.o.c3
          have f0 := HS.out.o.f 0
          have f1 := HS.out.o.f 1
          have f2 := HS.out.o.f 2
          have f3 := HS.out.o.f 3
          go_wp2_with fail
          refine bodyPost_ret (v := .agg #[.bool s, .slice A na ca, .bool t, .slice B ma da]) (by simp [results, Tryz.results85, go_sem, o0, o1, o2, o3]) rfl ?_
          exact ⟨s, A, na, ca, t, B, ma, da, rfl, HS.out.val.on4 HS.out.o.bx, below_put4 HS.out.bel (Nat.le_refl _)⟩
end Go.Proofs.YtmbnlhedbedcdaaGreat.V

/- What a visitor leaves alone; slices of vectors. -/
namespace Go.Proofs.YtmbnlhedbedcdaaGreat.V
open Go.RowKit
open Go.Proofs.YtmbnlhedbedcdaaGreat.Q (IsQ below_on ql)

/-- All blocks that were there are as they were, but for those that are one's own. -/
structure Near (Own : Nat → Prop) (w wx : World) : Prop where
  os : wx.os = w.os
  tape : wx.tape = w.tape
  output : wx.output = w.output
  size : w.heap.size ≤ wx.heap.size
  block : ∀ b, b < w.heap.size → ¬ Own b → wx.heap[b]? = w.heap[b]?
theorem Near.refl (Own : Nat → Prop) (w : World) : Near Own w w := ⟨rfl, rfl, rfl, Nat.le_refl _, fun _ _ _ => rfl⟩
theorem Near.trans {Own : Nat → Prop} {w wx wy : World} (h : Near Own w wx) (g : Near Own wx wy) : Near Own w wy :=
  ⟨g.os.trans h.os, g.tape.trans h.tape, g.output.trans h.output, Nat.le_trans h.size g.size, fun b hb ho => (g.block b (Nat.lt_of_lt_of_le hb h.size) ho).trans (h.block b hb ho)⟩
theorem Near.of_below {Own : Nat → Prop} {w wx : World} (h : Below w.heap.size w wx) : Near Own w wx := ⟨h.os, h.tape, h.output, h.size, fun b hb _ => h.block b hb⟩
theorem Near.below {Own : Nat → Prop} {w wx wy : World} (h : Near Own w wx) (g : Below wx.heap.size wx wy) : Near Own w wy := h.trans (Near.of_below g)
/-- Where nothing that is one's own was there yet. -/
theorem Near.new {Own : Nat → Prop} {w0 w wx : World} (h : Near Own w wx) (hb : Below w0.heap.size w0 w) (ho : ∀ b, Own b → w0.heap.size ≤ b) : Below w0.heap.size w0 wx :=
  ⟨h.os.trans hb.os, h.tape.trans hb.tape, h.output.trans hb.output, Nat.le_trans hb.size h.size, fun b hlt => (h.block b (Nat.lt_of_lt_of_le hlt hb.size) (fun h2 => by have := ho b h2; omega)).trans (hb.block b hlt)⟩
/-- One's own blocks hold no digits. -/
def NoDig (w : World) (Own : Nat → Prop) : Prop := ∀ b, Own b → ∀ i v, w.cell? ⟨b, i, none⟩ = some v → ∀ z, v ≠ .int .u64 z
theorem num_near {Own : Nat → Prop} {w wx : World} {A : Option Addr} {xs : List Nat} (h : Num w A xs) (hd : NoDig w Own) (hn : Near Own w wx) : Num wx A xs :=
  ⟨h.1, fun hne => by
    obtain ⟨b, off, e, hlt, hc⟩ := h.2 hne
    have ho : ¬ Own b := fun h2 => hd b h2 _ _ (hc 0 (List.length_pos_iff.2 hne)) _ rfl
    exact ⟨b, off, e, Nat.lt_of_lt_of_le hlt hn.size, fun j hj => (World.cell?_of_block (hn.block b hlt ho)).trans (hc j hj)⟩⟩
theorem isq_near {Own : Nat → Prop} {w wx : World} {s : Bool} {A : Option Addr} {n c : Nat} {t : Bool} {B : Option Addr} {m d : Nat} {q : Rat} {k : Nat} (h : IsQ w s A n c t B m d q k) (hd : NoDig w Own) (hn : Near Own w wx) : IsQ wx s A n c t B m d q k :=
  ⟨by obtain ⟨xs, ys, h1, h2, h3, h4, h5⟩ := h.ex; exact ⟨xs, ys, h1, h2, num_near h3 hd hn, num_near h4 hd hn, h5⟩, h.le, h.le2, h.cap, h.cap2⟩
def Off (Own : Nat → Prop) (A : Option Addr) : Prop := ∀ a, A = some a → ¬ Own a.block
theorem IsV.near {Own : Nat → Prop} {w wx : World} {A : Option Addr} {n c k : Nat} {ys : List (TV × Rat)} (h : IsV w A n c ys k) (ho : Off Own A) (hd : NoDig w Own) (hn : Near Own w wx) : IsV wx A n c ys k := by
  refine ⟨h.en, h.cap, ?_, fun y hy => ⟨isq_near (h.tq y hy).1 hd hn, (h.tq y hy).2⟩⟩
  intro hne
  obtain ⟨b, off, e, hlt, hc⟩ := h.row hne
  exact ⟨b, off, e, Nat.lt_of_lt_of_le hlt hn.size, fun j x hj i v hv => (World.cell?_of_block (a := ⟨b, off + j * 5 + i, none⟩) (hn.block b hlt (ho _ e))).trans (hc j x hj i v hv)⟩
theorem NoDig.near {Own : Nat → Prop} {w wx : World} (hd : NoDig w Own) (hn : Below w.heap.size w wx) (ho : ∀ b, Own b → b < w.heap.size) : NoDig wx Own := fun b hb i v hv =>
  hd b hb i v ((hn.cell (p := ⟨b, i, none⟩) (ho b hb)).symm.trans hv)
theorem IsV.sl {w : World} {A : Option Addr} {n c k : Nat} {ys : List (TV × Rat)} (h : IsV w A n c ys k) (L : Nat) (hL : L ≤ n) : IsV w (if c = L then A else A.map (·.add (L * 5))) (n - L) (c - L) (ys.drop L) k := by
  rcases Nat.lt_or_ge L n with hlt | hge
  · obtain ⟨b, off, e, _, _⟩ := h.row (by intro e; rw [List.map_eq_nil_iff] at e; have := h.en; rw [e] at this; simp at this; omega)
    have hc := h.cap
    subst e
    rw [if_neg (by omega)]
    have e2 : Option.map (·.add (L * 5)) (some (⟨b, off, none⟩ : Addr)) = some ⟨b, off + L * 5, none⟩ := by simp [Addr.add]
    rw [e2]
    exact h.drop L
  · obtain rfl : L = n := by omega
    rw [List.drop_eq_nil_of_le (by rw [h.en]; exact Nat.le_refl _), Nat.sub_self]
    exact IsV.nil _ _ _ _
theorem IsV.st {w : World} {A : Option Addr} {n c k : Nat} {ys : List (TV × Rat)} (h : IsV w A n c ys k) (L : Nat) (hL : L ≤ n) : IsV w (if c = 0 then A else A.map (·.add (0 * 5))) L c (ys.take L) k := by
  rcases Nat.eq_zero_or_pos n with h0 | hp
  · obtain rfl : L = 0 := by omega
    rw [List.take_zero]
    exact IsV.nil _ _ _ _
  · obtain ⟨b, off, e, _, _⟩ := h.row (by intro e; rw [List.map_eq_nil_iff] at e; have := h.en; rw [e] at this; simp at this; omega)
    subst e
    have e2 : (if c = 0 then (some (⟨b, off, none⟩ : Addr)) else Option.map (·.add (0 * 5)) (some (⟨b, off, none⟩ : Addr))) = some ⟨b, off, none⟩ := by split <;> simp [Addr.add]
    rw [e2]
    exact h.take hL
theorem add_block (a : Addr) (k : Nat) : (a.add k).block = a.block := by unfold Addr.add; split <;> rfl
theorem Off.sl {Own : Nat → Prop} {A : Option Addr} (h : Off Own A) (c L k : Nat) : Off Own (if c = L then A else A.map (·.add k)) := by
  split
  · exact h
  · intro a e
    cases A with
    | none => cases e
    | some a2 =>
      obtain rfl := Option.some.inj e
      rw [add_block]
      exact h a2 rfl
theorem run_sl (w : World) (A : Option Addr) (n c L : Nat) (hL : L ≤ n) : (Instr.slice 22 (.slice A n c) (some (.int .i64 (L : Int))) none none).run Tryz.prog w = .ok (.slice (if c = L then A else A.map (·.add (L * 5))) (n - L) (c - L)) w := by
  rw [run_slice_l w _ A n c (by kernel_rfl) .i64 (L : Int) (by omega) (by omega)]
  have e : Tryz.prog.elem 22 = 74 := by kernel_rfl
  rw [e, Tryz.sizeOf74]
  simp [Result.andThen, sliced]
theorem run_st (w : World) (A : Option Addr) (n c L : Nat) (hL : L ≤ c) : (Instr.slice 22 (.slice A n c) none (some (.int .i64 (L : Int))) none).run Tryz.prog w = .ok (.slice (if c = 0 then A else A.map (·.add (0 * 5))) L c) w := by
  rw [run_slice_h w _ A n c (by kernel_rfl) .i64 (L : Int) (by omega) (by omega)]
  have e : Tryz.prog.elem 22 = 74 := by kernel_rfl
  rw [e, Tryz.sizeOf74]
  simp [Result.andThen, sliced]
/-- No sum of some of these is long. -/
def Short (l : List (Int × Rat)) : Prop := ∀ l' : List (Int × Rat), l'.length ≤ l.length → (∀ x ∈ l', x ∈ l) → ql (all l') ≤ 700
end Go.Proofs.YtmbnlhedbedcdaaGreat.V

/- Terms by rising places: the comparison; slices.IsSortedFunc, walked. -/
namespace Go.Proofs.YtmbnlhedbedcdaaGreat.V
open Go.RowKit
open Go.Sort (grow alloc_eq_grow grow_grow)
open Go.Proofs.YtmbnlhedbedcdaaGreat.Q (below_on)

theorem less_any (p q : TV) (W : World) : Calls Tryz.prog 146 #[.agg #[.int .i64 p.at_, .bool p.s, .slice p.A p.n p.c, .bool p.t, .slice p.B p.m p.d], .agg #[.int .i64 q.at_, .bool q.s, .slice q.A q.n q.c, .bool q.t, .slice q.B q.m q.d]] W fun e w' => e = .returned (.int .i64 (zcmp p.at_ q.at_)) ∧ ∃ q os', w' = grow (W.drewN q) os' := by
  obtain ⟨r, hr⟩ : ∃ r, zcmp p.at_ q.at_ = r := ⟨_, rfl⟩
  rw [hr]
  have HR := Lib.hid hr
  clear hr
  go_enter Tryz.func146, Tryz.ntmps146
  go_wp2_with fail
  refine (compare_any _ _ _).mono ?_
  rintro e w1 ⟨rfl, rfl⟩
  go_wp2_with fail
  go_ret
  rw [HR.out]
  exact ⟨rfl, 0, _, by rw [alloc_eq_grow, alloc_eq_grow, grow_grow]; rfl⟩
theorem below_grow (w : World) (n : Nat) (os : Array Obj) : Below w.heap.size w (grow (w.drewN n) os) := by
  refine ⟨rfl, rfl, rfl, ?_, fun k hk => ?_⟩
  · show w.heap.size ≤ (w.heap ++ os).size
    rw [Array.size_append]; omega
  · show (w.heap ++ os)[k]? = w.heap[k]?
    rw [Array.getElem?_append_left hk]
theorem less_below (p q : TV) (W : World) : Calls Tryz.prog 146 #[.agg #[.int .i64 p.at_, .bool p.s, .slice p.A p.n p.c, .bool p.t, .slice p.B p.m p.d], .agg #[.int .i64 q.at_, .bool q.s, .slice q.A q.n q.c, .bool q.t, .slice q.B q.m q.d]] W fun e w' => e = .returned (.int .i64 (zcmp p.at_ q.at_)) ∧ Below W.heap.size W w' :=
  (less_any p q W).mono fun _ _ ⟨h, _, _, e⟩ => ⟨h, e ▸ below_grow W _ _⟩
theorem up_adj {l : List (Int × Rat)} (h : ∀ i a b, l[i]? = some a → l[i + 1]? = some b → a.1 ≤ b.1) : Up l := by
  induction l with
  | nil => exact List.Pairwise.nil
  | cons x l ih =>
    have ht : Up l := ih fun i a b ha hb => h (i + 1) a b (by rw [List.getElem?_cons_succ]; exact ha) (by rw [List.getElem?_cons_succ]; exact hb)
    refine List.pairwise_cons.2 ⟨fun y hy => ?_, ht⟩
    cases l with
    | nil => cases hy
    | cons z l =>
      have hxz : x.1 ≤ z.1 := h 0 x z rfl rfl
      rcases List.mem_cons.1 hy with rfl | hy
      · exact hxz
      · have := (List.pairwise_cons.1 ht).1 y hy; omega
theorem zcmp_neg {a b : Int} : zcmp a b < 0 ↔ a < b := by unfold zcmp; split <;> (try split) <;> omega
def RetSo (w : World) (l : List (Int × Rat)) (e : Ending) (w' : World) : Prop := ∃ b, e = .returned (.bool b) ∧ (b = true → Up l) ∧ (b = false → l ≠ []) ∧ Below w.heap.size w w'
set_option maxRecDepth 100000 in
set_option maxHeartbeats 4000000 in
theorem sorted_any {w : World} {A : Option Addr} {n c k : Nat} {ys : List (TV × Rat)} (h : IsV w A n c ys k) (hn : n ≤ 1000000000) :
    Calls Tryz.prog 147 #[.slice A n c, .func (.func 146) #[] #[]] w (RetSo w (vals ys)) := by
  have H := Lib.hid h
  have HLEN := Lib.hid h.en
  have HN := Lib.hid hn
  clear h hn
  by_cases h1 : n ≤ 1
  · have HU : Hid (Up (vals ys)) := by
      refine up_adj fun i a b ha hb => ?_
      have := (List.getElem?_eq_some_iff.1 hb).1
      rw [vals_len] at this
      have := HLEN.out
      omega
    have t0 : IntKind.i64.wrap ((n : Int) - 1) = (n : Int) - 1 := IntWalk.i64_in _ (by omega)
    have g1 : ¬ (0 : Int) < (n : Int) - 1 := by omega
    clear h1
    go_enter Tryz.func147, Tryz.ntmps147
    go_wp2_with fail
    go_loop [5] (fun iv => iv = .int .i64 ((n : Int) - 1)) (fun iv => 0)
    case atStart => rfl
    case round =>
      obtain rfl := hrel
      go_wp2_with fail
      refine bodyPost_ret (v := .bool true) (by simp [results, Tryz.results147, go_sem]) rfl ?_
      exact ⟨true, rfl, fun _ => HU.out, (fun h => by cases h), Below.refl _ _⟩
  · obtain ⟨m, rfl⟩ : ∃ m, n = m + 1 := ⟨n - 1, by omega⟩
    have t0 : IntKind.i64.wrap (((m + 1 : Nat) : Int) - 1) = (m : Int) := by
      have h := IntWalk.i64_in (((m + 1 : Nat) : Int) - 1) (by have := HN.out; omega)
      rw [h]; omega
    obtain ⟨N, hN⟩ : ∃ N, m + 1 = N := ⟨_, rfl⟩
    rw [hN] at t0 H HLEN HN ⊢
    have HNM := Lib.hid hN
    clear h1 hN
    go_enter Tryz.func147, Tryz.ntmps147
    go_wp2_with fail
    go_loopw [5] (fun iv wr => ∃ i : Nat, i ≤ m ∧ iv = .int .i64 (i : Int) ∧ Hid (Below w.heap.size w wr) ∧ Hid (∀ j a b, i ≤ j → (vals ys)[j]? = some a → (vals ys)[j + 1]? = some b → a.1 ≤ b.1)) (fun iv _ => (intOf iv).toNat)
    case atStart =>
      refine ⟨m, Nat.le_refl _, rfl, Below.refl _ _, fun j a b hj ha hb => ?_⟩
      have := (List.getElem?_eq_some_iff.1 hb).1
      rw [vals_len] at this
      have := HLEN.out
      have := HNM.out
      omega
    case round =>
      obtain ⟨i, hi, rfl, HB, HU⟩ := hrel
      rcases i with _ | I
      · go_wp2_with fail
        refine bodyPost_ret (v := .bool true) (by simp [results, Tryz.results147, go_sem]) rfl ?_
        exact ⟨true, rfl, (fun _ => up_adj fun j a b ha hb => HU.out j a b (Nat.zero_le _) ha hb), (fun h => by cases h), HB.out⟩
      · obtain ⟨J, hJ⟩ : ∃ J, I + 1 = J := ⟨_, rfl⟩
        rw [hJ] at hi HU ⊢
        have hj0 : (0 : Int) < (J : Int) := by omega
        have hj1 : (0 : Int) ≤ (J : Int) := by omega
        have hj2 : (J : Int) < (N : Int) := by have := HNM.out; omega
        have hi0 : (0 : Int) ≤ (I : Int) := by omega
        have hi2 : (I : Int) < (N : Int) := by have := HNM.out; omega
        have t1 : IntKind.i64.wrap ((J : Int) - 1) = (I : Int) := by
          have h := IntWalk.i64_in ((J : Int) - 1) (by have := HN.out; omega)
          rw [h]; omega
        obtain ⟨yy, hy⟩ : ∃ y, ys[I]? = some y := ⟨ys[I]'(by have := HLEN.out; omega), List.getElem?_eq_getElem (by have := HLEN.out; omega)⟩
        obtain ⟨uu, hu⟩ : ∃ u, ys[J]? = some u := ⟨ys[J]'(by have := HLEN.out; omega), List.getElem?_eq_getElem (by have := HLEN.out; omega)⟩
        obtain ⟨b, off, hA, hlt, c0, c1, c2, c3, c4⟩ := H.out.row.at_ (j := I) (x := yy.1) (by rw [List.getElem?_map, hy]; rfl)
        obtain ⟨b', off', hA', hlt', d0, d1, d2, d3, d4⟩ := H.out.row.at_ (j := J) (x := uu.1) (by rw [List.getElem?_map, hu]; rfl)
        obtain ⟨rfl, rfl⟩ : b = b' ∧ off = off' := by rw [hA] at hA'; simpa using hA'
        obtain ⟨y, hyy⟩ : ∃ y, yy.1 = y := ⟨_, rfl⟩
        obtain ⟨u, huu⟩ : ∃ u, uu.1 = u := ⟨_, rfl⟩
        rw [hyy] at c0 c1 c2 c3 c4
        rw [huu] at d0 d1 d2 d3 d4
        subst hA
        have HV1 : Hid ((vals ys)[I]? = some (y.at_, yy.2)) := by show _ = _; unfold vals; rw [List.getElem?_map, hy, ← hyy]; rfl
        have HV2 : Hid ((vals ys)[I + 1]? = some (u.at_, uu.2)) := by show _ = _; unfold vals; rw [hJ, List.getElem?_map, hu, ← huu]; rfl
        have HJ := Lib.hid hJ
        have HK : Hid (∀ V, Below w.heap.size w V → V.cell? ⟨b, off + J * 5, none⟩ = some (.int .i64 u.at_) ∧ V.cell? ⟨b, off + J * 5 + 1, none⟩ = some (.bool u.s) ∧ V.cell? ⟨b, off + J * 5 + 2, none⟩ = some (.slice u.A u.n u.c) ∧ V.cell? ⟨b, off + J * 5 + 3, none⟩ = some (.bool u.t) ∧ V.cell? ⟨b, off + J * 5 + 4, none⟩ = some (.slice u.B u.m u.d) ∧ V.cell? ⟨b, off + I * 5, none⟩ = some (.int .i64 y.at_) ∧ V.cell? ⟨b, off + I * 5 + 1, none⟩ = some (.bool y.s) ∧ V.cell? ⟨b, off + I * 5 + 2, none⟩ = some (.slice y.A y.n y.c) ∧ V.cell? ⟨b, off + I * 5 + 3, none⟩ = some (.bool y.t) ∧ V.cell? ⟨b, off + I * 5 + 4, none⟩ = some (.slice y.B y.m y.d)) := by
          intro V hV
          exact ⟨(hV.cell (p := ⟨b, off + J * 5, none⟩) hlt).trans d0, (hV.cell (p := ⟨b, off + J * 5 + 1, none⟩) hlt).trans d1, (hV.cell (p := ⟨b, off + J * 5 + 2, none⟩) hlt).trans d2, (hV.cell (p := ⟨b, off + J * 5 + 3, none⟩) hlt).trans d3, (hV.cell (p := ⟨b, off + J * 5 + 4, none⟩) hlt).trans d4, (hV.cell (p := ⟨b, off + I * 5, none⟩) hlt).trans c0, (hV.cell (p := ⟨b, off + I * 5 + 1, none⟩) hlt).trans c1, (hV.cell (p := ⟨b, off + I * 5 + 2, none⟩) hlt).trans c2, (hV.cell (p := ⟨b, off + I * 5 + 3, none⟩) hlt).trans c3, (hV.cell (p := ⟨b, off + I * 5 + 4, none⟩) hlt).trans c4⟩
        clear c0 c1 c2 c3 c4 d0 d1 d2 d3 d4 hy hu hyy huu hlt hlt' hJ
        by_cases hlt : u.at_ < y.at_
        · have g1 : zcmp u.at_ y.at_ < 0 := zcmp_neg.2 hlt
          obtain ⟨r, hr⟩ : ∃ r, zcmp u.at_ y.at_ = r := ⟨_, rfl⟩
          rw [hr] at g1
          have HR := Lib.hid hr
          clear hlt hr
          go_upto_region 4 with fail
          go_region_held3 (fun V => V.cell? ⟨b, off + J * 5, none⟩ = some (.int .i64 u.at_) ∧ V.cell? ⟨b, off + J * 5 + 1, none⟩ = some (.bool u.s) ∧ V.cell? ⟨b, off + J * 5 + 2, none⟩ = some (.slice u.A u.n u.c) ∧ V.cell? ⟨b, off + J * 5 + 3, none⟩ = some (.bool u.t) ∧ V.cell? ⟨b, off + J * 5 + 4, none⟩ = some (.slice u.B u.m u.d) ∧ V.cell? ⟨b, off + I * 5, none⟩ = some (.int .i64 y.at_) ∧ V.cell? ⟨b, off + I * 5 + 1, none⟩ = some (.bool y.s) ∧ V.cell? ⟨b, off + I * 5 + 2, none⟩ = some (.slice y.A y.n y.c) ∧ V.cell? ⟨b, off + I * 5 + 3, none⟩ = some (.bool y.t) ∧ V.cell? ⟨b, off + I * 5 + 4, none⟩ = some (.slice y.B y.m y.d))
           (first | (with_reducible exact HK.out _ HB2.out) | (with_reducible exact HK.out _ HB.out.drew))
           (first | (go_at_call 146; (with_reducible refine (less_below u y _).mono ?_); rintro e w2 ⟨rfl, hb2⟩; rw [HR.out]; have HB2 := Lib.hid (below_on HB.out.drew hb2)))
          all_goals
            go_wp2_with fail
            refine bodyPost_ret (v := .bool false) (by simp [results, Tryz.results147, go_sem]) rfl ?_
            exact ⟨false, rfl, (fun h => by cases h), (fun _ h => by have h2 := HV1.out; rw [h] at h2; cases h2), HB2.out⟩
        · have g1 : ¬ zcmp u.at_ y.at_ < 0 := fun h => hlt (zcmp_neg.1 h)
          obtain ⟨r, hr⟩ : ∃ r, zcmp u.at_ y.at_ = r := ⟨_, rfl⟩
          rw [hr] at g1
          have HR := Lib.hid hr
          have HUI : Hid (∀ j a b, I ≤ j → (vals ys)[j]? = some a → (vals ys)[j + 1]? = some b → a.1 ≤ b.1) := by
            intro j a b hj ha hb
            rcases Nat.lt_or_ge I j with h | h
            · exact HU.out j a b (by have := HJ.out; omega) ha hb
            · obtain rfl : j = I := by omega
              rw [HV1.out] at ha
              rw [HV2.out] at hb
              obtain rfl := Option.some.inj ha
              obtain rfl := Option.some.inj hb
              show y.at_ ≤ u.at_
              omega
          clear hlt hr
          go_upto_region 4 with fail
          go_region_held3 (fun V => V.cell? ⟨b, off + J * 5, none⟩ = some (.int .i64 u.at_) ∧ V.cell? ⟨b, off + J * 5 + 1, none⟩ = some (.bool u.s) ∧ V.cell? ⟨b, off + J * 5 + 2, none⟩ = some (.slice u.A u.n u.c) ∧ V.cell? ⟨b, off + J * 5 + 3, none⟩ = some (.bool u.t) ∧ V.cell? ⟨b, off + J * 5 + 4, none⟩ = some (.slice u.B u.m u.d) ∧ V.cell? ⟨b, off + I * 5, none⟩ = some (.int .i64 y.at_) ∧ V.cell? ⟨b, off + I * 5 + 1, none⟩ = some (.bool y.s) ∧ V.cell? ⟨b, off + I * 5 + 2, none⟩ = some (.slice y.A y.n y.c) ∧ V.cell? ⟨b, off + I * 5 + 3, none⟩ = some (.bool y.t) ∧ V.cell? ⟨b, off + I * 5 + 4, none⟩ = some (.slice y.B y.m y.d))
           (first | (with_reducible exact HK.out _ HB2.out) | (with_reducible exact HK.out _ HB.out.drew))
           (first | (go_at_call 146; (with_reducible refine (less_below u y _).mono ?_); rintro e w2 ⟨rfl, hb2⟩; rw [HR.out]; have HB2 := Lib.hid (below_on HB.out.drew hb2)))
          all_goals
            go_wp2_with fail
            go_roundw
            case rel => exact ⟨I, by have := HJ.out; omega, by go_num, HB2, HUI⟩
            case measure => (simp [intOf]; have := HJ.out; omega)
end Go.Proofs.YtmbnlhedbedcdaaGreat.V

/- sparse.ordered, walked: by the library's sort. -/
namespace Go.Proofs.YtmbnlhedbedcdaaGreat.V
open Go.RowKit
open Go.Sort (grow HoldsK flatK Holds putRowK mapBlock putRow PermIn SortedIn SWO size_flatK get_flatK)
open Go.Proofs (sortWorldK ltOf)
open Go.Proofs.YtmbnlhedbedcdaaGreat.Q (below_on)

theorem perm_lift {α β : Type} {f : α → β} {l m : List β} (h : l.Perm m) : ∀ ys : List α, ys.map f = m → ∃ ys' : List α, ys'.Perm ys ∧ ys'.map f = l := by
  induction h with
  | nil => intro ys e; exact ⟨[], by rw [List.map_eq_nil_iff.1 e], rfl⟩
  | cons x _ ih =>
    intro ys e
    cases ys with
    | nil => cases e
    | cons y ys =>
      obtain ⟨e1, e2⟩ := List.cons.inj e
      obtain ⟨zs, h1, h2⟩ := ih ys e2
      exact ⟨y :: zs, h1.cons y, by rw [List.map_cons, h2, e1]⟩
  | swap x y l =>
    intro ys e
    match ys, e with
    | a :: b :: ys, e =>
      obtain ⟨e1, e2⟩ := List.cons.inj e
      obtain ⟨e3, e4⟩ := List.cons.inj e2
      exact ⟨b :: a :: ys, List.Perm.swap a b ys, by rw [List.map_cons, List.map_cons, e1, e3, e4]⟩
  | trans _ _ ih1 ih2 =>
    intro ys e
    obtain ⟨zs, h1, h2⟩ := ih2 ys e
    obtain ⟨us, h3, h4⟩ := ih1 zs h2
    exact ⟨us, h3.trans h1, h4⟩
theorem enc_len (x : TV) : x.enc.length = 5 := rfl
/-- All cells of a row, one behind the other. -/
def flat (xs : List TV) : List Value := xs.flatMap TV.enc
theorem flat_len (xs : List TV) : (flat xs).length = xs.length * 5 := by
  induction xs with
  | nil => rfl
  | cons x xs ih => show (x.enc ++ flat xs).length = _; rw [List.length_append, ih, enc_len, List.length_cons]; omega
theorem flat_at (xs : List TV) (j i : Nat) (hi : i < 5) : (flat xs)[j * 5 + i]? = (xs[j]?).bind (fun x => x.enc[i]?) := by
  induction xs generalizing j with
  | nil => simp [flat]
  | cons x xs ih =>
    show (x.enc ++ flat xs)[j * 5 + i]? = _
    cases j with
    | zero => rw [List.getElem?_append_left (by rw [enc_len]; omega), Nat.zero_mul, Nat.zero_add]; rfl
    | succ j =>
      rw [List.getElem?_append_right (by rw [enc_len]; omega), enc_len, show (j + 1) * 5 + i - 5 = j * 5 + i by omega, ih]
      rfl
theorem flat_cells {w : World} {b off : Nat} {xs : List TV} (h : Row w (some ⟨b, off, none⟩) xs) : ∀ j u, (flat xs)[j]? = some u → w.cell? ⟨b, off + j, none⟩ = some u := by
  intro j u hj
  have e : j = (j / 5) * 5 + j % 5 := by omega
  rw [e, flat_at xs _ _ (by omega)] at hj
  obtain ⟨x, hx, hu⟩ := Option.bind_eq_some_iff.1 hj
  obtain ⟨b2, off2, e2, _, hc⟩ := h (by intro e3; rw [e3] at hx; cases hx)
  obtain ⟨rfl, rfl⟩ : b = b2 ∧ off = off2 := by simpa using e2
  have := hc _ x hx _ u hu
  rw [show off + (j / 5) * 5 + j % 5 = off + j by omega] at this
  exact this
theorem row_cells {w : World} {b off : Nat} {xs : List TV} (hb : b < w.heap.size) (h : ∀ j u, (flat xs)[j]? = some u → w.cell? ⟨b, off + j, none⟩ = some u) : Row w (some ⟨b, off, none⟩) xs := by
  intro _
  refine ⟨b, off, rfl, hb, fun j x hj i v hv => ?_⟩
  have hi : i < 5 := by have := (List.getElem?_eq_some_iff.1 hv).1; rwa [enc_len] at this
  have := h (j * 5 + i) v (by rw [flat_at xs j i hi, hj]; exact hv)
  rw [← Nat.add_assoc] at this
  exact this
theorem one_cell (xs : List TV) : ∀ u ∈ flat xs, u.oneCell' = true := by
  intro u hu
  obtain ⟨x, _, hx⟩ := List.mem_flatMap.1 hu
  simp only [TV.enc, List.mem_cons, List.not_mem_nil, or_false] at hx
  rcases hx with rfl | rfl | rfl | rfl | rfl <;> rfl
theorem flatK_flat (xs : List TV) (j : Nat) (hj : j < xs.length * 5) : (flat xs)[j]? = some (flatK TV.enc 5 xs.toArray)[j]! := by
  rw [get_flatK _ _ _ _ (by simpa using hj)]
  have e : j = (j / 5) * 5 + j % 5 := by omega
  have hlt : j / 5 < xs.length := by omega
  conv => lhs; rw [e]
  rw [flat_at xs _ _ (by omega), List.getElem?_eq_getElem hlt]
  have e2 : (xs.toArray[j / 5]! : TV) = xs[j / 5] := by rw [getElem!_pos xs.toArray (j / 5) (by simpa using hlt)]; simp
  rw [e2]
  show (xs[j / 5]).enc[j % 5]? = _
  rw [List.getElem!_eq_getElem?_getD, List.getElem?_eq_getElem (by rw [enc_len]; omega)]
  rfl
theorem holds_flat {w : World} {b off : Nat} {xs : List TV} (h : HoldsK TV.enc 5 w b off xs.toArray) : ∀ j u, (flat xs)[j]? = some u → w.cell? ⟨b, off + j, none⟩ = some u := by
  intro j u hj
  have hlt : j < xs.length * 5 := by have := (List.getElem?_eq_some_iff.1 hj).1; rwa [flat_len] at this
  rw [flatK_flat xs j hlt] at hj
  rw [(h j (by rw [size_flatK]; simpa using hlt)).1]
  exact hj
theorem flat_holds {w : World} {b off : Nat} {xs : List TV} (h : ∀ j u, (flat xs)[j]? = some u → w.cell? ⟨b, off + j, none⟩ = some u) (hf : ∀ j, w.frozen? ⟨b, off + j, none⟩ = false) : HoldsK TV.enc 5 w b off xs.toArray := by
  intro j hj
  rw [size_flatK] at hj
  exact ⟨h j _ (flatK_flat xs j (by simpa using hj)), hf j⟩
theorem below_sort (w : World) (base b off m : Nat) (d : Array TV) (os : Array Obj) (hb : base ≤ b) (hw : base ≤ w.heap.size) : Below base w (sortWorldK TV.enc 5 w b off m d os) := by
  have hsz : (putRowK TV.enc 5 (Go.Sort.ahead w m) b off d).heap.size = w.heap.size := by simp [putRowK, putRow, mapBlock, Go.Sort.ahead]
  refine ⟨rfl, rfl, rfl, ?_, fun k hk => ?_⟩
  · show w.heap.size ≤ ((putRowK TV.enc 5 (Go.Sort.ahead w m) b off d).heap ++ os).size
    rw [Array.size_append, hsz]; omega
  · show ((putRowK TV.enc 5 (Go.Sort.ahead w m) b off d).heap ++ os)[k]? = _
    rw [Array.getElem?_append_left (by rw [hsz]; omega)]
    show (w.heap.modify b _)[k]? = _
    rw [Array.getElem?_modify, if_neg (by omega)]
def cfT (x y : TV) : Int := zcmp x.at_ y.at_
theorem lt_cfT (x y : TV) : Go.Proofs.ltOf cfT x y = decide (x.at_ < y.at_) := by
  unfold Go.Proofs.ltOf cfT
  by_cases h : x.at_ < y.at_
  · rw [decide_eq_true h, decide_eq_true (zcmp_neg.2 h)]
  · rw [decide_eq_false h, decide_eq_false (fun h2 => h (zcmp_neg.1 h2))]
theorem swoT : SWO (Go.Proofs.ltOf cfT) where
  irrefl x := by rw [lt_cfT]; simp
  trans x y z h1 h2 := by rw [lt_cfT] at *; simp at *; omega
  ntrans x y z h1 h2 := by rw [lt_cfT] at *; simp at *; omega
/-- In order: the row that came in, or one of the call's own. -/
def RetOr (w : World) (A : Option Addr) (n : Nat) (ys : List (TV × Rat)) (k : Nat) (e : Ending) (w' : World) : Prop :=
  ∃ A' c' ys', e = .returned (.slice A' n c') ∧ IsV w' A' n c' ys' k ∧ (vals ys').Perm (vals ys) ∧ Up (vals ys') ∧ Below w.heap.size w w' ∧ (A' = A ∨ ∃ g, A' = some ⟨g, 0, none⟩ ∧ w.heap.size ≤ g)
theorem info_t : (Tryz.prog.info? 74).map (fun i => (i.zero, i.size, i.bytes)) = some (some (.agg #[.int .i64 0, .bool false, .slice none 0 0, .bool false, .slice none 0 0]), 5, 72) := by kernel_rfl
set_option maxRecDepth 100000 in
set_option maxHeartbeats 4000000 in
theorem ordered_any {w : World} {A : Option Addr} {n c k : Nat} {ys : List (TV × Rat)} (h : IsV w A n c ys k) (hn : n ≤ 1000000) :
    Calls Tryz.prog 117 #[.slice A n c] w (RetOr w A n ys k) := by
  have H := Lib.hid h
  have HN := Lib.hid hn
  clear h hn
  go_enter Tryz.func117, Tryz.ntmps117
  go_wp2_with fail
  refine (sorted_any H.out (by have := HN.out; omega)).mono ?_
  rintro e w1 ⟨b, rfl, hup, hne, hb1⟩
  have H1 := Lib.hid (H.out.below hb1)
  have HB1 := Lib.hid hb1
  clear hb1
  cases b with
  | true =>
    have HU : Hid (Up (vals ys)) := hup rfl
    clear hup hne
    go_wp2_with fail
    refine bodyPost_ret (v := .slice A n c) (by simp [results, Tryz.results117, go_sem]) rfl ?_
    exact ⟨A, c, ys, rfl, H1.out, List.Perm.refl _, HU.out, HB1.out, .inl rfl⟩
  | false =>
    have hne2 : ys.map Prod.fst ≠ [] := by intro h; apply hne rfl; rw [List.map_eq_nil_iff] at h; rw [h]; rfl
    obtain ⟨bk, off, hA, hlt, _⟩ := H1.out.row hne2
    subst hA
    have HLT := Lib.hid hlt
    obtain ⟨i0, hi0, hz0, hz1, hz2⟩ := info_parts info_t
    have HCL : Hid (Calls Tryz.prog 148 #[.slice (some ⟨bk, off, none⟩) n c] w1 fun e w' => ∃ v', e = .returned v' ∧ w'.ownsRow w1.heap.size 74 5 v' n (flat (ys.map Prod.fst)) ∧ v' ≠ .slice none 0 0 ∧ Below w1.heap.size w1 w') := by
      exact AnyE.slices_Clone Tryz.cloneT i0 (.agg #[.int .i64 0, .bool false, .slice none 0 0, .bool false, .slice none 0 0]) 5 72 hi0 hz0 hz1 hz2 rfl (by decide) Tryz.sizeOf74 bk off n c (flat (ys.map Prod.fst)) w1 (by rw [flat_len, List.length_map, H1.out.en]) (by unfold maxLen; have := HN.out; omega) (by have := HN.out; omega) (flat_cells H1.out.row) (one_cell _)
    clear hup hne hlt hi0 hz0 hz1 hz2
    go_wp2_with fail
    refine HCL.out.mono ?_
    rintro e w2 ⟨v', rfl, hown, hnn, hb2⟩
    obtain ⟨hl, hrow⟩ := hown
    rcases hrow with ⟨rfl, _⟩ | ⟨g, cap, cur, rfl, hg, hgc, hnc, _, hcs, htake⟩
    · exact absurd rfl hnn
    have HC2 : Hid (∀ j u, (flat (ys.map Prod.fst))[j]? = some u → w2.cell? ⟨g, 0 + j, none⟩ = some u) := by
      intro j u hj
      rw [Nat.zero_add, cell_of_row w2 g j _ _ _ hgc]
      rw [← htake, List.getElem?_take] at hj
      split at hj
      · simpa using hj
      · cases hj
    have HH := Lib.hid (flat_holds HC2.out (fun j => frozen_of_row w2 g (0 + j) _ _ hgc))
    have hglt : g < w2.heap.size := (Array.getElem?_eq_some_iff.1 hgc).1
    have eg : ∀ args w, (callFunc 146 args).run Tryz.prog w = .ok (.enter 146 args) w := enters_of Tryz.func146 (by kernel_rfl) rfl
    have hsz : (ys.map Prod.fst).toArray.size = n := by simp; exact H.out.en.symm
    have HSO : Hid (Calls Tryz.prog 149 #[.slice (some ⟨g, 0, none⟩) n cap, .func (.func 146) #[] #[]] w2 fun e w' => e = .returned (.tuple #[]) ∧ ∃ d' m os, PermIn 0 n (ys.map Prod.fst).toArray d' ∧ SortedIn (Go.Proofs.ltOf cfT) 0 n d' ∧ w' = sortWorldK TV.enc 5 w2 g 0 m d' os) := by
      have h := AnyQ.slices_SortFunc Tryz.sortT 5 Tryz.isAgg74 Tryz.sizeOf74 TV.enc enc_len (fun x v hv => by simp only [TV.enc, List.mem_cons, List.not_mem_nil, or_false] at hv; rcases hv with rfl | rfl | rfl | rfl | rfl <;> rfl) cfT swoT 146 #[] g 0 cap (ys.map Prod.fst).toArray w2 eg (fun _ _ _ _ x y => less_any x y _) HH.out hglt (by rw [hsz]; have := HN.out; omega)
      rw [hsz] at h
      exact h
    have HB2 := Lib.hid (below_on HB1.out hb2)
    have HG : Hid (w.heap.size ≤ g) := Nat.le_trans HB1.out.size hg
    have HGL := Lib.hid hglt
    have HSZ := Lib.hid hsz
    have HNC := Lib.hid hnc
    clear hl hg hgc hnc hcs htake hnn hb2 hglt eg hsz
    go_wp2_with fail
    refine HSO.out.mono ?_
    rintro e w3 ⟨rfl, d', m, os, hp, hs, hw3⟩
    have HP := Lib.hid hp
    have HS := Lib.hid hs
    have HW3 := Lib.hid hw3
    clear hp hs hw3
    go_wp2_with fail
    refine bodyPost_ret (v := .slice (some ⟨g, 0, none⟩) n cap) (by simp [results, Tryz.results117, go_sem]) rfl ?_
    obtain ⟨hd1, _, hd3⟩ := HP.out
    have hdn : d'.size = n := hd1.trans HSZ.out
    have hperm : d'.toList.Perm (ys.map Prod.fst) := by
      have e1 : (d'.extract 0 n).toList = d'.toList := by rw [← hdn]; simp
      have e2 : ((ys.map Prod.fst).toArray.extract 0 n).toList = ys.map Prod.fst := by rw [← HSZ.out]; simp [List.take_of_length_le]
      rw [e1, e2] at hd3
      exact hd3
    obtain ⟨ys', h1, h2⟩ := perm_lift hperm ys rfl
    have hb3 : Below w.heap.size w w3 := by
      rw [HW3.out]
      exact HB2.out.trans (below_sort w2 _ g 0 m d' os HG.out HB2.out.size)
    have hlen : ys'.length = n := by rw [h1.length_eq]; exact H.out.en.symm
    have hd2 : d' = (ys'.map Prod.fst).toArray := by rw [h2]
    have hrow3 : Row w3 (some ⟨g, 0, none⟩) (ys'.map Prod.fst) := by
      refine row_cells (Nat.lt_of_lt_of_le HGL.out (by rw [HW3.out]; exact (below_sort w2 0 g 0 m d' os (Nat.zero_le _) (Nat.zero_le _)).size)) (holds_flat ?_)
      rw [← hd2, HW3.out]
      exact Go.Proofs.holdsK_sortWorldK TV.enc 5 w2 g 0 m _ d' os HGL.out HH.out hd1
    refine ⟨some ⟨g, 0, none⟩, cap, ys', rfl, ⟨hlen.symm, HNC.out, hrow3, fun y hy => (H.out.tq y (h1.mem_iff.1 hy)).below hb3⟩, h1.map _, ?_, hb3, .inr ⟨g, rfl, HG.out⟩⟩
    refine List.pairwise_iff_getElem.2 fun i j hi hj hij => ?_
    have hi' : i < ys'.length := by rwa [vals_len] at hi
    have hj' : j < ys'.length := by rwa [vals_len] at hj
    have h3 := HS.out i j (Nat.zero_le _) hij (by omega)
    have e1 : (d'[i]! : TV) = (ys'[i]).1 := by rw [hd2, getElem!_pos _ i (by simpa using hi')]; simp
    have e2 : (d'[j]! : TV) = (ys'[j]).1 := by rw [hd2, getElem!_pos _ j (by simpa using hj')]; simp
    rw [lt_cfT, e1, e2] at h3
    have e3 : (vals ys')[i] = ((ys'[i]).1.at_, (ys'[i]).2) := by simp [vals]
    have e4 : (vals ys')[j] = ((ys'[j]).1.at_, (ys'[j]).2) := by simp [vals]
    rw [e3, e4]
    have := of_decide_eq_false h3
    show (ys'[i]).1.at_ ≤ (ys'[j]).1.at_
    omega
end Go.Proofs.YtmbnlhedbedcdaaGreat.V

/- A vector of the call's own that grows by append. -/
namespace Go.Proofs.YtmbnlhedbedcdaaGreat.V
open Go.RowKit
open Go.Proofs.YtmbnlhedbedcdaaGreat.Q (IsQ OneQ below_on ql)

/-- No cell of v's own row is a digit, its spare ones too. -/
def AllT (w : World) (v : Value) : Prop := ∀ g, v.ownBlock = some g → ∀ j u, w.cell? ⟨g, j, none⟩ = some u → ∀ z, u ≠ .int .u64 z
/-- A row of terms of the call's own. -/
structure OwnT (w : World) (base : Nat) (v : Value) (ts : List TV) : Prop where
  row : w.ownsRow base 74 5 v ts.length (flat ts)
  all : AllT w v
  some_ : ∃ g n c, v = .slice (some ⟨g, 0, none⟩) n c
def zeroT : Value := .agg #[.int .i64 0, .bool false, .slice none 0 0, .bool false, .slice none 0 0]
theorem zero_t (n : Nat) : ∀ u ∈ Builtin.zeroCells zeroT.cells n, ∀ z, u ≠ Value.int .u64 z := by
  intro u hu
  unfold Builtin.zeroCells at hu
  obtain ⟨i, _, rfl⟩ := Array.mem_map.1 hu
  have e : zeroT.cells = #[.int .i64 0, .bool false, .slice none 0 0, .bool false, .slice none 0 0] := rfl
  have hi : i % zeroT.cells.size < 5 := by rw [e]; exact Nat.mod_lt _ (by decide)
  generalize i % zeroT.cells.size = k at hi
  rw [e]
  intro z
  match k, hi with
  | 0, _ => intro h; cases h
  | 1, _ => intro h; cases h
  | 2, _ => intro h; cases h
  | 3, _ => intro h; cases h
  | 4, _ => intro h; cases h
theorem flat_no (ts : List TV) : ∀ u ∈ flat ts, ∀ z, u ≠ Value.int .u64 z := by
  intro u hu z
  obtain ⟨x, _, hx⟩ := List.mem_flatMap.1 hu
  simp only [TV.enc, List.mem_cons, List.not_mem_nil, or_false] at hx
  rcases hx with rfl | rfl | rfl | rfl | rfl <;> intro h <;> cases h
theorem flat_append (xs ys : List TV) : flat (xs ++ ys) = flat xs ++ flat ys := by unfold flat; rw [List.flatMap_append]
theorem flat_one (x : TV) : flat [x] = x.enc := by unfold flat; simp

set_option maxHeartbeats 1000000 in
/-- append(v, x), x a term: just v's own row may have turned. -/
theorem appT_at (w : World) (base : Nat) (ty : TypeId) (v : Value) (ts : List TV) (x : TV) (ad : Addr) (hown : OwnT w base v ts) (had : ∀ j u, x.enc[j]? = some u → w.cell? (ad.add j) = some u) (h : ts.length ≤ 10000000) (hbase : base ≤ w.heap.size) :
    ∃ v' w', (Builtin.append_ #[33, 33] ty #[v, .slice (some ad) 1 1]).run Tryz.prog w = .ok v' w' ∧ OwnT w' base v' (ts ++ [x]) ∧ w.grownBy w' v.ownBlock ∧ (v'.ownBlock = v.ownBlock ∨ v'.ownBlock = some w.heap.size) := by
  obtain ⟨i, hi, hz, hs, hb⟩ := info_parts info_t
  obtain ⟨hown, hall, g0, n0, c0, hv0⟩ := hown
  have ho1 : ∀ u ∈ x.enc, u.oneCell' = true := by intro u hu; exact one_cell [x] u (by rw [flat_one]; exact hu)
  have under : Tryz.prog.underlying 33 = some (.slice 74) := by kernel_rfl
  obtain ⟨v', w', hr, ho, hg, hnn⟩ := run_append_own (P := Tryz.prog) w base 33 ty 74 i zeroT 5 72 under hi hz hs hb rfl (by decide) v ts.length (flat ts) hown ad 1 1 x.enc rfl had ho1 (by unfold maxLen; omega) (by omega) hbase
  suffices hh : AllT w' v' ∧ (∃ g n c, v' = .slice (some ⟨g, 0, none⟩) n c) ∧ (v'.ownBlock = v.ownBlock ∨ v'.ownBlock = some w.heap.size) from ⟨v', w', hr, ⟨by rw [List.length_append, flat_append, flat_one]; exact ho, hh.1, hh.2.1⟩, hg, hh.2.2⟩
  rcases hown.2 with ⟨rfl, h0⟩ | ⟨g, cap, cur, rfl, hbg, hgc, hnc, hcm, hcs, htake⟩
  · cases hv0
  · have hcur : ∀ u ∈ cur.toList, ∀ z, u ≠ Value.int .u64 z := by
      intro u hu
      obtain ⟨j, hj, rfl⟩ := List.getElem_of_mem hu
      refine hall g rfl j _ ?_
      rw [cell_of_row w g j _ _ _ hgc]
      rw [Array.length_toList] at hj
      rw [Array.getElem?_eq_getElem hj]; rfl
    have hx5 : ∀ u ∈ x.enc, ∀ z, u ≠ Value.int .u64 z := by intro u hu; exact flat_no [x] u (by rw [flat_one]; exact hu)
    by_cases hroom : ts.length + 1 ≤ cap
    · have hr2 := run_append_room (P := Tryz.prog) w 33 ty 74 i under hi g ts.length cap cur hgc ad 1 1 x.enc (by rw [hs]; rfl) had ho1 hroom (by rw [hs, hcs, enc_len]; omega)
      obtain ⟨e1, e2⟩ := Result.ok.inj (hr.symm.trans hr2)
      refine ⟨?_, ⟨_, _, _, e1⟩, .inl (by rw [e1]; rfl)⟩
      intro g' hg2 j u hu
      rw [e1] at hg2
      obtain rfl : g = g' := by injection hg2
      rw [e2, cell_of_row _ g j _ _ _ (setRow_heap w g cur _ _ _ hgc)] at hu
      have hm := Array.mem_of_getElem? hu
      rcases List.mem_append.1 (List.mem_toArray.1 hm) with hm | hm
      · rcases List.mem_append.1 hm with hm | hm
        · exact hcur u (List.mem_of_mem_take hm)
        · exact hx5 u hm
      · exact hcur u (List.mem_of_mem_drop hm)
    · have hr2 := run_append_grow (P := Tryz.prog) w 33 ty 74 i zeroT under hi hz ⟨g, 0, none⟩ ts.length cap (flat ts) (by rw [hs, flat_len]) (fun j u hu => hown.cells (g := g) rfl j u hu) ad 1 1 x.enc (by rw [hs]; rfl) had (by omega) (by omega)
        (growslice_fits_wide (by omega) (by rw [hb]; omega))
      obtain ⟨e1, e2⟩ := Result.ok.inj (hr.symm.trans hr2)
      refine ⟨?_, ⟨_, _, _, e1⟩, .inr (by rw [e1]; rfl)⟩
      intro g' hg2 j u hu
      rw [e1] at hg2
      obtain rfl : w.heap.size = g' := by injection hg2
      rw [e2] at hu
      have hu2 : (w.drew.alloc (.cells ((flat ts).toArray ++ x.enc.toArray ++ Builtin.zeroCells zeroT.cells (grownCap w (ts.length + 1) cap 74 - (ts.length + 1))) 74)).cell? ⟨w.drew.heap.size, j, none⟩ = some u := hu
      rw [World.cell?_alloc_new] at hu2
      rcases Array.mem_append.1 (Array.mem_of_getElem? hu2) with hx | hx
      · rcases Array.mem_append.1 hx with hx | hx
        · exact flat_no ts u (List.mem_toArray.1 hx)
        · exact hx5 u (List.mem_toArray.1 hx)
      · exact zero_t _ u hx
end Go.Proofs.YtmbnlhedbedcdaaGreat.V

/- sparse.walk: through both by rising places, whatever the visitor. -/
namespace Go.Proofs.YtmbnlhedbedcdaaGreat.V
open Go.RowKit
open Go.Proofs.YtmbnlhedbedcdaaGreat.Q (IsQ below_on ql)

theorem Gone.perm {x y x' y' : List (Int × Rat)} {D : List (Int × Rat × Rat)} (h : Gone x y D) (hx : x.Perm x') (hy : y.Perm y') : Gone x' y' D :=
  ⟨h.up, fun s hs => ⟨(h.has s hs).1.trans (tot_perm hx _), (h.has s hs).2.trans (tot_perm hy _)⟩, fun a ha => ⟨(tot_perm hx a).symm.trans (h.out a ha).1, (tot_perm hy a).symm.trans (h.out a ha).2⟩⟩
theorem Short.sub {l m : List (Int × Rat)} (h : Short l) (hl : m.length ≤ l.length) (hm : ∀ x ∈ m, x ∈ l) : Short m := fun l' h1 h2 => h l' (Nat.le_trans h1 hl) (fun x hx => hm x (h2 x hx))
def lenV : Value → Nat | .slice _ n _ => n | _ => 0
/-- What a visitor must do, and what it may count on. -/
structure Visit (g : FuncId) (cb : Array Value) (w : World) (Own : Nat → Prop) (X Y : List (Int × Rat)) (N : Nat) (St : World → World → List (Int × Rat × Rat) → Prop) (cont : Rat → Rat → Bool) : Prop where
  eg : ∀ args w, (callFunc g args).run Tryz.prog w = .ok (.enter g args) w
  own : ∀ b, Own b → b < w.heap.size
  dig : NoDig w Own
  start : ∀ wl, Below w.heap.size w wl → St wl wl []
  near : ∀ wl wx D, St wl wx D → Near Own wl wx
  keep : ∀ wl wx wy D, St wl wx D → Below wx.heap.size wx wy → St wl wy D
  call : ∀ wl wx D a (sv : Bool) (Av : Option Addr) (nv cv : Nat) (tv : Bool) (Bv : Option Addr) (mv dv : Nat) (sw : Bool) (Aw : Option Addr) (nw cw : Nat) (tw : Bool) (Bw : Option Addr) (mw dw : Nat), St wl wx D → D.length < N → IsQ wx sv Av nv cv tv Bv mv dv (tot X a) 700 → IsQ wx sw Aw nw cw tw Bw mw dw (tot Y a) 700 → -9223372036854775808 ≤ a → a ≤ 9223372036854775807 → (∀ s ∈ D, s.1 < a) → (∀ s ∈ D, cont s.2.1 s.2.2 = true) →
    Calls Tryz.prog g (#[.int .i64 a, .agg #[.bool sv, .slice Av nv cv, .bool tv, .slice Bv mv dv], .agg #[.bool sw, .slice Aw nw cw, .bool tw, .slice Bw mw dw]] ++ cb) wx (fun e wy => e = .returned (.bool (cont (tot X a) (tot Y a))) ∧ St wl wy (D ++ [(a, tot X a, tot Y a)]))
theorem Visit.perm {g : FuncId} {cb : Array Value} {w : World} {Own : Nat → Prop} {X Y X' Y' : List (Int × Rat)} {N : Nat} {St : World → World → List (Int × Rat × Rat) → Prop} {cont : Rat → Rat → Bool} (h : Visit g cb w Own X Y N St cont) (hx : X'.Perm X) (hy : Y'.Perm Y) : Visit g cb w Own X' Y' N St cont :=
  ⟨h.eg, h.own, h.dig, h.start, h.near, h.keep, by
    have e1 : tot X' = tot X := funext (tot_perm hx)
    have e2 : tot Y' = tot Y := funext (tot_perm hy)
    rw [e1, e2]
    exact h.call⟩
/-- Through: all, or up to the first at which the visitor told to stop. -/
def Through (X Y : List (Int × Rat)) (cont : Rat → Rat → Bool) (D : List (Int × Rat × Rat)) : Prop :=
  (Gone X Y D ∧ ∀ s ∈ D, cont s.2.1 s.2.2 = true) ∨ ∃ s ∈ D, s.2.1 = tot X s.1 ∧ s.2.2 = tot Y s.1 ∧ cont s.2.1 s.2.2 = false
def RetW (w : World) (X Y : List (Int × Rat)) (St : World → World → List (Int × Rat × Rat) → Prop) (cont : Rat → Rat → Bool) (e : Ending) (w' : World) : Prop :=
  e = .returned (.tuple #[]) ∧ ∃ wl D, Below w.heap.size w wl ∧ St wl w' D ∧ Through X Y cont D


/-- The walk from lists in order on. -/
structure WS (wl : World) (Own : Nat → Prop) (X Y : List (Int × Rat)) (St : World → World → List (Int × Rat × Rat) → Prop) (cont : Rat → Rat → Bool) (k N : Nat) (A : Option Addr) (n c : Nat) (B : Option Addr) (m d : Nat) (gb : Bool) (wr : World) (xs ys : List (TV × Rat)) (D : List (Int × Rat × Rat)) : Prop where
  st : St wl wr D
  x : IsV wl A n c xs k
  y : IsV wl B m d ys k
  ox : Off Own A
  oy : Off Own B
  go : Going X Y (vals xs) (vals ys) D
  sub : (∀ t ∈ vals xs, t ∈ X) ∧ (∀ t ∈ vals ys, t ∈ Y)
  len : xs.length ≤ X.length ∧ ys.length ≤ Y.length ∧ D.length + n + m ≤ N
  on : gb = true → ∀ s ∈ D, cont s.2.1 s.2.2 = true
  off : gb = false → ∃ s ∈ D, s.2.1 = tot X s.1 ∧ s.2.2 = tot Y s.1 ∧ cont s.2.1 s.2.2 = false

theorem Through.perm {X Y X' Y' : List (Int × Rat)} {cont : Rat → Rat → Bool} {D : List (Int × Rat × Rat)} (h : Through X Y cont D) (hx : X.Perm X') (hy : Y.Perm Y') : Through X' Y' cont D := by
  rcases h with ⟨h1, h2⟩ | ⟨s, h1, h2, h3, h4⟩
  · exact .inl ⟨h1.perm hx hy, h2⟩
  · exact .inr ⟨s, h1, h2.trans (tot_perm hx _), h3.trans (tot_perm hy _), h4⟩
theorem first_mem {x y : List (Int × Rat)} (hne : x ≠ [] ∨ y ≠ []) : ∃ t, (t ∈ x ∨ t ∈ y) ∧ firstAt x y = t.1 := by
  cases x with
  | nil =>
    cases y with
    | nil => simp at hne
    | cons b y => exact ⟨b, .inr (List.mem_cons_self ..), rfl⟩
  | cons a x =>
    cases y with
    | nil => exact ⟨a, .inl (List.mem_cons_self ..), rfl⟩
    | cons b y =>
      show ∃ t : Int × Rat, _ ∧ min a.1 b.1 = t.1
      by_cases h : a.1 ≤ b.1
      · exact ⟨a, .inl (List.mem_cons_self ..), by omega⟩
      · exact ⟨b, .inr (List.mem_cons_self ..), by omega⟩
theorem vals_take (ys : List (TV × Rat)) (i : Nat) : vals (ys.take i) = (vals ys).take i := by unfold vals; rw [List.map_take]
theorem vals_drop (ys : List (TV × Rat)) (i : Nat) : vals (ys.drop i) = (vals ys).drop i := by unfold vals; rw [List.map_drop]
theorem short_part {X : List (Int × Rat)} (h : Short X) {xs : List (TV × Rat)} (hl : xs.length ≤ X.length) (hm : ∀ t ∈ vals xs, t ∈ X) (L : Nat) : ∀ i, ql (all ((vals (xs.take L)).take i)) ≤ 700 := by
  intro i
  rw [vals_take]
  refine h _ ?_ (fun x hx => hm x (List.mem_of_mem_take (List.mem_of_mem_take hx)))
  rw [List.length_take, List.length_take, vals_len]
  omega

set_option maxRecDepth 100000 in
set_option maxHeartbeats 8000000 in
theorem walk_any {w : World} {A : Option Addr} {n c : Nat} {B : Option Addr} {m d k : Nat} {xs ys : List (TV × Rat)} {g : FuncId} {cb : Array Value} {Own : Nat → Prop} {St : World → World → List (Int × Rat × Rat) → Prop} {cont : Rat → Rat → Bool} (hx : IsV w A n c xs k) (hy : IsV w B m d ys k) (hk : k ≤ 700) (hn : n ≤ 1000000) (hm : m ≤ 1000000) (hsx : Short (vals xs)) (hsy : Short (vals ys)) (hoA : Off Own A) (hoB : Off Own B) (hv : Visit g cb w Own (vals xs) (vals ys) (n + m) St cont) :
    Calls Tryz.prog 83 #[.slice A n c, .slice B m d, .func (.func g) #[] cb] w (RetW w (vals xs) (vals ys) St cont) := by
  have HV := Lib.hid hv
  have HXN := Lib.hid hn
  have HYN := Lib.hid hm
  have HK := Lib.hid hk
  have HSX := Lib.hid hsx
  have HSY := Lib.hid hsy
  have HOA := Lib.hid hoA
  have HOB := Lib.hid hoB
  have HX0 := Lib.hid hx
  have HY0 := Lib.hid hy
  clear hx hy hk hn hm hsx hsy hoA hoB hv
  go_enter Tryz.func83, Tryz.ntmps83
  go_wp2_with fail
  refine (ordered_any HX0.out HXN.out).mono ?_
  rintro e w1 ⟨A1, c1, xs1, rfl, hx1, hp1, hu1, hb1, ho1⟩
  have HX1 := Lib.hid hx1
  have HP1 := Lib.hid hp1
  have HU1 := Lib.hid hu1
  have HB1 := Lib.hid hb1
  have HO1 : Hid (Off Own A1) := by
    show Off Own A1
    rcases ho1 with rfl | ⟨g1, rfl, hg1⟩
    · exact HOA.out
    · intro a e; obtain rfl := Option.some.inj e; exact fun h => by have := HV.out.own _ h; show False; exact absurd this (Nat.not_lt.2 hg1)
  have HY1 := Lib.hid (HY0.out.below hb1)
  clear hx1 hp1 hu1 hb1 ho1 HX0 HY0
  go_wp2_with fail
  refine (ordered_any HY1.out HYN.out).mono ?_
  rintro e w2 ⟨B1, d1, ys1, rfl, hy2, hp2, hu2, hb2, ho2⟩
  have HY2 := Lib.hid hy2
  have HP2 := Lib.hid hp2
  have HU2 := Lib.hid hu2
  have HB2 := Lib.hid (below_on HB1.out hb2)
  have HX2 := Lib.hid (HX1.out.below hb2)
  have HO2 : Hid (Off Own B1) := by
    show Off Own B1
    rcases ho2 with rfl | ⟨g1, rfl, hg1⟩
    · exact HOB.out
    · intro a e; obtain rfl := Option.some.inj e; exact fun h => by have := HV.out.own _ h; have h3 := HB1.out.size; show False; exact absurd (Nat.lt_of_lt_of_le this h3) (Nat.not_lt.2 hg1)
  have HVP := Lib.hid (HV.out.perm HP1.out HP2.out)
  have HDG : Hid (NoDig w2 Own) := HV.out.dig.near HB2.out HV.out.own
  have HSX1 : Hid (Short (vals xs1)) := HSX.out.sub (Nat.le_of_eq HP1.out.length_eq) (fun x hx => HP1.out.mem_iff.1 hx)
  have HSY1 : Hid (Short (vals ys1)) := HSY.out.sub (Nat.le_of_eq HP2.out.length_eq) (fun x hx => HP2.out.mem_iff.1 hx)
  have HTH : Hid (∀ D, Through (vals xs1) (vals ys1) cont D → Through (vals xs) (vals ys) cont D) := fun D h => h.perm HP1.out HP2.out
  have HWS : Hid (WS w2 Own (vals xs1) (vals ys1) St cont k (n + m) A1 n c1 B1 m d1 true w2 xs1 ys1 []) := ⟨HVP.out.start w2 HB2.out, HX2.out, HY2.out, HO1.out, HO2.out, Going.start HU1.out HU2.out, ⟨fun _ h => h, fun _ h => h⟩, ⟨by rw [vals_len]; exact Nat.le_refl _, by rw [vals_len]; exact Nat.le_refl _, by simp⟩, (fun _ _ h => by cases h), (fun h => by cases h)⟩
  obtain ⟨X, hXe⟩ : ∃ X, vals xs1 = X := ⟨_, rfl⟩
  obtain ⟨Y, hYe⟩ : ∃ Y, vals ys1 = Y := ⟨_, rfl⟩
  rw [hXe, hYe] at HVP HTH HWS
  rw [hXe] at HSX1
  rw [hYe] at HSY1
  obtain ⟨N, hNe⟩ : ∃ N, n + m = N := ⟨_, rfl⟩
  have HNB : Hid (N ≤ 2000000) := by have h1 := HXN.out; have h2 := HYN.out; show _ ≤ _; omega
  rw [hNe] at HVP HWS
  clear hy2 hp2 hu2 hb2 ho2 HV HSX HSY HOA HOB HX1 HY1 HX2 HY2 HP1 HP2 HU1 HU2 HB1 HO1 HO2 hXe hYe hNe HXN HYN
  go_wp2_with fail
  go_loopw [0, 1, 6] (fun s0 s1 s6 wr => ∃ (A : Option Addr) (n c : Nat) (B : Option Addr) (m d : Nat) (gb : Bool) (xs ys : List (TV × Rat)) (D : List (Int × Rat × Rat)), s0 = .slice A n c ∧ s1 = .slice B m d ∧ s6 = .bool gb ∧ Hid (WS w2 Own X Y St cont k N A n c B m d gb wr xs ys D)) (fun s0 s1 _ _ => lenV s0 + lenV s1)
  case atStart => exact ⟨A1, n, c1, B1, m, d1, true, xs1, ys1, [], rfl, rfl, rfl, HWS⟩
  case round =>
    clear HWS
    obtain ⟨A, n, c, B, m, d, gb, xs, ys, D, rfl, rfl, rfl, HWS⟩ := hrel
    cases gb with
    | false =>
      go_wp2_with fail
      refine bodyPost_ret (v := .tuple #[]) (by simp [results, Tryz.results83, go_sem]) rfl ?_
      exact ⟨rfl, w2, D, HB2.out, HWS.out.st, HTH.out D (.inr (HWS.out.off rfl))⟩
    | true =>
      have HLX := Lib.hid HWS.out.x.en
      have HLY := Lib.hid HWS.out.y.en
      have t0 : IntKind.i64.wrap ((n : Int) + (m : Int)) = ((n + m : Nat) : Int) := by
        have h := IntWalk.i64_in ((n : Int) + (m : Int)) (by have h1 := HWS.out.len.2.2; have h2 := HNB.out; omega)
        rw [h]; omega
      by_cases h0 : n + m = 0
      · have g0 : ¬ (0 : Int) < ((n + m : Nat) : Int) := by omega
        have HE : Hid (xs = [] ∧ ys = []) := by
          have h1 := HLX.out
          have h2 := HLY.out
          exact ⟨List.eq_nil_of_length_eq_zero (by omega), List.eq_nil_of_length_eq_zero (by omega)⟩
        obtain ⟨S, hS⟩ : ∃ S, n + m = S := ⟨_, rfl⟩
        rw [hS] at t0 g0
        clear h0 hS
        go_wp2_with fail
        refine bodyPost_ret (v := .tuple #[]) (by simp [results, Tryz.results83, go_sem]) rfl ?_
        refine ⟨rfl, w2, D, HB2.out, HWS.out.st, HTH.out D (.inl ⟨?_, HWS.out.on rfl⟩)⟩
        have h := HWS.out.go
        rw [HE.out.1, HE.out.2] at h
        exact h.gone
      · have g0 : (0 : Int) < ((n + m : Nat) : Int) := by omega
        have hne : xs ≠ [] ∨ ys ≠ [] := by
          rcases Nat.eq_zero_or_pos n with h1 | h1
          · right; intro h2; have := HLY.out; rw [h2] at this; simp at this; omega
          · left; intro h2; have := HLX.out; rw [h2] at this; simp at this; omega
        have hnv : vals xs ≠ [] ∨ vals ys ≠ [] := by
          rcases hne with h | h
          · exact .inl (fun h2 => h (List.map_eq_nil_iff.1 h2))
          · exact .inr (fun h2 => h (List.map_eq_nil_iff.1 h2))
        obtain ⟨S, hS⟩ : ∃ S, n + m = S := ⟨_, rfl⟩
        rw [hS] at t0 g0
        have HSS := Lib.hid hS
        have HNR := Lib.hid (HVP.out.near _ _ _ HWS.out.st)
        have HXR := Lib.hid (HWS.out.x.near HWS.out.ox HDG.out HNR.out)
        have HYR := Lib.hid (HWS.out.y.near HWS.out.oy HDG.out HNR.out)
        obtain ⟨a, ha⟩ : ∃ a, firstAt (vals xs) (vals ys) = a := ⟨_, rfl⟩
        have HFC := Lib.hid (first_any HXR.out HYR.out hne)
        rw [ha] at HFC
        have HLE : Hid ((∀ t ∈ vals xs, a ≤ t.1) ∧ (∀ t ∈ vals ys, a ≤ t.1)) := by have h := first_le HWS.out.go.ux HWS.out.go.uy; rw [ha] at h; exact h
        have HGT : Hid (∀ s ∈ D, s.1 < a) := by have h := first_gt HWS.out.go hnv; rw [ha] at h; exact h
        have HLD : Hid (0 < lead (vals xs) a + lead (vals ys) a) := by have h := first_lead hnv; rw [ha] at h; exact h
        have HAB : Hid (-9223372036854775808 ≤ a ∧ a ≤ 9223372036854775807) := by
          obtain ⟨t, ht, e⟩ := first_mem hnv
          rw [← ha, e]
          rcases ht with ht | ht
          · obtain ⟨u, hu, rfl⟩ := List.mem_map.1 ht; exact (HWS.out.x.tq u hu).2
          · obtain ⟨u, hu, rfl⟩ := List.mem_map.1 ht; exact (HWS.out.y.tq u hu).2
        have HGS := Lib.hid (HWS.out.go.step HLE.out.1 HLE.out.2 HGT.out)
        obtain ⟨L1, hL1⟩ : ∃ L, lead (vals xs) a = L := ⟨_, rfl⟩
        obtain ⟨L2, hL2⟩ : ∃ L, lead (vals ys) a = L := ⟨_, rfl⟩
        have HL1 : Hid (L1 ≤ n) := by show _ ≤ _; rw [← hL1, HLX.out, ← vals_len]; exact lead_le _ _
        have HL2 : Hid (L2 ≤ m) := by show _ ≤ _; rw [← hL2, HLY.out, ← vals_len]; exact lead_le _ _
        rw [hL1, hL2] at HGS HLD
        have HE1 : Hid (all ((vals xs).take L1) = tot X a) := (HGS.out.has _ (List.mem_append_right _ (List.mem_singleton.2 rfl))).1
        have HE2 : Hid (all ((vals ys).take L2) = tot Y a) := (HGS.out.has _ (List.mem_append_right _ (List.mem_singleton.2 rfl))).2
        rw [HE1.out, HE2.out] at HGS
        have HCX := Lib.hid HWS.out.x.cap
        have HCY := Lib.hid HWS.out.y.cap
        have HNN : Hid (n ≤ 2000000 ∧ m ≤ 2000000) := by have h1 := HWS.out.len.2.2; have h2 := HNB.out; show _ ∧ _; omega
        have HML1 : Hid (∀ W, IsV W A n c xs k → Calls Tryz.prog 119 #[.slice A n c, .int .i64 a] W (fun e w' => e = .returned (.int .i64 (L1 : Int)) ∧ w' = W)) := by
          intro W h
          have := many_any h a (by have := HNN.out.1; omega)
          rw [hL1] at this
          exact this
        have HML2 : Hid (∀ W, IsV W B m d ys k → Calls Tryz.prog 119 #[.slice B m d, .int .i64 a] W (fun e w' => e = .returned (.int .i64 (L2 : Int)) ∧ w' = W)) := by
          intro W h
          have := many_any h a (by have := HNN.out.2; omega)
          rw [hL2] at this
          exact this
        clear h0 hS hne hnv ha hL1 hL2
        go_wp2_with fail
        refine HFC.out.mono ?_
        rintro e w3 ⟨rfl, hb3⟩
        have HX3 := Lib.hid (HXR.out.below hb3)
        have HY3 := Lib.hid (HYR.out.below hb3)
        have HST3 := Lib.hid (HVP.out.keep _ _ _ _ HWS.out.st hb3)
        clear hb3 HXR HYR HFC
        go_wp2_with fail
        refine (HML1.out _ HX3.out).mono ?_
        rintro e w4 ⟨rfl, rfl⟩
        go_wp2_with fail
        refine (HML2.out _ HY3.out).mono ?_
        rintro e w5 ⟨rfl, rfl⟩
        clear HML1 HML2
        go_upto_region 5 with fail
        obtain ⟨A0, hA0⟩ : ∃ A0, (if c = 0 then A else A.map (·.add (0 * 5))) = A0 := ⟨_, rfl⟩
        obtain ⟨B0, hB0⟩ : ∃ B0, (if d = 0 then B else B.map (·.add (0 * 5))) = B0 := ⟨_, rfl⟩
        have r1 : ∀ W : World, (Instr.slice 22 (.slice A n c) none (some (.int .i64 (L1 : Int))) none).run Tryz.prog W = .ok (.slice A0 L1 c) W := by intro W; rw [← hA0]; exact run_st W A n c L1 (Nat.le_trans HL1.out HCX.out)
        have r2 : ∀ W : World, (Instr.slice 22 (.slice B m d) none (some (.int .i64 (L2 : Int))) none).run Tryz.prog W = .ok (.slice B0 L2 d) W := by intro W; rw [← hB0]; exact run_st W B m d L2 (Nat.le_trans HL2.out HCY.out)
        have HXT : Hid (IsV w5 A0 L1 c (xs.take L1) k) := by show IsV _ _ _ _ _ _; rw [← hA0]; exact HX3.out.st L1 HL1.out
        have HYT : Hid (IsV w5 B0 L2 d (ys.take L2) k) := by show IsV _ _ _ _ _ _; rw [← hB0]; exact HY3.out.st L2 HL2.out
        have HSM1 : Hid (∀ W, IsV W A0 L1 c (xs.take L1) k → Calls Tryz.prog 85 #[.slice A0 L1 c] W (RetA W (tot X a) 700)) := by
          intro W h
          have := sum_any h HK.out (by have := HL1.out; have := HNN.out.1; omega) (short_part HSX1.out HWS.out.len.1 HWS.out.sub.1 L1)
          rw [vals_take, HE1.out] at this
          exact this
        have HSM2 : Hid (∀ W, IsV W B0 L2 d (ys.take L2) k → Calls Tryz.prog 85 #[.slice B0 L2 d] W (RetA W (tot Y a) 700)) := by
          intro W h
          have := sum_any h HK.out (by have := HL2.out; have := HNN.out.2; omega) (short_part HSY1.out HWS.out.len.2.1 HWS.out.sub.2 L2)
          rw [vals_take, HE2.out] at this
          exact this
        obtain ⟨vx, hvx⟩ : ∃ v, tot X a = v := ⟨_, rfl⟩
        obtain ⟨vy, hvy⟩ : ∃ v, tot Y a = v := ⟨_, rfl⟩
        obtain ⟨bb, hbb⟩ : ∃ v, cont vx vy = v := ⟨_, rfl⟩
        have HCL : Hid (∀ W (sv : Bool) (Av : Option Addr) (nv cv : Nat) (tv : Bool) (Bv : Option Addr) (mv dv : Nat) (sw : Bool) (Aw : Option Addr) (nw cw : Nat) (tw : Bool) (Bw : Option Addr) (mw dw : Nat), St w2 W D → IsQ W sv Av nv cv tv Bv mv dv vx 700 → IsQ W sw Aw nw cw tw Bw mw dw vy 700 → Calls Tryz.prog g (#[.int .i64 a, .agg #[.bool sv, .slice Av nv cv, .bool tv, .slice Bv mv dv], .agg #[.bool sw, .slice Aw nw cw, .bool tw, .slice Bw mw dw]] ++ cb) W (fun e wy => e = .returned (.bool bb) ∧ St w2 wy (D ++ [(a, vx, vy)]))) := by
          intro W sv Av nv cv tv Bv mv dv sw Aw nw cw tw Bw mw dw h1 h2 h3
          rw [← hvx] at h2
          rw [← hvy] at h3
          have h := HVP.out.call w2 W D a sv Av nv cv tv Bv mv dv sw Aw nw cw tw Bw mw dw h1 (by have h4 := HWS.out.len.2.2; have h5 := HSS.out; omega) h2 h3 HAB.out.1 HAB.out.2 HGT.out (HWS.out.on rfl)
          rw [hvx, hvy, hbb] at h
          exact h
        rw [hvx, hvy] at HGS
        rw [hvx] at HSM1
        rw [hvy] at HSM2
        have HBB := Lib.hid hbb
        have HVX := Lib.hid hvx
        have HVY := Lib.hid hvy
        have eg := HVP.out.eg
        clear hA0 hB0 HE1 HE2 hvx hvy hbb
        replace HXT := Lib.hid (HXT.out.below ((Below.refl _ _).drew))
        replace HYT := Lib.hid (HYT.out.below ((Below.refl _ _).drew))
        replace HST3 := Lib.hid (HVP.out.keep _ _ _ _ HST3.out ((Below.refl _ _).drew))
        refine wp_region_held_drew (S := fun _ => True) (by kernel_rfl) trivial (fun hHeld => ?_)
  
        refine' wpAnyH_take (i := 0) (v := _) rfl (by kernel_rfl) (by kernel_rfl) (by kernel_rfl) (fun _ _ _ h => h) (Or.inl ⟨by rfl, ?hy1⟩) (by assumption) ?rest1
        case hy1 => (intro w hSw; (try dsimp only at hSw); try simp only [List.getElem_toArray, List.getElem_cons_zero]; go_simp; (try with_reducible rfl))
        try simp only [List.getElem_toArray, List.getElem_cons_zero]
        try simp only [Act.put, List.setIfInBounds_toArray, List.set_cons_zero, List.set_cons_succ]
        refine' wpAnyH_take (i := 1) (v := _) rfl (by kernel_rfl) (by kernel_rfl) (by kernel_rfl) (fun _ _ _ h => h) (Or.inl ⟨by rfl, ?hy2⟩) (by assumption) ?rest2
        case hy2 => (intro w hSw; (try dsimp only at hSw); try simp only [List.getElem_toArray, List.getElem_cons_zero, List.getElem_cons_succ]; go_simp; (try with_reducible rfl))
        try simp only [List.getElem_toArray, List.getElem_cons_zero, List.getElem_cons_succ]
        try simp only [Act.put, List.setIfInBounds_toArray, List.set_cons_zero, List.set_cons_succ]
        refine' wpAnyH_take (i := 2) (v := _) rfl (by kernel_rfl) (by kernel_rfl) (by kernel_rfl) (fun _ _ _ h => h) (Or.inl ⟨by rfl, ?hy3⟩) (by assumption) ?rest3
        case hy3 => (intro w hSw; (try dsimp only at hSw); try simp only [List.getElem_toArray, List.getElem_cons_zero, List.getElem_cons_succ]; go_simp; (try with_reducible rfl))
        try simp only [List.getElem_toArray, List.getElem_cons_zero, List.getElem_cons_succ]
        try simp only [Act.put, List.setIfInBounds_toArray, List.set_cons_zero, List.set_cons_succ]
        refine' wpAnyH_take (i := 3) (v := _) rfl (by kernel_rfl) (by kernel_rfl) (by kernel_rfl) (fun _ _ _ h => h) (Or.inl ⟨by rfl, ?hy4⟩) (by assumption) ?rest4
        case hy4 => (intro w hSw; (try dsimp only at hSw); try simp only [List.getElem_toArray, List.getElem_cons_zero, List.getElem_cons_succ]; go_simp; (try with_reducible rfl))
        try simp only [List.getElem_toArray, List.getElem_cons_zero, List.getElem_cons_succ]
        try simp only [Act.put, List.setIfInBounds_toArray, List.set_cons_zero, List.set_cons_succ]
        refine' wpAnyH_take (i := 4) (v := _) rfl (by kernel_rfl) (by kernel_rfl) (by kernel_rfl) (fun _ _ _ h => h) (Or.inl ⟨by rfl, ?hy5⟩) (by assumption) ?rest5
        case hy5 => (intro w hSw; (try dsimp only at hSw); try simp only [List.getElem_toArray, List.getElem_cons_zero, List.getElem_cons_succ]; go_simp; (try with_reducible rfl))
        try simp only [List.getElem_toArray, List.getElem_cons_zero, List.getElem_cons_succ]
        try simp only [Act.put, List.setIfInBounds_toArray, List.set_cons_zero, List.set_cons_succ]
        refine' wpAnyH_take (i := 6) (v := _) rfl (by kernel_rfl) (by kernel_rfl) (by kernel_rfl) (fun _ _ _ h => h) (Or.inl ⟨by rfl, ?hy6⟩) (by assumption) ?rest6
        case hy6 => (intro w hSw; (try dsimp only at hSw); try simp only [List.getElem_toArray, List.getElem_cons_zero, List.getElem_cons_succ]; go_simp; (try with_reducible rfl))
        try simp only [List.getElem_toArray, List.getElem_cons_zero, List.getElem_cons_succ]
        try simp only [Act.put, List.setIfInBounds_toArray, List.set_cons_zero, List.set_cons_succ]
        refine' wpAnyH_take (i := 7) (v := _) rfl (by kernel_rfl) (by kernel_rfl) (by kernel_rfl) (fun _ _ _ h => h) (Or.inl ⟨by rfl, ?hy7⟩) (by assumption) ?rest7
        case hy7 => (intro w hSw; (try dsimp only at hSw); try simp only [List.getElem_toArray, List.getElem_cons_zero, List.getElem_cons_succ]; go_simp; (try with_reducible rfl))
        try simp only [List.getElem_toArray, List.getElem_cons_zero, List.getElem_cons_succ]
        try simp only [Act.put, List.setIfInBounds_toArray, List.set_cons_zero, List.set_cons_succ]
        refine' wpAnyH_take (i := 8) (v := _) rfl (by kernel_rfl) (by kernel_rfl) (by kernel_rfl) (fun _ _ _ h => h) (Or.inl ⟨by rfl, ?hy8⟩) (by assumption) ?rest8
        case hy8 => (intro w hSw; (try dsimp only at hSw); try simp only [List.getElem_toArray, List.getElem_cons_zero, List.getElem_cons_succ]; go_simp; (try with_reducible rfl))
        try simp only [List.getElem_toArray, List.getElem_cons_zero, List.getElem_cons_succ]
        try simp only [Act.put, List.setIfInBounds_toArray, List.set_cons_zero, List.set_cons_succ]
        refine wpAnyH_ready (rs := [5]) (by kernel_rfl) (by simp) ?_
        refine AllReadyH.cons rfl (fun K hK => ?_) AllReadyH.nil
        try simp only [List.getElem_toArray, List.getElem_cons_zero, List.getElem_cons_succ]
        go_simp
        with_reducible refine (HSM1.out _ HXT.out).mono ?_
        rintro e w6 ⟨sv, Av, nv, cv, tv, Bv, mv, dv, rfl, hq, hbx⟩
        have HQV := Lib.hid hq
        replace HYT := Lib.hid (HYT.out.below hbx)
        replace HST3 := Lib.hid (HVP.out.keep _ _ _ _ HST3.out hbx)
        clear hq hbx HXT HSM1
        refine hK.out _ _ trivial (fun hHeld => ?_)
        clear hK K
        try simp only [Act.put, List.setIfInBounds_toArray, List.set_cons_zero, List.set_cons_succ]
        refine wpAnyH_ready (rs := [9]) (by kernel_rfl) (by simp) ?_
        refine AllReadyH.cons rfl (fun K hK => ?_) AllReadyH.nil
        try simp only [List.getElem_toArray, List.getElem_cons_zero, List.getElem_cons_succ]
        go_simp
        with_reducible refine (HSM2.out _ HYT.out).mono ?_
        rintro e w7 ⟨sw, Aw, nw, cw, tw, Bw, mw, dw, rfl, hq, hbx⟩
        have HQW := Lib.hid hq
        replace HQV := Lib.hid (HQV.out.below hbx)
        replace HST3 := Lib.hid (HVP.out.keep _ _ _ _ HST3.out hbx)
        clear hq hbx HYT HSM2
        refine hK.out _ _ trivial (fun hHeld => ?_)
        clear hK K
        try simp only [Act.put, List.setIfInBounds_toArray, List.set_cons_zero, List.set_cons_succ]
        refine wpAnyH_ready (rs := [10]) (by kernel_rfl) (by simp) ?_
        refine AllReadyH.cons rfl (fun K hK => ?_) AllReadyH.nil
        try simp only [List.getElem_toArray, List.getElem_cons_zero, List.getElem_cons_succ]
        go_simp
        with_reducible refine (HCL.out _ sv Av nv cv tv Bv mv dv sw Aw nw cw tw Bw mw dw HST3.out HQV.out HQW.out).mono ?_
        rintro e w8 ⟨rfl, hst⟩
        have HST := Lib.hid hst
        clear hst HST3 HQV HQW HCL eg
        refine hK.out _ _ trivial (fun hHeld => ?_)
        clear hK K
        try simp only [Act.put, List.setIfInBounds_toArray, List.set_cons_zero, List.set_cons_succ]
        refine' wpAnyH_take (i := 11) (v := _) rfl (by kernel_rfl) (by kernel_rfl) (by kernel_rfl) (fun _ _ _ h => h) (Or.inl ⟨by rfl, ?hy9⟩) (by assumption) ?rest9
        case hy9 => (intro w hSw; (try dsimp only at hSw); try simp only [List.getElem_toArray, List.getElem_cons_zero, List.getElem_cons_succ]; go_simp; (try with_reducible rfl))
        try simp only [List.getElem_toArray, List.getElem_cons_zero, List.getElem_cons_succ]
        try simp only [Act.put, List.setIfInBounds_toArray, List.set_cons_zero, List.set_cons_succ]
        refine wpAnyH_done (by kernel_rfl) ?_ _
        obtain ⟨A2, hA2⟩ : ∃ A2, (if c = L1 then A else A.map (·.add (L1 * 5))) = A2 := ⟨_, rfl⟩
        obtain ⟨B2, hB2⟩ : ∃ B2, (if d = L2 then B else B.map (·.add (L2 * 5))) = B2 := ⟨_, rfl⟩
        obtain ⟨n2, hn2⟩ : ∃ n2, n - L1 = n2 := ⟨_, rfl⟩
        obtain ⟨m2, hm2⟩ : ∃ m2, m - L2 = m2 := ⟨_, rfl⟩
        obtain ⟨c2, hc2⟩ : ∃ c2, c - L1 = c2 := ⟨_, rfl⟩
        obtain ⟨d2, hd2⟩ : ∃ d2, d - L2 = d2 := ⟨_, rfl⟩
        have q1 : ∀ W : World, (Instr.slice 22 (.slice A n c) (some (.int .i64 (L1 : Int))) none none).run Tryz.prog W = .ok (.slice A2 n2 c2) W := by intro W; rw [← hA2, ← hn2, ← hc2]; exact run_sl W A n c L1 HL1.out
        have q2 : ∀ W : World, (Instr.slice 22 (.slice B m d) (some (.int .i64 (L2 : Int))) none none).run Tryz.prog W = .ok (.slice B2 m2 d2) W := by intro W; rw [← hB2, ← hm2, ← hd2]; exact run_sl W B m d L2 HL2.out
        have HWN : Hid (∀ W, St w2 W (D ++ [(a, vx, vy)]) → WS w2 Own X Y St cont k N A2 n2 c2 B2 m2 d2 bb W (xs.drop L1) (ys.drop L2) (D ++ [(a, vx, vy)])) := by
          intro W hW
          have hws := HWS.out
          have g1 := HL1.out
          have g2 := HL2.out
          have g3 := HLD.out
          have g4 := hws.len
          refine ⟨hW, ?_, ?_, ?_, ?_, by rw [vals_drop, vals_drop]; exact HGS.out, ⟨fun t ht => hws.sub.1 t (by rw [vals_drop] at ht; exact List.mem_of_mem_drop ht), fun t ht => hws.sub.2 t (by rw [vals_drop] at ht; exact List.mem_of_mem_drop ht)⟩, ⟨by rw [List.length_drop]; omega, by rw [List.length_drop]; omega, by rw [List.length_append, List.length_singleton]; omega⟩, ?_, ?_⟩
          · rw [← hA2, ← hn2, ← hc2]; exact hws.x.sl L1 g1
          · rw [← hB2, ← hm2, ← hd2]; exact hws.y.sl L2 g2
          · rw [← hA2]; exact hws.ox.sl _ _ _
          · rw [← hB2]; exact hws.oy.sl _ _ _
          · intro hb s hs
            rcases List.mem_append.1 hs with hs | hs
            · exact hws.on rfl s hs
            · rw [List.mem_singleton.1 hs]
              show cont vx vy = true
              rw [HBB.out, hb]
          · intro hb
            exact ⟨_, List.mem_append_right _ (List.mem_singleton.2 rfl), HVX.out.symm, HVY.out.symm, by show cont vx vy = false; rw [HBB.out, hb]⟩
        have HMS : Hid (n2 + m2 < n + m) := by have g1 := HL1.out; have g2 := HL2.out; have g3 := HLD.out; show _ < _; omega
        clear hA2 hB2 hn2 hm2 hc2 hd2 r1 r2
        go_upto_region 6 with fail
        refine wp_region_held_drew (S := fun _ => True) (by kernel_rfl) trivial (fun hHeld => ?_)
        refine' wpAnyH_take (i := 0) (v := _) rfl (by kernel_rfl) (by kernel_rfl) (by kernel_rfl) (fun _ _ _ h => h) (Or.inl ⟨by rfl, ?hy10⟩) (by assumption) ?rest10
        case hy10 => (intro w hSw; (try dsimp only at hSw); try simp only [List.getElem_toArray, List.getElem_cons_zero]; go_simp; (try with_reducible rfl))
        try simp only [List.getElem_toArray, List.getElem_cons_zero]
        try simp only [Act.put, List.setIfInBounds_toArray, List.set_cons_zero, List.set_cons_succ]
        refine' wpAnyH_take (i := 1) (v := _) rfl (by kernel_rfl) (by kernel_rfl) (by kernel_rfl) (fun _ _ _ h => h) (Or.inl ⟨by rfl, ?hy11⟩) (by assumption) ?rest11
        case hy11 => (intro w hSw; (try dsimp only at hSw); try simp only [List.getElem_toArray, List.getElem_cons_zero, List.getElem_cons_succ]; go_simp; (try with_reducible rfl))
        try simp only [List.getElem_toArray, List.getElem_cons_zero, List.getElem_cons_succ]
        try simp only [Act.put, List.setIfInBounds_toArray, List.set_cons_zero, List.set_cons_succ]
        refine' wpAnyH_take (i := 2) (v := _) rfl (by kernel_rfl) (by kernel_rfl) (by kernel_rfl) (fun _ _ _ h => h) (Or.inl ⟨by rfl, ?hy12⟩) (by assumption) ?rest12
        case hy12 => (intro w hSw; (try dsimp only at hSw); try simp only [List.getElem_toArray, List.getElem_cons_zero, List.getElem_cons_succ]; go_simp; (try with_reducible rfl))
        try simp only [List.getElem_toArray, List.getElem_cons_zero, List.getElem_cons_succ]
        try simp only [Act.put, List.setIfInBounds_toArray, List.set_cons_zero, List.set_cons_succ]
        refine' wpAnyH_take (i := 3) (v := _) rfl (by kernel_rfl) (by kernel_rfl) (by kernel_rfl) (fun _ _ _ h => h) (Or.inl ⟨by rfl, ?hy13⟩) (by assumption) ?rest13
        case hy13 => (intro w hSw; (try dsimp only at hSw); try simp only [List.getElem_toArray, List.getElem_cons_zero, List.getElem_cons_succ]; go_simp; (try with_reducible rfl))
        try simp only [List.getElem_toArray, List.getElem_cons_zero, List.getElem_cons_succ]
        try simp only [Act.put, List.setIfInBounds_toArray, List.set_cons_zero, List.set_cons_succ]
        refine' wpAnyH_take (i := 4) (v := _) rfl (by kernel_rfl) (by kernel_rfl) (by kernel_rfl) (fun _ _ _ h => h) (Or.inl ⟨by rfl, ?hy14⟩) (by assumption) ?rest14
        case hy14 => (intro w hSw; (try dsimp only at hSw); try simp only [List.getElem_toArray, List.getElem_cons_zero, List.getElem_cons_succ]; go_simp; (try with_reducible rfl))
        try simp only [List.getElem_toArray, List.getElem_cons_zero, List.getElem_cons_succ]
        try simp only [Act.put, List.setIfInBounds_toArray, List.set_cons_zero, List.set_cons_succ]
        refine' wpAnyH_take (i := 5) (v := _) rfl (by kernel_rfl) (by kernel_rfl) (by kernel_rfl) (fun _ _ _ h => h) (Or.inl ⟨by rfl, ?hy15⟩) (by assumption) ?rest15
        case hy15 => (intro w hSw; (try dsimp only at hSw); try simp only [List.getElem_toArray, List.getElem_cons_zero, List.getElem_cons_succ]; go_simp; (try with_reducible rfl))
        try simp only [List.getElem_toArray, List.getElem_cons_zero, List.getElem_cons_succ]
        try simp only [Act.put, List.setIfInBounds_toArray, List.set_cons_zero, List.set_cons_succ]
        refine' wpAnyH_take (i := 6) (v := _) rfl (by kernel_rfl) (by kernel_rfl) (by kernel_rfl) (fun _ _ _ h => h) (Or.inl ⟨by rfl, ?hy16⟩) (by assumption) ?rest16
        case hy16 => (intro w hSw; (try dsimp only at hSw); try simp only [List.getElem_toArray, List.getElem_cons_zero, List.getElem_cons_succ]; go_simp; (try with_reducible rfl))
        try simp only [List.getElem_toArray, List.getElem_cons_zero, List.getElem_cons_succ]
        try simp only [Act.put, List.setIfInBounds_toArray, List.set_cons_zero]
        refine' wpAnyH_take (i := 7) (v := _) rfl (by kernel_rfl) (by kernel_rfl) (by kernel_rfl) (fun _ _ _ h => h) (Or.inl ⟨by rfl, ?hy17⟩) (by assumption) ?rest17
        case hy17 => (intro w hSw; (try dsimp only at hSw); try simp only [List.getElem_toArray, List.getElem_cons_zero, List.getElem_cons_succ]; go_simp; (try with_reducible rfl))
        try simp only [List.getElem_toArray, List.getElem_cons_zero, List.getElem_cons_succ]
        try simp only [Act.put, List.setIfInBounds_toArray, List.set_cons_zero, List.set_cons_succ]
        refine wpAnyH_done (by kernel_rfl) ?_ _
        go_wp2_with fail
        go_roundw
        case rel => exact ⟨A2, n2, c2, B2, m2, d2, bb, _, _, _, rfl, rfl, rfl, HWN.out _ (HVP.out.keep _ _ _ _ HST.out ((Below.refl _ _).drew))⟩
        case measure => (show lenV (.slice A2 n2 c2) + lenV (.slice B2 m2 d2) < lenV (.slice A n c) + lenV (.slice B m d); exact HMS.out)
end Go.Proofs.YtmbnlhedbedcdaaGreat.V

/- behind's closure, walked: a number is put behind a vector's terms, unless it is 0. -/
namespace Go.Proofs.YtmbnlhedbedcdaaGreat.V
open Go.RowKit
open Go.Proofs.YtmbnlhedbedcdaaGreat.Q (IsQ OneQ below_on ql Qbx qsign qsign_zero_iff)

/-- A vector of the call's own, held in variable gO: its row is r0, or was made since. -/
structure OutV (wl wx : World) (gO r0 : Nat) (l : List (Int × Rat)) : Prop where
  near : Near (fun b => b = gO ∨ b = r0) wl wx
  ex : ∃ v zs, wx.heap[gO]? = some (.cells #[v] 33 (0, 0)) ∧ OwnT wx 0 v (zs.map Prod.fst) ∧ vals zs = l ∧ (∀ y ∈ zs, OneQ wx y.1.s y.1.A y.1.n y.1.c y.1.t y.1.B y.1.m y.1.d y.2 ∧ -9223372036854775808 ≤ y.1.at_ ∧ y.1.at_ ≤ 9223372036854775807) ∧ (v.ownBlock = some r0 ∨ ∃ g, v.ownBlock = some g ∧ wl.heap.size ≤ g)
theorem OwnT.keep {w w' : World} {base : Nat} {v : Value} {ts : List TV} (h : OwnT w base v ts) (hb : ∀ g, v.ownBlock = some g → w'.heap[g]? = w.heap[g]?) : OwnT w' base v ts := by
  refine ⟨⟨h.row.1, ?_⟩, fun g hg j u hu => h.all g hg j u ((World.cell?_of_block (a := ⟨g, j, none⟩) (hb g hg)).symm.trans hu), h.some_⟩
  rcases h.row.2 with hn | ⟨g, cap, cur, rfl, h1, h2, rest⟩
  · exact .inl hn
  · exact .inr ⟨g, cap, cur, rfl, h1, (hb g rfl).trans h2, rest⟩
theorem OwnT.lt {w : World} {base : Nat} {v : Value} {ts : List TV} (h : OwnT w base v ts) {g : Nat} (hg : v.ownBlock = some g) : g < w.heap.size := (h.row.lt g hg).2
theorem OutV.below {wl wx wy : World} {gO r0 : Nat} {l : List (Int × Rat)} (h : OutV wl wx gO r0 l) (hb : Below wx.heap.size wx wy) : OutV wl wy gO r0 l := by
  refine ⟨h.near.below hb, ?_⟩
  obtain ⟨v, zs, h1, h2, h3, h4, h5⟩ := h.ex
  exact ⟨v, zs, (hb.block gO (lt_of_block h1)).trans h1, h2.keep (fun g hg => hb.block g (h2.lt hg)), h3, fun y hy => ⟨(h4 y hy).1.below hb, (h4 y hy).2⟩, h5⟩
/-- Digits stand where a row of terms, or a variable that holds a slice, is written. -/
theorem num_apart {w w' : World} {A : Option Addr} {xs : List Nat} (h : Num w A xs) (Bad : Nat → Prop) (hbad : ∀ b, Bad b → ∀ j u, w.cell? ⟨b, j, none⟩ = some u → ∀ z, u ≠ .int .u64 z) (hs : w.heap.size ≤ w'.heap.size) (hb : ∀ b, b < w.heap.size → ¬ Bad b → w'.heap[b]? = w.heap[b]?) : Num w' A xs :=
  ⟨h.1, fun hne => by
    obtain ⟨b, off, e, hlt, hc⟩ := h.2 hne
    have hn : ¬ Bad b := fun h1 => hbad b h1 _ _ (hc 0 (List.length_pos_iff.2 hne)) _ rfl
    exact ⟨b, off, e, Nat.lt_of_lt_of_le hlt hs, fun j hj => (World.cell?_of_block (hb b hlt hn)).trans (hc j hj)⟩⟩
theorem one_apart {w w' : World} {s : Bool} {A : Option Addr} {n c : Nat} {t : Bool} {B : Option Addr} {m d : Nat} {q : Rat} (h : OneQ w s A n c t B m d q) (Bad : Nat → Prop) (hbad : ∀ b, Bad b → ∀ j u, w.cell? ⟨b, j, none⟩ = some u → ∀ z, u ≠ .int .u64 z) (hs : w.heap.size ≤ w'.heap.size) (hb : ∀ b, b < w.heap.size → ¬ Bad b → w'.heap[b]? = w.heap[b]?) : OneQ w' s A n c t B m d q :=
  ⟨h.es, h.en, h.et, h.em, num_apart h.num Bad hbad hs hb, num_apart h.den Bad hbad hs hb, h.cap, h.cap2⟩
theorem OutV.put {wl W W3 : World} {gO r0 : Nat} {v v' : Value} {zs : List (TV × Rat)} {x : TV} {q : Rat} (near : Near (fun b => b = gO ∨ b = r0) wl W) (hgO : gO < wl.heap.size) (hne : gO ≠ r0)
    (h1 : W.heap[gO]? = some (.cells #[v] 33 (0, 0))) (h2 : OwnT W 0 v (zs.map Prod.fst)) (h4 : ∀ y ∈ zs, OneQ W y.1.s y.1.A y.1.n y.1.c y.1.t y.1.B y.1.m y.1.d y.2 ∧ -9223372036854775808 ≤ y.1.at_ ∧ y.1.at_ ≤ 9223372036854775807) (h5 : v.ownBlock = some r0 ∨ ∃ g, v.ownBlock = some g ∧ wl.heap.size ≤ g)
    (hx : OneQ W x.s x.A x.n x.c x.t x.B x.m x.d q) (hx2 : -9223372036854775808 ≤ x.at_ ∧ x.at_ ≤ 9223372036854775807)
    (g2 : OwnT W3 0 v' (zs.map Prod.fst ++ [x])) (gg : W.grownBy W3 v.ownBlock) (gb : v'.ownBlock = v.ownBlock ∨ v'.ownBlock = some W.heap.size) : OutV wl (W3.setCell ⟨gO, 0, none⟩ v') gO r0 (vals zs ++ [(x.at_, q)]) := by
  have hvO : some gO ≠ v.ownBlock := by
    rcases h5 with h | ⟨g, h, hg⟩
    · rw [h]; intro e; exact hne (Option.some.inj e)
    · rw [h]; intro e; have := Option.some.inj e; omega
  have hgW : gO < W.heap.size := lt_of_block h1
  have h31 : W3.heap[gO]? = some (.cells #[v] 33 (0, 0)) := (gg.block gO hgW hvO).trans h1
  have hv'O : ∀ g, v'.ownBlock = some g → g ≠ gO := by
    intro g hg e
    subst e
    rcases gb with h | h
    · rw [h] at hg; exact hvO hg.symm
    · rw [h] at hg; have := Option.some.inj hg; omega
  have hbad : ∀ b, (b = gO ∨ some b = v.ownBlock) → ∀ j u, W.cell? ⟨b, j, none⟩ = some u → ∀ z, u ≠ .int .u64 z := by
    intro b hb j u hu
    rcases hb with rfl | hb
    · rw [cell_of_row W b j _ _ _ h1] at hu
      obtain ⟨g, n, c, hv⟩ := h2.some_
      rcases j with _ | j
      · have : v = u := by simpa using hu
        rw [← this, hv]
        intro z h; cases h
      · rw [Array.getElem?_eq_none (by simp)] at hu; cases hu
    · exact h2.all b hb.symm j u hu
  have hkeep : ∀ b, b < W.heap.size → ¬ (b = gO ∨ some b = v.ownBlock) → (W3.setCell ⟨gO, 0, none⟩ v').heap[b]? = W.heap[b]? := by
    intro b hb hn
    rw [Below.heap_setCell W3 ⟨gO, 0, none⟩ v' b (fun e => hn (.inl e))]
    exact gg.block b hb (fun e => hn (.inr e))
  have hsz : W.heap.size ≤ (W3.setCell ⟨gO, 0, none⟩ v').heap.size := by simpa [World.setCell] using gg.size
  refine ⟨⟨gg.os.trans near.os, gg.tape.trans near.tape, gg.output.trans near.output, Nat.le_trans near.size hsz, fun b hb hn => ?_⟩, v', zs ++ [(x, q)], heap_setCell_same W3 gO 0 _ _ _ h31, ?_, ?_, ?_, ?_⟩
  · refine (hkeep b (Nat.lt_of_lt_of_le hb near.size) ?_).trans (near.block b hb hn)
    rintro (e | e)
    · exact hn (.inl e)
    · rcases h5 with h | ⟨g, h, hg⟩
      · rw [h] at e; exact hn (.inr (Option.some.inj e))
      · rw [h] at e; have := Option.some.inj e; omega
  · rw [List.map_append]
    exact g2.keep (fun g hg => Below.heap_setCell W3 ⟨gO, 0, none⟩ v' g (hv'O g hg))
  · unfold vals; rw [List.map_append]; rfl
  · intro y hy
    rcases List.mem_append.1 hy with hy | hy
    · exact ⟨one_apart (h4 y hy).1 _ hbad hsz hkeep, (h4 y hy).2⟩
    · rw [List.mem_singleton.1 hy]
      exact ⟨one_apart hx _ hbad hsz hkeep, hx2⟩
  · rcases gb with h | h
    · rw [h]; exact h5
    · exact .inr ⟨_, h, near.size⟩
set_option maxRecDepth 100000 in
set_option maxHeartbeats 4000000 in
theorem put_any {wl wx : World} {gO gP r0 : Nat} {l : List (Int × Rat)} {s : Bool} {A : Option Addr} {n c : Nat} {t : Bool} {B : Option Addr} {m d : Nat} {q : Rat} {a : Int} (hp : wx.heap[gP]? = some (.cells #[.pointer (some ⟨gO, 0, none⟩)] 106 (0, 0))) (ho : OutV wl wx gO r0 l) (hgO : gO < wl.heap.size) (hgP : gP < wl.heap.size) (hPO : gP ≠ gO) (hPr : gP ≠ r0) (hne : gO ≠ r0) (ha : -9223372036854775808 ≤ a ∧ a ≤ 9223372036854775807) (hq : OneQ wx s A n c t B m d q) (hql : ql q ≤ 3000) (hlen : l.length ≤ 10000000) :
    Calls Tryz.prog 122 #[.int .i64 a, .agg #[.bool s, .slice A n c, .bool t, .slice B m d], .pointer (some ⟨gP, 0, none⟩)] wx (fun e wy => e = .returned (.tuple #[]) ∧ OutV wl wy gO r0 (if q = 0 then l else l ++ [(a, q)])) := by
  have HQC : Hid (Below wx.heap.size wx (wx.alloc (.cells #[.bool s, .slice A n c, .bool t, .slice B m d] 27))) := (Below.refl _ _).alloc (Nat.le_refl _) _
  have HBX : Hid (Qbx (wx.alloc (.cells #[.bool s, .slice A n c, .bool t, .slice B m d] 27)) wx.heap.size s A n c t B m d) := Qbx.new _ _ rfl
  have HQ := Lib.hid (hq.alloc (.cells #[.bool s, .slice A n c, .bool t, .slice B m d] 27))
  obtain ⟨sg, hsg⟩ : ∃ sg, qsign q = sg := ⟨_, rfl⟩
  have HSG := Lib.hid hsg
  have HO := Lib.hid ho
  have HP := Lib.hid hp
  have HQL := Lib.hid hql
  have HF : Hid (gO < wl.heap.size ∧ gP < wl.heap.size ∧ gP ≠ gO ∧ gP ≠ r0 ∧ gO ≠ r0) := ⟨hgO, hgP, hPO, hPr, hne⟩
  have HAB := Lib.hid ha
  have HLEN := Lib.hid hlen
  obtain ⟨L, hL⟩ : ∃ L, (if q = 0 then l else l ++ [(a, q)]) = L := ⟨_, rfl⟩
  rw [hL]
  by_cases h0 : q = 0
  · have g1 : (sg != 0) = false := by rw [← hsg, qsign_zero_iff.2 h0]; rfl
    have HE : Hid (L = l) := by show _ = _; rw [← hL]; exact if_pos h0
    clear hp ho hgO hgP hPO hPr hne ha hq hql hlen hsg h0 hL
    go_enter Tryz.func122, Tryz.ntmps122
    go_wp2_with fail
    refine (Q.sign_q (HQ.out.isq HQL.out) (by omega) sg HSG.out).mono ?_
    rintro e w1 ⟨rfl, hb1⟩
    have HO1 := Lib.hid (HO.out.below (below_on HQC.out hb1))
    clear hb1
    go_wp2_with fail
    go_end0
    first | exact ⟨rfl, HO1.out⟩ | (rw [HE.out]; exact ⟨rfl, HO1.out⟩)
  · have g1 : (sg != 0) = true := by rw [← hsg, bne_iff_ne]; exact fun h => h0 (qsign_zero_iff.1 h)
    have HE : Hid (L = l ++ [(a, q)]) := by show _ = _; rw [← hL]; exact if_neg h0
    clear hp ho hgO hgP hPO hPr hne ha hq hql hlen hsg h0 hL
    go_enter Tryz.func122, Tryz.ntmps122
    go_wp2_with fail
    refine (Q.sign_q (HQ.out.isq HQL.out) (by omega) sg HSG.out).mono ?_
    rintro e w1 ⟨rfl, hb1⟩
    have HB1 := Lib.hid (below_on HQC.out hb1)
    have HO1 := Lib.hid (HO.out.below HB1.out)
    have HX1 := Lib.hid (HBX.out.below hb1)
    have HQ1 := Lib.hid (HQ.out.below hb1)
    clear hb1
    go_upto_region 2 with fail
    obtain ⟨v, zs, h1, h2, h3, h4, h5⟩ := HO1.out.ex
    have HNR := Lib.hid HO1.out.near
    have HGV := Lib.hid h1
    have HOW := Lib.hid h2
    have HZS := Lib.hid h3
    have HONE := Lib.hid h4
    have HBK := Lib.hid h5
    have HP1 : Hid (w1.heap[gP]? = some (.cells #[.pointer (some ⟨gO, 0, none⟩)] 106 (0, 0))) := (HB1.out.block gP (lt_of_block HP.out)).trans HP.out
    have HGX : Hid (wl.heap.size ≤ wx.heap.size) := HO.out.near.size
    have HVL : Hid (∀ g, v.ownBlock = some g → g < wx.heap.size) := by
      obtain ⟨v0, zs0, e1, e2, _⟩ := HO.out.ex
      have e3 : v0 = v := by
        have h6 := (HB1.out.block gO (lt_of_block e1)).trans e1
        rw [h1] at h6
        have h7 := Option.some.inj h6
        injection h7 with h8
        have h9 := congrArg (fun z : Array Value => z[0]?) h8
        simpa using h9.symm
      subst e3
      exact fun g hg => e2.lt hg
    clear h1 h2 h3 h4 h5 HO1 HP HBX HQ
    obtain ⟨x, hxe⟩ : ∃ x : TV, (⟨a, s, A, n, c, t, B, m, d⟩ : TV) = x := ⟨_, rfl⟩
    have HXE := Lib.hid hxe
    clear hxe
    -- the world at hand: drawn
    obtain ⟨W0, hW0⟩ : ∃ W, w1.drew = W := ⟨_, rfl⟩
    have HD0 : Hid (Below w1.heap.size w1 W0) := by rw [← hW0]; exact (Below.refl _ _).drew
    have HK0 : Hid (W0.cell? ⟨gP, 0, none⟩ = some (.pointer (some ⟨gO, 0, none⟩)) ∧ W0.cell? ⟨wx.heap.size, 0, none⟩ = some (.bool s) ∧ W0.cell? ⟨wx.heap.size, 1, none⟩ = some (.slice A n c) ∧ W0.cell? ⟨wx.heap.size, 2, none⟩ = some (.bool t) ∧ W0.cell? ⟨wx.heap.size, 3, none⟩ = some (.slice B m d)) := by
      have hx1 := HX1.out.below HD0.out
      have hp1 := (HD0.out.block gP (lt_of_block HP1.out)).trans HP1.out
      exact ⟨by rw [cell_of_row W0 gP 0 _ _ _ hp1]; rfl, hx1.c0, hx1.c1, hx1.c2, hx1.c3⟩
    refine wp_region_held_drew (S := (fun V : World => V.cell? ⟨gP, 0, none⟩ = some (.pointer (some ⟨gO, 0, none⟩)) ∧ V.cell? ⟨wx.heap.size, 0, none⟩ = some (.bool s) ∧ V.cell? ⟨wx.heap.size, 1, none⟩ = some (.slice A n c) ∧ V.cell? ⟨wx.heap.size, 2, none⟩ = some (.bool t) ∧ V.cell? ⟨wx.heap.size, 3, none⟩ = some (.slice B m d))) (by kernel_rfl) (by rw [hW0]; with_reducible exact HK0.out) (fun hHeld => ?_)
    rw [hW0] at hHeld ⊢
    clear hW0
    refine' wpAnyH_take (i := 0) (v := _) rfl (by kernel_rfl) (by kernel_rfl) (by kernel_rfl) (fun _ _ _ h => h) (Or.inl ⟨by rfl, ?hy1⟩) (by assumption) ?rest1
    case hy1 => (intro w hSw; (try dsimp only at hSw); try simp only [List.getElem_toArray, List.getElem_cons_zero]; go_simp; (try with_reducible rfl))
    try simp only [List.getElem_toArray, List.getElem_cons_zero]
    try simp only [Act.put, List.setIfInBounds_toArray, List.set_cons_zero, List.set_cons_succ]
    refine' wpAnyH_take (i := 1) (v := _) rfl (by kernel_rfl) (by kernel_rfl) (by kernel_rfl) (fun _ _ _ h => h) (Or.inl ⟨by rfl, ?hy2⟩) (by assumption) ?rest2
    case hy2 => (intro w hSw; (try dsimp only at hSw); try simp only [List.getElem_toArray, List.getElem_cons_zero, List.getElem_cons_succ]; go_simp; (try with_reducible rfl))
    try simp only [List.getElem_toArray, List.getElem_cons_zero, List.getElem_cons_succ]
    try simp only [Act.put, List.setIfInBounds_toArray, List.set_cons_zero, List.set_cons_succ]
    refine' wpAnyH_take (i := 2) (v := _) rfl (by kernel_rfl) (by kernel_rfl) (by kernel_rfl) (fun _ _ _ h => h) (Or.inl ⟨by rfl, ?hy3⟩) (by assumption) ?rest3
    case hy3 => (intro w hSw; (try dsimp only at hSw); try simp only [List.getElem_toArray, List.getElem_cons_zero, List.getElem_cons_succ]; go_simp; (try with_reducible rfl))
    try simp only [List.getElem_toArray, List.getElem_cons_zero, List.getElem_cons_succ]
    try simp only [Act.put, List.setIfInBounds_toArray, List.set_cons_zero, List.set_cons_succ]
    refine' wpAnyH_take (i := 4) (v := _) rfl (by kernel_rfl) (by kernel_rfl) (by kernel_rfl) (fun _ _ _ h => h) (Or.inl ⟨by rfl, ?hy4⟩) (by assumption) ?rest4
    case hy4 => (intro w hSw; (try dsimp only at hSw); try simp only [List.getElem_toArray, List.getElem_cons_zero, List.getElem_cons_succ]; go_simp; (try with_reducible rfl))
    try simp only [List.getElem_toArray, List.getElem_cons_zero, List.getElem_cons_succ]
    try simp only [Act.put, List.setIfInBounds_toArray, List.set_cons_zero, List.set_cons_succ]
    refine' wpAnyH_take (i := 5) (v := _) rfl (by kernel_rfl) (by kernel_rfl) (by kernel_rfl) (fun _ _ _ h => h) (Or.inl ⟨by rfl, ?hy5⟩) (by assumption) ?rest5
    case hy5 => (intro w hSw; (try dsimp only at hSw); try simp only [List.getElem_toArray, List.getElem_cons_zero, List.getElem_cons_succ]; go_simp; (try with_reducible rfl))
    try simp only [List.getElem_toArray, List.getElem_cons_zero, List.getElem_cons_succ]
    try simp only [Act.put, List.setIfInBounds_toArray, List.set_cons_zero, List.set_cons_succ]
    refine' wpAnyH_take (i := 6) (v := _) rfl (by kernel_rfl) (by kernel_rfl) (by kernel_rfl) (fun _ _ _ h => h) (Or.inl ⟨by rfl, ?hy6⟩) (by assumption) ?rest6
    case hy6 => (intro w hSw; (try dsimp only at hSw); try simp only [List.getElem_toArray, List.getElem_cons_zero, List.getElem_cons_succ]; go_simp; (try with_reducible rfl))
    try simp only [List.getElem_toArray, List.getElem_cons_zero, List.getElem_cons_succ]
    try simp only [Act.put, List.setIfInBounds_toArray, List.set_cons_zero, List.set_cons_succ]
    have HG0 : Hid (W0.heap[gO]? = some (.cells #[v] 33 (0, 0))) := (HD0.out.block gO (lt_of_block HGV.out)).trans HGV.out
    have HO0 : Hid (OwnT W0 0 v (zs.map Prod.fst)) := HOW.out.keep (fun g hg => HD0.out.block g (HOW.out.lt hg))
    have HN0 := Lib.hid (HNR.out.below HD0.out)
    have HZ0 : Hid (∀ y ∈ zs, OneQ W0 y.1.s y.1.A y.1.n y.1.c y.1.t y.1.B y.1.m y.1.d y.2 ∧ -9223372036854775808 ≤ y.1.at_ ∧ y.1.at_ ≤ 9223372036854775807) := fun y hy => ⟨(HONE.out y hy).1.below HD0.out, (HONE.out y hy).2⟩
    have HQ0 := Lib.hid (HQ1.out.below HD0.out)
    have HW0S : Hid (wx.heap.size < W0.heap.size) := Nat.lt_of_lt_of_le HX1.out.lt HD0.out.size
    clear HNR HGV HOW HONE HD0 HX1 HQ1 HP1
    -- the array of one term is made, the variable read, in either order
    refine wpAnyH_ready (rs := [3, 7]) (by kernel_rfl) (by simp) ?_
    refine AllReadyH.cons rfl (fun K hK => ?_) (AllReadyH.cons rfl (fun K hK => ?_) AllReadyH.nil)
    · try simp only [List.getElem_toArray, List.getElem_cons_zero, List.getElem_cons_succ]
      have hg0 : W0.cell? ⟨gO, 0, none⟩ = some v := by rw [cell_of_row W0 gO 0 _ _ _ HG0.out]; rfl
      go_simp
      clear hg0
      refine hK.out _ _ (by with_reducible exact HK0.out) (fun hHeld => ?_)
      clear hK K
      try simp only [Act.put, List.setIfInBounds_toArray, List.set_cons_zero, List.set_cons_succ]
      refine wpAnyH_ready (rs := [7]) (by kernel_rfl) (by simp) ?_
      refine AllReadyH.cons rfl (fun K hK => ?_) AllReadyH.nil
      try simp only [List.getElem_toArray, List.getElem_cons_zero, List.getElem_cons_succ]
      have hk := HK0.out
      go_simp
      obtain ⟨W1, hW1⟩ : ∃ W, W0.alloc (.cells #[.int .i64 a, .bool s, .slice A n c, .bool t, .slice B m d] 74) = W := ⟨_, rfl⟩
      rw [hW1]
      have HB1' : Hid (Below W0.heap.size W0 W1) := by rw [← hW1]; exact (Below.refl _ _).alloc (Nat.le_refl _) _
      have HA1 : Hid (W1.heap[W0.heap.size]? = some (.cells #[.int .i64 a, .bool s, .slice A n c, .bool t, .slice B m d] 74 (0, 0))) := by rw [← hW1]; exact heap_alloc_new W0 _
      have HK1 : Hid (W1.cell? ⟨gP, 0, none⟩ = some (.pointer (some ⟨gO, 0, none⟩)) ∧ W1.cell? ⟨wx.heap.size, 0, none⟩ = some (.bool s) ∧ W1.cell? ⟨wx.heap.size, 1, none⟩ = some (.slice A n c) ∧ W1.cell? ⟨wx.heap.size, 2, none⟩ = some (.bool t) ∧ W1.cell? ⟨wx.heap.size, 3, none⟩ = some (.slice B m d)) := by
        have k := HK0.out
        exact ⟨(HB1'.out.cell (p := ⟨gP, 0, none⟩) (Nat.lt_of_lt_of_le HF.out.2.1 HN0.out.size)).trans k.1, (HB1'.out.cell (p := ⟨wx.heap.size, 0, none⟩) HW0S.out).trans k.2.1, (HB1'.out.cell (p := ⟨wx.heap.size, 1, none⟩) HW0S.out).trans k.2.2.1, (HB1'.out.cell (p := ⟨wx.heap.size, 2, none⟩) HW0S.out).trans k.2.2.2.1, (HB1'.out.cell (p := ⟨wx.heap.size, 3, none⟩) HW0S.out).trans k.2.2.2.2⟩
      clear hk hW1
      refine hK.out _ _ (by with_reducible exact HK1.out) (fun hHeld => ?_)
      clear hK K
      try simp only [Act.put, List.setIfInBounds_toArray, List.set_cons_zero, List.set_cons_succ]
      have HG1 : Hid (W1.heap[gO]? = some (.cells #[v] 33 (0, 0))) := (HB1'.out.block gO (lt_of_block HG0.out)).trans HG0.out
      have HO1' : Hid (OwnT W1 0 v (zs.map Prod.fst)) := HO0.out.keep (fun g hg => HB1'.out.block g (HO0.out.lt hg))
      have HN1 := Lib.hid (HN0.out.below HB1'.out)
      have HZ1 : Hid (∀ y ∈ zs, OneQ W1 y.1.s y.1.A y.1.n y.1.c y.1.t y.1.B y.1.m y.1.d y.2 ∧ -9223372036854775808 ≤ y.1.at_ ∧ y.1.at_ ≤ 9223372036854775807) := fun y hy => ⟨(HZ0.out y hy).1.below HB1'.out, (HZ0.out y hy).2⟩
      have HQ1' := Lib.hid (HQ0.out.below HB1'.out)
      have hcl : ∀ j u, x.enc[j]? = some u → W1.cell? ((⟨W0.heap.size, 0, none⟩ : Addr).add j) = some u := by
        intro j u hj
        have e : (⟨W0.heap.size, 0, none⟩ : Addr).add j = ⟨W0.heap.size, j, none⟩ := by unfold Addr.add; split <;> simp_all
        rw [e, cell_of_row W1 _ j _ _ _ HA1.out]
        rw [← HXE.out] at hj
        rw [← hj]
        show (#[Value.int .i64 a, .bool s, .slice A n c, .bool t, .slice B m d] : Array Value)[j]? = [Value.int .i64 a, .bool s, .slice A n c, .bool t, .slice B m d][j]?
        simp
      obtain ⟨v', W3, hr, g2, gg, gb⟩ := appT_at W1 0 33 v (zs.map Prod.fst) x ⟨W0.heap.size, 0, none⟩ HO1'.out hcl (by rw [List.length_map, ← vals_len, HZS.out]; exact HLEN.out) (Nat.zero_le _)
      have HG2 := Lib.hid g2
      have HGG := Lib.hid gg
      have HGB := Lib.hid gb
      have hvP : some gP ≠ v.ownBlock := by
        intro e
        rcases HBK.out with h | ⟨g, h, hg⟩
        · rw [h] at e; exact HF.out.2.2.2.1 (Option.some.inj e)
        · rw [h] at e; have h9 := Option.some.inj e; have := HF.out.2.1; omega
      have hvX : some wx.heap.size ≠ v.ownBlock := by
        intro e
        have := HVL.out _ e.symm
        omega
      have HK3 : Hid (W3.cell? ⟨gP, 0, none⟩ = some (.pointer (some ⟨gO, 0, none⟩)) ∧ W3.cell? ⟨wx.heap.size, 0, none⟩ = some (.bool s) ∧ W3.cell? ⟨wx.heap.size, 1, none⟩ = some (.slice A n c) ∧ W3.cell? ⟨wx.heap.size, 2, none⟩ = some (.bool t) ∧ W3.cell? ⟨wx.heap.size, 3, none⟩ = some (.slice B m d)) := by
        have k := HK1.out
        exact ⟨HGG.out.cell k.1 hvP, HGG.out.cell k.2.1 hvX, HGG.out.cell k.2.2.1 hvX, HGG.out.cell k.2.2.2.1 hvX, HGG.out.cell k.2.2.2.2 hvX⟩
      have HG3 : Hid (W3.heap[gO]? = some (.cells #[v] 33 (0, 0))) := by
        refine (HGG.out.block gO (lt_of_block HG1.out) ?_).trans HG1.out
        rcases HBK.out with h | ⟨g, h, hg⟩
        · rw [h]; intro e; exact HF.out.2.2.2.2 (Option.some.inj e)
        · rw [h]; intro e; have h9 := Option.some.inj e; have := HF.out.1; omega
      have HFIN : Hid (OutV wl (W3.setCell ⟨gO, 0, none⟩ v') gO r0 (l ++ [(a, q)])) := by
        have h := OutV.put HN1.out HF.out.1 HF.out.2.2.2.2 HG1.out HO1'.out HZ1.out HBK.out (x := x) (q := q) (by rw [← HXE.out]; exact HQ1'.out) (by rw [← HXE.out]; exact HAB.out) HG2.out HGG.out HGB.out
        rw [HZS.out, ← HXE.out] at h
        exact h
      clear g2 gg gb hvP hvX hcl
      refine wpAnyH_ready (rs := [8]) (by kernel_rfl) (by simp) ?_
      refine AllReadyH.cons rfl (fun K hK => ?_) AllReadyH.nil
      try simp only [List.getElem_toArray, List.getElem_cons_zero, List.getElem_cons_succ]
      unfold Oper.wp
      simp [execOp, resolve, invoke, builtin, Act.eval, hr, Result.andThen, Oper.upon]
      refine hK.out _ _ (by with_reducible exact HK3.out) (fun hHeld => ?_)
      clear hK K hr
      try simp only [Act.put, List.setIfInBounds_toArray, List.set_cons_zero, List.set_cons_succ]
      refine' wpAnyH_take (i := 9) (v := _) rfl (by kernel_rfl) (by kernel_rfl) (by kernel_rfl) (fun _ _ _ h => h) (Or.inl ⟨by rfl, ?hy7⟩) (by assumption) ?rest7
      case hy7 => (intro w hSw; (try dsimp only at hSw); try simp only [List.getElem_toArray, List.getElem_cons_zero, List.getElem_cons_succ]; go_simp; (try with_reducible rfl))
      try simp only [List.getElem_toArray, List.getElem_cons_zero, List.getElem_cons_succ]
      try simp only [Act.put, List.setIfInBounds_toArray, List.set_cons_zero, List.set_cons_succ]
      refine wpAnyH_ready (rs := [10]) (by kernel_rfl) (by simp) ?_
      refine AllReadyH.cons rfl (fun K hK => ?_) AllReadyH.nil
      try simp only [List.getElem_toArray, List.getElem_cons_zero, List.getElem_cons_succ]
      have hg3 : W3.cell? ⟨gO, 0, none⟩ = some v := by rw [cell_of_row W3 gO 0 _ _ _ HG3.out]; rfl
      have hf3 : W3.frozen? ⟨gO, 0, none⟩ = false := frozen_of_row W3 gO 0 _ _ HG3.out
      obtain ⟨g9, n9, c9, hv9⟩ := HG2.out.some_
      subst hv9
      go_simp
      refine hK.out _ _ (by with_reducible exact ⟨(World.cell?_of_block (a := ⟨gP, 0, none⟩) (Below.heap_setCell W3 ⟨gO, 0, none⟩ _ _ HF.out.2.2.1)).trans HK3.out.1, (World.cell?_of_block (a := ⟨wx.heap.size, 0, none⟩) (Below.heap_setCell W3 ⟨gO, 0, none⟩ _ _ (by have := HF.out.1; have := HGX.out; show wx.heap.size ≠ gO; omega))).trans HK3.out.2.1, (World.cell?_of_block (a := ⟨wx.heap.size, 1, none⟩) (Below.heap_setCell W3 ⟨gO, 0, none⟩ _ _ (by have := HF.out.1; have := HGX.out; show wx.heap.size ≠ gO; omega))).trans HK3.out.2.2.1, (World.cell?_of_block (a := ⟨wx.heap.size, 2, none⟩) (Below.heap_setCell W3 ⟨gO, 0, none⟩ _ _ (by have := HF.out.1; have := HGX.out; show wx.heap.size ≠ gO; omega))).trans HK3.out.2.2.2.1, (World.cell?_of_block (a := ⟨wx.heap.size, 3, none⟩) (Below.heap_setCell W3 ⟨gO, 0, none⟩ _ _ (by have := HF.out.1; have := HGX.out; show wx.heap.size ≠ gO; omega))).trans HK3.out.2.2.2.2⟩) (fun hHeld => ?_)
      clear hK K
      try simp only [Act.put, List.setIfInBounds_toArray, List.set_cons_zero, List.set_cons_succ]
      refine wpAnyH_done (by kernel_rfl) ?_ _
      go_wp2_with fail
      go_end0
      first | exact ⟨rfl, HFIN.out⟩ | (rw [HE.out]; exact ⟨rfl, HFIN.out⟩)
    · try simp only [List.getElem_toArray, List.getElem_cons_zero, List.getElem_cons_succ]
      have hk := HK0.out
      go_simp
      obtain ⟨W1, hW1⟩ : ∃ W, W0.alloc (.cells #[.int .i64 a, .bool s, .slice A n c, .bool t, .slice B m d] 74) = W := ⟨_, rfl⟩
      rw [hW1]
      have HB1' : Hid (Below W0.heap.size W0 W1) := by rw [← hW1]; exact (Below.refl _ _).alloc (Nat.le_refl _) _
      have HA1 : Hid (W1.heap[W0.heap.size]? = some (.cells #[.int .i64 a, .bool s, .slice A n c, .bool t, .slice B m d] 74 (0, 0))) := by rw [← hW1]; exact heap_alloc_new W0 _
      have HK1 : Hid (W1.cell? ⟨gP, 0, none⟩ = some (.pointer (some ⟨gO, 0, none⟩)) ∧ W1.cell? ⟨wx.heap.size, 0, none⟩ = some (.bool s) ∧ W1.cell? ⟨wx.heap.size, 1, none⟩ = some (.slice A n c) ∧ W1.cell? ⟨wx.heap.size, 2, none⟩ = some (.bool t) ∧ W1.cell? ⟨wx.heap.size, 3, none⟩ = some (.slice B m d)) := by
        have k := HK0.out
        exact ⟨(HB1'.out.cell (p := ⟨gP, 0, none⟩) (Nat.lt_of_lt_of_le HF.out.2.1 HN0.out.size)).trans k.1, (HB1'.out.cell (p := ⟨wx.heap.size, 0, none⟩) HW0S.out).trans k.2.1, (HB1'.out.cell (p := ⟨wx.heap.size, 1, none⟩) HW0S.out).trans k.2.2.1, (HB1'.out.cell (p := ⟨wx.heap.size, 2, none⟩) HW0S.out).trans k.2.2.2.1, (HB1'.out.cell (p := ⟨wx.heap.size, 3, none⟩) HW0S.out).trans k.2.2.2.2⟩
      clear hk hW1
      refine hK.out _ _ (by with_reducible exact HK1.out) (fun hHeld => ?_)
      clear hK K
      try simp only [Act.put, List.setIfInBounds_toArray, List.set_cons_zero, List.set_cons_succ]
      have HG1 : Hid (W1.heap[gO]? = some (.cells #[v] 33 (0, 0))) := (HB1'.out.block gO (lt_of_block HG0.out)).trans HG0.out
      refine wpAnyH_ready (rs := [3]) (by kernel_rfl) (by simp) ?_
      refine AllReadyH.cons rfl (fun K hK => ?_) AllReadyH.nil
      try simp only [List.getElem_toArray, List.getElem_cons_zero, List.getElem_cons_succ]
      have hg0 : W1.cell? ⟨gO, 0, none⟩ = some v := by rw [cell_of_row W1 gO 0 _ _ _ HG1.out]; rfl
      go_simp
      clear hg0
      refine hK.out _ _ (by with_reducible exact HK1.out) (fun hHeld => ?_)
      clear hK K
      try simp only [Act.put, List.setIfInBounds_toArray, List.set_cons_zero, List.set_cons_succ]
      have HO1' : Hid (OwnT W1 0 v (zs.map Prod.fst)) := HO0.out.keep (fun g hg => HB1'.out.block g (HO0.out.lt hg))
      have HN1 := Lib.hid (HN0.out.below HB1'.out)
      have HZ1 : Hid (∀ y ∈ zs, OneQ W1 y.1.s y.1.A y.1.n y.1.c y.1.t y.1.B y.1.m y.1.d y.2 ∧ -9223372036854775808 ≤ y.1.at_ ∧ y.1.at_ ≤ 9223372036854775807) := fun y hy => ⟨(HZ0.out y hy).1.below HB1'.out, (HZ0.out y hy).2⟩
      have HQ1' := Lib.hid (HQ0.out.below HB1'.out)
      have hcl : ∀ j u, x.enc[j]? = some u → W1.cell? ((⟨W0.heap.size, 0, none⟩ : Addr).add j) = some u := by
        intro j u hj
        have e : (⟨W0.heap.size, 0, none⟩ : Addr).add j = ⟨W0.heap.size, j, none⟩ := by unfold Addr.add; split <;> simp_all
        rw [e, cell_of_row W1 _ j _ _ _ HA1.out]
        rw [← HXE.out] at hj
        rw [← hj]
        show (#[Value.int .i64 a, .bool s, .slice A n c, .bool t, .slice B m d] : Array Value)[j]? = [Value.int .i64 a, .bool s, .slice A n c, .bool t, .slice B m d][j]?
        simp
      obtain ⟨v', W3, hr, g2, gg, gb⟩ := appT_at W1 0 33 v (zs.map Prod.fst) x ⟨W0.heap.size, 0, none⟩ HO1'.out hcl (by rw [List.length_map, ← vals_len, HZS.out]; exact HLEN.out) (Nat.zero_le _)
      have HG2 := Lib.hid g2
      have HGG := Lib.hid gg
      have HGB := Lib.hid gb
      have hvP : some gP ≠ v.ownBlock := by
        intro e
        rcases HBK.out with h | ⟨g, h, hg⟩
        · rw [h] at e; exact HF.out.2.2.2.1 (Option.some.inj e)
        · rw [h] at e; have h9 := Option.some.inj e; have := HF.out.2.1; omega
      have hvX : some wx.heap.size ≠ v.ownBlock := by
        intro e
        have := HVL.out _ e.symm
        omega
      have HK3 : Hid (W3.cell? ⟨gP, 0, none⟩ = some (.pointer (some ⟨gO, 0, none⟩)) ∧ W3.cell? ⟨wx.heap.size, 0, none⟩ = some (.bool s) ∧ W3.cell? ⟨wx.heap.size, 1, none⟩ = some (.slice A n c) ∧ W3.cell? ⟨wx.heap.size, 2, none⟩ = some (.bool t) ∧ W3.cell? ⟨wx.heap.size, 3, none⟩ = some (.slice B m d)) := by
        have k := HK1.out
        exact ⟨HGG.out.cell k.1 hvP, HGG.out.cell k.2.1 hvX, HGG.out.cell k.2.2.1 hvX, HGG.out.cell k.2.2.2.1 hvX, HGG.out.cell k.2.2.2.2 hvX⟩
      have HG3 : Hid (W3.heap[gO]? = some (.cells #[v] 33 (0, 0))) := by
        refine (HGG.out.block gO (lt_of_block HG1.out) ?_).trans HG1.out
        rcases HBK.out with h | ⟨g, h, hg⟩
        · rw [h]; intro e; exact HF.out.2.2.2.2 (Option.some.inj e)
        · rw [h]; intro e; have h9 := Option.some.inj e; have := HF.out.1; omega
      have HFIN : Hid (OutV wl (W3.setCell ⟨gO, 0, none⟩ v') gO r0 (l ++ [(a, q)])) := by
        have h := OutV.put HN1.out HF.out.1 HF.out.2.2.2.2 HG1.out HO1'.out HZ1.out HBK.out (x := x) (q := q) (by rw [← HXE.out]; exact HQ1'.out) (by rw [← HXE.out]; exact HAB.out) HG2.out HGG.out HGB.out
        rw [HZS.out, ← HXE.out] at h
        exact h
      clear g2 gg gb hvP hvX hcl
      refine wpAnyH_ready (rs := [8]) (by kernel_rfl) (by simp) ?_
      refine AllReadyH.cons rfl (fun K hK => ?_) AllReadyH.nil
      try simp only [List.getElem_toArray, List.getElem_cons_zero, List.getElem_cons_succ]
      unfold Oper.wp
      simp [execOp, resolve, invoke, builtin, Act.eval, hr, Result.andThen, Oper.upon]
      refine hK.out _ _ (by with_reducible exact HK3.out) (fun hHeld => ?_)
      clear hK K hr
      try simp only [Act.put, List.setIfInBounds_toArray, List.set_cons_zero, List.set_cons_succ]
      refine' wpAnyH_take (i := 9) (v := _) rfl (by kernel_rfl) (by kernel_rfl) (by kernel_rfl) (fun _ _ _ h => h) (Or.inl ⟨by rfl, ?hy8⟩) (by assumption) ?rest8
      case hy8 => (intro w hSw; (try dsimp only at hSw); try simp only [List.getElem_toArray, List.getElem_cons_zero, List.getElem_cons_succ]; go_simp; (try with_reducible rfl))
      try simp only [List.getElem_toArray, List.getElem_cons_zero, List.getElem_cons_succ]
      try simp only [Act.put, List.setIfInBounds_toArray, List.set_cons_zero, List.set_cons_succ]
      refine wpAnyH_ready (rs := [10]) (by kernel_rfl) (by simp) ?_
      refine AllReadyH.cons rfl (fun K hK => ?_) AllReadyH.nil
      try simp only [List.getElem_toArray, List.getElem_cons_zero, List.getElem_cons_succ]
      have hg3 : W3.cell? ⟨gO, 0, none⟩ = some v := by rw [cell_of_row W3 gO 0 _ _ _ HG3.out]; rfl
      have hf3 : W3.frozen? ⟨gO, 0, none⟩ = false := frozen_of_row W3 gO 0 _ _ HG3.out
      obtain ⟨g9, n9, c9, hv9⟩ := HG2.out.some_
      subst hv9
      go_simp
      refine hK.out _ _ (by with_reducible exact ⟨(World.cell?_of_block (a := ⟨gP, 0, none⟩) (Below.heap_setCell W3 ⟨gO, 0, none⟩ _ _ HF.out.2.2.1)).trans HK3.out.1, (World.cell?_of_block (a := ⟨wx.heap.size, 0, none⟩) (Below.heap_setCell W3 ⟨gO, 0, none⟩ _ _ (by have := HF.out.1; have := HGX.out; show wx.heap.size ≠ gO; omega))).trans HK3.out.2.1, (World.cell?_of_block (a := ⟨wx.heap.size, 1, none⟩) (Below.heap_setCell W3 ⟨gO, 0, none⟩ _ _ (by have := HF.out.1; have := HGX.out; show wx.heap.size ≠ gO; omega))).trans HK3.out.2.2.1, (World.cell?_of_block (a := ⟨wx.heap.size, 2, none⟩) (Below.heap_setCell W3 ⟨gO, 0, none⟩ _ _ (by have := HF.out.1; have := HGX.out; show wx.heap.size ≠ gO; omega))).trans HK3.out.2.2.2.1, (World.cell?_of_block (a := ⟨wx.heap.size, 3, none⟩) (Below.heap_setCell W3 ⟨gO, 0, none⟩ _ _ (by have := HF.out.1; have := HGX.out; show wx.heap.size ≠ gO; omega))).trans HK3.out.2.2.2.2⟩) (fun hHeld => ?_)
      clear hK K
      try simp only [Act.put, List.setIfInBounds_toArray, List.set_cons_zero, List.set_cons_succ]
      refine wpAnyH_done (by kernel_rfl) ?_ _
      go_wp2_with fail
      go_end0
      first | exact ⟨rfl, HFIN.out⟩ | (rw [HE.out]; exact ⟨rfl, HFIN.out⟩)
end Go.Proofs.YtmbnlhedbedcdaaGreat.V

/- joined's closure: what is made of both is put behind. -/
namespace Go.Proofs.YtmbnlhedbedcdaaGreat.V
open Go.RowKit
open Go.Proofs.YtmbnlhedbedcdaaGreat.Q (IsQ OneQ RetQ below_on ql Qbx)

/-- What is made of both: a call that tells f of them, in its one form. -/
structure Do (w : World) (g : FuncId) (cb : Array Value) (f : Rat → Rat → Rat) (ok : Rat → Rat → Prop) : Prop where
  eg : ∀ args w, (callFunc g args).run Tryz.prog w = .ok (.enter g args) w
  call : ∀ W (sv : Bool) (Av : Option Addr) (nv cv : Nat) (tv : Bool) (Bv : Option Addr) (mv dv : Nat) (sw : Bool) (Aw : Option Addr) (nw cw : Nat) (tw : Bool) (Bw : Option Addr) (mw dw : Nat) p r, Below w.heap.size w W → IsQ W sv Av nv cv tv Bv mv dv p 700 → IsQ W sw Aw nw cw tw Bw mw dw r 700 → ok p r → Calls Tryz.prog g (#[.agg #[.bool sv, .slice Av nv cv, .bool tv, .slice Bv mv dv], .agg #[.bool sw, .slice Aw nw cw, .bool tw, .slice Bw mw dw]] ++ cb) W (Go.Proofs.YtmbnlhedbedcdaaGreat.Q.RetQ W (f p r))
  short : ∀ p r, ok p r → ql (f p r) ≤ 3000
/-- joined's variables: what makes, what puts, and the vector's pointer. -/
structure JB (W : World) (gF g8 gP gO : Nat) (g : FuncId) (cb : Array Value) : Prop where
  f : W.heap[gF]? = some (.cells #[.func (.func g) #[] cb] 61 (0, 0))
  p : W.heap[g8]? = some (.cells #[.func (.func 122) #[] #[.pointer (some ⟨gP, 0, none⟩)]] 104 (0, 0))
  o : W.heap[gP]? = some (.cells #[.pointer (some ⟨gO, 0, none⟩)] 106 (0, 0))
theorem JB.near {Own : Nat → Prop} {W W' : World} {gF g8 gP gO : Nat} {g : FuncId} {cb : Array Value} (h : JB W gF g8 gP gO g cb) (hn : Near Own W W') (h1 : ¬ Own gF) (h2 : ¬ Own g8) (h3 : ¬ Own gP) : JB W' gF g8 gP gO g cb :=
  ⟨(hn.block gF (lt_of_block h.f) h1).trans h.f, (hn.block g8 (lt_of_block h.p) h2).trans h.p, (hn.block gP (lt_of_block h.o) h3).trans h.o⟩
theorem JB.below {W W' : World} {gF g8 gP gO : Nat} {g : FuncId} {cb : Array Value} (h : JB W gF g8 gP gO g cb) (hb : Below W.heap.size W W') : JB W' gF g8 gP gO g cb :=
  ⟨(hb.block gF (lt_of_block h.f)).trans h.f, (hb.block g8 (lt_of_block h.p)).trans h.p, (hb.block gP (lt_of_block h.o)).trans h.o⟩
set_option maxRecDepth 100000 in
set_option maxHeartbeats 4000000 in
theorem visit_any {w wl wx : World} {gF g8 gP gO r0 : Nat} {g : FuncId} {cb : Array Value} {f : Rat → Rat → Rat} {ok : Rat → Rat → Prop} {l : List (Int × Rat)} {a : Int} {sv : Bool} {Av : Option Addr} {nv cv : Nat} {tv : Bool} {Bv : Option Addr} {mv dv : Nat} {sw : Bool} {Aw : Option Addr} {nw cw : Nat} {tw : Bool} {Bw : Option Addr} {mw dw : Nat} {p r : Rat} (hd : Do w g cb f ok) (hb : Below w.heap.size w wx) (hj0 : JB wl gF g8 gP gO g cb) (ho : OutV wl wx gO r0 l) (hgO : gO < wl.heap.size) (hF : gF ≠ gO ∧ gF ≠ r0 ∧ g8 ≠ gO ∧ g8 ≠ r0) (hPO : gP ≠ gO) (hPr : gP ≠ r0) (hne : gO ≠ r0) (ha : -9223372036854775808 ≤ a ∧ a ≤ 9223372036854775807) (hp : IsQ wx sv Av nv cv tv Bv mv dv p 700) (hr : IsQ wx sw Aw nw cw tw Bw mw dw r 700) (hok : ok p r) (hlen : l.length ≤ 10000000) :
    Calls Tryz.prog 107 #[.int .i64 a, .agg #[.bool sv, .slice Av nv cv, .bool tv, .slice Bv mv dv], .agg #[.bool sw, .slice Aw nw cw, .bool tw, .slice Bw mw dw], .pointer (some ⟨g8, 0, none⟩), .pointer (some ⟨gF, 0, none⟩)] wx (fun e wy => e = .returned (.bool true) ∧ OutV wl wy gO r0 (if f p r = 0 then l else l ++ [(a, f p r)])) := by
  have hno : ¬ (gF = gO ∨ gF = r0) ∧ ¬ (g8 = gO ∨ g8 = r0) ∧ ¬ (gP = gO ∨ gP = r0) := ⟨fun h => h.elim hF.1 hF.2.1, fun h => h.elim hF.2.2.1 hF.2.2.2, fun h => h.elim hPO hPr⟩
  have HNO := Lib.hid hno
  have hj : JB wx gF g8 gP gO g cb := hj0.near ho.near hno.1 hno.2.1 hno.2.2
  have HJL := Lib.hid hj0
  have hgP : gP < wl.heap.size := lt_of_block hj0.o
  obtain ⟨W0, hW0⟩ : ∃ W, ((wx.alloc (.cells #[.bool sv, .slice Av nv cv, .bool tv, .slice Bv mv dv] 27)).alloc (.cells #[.bool sw, .slice Aw nw cw, .bool tw, .slice Bw mw dw] 27)) = W := ⟨_, rfl⟩
  have HB0 : Hid (Below wx.heap.size wx W0) := by rw [← hW0]; exact ((Below.refl _ _).alloc (Nat.le_refl _) _).alloc (by simp) _
  have HX0 : Hid (Qbx W0 wx.heap.size sv Av nv cv tv Bv mv dv) := by rw [← hW0]; exact (Qbx.new _ _ rfl).alloc _
  have HY0 : Hid (Qbx W0 (wx.heap.size + 1) sw Aw nw cw tw Bw mw dw) := by rw [← hW0]; exact Qbx.new _ _ (by simp)
  have HD := Lib.hid hd
  have eg := hd.eg
  have HBW := Lib.hid hb
  have HJ := Lib.hid hj
  have HO := Lib.hid ho
  have HF : Hid (gO < wl.heap.size ∧ gP < wl.heap.size ∧ gP ≠ gO ∧ gP ≠ r0 ∧ gO ≠ r0) := ⟨hgO, hgP, hPO, hPr, hne⟩
  have HA := Lib.hid ha
  have HP := Lib.hid hp
  have HR := Lib.hid hr
  have HOK := Lib.hid hok
  have HLEN := Lib.hid hlen
  obtain ⟨v, hv⟩ : ∃ v, f p r = v := ⟨_, rfl⟩
  have HV := Lib.hid hv
  rw [hv]
  obtain ⟨L, hL⟩ : ∃ L, (if v = 0 then l else l ++ [(a, v)]) = L := ⟨_, rfl⟩
  have HL := Lib.hid hL
  rw [hL]
  clear hno hj0 hF hd hb hj ho hgO hgP hPO hPr hne ha hp hr hok hlen hv hL
  go_enter Tryz.func107, Tryz.ntmps107
  go_upto_region 1 with fail
  clear hW0
  obtain ⟨W1, hW1⟩ : ∃ W, W0.drew = W := ⟨_, rfl⟩
  have HB1 : Hid (Below wx.heap.size wx W1) := by rw [← hW1]; exact HB0.out.drew
  have HD1 : Hid (Below W0.heap.size W0 W1) := by rw [← hW1]; exact (Below.refl _ _).drew
  have HJ1 := Lib.hid (HJ.out.below HB1.out)
  have HX1 := Lib.hid (HX0.out.below HD1.out)
  have HY1 := Lib.hid (HY0.out.below HD1.out)
  have HK1 : Hid (W1.cell? ⟨g8, 0, none⟩ = some (.func (.func 122) #[] #[.pointer (some ⟨gP, 0, none⟩)]) ∧ W1.cell? ⟨gF, 0, none⟩ = some (.func (.func g) #[] cb)) := ⟨by rw [cell_of_row W1 g8 0 _ _ _ HJ1.out.p]; rfl, by rw [cell_of_row W1 gF 0 _ _ _ HJ1.out.f]; rfl⟩
  refine wp_region_held_drew (S := (fun V : World => V.cell? ⟨g8, 0, none⟩ = some (.func (.func 122) #[] #[.pointer (some ⟨gP, 0, none⟩)]) ∧ V.cell? ⟨gF, 0, none⟩ = some (.func (.func g) #[] cb))) (by kernel_rfl) (by rw [hW1]; with_reducible exact HK1.out) (fun hHeld => ?_)
  rw [hW1] at hHeld ⊢
  clear hW1
  refine' wpAnyH_take (i := 0) (v := _) rfl (by kernel_rfl) (by kernel_rfl) (by kernel_rfl) (fun _ _ _ h => h) (Or.inl ⟨by rfl, ?hy1⟩) (by assumption) ?rest1
  case hy1 => (intro w hSw; (try dsimp only at hSw); try simp only [List.getElem_toArray, List.getElem_cons_zero]; go_simp; (try with_reducible rfl))
  try simp only [List.getElem_toArray, List.getElem_cons_zero]
  try simp only [Act.put, List.setIfInBounds_toArray, List.set_cons_zero, List.set_cons_succ]
  refine' wpAnyH_take (i := 1) (v := _) rfl (by kernel_rfl) (by kernel_rfl) (by kernel_rfl) (fun _ _ _ h => h) (Or.inl ⟨by rfl, ?hy2⟩) (by assumption) ?rest2
  case hy2 => (intro w hSw; (try dsimp only at hSw); try simp only [List.getElem_toArray, List.getElem_cons_zero, List.getElem_cons_succ]; go_simp; (try with_reducible rfl))
  try simp only [List.getElem_toArray, List.getElem_cons_zero, List.getElem_cons_succ]
  try simp only [Act.put, List.setIfInBounds_toArray, List.set_cons_zero, List.set_cons_succ]
  refine' wpAnyH_take (i := 2) (v := _) rfl (by kernel_rfl) (by kernel_rfl) (by kernel_rfl) (fun _ _ _ h => h) (Or.inl ⟨by rfl, ?hy3⟩) (by assumption) ?rest3
  case hy3 => (intro w hSw; (try dsimp only at hSw); try simp only [List.getElem_toArray, List.getElem_cons_zero, List.getElem_cons_succ]; go_simp; (try with_reducible rfl))
  try simp only [List.getElem_toArray, List.getElem_cons_zero, List.getElem_cons_succ]
  try simp only [Act.put, List.setIfInBounds_toArray, List.set_cons_zero, List.set_cons_succ]
  refine wpAnyH_ready (rs := [3, 4]) (by kernel_rfl) (by simp) ?_
  refine AllReadyH.cons rfl (fun K hK => ?_) (AllReadyH.cons rfl (fun K hK => ?_) AllReadyH.nil)
  · try simp only [List.getElem_toArray, List.getElem_cons_zero, List.getElem_cons_succ]
    have v0 := HX1.out.c0
    have v1 := HX1.out.c1
    have v2 := HX1.out.c2
    have v3 := HX1.out.c3
    have vf0 := HX1.out.f 0
    have vf1 := HX1.out.f 1
    have vf2 := HX1.out.f 2
    have vf3 := HX1.out.f 3
    go_simp
    clear v0 vf0 v1 vf1 v2 vf2 v3 vf3
    refine hK.out _ _ (by with_reducible exact HK1.out) (fun hHeld => ?_)
    clear hK K
    try simp only [Act.put, List.setIfInBounds_toArray, List.set_cons_zero, List.set_cons_succ]
    refine wpAnyH_ready (rs := [4]) (by kernel_rfl) (by simp) ?_
    refine AllReadyH.cons rfl (fun K hK => ?_) AllReadyH.nil
    try simp only [List.getElem_toArray, List.getElem_cons_zero, List.getElem_cons_succ]
    have v0 := HY1.out.c0
    have v1 := HY1.out.c1
    have v2 := HY1.out.c2
    have v3 := HY1.out.c3
    have vf0 := HY1.out.f 0
    have vf1 := HY1.out.f 1
    have vf2 := HY1.out.f 2
    have vf3 := HY1.out.f 3
    go_simp
    clear v0 vf0 v1 vf1 v2 vf2 v3 vf3
    refine hK.out _ _ (by with_reducible exact HK1.out) (fun hHeld => ?_)
    clear hK K
    try simp only [Act.put, List.setIfInBounds_toArray, List.set_cons_zero, List.set_cons_succ]
    refine wpAnyH_ready (rs := [5]) (by kernel_rfl) (by simp) ?_
    refine AllReadyH.cons rfl (fun K hK => ?_) AllReadyH.nil
    try simp only [List.getElem_toArray, List.getElem_cons_zero, List.getElem_cons_succ]
    go_simp
    with_reducible refine (HD.out.call W1 sv Av nv cv tv Bv mv dv sw Aw nw cw tw Bw mw dw p r (below_on HBW.out HB1.out) (HP.out.below HB1.out) (HR.out.below HB1.out) HOK.out).mono ?_
    rintro e W2 ⟨s8, A8, n8, c8, t8, B8, m8, d8, rfl, hq, hbx⟩
    rw [HV.out] at hq
    have HB2 := Lib.hid (below_on HB1.out hbx)
    have HQ2 := Lib.hid hq
    have HJ2 := Lib.hid (HJ1.out.below hbx)
    have HX2 := Lib.hid (HX1.out.below hbx)
    have HY2 := Lib.hid (HY1.out.below hbx)
    have HK2 : Hid (W2.cell? ⟨g8, 0, none⟩ = some (.func (.func 122) #[] #[.pointer (some ⟨gP, 0, none⟩)]) ∧ W2.cell? ⟨gF, 0, none⟩ = some (.func (.func g) #[] cb)) := ⟨by rw [cell_of_row W2 g8 0 _ _ _ HJ2.out.p]; rfl, by rw [cell_of_row W2 gF 0 _ _ _ HJ2.out.f]; rfl⟩
    have HO2 := Lib.hid (HO.out.below HB2.out)
    have HGX : Hid (wl.heap.size ≤ wx.heap.size) := HO.out.near.size
    clear hq hbx HK1 HJ1 HX1 HY1
    refine hK.out _ _ (by with_reducible exact HK2.out) (fun hHeld => ?_)
    clear hK K eg
    try simp only [Act.put, List.setIfInBounds_toArray, List.set_cons_zero, List.set_cons_succ]
    refine wpAnyH_ready (rs := [6]) (by kernel_rfl) (by simp) ?_
    refine AllReadyH.cons rfl (fun K hK => ?_) AllReadyH.nil
    try simp only [List.getElem_toArray, List.getElem_cons_zero, List.getElem_cons_succ]
    go_simp
    with_reducible refine (put_any HJ2.out.o HO2.out HF.out.1 HF.out.2.1 HF.out.2.2.1 HF.out.2.2.2.1 HF.out.2.2.2.2 HA.out HQ2.out (by have h := HD.out.short p r HOK.out; rw [HV.out] at h; exact h) HLEN.out).mono ?_
    rintro e W3 ⟨rfl, ho3⟩
    have HJ3 := Lib.hid (HJL.out.near ho3.near HNO.out.1 HNO.out.2.1 HNO.out.2.2)
    have HK3 : Hid (W3.cell? ⟨g8, 0, none⟩ = some (.func (.func 122) #[] #[.pointer (some ⟨gP, 0, none⟩)]) ∧ W3.cell? ⟨gF, 0, none⟩ = some (.func (.func g) #[] cb)) := ⟨by rw [cell_of_row W3 g8 0 _ _ _ HJ3.out.p]; rfl, by rw [cell_of_row W3 gF 0 _ _ _ HJ3.out.f]; rfl⟩
    have HO3 : Hid (OutV wl W3 gO r0 L) := by
      show OutV wl W3 gO r0 L
      rw [← HL.out]; exact ho3
    clear ho3
    refine hK.out _ _ (by with_reducible exact HK3.out) (fun hHeld => ?_)
    clear hK K
    try simp only [Act.put, List.setIfInBounds_toArray, List.set_cons_zero, List.set_cons_succ]
    refine wpAnyH_done (by kernel_rfl) ?_ _
    go_wp2_with fail
    exact ⟨rfl, .bool true, by simp [results, Tryz.results107, go_sem], rfl, HO3.out⟩
  · try simp only [List.getElem_toArray, List.getElem_cons_zero, List.getElem_cons_succ]
    have v0 := HY1.out.c0
    have v1 := HY1.out.c1
    have v2 := HY1.out.c2
    have v3 := HY1.out.c3
    have vf0 := HY1.out.f 0
    have vf1 := HY1.out.f 1
    have vf2 := HY1.out.f 2
    have vf3 := HY1.out.f 3
    go_simp
    clear v0 vf0 v1 vf1 v2 vf2 v3 vf3
    refine hK.out _ _ (by with_reducible exact HK1.out) (fun hHeld => ?_)
    clear hK K
    try simp only [Act.put, List.setIfInBounds_toArray, List.set_cons_zero, List.set_cons_succ]
    refine wpAnyH_ready (rs := [3]) (by kernel_rfl) (by simp) ?_
    refine AllReadyH.cons rfl (fun K hK => ?_) AllReadyH.nil
    try simp only [List.getElem_toArray, List.getElem_cons_zero, List.getElem_cons_succ]
    have v0 := HX1.out.c0
    have v1 := HX1.out.c1
    have v2 := HX1.out.c2
    have v3 := HX1.out.c3
    have vf0 := HX1.out.f 0
    have vf1 := HX1.out.f 1
    have vf2 := HX1.out.f 2
    have vf3 := HX1.out.f 3
    go_simp
    clear v0 vf0 v1 vf1 v2 vf2 v3 vf3
    refine hK.out _ _ (by with_reducible exact HK1.out) (fun hHeld => ?_)
    clear hK K
    try simp only [Act.put, List.setIfInBounds_toArray, List.set_cons_zero, List.set_cons_succ]
    refine wpAnyH_ready (rs := [5]) (by kernel_rfl) (by simp) ?_
    refine AllReadyH.cons rfl (fun K hK => ?_) AllReadyH.nil
    try simp only [List.getElem_toArray, List.getElem_cons_zero, List.getElem_cons_succ]
    go_simp
    with_reducible refine (HD.out.call W1 sv Av nv cv tv Bv mv dv sw Aw nw cw tw Bw mw dw p r (below_on HBW.out HB1.out) (HP.out.below HB1.out) (HR.out.below HB1.out) HOK.out).mono ?_
    rintro e W2 ⟨s8, A8, n8, c8, t8, B8, m8, d8, rfl, hq, hbx⟩
    rw [HV.out] at hq
    have HB2 := Lib.hid (below_on HB1.out hbx)
    have HQ2 := Lib.hid hq
    have HJ2 := Lib.hid (HJ1.out.below hbx)
    have HX2 := Lib.hid (HX1.out.below hbx)
    have HY2 := Lib.hid (HY1.out.below hbx)
    have HK2 : Hid (W2.cell? ⟨g8, 0, none⟩ = some (.func (.func 122) #[] #[.pointer (some ⟨gP, 0, none⟩)]) ∧ W2.cell? ⟨gF, 0, none⟩ = some (.func (.func g) #[] cb)) := ⟨by rw [cell_of_row W2 g8 0 _ _ _ HJ2.out.p]; rfl, by rw [cell_of_row W2 gF 0 _ _ _ HJ2.out.f]; rfl⟩
    have HO2 := Lib.hid (HO.out.below HB2.out)
    have HGX : Hid (wl.heap.size ≤ wx.heap.size) := HO.out.near.size
    clear hq hbx HK1 HJ1 HX1 HY1
    refine hK.out _ _ (by with_reducible exact HK2.out) (fun hHeld => ?_)
    clear hK K eg
    try simp only [Act.put, List.setIfInBounds_toArray, List.set_cons_zero, List.set_cons_succ]
    refine wpAnyH_ready (rs := [6]) (by kernel_rfl) (by simp) ?_
    refine AllReadyH.cons rfl (fun K hK => ?_) AllReadyH.nil
    try simp only [List.getElem_toArray, List.getElem_cons_zero, List.getElem_cons_succ]
    go_simp
    with_reducible refine (put_any HJ2.out.o HO2.out HF.out.1 HF.out.2.1 HF.out.2.2.1 HF.out.2.2.2.1 HF.out.2.2.2.2 HA.out HQ2.out (by have h := HD.out.short p r HOK.out; rw [HV.out] at h; exact h) HLEN.out).mono ?_
    rintro e W3 ⟨rfl, ho3⟩
    have HJ3 := Lib.hid (HJL.out.near ho3.near HNO.out.1 HNO.out.2.1 HNO.out.2.2)
    have HK3 : Hid (W3.cell? ⟨g8, 0, none⟩ = some (.func (.func 122) #[] #[.pointer (some ⟨gP, 0, none⟩)]) ∧ W3.cell? ⟨gF, 0, none⟩ = some (.func (.func g) #[] cb)) := ⟨by rw [cell_of_row W3 g8 0 _ _ _ HJ3.out.p]; rfl, by rw [cell_of_row W3 gF 0 _ _ _ HJ3.out.f]; rfl⟩
    have HO3 : Hid (OutV wl W3 gO r0 L) := by
      show OutV wl W3 gO r0 L
      rw [← HL.out]; exact ho3
    clear ho3
    refine hK.out _ _ (by with_reducible exact HK3.out) (fun hHeld => ?_)
    clear hK K
    try simp only [Act.put, List.setIfInBounds_toArray, List.set_cons_zero, List.set_cons_succ]
    refine wpAnyH_done (by kernel_rfl) ?_ _
    go_wp2_with fail
    exact ⟨rfl, .bool true, by simp [results, Tryz.results107, go_sem], rfl, HO3.out⟩
end Go.Proofs.YtmbnlhedbedcdaaGreat.V

/- sparse.joined, walked. -/
namespace Go.Proofs.YtmbnlhedbedcdaaGreat.V
open Go.RowKit
open Go.Proofs.YtmbnlhedbedcdaaGreat.Q (IsQ OneQ RetQ below_on ql Qbx)

theorem behind_any (W : World) (gO : Nat) :
    Calls Tryz.prog 91 #[.pointer (some ⟨gO, 0, none⟩)] W (fun e w' => e = .returned (.func (.func 122) #[] #[.pointer (some ⟨W.heap.size, 0, none⟩)]) ∧ w' = W.alloc (.cells #[.pointer (some ⟨gO, 0, none⟩)] 106)) := by
  go_enter Tryz.func91, Tryz.ntmps91
  go_wp2_with fail
  exact ⟨rfl, .func (.func 122) #[] #[.pointer (some ⟨W.heap.size, 0, none⟩)], by simp [results, Tryz.results91, go_sem], rfl, rfl⟩
/-- A vector of the call's own. -/
def RetV (w : World) (P : List (Int × Rat) → Prop) (e : Ending) (w' : World) : Prop :=
  ∃ (g n c : Nat) (zs : List (TV × Rat)), e = .returned (.slice (some ⟨g, 0, none⟩) n c) ∧ OwnT w' 0 (.slice (some ⟨g, 0, none⟩) n c) (zs.map Prod.fst) ∧ w.heap.size ≤ g ∧ P (vals zs) ∧ (∀ y ∈ zs, OneQ w' y.1.s y.1.A y.1.n y.1.c y.1.t y.1.B y.1.m y.1.d y.2 ∧ -9223372036854775808 ≤ y.1.at_ ∧ y.1.at_ ≤ 9223372036854775807) ∧ Below w.heap.size w w'
theorem info_t5 : (Tryz.prog.info? 74).map (fun i => (i.zero, i.size, i.bytes)) = some (some zeroT, 5, 72) := by kernel_rfl
theorem made_no (n j : Nat) : ∀ u, (madeCells zeroT.cells n)[j]? = some u → ∀ z, u ≠ Value.int .u64 z := by
  intro u hu
  have h := Array.mem_of_getElem? hu
  unfold madeCells at h
  obtain ⟨i, _, rfl⟩ := Array.mem_map.1 h
  have e : zeroT.cells = #[.int .i64 0, .bool false, .slice none 0 0, .bool false, .slice none 0 0] := rfl
  have hi : i % zeroT.cells.size < 5 := by rw [e]; exact Nat.mod_lt _ (by decide)
  generalize i % zeroT.cells.size = k at hi
  rw [e]
  intro z
  match k, hi with
  | 0, _ => intro h; cases h
  | 1, _ => intro h; cases h
  | 2, _ => intro h; cases h
  | 3, _ => intro h; cases h
  | 4, _ => intro h; cases h
theorem make_v (w : World) (M : Nat) (hM : M ≤ 2000000) : ∃ W, (Instr.makeSlice 33 (.int .i64 0) (.int .i64 (M : Int))).run Tryz.prog w = .ok (.slice (some ⟨w.heap.size, 0, none⟩) 0 M) W ∧ W = w.alloc (.cells (madeCells zeroT.cells (M * 5)) 74) ∧ OwnT W 0 (.slice (some ⟨w.heap.size, 0, none⟩) 0 M) [] := by
  obtain ⟨i, hi, hz, hs, hb⟩ := info_parts info_t5
  have under : Tryz.prog.underlying 33 = some (.slice 74) := by kernel_rfl
  have hr := run_make (P := Tryz.prog) w 33 74 i zeroT under hi hz .i64 .i64 0 (M : Int) (Int.le_refl _) (by omega) (by rw [hb]; omega) (by omega)
  simp only [Int.toNat_zero, Int.toNat_natCast, hs] at hr
  refine ⟨_, hr, rfl, World.ownsRow_made w _ M (Nat.zero_le _) (by unfold maxLen; omega) (size_madeCells _ _), ?_, _, _, _, rfl⟩
  intro g hg j u hj
  obtain rfl : w.heap.size = g := Option.some.inj hg
  rw [cell_of_row _ _ j _ _ _ (heap_alloc_new w _)] at hj
  exact made_no _ j u hj
theorem OutV.ret {w wl wx : World} {gO r0 : Nat} {l : List (Int × Rat)} {P : List (Int × Rat) → Prop} (h : OutV wl wx gO r0 l) (hb : Below w.heap.size w wl) (ho : w.heap.size ≤ gO) (hr : w.heap.size ≤ r0) (hp : P l) :
    ∃ v, wx.cell? ⟨gO, 0, none⟩ = some v ∧ RetV w P (.returned v) wx := by
  obtain ⟨v, zs, h1, h2, h3, h4, h5⟩ := h.ex
  obtain ⟨g, n, c, rfl⟩ := h2.some_
  refine ⟨_, by rw [cell_of_row _ _ 0 _ _ _ h1]; rfl, g, n, c, zs, rfl, h2, ?_, h3 ▸ hp, h4, h.near.new hb (fun b hb2 => by rcases hb2 with rfl | rfl; exact ho; exact hr)⟩
  rcases h5 with h5 | ⟨g', h5, h6⟩
  · obtain rfl : g = r0 := Option.some.inj h5
    exact hr
  · obtain rfl : g = g' := Option.some.inj h5
    exact Nat.le_trans hb.size h6
theorem through_all {X Y : List (Int × Rat)} {D : List (Int × Rat × Rat)} (h : Through X Y (fun _ _ => true) D) : Gone X Y D := by
  rcases h with ⟨h, _⟩ | ⟨s, _, _, _, h⟩
  · exact h
  · cases h
theorem kept_len (f : Rat → Rat → Rat) (D : List (Int × Rat × Rat)) : (kept f D).length ≤ D.length := by
  induction D with
  | nil => exact Nat.le_refl _
  | cons a D ih =>
    obtain ⟨a, v, w⟩ := a
    unfold kept
    split
    · exact Nat.le_succ_of_le ih
    · exact Nat.succ_le_succ ih
/-- joined's visitor does what the walk asks. -/
theorem joined_visit {w W : World} {gF g8 gP gO r0 M : Nat} {g : FuncId} {cb : Array Value} {f : Rat → Rat → Rat} {ok : Rat → Rat → Prop} {X Y : List (Int × Rat)} {N : Nat} (hd : Do w g cb f ok) (hb : Below w.heap.size w W) (hj : JB W gF g8 gP gO g cb) (hgO : W.heap[gO]? = some (.cells #[.slice (some ⟨r0, 0, none⟩) 0 M] 33 (0, 0))) (hown : OwnT W 0 (.slice (some ⟨r0, 0, none⟩) 0 M) []) (hF : gF ≠ gO ∧ gF ≠ r0 ∧ g8 ≠ gO ∧ g8 ≠ r0 ∧ gP ≠ gO ∧ gP ≠ r0 ∧ gO ≠ r0) (hwO : w.heap.size ≤ gO) (hwr : w.heap.size ≤ r0) (hok : ∀ a, ok (tot X a) (tot Y a)) (hN : N ≤ 2000000) :
    Visit 107 #[.pointer (some ⟨g8, 0, none⟩), .pointer (some ⟨gF, 0, none⟩)] W (fun b => b = gO ∨ b = r0) X Y N (fun wl wx D => Below W.heap.size W wl ∧ OutV wl wx gO r0 (kept f D)) (fun _ _ => true) where
  eg := enters_of Tryz.func107 (by kernel_rfl) rfl
  own b hb := by
    rcases hb with rfl | rfl
    · exact lt_of_block hgO
    · exact hown.lt rfl
  dig b hb := by
    rcases hb with rfl | rfl
    · intro i v hv z
      rw [cell_of_row _ _ i _ _ _ hgO] at hv
      match i with
      | 0 => obtain rfl := Option.some.inj hv; intro h; cases h
      | i + 1 => simp at hv
    · exact hown.all _ rfl
  start wl hl := ⟨hl, ⟨Near.refl _ _, .slice (some ⟨r0, 0, none⟩) 0 M, [], (hl.block gO (lt_of_block hgO)).trans hgO, hown.keep (fun g hg => hl.block g (hown.lt hg)), rfl, by simp, .inl rfl⟩⟩
  near wl wx D h := h.2.near
  keep wl wx wy D h hy := ⟨h.1, h.2.below hy⟩
  call wl wx D a sv Av nv cv tv Bv mv dv sw Aw nw cw tw Bw mw dw h hlen h1 h2 ha hb2 hD _ := by
    refine (visit_any hd ((h.2.near).new (hb.trans (h.1.mono hb.size)) (fun b hb => by rcases hb with rfl | rfl; exact hwO; exact hwr)) (hj.below h.1) h.2 (Nat.lt_of_lt_of_le (lt_of_block hgO) h.1.size) ⟨hF.1, hF.2.1, hF.2.2.1, hF.2.2.2.1⟩ hF.2.2.2.2.1 hF.2.2.2.2.2.1 hF.2.2.2.2.2.2 ⟨ha, hb2⟩ h1 h2 (hok a) (by have := kept_len f D; omega)).mono ?_
    rintro e wy ⟨rfl, ho⟩
    refine ⟨rfl, h.1, ?_⟩
    rw [kept_snoc]
    exact ho
set_option maxRecDepth 100000 in
set_option maxHeartbeats 4000000 in
theorem joined_any {w : World} {A : Option Addr} {n c : Nat} {B : Option Addr} {m d k : Nat} {xs ys : List (TV × Rat)} {g : FuncId} {cb : Array Value} {f : Rat → Rat → Rat} {ok : Rat → Rat → Prop} (hx : IsV w A n c xs k) (hy : IsV w B m d ys k) (hk : k ≤ 700) (hn : n ≤ 1000000) (hm : m ≤ 1000000) (hsx : Short (vals xs)) (hsy : Short (vals ys)) (hA : ∀ a, A = some a → a.block < w.heap.size) (hB : ∀ a, B = some a → a.block < w.heap.size) (hd : Do w g cb f ok) (hok : ∀ a, ok (tot (vals xs) a) (tot (vals ys) a)) :
    Calls Tryz.prog 70 #[.slice A n c, .slice B m d, .func (.func g) #[] cb] w (RetV w (fun l => ∃ D, Gone (vals xs) (vals ys) D ∧ l = kept f D)) := by
  obtain ⟨M, hM⟩ : ∃ M : Nat, max n m = M := ⟨_, rfl⟩
  have hML : M ≤ 1000000 := by omega
  have hMI : max (n : Int) (m : Int) = (M : Int) := by omega
  have HX := Lib.hid hx
  have HY := Lib.hid hy
  have HS : Hid (k ≤ 700 ∧ n ≤ 1000000 ∧ m ≤ 1000000 ∧ M ≤ 1000000) := ⟨hk, hn, hm, hML⟩
  have HSX := Lib.hid hsx
  have HSY := Lib.hid hsy
  have HA := Lib.hid hA
  have HB := Lib.hid hB
  have HD := Lib.hid hd
  have HOK := Lib.hid hok
  obtain ⟨W0, hW0⟩ : ∃ W, w.alloc (.cells #[.func (.func g) #[] cb] 61) = W := ⟨_, rfl⟩
  obtain ⟨W1, hmk, hW1, hO1⟩ := make_v W0 M (by omega)
  have h0 : W0.heap.size = w.heap.size + 1 := by rw [← hW0]; simp
  have h1 : W1.heap.size = w.heap.size + 2 := by rw [hW1]; simp [h0]
  have hb0 : Below w.heap.size w W0 := by rw [← hW0]; exact (Below.refl _ _).alloc (Nat.le_refl _) _
  have hb1 : Below W0.heap.size W0 W1 := by rw [hW1]; exact (Below.refl _ _).alloc (Nat.le_refl _) _
  have hf0 : W0.heap[w.heap.size]? = some (.cells #[.func (.func g) #[] cb] 61 (0, 0)) := by rw [← hW0]; exact heap_alloc_new w _
  obtain ⟨W2, hW2⟩ : ∃ W, W1.alloc (.cells #[.slice (some ⟨W0.heap.size, 0, none⟩) 0 M] 33) = W := ⟨_, rfl⟩
  have h2 : W2.heap.size = w.heap.size + 3 := by rw [← hW2]; simp [h1]
  have hb2 : Below W1.heap.size W1 W2 := by rw [← hW2]; exact (Below.refl _ _).alloc (Nat.le_refl _) _
  have hf2 : W2.heap[W1.heap.size]? = some (.cells #[.slice (some ⟨W0.heap.size, 0, none⟩) 0 M] 33 (0, 0)) := by rw [← hW2]; exact heap_alloc_new W1 _
  obtain ⟨W3, hW3⟩ : ∃ W, W2.alloc (.cells #[.pointer (some ⟨W1.heap.size, 0, none⟩)] 106) = W := ⟨_, rfl⟩
  have h3 : W3.heap.size = w.heap.size + 4 := by rw [← hW3]; simp [h2]
  have hb3 : Below W2.heap.size W2 W3 := by rw [← hW3]; exact (Below.refl _ _).alloc (Nat.le_refl _) _
  have hf3 : W3.heap[W2.heap.size]? = some (.cells #[.pointer (some ⟨W1.heap.size, 0, none⟩)] 106 (0, 0)) := by rw [← hW3]; exact heap_alloc_new W2 _
  obtain ⟨W4, hW4⟩ : ∃ W, W3.alloc (.cells #[.func (.func 122) #[] #[.pointer (some ⟨W2.heap.size, 0, none⟩)]] 104) = W := ⟨_, rfl⟩
  have h4 : W4.heap.size = w.heap.size + 5 := by rw [← hW4]; simp [h3]
  have hb4 : Below W3.heap.size W3 W4 := by rw [← hW4]; exact (Below.refl _ _).alloc (Nat.le_refl _) _
  have hf4 : W4.heap[W3.heap.size]? = some (.cells #[.func (.func 122) #[] #[.pointer (some ⟨W2.heap.size, 0, none⟩)]] 104 (0, 0)) := by rw [← hW4]; exact heap_alloc_new W3 _
  have hb24 : Below W2.heap.size W2 W4 := below_on hb3 hb4
  have hb14 : Below W1.heap.size W1 W4 := below_on hb2 hb24
  have hb04 : Below W0.heap.size W0 W4 := below_on hb1 hb14
  have HB4 : Hid (Below w.heap.size w W4) := below_on hb0 hb04
  have HV : Hid (Visit 107 #[.pointer (some ⟨W3.heap.size, 0, none⟩), .pointer (some ⟨w.heap.size, 0, none⟩)] W4 (fun b => b = W1.heap.size ∨ b = W0.heap.size) (vals xs) (vals ys) (n + m) (fun wl wx D => Below W4.heap.size W4 wl ∧ OutV wl wx W1.heap.size W0.heap.size (kept f D)) (fun _ _ => true)) :=
    joined_visit hd HB4.out ⟨(hb04.block _ (lt_of_block hf0)).trans hf0, hf4, (hb4.block _ (lt_of_block hf3)).trans hf3⟩ ((hb24.block _ (lt_of_block hf2)).trans hf2) (hO1.keep (fun g hg => hb14.block g (hO1.lt hg))) (by omega) (by omega) (by omega) hok (by omega)
  have HOA : Hid (Off (fun b => b = W1.heap.size ∨ b = W0.heap.size) A) := by intro a ha h; have := hA a ha; omega
  have HOB : Hid (Off (fun b => b = W1.heap.size ∨ b = W0.heap.size) B) := by intro a ha h; have := hB a ha; omega
  have HSZ : Hid (W0.heap.size = w.heap.size + 1 ∧ W1.heap.size = w.heap.size + 2) := ⟨h0, h1⟩
  clear hx hy hk hn hm hsx hsy hd hok hM hML hA hB hW1 hO1 h0 h1 h2 h3 h4 hb0 hb1 hb2 hb3 hb4 hf0 hf2 hf3 hf4 hb24 hb14 hb04
  go_enter Tryz.func70, Tryz.ntmps70
  go_upto_region 1 with fail
  go_upto_region 2 with fail
  clear hmk hW0
  go_wp2_with fail
  refine (behind_any W2 W1.heap.size).mono ?_
  rintro e w' ⟨rfl, rfl⟩
  clear hW2
  go_wp2_with fail
  refine (walk_any (HX.out.below HB4.out) (HY.out.below HB4.out) HS.out.1 HS.out.2.1 HS.out.2.2.1 HSX.out HSY.out HOA.out HOB.out HV.out).mono ?_
  rintro e w5 ⟨rfl, wl, D, hbl, ⟨_, ho⟩, ht⟩
  obtain ⟨v, hv, hret⟩ := ho.ret (w := w) (P := fun l => ∃ D, Gone (vals xs) (vals ys) D ∧ l = kept f D) (HB4.out.trans (hbl.mono HB4.out.size)) (by have := HSZ.out; omega) (by have := HSZ.out; omega) ⟨D, through_all ht, rfl⟩
  have HRET := Lib.hid hret
  clear ho ht hbl hret hW3 hW4
  go_wp2_with fail
  exact ⟨rfl, v, by simp [results, Tryz.results70, go_sem], HRET.out⟩
end Go.Proofs.YtmbnlhedbedcdaaGreat.V
