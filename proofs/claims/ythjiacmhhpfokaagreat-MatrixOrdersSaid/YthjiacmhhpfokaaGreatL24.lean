/- Part 24 of the proof: VMem, VOpen, VTk. -/
import Derived.Test.YthjiacmhhpfokaaGreatL23
import Derived.Deep.Slices
import Derived.OrdersHeld
import Derived.Deep.RegionHeld
namespace Go.Proofs.YthjiacmhhpfokaaGreat
open Go.Proofs.Tryz renaming prog → tz
open List renaming length_cons → lC
namespace V
open Lib renaming hid → lh
set_option maxRecDepth 100000
set_option maxHeartbeats 2000000
open Go.RowKit
open Q (IsQ OneQ RetQ Qbx put4 below_on)
structure TV where
 at_ : Int
 s : Bool
 A : Option Addr
 n : Nat
 c : Nat
 t : Bool
 B : Option Addr
 m : Nat
 d : Nat
instance : Inhabited TV := ⟨⟨0, false, none, 0, 0, false, none, 0, 0⟩⟩
def TV.enc (x : TV) : List Value := [.int .i64 x.at_, .bool x.s, .slice x.A x.n x.c, .bool x.t, .slice x.B x.m x.d]
def Row (w : World) (A : Option Addr) (xs : List TV) : Prop :=
 xs ≠ [] → ∃ b off, A = some ⟨b, off, none⟩ ∧ b < w.heap.size ∧ ∀ j x, xs[j]? = some x → ∀ i v, x.enc[i]? = some v → w.cell? ⟨b, off + j * 5 + i, none⟩ = some v
def TQ (w : World) (x : TV) (q : Rat) (k : Nat) : Prop := IsQ w x.s x.A x.n x.c x.t x.B x.m x.d q k ∧ -9223372036854775808 ≤ x.at_ ∧ x.at_ ≤ 9223372036854775807
structure IsV (w : World) (A : Option Addr) (n c : Nat) (ys : List (TV × Rat)) (k : Nat) : Prop where
 en : n = ys.length
 cap : n ≤ c
 row : Row w A (ys.map Prod.fst)
 tq : ∀ y ∈ ys, TQ w y.1 y.2 k
def vals (ys : List (TV × Rat)) : List (Int × Rat) := ys.map (fun y => (y.1.at_, y.2))
theorem Row.below {w w' : World} {A : Option Addr} {xs : List TV} (h : Row w A xs) (hb : Below w.heap.size w w') : Row w' A xs := by
 intro hne
 obtain ⟨b, off, e, hlt, hc⟩ := h hne
 exact ⟨b, off, e, Nat.lt_of_lt_of_le hlt hb.size, fun j x hj i v hv => (hb.cell (p := ⟨b, off + j * 5 + i, none⟩) hlt).trans (hc j x hj i v hv)⟩
theorem TQ.below {w w' : World} {x : TV} {q : Rat} {k : Nat} (h : TQ w x q k) (hb : Below w.heap.size w w') : TQ w' x q k := ⟨h.1.below hb, h.2⟩
theorem IsV.below {w w' : World} {A : Option Addr} {n c k : Nat} {ys : List (TV × Rat)} (h : IsV w A n c ys k) (hb : Below w.heap.size w w') : IsV w' A n c ys k :=
 ⟨h.en, h.cap, h.row.below hb, fun y hy => (h.tq y hy).below hb⟩
theorem Row.at_ {w : World} {A : Option Addr} {xs : List TV} (h : Row w A xs) {j : Nat} {x : TV} (hj : xs[j]? = some x) : ∃ b off, A = some ⟨b, off, none⟩ ∧ b < w.heap.size ∧
  w.cell? ⟨b, off + j * 5, none⟩ = some (.int .i64 x.at_) ∧ w.cell? ⟨b, off + j * 5 + 1, none⟩ = some (.bool x.s) ∧ w.cell? ⟨b, off + j * 5 + 2, none⟩ = some (.slice x.A x.n x.c) ∧ w.cell? ⟨b, off + j * 5 + 3, none⟩ = some (.bool x.t) ∧ w.cell? ⟨b, off + j * 5 + 4, none⟩ = some (.slice x.B x.m x.d) := by
 obtain ⟨b, off, e, hlt, hc⟩ := h (by intro e; rw [e] at hj; cases hj)
 exact ⟨b, off, e, hlt, hc j x hj 0 _ rfl, hc j x hj 1 _ rfl, hc j x hj 2 _ rfl, hc j x hj 3 _ rfl, hc j x hj 4 _ rfl⟩
theorem vals_at {ys : List (TV × Rat)} {i : Nat} {y : TV × Rat} (h : ys[i]? = some y) : (vals ys).drop i = (y.1.at_, y.2) :: (vals ys).drop (i + 1) := by
 obtain ⟨hi, e⟩ := List.getElem?_eq_some_iff.1 h
 unfold vals
 rw [List.drop_eq_getElem_cons (by simpa using hi), List.getElem_map, e]
theorem vals_len (ys : List (TV × Rat)) : (vals ys).length = ys.length := by unfold vals; rw [List.length_map]
theorem many_any {w : World} {A : Option Addr} {n c k : Nat} {ys : List (TV × Rat)} (h : IsV w A n c ys k) (a : Int) (hn : n ≤ 1000000000) :
  Calls tz 149 #[.slice A n c, .int .i64 a] w (fun e w' => e = .returned (.int .i64 ((lead (vals ys) a : Nat) : Int)) ∧ w' = w) := by
 have H := lh h
 have HLEN := lh h.en
 have HN := lh hn
 obtain ⟨L, hL⟩ : ∃ L, lead (vals ys) a = L := ⟨_, rfl⟩
 rw [hL]
 have HL := lh hL
 clear h hn hL
 go_enter Tryz.func149, Tryz.ntmps149
 go_wp2_with fail
 go_loop [5] (fun iv => ∃ i : Nat, i ≤ n ∧ iv = .int .i64 (i : Int) ∧ Hid (i + lead ((vals ys).drop i) a = L)) (fun iv => n - (intOf iv).toNat)
 case atStart => exact ⟨0, Nat.zero_le _, rfl, by show _ = _; rw [List.drop_zero, Nat.zero_add, HL.out]⟩
 case round =>
  obtain ⟨i, hi, rfl, HI⟩ := hrel
  by_cases hlt : i < n
  ·have hi1 : (i : Int) < (n : Int) := by omega
   have hi0 : (0 : Int) ≤ (i : Int) := by omega
   obtain ⟨y, hy⟩ : ∃ y, ys[i]? = some y := ⟨ys[i]'(by have := HLEN.out; omega), List.getElem?_eq_getElem (by have := HLEN.out; omega)⟩
   obtain ⟨b, off, hA, _, c0, c1, c2, c3, c4⟩ := H.out.row.at_ (j := i) (x := y.1) (by rw [List.getElem?_map, hy]; rfl)
   subst hA
   have hv := vals_at hy
   have HST : Hid (lead ((vals ys).drop i) a = if y.1.at_ = a then lead ((vals ys).drop (i + 1)) a + 1 else 0) := by show _ = _; rw [hv]; rfl
   obtain ⟨p, hp⟩ : ∃ p, y.1.at_ = p := ⟨_, rfl⟩
   rw [hp] at c0 HST
   have t1 : IntKind.i64.wrap ((i : Int) + 1) = ((i + 1 : Nat) : Int) := by
    have h := IntWalk.i64_in ((i : Int) + 1) (by have := HN.out; omega)
    rw [h]; omega
   clear hy hv c1 c2 c3 c4 hp
   by_cases hpa : p = a
   ·have b1 : (p == a) = true := beq_iff_eq.2 hpa
    have HS2 : Hid (i + 1 + lead ((vals ys).drop (i + 1)) a = L) := by
     have h1 := HI.out
     have h2 := HST.out
     rw [if_pos hpa] at h2
     show _ = _
     omega
    clear hpa
    go_wp2_with fail
    go_round
    case rel => exact ⟨i + 1, by omega, rfl, HS2⟩
    case measure => first | (simp [intOf]; done) | (simp [intOf]; omega)
   ·have b1 : (p == a) = false := beq_eq_false_iff_ne.2 hpa
    have HE : Hid (i = L) := by
     have h1 := HI.out
     have h2 := HST.out
     rw [if_neg hpa] at h2
     show _ = _
     omega
    clear hpa
    go_wp2_with fail
    go_ret
    rw [HE.out]
    exact ⟨rfl, rfl⟩
  ·have hi1 : ¬ (i : Int) < (n : Int) := by omega
   have HE : Hid (i = L) := by
    have h1 := HI.out
    rw [List.drop_eq_nil_of_le (by rw [vals_len]; have := HLEN.out; omega)] at h1
    exact h1
   go_wp2_with fail
   go_ret
   rw [HE.out]
   exact ⟨rfl, rfl⟩
theorem first_any {w : World} {A B : Option Addr} {n c m d k l : Nat} {xs ys : List (TV × Rat)} (h1 : IsV w A n c xs k) (h2 : IsV w B m d ys l) (hne : xs ≠ [] ∨ ys ≠ []) :
  Calls tz 148 #[.slice A n c, .slice B m d] w (fun e w' => e = .returned (.int .i64 (firstAt (vals xs) (vals ys))) ∧ Below w.heap.size w w') := by
 have HB := lh (Below.refl w.heap.size w)
 rcases xs with _ | ⟨x, xs⟩
 ·rcases ys with _ | ⟨y, ys⟩
  ·simp at hne
  ·have e1 := h1.en
   have e2 := h2.en
   obtain ⟨b, off, hA, _, c0, _⟩ := h2.row.at_ (j := 0) (x := y.1) rfl
   subst hA
   have g1 : ((n : Int) == 0) = true := by rw [e1]; rfl
   have g2 : (0 : Int) < (m : Int) := by rw [e2, lC]; omega
   have HF : Hid (firstAt (vals []) (vals (y :: ys)) = y.1.at_) := rfl
   clear h1 h2 hne e1 e2
   simp only [Nat.zero_mul, Nat.add_zero] at c0
   go_enter Tryz.func148, Tryz.ntmps148
   go_wp2_with fail
   go_ret
   rw [HF.out]
   exact ⟨rfl, HB.out⟩
 ·have e1 := h1.en
  obtain ⟨b, off, hA, _, c0, _⟩ := h1.row.at_ (j := 0) (x := x.1) rfl
  subst hA
  have g1 : ((n : Int) == 0) = false := by rw [e1, lC, beq_eq_false_iff_ne]; omega
  have g2 : (0 : Int) < (n : Int) := by rw [e1, lC]; omega
  simp only [Nat.zero_mul, Nat.add_zero] at c0
  rcases ys with _ | ⟨y, ys⟩
  ·have e2 := h2.en
   have g3 : ((m : Int) == 0) = true := by rw [e2]; rfl
   have HF : Hid (firstAt (vals (x :: xs)) (vals []) = x.1.at_) := rfl
   clear h1 h2 hne e1 e2
   go_enter Tryz.func148, Tryz.ntmps148
   go_wp2_with fail
   go_ret
   rw [HF.out]
   exact ⟨rfl, HB.out⟩
  ·have e2 := h2.en
   obtain ⟨b', off', hB, _, d0, _⟩ := h2.row.at_ (j := 0) (x := y.1) rfl
   subst hB
   simp only [Nat.zero_mul, Nat.add_zero] at d0
   have g3 : ((m : Int) == 0) = false := by rw [e2, lC, beq_eq_false_iff_ne]; omega
   have g4 : (0 : Int) < (m : Int) := by rw [e2, lC]; omega
   have HF : Hid (firstAt (vals (x :: xs)) (vals (y :: ys)) = min x.1.at_ y.1.at_) := rfl
   obtain ⟨p, hp⟩ : ∃ p, x.1.at_ = p := ⟨_, rfl⟩
   obtain ⟨q, hq⟩ : ∃ q, y.1.at_ = q := ⟨_, rfl⟩
   rw [hp] at c0 HF
   rw [hq] at d0 HF
   clear h1 h2 hne e1 e2 hp hq
   go_enter Tryz.func148, Tryz.ntmps148
   go_upto_region 5 with fail
   go_region
   all_goals
    go_wp2_with fail
    go_ret
    rw [HF.out]
    exact ⟨rfl, HB.out.drew⟩
end V

namespace V
open Go.ChangeShapes Go.WideShapes Go.ChangeAt Go.RowKit Go.Joins
open Q (IsQ IsRow open_int2 isq_rows)
set_option maxRecDepth 100000
theorem cellsT : Tryz.prog.cellsOf 67 = 5 := by kernel_rfl
theorem cellsN : Tryz.prog.cellsOf 3 = 1 := by kernel_rfl
theorem list_of {α : Type} {P : Nat → α → Prop} : ∀ n : Nat, (∀ i, i < n → ∃ x, P i x) → ∃ l : List α, l.length = n ∧ ∀ i x, l[i]? = some x → P i x
 | 0, _ => ⟨[], rfl, fun i x h => by simp at h⟩
 | n + 1, h => by
  obtain ⟨l, h1, h2⟩ := list_of n (fun i hi => h i (by omega))
  obtain ⟨x, hx⟩ := h n (by omega)
  refine ⟨l ++ [x], by simp [h1], fun i y hy => ?_⟩
  rcases Nat.lt_or_ge i n with hi | hi
  ·rw [List.getElem?_append_left (by omega)] at hy
   exact h2 i y hy
  ·rw [List.getElem?_append_right (by omega), h1] at hy
   have h3 := (List.getElem?_eq_some_iff.1 hy).1
   simp at h3
   obtain rfl : i = n := by omega
   simp at hy
   exact hy ▸ hx
theorem list_bound {α : Type} (f : α → Nat) : ∀ l : List α, ∃ k, ∀ x ∈ l, f x ≤ k
 | [] => ⟨0, fun _ h => by cases h⟩
 | a :: l => by
  obtain ⟨k, hk⟩ := list_bound f l
  refine ⟨max (f a) k, fun x hx => ?_⟩
  rcases List.mem_cons.1 hx with rfl | hx
  ·exact Nat.le_max_left _ _
  ·exact Nat.le_trans (hk x hx) (Nat.le_max_right _ _)
theorem add_flat {b off i : Nat} : (⟨b, off, none⟩ : Addr).add i = ⟨b, off + i, none⟩ := by
 unfold Addr.add
 by_cases h : i = 0
 ·subst h; simp
 ·simp [h]
theorem open_rat4 {H : Type} {enc : TypeId × Value → H} {W : World} {fuel : Nat} {c0 c1 c2 c3 : Value} {x : DataW H × List MemPlace} (h : DataW.trod enc tz W 0 (fun _ => true) true fuel 27 [c0, c1, c2, c3] = some x) :
  ∃ s a len cap zs t b len2 cap2 ys, c0 = .bool s ∧ c1 = .slice a len cap ∧ c2 = .bool t ∧ c3 = .slice b len2 cap2 ∧ IsRow W a len cap zs ∧ IsRow W b len2 cap2 ys := by
 obtain ⟨y0, y1, m, -, -, hy0, hy1⟩ := trod_struct2 Tryz.underlying27 h
 rw [Q.cellsI] at hy0 hy1
 have h0 : DataW.trod enc tz W 0 (fun _ => true) true m 25 [c0, c1] = some y0 := hy0
 have h1 : DataW.trod enc tz W 0 (fun _ => true) true m 25 [c2, c3] = some y1 := hy1
 obtain ⟨s, a, len, cap, zs, e0, e1, w0⟩ := open_int2 h0
 obtain ⟨t, b, len2, cap2, ys, e2, e3, w1⟩ := open_int2 h1
 exact ⟨s, a, len, cap, zs, t, b, len2, cap2, ys, e0, e1, e2, e3, w0, w1⟩
theorem slice_in {W : World} {r : Reach} {b0 : Nat} {t e : TypeId} {a : Addr} {len cap : Nat} (ht : Tryz.prog.underlying t = some (.slice e)) (hv : Value.okWide tz W r b0 t (.slice (some a) len cap)) : ∃ b off, a = ⟨b, off, none⟩ ∧ b < W.heap.size := by
 unfold Value.okWide at hv
 simp only [ht] at hv
 unfold Cell.okWide at hv
 simp only [ht] at hv
 unfold Cell.ok at hv
 simp only [ht] at hv
 obtain ⟨_, _, _, hs, row, cells, hsh, _⟩ := hv
 refine ⟨a.block, a.off, ?_, ?_⟩
 ·cases a; simp at hs; subst hs; rfl
 ·unfold World.shape? at hsh
  split at hsh
  ·next c elem fz h => exact (Array.getElem?_eq_some_iff.1 h).1
  ·cases hsh
theorem terms_of {H : Type} {enc : TypeId × Value → H} {W : World} {fuel len : Nat} {b off : Nat} {D : Nat → DataW H} {Pl : Nat → List MemPlace} (hx : ∀ i, i < len → ∃ cs', W.cells? 0 ((⟨b, off, none⟩ : Addr).add (i * Tryz.prog.cellsOf 67)) (Tryz.prog.cellsOf 67) = some cs' ∧ DataW.trod enc tz W 0 (fun _ => true) true fuel 67 cs' = some (D i, Pl i)) :
  ∃ ys : List (TV × Rat), ys.length = len ∧ (∀ j y, ys[j]? = some y → ∀ i v, y.1.enc[i]? = some v → W.cell? ⟨b, off + j * 5 + i, none⟩ = some v) ∧ ∃ k, ∀ y ∈ ys, TQ W y.1 y.2 k := by
 have one : ∀ i, i < len → ∃ y : TV × Rat, (∀ j v, y.1.enc[j]? = some v → W.cell? ⟨b, off + i * 5 + j, none⟩ = some v) ∧ TQ W y.1 y.2 (max y.1.n y.1.m) := by
  intro i hi
  obtain ⟨cs, h1, h2⟩ := hx i hi
  rw [cellsT] at h1
  obtain ⟨_, hl, hc⟩ := World.cells?_some h1
  obtain ⟨y0, y1, m, -, -, hy0, hy1⟩ := trod_struct2 Tryz.underlying67 h2
  match cs, hl with
  | [c0, c1, c2, c3, c4], _ =>
   rw [cellsN] at hy0
   rw [Q.cellsQ] at hy1
   have h0 : DataW.trod enc tz W 0 (fun _ => true) true m 3 [c0] = some y0 := hy0
   have h4 : DataW.trod enc tz W 0 (fun _ => true) true m 27 [c1, c2, c3, c4] = some y1 := hy1
   obtain ⟨n, e0, -, hw⟩ := DataW.trod_int Tryz.underlying3 h0
   obtain rfl : c0 = .int .i64 n := by simpa using e0
   have hb := bounds_i64 hw
   obtain ⟨s, a, l, c, zs, t, b', l2, c2', us, rfl, rfl, rfl, rfl, w0, w1⟩ := open_rat4 h4
   obtain ⟨q, hq⟩ := isq_rows (s := s) (t := t) w0 w1
   refine ⟨(⟨n, s, a, l, c, t, b', l2, c2'⟩, q), fun j v hj => ?_, hq, hb.1, by show n ≤ _; omega⟩
   have hj5 : j < 5 := by
    have := (List.getElem?_eq_some_iff.1 hj).1
    simpa [TV.enc] using this
   have h5 := hc j hj5
   rw [Addr.add_add, add_flat] at h5
   rw [Nat.add_assoc, h5]
   exact hj
 obtain ⟨ys, h1, h2⟩ := list_of len one
 obtain ⟨k, hk⟩ := list_bound (fun y : TV × Rat => max y.1.n y.1.m) ys
 refine ⟨ys, h1, fun j y hy i v hv => (h2 j y hy).1 i v hv, k, fun y hy => ?_⟩
 obtain ⟨j, hj⟩ := List.getElem?_of_mem hy
 have h3 := (h2 j y hj).2
 exact ⟨h3.1.mono (hk y hy), h3.2⟩
theorem open_terms {H : Type} {enc : TypeId × Value → H} {W : World} {r : Reach} {b0 : Nat} {t : TypeId} {v : Value} {d : DataW H} {p : List MemPlace} (ht : Tryz.prog.underlying t = some (.slice 67)) (hv : Value.okWide tz W r b0 t v) (h : DataW.Trod enc tz W 0 (fun _ => true) true t v d p) :
  ∃ A n c ys k, v = .slice A n c ∧ IsV W A n c ys k ∧ ∀ a, A = some a → a.block < W.heap.size := by
 obtain ⟨a0, len0, cap0, rfl⟩ := okWide_slice ht hv
 obtain ⟨fuel, hf⟩ := h
 rcases Go.Deep.open_slice ht hf with ⟨e, _⟩ | ⟨a, len, cap, m, n, D, Pl, e, _, hl, hm, hmm, _, hx⟩
 ·obtain ⟨rfl, rfl, rfl⟩ : a0 = none ∧ len0 = 0 ∧ cap0 = 0 := by simpa [Value.cells] using e
  exact ⟨none, 0, 0, [], 0, rfl, ⟨rfl, Nat.le_refl _, fun h => absurd rfl h, fun _ h => by cases h⟩, fun _ h => by cases h⟩
 ·obtain ⟨rfl, rfl, rfl⟩ : a0 = some a ∧ len0 = len ∧ cap0 = cap := by simpa [Value.cells] using e
  obtain ⟨b, off, rfl, hlt⟩ := slice_in ht hv
  simp only [if_pos] at hmm
  obtain ⟨ys, h1, h2, k, h3⟩ := terms_of (len := len0) (fun i hi => hx i (by omega))
  refine ⟨_, _, _, ys, k, rfl, ⟨h1.symm, hl, fun _ => ⟨b, off, rfl, hlt, fun j x hj i v hv => ?_⟩, h3⟩, fun a ha => by obtain rfl := Option.some.inj ha; exact hlt⟩
  rw [List.getElem?_map] at hj
  obtain ⟨y, hy, rfl⟩ := Option.map_eq_some_iff.1 hj
  exact h2 j y hy i v hv
end V

namespace V
open List renaming getElem_toArray → gY, getElem_cons_zero → gZ, getElem_cons_succ → gJ, setIfInBounds_toArray → sT, set_cons_zero → sZ, set_cons_succ → sS
theorem tK {P : Program} {ops : Array Oper} {Q : Exit → Act → World → Prop} {md : Region.Mode} {S : World → Prop} (i : Nat) {oi : Oper} {v : Value} {fuel : Nat} {listed : Array Bool} {a : Act} {w : World} (h : wpAnyH P md ops Q S fuel (listed.setIfInBounds i true) (a.put oi.dst v) w) (hi : ops[i]? = some oi := by exact rfl) (hs : Region.noSelect ops = true := by kernel_rfl) (hf : Region.free md ops listed i = true := by kernel_rfl) (hr : (Region.ready md ops listed).contains i = true := by kernel_rfl) (hQ : ∀ c a w, Q (.panic c) (a.put oi.dst v) w → Q (.panic c) a w := by exact fun _ _ _ h => h) (hw : Region.wanted oi (yielded ops a.tmps) = true := by rfl) (hy : ∀ w, S w → (execOp a.eval oi).run P w = .ok (.value v) w := by (intro w hSw; (try dsimp only at hSw); try simp only [gY, gZ, gJ]; go_simp; (try with_reducible rfl))) (hS : S w := by assumption) : wpAnyH P md ops Q S (fuel + 1) listed a w :=
  wpAnyH_take hi hs hf hr hQ (Or.inl ⟨hw, hy⟩) hS h
theorem sK {P : Program} {ops : Array Oper} {Q : Exit → Act → World → Prop} {md : Region.Mode} {S : World → Prop} (i : Nat) {oi : Oper} {fuel : Nat} {listed : Array Bool} {a : Act} {w : World} (h : wpAnyH P md ops Q S fuel (listed.setIfInBounds i true) (a.put oi.dst undef) w) (hi : ops[i]? = some oi := by exact rfl) (hs : Region.noSelect ops = true := by kernel_rfl) (hf : Region.free md ops listed i = true := by kernel_rfl) (hr : (Region.ready md ops listed).contains i = true := by kernel_rfl) (hQ : ∀ c a w, Q (.panic c) (a.put oi.dst undef) w → Q (.panic c) a w := by exact fun _ _ _ h => h) (hw : Region.wanted oi (yielded ops a.tmps) = false := by rfl) (hS : S w := by assumption) : wpAnyH P md ops Q S (fuel + 1) listed a w :=
  wpAnyH_take hi hs hf hr hQ (Or.inr ⟨hw, rfl⟩) hS h
theorem rQ {P : Program} {ops : Array Oper} {Q : Exit → Act → World → Prop} {md : Region.Mode} {S : World → Prop} (i : Nat) {o : Oper} {fuel : Nat} {listed : Array Bool} {a : Act} {w : World} (h : ∀ K' : Act → World → Prop, Shut (∀ a w, S w → (S w → wpAnyH P md ops Q S fuel (listed.setIfInBounds i true) a w) → K' a w) → if Region.wanted o (yielded ops a.tmps) = true then Oper.wp P o a w K' Q else K' (a.put o.dst undef) w) (ho : ops[i]? = some o := by exact rfl) (hr : Region.ready md ops listed = [i] := by kernel_rfl) : wpAnyH P md ops Q S (fuel + 1) listed a w :=
  wpAnyH_ready hr (by simp) (AllReadyH.cons ho h AllReadyH.nil)
