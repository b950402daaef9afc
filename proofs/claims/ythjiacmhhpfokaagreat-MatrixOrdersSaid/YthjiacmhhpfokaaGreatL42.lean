/- Part 42 of the proof: MxMap, VSameInts, MxPerm, MxInv. -/
import Derived.Maps.OwnSet
import Derived.Test.YthjiacmhhpfokaaGreatL40
namespace Go.Proofs.YthjiacmhhpfokaaGreat
open Lib renaming hid → lh
open Go.Proofs.Tryz renaming prog → tz
open Nat renaming le_refl → lR
open List renaming getElem?_eq_getElem → gE
namespace V
open Go.RowKit Go.Maps
open Q (IsQ OneQ RetQ below_on ql Qbx)
def anyElem (v : Value) : Option (DataW Value × List MemPlace) := some (.held v, [])
theorem lawI : Keyed tz 3 := int_keyed Tryz.underlying3
theorem keyI {a : Int} (h : -9223372036854775808 ≤ a ∧ a ≤ 9223372036854775807) : keyOf tz 3 (.int .i64 a) = some (.int .i64 a) := keyOf_int_mk Tryz.underlying3 (WalkArith.wf_i64 (by omega))
theorem run_makeMap_hint {P : Program} (t k e : TypeId) (kd : IntKind) (n : Int) (ht : P.underlying t = some (.map k e)) (w : World) :
  (Instr.makeMap t (some (.int kd n))).run P w = .ok (.map (some w.heap.size)) (w.alloc (.map #[] 0)) := by
 simp [Instr.makeMap, run_underlying ht]; rfl
structure IMap (w : World) (b n : Nat) (M : Int → Option Value) : Prop where
 ex : ∃ D : DataW Value, w.ownsMap tz 3 anyElem b n D ∧ ∀ a, -9223372036854775808 ≤ a ∧ a ≤ 9223372036854775807 → Maps.has D (.int .i64 a) = (M a).isSome ∧ ∀ z, D.atKey (.int .i64 a) (.held z) = .held ((M a).getD z)
theorem IMap.made (w : World) : IMap (w.alloc (.map #[] 0)) w.heap.size 0 (fun _ => none) :=
 ⟨.map [], World.ownsMap_made _ _ _ _, fun _ _ => ⟨rfl, fun _ => rfl⟩⟩
theorem IMap.lt {w : World} {b n : Nat} {M : Int → Option Value} (h : IMap w b n M) : b < w.heap.size := by
 obtain ⟨D, h1, _⟩ := h.ex; exact h1.lt
theorem IMap.block {w w' : World} {b n : Nat} {M : Int → Option Value} (h : IMap w b n M) (e : w'.heap[b]? = w.heap[b]?) : IMap w' b n M := by
 obtain ⟨D, ⟨es, clock, hb, r⟩, h2⟩ := h.ex
 exact ⟨D, ⟨es, clock, e.trans hb, r⟩, h2⟩
theorem IMap.below {w w' : World} {b n : Nat} {M : Int → Option Value} (h : IMap w b n M) (hb : Below w.heap.size w w') : IMap w' b n M := h.block (hb.block b h.lt)
theorem IMap.look {w : World} {b n : Nat} {M : Int → Option Value} (h : IMap w b n M) {t e : TypeId} (ht : Tryz.prog.underlying t = some (.map 3 e)) {z : Value} (hz : (zeroValue e).run tz w = .ok z w) (a : Int) (ha : -9223372036854775808 ≤ a ∧ a ≤ 9223372036854775807) :
  (Instr.lookup t (.map (some b)) (.int .i64 a) true).run tz w = .ok (.tuple #[(M a).getD z, .bool (M a).isSome]) w := by
 obtain ⟨D, h1, h2⟩ := h.ex
 obtain ⟨v, ps, hr, hv⟩ := h1.look_ok lawI ht hz (zd := .held z) (zp := []) rfl (keyI ha)
 rw [(h2 a ha).1, (h2 a ha).2 z] at *
 have e : v = (M a).getD z := (show v = (M a).getD z ∧ ps = [] by simpa [anyElem] using hv).1
 rw [hr, e]
theorem IMap.at_ {w : World} {b n : Nat} {M : Int → Option Value} (h : IMap w b n M) {t e : TypeId} (ht : Tryz.prog.underlying t = some (.map 3 e)) {z : Value} (hz : (zeroValue e).run tz w = .ok z w) (a : Int) (ha : -9223372036854775808 ≤ a ∧ a ≤ 9223372036854775807) :
  (Instr.lookup t (.map (some b)) (.int .i64 a) false).run tz w = .ok ((M a).getD z) w := by
 obtain ⟨D, h1, h2⟩ := h.ex
 obtain ⟨v, ps, hr, hv⟩ := h1.lookup lawI ht hz (zd := .held z) (zp := []) rfl (keyI ha)
 rw [(h2 a ha).2 z] at hv
 have e : v = (M a).getD z := (show v = (M a).getD z ∧ ps = [] by simpa [anyElem] using hv).1
 rw [hr, e]
theorem IMap.put {w : World} {b n : Nat} {M : Int → Option Value} (h : IMap w b n M) {t e : TypeId} (ht : Tryz.prog.underlying t = some (.map 3 e)) (hn : n ≤ 1000000) (a : Int) (ha : -9223372036854775808 ≤ a ∧ a ≤ 9223372036854775807) (v : Value) :
  ∃ w', (Instr.mapUpdate t (.map (some b)) (.int .i64 a) v).run tz w = .ok () w' ∧ IMap w' b (n + 1) (fun x => if x = a then some v else M x) ∧ w.grownBy w' (some b) := by
 obtain ⟨D, h1, h2⟩ := h.ex
 obtain ⟨w', hr, ho, hg⟩ := h1.update lawI ht (by unfold maxLen; omega) (keyI ha) (val := v) (d := .held v) (ps := []) rfl
 have hM := h1.isMap
 have hk : WideAt.IsKeyLit (.int .i64 a) := lawI.key (keyI ha)
 refine ⟨w', hr, ⟨_, ho, fun x hx => ?_⟩, hg⟩
 by_cases e : x = a
 ·subst e
  rw [if_pos rfl]
  exact ⟨has_put_same hM hk _, fun z => atKey_put_same hM hk _ _⟩
 ·have hne : (Lit.int .i64 x) ≠ Lit.int .i64 a := fun h => e (by injection h)
  rw [if_neg e, has_put_other hne]
  exact ⟨(h2 x hx).1, fun z => by rw [atKey_put_other hne]; exact (h2 x hx).2 z⟩
theorem zeroI (w : World) : (zeroValue 3).run tz w = .ok (.int .i64 0) w := by kernel_rfl
theorem zeroRat (w : World) : (zeroValue 27).run tz w = .ok (.agg #[.bool false, .slice none 0 0, .bool false, .slice none 0 0]) w := by kernel_rfl
end V

namespace V
open Go.RowKit
open Q (below_on)
def RowI (w : World) (A : Option Addr) (xs : List Int) : Prop := xs ≠ [] → ∃ b off, A = some ⟨b, off, none⟩ ∧ b < w.heap.size ∧ ∀ (j : Nat) x, xs[j]? = some x → w.cell? ⟨b, off + j, none⟩ = some (.int .i64 x)
theorem rowi_at {w : World} {A : Option Addr} {xs : List Int} (h : RowI w A xs) {j : Nat} {x : Int} (hj : xs[j]? = some x) : ∃ b off, A = some ⟨b, off, none⟩ ∧ ∀ V, Below w.heap.size w V → V.cell? ⟨b, off + j, none⟩ = some (.int .i64 x) := by
 obtain ⟨b, off, e, hlt, hc⟩ := h (by intro e; rw [e] at hj; simp at hj)
 exact ⟨b, off, e, fun V hV => (hV.cell (p := ⟨b, off + j, none⟩) hlt).trans (hc j _ hj)⟩
set_option maxRecDepth 100000 in
set_option maxHeartbeats 4000000 in
theorem sameints_any {w : World} {A B : Option Addr} {n c m d : Nat} {xs ys : List Int} (hx : RowI w A xs) (hy : RowI w B ys) (hn : n = xs.length) (hm : m = ys.length) (hl : n ≤ 1000000) (v : Bool) (hv : v = true ↔ xs = ys) : Calls tz 56 #[.slice A n c, .slice B m d] w (RetB w v) := by
 have HXR := lh hx
 have HYR := lh hy
 have HXL := lh hn
 have HYL := lh hm
 have HL := lh hl
 have BV : Hid (∀ c : Bool, (c = true ↔ xs = ys) → c = v) := fun c hc => Bool.eq_iff_iff.2 (hc.trans hv.symm)
 have HB := lh (Below.refl w.heap.size w)
 by_cases hnm : n = m
 ·have g0 : ((n : Int) != (m : Int)) = false := by rw [hnm]; exact bne_self_eq_false _
  have HNM := lh hnm
  clear hx hy hn hm hl hv hnm
  go_enter Tryz.func56, Tryz.ntmps56
  go_wp2_with fail
  go_loopw [5] (fun iv wr => ∃ i : Nat, i ≤ n ∧ iv = .int .i64 (i : Int) ∧ Hid (Below w.heap.size w wr) ∧ Hid (∀ j, j < i → xs[j]? = ys[j]?)) (fun iv _ => n - (intOf iv).toNat)
  case atStart => exact ⟨0, Nat.zero_le _, rfl, HB, fun j hj => absurd hj (Nat.not_lt_zero j)⟩
  case round =>
   clear HB
   obtain ⟨i, hi, rfl, HB, HG⟩ := hrel
   by_cases hlt : i < n
   ·have hi1 : (i : Int) < (n : Int) := by omega
    have hi0 : (0 : Int) ≤ (i : Int) := by omega
    have hi2 : (i : Int) < (m : Int) := by have := HNM.out; omega
    have hwi : IntKind.i64.wrap ((i : Int) + 1) = (i : Int) + 1 := by have := HL.out; rw [IntKind.wrap_i64]; omega
    obtain ⟨x, hx⟩ : ∃ x, xs[i]? = some x := ⟨xs[i]'(by have := HXL.out; omega), gE (by have := HXL.out; omega)⟩
    obtain ⟨y, hy⟩ : ∃ y, ys[i]? = some y := ⟨ys[i]'(by have := HYL.out; omega), gE (by have := HYL.out; omega)⟩
    obtain ⟨b1, off, hA, hk1⟩ := rowi_at HXR.out hx
    obtain ⟨b2, off', hB, hk2⟩ := rowi_at HYR.out hy
    have h1 := hk1 _ HB.out
    have h2 := hk2 _ HB.out
    have HX := lh hx
    have HY := lh hy
    subst hA hB
    clear hx hy hk1 hk2
    by_cases hxy : x = y
    ·have b1 : (x == y) = true := beq_iff_eq.2 hxy
     have b2 : (x != y) = false := by rw [hxy]; exact bne_self_eq_false _
     have HE := lh hxy
     clear hxy
     go_wp2
     go_quiet (fail)
     go_wp2
     go_roundw
     case rel =>
      refine ⟨i + 1, by omega, by go_num, below_drewN HB.out _, fun j hj => ?_⟩
      rcases Nat.lt_or_ge j i with h | h
      ·exact HG.out j h
      ·obtain rfl : j = i := by omega
       rw [HX.out, HY.out, HE.out]
     case measure => simp [intOf]; omega
    ·have b1 : (x == y) = false := beq_eq_false_iff_ne.2 hxy
     have b2 : (x != y) = true := bne_iff_ne.2 hxy
     have HE : Hid (false = v) := BV.out false ⟨fun h => (by cases h), fun h => by
      have h3 := HX.out
      rw [h, HY.out] at h3
      exact absurd (Option.some.inj h3).symm hxy⟩
     clear hxy
     go_wp2
     go_quiet (fail)
     go_wp2
     go_ret
     rw [← HE.out]
     exact ⟨rfl, below_drewN HB.out _⟩
   ·have hi1 : ¬ (i : Int) < (n : Int) := by omega
    have HE : Hid (true = v) := BV.out true ⟨fun _ => List.ext_getElem? fun j => by
     rcases Nat.lt_or_ge j i with h | h
     ·exact HG.out j h
     ·rw [List.getElem?_eq_none (by have := HXL.out; omega), List.getElem?_eq_none (by have := HYL.out; have := HNM.out; omega)], fun _ => rfl⟩
    go_wp2
    go_ret
    rw [← HE.out]
    exact ⟨rfl, HB.out⟩
 ·have g0 : ((n : Int) != (m : Int)) = true := bne_iff_ne.2 (by omega)
  have HE : Hid (false = v) := BV.out false ⟨fun h => (by cases h), fun h => absurd (by rw [hn, hm, h]) hnm⟩
  clear hx hy hn hm hl hv hnm
  go_enter Tryz.func56, Tryz.ntmps56
  go_wp2
  go_ret
  rw [← HE.out]
  exact ⟨rfl, HB.out⟩
end V

namespace V
open Go.RowKit
open Q (IsQ OneQ RetQ below_on ql Qbx)
def Ord (xs : List Int) : Prop := (∀ x ∈ xs, 0 ≤ x ∧ x < (xs.length : Int)) ∧ xs.Nodup
def Seen (xs : List Int) (i : Nat) (M : Int → Option Value) : Prop := ∀ a, (a ∉ xs.take i → M a = none) ∧ ∀ j : Nat, j < i → xs[j]? = some a → M a = some (.int .i64 (j : Int))
theorem Seen.zero (xs : List Int) : Seen xs 0 (fun _ => none) := fun _ => ⟨fun _ => rfl, fun j hj => absurd hj (Nat.not_lt_zero j)⟩
theorem take_snoc {xs : List Int} {i : Nat} {x : Int} (hx : xs[i]? = some x) : xs.take (i + 1) = xs.take i ++ [x] := by rw [List.take_add_one, hx]; rfl
theorem in_take {xs : List Int} {i j : Nat} {x : Int} (hj : j < i) (hx : xs[j]? = some x) : x ∈ xs.take i := List.mem_of_getElem? (i := j) (by rw [List.getElem?_take, if_pos hj]; exact hx)
theorem Seen.some_ {xs : List Int} {i : Nat} {M : Int → Option Value} (h : Seen xs i M) {a : Int} (ha : a ∈ xs.take i) : (M a).isSome = true := by
 obtain ⟨j, hj⟩ := List.getElem?_of_mem ha
 rw [List.getElem?_take] at hj
 split at hj
 ·next hji => rw [(h a).2 j hji hj]; rfl
 ·cases hj
theorem Seen.succ {xs : List Int} {i : Nat} {x : Int} {M : Int → Option Value} (h : Seen xs i M) (hx : xs[i]? = some x) (h1 : x ∉ xs.take i) : Seen xs (i + 1) (fun a => if a = x then some (.int .i64 (i : Int)) else M a) := by
 intro a
 refine ⟨fun ha => ?_, fun j hj hxj => ?_⟩
 ·rw [take_snoc hx, List.mem_append, List.mem_singleton, not_or] at ha
  show (if a = x then _ else _) = _
  rw [if_neg ha.2]
  exact (h a).1 ha.1
 ·show (if a = x then _ else _) = _
  by_cases e : j = i
  ·subst e
   obtain rfl : a = x := Option.some.inj (hxj.symm.trans hx)
   rw [if_pos rfl]
  ·have hji : j < i := by omega
   rw [if_neg (fun e2 : a = x => h1 (by rw [← e2]; exact in_take hji hxj))]
   exact (h a).2 j hji hxj
def OrdTo (xs : List Int) (i : Nat) : Prop := (∀ x ∈ xs.take i, 0 ≤ x ∧ x < (xs.length : Int)) ∧ (xs.take i).Nodup
theorem OrdTo.zero (xs : List Int) : OrdTo xs 0 := ⟨fun x h => by simp at h, by simp⟩
theorem OrdTo.succ {xs : List Int} {i : Nat} {x : Int} (h : OrdTo xs i) (hx : xs[i]? = some x) (h1 : x ∉ xs.take i) (h2 : 0 ≤ x ∧ x < (xs.length : Int)) : OrdTo xs (i + 1) := by
 have e : xs.take (i + 1) = xs.take i ++ [x] := by rw [List.take_add_one, hx]; rfl
 refine ⟨fun y hy => ?_, ?_⟩
 ·rw [e] at hy
  rcases List.mem_append.1 hy with hy | hy
  ·exact h.1 y hy
  ·obtain rfl := List.mem_singleton.1 hy; exact h2
 ·rw [e, List.nodup_append]
  exact ⟨h.2, by simp, fun a ha b hb e2 => by obtain rfl := List.mem_singleton.1 hb; exact h1 (e2 ▸ ha)⟩
theorem OrdTo.all {xs : List Int} {i : Nat} (h : OrdTo xs i) (hi : xs.length ≤ i) : Ord xs := by
 unfold OrdTo at h
 rw [List.take_of_length_le hi] at h
 exact h
theorem ord_not {xs : List Int} {i : Nat} {x : Int} (hx : xs[i]? = some x) (h : x ∈ xs.take i ∨ ¬ (0 ≤ x ∧ x < (xs.length : Int))) : ¬ Ord xs := by
 rintro ⟨h1, h2⟩
 rcases h with h | h
 ·obtain ⟨j, hj⟩ := List.getElem?_of_mem h
  have hji : j < i := by
   have := (List.getElem?_eq_some_iff.1 hj).1
   rw [List.length_take] at this; omega
  rw [List.getElem?_take, if_pos hji] at hj
  have h3 := (List.pairwise_iff_getElem.1 h2) j i (List.getElem?_eq_some_iff.1 hj).1 (List.getElem?_eq_some_iff.1 hx).1 hji
  rw [(List.getElem?_eq_some_iff.1 hj).2, (List.getElem?_eq_some_iff.1 hx).2] at h3
  exact h3 rfl
 ·exact h (h1 x (List.mem_of_getElem? hx))
structure RI (w : World) (A : Option Addr) (n : Nat) (xs : List Int) : Prop where
 row : RowI w A xs
 en : n = xs.length
 le : n ≤ 1000
 rng : ∀ x ∈ xs, -9223372036854775808 ≤ x ∧ x ≤ 9223372036854775807
def RetSeen (w : World) (xs : List Int) (v : Bool) (e : Ending) (w' : World) : Prop := Below w.heap.size w w' ∧ (v = false ∧ e = .returned (.tuple #[.map none, .bool false]) ∨ v = true ∧ ∃ b M, e = .returned (.tuple #[.map (some b), .bool true]) ∧ IMap w' b xs.length M ∧ Seen xs xs.length M)
set_option maxRecDepth 100000 in
set_option maxHeartbeats 4000000 in
theorem seen_any {w : World} {A : Option Addr} {n c : Nat} {xs : List Int} (h : RI w A n xs) (v : Bool) (hv : v = true ↔ Ord xs) : Calls tz 103 #[.slice A n c] w (RetSeen w xs v) := by
 have H := lh h
 have HEN := lh h.en
 have HLE := lh h.le
 have HV := lh hv
 have hmm : ∀ W : World, (Instr.makeMap 118 (some (.int .i64 (n : Int)))).run tz W = .ok (.map (some W.heap.size)) (W.alloc (.map #[] 0)) := fun W => run_makeMap_hint _ _ _ _ _ Tryz.underlying118 W
 have hM0 : IMap (w.alloc (.map #[] 0)) w.heap.size 0 (fun _ => none) := IMap.made w
 have hb0 : Below w.heap.size w (w.alloc (.map #[] 0)) := (Below.refl _ _).alloc (lR _) _
 have HM0 := lh hM0
 have HB0 := lh hb0
 clear h hv hM0 hb0
 go_enter Tryz.func103, Tryz.ntmps103
 go_wp2_with fail
 go_loopw [14] (fun iv wr => ∃ (i : Nat) (M : Int → Option Value), i ≤ n ∧ iv = .int .i64 (i : Int) ∧ Hid (IMap wr w.heap.size i M) ∧ Hid (Seen xs i M) ∧ Hid (OrdTo xs i) ∧ Hid (Below w.heap.size w wr)) (fun iv _ => n - (intOf iv).toNat)
 case atStart => exact ⟨0, _, Nat.zero_le _, rfl, HM0, Seen.zero xs, OrdTo.zero xs, HB0⟩
 case round =>
  clear HM0 HB0 hmm
  obtain ⟨i, M, hi, rfl, HM, HS, HO, HB⟩ := hrel
  by_cases hlt : i < n
  ·have hi1 : (i : Int) < (n : Int) := by omega
   have hi0 : (0 : Int) ≤ (i : Int) := by omega
   have hwi : IntKind.i64.wrap ((i : Int) + 1) = (i : Int) + 1 := by have := HLE.out; rw [IntKind.wrap_i64]; omega
   obtain ⟨x, hx⟩ : ∃ x, xs[i]? = some x := ⟨xs[i]'(by have := HEN.out; omega), gE (by have := HEN.out; omega)⟩
   obtain ⟨b1, off, hA, hk1⟩ := rowi_at H.out.row hx
   have c0 := hk1 _ HB.out
   subst hA
   have HX := lh hx
   have HXR := lh (H.out.rng x (List.mem_of_getElem? hx))
   have hlk := HM.out.look Tryz.underlying118 (zeroI wr) x HXR.out
   obtain ⟨mv, hmv⟩ : ∃ v, (M x).getD (.int .i64 0) = v := ⟨_, rfl⟩
   obtain ⟨mb, hmb⟩ : ∃ v, (M x).isSome = v := ⟨_, rfl⟩
   rw [hmv, hmb] at hlk
   have HMB := lh hmb
   clear hx hk1 hmv hmb
   cases mb with
   | true =>
    have HNO : Hid (¬ Ord xs) := ord_not HX.out (.inl (Classical.byContradiction fun hn => by have := HMB.out; rw [(HS.out x).1 hn] at this; cases this))
    have HE : Hid (v = false) := by
     cases v with
     | false => rfl
     | true => exact absurd (HV.out.1 rfl) HNO.out
    go_wp2_with fail
    exact ⟨rfl, .tuple #[.map none, .bool false], by simp [results, Tryz.results103, go_sem], HB.out, .inl ⟨HE.out, rfl⟩⟩
   | false =>
    have HNI : Hid (x ∉ xs.take i) := fun hin => by
     have h1 := HS.out.some_ hin
     have h2 := HMB.out
     rw [h1] at h2; cases h2
    by_cases hr : 0 ≤ x ∧ x < (n : Int)
    ·have HWI : Hid (decide (0 ≤ x ∧ x < (n : Int)) = true) := decide_eq_true hr
     have HO2 : Hid (OrdTo xs (i + 1)) := HO.out.succ HX.out HNI.out (by rw [← HEN.out]; exact hr)
     clear hr
     go_wp2_with fail
     clear hlk c0
     refine (within_any _ _ _ true HWI.out).mono ?_
     rintro e w2 ⟨rfl, hbx⟩
     have HM2 := lh (HM.out.below hbx)
     have HB2 := lh (below_on HB.out hbx)
     clear hbx
     obtain ⟨w3, hput, hM3, hg3⟩ := HM2.out.put Tryz.underlying118 (by have := HLE.out; omega) x HXR.out (.int .i64 (i : Int))
     have HM3 := lh hM3
     have HB3 : Hid (Below w.heap.size w w3) := HB2.out.grown hg3 HB2.out.size (fun j hj => by cases hj; exact lR _)
     have HS3 := lh (HS.out.succ HX.out HNI.out)
     clear hM3 hg3
     go_wp2_with fail
     go_roundw
     case rel => exact ⟨i + 1, _, by omega, by go_num, HM3, HS3, HO2, HB3⟩
     case measure => (simp [intOf]; omega)
    ·have HWI : Hid (decide (0 ≤ x ∧ x < (n : Int)) = false) := decide_eq_false hr
     have HNO : Hid (¬ Ord xs) := ord_not HX.out (.inr (by rw [← HEN.out]; exact hr))
     have HE : Hid (v = false) := by
      cases v with
      | false => rfl
      | true => exact absurd (HV.out.1 rfl) HNO.out
     clear hr
     go_wp2_with fail
     clear hlk c0
     refine (within_any _ _ _ false HWI.out).mono ?_
     rintro e w2 ⟨rfl, hbx⟩
     have HB2 := lh (below_on HB.out hbx)
     clear hbx
     go_wp2_with fail
     exact ⟨rfl, .tuple #[.map none, .bool false], by simp [results, Tryz.results103, go_sem], HB2.out, .inl ⟨HE.out, rfl⟩⟩
  ·have hi1 : ¬ (i : Int) < (n : Int) := by omega
   obtain rfl : i = n := by omega
   have HE : Hid (v = true) := HV.out.2 (HO.out.all (by have := HEN.out; omega))
   have HM4 : Hid (IMap wr w.heap.size xs.length M ∧ Seen xs xs.length M) := by
    have h1 := HM.out
    have h2 := HS.out
    rw [HEN.out] at h1 h2
    exact ⟨h1, h2⟩
   go_wp2_with fail
   exact ⟨rfl, .tuple #[.map (some w.heap.size), .bool true], by simp [results, Tryz.results103, go_sem], HB.out, .inr ⟨HE.out, _, M, rfl, HM4.out.1, HM4.out.2⟩⟩
theorem perm_any {w : World} {A : Option Addr} {n c : Nat} {xs : List Int} (h : RI w A n xs) (v : Bool) (hv : v = true ↔ Ord xs) : Calls tz 45 #[.slice A n c] w (RetB w v) := by
 have HJ := lh (seen_any (c := c) h v hv)
 clear h hv
 go_enter Tryz.func45, Tryz.ntmps45
 go_wp2_with fail
 refine HJ.out.mono ?_
 rintro e w2 ⟨hb, ⟨rfl, rfl⟩ | ⟨rfl, b, M, rfl, _, _⟩⟩
 ·have HB := lh hb
  clear hb
  go_wp2_with fail
  go_ret
  exact ⟨rfl, HB.out⟩
 ·have HB := lh hb
  clear hb
  go_wp2_with fail
  go_ret
  exact ⟨rfl, HB.out⟩
end V

namespace V
open Go.RowKit
open Q (IsQ OneQ RetQ below_on ql Qbx)
theorem perm_of : ∀ {l xs : List Int}, l.Nodup → (∀ a ∈ l, a ∈ xs) → xs.length ≤ l.length → xs.Perm l
 | [], xs, _, _, h => by
  have e : xs = [] := List.eq_nil_of_length_eq_zero (by simpa using h)
  subst e; exact List.Perm.refl _
 | a :: l, xs, hn, hs, h => by
  obtain ⟨h1, h2⟩ := List.nodup_cons.1 hn
  have ha := hs a (List.mem_cons_self ..)
  have h3 : (xs.erase a).Perm l := perm_of h2 (fun b hb => (List.mem_erase_of_ne (fun e : b = a => h1 (by rw [← e]; exact hb))).2 (hs b (List.mem_cons_of_mem _ hb))) (by rw [List.length_erase_of_mem ha]; rw [List.length_cons] at h; omega)
  exact (List.perm_cons_erase ha).trans (h3.cons a)
theorem upto_len (n : Nat) : (upto n).length = n := by unfold upto; rw [List.length_map, List.length_range]
theorem Ord.perm {xs : List Int} (h : Ord xs) : (upto xs.length).Perm xs := perm_of h.2 (fun a ha => mem_upto.2 (h.1 a ha)) (by rw [upto_len]; exact lR _)
theorem Ord.mem {xs : List Int} (h : Ord xs) {a : Int} (ha : 0 ≤ a ∧ a < (xs.length : Int)) : a ∈ xs := h.perm.mem_iff.1 (mem_upto.2 ha)
def inv (xs : List Int) : List Int := (List.range xs.length).map (fun (a : Nat) => ((xs.idxOf (a : Int) : Nat) : Int))
theorem inv_len (xs : List Int) : (inv xs).length = xs.length := by unfold inv; rw [List.length_map, List.length_range]
theorem inv_at {xs : List Int} (h : Ord xs) {a : Nat} (ha : a < xs.length) : ∃ j : Nat, (inv xs)[a]? = some (j : Int) ∧ j < xs.length ∧ xs[j]? = some (a : Int) := by
 have hm : (a : Int) ∈ xs := h.mem ⟨by omega, by omega⟩
 refine ⟨xs.idxOf (a : Int), ?_, List.idxOf_lt_length_of_mem hm, ?_⟩
 ·unfold inv; rw [List.getElem?_map, List.getElem?_range ha]; rfl
 ·rw [gE (List.idxOf_lt_length_of_mem hm), List.getElem_idxOf]
def RetI (w : World) (n : Nat) (xs : List Int) (v : Bool) (e : Ending) (w' : World) : Prop := Below w.heap.size w w' ∧ (v = false ∧ e = .returned (.tuple #[.slice none 0 0, .int .i64 2]) ∨ v = true ∧ ∃ A c, e = .returned (.tuple #[.slice A n c, .int .i64 0]) ∧ RI w' A n (inv xs))
theorem nodup_at {xs : List Int} (h : xs.Nodup) {i j : Nat} {x : Int} (hi : xs[i]? = some x) (hj : xs[j]? = some x) : i = j := by
 rcases Nat.lt_trichotomy i j with h1 | h1 | h1
 ·have := (List.pairwise_iff_getElem.1 h) i j (List.getElem?_eq_some_iff.1 hi).1 (List.getElem?_eq_some_iff.1 hj).1 h1
  rw [(List.getElem?_eq_some_iff.1 hi).2, (List.getElem?_eq_some_iff.1 hj).2] at this
  exact absurd rfl this
 ·exact h1
 ·have := (List.pairwise_iff_getElem.1 h) j i (List.getElem?_eq_some_iff.1 hj).1 (List.getElem?_eq_some_iff.1 hi).1 h1
  rw [(List.getElem?_eq_some_iff.1 hi).2, (List.getElem?_eq_some_iff.1 hj).2] at this
  exact absurd rfl this
theorem OwnP.ri {w wx : World} {A : Option Addr} {n c : Nat} {ps : List Int} (h : OwnP w wx (.slice A n c) ps) (hl : ps.length ≤ 1000) (hr : ∀ x ∈ ps, -9223372036854775808 ≤ x ∧ x ≤ 9223372036854775807) : n = ps.length ∧ RI wx A n ps := by
 obtain ⟨A', c', e, hne⟩ := h.slice
 obtain ⟨rfl, rfl, rfl⟩ : A = A' ∧ n = ps.length ∧ c = c' := by simpa using e
 refine ⟨rfl, ⟨fun h0 => ?_, rfl, hl, hr⟩⟩
 obtain ⟨g, rfl, _, hi⟩ := hne h0
 exact ⟨g, 0, rfl, hi.lt, fun j x hx => by rw [Nat.zero_add]; exact hi.at_ hx⟩
theorem inv_rng {xs : List Int} (hl : xs.length ≤ 1000) : ∀ x ∈ inv xs, -9223372036854775808 ≤ x ∧ x ≤ 9223372036854775807 := by
 intro x hx
 obtain ⟨a, _, rfl⟩ := List.mem_map.1 hx
 have := List.idxOf_le_length (a := (a : Int)) (l := xs)
 omega
theorem make_i (w : World) (N : Nat) (hN : N ≤ 65536) : ∃ W, (Instr.makeSlice 61 (.int .i64 (N : Int)) (.int .i64 (N : Int))).run tz w = .ok (.slice (some ⟨w.heap.size, 0, none⟩) N N) W ∧ Below w.heap.size w W ∧ Ints W w.heap.size (List.replicate N 0) N := by
 obtain ⟨i, hi, hz, hs, hb⟩ := info_parts E.info_u64
 have hr := run_make (P := tz) w 61 3 i (.int .i64 0) E.under_u64s hi hz .i64 .i64 (N : Int) (N : Int) (by omega) (Int.le_refl _) (by rw [hb]; omega) (by omega)
 simp only [Int.toNat_natCast, hs] at hr
 refine ⟨_, hr, (Below.refl _ _).alloc (lR _) _, ⟨⟨_, heap_alloc_new w _, ?_, by rw [size_madeCells, Nat.mul_one]⟩, by rw [List.length_replicate]; exact lR _, by unfold maxLen; omega⟩⟩
 rw [List.length_replicate, List.take_of_length_le (by rw [Array.length_toList, size_madeCells]; omega)]
 apply List.ext_getElem?
 intro j
 rw [List.map_replicate, List.getElem?_replicate]
 unfold madeCells
 by_cases hj : j < N
 ·rw [if_pos hj]
  simp [hj, Value.cells, Nat.mod_one]
  rfl
 ·rw [if_neg hj]
  simp [hj]
set_option maxRecDepth 100000 in
set_option maxHeartbeats 4000000 in
theorem inv_any {w : World} {A : Option Addr} {n c : Nat} {xs : List Int} (h : RI w A n xs) (v : Bool) (hv : v = true ↔ Ord xs) : Calls tz 42 #[.slice A n c] w (RetI w n xs v) := by
 have HJ := lh (seen_any (c := c) h v hv)
 have HEN := lh h.en
 have HLE := lh h.le
 have HV := lh hv
 clear h hv
 go_enter Tryz.func42, Tryz.ntmps42
 go_wp2_with fail
 refine HJ.out.mono ?_
 rintro e w1 ⟨hb, ⟨rfl, rfl⟩ | ⟨rfl, b, M, rfl, hM, hS⟩⟩
 ·have HB1 := lh hb
  clear hb HJ
  go_wp2_with fail
  exact ⟨rfl, .tuple #[.slice none 0 0, .int .i64 2], by simp [results, Tryz.results42, go_sem], HB1.out, .inl ⟨rfl, rfl⟩⟩
 ·have HB1 := lh hb
  have HORD : Hid (Ord xs) := HV.out.1 rfl
  obtain ⟨W, hmk, hbm, him⟩ := make_i w1 n (by have := HLE.out; omega)
  have HBW := lh (below_on hb hbm)
  have HIN := lh him
  have HMW := lh (hM.below hbm)
  have HS := lh hS
  have HNE : Hid (b < w1.heap.size ∧ w.heap.size ≤ w1.heap.size) := ⟨hM.lt, hb.size⟩
  clear hb hbm him hM hS HJ
  go_upto_region 4 with fail
  obtain ⟨g, hg⟩ : ∃ g, w1.heap.size = g := ⟨_, rfl⟩
  have HG : Hid (w.heap.size ≤ g ∧ b < g) := by rw [← hg]; exact ⟨HNE.out.2, HNE.out.1⟩
  have HIN0 : Hid (Ints W g ((inv xs).take 0 ++ List.replicate (n - 0) 0) n) := by rw [← hg]; exact HIN.out
  rw [hg] at hmk
  clear HIN HNE
  go_wp2_with fail
  clear hmk
  go_loopw [20] (fun kv wr => ∃ k : Nat, k ≤ n ∧ kv = .int .i64 (k : Int) ∧ Hid (Ints wr g ((inv xs).take k ++ List.replicate (n - k) 0) n) ∧ Hid (IMap wr b xs.length M) ∧ Hid (Below w.heap.size w wr)) (fun kv _ => n - (intOf kv).toNat)
  case atStart => exact ⟨0, Nat.zero_le _, rfl, HIN0, HMW, HBW⟩
  case round =>
   clear HIN0 HMW HBW
   obtain ⟨k, hk, rfl, HI, HM, HB⟩ := hrel
   by_cases hlt : k < n
   ·have hk1 : (k : Int) < (n : Int) := by omega
    have hk0 : (0 : Int) ≤ (k : Int) := by omega
    have hwk : IntKind.i64.wrap ((k : Int) + 1) = (k : Int) + 1 := by have := HLE.out; rw [IntKind.wrap_i64]; omega
    obtain ⟨jk, hj1, hj2, hj3⟩ := inv_at HORD.out (a := k) (by have := HEN.out; omega)
    have hil : ((inv xs).take k).length = k := by rw [List.length_take, inv_len]; have := HEN.out; omega
    have hc0 := HI.out.at_ (i := k) (x := 0) (by rw [List.getElem?_append_right (by omega), hil, Nat.sub_self, List.getElem?_replicate, if_pos (by omega)])
    have hf0 := HI.out.frz k
    have hlk := HM.out.at_ Tryz.underlying118 (zeroI wr) (k : Int) ⟨by omega, by have := HLE.out; omega⟩
    rw [(HS.out (k : Int)).2 jk (by omega) hj3, Option.getD_some] at hlk
    have HI2 : Hid (Ints (wr.setCell ⟨g, k, none⟩ (.int .i64 (jk : Int))) g ((inv xs).take (k + 1) ++ List.replicate (n - (k + 1)) 0) n) := by
     have h9 := HI.out.set k (jk : Int)
     rw [List.set_append_right _ _ (by omega), hil, Nat.sub_self, show n - k = (n - (k + 1)) + 1 by omega, List.replicate_succ, List.set_cons_zero] at h9
     rw [take_snoc hj1, List.append_assoc]
     exact h9
    have HM2 : Hid (IMap (wr.setCell ⟨g, k, none⟩ (.int .i64 (jk : Int))) b xs.length M) := HM.out.block (Below.heap_setCell _ _ _ _ (by have := HG.out; show b ≠ g; omega))
    have HB2 : Hid (Below w.heap.size w (wr.setCell ⟨g, k, none⟩ (.int .i64 (jk : Int)))) := below_set HB.out HG.out.1 k _
    clear hj1 hj2 hj3 hil
    go_wp2_with fail
    go_roundw
    case rel => exact ⟨k + 1, by omega, by go_num, HI2, HM2, HB2⟩
    case measure => (simp [intOf]; omega)
   ·have hk1 : ¬ (k : Int) < (n : Int) := by omega
    have HR : Hid (RI wr (some ⟨g, 0, none⟩) n (inv xs)) := by
     have h9 := HI.out
     rw [show n - k = 0 by omega, List.replicate_zero, List.append_nil, List.take_of_length_le (by rw [inv_len]; have := HEN.out; omega)] at h9
     exact ⟨fun _ => ⟨g, 0, rfl, h9.lt, fun j x hx => by rw [Nat.zero_add]; exact h9.at_ hx⟩, by rw [inv_len]; exact HEN.out, HLE.out, inv_rng (by have := HLE.out; have := HEN.out; omega)⟩
    clear HI
    go_wp2_with fail
    exact ⟨rfl, .tuple #[.slice (some ⟨g, 0, none⟩) n n, .int .i64 0], by simp [results, Tryz.results42, go_sem], HB.out, .inr ⟨rfl, _, _, rfl, HR.out⟩⟩
