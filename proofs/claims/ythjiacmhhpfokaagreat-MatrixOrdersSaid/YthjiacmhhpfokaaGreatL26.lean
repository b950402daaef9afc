/- Part 26 of the proof: VSorted, VOrdered, VOut. -/
import Derived.Test.YthjiacmhhpfokaaGreatL25
import Derived.Deep.AppendSrc
import Derived.Deep.DeepAppendWide
namespace Go.Proofs.YthjiacmhhpfokaaGreat
open Lib renaming hid → lh
open Go.Proofs.Tryz renaming prog → tz
open List renaming getElem?_eq_getElem → gE, getElem?_map → gM
namespace V
open Go.RowKit
open Go.Sort (grow alloc_eq_grow grow_grow)
open Q (below_on)
theorem less_any (p q : TV) (W : World) : Calls tz 187 #[.agg #[.int .i64 p.at_, .bool p.s, .slice p.A p.n p.c, .bool p.t, .slice p.B p.m p.d], .agg #[.int .i64 q.at_, .bool q.s, .slice q.A q.n q.c, .bool q.t, .slice q.B q.m q.d]] W fun e w' => e = .returned (.int .i64 (zcmp p.at_ q.at_)) ∧ ∃ q os', w' = grow (W.drewN q) os' := by
 obtain ⟨r, hr⟩ : ∃ r, zcmp p.at_ q.at_ = r := ⟨_, rfl⟩
 rw [hr]
 have HR := lh hr
 clear hr
 go_enter Tryz.func187, Tryz.ntmps187
 go_wp2_with fail
 refine (compare_any _ _ _).mono ?_
 rintro e w1 ⟨rfl, rfl⟩
 go_wp2_with fail
 go_ret
 rw [HR.out]
 exact ⟨rfl, 0, _, by rw [alloc_eq_grow, alloc_eq_grow, grow_grow]; rfl⟩
theorem below_grow (w : World) (n : Nat) (os : Array Obj) : Below w.heap.size w (grow (w.drewN n) os) := by
 refine ⟨rfl, rfl, rfl, ?_, fun k hk => ?_⟩
 ·show w.heap.size ≤ (w.heap ++ os).size
  rw [Array.size_append]; omega
 ·show (w.heap ++ os)[k]? = w.heap[k]?
  rw [Array.getElem?_append_left hk]
theorem less_below (p q : TV) (W : World) : Calls tz 187 #[.agg #[.int .i64 p.at_, .bool p.s, .slice p.A p.n p.c, .bool p.t, .slice p.B p.m p.d], .agg #[.int .i64 q.at_, .bool q.s, .slice q.A q.n q.c, .bool q.t, .slice q.B q.m q.d]] W fun e w' => e = .returned (.int .i64 (zcmp p.at_ q.at_)) ∧ Below W.heap.size W w' :=
 (less_any p q W).mono fun _ _ ⟨h, _, _, e⟩ => ⟨h, e ▸ below_grow W _ _⟩
theorem up_adj {l : List (Int × Rat)} (h : ∀ i a b, l[i]? = some a → l[i + 1]? = some b → a.1 ≤ b.1) : Up l := by
 induction l with
 | nil => exact List.Pairwise.nil
 | cons x l ih =>
  have ht : Up l := ih fun i a b ha hb => h (i + 1) a b (by rw [List.getElem?_cons_succ]; exact ha) (by rw [List.getElem?_cons_succ]; exact hb)
  refine List.pairwise_cons.2 ⟨fun y hy => ?_, ht⟩
  cases l with
  | nil => cases hy
  | cons z l =>
   have hxz : x.1 ≤ z.1 := h 0 x z rfl rfl
   rcases List.mem_cons.1 hy with rfl | hy
   ·exact hxz
   ·have := (List.pairwise_cons.1 ht).1 y hy; omega
theorem zcmp_neg {a b : Int} : zcmp a b < 0 ↔ a < b := by unfold zcmp; split <;> (try split) <;> omega
def RetSo (w : World) (l : List (Int × Rat)) (e : Ending) (w' : World) : Prop := ∃ b, e = .returned (.bool b) ∧ (b = true → Up l) ∧ (b = false → l ≠ []) ∧ Below w.heap.size w w'
set_option maxRecDepth 100000 in
set_option maxHeartbeats 4000000 in
theorem sorted_any {w : World} {A : Option Addr} {n c k : Nat} {ys : List (TV × Rat)} (h : IsV w A n c ys k) (hn : n ≤ 1000000000) :
  Calls tz 188 #[.slice A n c, .func (.func 187) #[] #[]] w (RetSo w (vals ys)) := by
 have H := lh h
 have HLEN := lh h.en
 have HN := lh hn
 clear h hn
 by_cases h1 : n ≤ 1
 ·have HU : Hid (Up (vals ys)) := by
   refine up_adj fun i a b ha hb => ?_
   have := (List.getElem?_eq_some_iff.1 hb).1
   rw [vals_len] at this
   have := HLEN.out
   omega
  have t0 : IntKind.i64.wrap ((n : Int) - 1) = (n : Int) - 1 := IntWalk.i64_in _ (by omega)
  have g1 : ¬ (0 : Int) < (n : Int) - 1 := by omega
  clear h1
  go_enter Tryz.func188, Tryz.ntmps188
  go_wp2_with fail
  go_loop [5] (fun iv => iv = .int .i64 ((n : Int) - 1)) (fun iv => 0)
  case atStart => rfl
  case round =>
   obtain rfl := hrel
   go_wp2_with fail
   refine bodyPost_ret (v := .bool true) (by simp [results, Tryz.results188, go_sem]) rfl ?_
   exact ⟨true, rfl, fun _ => HU.out, (fun h => by cases h), Below.refl _ _⟩
 ·obtain ⟨m, rfl⟩ : ∃ m, n = m + 1 := ⟨n - 1, by omega⟩
  have t0 : IntKind.i64.wrap (((m + 1 : Nat) : Int) - 1) = (m : Int) := by
   have h := IntWalk.i64_in (((m + 1 : Nat) : Int) - 1) (by have := HN.out; omega)
   rw [h]; omega
  obtain ⟨N, hN⟩ : ∃ N, m + 1 = N := ⟨_, rfl⟩
  rw [hN] at t0 H HLEN HN ⊢
  have HNM := lh hN
  clear h1 hN
  go_enter Tryz.func188, Tryz.ntmps188
  go_wp2_with fail
  go_loopw [5] (fun iv wr => ∃ i : Nat, i ≤ m ∧ iv = .int .i64 (i : Int) ∧ Hid (Below w.heap.size w wr) ∧ Hid (∀ j a b, i ≤ j → (vals ys)[j]? = some a → (vals ys)[j + 1]? = some b → a.1 ≤ b.1)) (fun iv _ => (intOf iv).toNat)
  case atStart =>
   refine ⟨m, Nat.le_refl _, rfl, Below.refl _ _, fun j a b hj ha hb => ?_⟩
   have := (List.getElem?_eq_some_iff.1 hb).1
   rw [vals_len] at this
   have := HLEN.out
   have := HNM.out
   omega
  case round =>
   obtain ⟨i, hi, rfl, HB, HU⟩ := hrel
   rcases i with _ | I
   ·go_wp2_with fail
    refine bodyPost_ret (v := .bool true) (by simp [results, Tryz.results188, go_sem]) rfl ?_
    exact ⟨true, rfl, (fun _ => up_adj fun j a b ha hb => HU.out j a b (Nat.zero_le _) ha hb), (fun h => by cases h), HB.out⟩
   ·obtain ⟨J, hJ⟩ : ∃ J, I + 1 = J := ⟨_, rfl⟩
    rw [hJ] at hi HU ⊢
    have hj0 : (0 : Int) < (J : Int) := by omega
    have hj1 : (0 : Int) ≤ (J : Int) := by omega
    have hj2 : (J : Int) < (N : Int) := by have := HNM.out; omega
    have hi0 : (0 : Int) ≤ (I : Int) := by omega
    have hi2 : (I : Int) < (N : Int) := by have := HNM.out; omega
    have t1 : IntKind.i64.wrap ((J : Int) - 1) = (I : Int) := by
     have h := IntWalk.i64_in ((J : Int) - 1) (by have := HN.out; omega)
     rw [h]; omega
    obtain ⟨yy, hy⟩ : ∃ y, ys[I]? = some y := ⟨ys[I]'(by have := HLEN.out; omega), gE (by have := HLEN.out; omega)⟩
    obtain ⟨uu, hu⟩ : ∃ u, ys[J]? = some u := ⟨ys[J]'(by have := HLEN.out; omega), gE (by have := HLEN.out; omega)⟩
    obtain ⟨b, off, hA, hlt, c0, c1, c2, c3, c4⟩ := H.out.row.at_ (j := I) (x := yy.1) (by rw [gM, hy]; rfl)
    obtain ⟨b', off', hA', hlt', d0, d1, d2, d3, d4⟩ := H.out.row.at_ (j := J) (x := uu.1) (by rw [gM, hu]; rfl)
    obtain ⟨rfl, rfl⟩ : b = b' ∧ off = off' := by rw [hA] at hA'; simpa using hA'
    obtain ⟨y, hyy⟩ : ∃ y, yy.1 = y := ⟨_, rfl⟩
    obtain ⟨u, huu⟩ : ∃ u, uu.1 = u := ⟨_, rfl⟩
    rw [hyy] at c0 c1 c2 c3 c4
    rw [huu] at d0 d1 d2 d3 d4
    subst hA
    have HV1 : Hid ((vals ys)[I]? = some (y.at_, yy.2)) := by show _ = _; unfold vals; rw [gM, hy, ← hyy]; rfl
    have HV2 : Hid ((vals ys)[I + 1]? = some (u.at_, uu.2)) := by show _ = _; unfold vals; rw [hJ, gM, hu, ← huu]; rfl
    have HJ := lh hJ
    have HK : Hid (∀ V, Below w.heap.size w V → V.cell? ⟨b, off + J * 5, none⟩ = some (.int .i64 u.at_) ∧ V.cell? ⟨b, off + J * 5 + 1, none⟩ = some (.bool u.s) ∧ V.cell? ⟨b, off + J * 5 + 2, none⟩ = some (.slice u.A u.n u.c) ∧ V.cell? ⟨b, off + J * 5 + 3, none⟩ = some (.bool u.t) ∧ V.cell? ⟨b, off + J * 5 + 4, none⟩ = some (.slice u.B u.m u.d) ∧ V.cell? ⟨b, off + I * 5, none⟩ = some (.int .i64 y.at_) ∧ V.cell? ⟨b, off + I * 5 + 1, none⟩ = some (.bool y.s) ∧ V.cell? ⟨b, off + I * 5 + 2, none⟩ = some (.slice y.A y.n y.c) ∧ V.cell? ⟨b, off + I * 5 + 3, none⟩ = some (.bool y.t) ∧ V.cell? ⟨b, off + I * 5 + 4, none⟩ = some (.slice y.B y.m y.d)) := by
     intro V hV
     exact ⟨(hV.cell (p := ⟨b, off + J * 5, none⟩) hlt).trans d0, (hV.cell (p := ⟨b, off + J * 5 + 1, none⟩) hlt).trans d1, (hV.cell (p := ⟨b, off + J * 5 + 2, none⟩) hlt).trans d2, (hV.cell (p := ⟨b, off + J * 5 + 3, none⟩) hlt).trans d3, (hV.cell (p := ⟨b, off + J * 5 + 4, none⟩) hlt).trans d4, (hV.cell (p := ⟨b, off + I * 5, none⟩) hlt).trans c0, (hV.cell (p := ⟨b, off + I * 5 + 1, none⟩) hlt).trans c1, (hV.cell (p := ⟨b, off + I * 5 + 2, none⟩) hlt).trans c2, (hV.cell (p := ⟨b, off + I * 5 + 3, none⟩) hlt).trans c3, (hV.cell (p := ⟨b, off + I * 5 + 4, none⟩) hlt).trans c4⟩
    clear c0 c1 c2 c3 c4 d0 d1 d2 d3 d4 hy hu hyy huu hlt hlt' hJ
    by_cases hlt : u.at_ < y.at_
    ·have g1 : zcmp u.at_ y.at_ < 0 := zcmp_neg.2 hlt
     obtain ⟨r, hr⟩ : ∃ r, zcmp u.at_ y.at_ = r := ⟨_, rfl⟩
     rw [hr] at g1
     have HR := lh hr
     clear hlt hr
     go_upto_region 4 with fail
     go_region_held3 (fun V => V.cell? ⟨b, off + J * 5, none⟩ = some (.int .i64 u.at_) ∧ V.cell? ⟨b, off + J * 5 + 1, none⟩ = some (.bool u.s) ∧ V.cell? ⟨b, off + J * 5 + 2, none⟩ = some (.slice u.A u.n u.c) ∧ V.cell? ⟨b, off + J * 5 + 3, none⟩ = some (.bool u.t) ∧ V.cell? ⟨b, off + J * 5 + 4, none⟩ = some (.slice u.B u.m u.d) ∧ V.cell? ⟨b, off + I * 5, none⟩ = some (.int .i64 y.at_) ∧ V.cell? ⟨b, off + I * 5 + 1, none⟩ = some (.bool y.s) ∧ V.cell? ⟨b, off + I * 5 + 2, none⟩ = some (.slice y.A y.n y.c) ∧ V.cell? ⟨b, off + I * 5 + 3, none⟩ = some (.bool y.t) ∧ V.cell? ⟨b, off + I * 5 + 4, none⟩ = some (.slice y.B y.m y.d))
      (first | (with_reducible exact HK.out _ HB2.out) | (with_reducible exact HK.out _ HB.out.drew))
      (first | (go_at_call 187; (with_reducible refine (less_below u y _).mono ?_); rintro e w2 ⟨rfl, hb2⟩; rw [HR.out]; have HB2 := lh (below_on HB.out.drew hb2)))
     all_goals
      go_wp2_with fail
      refine bodyPost_ret (v := .bool false) (by simp [results, Tryz.results188, go_sem]) rfl ?_
      exact ⟨false, rfl, (fun h => by cases h), (fun _ h => by have h2 := HV1.out; rw [h] at h2; cases h2), HB2.out⟩
    ·have g1 : ¬ zcmp u.at_ y.at_ < 0 := fun h => hlt (zcmp_neg.1 h)
     obtain ⟨r, hr⟩ : ∃ r, zcmp u.at_ y.at_ = r := ⟨_, rfl⟩
     rw [hr] at g1
     have HR := lh hr
     have HUI : Hid (∀ j a b, I ≤ j → (vals ys)[j]? = some a → (vals ys)[j + 1]? = some b → a.1 ≤ b.1) := by
      intro j a b hj ha hb
      rcases Nat.lt_or_ge I j with h | h
      ·exact HU.out j a b (by have := HJ.out; omega) ha hb
      ·obtain rfl : j = I := by omega
       rw [HV1.out] at ha
       rw [HV2.out] at hb
       obtain rfl := Option.some.inj ha
       obtain rfl := Option.some.inj hb
       show y.at_ ≤ u.at_
       omega
     clear hlt hr
     go_upto_region 4 with fail
     go_region_held3 (fun V => V.cell? ⟨b, off + J * 5, none⟩ = some (.int .i64 u.at_) ∧ V.cell? ⟨b, off + J * 5 + 1, none⟩ = some (.bool u.s) ∧ V.cell? ⟨b, off + J * 5 + 2, none⟩ = some (.slice u.A u.n u.c) ∧ V.cell? ⟨b, off + J * 5 + 3, none⟩ = some (.bool u.t) ∧ V.cell? ⟨b, off + J * 5 + 4, none⟩ = some (.slice u.B u.m u.d) ∧ V.cell? ⟨b, off + I * 5, none⟩ = some (.int .i64 y.at_) ∧ V.cell? ⟨b, off + I * 5 + 1, none⟩ = some (.bool y.s) ∧ V.cell? ⟨b, off + I * 5 + 2, none⟩ = some (.slice y.A y.n y.c) ∧ V.cell? ⟨b, off + I * 5 + 3, none⟩ = some (.bool y.t) ∧ V.cell? ⟨b, off + I * 5 + 4, none⟩ = some (.slice y.B y.m y.d))
      (first | (with_reducible exact HK.out _ HB2.out) | (with_reducible exact HK.out _ HB.out.drew))
      (first | (go_at_call 187; (with_reducible refine (less_below u y _).mono ?_); rintro e w2 ⟨rfl, hb2⟩; rw [HR.out]; have HB2 := lh (below_on HB.out.drew hb2)))
     all_goals
      go_wp2_with fail
      go_roundw
      case rel => exact ⟨I, by have := HJ.out; omega, by go_num, HB2, HUI⟩
      case measure => (simp [intOf]; have := HJ.out; omega)
end V

namespace V
open Go.RowKit
open Go.Sort (grow HoldsK flatK Holds putRowK mapBlock putRow PermIn SortedIn SWO size_flatK get_flatK)
open Go.Proofs (sortWorldK ltOf)
open Q (below_on)
theorem perm_lift {α β : Type} {f : α → β} {l m : List β} (h : l.Perm m) : ∀ ys : List α, ys.map f = m → ∃ ys' : List α, ys'.Perm ys ∧ ys'.map f = l := by
 induction h with
 | nil => intro ys e; exact ⟨[], by rw [List.map_eq_nil_iff.1 e], rfl⟩
 | cons x _ ih =>
  intro ys e
  cases ys with
  | nil => cases e
  | cons y ys =>
   obtain ⟨e1, e2⟩ := List.cons.inj e
   obtain ⟨zs, h1, h2⟩ := ih ys e2
   exact ⟨y :: zs, h1.cons y, by rw [List.map_cons, h2, e1]⟩
 | swap x y l =>
  intro ys e
  match ys, e with
  | a :: b :: ys, e =>
   obtain ⟨e1, e2⟩ := List.cons.inj e
   obtain ⟨e3, e4⟩ := List.cons.inj e2
   exact ⟨b :: a :: ys, List.Perm.swap a b ys, by rw [List.map_cons, List.map_cons, e1, e3, e4]⟩
 | trans _ _ ih1 ih2 =>
  intro ys e
  obtain ⟨zs, h1, h2⟩ := ih2 ys e
  obtain ⟨us, h3, h4⟩ := ih1 zs h2
  exact ⟨us, h3.trans h1, h4⟩
theorem enc_len (x : TV) : x.enc.length = 5 := rfl
def flat (xs : List TV) : List Value := xs.flatMap TV.enc
theorem flat_len (xs : List TV) : (flat xs).length = xs.length * 5 := by
 induction xs with
 | nil => rfl
 | cons x xs ih => show (x.enc ++ flat xs).length = _; rw [List.length_append, ih, enc_len, List.length_cons]; omega
theorem flat_at (xs : List TV) (j i : Nat) (hi : i < 5) : (flat xs)[j * 5 + i]? = (xs[j]?).bind (fun x => x.enc[i]?) := by
 induction xs generalizing j with
 | nil => simp [flat]
 | cons x xs ih =>
  show (x.enc ++ flat xs)[j * 5 + i]? = _
  cases j with
  | zero => rw [List.getElem?_append_left (by rw [enc_len]; omega), Nat.zero_mul, Nat.zero_add]; rfl
  | succ j =>
   rw [List.getElem?_append_right (by rw [enc_len]; omega), enc_len, show (j + 1) * 5 + i - 5 = j * 5 + i by omega, ih]
   rfl
theorem flat_cells {w : World} {b off : Nat} {xs : List TV} (h : Row w (some ⟨b, off, none⟩) xs) : ∀ j u, (flat xs)[j]? = some u → w.cell? ⟨b, off + j, none⟩ = some u := by
 intro j u hj
 have e : j = (j / 5) * 5 + j % 5 := by omega
 rw [e, flat_at xs _ _ (by omega)] at hj
 obtain ⟨x, hx, hu⟩ := Option.bind_eq_some_iff.1 hj
 obtain ⟨b2, off2, e2, _, hc⟩ := h (by intro e3; rw [e3] at hx; cases hx)
 obtain ⟨rfl, rfl⟩ : b = b2 ∧ off = off2 := by simpa using e2
 have := hc _ x hx _ u hu
 rw [show off + (j / 5) * 5 + j % 5 = off + j by omega] at this
 exact this
theorem row_cells {w : World} {b off : Nat} {xs : List TV} (hb : b < w.heap.size) (h : ∀ j u, (flat xs)[j]? = some u → w.cell? ⟨b, off + j, none⟩ = some u) : Row w (some ⟨b, off, none⟩) xs := by
 intro _
 refine ⟨b, off, rfl, hb, fun j x hj i v hv => ?_⟩
 have hi : i < 5 := by have := (List.getElem?_eq_some_iff.1 hv).1; rwa [enc_len] at this
 have := h (j * 5 + i) v (by rw [flat_at xs j i hi, hj]; exact hv)
 rw [← Nat.add_assoc] at this
 exact this
theorem one_cell (xs : List TV) : ∀ u ∈ flat xs, u.oneCell' = true := by
 intro u hu
 obtain ⟨x, _, hx⟩ := List.mem_flatMap.1 hu
 simp only [TV.enc, List.mem_cons, List.not_mem_nil, or_false] at hx
 rcases hx with rfl | rfl | rfl | rfl | rfl <;> rfl
theorem flatK_flat (xs : List TV) (j : Nat) (hj : j < xs.length * 5) : (flat xs)[j]? = some (flatK TV.enc 5 xs.toArray)[j]! := by
 rw [get_flatK _ _ _ _ (by simpa using hj)]
 have e : j = (j / 5) * 5 + j % 5 := by omega
 have hlt : j / 5 < xs.length := by omega
 conv => lhs; rw [e]
 rw [flat_at xs _ _ (by omega), gE hlt]
 have e2 : (xs.toArray[j / 5]! : TV) = xs[j / 5] := by rw [getElem!_pos xs.toArray (j / 5) (by simpa using hlt)]; simp
 rw [e2]
 show (xs[j / 5]).enc[j % 5]? = _
 rw [List.getElem!_eq_getElem?_getD, gE (by rw [enc_len]; omega)]
 rfl
theorem holds_flat {w : World} {b off : Nat} {xs : List TV} (h : HoldsK TV.enc 5 w b off xs.toArray) : ∀ j u, (flat xs)[j]? = some u → w.cell? ⟨b, off + j, none⟩ = some u := by
 intro j u hj
 have hlt : j < xs.length * 5 := by have := (List.getElem?_eq_some_iff.1 hj).1; rwa [flat_len] at this
 rw [flatK_flat xs j hlt] at hj
 rw [(h j (by rw [size_flatK]; simpa using hlt)).1]
 exact hj
theorem flat_holds {w : World} {b off : Nat} {xs : List TV} (h : ∀ j u, (flat xs)[j]? = some u → w.cell? ⟨b, off + j, none⟩ = some u) (hf : ∀ j, w.frozen? ⟨b, off + j, none⟩ = false) : HoldsK TV.enc 5 w b off xs.toArray := by
 intro j hj
 rw [size_flatK] at hj
 exact ⟨h j _ (flatK_flat xs j (by simpa using hj)), hf j⟩
theorem below_sort (w : World) (base b off m : Nat) (d : Array TV) (os : Array Obj) (hb : base ≤ b) (hw : base ≤ w.heap.size) : Below base w (sortWorldK TV.enc 5 w b off m d os) := by
 have hsz : (putRowK TV.enc 5 (Go.Sort.ahead w m) b off d).heap.size = w.heap.size := by simp [putRowK, putRow, mapBlock, Go.Sort.ahead]
 refine ⟨rfl, rfl, rfl, ?_, fun k hk => ?_⟩
 ·show w.heap.size ≤ ((putRowK TV.enc 5 (Go.Sort.ahead w m) b off d).heap ++ os).size
  rw [Array.size_append, hsz]; omega
 ·show ((putRowK TV.enc 5 (Go.Sort.ahead w m) b off d).heap ++ os)[k]? = _
  rw [Array.getElem?_append_left (by rw [hsz]; omega)]
  show (w.heap.modify b _)[k]? = _
  rw [Array.getElem?_modify, if_neg (by omega)]
def cfT (x y : TV) : Int := zcmp x.at_ y.at_
theorem lt_cfT (x y : TV) : Go.Proofs.ltOf cfT x y = decide (x.at_ < y.at_) := by
 unfold Go.Proofs.ltOf cfT
 by_cases h : x.at_ < y.at_
 ·rw [decide_eq_true h, decide_eq_true (zcmp_neg.2 h)]
 ·rw [decide_eq_false h, decide_eq_false (fun h2 => h (zcmp_neg.1 h2))]
theorem swoT : SWO (Go.Proofs.ltOf cfT) where
 irrefl x := by rw [lt_cfT]; simp
 trans x y z h1 h2 := by rw [lt_cfT] at *; simp at *; omega
 ntrans x y z h1 h2 := by rw [lt_cfT] at *; simp at *; omega
def RetOr (w : World) (A : Option Addr) (n : Nat) (ys : List (TV × Rat)) (k : Nat) (e : Ending) (w' : World) : Prop :=
 ∃ A' c' ys', e = .returned (.slice A' n c') ∧ IsV w' A' n c' ys' k ∧ (vals ys').Perm (vals ys) ∧ Up (vals ys') ∧ Below w.heap.size w w' ∧ (A' = A ∨ ∃ g, A' = some ⟨g, 0, none⟩ ∧ w.heap.size ≤ g)
theorem info_t : (Tryz.prog.info? 67).map (fun i => (i.zero, i.size, i.bytes)) = some (some (.agg #[.int .i64 0, .bool false, .slice none 0 0, .bool false, .slice none 0 0]), 5, 72) := by kernel_rfl
set_option maxRecDepth 100000 in
set_option maxHeartbeats 4000000 in
theorem ordered_any {w : World} {A : Option Addr} {n c k : Nat} {ys : List (TV × Rat)} (h : IsV w A n c ys k) (hn : n ≤ 1000000) :
  Calls tz 147 #[.slice A n c] w (RetOr w A n ys k) := by
 have H := lh h
 have HN := lh hn
 clear h hn
 go_enter Tryz.func147, Tryz.ntmps147
 go_wp2_with fail
 refine (sorted_any H.out (by have := HN.out; omega)).mono ?_
 rintro e w1 ⟨b, rfl, hup, hne, hb1⟩
 have H1 := lh (H.out.below hb1)
 have HB1 := lh hb1
 clear hb1
 cases b with
 | true =>
  have HU : Hid (Up (vals ys)) := hup rfl
  clear hup hne
  go_wp2_with fail
  refine bodyPost_ret (v := .slice A n c) (by simp [results, Tryz.results147, go_sem]) rfl ?_
  exact ⟨A, c, ys, rfl, H1.out, List.Perm.refl _, HU.out, HB1.out, .inl rfl⟩
 | false =>
  have hne2 : ys.map Prod.fst ≠ [] := by intro h; apply hne rfl; rw [List.map_eq_nil_iff] at h; rw [h]; rfl
  obtain ⟨bk, off, hA, hlt, _⟩ := H1.out.row hne2
  subst hA
  have HLT := lh hlt
  obtain ⟨i0, hi0, hz0, hz1, hz2⟩ := info_parts info_t
  have HCL : Hid (Calls tz 189 #[.slice (some ⟨bk, off, none⟩) n c] w1 fun e w' => ∃ v', e = .returned v' ∧ w'.ownsRow w1.heap.size 67 5 v' n (flat (ys.map Prod.fst)) ∧ v' ≠ .slice none 0 0 ∧ Below w1.heap.size w1 w') := by
   exact AnyE.slices_Clone Tryz.cloneT i0 (.agg #[.int .i64 0, .bool false, .slice none 0 0, .bool false, .slice none 0 0]) 5 72 hi0 hz0 hz1 hz2 rfl (by decide) Tryz.sizeOf67 bk off n c (flat (ys.map Prod.fst)) w1 (by rw [flat_len, List.length_map, H1.out.en]) (by unfold maxLen; have := HN.out; omega) (by have := HN.out; omega) (flat_cells H1.out.row) (one_cell _)
  clear hup hne hlt hi0 hz0 hz1 hz2
  go_wp2_with fail
  refine HCL.out.mono ?_
  rintro e w2 ⟨v', rfl, hown, hnn, hb2⟩
  obtain ⟨hl, hrow⟩ := hown
  rcases hrow with ⟨rfl, _⟩ | ⟨g, cap, cur, rfl, hg, hgc, hnc, _, hcs, htake⟩
  ·exact absurd rfl hnn
  have HC2 : Hid (∀ j u, (flat (ys.map Prod.fst))[j]? = some u → w2.cell? ⟨g, 0 + j, none⟩ = some u) := by
   intro j u hj
   rw [Nat.zero_add, cell_of_row w2 g j _ _ _ hgc]
   rw [← htake, List.getElem?_take] at hj
   split at hj
   ·simpa using hj
   ·cases hj
  have HH := lh (flat_holds HC2.out (fun j => frozen_of_row w2 g (0 + j) _ _ hgc))
  have hglt : g < w2.heap.size := (Array.getElem?_eq_some_iff.1 hgc).1
  have eg : ∀ args w, (callFunc 187 args).run tz w = .ok (.enter 187 args) w := enters_of Tryz.func187 (by kernel_rfl) rfl
  have hsz : (ys.map Prod.fst).toArray.size = n := by simp; exact H.out.en.symm
  have HSO : Hid (Calls tz 190 #[.slice (some ⟨g, 0, none⟩) n cap, .func (.func 187) #[] #[]] w2 fun e w' => e = .returned (.tuple #[]) ∧ ∃ d' m os, PermIn 0 n (ys.map Prod.fst).toArray d' ∧ SortedIn (Go.Proofs.ltOf cfT) 0 n d' ∧ w' = sortWorldK TV.enc 5 w2 g 0 m d' os) := by
   have h := AnyQ.slices_SortFunc Tryz.sortT 5 Tryz.isAgg67 Tryz.sizeOf67 TV.enc enc_len (fun x v hv => by simp only [TV.enc, List.mem_cons, List.not_mem_nil, or_false] at hv; rcases hv with rfl | rfl | rfl | rfl | rfl <;> rfl) cfT swoT 187 #[] g 0 cap (ys.map Prod.fst).toArray w2 eg (fun _ _ _ _ x y => less_any x y _) HH.out hglt (by rw [hsz]; have := HN.out; omega)
   rw [hsz] at h
   exact h
  have HB2 := lh (below_on HB1.out hb2)
  have HG : Hid (w.heap.size ≤ g) := Nat.le_trans HB1.out.size hg
  have HGL := lh hglt
  have HSZ := lh hsz
  have HNC := lh hnc
  clear hl hg hgc hnc hcs htake hnn hb2 hglt eg hsz
  go_wp2_with fail
  refine HSO.out.mono ?_
  rintro e w3 ⟨rfl, d', m, os, hp, hs, hw3⟩
  have HP := lh hp
  have HS := lh hs
  have HW3 := lh hw3
  clear hp hs hw3
  go_wp2_with fail
  refine bodyPost_ret (v := .slice (some ⟨g, 0, none⟩) n cap) (by simp [results, Tryz.results147, go_sem]) rfl ?_
  obtain ⟨hd1, _, hd3⟩ := HP.out
  have hdn : d'.size = n := hd1.trans HSZ.out
  have hperm : d'.toList.Perm (ys.map Prod.fst) := by
   have e1 : (d'.extract 0 n).toList = d'.toList := by rw [← hdn]; simp
   have e2 : ((ys.map Prod.fst).toArray.extract 0 n).toList = ys.map Prod.fst := by rw [← HSZ.out]; simp [List.take_of_length_le]
   rw [e1, e2] at hd3
   exact hd3
  obtain ⟨ys', h1, h2⟩ := perm_lift hperm ys rfl
  have hb3 : Below w.heap.size w w3 := by
   rw [HW3.out]
   exact HB2.out.trans (below_sort w2 _ g 0 m d' os HG.out HB2.out.size)
  have hlen : ys'.length = n := by rw [h1.length_eq]; exact H.out.en.symm
  have hd2 : d' = (ys'.map Prod.fst).toArray := by rw [h2]
  have hrow3 : Row w3 (some ⟨g, 0, none⟩) (ys'.map Prod.fst) := by
   refine row_cells (Nat.lt_of_lt_of_le HGL.out (by rw [HW3.out]; exact (below_sort w2 0 g 0 m d' os (Nat.zero_le _) (Nat.zero_le _)).size)) (holds_flat ?_)
   rw [← hd2, HW3.out]
   exact Go.Proofs.holdsK_sortWorldK TV.enc 5 w2 g 0 m _ d' os HGL.out HH.out hd1
  refine ⟨some ⟨g, 0, none⟩, cap, ys', rfl, ⟨hlen.symm, HNC.out, hrow3, fun y hy => (H.out.tq y (h1.mem_iff.1 hy)).below hb3⟩, h1.map _, ?_, hb3, .inr ⟨g, rfl, HG.out⟩⟩
  refine List.pairwise_iff_getElem.2 fun i j hi hj hij => ?_
  have hi' : i < ys'.length := by rwa [vals_len] at hi
  have hj' : j < ys'.length := by rwa [vals_len] at hj
  have h3 := HS.out i j (Nat.zero_le _) hij (by omega)
  have e1 : (d'[i]! : TV) = (ys'[i]).1 := by rw [hd2, getElem!_pos _ i (by simpa using hi')]; simp
  have e2 : (d'[j]! : TV) = (ys'[j]).1 := by rw [hd2, getElem!_pos _ j (by simpa using hj')]; simp
  rw [lt_cfT, e1, e2] at h3
  have e3 : (vals ys')[i] = ((ys'[i]).1.at_, (ys'[i]).2) := by simp [vals]
  have e4 : (vals ys')[j] = ((ys'[j]).1.at_, (ys'[j]).2) := by simp [vals]
  rw [e3, e4]
  have := of_decide_eq_false h3
  show (ys'[i]).1.at_ ≤ (ys'[j]).1.at_
  omega
end V

namespace V
open Go.RowKit
open Q (IsQ OneQ below_on ql)
def AllT (w : World) (v : Value) : Prop := ∀ g, v.ownBlock = some g → ∀ j u, w.cell? ⟨g, j, none⟩ = some u → ∀ z, u ≠ .int .u64 z
structure OwnT (w : World) (base : Nat) (v : Value) (ts : List TV) : Prop where
 row : w.ownsRow base 67 5 v ts.length (flat ts)
 all : AllT w v
 some_ : ∃ g n c, v = .slice (some ⟨g, 0, none⟩) n c
def zeroT : Value := .agg #[.int .i64 0, .bool false, .slice none 0 0, .bool false, .slice none 0 0]
theorem zero_t (n : Nat) : ∀ u ∈ Builtin.zeroCells zeroT.cells n, ∀ z, u ≠ Value.int .u64 z := by
 intro u hu
 unfold Builtin.zeroCells at hu
 obtain ⟨i, _, rfl⟩ := Array.mem_map.1 hu
 have e : zeroT.cells = #[.int .i64 0, .bool false, .slice none 0 0, .bool false, .slice none 0 0] := rfl
 have hi : i % zeroT.cells.size < 5 := by rw [e]; exact Nat.mod_lt _ (by decide)
 generalize i % zeroT.cells.size = k at hi
 rw [e]
 intro z
 match k, hi with
 | 0, _ => intro h; cases h
 | 1, _ => intro h; cases h
 | 2, _ => intro h; cases h
 | 3, _ => intro h; cases h
 | 4, _ => intro h; cases h
theorem flat_no (ts : List TV) : ∀ u ∈ flat ts, ∀ z, u ≠ Value.int .u64 z := by
 intro u hu z
 obtain ⟨x, _, hx⟩ := List.mem_flatMap.1 hu
 simp only [TV.enc, List.mem_cons, List.not_mem_nil, or_false] at hx
 rcases hx with rfl | rfl | rfl | rfl | rfl <;> intro h <;> cases h
theorem flat_append (xs ys : List TV) : flat (xs ++ ys) = flat xs ++ flat ys := by unfold flat; rw [List.flatMap_append]
theorem flat_one (x : TV) : flat [x] = x.enc := by unfold flat; simp
set_option maxHeartbeats 1000000 in
theorem appT_at (w : World) (base : Nat) (ty : TypeId) (v : Value) (ts : List TV) (x : TV) (ad : Addr) (hown : OwnT w base v ts) (had : ∀ j u, x.enc[j]? = some u → w.cell? (ad.add j) = some u) (h : ts.length ≤ 10000000) (hbase : base ≤ w.heap.size) :
  ∃ v' w', (Builtin.append_ #[33, 33] ty #[v, .slice (some ad) 1 1]).run tz w = .ok v' w' ∧ OwnT w' base v' (ts ++ [x]) ∧ w.grownBy w' v.ownBlock ∧ (v'.ownBlock = v.ownBlock ∨ v'.ownBlock = some w.heap.size) := by
 obtain ⟨i, hi, hz, hs, hb⟩ := info_parts info_t
 obtain ⟨hown, hall, g0, n0, c0, hv0⟩ := hown
 have ho1 : ∀ u ∈ x.enc, u.oneCell' = true := by intro u hu; exact one_cell [x] u (by rw [flat_one]; exact hu)
 have under : Tryz.prog.underlying 33 = some (.slice 67) := by kernel_rfl
 obtain ⟨v', w', hr, ho, hg, hnn⟩ := run_append_own (P := tz) w base 33 ty 67 i zeroT 5 72 under hi hz hs hb rfl (by decide) v ts.length (flat ts) hown ad 1 1 x.enc rfl had ho1 (by unfold maxLen; omega) (by omega) hbase
 suffices hh : AllT w' v' ∧ (∃ g n c, v' = .slice (some ⟨g, 0, none⟩) n c) ∧ (v'.ownBlock = v.ownBlock ∨ v'.ownBlock = some w.heap.size) from ⟨v', w', hr, ⟨by rw [List.length_append, flat_append, flat_one]; exact ho, hh.1, hh.2.1⟩, hg, hh.2.2⟩
 rcases hown.2 with ⟨rfl, h0⟩ | ⟨g, cap, cur, rfl, hbg, hgc, hnc, hcm, hcs, htake⟩
 ·cases hv0
 ·have hcur : ∀ u ∈ cur.toList, ∀ z, u ≠ Value.int .u64 z := by
   intro u hu
   obtain ⟨j, hj, rfl⟩ := List.getElem_of_mem hu
   refine hall g rfl j _ ?_
   rw [cell_of_row w g j _ _ _ hgc]
   rw [Array.length_toList] at hj
   rw [Array.getElem?_eq_getElem hj]; rfl
  have hx5 : ∀ u ∈ x.enc, ∀ z, u ≠ Value.int .u64 z := by intro u hu; exact flat_no [x] u (by rw [flat_one]; exact hu)
  by_cases hroom : ts.length + 1 ≤ cap
  ·have hr2 := run_append_room (P := tz) w 33 ty 67 i under hi g ts.length cap cur hgc ad 1 1 x.enc (by rw [hs]; rfl) had ho1 hroom (by rw [hs, hcs, enc_len]; omega)
   obtain ⟨e1, e2⟩ := Result.ok.inj (hr.symm.trans hr2)
   refine ⟨?_, ⟨_, _, _, e1⟩, .inl (by rw [e1]; rfl)⟩
   intro g' hg2 j u hu
   rw [e1] at hg2
   obtain rfl : g = g' := by injection hg2
   rw [e2, cell_of_row _ g j _ _ _ (setRow_heap w g cur _ _ _ hgc)] at hu
   have hm := Array.mem_of_getElem? hu
   rcases List.mem_append.1 (List.mem_toArray.1 hm) with hm | hm
   ·rcases List.mem_append.1 hm with hm | hm
    ·exact hcur u (List.mem_of_mem_take hm)
    ·exact hx5 u hm
   ·exact hcur u (List.mem_of_mem_drop hm)
  ·have hr2 := run_append_grow (P := tz) w 33 ty 67 i zeroT under hi hz ⟨g, 0, none⟩ ts.length cap (flat ts) (by rw [hs, flat_len]) (fun j u hu => hown.cells (g := g) rfl j u hu) ad 1 1 x.enc (by rw [hs]; rfl) had (by omega) (by omega)
    (growslice_fits_wide (by omega) (by rw [hb]; omega))
   obtain ⟨e1, e2⟩ := Result.ok.inj (hr.symm.trans hr2)
   refine ⟨?_, ⟨_, _, _, e1⟩, .inr (by rw [e1]; rfl)⟩
   intro g' hg2 j u hu
   rw [e1] at hg2
   obtain rfl : w.heap.size = g' := by injection hg2
   rw [e2] at hu
   have hu2 : (w.drew.alloc (.cells ((flat ts).toArray ++ x.enc.toArray ++ Builtin.zeroCells zeroT.cells (grownCap w (ts.length + 1) cap 67 - (ts.length + 1))) 67)).cell? ⟨w.drew.heap.size, j, none⟩ = some u := hu
   rw [World.cell?_alloc_new] at hu2
   rcases Array.mem_append.1 (Array.mem_of_getElem? hu2) with hx | hx
   ·rcases Array.mem_append.1 hx with hx | hx
    ·exact flat_no ts u (List.mem_toArray.1 hx)
    ·exact hx5 u (List.mem_toArray.1 hx)
   ·exact zero_t _ u hx
