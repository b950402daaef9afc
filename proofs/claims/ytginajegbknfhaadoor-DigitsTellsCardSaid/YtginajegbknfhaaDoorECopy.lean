/- CopyWords of tripwirelow. -/
import Derived.Test.YtginajegbknfhaaDoorEAll
import Derived.Laws.AppendOwnNone
namespace Go.Proofs.YtginajegbknfhaaDoor
open Go.RowKit

theorem num_of_own64 {w : World} {base : Nat} {v : Value} {n : Nat} {xs : List Nat} (hd : Digs xs) (h : w.ownsRow base 31 1 v n (xs.map dcell)) :
    ∃ A c, v = .slice A xs.length c ∧ xs.length ≤ c ∧ Num w A xs := by
  obtain ⟨hl, h⟩ := h
  rw [List.length_map] at hl
  have hn : n = xs.length := by omega
  subst hn
  rcases h with ⟨rfl, h0⟩ | ⟨g, cap, cur, rfl, hb, hg, hc, hm, hs, ht⟩
  · exact ⟨none, 0, by rw [h0], by omega, by rw [List.length_eq_zero_iff.1 h0]; exact Num.nil _ _⟩
  · refine ⟨some ⟨g, 0, none⟩, cap, rfl, hc, hd, fun _ => ⟨g, 0, rfl, lt_of_block hg, fun i hi => ?_⟩⟩
    rw [Nat.zero_add, cell_of_row w g i _ _ _ hg]
    rw [Nat.mul_one] at ht
    have h2 : cur.toList[i]? = (xs.map dcell)[i]? := by rw [← ht, List.getElem?_take_of_lt hi]
    rw [← Array.getElem?_toList, h2, List.getElem?_map, List.getElem?_eq_getElem hi, dg_of_lt hi]
    rfl
theorem Num.news64 {w : World} {ad : Addr} {xs : List Nat} (h : Num w (some ad) xs) : ∀ (j : Nat) (u : Value), (xs.map dcell)[j]? = some u → w.cell? (ad.add j) = some u := by
  intro j u hj
  rw [List.getElem?_map] at hj
  rcases Nat.lt_or_ge j xs.length with hlt | hge
  · obtain ⟨b, off, e, _, hc⟩ := h.at_ (by omega)
    injection e with e
    subst e
    rw [List.getElem?_eq_getElem hlt] at hj
    rw [addr_add, hc j hlt, dg_of_lt hlt]
    exact hj
  · rw [List.getElem?_eq_none hge] at hj
    cases hj
theorem dcells64_one (xs : List Nat) : ∀ u ∈ xs.map dcell, u.oneCell' = true := by
  intro u hu
  obtain ⟨x, _, rfl⟩ := List.mem_map.1 hu
  rfl
/-- A copy: the digits as they stand. -/
def RetCW (w : World) (xs : List Nat) (e : Ending) (w' : World) : Prop :=
  ∃ A c, e = .returned (.slice A xs.length c) ∧ xs.length ≤ c ∧ Num w' A xs ∧ Below w.heap.size w w'

set_option maxHeartbeats 1000000 in
theorem copyw_any (w : World) (A : Option Addr) (c : Nat) (xs : List Nat) (ha : Num w A xs) (hA : A = none → c = 0) (hn : xs.length ≤ 1000000) :
    Calls Tryd.prog 11 #[.slice A xs.length c] w (RetCW w xs) := by
  obtain ⟨i0, hi0, hz0, hz1, hz2⟩ := info_parts info_u64
  cases A with
  | none =>
    have hc : c = 0 := hA rfl
    have hx : xs = [] := by
      rcases xs with _ | ⟨x, r⟩
      · rfl
      · obtain ⟨_, _, e, _⟩ := ha.at_ (by simp)
        cases e
    subst hx
    subst hc
    clear ha hA hn
    go_enter Tryd.func11, Tryd.ntmps11
    go_wp2_with ((at_builtin; refine wpList_append_own_none rfl (.tmp 4) (.tmp 5) 23 rfl w.heap.size 31 i0 1 under_u64s hi0 (.slice none 0 0) 0 [] rfl (World.ownsRow_nil _ _ _ _) rfl ?_))
    go_ret
    exact ⟨none, 0, rfl, Nat.le_refl _, Num.nil _ _, Below.refl _ _⟩
  | some ad =>
    have hnum := ha.news64
    have HD := ha.1
    have HNW := Lib.hid hnum
    have HL : Hid ((xs.map dcell).length = xs.length * 1) := by show _ = _; simp
    clear hnum ha hA
    go_enter Tryd.func11, Tryd.ntmps11
    go_wp2_with ((at_builtin; refine wpList_append_own w rfl (.tmp 4) (.tmp 5) 23 rfl w.heap.size 31 i0 (.int .u64 0) 1 8 under_u64s hi0 hz0 hz1 hz2 rfl (by decide) (.slice none 0 0) 0 [] rfl (World.ownsRow_nil _ _ _ _) ad xs.length c (xs.map dcell) rfl HL.out HNW.out (dcells64_one _) (by unfold maxLen; omega) (by omega) (Nat.le_refl _) ?_); intro v' w3 hown' hgrow hnil)
    rw [List.nil_append, Nat.zero_add] at hown'
    obtain ⟨A3, c3, rfl, hc3, hnum⟩ := num_of_own64 HD hown'
    have HN3 := Lib.hid hnum
    have HB3 := Lib.hid ((Below.refl w.heap.size w).grown hgrow (Nat.le_refl _) (fun k hk => by cases hk))
    clear hown' hgrow hnil hnum
    go_wp2_with fail
    go_ret
    exact ⟨A3, c3, rfl, hc3, HN3.out, HB3.out⟩
end Go.Proofs.YtginajegbknfhaaDoor
