/- powersFor: the powers of ten by which halves are parted. -/
import Derived.Test.YtginajegbknfhaaDoorDPiece
namespace Go.Proofs.YtginajegbknfhaaDoor.D
open Go.RowKit

theorem info_sl : (Tryd.prog.info? 23).map (fun i => (i.zero, i.size, i.bytes)) = some (some (.slice none 0 0), 1, 24) := by kernel_rfl
theorem under_sl : Tryd.prog.underlying 64 = some (.slice 23) := by kernel_rfl

/-- All cells of v's own row are slices, its spare ones too. -/
def AllS (w : World) (v : Value) : Prop := ∀ g, v.ownBlock = some g → ∀ j u, w.cell? ⟨g, j, none⟩ = some u → ∃ A n c, u = .slice A n c
/-- A row of slices of the call's own. -/
structure OwnS (w : World) (base : Nat) (v : Value) (vs : List Value) : Prop where
  row : w.ownsRow base 23 1 v vs.length vs
  all : AllS w v
  pos : 0 < vs.length
theorem zero_sl (n : Nat) : ∀ u ∈ Builtin.zeroCells (Value.cells (.slice none 0 0)) n, ∃ A m c, u = Value.slice A m c := by
  intro u hu
  unfold Builtin.zeroCells at hu
  obtain ⟨i, _, rfl⟩ := Array.mem_map.1 hu
  refine ⟨none, 0, 0, ?_⟩
  have e : (Value.cells (.slice none 0 0)) = #[.slice none 0 0] := rfl
  rw [e, show i % (#[Value.slice none 0 0] : Array Value).size = 0 from Nat.mod_one i]
  rfl

/-- append(v, x), x a slice: just v's own row may have turned. -/
theorem appS_at (w : World) (base : Nat) (ty : TypeId) (v : Value) (vs : List Value) (B : Option Addr) (n c : Nat) (ad : Addr) (hown : OwnS w base v vs) (had : w.cell? ad = some (.slice B n c)) (h : vs.length ≤ 1000000) (hbase : base ≤ w.heap.size) :
    ∃ v' w', (Builtin.append_ #[64, 64] ty #[v, .slice (some ad) 1 1]).run Tryd.prog w = .ok v' w' ∧ OwnS w' base v' (vs ++ [.slice B n c]) ∧ w.grownBy w' v.ownBlock := by
  obtain ⟨i, hi, hz, hs, hb⟩ := info_parts info_sl
  obtain ⟨hown, hall, hpos⟩ := hown
  have hn1 : ∀ j u, [Value.slice B n c][j]? = some u → w.cell? (ad.add j) = some u := by
    intro j u hj
    match j, hj with
    | 0, hj =>
      simp only [List.getElem?_cons_zero, Option.some.injEq] at hj
      subst hj
      have e : ad.add 0 = ad := by simp [Addr.add]
      rw [e]; exact had
  have ho1 : ∀ u ∈ [Value.slice B n c], u.oneCell' = true := by intro u hu; simp only [List.mem_singleton] at hu; subst hu; rfl
  obtain ⟨v', w', hr, ho, hg, hnn⟩ := run_append_own (P := Tryd.prog) w base 64 ty 23 i (.slice none 0 0) 1 24 under_sl hi hz hs hb rfl (by decide) v vs.length vs hown ad 1 1 [.slice B n c] rfl hn1 ho1 (by unfold maxLen; omega) (by omega) hbase
  suffices hh : AllS w' v' from ⟨v', w', hr, ⟨by rw [List.length_append]; exact ho, hh, by simp⟩, hg⟩
  rcases hown.2 with ⟨rfl, h0⟩ | ⟨g, cap, cur, rfl, hbg, hgc, hnc, hcm, hcs, htake⟩
  · omega
  · have hcur : ∀ u ∈ cur.toList, ∃ A m c, u = Value.slice A m c := by
      intro u hu
      obtain ⟨j, hj, rfl⟩ := List.getElem_of_mem hu
      refine hall g rfl j _ ?_
      rw [cell_of_row w g j _ _ _ hgc]
      rw [Array.length_toList] at hj
      rw [Array.getElem?_eq_getElem hj]; rfl
    have hvs : ∀ u ∈ vs, ∃ A m c, u = Value.slice A m c := by
      intro u hu
      rw [← htake] at hu
      exact hcur u (List.mem_of_mem_take hu)
    by_cases hroom : vs.length + 1 ≤ cap
    · have hr2 := run_append_room (P := Tryd.prog) w 64 ty 23 i under_sl hi g vs.length cap cur hgc ad 1 1 [.slice B n c] (by rw [hs]; rfl) hn1 ho1 hroom (by rw [hs, hcs]; simp; omega)
      obtain ⟨e1, e2⟩ := Result.ok.inj (hr.symm.trans hr2)
      intro g' hg2 j u hu
      rw [e1] at hg2
      obtain rfl : g = g' := by injection hg2
      rw [e2, cell_of_row _ g j _ _ _ (setRow_heap w g cur _ _ _ hgc)] at hu
      have hm := Array.mem_of_getElem? hu
      rcases List.mem_append.1 (List.mem_toArray.1 hm) with hm | hm
      · rcases List.mem_append.1 hm with hm | hm
        · exact hcur u (List.mem_of_mem_take hm)
        · simp only [List.mem_singleton] at hm
          exact ⟨_, _, _, hm⟩
      · exact hcur u (List.mem_of_mem_drop hm)
    · have hr2 := run_append_grow (P := Tryd.prog) w 64 ty 23 i (.slice none 0 0) under_sl hi hz ⟨g, 0, none⟩ vs.length cap vs (by rw [hs]; exact hown.1) (fun j u hu => hown.cells (g := g) rfl j u hu) ad 1 1 [.slice B n c] (by rw [hs]; rfl) hn1 (by omega) (by omega)
        (growslice_fits_wide (by omega) (by rw [hb]; omega))
      obtain ⟨e1, e2⟩ := Result.ok.inj (hr.symm.trans hr2)
      intro g' hg2 j u hu
      rw [e1] at hg2
      obtain rfl : w.heap.size = g' := by injection hg2
      rw [e2] at hu
      have hu2 : (w.drew.alloc (.cells (vs.toArray ++ [Value.slice B n c].toArray ++ Builtin.zeroCells (Value.cells (.slice none 0 0)) (grownCap w (vs.length + 1) cap 23 - (vs.length + 1))) 23)).cell? ⟨w.drew.heap.size, j, none⟩ = some u := hu
      rw [World.cell?_alloc_new] at hu2
      rcases Array.mem_append.1 (Array.mem_of_getElem? hu2) with hx | hx
      · rcases Array.mem_append.1 hx with hx | hx
        · exact hvs u (List.mem_toArray.1 hx)
        · have hx2 := List.mem_toArray.1 hx
          simp only [List.mem_singleton] at hx2
          exact ⟨_, _, _, hx2⟩
      · exact zero_sl _ u hx

theorem wp_appS {ops : Array Oper} {rest : List Oper} {o : Oper} {a : Act} {w : World} {Q : Exit → Act → World → Prop} (hgd : o.guard = none) (sl x : Operand)
    (ho : o.op = .call { callee := .builtin .append, args := #[sl, x], argTypes := #[64, 64] })
    (base : Nat) (v : Value) (vs : List Value) (B : Option Addr) (n c : Nat) (ad : Addr) (hs : a.eval sl = v) (hx : a.eval x = .slice (some ad) 1 1) (hown : OwnS w base v vs) (had : w.cell? ad = some (.slice B n c)) (h : vs.length ≤ 1000000) (hbase : base ≤ w.heap.size)
    (hk : ∀ v' w', OwnS w' base v' (vs ++ [.slice B n c]) → w.grownBy w' v.ownBlock → wpList Tryd.prog ops Q rest (a.put o.dst v') w') : wpList Tryd.prog ops Q (o :: rest) a w := by
  refine wpList_plain hgd fun K hK => ?_
  obtain ⟨v', w', hr, h1, h2⟩ := appS_at w base o.type v vs B n c ad hown had h hbase
  unfold Oper.wp
  simp [execOp, ho, resolve, invoke, builtin, hs, hx, hr, Result.andThen]
  exact hK _ _ (hk v' w' h1 h2)

/-- The powers: 10^19, its square, and so on. -/
def PW (i : Nat) : Nat := 10 ^ (19 * 2 ^ i)
theorem PW_zero : PW 0 = 10000000000000000000 := by decide
theorem PW_succ (i : Nat) : PW (i + 1) = PW i * PW i := by unfold PW; rw [← Nat.pow_add]; congr 1; rw [Nat.pow_succ]; omega
theorem PW_pos (i : Nat) : 0 < PW i := Nat.pow_pos (by omega)
theorem PW_big (i : Nat) : 2 ^ (63 * 2 ^ i) ≤ PW i := by
  unfold PW
  rw [Nat.pow_mul 2, Nat.pow_mul 10]
  exact Nat.pow_le_pow_left (by decide) _
theorem blen_ge {n k : Nat} (h : 2 ^ k ≤ n) : k < blen n := by
  rcases Nat.lt_or_ge k (blen n) with h1 | h1
  · exact h1
  · have h2 := blen_lt n
    have h3 : 2 ^ blen n ≤ 2 ^ k := Nat.pow_le_pow_right (by omega) h1
    omega
theorem PW_blen (i : Nat) : 63 * 2 ^ i < blen (PW i) := blen_ge (PW_big i)
/-- Where the loop ends the size is below the last one's square. -/
theorem PW_end {n i : Nat} (h : blen n < 2 * blen (PW i) - 1) : n < PW (i + 1) := by
  have h1 := blen_lt n
  have hb := PW_blen i
  have h2 : 2 ^ (blen (PW i) - 1) ≤ PW i := blen_le (by omega)
  have h3 : 2 ^ blen n ≤ 2 ^ (blen (PW i) - 1 + (blen (PW i) - 1)) := Nat.pow_le_pow_right (by omega) (by omega)
  rw [Nat.pow_add] at h3
  have h4 := Nat.mul_le_mul h2 h2
  rw [PW_succ]
  omega
/-- What each power's slice is. -/
def PL (w : World) (vs : List Value) : Prop := ∀ i, i < vs.length → ∃ A c, vs[i]? = some (.slice A (dig (PW i)).length c) ∧ (dig (PW i)).length ≤ c ∧ Num w A (dig (PW i))
theorem PL.below {w w1 : World} {vs : List Value} (h : PL w vs) (hb : Below w.heap.size w w1) : PL w1 vs := fun i hi => by
  obtain ⟨A, c, h1, h2, h3⟩ := h i hi
  exact ⟨A, c, h1, h2, h3.below hb⟩
theorem AllS.num {w w1 : World} {v : Value} (h : AllS w v) (hg : w.grownBy w1 v.ownBlock) {A : Option Addr} {xs : List Nat} (ha : Num w A xs) : Num w1 A xs :=
  ⟨ha.1, fun hn => by
    obtain ⟨b, off, e, hlt, hc⟩ := ha.2 hn
    refine ⟨b, off, e, Nat.lt_of_lt_of_le hlt hg.size, fun i hi => ?_⟩
    refine (World.cell?_of_block (hg.block b hlt ?_)).trans (hc i hi)
    intro e2
    obtain ⟨_, _, _, hz⟩ := h b e2.symm _ _ (hc i hi)
    cases hz⟩
theorem PL.grown {w w1 : World} {vs : List Value} {v : Value} (h : PL w vs) (ha : AllS w v) (hg : w.grownBy w1 v.ownBlock) : PL w1 vs := fun i hi => by
  obtain ⟨A, c, h1, h2, h3⟩ := h i hi
  exact ⟨A, c, h1, h2, ha.num hg h3⟩
theorem PL.snoc {w : World} {vs : List Value} (h : PL w vs) {A : Option Addr} {c : Nat} (hc : (dig (PW vs.length)).length ≤ c) (hn : Num w A (dig (PW vs.length))) : PL w (vs ++ [.slice A (dig (PW vs.length)).length c]) := fun i hi => by
  by_cases h1 : i < vs.length
  · obtain ⟨A, c, k1, k2, k3⟩ := h i h1
    exact ⟨A, c, by rw [List.getElem?_append_left h1]; exact k1, k2, k3⟩
  · have e : i = vs.length := by simp at hi; omega
    subst e
    exact ⟨A, c, by simp, hc, hn⟩
end Go.Proofs.YtginajegbknfhaaDoor.D
