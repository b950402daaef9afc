/- Part 41 of the proof: MxPTurn. -/
import Derived.Test.YthjiacmhhpfokaaGreatL40
namespace Go.Proofs.YthjiacmhhpfokaaGreat
open Act renaming put → aP
open Nat renaming le_refl → lR
open Go.RowKit.Below renaming refl → bR
open List renaming getElem?_eq_getElem → gE
open Option.some renaming inj → oI
namespace V
open List renaming getElem_toArray → gY, getElem_cons_zero → gZ, getElem_cons_succ → gJ, setIfInBounds_toArray → sT, set_cons_zero → sZ, set_cons_succ → sS
open Lib renaming hid → lh
open Go.RowKit
open Q (IsQ OneQ RetQ below_on ql Qbx)
def gof (C : Cols) (l : List (Int × Rat)) (k i : Nat) (r : Nat) (a : Int) : Rat := if 0 ≤ a ∧ a < (k : Int) then col C a.toNat (r : Int) else if a = (k : Int) then tot (l.take i) (r : Int) else 0
def ownOf (v : SV) : Option Nat := (Value.slice v.A v.n v.c).ownBlock
structure RowZ (w : World) (base : Nat) (v : SV) (F : Int → Rat) : Prop where
 own : OwnZ w base (.slice v.A v.n v.c) v.ys
 can : Canon (vals v.ys)
 tot : ∀ a, V.tot (vals v.ys) a = F a
structure TZ (w : World) (base g : Nat) (vs : List SV) (F : Nat → Int → Rat) : Prop where
 out : OutS w g vs
 row : ∀ (j : Nat) (v : SV), vs[j]? = some v → RowZ w base v (F j)
 ne : ∀ (j : Nat) (v : SV), vs[j]? = some v → ownOf v ≠ some g
 two : ∀ (i j : Nat) (u v : SV), vs[i]? = some u → vs[j]? = some v → i ≠ j → ∀ b, ownOf u = some b → ownOf v ≠ some b
theorem TZ.below {w w' : World} {base g : Nat} {vs : List SV} {F : Nat → Int → Rat} (h : TZ w base g vs F) (hb : Below w.heap.size w w') : TZ w' base g vs F :=
 ⟨h.out.below hb, fun j v hv => ⟨(h.row j v hv).own.below hb, (h.row j v hv).can, (h.row j v hv).tot⟩, h.ne, h.two⟩
theorem TZ.congr {w : World} {base g : Nat} {vs : List SV} {F G : Nat → Int → Rat} (h : TZ w base g vs F) (e : ∀ j, j < vs.length → ∀ a, F j a = G j a) : TZ w base g vs G :=
 ⟨h.out, fun j v hv => ⟨(h.row j v hv).own, (h.row j v hv).can, fun a => ((h.row j v hv).tot a).trans (e j (List.getElem?_eq_some_iff.1 hv).1 a)⟩, h.ne, h.two⟩
theorem OwnZ.near {w wx : World} {base : Nat} {v : Value} {zs : List (TV × Rat)} {Own : Nat → Prop} (h : OwnZ w base v zs) (hd : NoDig w Own) (hn : Near Own w wx) (ho : ∀ b, v.ownBlock = some b → ¬ Own b) : OwnZ wx base v zs :=
 ⟨h.own.keep (fun g hg => hn.block g (h.own.lt hg) (ho g hg)), fun y hy => ⟨one_near (h.one y hy).1 hd hn, (h.one y hy).2⟩⟩
structure ZS (w : World) (g n c : Nat) (zs : List (TV × Rat)) : Prop where
 isv : IsV w (some ⟨g, 0, none⟩) n c zs 700
 one : ∀ y ∈ zs, OneQ w y.1.s y.1.A y.1.n y.1.c y.1.t y.1.B y.1.m y.1.d y.2 ∧ -9223372036854775808 ≤ y.1.at_ ∧ y.1.at_ ≤ 9223372036854775807
 lt : g < w.heap.size
theorem ZS.below {w w' : World} {g n c : Nat} {zs : List (TV × Rat)} (h : ZS w g n c zs) (hb : Below w.heap.size w w') : ZS w' g n c zs :=
 ⟨h.isv.below hb, fun y hy => ⟨(h.one y hy).1.below hb, (h.one y hy).2⟩, Nat.lt_of_lt_of_le h.lt hb.size⟩
theorem ZS.near {w wx : World} {g n c : Nat} {zs : List (TV × Rat)} {Own : Nat → Prop} (h : ZS w g n c zs) (hd : NoDig w Own) (hn : Near Own w wx) (ho : ¬ Own g) : ZS wx g n c zs :=
 ⟨h.isv.near (fun a ha => by obtain rfl := oI ha; exact ho) hd hn, fun y hy => ⟨one_near (h.one y hy).1 hd hn, (h.one y hy).2⟩, Nat.lt_of_lt_of_le h.lt hn.size⟩
theorem norm_z {w : World} {A : Option Addr} {n c p l L : Nat} {F : Int → Rat} (hx : VF w A n c F) (hF : Fn p l L F) (hp : p ≤ 700) (hl : l ≤ 700) : Calls Tryz.prog 18 #[.slice A n c] w
  (fun e w' => ∃ (g n c : Nat) (zs : List (TV × Rat)), e = .returned (.slice (some ⟨g, 0, none⟩) n c) ∧ w.heap.size ≤ g ∧ ZS w' g n c zs ∧ Is F (vals zs) ∧ Below w.heap.size w w') := by
 obtain ⟨xs, h1, h2, h3⟩ := hx.ex
 refine (norm_v h1 (lR _) (Nat.le_trans hx.len (by omega)) h2 hx.blk).mono fun e w' h => ?_
 rw [h3] at h
 obtain ⟨g, n, c, zs, rfl, k1, k2, k3, k4, k5⟩ := h
 have hk : ∀ y ∈ zs, ql y.2 ≤ 700 := fun y hy => is_ql k3 hF hp hl (y.1.at_, y.2) (List.mem_map.2 ⟨y, hy, rfl⟩)
 refine ⟨g, n, c, zs, rfl, k2, ⟨own_isv k1 k4 hk, k4, ?_⟩, k3, k5⟩
 rcases k1.row.2 with ⟨h0, _⟩ | ⟨g', cap, cur, e, _, hgc, _⟩
 ·cases h0
 ·obtain ⟨rfl, _, _⟩ : g = g' ∧ n = (zs.map Prod.fst).length ∧ c = cap := by simpa using e
  exact lt_of_block hgc
theorem canon_snoc {l : List (Int × Rat)} (h : Canon l) {p : Int} {q : Rat} (hp : ∀ x ∈ l, x.1 < p) (hq : q ≠ 0) : Canon (l ++ [(p, q)]) :=
 ⟨List.pairwise_append.2 ⟨h.up, List.pairwise_singleton _ _, fun x hx y hy => by obtain rfl := List.mem_singleton.1 hy; exact hp x hx⟩, fun x hx => by
  rcases List.mem_append.1 hx with hx | hx
  ·exact h.nz x hx
  ·obtain rfl := List.mem_singleton.1 hx; exact hq⟩
theorem TZ.step {w3 w4 : World} {base g r : Nat} {vs : List SV} {F : Nat → Int → Rat} {u : SV} {x : TV} {q : Rat} {A : Option Addr} {n c : Nat} (h : TZ w3 base g vs F) (hu : vs[r]? = some u) (hx : OneQ w3 x.s x.A x.n x.c x.t x.B x.m x.d q) (hat : -9223372036854775808 ≤ x.at_ ∧ x.at_ ≤ 9223372036854775807) (hlt : ∀ y ∈ vals u.ys, y.1 < x.at_) (hq : q ≠ 0)
  (h4 : OwnU w4 base (.slice A n c) (u.ys.map Prod.fst ++ [x])) (hg : w3.grownBy w4 (ownOf u)) (hbk : (Value.slice A n c).ownBlock = ownOf u ∨ (Value.slice A n c).ownBlock = some w3.heap.size) :
  TZ (w4.setCell ⟨g, r, none⟩ (.slice A n c)) base g (vs.set r ⟨A, n, c, u.ys ++ [(x, q)]⟩) (fun j a => if j = r then F r a + (if x.at_ = a then q else 0) else F j a) := by
 have hur := h.row r u hu
 have hd : NoDig w3 (fun b => some b = ownOf u) := own_nodig hur.own
 have hn : Near (fun b => some b = ownOf u) w3 w4 := Near.of_grown hg
 have hgl := h.out.lt
 have hgo : ¬ (some g = ownOf u) := fun e => h.ne r u hu e.symm
 have ho4 : OutS w4 g vs := h.out.block (hn.block g hgl hgo)
 have hd4 := ho4.dig
 have hn4 : Near (fun b => b = g) w4 (w4.setCell ⟨g, r, none⟩ (.slice A n c)) := (Near.refl _ w4).setCell g _ _ rfl
 have hrl : r < vs.length := (List.getElem?_eq_some_iff.1 hu).1
 have hnew : ∀ b, (Value.slice A n c).ownBlock = some b → b ≠ g ∧ ∀ j v, vs[j]? = some v → j ≠ r → ownOf v ≠ some b := by
  intro b hb
  rcases hbk with e | e
  ·rw [e] at hb
   refine ⟨fun e2 => hgo (by rw [← e2]; exact hb.symm), fun j v hv hj e3 => ?_⟩
   exact h.two r j u v hu hv (fun e4 => hj e4.symm) b hb e3
  ·rw [e] at hb
   obtain rfl := oI hb
   refine ⟨by omega, fun j v hv _ e3 => ?_⟩
   have := (h.row j v hv).own.own.lt e3
   omega
 refine ⟨ho4.set r ⟨A, n, c, u.ys ++ [(x, q)]⟩, fun j v hv => ?_, fun j v hv => ?_, fun i j s t hs ht hij b hb => ?_⟩
 ·by_cases e : j = r
  ·subst e
   rw [List.getElem?_set_self hrl] at hv
   obtain rfl := oI hv
   have hz4 : OwnZ w4 base (.slice A n c) (u.ys ++ [(x, q)]) := ⟨by rw [List.map_append]; exact h4, fun y hy => by
    rcases List.mem_append.1 hy with hy | hy
    ·exact ⟨one_near (hur.own.one y hy).1 hd hn, (hur.own.one y hy).2⟩
    ·obtain rfl := List.mem_singleton.1 hy
     exact ⟨one_near hx hd hn, hat⟩⟩
   refine ⟨hz4.near hd4 hn4 (fun b hb => (hnew b hb).1), ?_, fun a => ?_⟩
   ·show Canon (vals (u.ys ++ [(x, q)]))
    rw [vals_app]
    exact canon_snoc hur.can hlt hq
   ·show V.tot (vals (u.ys ++ [(x, q)])) a = (if j = j then _ else _)
    rw [if_pos rfl, vals_app, tot_append, hur.tot a]
    show _ + ((if x.at_ = a then q else 0) + 0) = _
    grind
  ·rw [List.getElem?_set_ne (fun h => e h.symm)] at hv
   have h5 := h.row j v hv
   have h6 : OwnZ w4 base (.slice v.A v.n v.c) v.ys := h5.own.near hd hn (fun b hb e2 => h.two r j u v hu hv (fun e4 => e e4.symm) b e2.symm hb)
   refine ⟨h6.near hd4 hn4 (fun b hb e2 => h.ne j v hv (by rw [← e2]; exact hb)), h5.can, fun a => ?_⟩
   show _ = (if j = r then _ else _)
   rw [if_neg e]; exact h5.tot a
 ·by_cases e : j = r
  ·subst e
   rw [List.getElem?_set_self hrl] at hv
   obtain rfl := oI hv
   intro e2
   exact (hnew g e2).1 rfl
  ·rw [List.getElem?_set_ne (fun h => e h.symm)] at hv
   exact h.ne j v hv
 ·by_cases e : i = r
  ·subst e
   rw [List.getElem?_set_self hrl] at hs
   obtain rfl := oI hs
   rw [List.getElem?_set_ne hij] at ht
   exact (hnew b hb).2 j t ht (fun e => hij e.symm)
  ·rw [List.getElem?_set_ne (fun h => e h.symm)] at hs
   by_cases e2 : j = r
   ·subst e2
    rw [List.getElem?_set_self hrl] at ht
    obtain rfl := oI ht
    intro e3
    exact (hnew b e3).2 i s hs e hb
   ·rw [List.getElem?_set_ne (fun h => e2 h.symm)] at ht
    exact h.two i j s t hs ht hij b hb
theorem ZS.step {w3 w4 : World} {base g r G gn gc : Nat} {vs : List SV} {F : Nat → Int → Rat} {u : SV} {v : Value} {zs : List (TV × Rat)} (hz : ZS w3 G gn gc zs) (h : TZ w3 base g vs F) (hu : vs[r]? = some u) (hg : w3.grownBy w4 (ownOf u)) (h1 : ownOf u ≠ some G) (h2 : g ≠ G) : ZS (w4.setCell ⟨g, r, none⟩ v) G gn gc zs := by
 have hd : NoDig w3 (fun b => some b = ownOf u) := own_nodig (h.row r u hu).own
 have hn : Near (fun b => some b = ownOf u) w3 w4 := Near.of_grown hg
 have ho4 : OutS w4 g vs := h.out.block (hn.block g h.out.lt (fun e => h.ne r u hu e.symm))
 exact (hz.near hd hn (fun e => h1 e.symm)).near ho4.dig ((Near.refl _ w4).setCell g _ _ rfl) (fun e => h2 e.symm)
theorem gof_zero (C : Cols) (l : List (Int × Rat)) (r : Nat) (a : Int) : gof C l 0 0 r a = 0 := by
 unfold gof
 rw [if_neg (by omega)]
 split <;> rfl
theorem gof_next {C : Cols} {l l' : List (Int × Rat)} {k i : Nat} (hl : l.length ≤ i) (hc : ∀ r : Nat, tot l (r : Int) = col C k (r : Int)) (r : Nat) (a : Int) : gof C l k i r a = gof C l' (k + 1) 0 r a := by
 unfold gof
 rw [List.take_of_length_le hl, List.take_zero]
 by_cases h1 : 0 ≤ a ∧ a < (k : Int)
 ·rw [if_pos h1, if_pos (by omega)]
 ·rw [if_neg h1]
  by_cases h2 : a = (k : Int)
  ·subst h2
   rw [if_pos rfl, if_pos (by omega), Int.toNat_natCast]; exact hc r
  ·rw [if_neg h2, if_neg (by omega)]
   split <;> rfl
theorem gof_same {C : Cols} {l : List (Int × Rat)} {k i : Nat} {p : Int} {q : Rat} (hz : l[i]? = some (p, q)) {r : Nat} (hr : p ≠ (r : Int)) (a : Int) : gof C l k i r a = gof C l k (i + 1) r a := by
 unfold gof
 rw [tot_take_succ hz, if_neg hr]
 congr 1
 congr 1
 grind
theorem gof_step {C : Cols} {l : List (Int × Rat)} {k i r : Nat} {q : Rat} (hz : l[i]? = some ((r : Int), q)) (a : Int) : gof C l k i r a + (if (k : Int) = a then q else 0) = gof C l k (i + 1) r a := by
 unfold gof
 rw [tot_take_succ hz]
 by_cases h1 : 0 ≤ a ∧ a < (k : Int)
 ·rw [if_pos h1, if_pos h1, if_neg (by omega)]; grind
 ·rw [if_neg h1, if_neg h1]
  by_cases h2 : a = (k : Int)
  ·subst h2
   rw [if_pos rfl, if_pos rfl, if_pos rfl, if_pos rfl]
  ·rw [if_neg h2, if_neg h2, if_neg (fun e => h2 e.symm)]; grind
theorem gof_all (C : Cols) (l : List (Int × Rat)) (r : Nat) (a : Int) : gof C l C.length 0 r a = rowf C r a := by
 unfold gof rowf
 rw [List.take_zero]
 by_cases h1 : 0 ≤ a ∧ a < (C.length : Int)
 ·rw [if_pos h1, if_pos h1]
 ·rw [if_neg h1, if_neg h1]
  split <;> rfl
theorem gof_free {C : Cols} {l : List (Int × Rat)} {k i r : Nat} {q : Rat} (hl : Canon l) (hz : l[i]? = some ((r : Int), q)) {ys : List (Int × Rat)} (hy : Canon ys) (ht : ∀ a, tot ys a = gof C l k i r a) : ∀ x ∈ ys, x.1 < (k : Int) := by
 intro x hx
 have h1 := canon_mem hy hx
 have h2 := hy.nz x hx
 rw [ht] at h1
 unfold gof at h1
 by_cases h3 : 0 ≤ x.1 ∧ x.1 < (k : Int)
 ·exact h3.2
 ·rw [if_neg h3] at h1
  by_cases h4 : x.1 = (k : Int)
  ·rw [if_pos h4] at h1
   refine absurd ?_ h2
   rw [← h1]
   refine tot_none (fun y hyt e => ?_)
   obtain ⟨j, hj⟩ := List.getElem?_of_mem hyt
   rw [List.getElem?_take] at hj
   split at hj
   ·next hji =>
    have h5 := (List.pairwise_iff_getElem.1 hl.up) j i (List.getElem?_eq_some_iff.1 hj).1 (List.getElem?_eq_some_iff.1 hz).1 hji
    rw [(List.getElem?_eq_some_iff.1 hj).2, (List.getElem?_eq_some_iff.1 hz).2, e] at h5
    exact absurd h5 (Int.lt_irrefl _)
   ·cases hj
  ·rw [if_neg h4] at h1
   exact absurd h1.symm h2
theorem RowZ.cf {w : World} {base p m L : Nat} {v : SV} {F : Int → Rat} (h : RowZ w base v F) (hF : Fn p m L F) (hp : p ≤ 700) (hm : m ≤ 700) : CF w v.A v.n v.c F := by
 have his : Is F (vals v.ys) := ⟨h.can, h.tot⟩
 have hk : OwnK w base (.slice v.A v.n v.c) v.ys 700 := ⟨h.own.own, fun y hy => ⟨(h.own.one y hy).1.isq (is_ql his hF hp hm (y.1.at_, y.2) (List.mem_map.2 ⟨y, hy, rfl⟩)), (h.own.one y hy).2⟩⟩
 exact ⟨⟨v.ys, hk.isv.1, his, fun y hy => (h.own.one y hy).1⟩, hk.isv.2⟩
theorem gof_pos {C : Cols} {l : List (Int × Rat)} {k i r : Nat} {a : Int} (h : gof C l k i r a ≠ 0) : 0 ≤ a := by
 unfold gof at h
 by_cases h1 : 0 ≤ a ∧ a < (k : Int)
 ·exact h1.1
 ·rw [if_neg h1] at h
  by_cases h2 : a = (k : Int)
  ·omega
  ·rw [if_neg h2] at h; exact absurd rfl h
theorem row_len {ys : List (Int × Rat)} (hy : Canon ys) {k : Nat} (h : ∀ x ∈ ys, 0 ≤ x.1 ∧ x.1 < (k : Int)) : ys.length ≤ k := by
 have h1 : (ys.map Prod.fst).length ≤ (upto k).length := nodup_le (List.Pairwise.map _ (fun s t (hst : s.1 < t.1) => by show s.1 ≠ t.1; omega) hy.up) (fun a ha => by
  obtain ⟨x, hx, rfl⟩ := List.mem_map.1 ha
  exact mem_upto.2 (h x hx))
 have h2 : (upto k).length = k := by unfold upto; simp
 rw [List.length_map, h2] at h1; exact h1
theorem below_grown {B : Nat} {w w3 w4 : World} {v : SV} {base : Nat} (h : Below B w w3) (hs : B ≤ w3.heap.size) (hB : B ≤ base) (ho : OwnU w3 base (.slice v.A v.n v.c) (v.ys.map Prod.fst)) (hg : w3.grownBy w4 (ownOf v)) : Below B w w4 :=
 ⟨hg.os.trans h.os, hg.tape.trans h.tape, hg.output.trans h.output, Nat.le_trans h.size hg.size, fun b hb => (hg.block b (by omega) (fun e => by
  rcases ho.row.2 with ⟨e2, _⟩ | ⟨g', cap, cur, e2, hbg, _⟩
  ·unfold ownOf at e; rw [e2] at e; cases e
  ·unfold ownOf at e; rw [e2] at e
   have h8 : b = g' := oI e
   omega)).trans (h.block b hb)⟩
set_option maxRecDepth 100000 in
set_option maxHeartbeats 4000000 in
theorem turn_c {w : World} {A : Option Addr} {n c p m L : Nat} {vs : List SV} {M : Int} (hm : MX w A n c vs) (hr : MR p m L (colsOf vs)) (hp : p ≤ 700) (hm7 : m + 2 ≤ 700) (hL : L ≤ 1000) (v : Bool) (hv : v = true ↔ 0 ≤ M ∧ M ≤ 65536) :
  Calls Tryz.prog 40 #[.slice A n c, .int .i64 M] w (RetTu w M.toNat (rowf (colsOf vs)) v) := by
 have HM := lh hm
 have HR := lh hr
 have HS : Hid (p ≤ 700 ∧ m + 2 ≤ 700 ∧ L ≤ 1000) := ⟨hp, hm7, hL⟩
 have HV := lh hv
 have HEN := lh hm.en
 have HCL : Hid ((colsOf vs).length = n) := (colsOf_len vs).trans hm.en.symm
 have HLE : Hid (n ≤ 1000) := hm.le
 have HNO : Hid (¬ (0 ≤ M ∧ M ≤ 65536) → v = false) := fun hn => by
  cases v with
  | false => rfl
  | true => exact absurd (HV.out.1 rfl) hn
 clear hm hr hp hm7 hL hv
 by_cases h0 : M < 0
 ·have HE := lh (HNO.out (by omega))
  go_enter Tryz.func40, Tryz.ntmps40
  go_wp2_with fail
  exact ⟨rfl, .tuple #[.slice none 0 0, .int .i64 2], by simp [results, Tryz.results40, go_sem], bR _ _, .inl ⟨HE.out, rfl⟩⟩
 ·by_cases h1 : (65536 : Int) < M
  ·have HE := lh (HNO.out (by omega))
   go_enter Tryz.func40, Tryz.ntmps40
   go_wp2_with fail
   exact ⟨rfl, .tuple #[.slice none 0 0, .int .i64 2], by simp [results, Tryz.results40, go_sem], bR _ _, .inl ⟨HE.out, rfl⟩⟩
  ·have HE := lh (HV.out.2 ⟨by omega, by omega⟩)
   obtain ⟨N, rfl⟩ := Int.eq_ofNat_of_zero_le (show 0 ≤ M by omega)
   rw [Int.toNat_natCast]
   have HN : Hid (N ≤ 65536) := by show _ ≤ _; omega
   obtain ⟨W, hmk, hbm, hov⟩ := make_s w N HN.out
   obtain ⟨g, hg⟩ : ∃ g, w.heap.size = g := ⟨_, rfl⟩
   have HG : Hid (w.heap.size ≤ g) := Nat.le_of_eq hg
   have HT0 : Hid (TZ W w.heap.size g (List.replicate N ⟨none, 0, 0, []⟩) (gof (colsOf vs) [] 0 0)) := by
    have h9 : ∀ (j : Nat) (u : SV), (List.replicate N (⟨none, 0, 0, []⟩ : SV))[j]? = some u → u = ⟨none, 0, 0, []⟩ := fun j u hu => by
     rw [List.getElem?_replicate] at hu
     split at hu
     ·exact (oI hu).symm
     ·cases hu
    refine ⟨by rw [← hg]; exact hov, fun j u hu => ?_, fun j u hu e => ?_, fun i j s t hs _ _ b hb => ?_⟩
    ·obtain rfl := h9 j u hu
     exact ⟨OwnZ.nil _ _, Canon.nil, fun a => (gof_zero _ _ _ a).symm⟩
    ·obtain rfl := h9 j u hu
     cases e
    ·obtain rfl := h9 i s hs
     cases hb
   have HB0 := lh hbm
   rw [hg] at hmk
   clear hbm hov hg
   go_enter Tryz.func40, Tryz.ntmps40
   go_wp2_with fail
   clear hmk
   go_loopw [21] (fun kv wr => ∃ (k : Nat) (us : List SV), k ≤ n ∧ kv = .int .i64 (k : Int) ∧ Hid (TZ wr w.heap.size g us (gof (colsOf vs) [] k 0)) ∧ Hid (us.length = N) ∧ Hid (Below w.heap.size w wr)) (fun kv _ => n - (intOf kv).toNat)
   case atStart => exact ⟨0, _, Nat.zero_le _, rfl, HT0, List.length_replicate, HB0⟩
   case round =>
    clear HT0 HB0
    obtain ⟨k, us, hk, rfl, HT, HUL, HB⟩ := hrel
    by_cases hlk : k < n
    ·have hk1 : (k : Int) < (n : Int) := by omega
     have hk0 : (0 : Int) ≤ (k : Int) := by omega
     have hwk : IntKind.i64.wrap ((k : Int) + 1) = (k : Int) + 1 := by have := HLE.out; rw [IntKind.wrap_i64]; omega
     obtain ⟨u, hu⟩ : ∃ u, vs[k]? = some u := ⟨vs[k]'(by have := HEN.out; omega), gE (by have := HEN.out; omega)⟩
     obtain ⟨b1, off, hA, hk2⟩ := rows_at HM.out.row hu
     have c0 := hk2 _ HB.out
     have HUV := lh ((HM.out.below HB.out).vf hu)
     subst hA
     clear hu hk2
     go_wp2_with fail
     clear c0
     have HWO : Hid (g < wr.heap.size ∧ ∀ (j : Nat) (u : SV) (b : Nat), us[j]? = some u → ownOf u = some b → b < wr.heap.size) := ⟨HT.out.out.lt, fun j u b hu hb => (HT.out.row j u hu).own.own.lt hb⟩
     refine (norm_z HUV.out (HR.out.col HS.out.2.2 k) HS.out.1 (by have := HS.out; omega)).mono ?_
     rintro e w1 ⟨G, gn, gc, zs, rfl, hG, hz, hi, hb⟩
     have HZ0 := lh hz
     have HZI := lh hi
     have HGN : Hid (gn = zs.length ∧ gn ≤ 1000) := by
      have h1 := hz.isv.en
      have h9 := is_len hi (HR.out.col HS.out.2.2 k)
      rw [vals_len] at h9
      have h8 := HS.out
      show _ ∧ _; omega
     have HB1 := lh (below_on HB.out hb)
     have HT1 : Hid (TZ w1 w.heap.size g us (gof (colsOf vs) (vals zs) k 0)) := (HT.out.below hb).congr (fun j _ a => by unfold gof; rw [List.take_zero, List.take_zero])
     have HGG : Hid (g ≠ G) := by have := HWO.out.1; show _ ≠ _; omega
     have HNG0 : Hid (∀ (j : Nat) (u : SV), us[j]? = some u → ownOf u ≠ some G) := fun j u hu e => by have := HWO.out.2 j u G hu e; omega
     clear hG hb hz hi HT HB HWO HUV
     go_wp2_with fail
     go_loopw [29] (fun iv wr => ∃ (i : Nat) (us : List SV), i ≤ gn ∧ iv = .int .i64 (i : Int) ∧ Hid (TZ wr w.heap.size g us (gof (colsOf vs) (vals zs) k i)) ∧ Hid (us.length = N) ∧ Hid (Below w.heap.size w wr) ∧ Hid (ZS wr G gn gc zs) ∧ Hid (∀ (j : Nat) (u : SV), us[j]? = some u → ownOf u ≠ some G)) (fun iv _ => gn - (intOf iv).toNat)
     case atStart => exact ⟨0, us, Nat.zero_le _, rfl, HT1, HUL, HB1, HZ0, HNG0⟩
     case round =>
      clear HT1 HB1 HZ0 HNG0 HUL
      obtain ⟨i, us2, hi, rfl, HT, HUL, HB, HZ, HNG⟩ := hrel
      by_cases hlt : i < gn
      ·have hi1 : (i : Int) < (gn : Int) := by omega
       have hi0 : (0 : Int) ≤ (i : Int) := by omega
       have hwi : IntKind.i64.wrap ((i : Int) + 1) = (i : Int) + 1 := by have := HGN.out; rw [IntKind.wrap_i64]; omega
       obtain ⟨z, hz⟩ : ∃ z, zs[i]? = some z := ⟨zs[i]'(by have := HGN.out; omega), gE (by have := HGN.out; omega)⟩
       obtain ⟨b1, off1, hA1, hk1⟩ := row_at2 HZ.out.isv.row (j := i) (x := z.1) (by rw [List.getElem?_map, hz]; rfl)
       obtain ⟨rfl, rfl⟩ : G = b1 ∧ 0 = off1 := by simpa using hA1
       simp only [Nat.zero_add] at hk1
       obtain ⟨d0, d1, d2, d3, d4⟩ := hk1 _ (bR _ _)
       have HZQ := lh (HZ.out.one z (List.mem_of_getElem? hz))
       have HNZ : Hid (z.2 ≠ 0) := HZI.out.1.nz (z.1.at_, z.2) (List.mem_map.2 ⟨z, List.mem_of_getElem? hz, rfl⟩)
       have HVI : Hid ((vals zs)[i]? = some (z.1.at_, z.2)) := by show _ = _; unfold vals; rw [List.getElem?_map, hz]; rfl
       obtain ⟨⟨pat, ps, pA, pn, pc, pt, pB, pm_, pd⟩, pq⟩ := z
       simp only at d0 d1 d2 d3 d4 HZQ HNZ HVI
       clear hz hk1 hA1
       obtain ⟨V, hV⟩ : ∃ V, wr.alloc (.cells #[.int .i64 pat, .bool ps, .slice pA pn pc, .bool pt, .slice pB pm_ pd] 67) = V := ⟨_, rfl⟩
       have hvb : Below wr.heap.size wr V := by rw [← hV]; exact (bR _ _).alloc (lR _) _
       have hbx : V.heap[wr.heap.size]? = some (.cells #[.int .i64 pat, .bool ps, .slice pA pn pc, .bool pt, .slice pB pm_ pd] 67 (0, 0)) := by rw [← hV]; exact heap_alloc_new wr _
       have e0 : V.cell? ⟨wr.heap.size, 0, none⟩ = some (.int .i64 pat) := by rw [cell_of_row V wr.heap.size 0 _ _ _ hbx]; rfl
       have HBX := lh hbx
       have HTV := lh (HT.out.below hvb)
       have HBV := lh (below_on HB.out hvb)
       have HZV := lh (HZ.out.below hvb)
       have HQV : Hid (OneQ V ps pA pn pc pt pB pm_ pd pq) := HZQ.out.1.below hvb
       clear hvb hbx
       by_cases hr : 0 ≤ pat ∧ pat < (N : Int)
       ·obtain ⟨hr0, hr1⟩ := hr
        obtain ⟨q, rfl⟩ := Int.eq_ofNat_of_zero_le hr0
        have HWI : Hid (decide (0 ≤ (q : Int) ∧ (q : Int) < (N : Int)) = true) := decide_eq_true ⟨hr0, hr1⟩
        obtain ⟨u, hu⟩ : ∃ u, us2[q]? = some u := ⟨us2[q]'(by have := HUL.out; omega), gE (by have := HUL.out; omega)⟩
        go_wp2_with fail
        clear hV d0 d1 d2 d3 d4 e0
        refine (within_any _ _ _ true HWI.out).mono ?_
        rintro e w2 ⟨rfl, hbx⟩
        have HT2 := lh (HTV.out.below hbx)
        have HB2 := lh (below_on HBV.out hbx)
        have HZ2 := lh (HZV.out.below hbx)
        have HQ2 := lh (HQV.out.below hbx)
        have HX2 : Hid (w2.heap[wr.heap.size]? = some (.cells #[.int .i64 (q : Int), .bool ps, .slice pA pn pc, .bool pt, .slice pB pm_ pd] 67 (0, 0))) := (hbx.block wr.heap.size (lt_of_block HBX.out)).trans HBX.out
        have HU := lh hu
        have HUB : Hid (∀ b, ownOf u = some b → b < wr.heap.size) := fun b hb => (HT.out.row q u hu).own.own.lt hb
        have HGW : Hid (g < wr.heap.size) := HT.out.out.lt
        clear hbx hu HTV HBV HZV HQV HBX HT HB HZ
        go_upto_region 11 with fail
        have HDR : Hid (w2.drew.cell? ⟨wr.heap.size, 0, none⟩ = some (.int .i64 (q : Int)) ∧ w2.drew.cell? ⟨wr.heap.size, 1, none⟩ = some (.bool ps) ∧ w2.drew.cell? ⟨wr.heap.size, 2, none⟩ = some (.slice pA pn pc) ∧ w2.drew.cell? ⟨wr.heap.size, 3, none⟩ = some (.bool pt) ∧ w2.drew.cell? ⟨wr.heap.size, 4, none⟩ = some (.slice pB pm_ pd)) := by
         have h9 := HX2.out
         exact ⟨(show w2.cell? ⟨wr.heap.size, 0, none⟩ = _ by rw [cell_of_row w2 wr.heap.size 0 _ _ _ h9]; rfl), (show w2.cell? ⟨wr.heap.size, 1, none⟩ = _ by rw [cell_of_row w2 wr.heap.size 1 _ _ _ h9]; rfl), (show w2.cell? ⟨wr.heap.size, 2, none⟩ = _ by rw [cell_of_row w2 wr.heap.size 2 _ _ _ h9]; rfl), (show w2.cell? ⟨wr.heap.size, 3, none⟩ = _ by rw [cell_of_row w2 wr.heap.size 3 _ _ _ h9]; rfl), (show w2.cell? ⟨wr.heap.size, 4, none⟩ = _ by rw [cell_of_row w2 wr.heap.size 4 _ _ _ h9]; rfl)⟩
        obtain ⟨W, hW⟩ : ∃ V, w2.drew = V := ⟨_, rfl⟩
        have hwb : Below w2.heap.size w2 W := by rw [← hW]; exact (bR _ _).drew
        replace HT2 := lh (HT2.out.below hwb)
        replace HZ2 := lh (HZ2.out.below hwb)
        replace HQ2 := lh (HQ2.out.below hwb)
        replace HB2 := lh (below_on HB2.out hwb)
        clear hwb HX2
        refine wp_region_held_drew (S := (fun V => V.cell? ⟨wr.heap.size, 0, none⟩ = some (.int .i64 (q : Int)) ∧ V.cell? ⟨wr.heap.size, 1, none⟩ = some (.bool ps) ∧ V.cell? ⟨wr.heap.size, 2, none⟩ = some (.slice pA pn pc) ∧ V.cell? ⟨wr.heap.size, 3, none⟩ = some (.bool pt) ∧ V.cell? ⟨wr.heap.size, 4, none⟩ = some (.slice pB pm_ pd))) (by kernel_rfl) (by with_reducible exact HDR.out) (fun hHeld => ?_)
        rw [hW] at hHeld ⊢
        clear hW HDR
        refine' tK 0 ?_
        try simp only [gY, gZ, aP, sT, sZ, sS]
        refine' tK 1 ?_
        try simp only [gY, gZ, gJ, aP, sT, sZ, sS]
        refine' tK 2 ?_
        try simp only [gY, gZ, gJ, aP, sT, sZ, sS]
        refine' tK 3 ?_
        try simp only [gY, gZ, gJ, aP, sT, sZ, sS]
        refine' tK 4 ?_
        try simp only [gY, gZ, gJ, aP, sT, sZ, sS]
        refine' tK 5 ?_
        try simp only [gY, gZ, gJ, aP, sT, sZ, sS]
        refine' tK 6 ?_
        try simp only [gY, gZ, gJ, aP, sT, sZ, sS]
        refine' tK 8 ?_
        try simp only [gY, gZ, gJ, aP, sT, sZ, sS]
        refine' tK 9 ?_
        try simp only [gY, gZ, gJ, aP, sT, sZ, sS]
        refine' tK 10 ?_
        try simp only [gY, gZ, gJ, aP, sT, sZ, sS]
        refine' tK 11 ?_
        try simp only [gY, gZ, gJ, aP, sT, sZ, sS]
        refine wpAnyH_ready (rs := [7, 12]) (by kernel_rfl) (by simp) ?_
        refine AllReadyH.cons rfl (fun K hK => ?_) (AllReadyH.cons rfl (fun K hK => ?_) AllReadyH.nil)
        ·try simp only [gY, gZ, gJ]
         have ho7 : W.cell? ⟨g, q, none⟩ = some (.slice u.A u.n u.c) := HT2.out.out.at_ HU.out
         rw [if_pos (by rfl)]
         unfold Oper.wp
         simp [execOp, Act.eval, ho7, go_sem]
         refine hK.out _ _ (by with_reducible exact hHeld) (fun hHeld => ?_)
         clear hK K ho7
         try simp only [aP, sT, sZ, sS]
         refine rQ 12 (fun K hK => ?_)
         try simp only [gY, gZ, gJ]
         rw [if_pos (by rfl)]
         refine wp_row1 _ _ rfl (by rfl) (by kernel_rfl) ?_
         try simp only [aP, sT, sZ, sS]
         obtain ⟨w3, hX⟩ : ∃ V, W.alloc (.cells #[.int .i64 (k : Int), .bool ps, .slice pA pn pc, .bool pt, .slice pB pm_ pd] 67) = V := ⟨_, rfl⟩
         have hbx : Below W.heap.size W w3 := by rw [← hX]; exact (bR _ _).alloc (lR _) _
         have hrx : w3.heap[W.heap.size]? = some (.cells #[.int .i64 (k : Int), .bool ps, .slice pA pn pc, .bool pt, .slice pB pm_ pd] 67 (0, 0)) := by rw [← hX]; exact heap_alloc_new W _
         rw [hX]
         clear hX
         replace HT2 := lh (HT2.out.below hbx)
         replace HZ2 := lh (HZ2.out.below hbx)
         replace HQ2 := lh (HQ2.out.below hbx)
         replace HB2 := lh (below_on HB2.out hbx)
         have HRX := lh hrx
         have HD3 : Hid (w3.cell? ⟨wr.heap.size, 0, none⟩ = some (.int .i64 (q : Int)) ∧ w3.cell? ⟨wr.heap.size, 1, none⟩ = some (.bool ps) ∧ w3.cell? ⟨wr.heap.size, 2, none⟩ = some (.slice pA pn pc) ∧ w3.cell? ⟨wr.heap.size, 3, none⟩ = some (.bool pt) ∧ w3.cell? ⟨wr.heap.size, 4, none⟩ = some (.slice pB pm_ pd)) := by
          obtain ⟨q0, q1, q2, q3, q4⟩ := hHeld
          exact ⟨(hbx.cell (World.block_lt_of_cell? _ _ q0)).trans q0, (hbx.cell (World.block_lt_of_cell? _ _ q1)).trans q1, (hbx.cell (World.block_lt_of_cell? _ _ q2)).trans q2, (hbx.cell (World.block_lt_of_cell? _ _ q3)).trans q3, (hbx.cell (World.block_lt_of_cell? _ _ q4)).trans q4⟩
         clear hbx hrx
         refine hK.out _ _ (by with_reducible exact HD3.out) (fun hHeld => ?_)
         clear hK K HD3
         try simp only [aP, sT, sZ, sS]
         have hcl : ∀ j u, (⟨(k : Int), ps, pA, pn, pc, pt, pB, pm_, pd⟩ : TV).enc[j]? = some u → w3.cell? ((⟨W.heap.size, 0, none⟩ : Addr).add j) = some u := by
          intro j u hj
          rw [add_flat, Nat.zero_add, cell_of_row _ _ j _ _ _ HRX.out]
          simpa [TV.enc] using hj
         have hru := HT2.out.row q u HU.out
         have hfr := gof_free HZI.out.1 HVI.out hru.can hru.tot
         have hul : (u.ys.map Prod.fst).length ≤ 10000000 := by
          have h9 := row_len hru.can (k := k) (fun x hx => ⟨gof_pos (by rw [← hru.tot, canon_mem hru.can hx]; exact hru.can.nz x hx), hfr x hx⟩)
          rw [vals_len] at h9
          have := HLE.out
          rw [List.length_map]; omega
         obtain ⟨v', w4, hr, g2, gg, gb⟩ := appU_at w3 w.heap.size 33 (.slice u.A u.n u.c) (u.ys.map Prod.fst) ⟨(k : Int), ps, pA, pn, pc, pt, pB, pm_, pd⟩ ⟨W.heap.size, 0, none⟩ hru.own.own hcl hul HB2.out.size
         obtain ⟨A2, n2, c2, rfl⟩ := g2.some_
         have HTZ : Hid (TZ (w4.setCell ⟨g, q, none⟩ (.slice A2 n2 c2)) w.heap.size g (us2.set q ⟨A2, n2, c2, u.ys ++ [((⟨(k : Int), ps, pA, pn, pc, pt, pB, pm_, pd⟩ : TV), pq)]⟩) (gof (colsOf vs) (vals zs) k (i + 1))) := by
          have h9 := HT2.out.step (x := ⟨(k : Int), ps, pA, pn, pc, pt, pB, pm_, pd⟩) (q := pq) HU.out HQ2.out (by have := HLE.out; show _ ∧ _; simp only; omega) hfr HNZ.out g2 gg gb
          refine h9.congr (fun j _ a => ?_)
          show (if j = q then _ else _) = _
          by_cases e : j = q
          ·subst e; rw [if_pos rfl]; exact gof_step HVI.out a
          ·rw [if_neg e]; exact gof_same HVI.out (by omega) a
         have HZZ : Hid (ZS (w4.setCell ⟨g, q, none⟩ (.slice A2 n2 c2)) G gn gc zs) := HZ2.out.step HT2.out HU.out gg (HNG.out q u HU.out) HGG.out
         have HBZ : Hid (Below w.heap.size w (w4.setCell ⟨g, q, none⟩ (.slice A2 n2 c2))) := below_set (below_grown HB2.out HB2.out.size (lR _) hru.own.own gg) HG.out q _
         have HUZ : Hid ((us2.set q ⟨A2, n2, c2, u.ys ++ [((⟨(k : Int), ps, pA, pn, pc, pt, pB, pm_, pd⟩ : TV), pq)]⟩).length = N) := by show _ = _; rw [List.length_set]; exact HUL.out
         have HNZZ : Hid (∀ (j : Nat) (s : SV), (us2.set q ⟨A2, n2, c2, u.ys ++ [((⟨(k : Int), ps, pA, pn, pc, pt, pB, pm_, pd⟩ : TV), pq)]⟩)[j]? = some s → ownOf s ≠ some G) := fun j s hs => by
          by_cases e : j = q
          ·subst e
           rw [List.getElem?_set_self (List.getElem?_eq_some_iff.1 HU.out).1] at hs
           obtain rfl := oI hs
           rcases gb with e2 | e2
           ·show (Value.slice A2 n2 c2).ownBlock ≠ _
            rw [e2]; exact HNG.out j u HU.out
           ·show (Value.slice A2 n2 c2).ownBlock ≠ _
            rw [e2]
            intro e3
            have h8 := oI e3
            have h7 := HZ2.out.lt
            omega
          ·rw [List.getElem?_set_ne (fun h => e h.symm)] at hs
           exact HNG.out j s hs
         have ho4 : OutS w4 g us2 := HT2.out.out.block (gg.block g HT2.out.out.lt (fun e => HT2.out.ne q u HU.out e.symm))
         have HO4 := lh ho4
         have HD4 : Hid (w4.cell? ⟨wr.heap.size, 0, none⟩ = some (.int .i64 (q : Int)) ∧ w4.cell? ⟨wr.heap.size, 1, none⟩ = some (.bool ps) ∧ w4.cell? ⟨wr.heap.size, 2, none⟩ = some (.slice pA pn pc) ∧ w4.cell? ⟨wr.heap.size, 3, none⟩ = some (.bool pt) ∧ w4.cell? ⟨wr.heap.size, 4, none⟩ = some (.slice pB pm_ pd)) := by
          obtain ⟨q0, q1, q2, q3, q4⟩ := hHeld
          have hb4 := gg.block wr.heap.size (World.block_lt_of_cell? _ _ q0) (fun e => Nat.lt_irrefl _ (HUB.out _ e.symm))
          exact ⟨(World.cell?_of_block (a := ⟨wr.heap.size, 0, none⟩) hb4).trans q0, (World.cell?_of_block (a := ⟨wr.heap.size, 1, none⟩) hb4).trans q1, (World.cell?_of_block (a := ⟨wr.heap.size, 2, none⟩) hb4).trans q2, (World.cell?_of_block (a := ⟨wr.heap.size, 3, none⟩) hb4).trans q3, (World.cell?_of_block (a := ⟨wr.heap.size, 4, none⟩) hb4).trans q4⟩
         clear g2 gg gb hcl hru hfr hul ho4
         refine rQ 13 (fun K hK => ?_)
         try simp only [gY, gZ, gJ]
         rw [if_pos (by rfl)]
         unfold Oper.wp
         simp [execOp, resolve, invoke, builtin, Act.eval, hr, Result.andThen]
         refine hK.out _ _ (by with_reducible exact HD4.out) (fun hHeld => ?_)
         clear hK K hr HD4
         try simp only [aP, sT, sZ, sS]
         refine' tK 14 ?_
         try simp only [gY, gZ, gJ, aP, sT, sZ, sS]
         have hf4 := HO4.out.frz q
         have hc4 := HO4.out.at_ HU.out
         refine rQ 15 (fun K hK => ?_)
         try simp only [gY, gZ, gJ]
         go_simp
         have HD5 : Hid ((w4.setCell ⟨g, q, none⟩ (.slice A2 n2 c2)).cell? ⟨wr.heap.size, 0, none⟩ = some (.int .i64 (q : Int)) ∧ (w4.setCell ⟨g, q, none⟩ (.slice A2 n2 c2)).cell? ⟨wr.heap.size, 1, none⟩ = some (.bool ps) ∧ (w4.setCell ⟨g, q, none⟩ (.slice A2 n2 c2)).cell? ⟨wr.heap.size, 2, none⟩ = some (.slice pA pn pc) ∧ (w4.setCell ⟨g, q, none⟩ (.slice A2 n2 c2)).cell? ⟨wr.heap.size, 3, none⟩ = some (.bool pt) ∧ (w4.setCell ⟨g, q, none⟩ (.slice A2 n2 c2)).cell? ⟨wr.heap.size, 4, none⟩ = some (.slice pB pm_ pd)) := by
          obtain ⟨q0, q1, q2, q3, q4⟩ := hHeld
          have hb4 := ((Near.refl (fun b => b = g) w4).setCell g q (.slice A2 n2 c2) rfl).block wr.heap.size (World.block_lt_of_cell? _ _ q0) (fun e => absurd HGW.out (by omega))
          exact ⟨(World.cell?_of_block (a := ⟨wr.heap.size, 0, none⟩) hb4).trans q0, (World.cell?_of_block (a := ⟨wr.heap.size, 1, none⟩) hb4).trans q1, (World.cell?_of_block (a := ⟨wr.heap.size, 2, none⟩) hb4).trans q2, (World.cell?_of_block (a := ⟨wr.heap.size, 3, none⟩) hb4).trans q3, (World.cell?_of_block (a := ⟨wr.heap.size, 4, none⟩) hb4).trans q4⟩
         refine hK.out _ _ (by with_reducible exact HD5.out) (fun hHeld => ?_)
         clear hK K HD5 hf4 hc4
         try simp only [aP, sT, sZ, sS]
         refine wpAnyH_done (by kernel_rfl) ?_ _
         go_wp2_with fail
         go_roundw
         case rel => exact ⟨i + 1, _, by omega, by go_num, HTZ, HUZ, HBZ, HZZ, HNZZ⟩
         case measure => (simp [intOf]; omega)
        ·try simp only [gY, gZ, gJ]
         rw [if_pos (by rfl)]
         refine wp_row1 _ _ rfl (by rfl) (by kernel_rfl) ?_
         try simp only [aP, sT, sZ, sS]
         obtain ⟨w3, hX⟩ : ∃ V, W.alloc (.cells #[.int .i64 (k : Int), .bool ps, .slice pA pn pc, .bool pt, .slice pB pm_ pd] 67) = V := ⟨_, rfl⟩
         have hbx : Below W.heap.size W w3 := by rw [← hX]; exact (bR _ _).alloc (lR _) _
         have hrx : w3.heap[W.heap.size]? = some (.cells #[.int .i64 (k : Int), .bool ps, .slice pA pn pc, .bool pt, .slice pB pm_ pd] 67 (0, 0)) := by rw [← hX]; exact heap_alloc_new W _
         rw [hX]
         clear hX
         replace HT2 := lh (HT2.out.below hbx)
         replace HZ2 := lh (HZ2.out.below hbx)
         replace HQ2 := lh (HQ2.out.below hbx)
         replace HB2 := lh (below_on HB2.out hbx)
         have HRX := lh hrx
         have HD3 : Hid (w3.cell? ⟨wr.heap.size, 0, none⟩ = some (.int .i64 (q : Int)) ∧ w3.cell? ⟨wr.heap.size, 1, none⟩ = some (.bool ps) ∧ w3.cell? ⟨wr.heap.size, 2, none⟩ = some (.slice pA pn pc) ∧ w3.cell? ⟨wr.heap.size, 3, none⟩ = some (.bool pt) ∧ w3.cell? ⟨wr.heap.size, 4, none⟩ = some (.slice pB pm_ pd)) := by
          obtain ⟨q0, q1, q2, q3, q4⟩ := hHeld
          exact ⟨(hbx.cell (World.block_lt_of_cell? _ _ q0)).trans q0, (hbx.cell (World.block_lt_of_cell? _ _ q1)).trans q1, (hbx.cell (World.block_lt_of_cell? _ _ q2)).trans q2, (hbx.cell (World.block_lt_of_cell? _ _ q3)).trans q3, (hbx.cell (World.block_lt_of_cell? _ _ q4)).trans q4⟩
         clear hbx hrx
         refine hK.out _ _ (by with_reducible exact HD3.out) (fun hHeld => ?_)
         clear hK K HD3
         try simp only [aP, sT, sZ, sS]
         refine rQ 7 (fun K hK => ?_)
         try simp only [gY, gZ, gJ]
         have ho7 : w3.cell? ⟨g, q, none⟩ = some (.slice u.A u.n u.c) := HT2.out.out.at_ HU.out
         rw [if_pos (by rfl)]
         unfold Oper.wp
         simp [execOp, Act.eval, ho7, go_sem]
         refine hK.out _ _ (by with_reducible exact hHeld) (fun hHeld => ?_)
         clear hK K ho7
         try simp only [aP, sT, sZ, sS]
         have hcl : ∀ j u, (⟨(k : Int), ps, pA, pn, pc, pt, pB, pm_, pd⟩ : TV).enc[j]? = some u → w3.cell? ((⟨W.heap.size, 0, none⟩ : Addr).add j) = some u := by
          intro j u hj
          rw [add_flat, Nat.zero_add, cell_of_row _ _ j _ _ _ HRX.out]
          simpa [TV.enc] using hj
         have hru := HT2.out.row q u HU.out
         have hfr := gof_free HZI.out.1 HVI.out hru.can hru.tot
         have hul : (u.ys.map Prod.fst).length ≤ 10000000 := by
          have h9 := row_len hru.can (k := k) (fun x hx => ⟨gof_pos (by rw [← hru.tot, canon_mem hru.can hx]; exact hru.can.nz x hx), hfr x hx⟩)
          rw [vals_len] at h9
          have := HLE.out
          rw [List.length_map]; omega
         obtain ⟨v', w4, hr, g2, gg, gb⟩ := appU_at w3 w.heap.size 33 (.slice u.A u.n u.c) (u.ys.map Prod.fst) ⟨(k : Int), ps, pA, pn, pc, pt, pB, pm_, pd⟩ ⟨W.heap.size, 0, none⟩ hru.own.own hcl hul HB2.out.size
         obtain ⟨A2, n2, c2, rfl⟩ := g2.some_
         have HTZ : Hid (TZ (w4.setCell ⟨g, q, none⟩ (.slice A2 n2 c2)) w.heap.size g (us2.set q ⟨A2, n2, c2, u.ys ++ [((⟨(k : Int), ps, pA, pn, pc, pt, pB, pm_, pd⟩ : TV), pq)]⟩) (gof (colsOf vs) (vals zs) k (i + 1))) := by
          have h9 := HT2.out.step (x := ⟨(k : Int), ps, pA, pn, pc, pt, pB, pm_, pd⟩) (q := pq) HU.out HQ2.out (by have := HLE.out; show _ ∧ _; simp only; omega) hfr HNZ.out g2 gg gb
          refine h9.congr (fun j _ a => ?_)
          show (if j = q then _ else _) = _
          by_cases e : j = q
          ·subst e; rw [if_pos rfl]; exact gof_step HVI.out a
          ·rw [if_neg e]; exact gof_same HVI.out (by omega) a
         have HZZ : Hid (ZS (w4.setCell ⟨g, q, none⟩ (.slice A2 n2 c2)) G gn gc zs) := HZ2.out.step HT2.out HU.out gg (HNG.out q u HU.out) HGG.out
         have HBZ : Hid (Below w.heap.size w (w4.setCell ⟨g, q, none⟩ (.slice A2 n2 c2))) := below_set (below_grown HB2.out HB2.out.size (lR _) hru.own.own gg) HG.out q _
         have HUZ : Hid ((us2.set q ⟨A2, n2, c2, u.ys ++ [((⟨(k : Int), ps, pA, pn, pc, pt, pB, pm_, pd⟩ : TV), pq)]⟩).length = N) := by show _ = _; rw [List.length_set]; exact HUL.out
         have HNZZ : Hid (∀ (j : Nat) (s : SV), (us2.set q ⟨A2, n2, c2, u.ys ++ [((⟨(k : Int), ps, pA, pn, pc, pt, pB, pm_, pd⟩ : TV), pq)]⟩)[j]? = some s → ownOf s ≠ some G) := fun j s hs => by
          by_cases e : j = q
          ·subst e
           rw [List.getElem?_set_self (List.getElem?_eq_some_iff.1 HU.out).1] at hs
           obtain rfl := oI hs
           rcases gb with e2 | e2
           ·show (Value.slice A2 n2 c2).ownBlock ≠ _
            rw [e2]; exact HNG.out j u HU.out
           ·show (Value.slice A2 n2 c2).ownBlock ≠ _
            rw [e2]
            intro e3
            have h8 := oI e3
            have h7 := HZ2.out.lt
            omega
          ·rw [List.getElem?_set_ne (fun h => e h.symm)] at hs
           exact HNG.out j s hs
         have ho4 : OutS w4 g us2 := HT2.out.out.block (gg.block g HT2.out.out.lt (fun e => HT2.out.ne q u HU.out e.symm))
         have HO4 := lh ho4
         have HD4 : Hid (w4.cell? ⟨wr.heap.size, 0, none⟩ = some (.int .i64 (q : Int)) ∧ w4.cell? ⟨wr.heap.size, 1, none⟩ = some (.bool ps) ∧ w4.cell? ⟨wr.heap.size, 2, none⟩ = some (.slice pA pn pc) ∧ w4.cell? ⟨wr.heap.size, 3, none⟩ = some (.bool pt) ∧ w4.cell? ⟨wr.heap.size, 4, none⟩ = some (.slice pB pm_ pd)) := by
          obtain ⟨q0, q1, q2, q3, q4⟩ := hHeld
          have hb4 := gg.block wr.heap.size (World.block_lt_of_cell? _ _ q0) (fun e => Nat.lt_irrefl _ (HUB.out _ e.symm))
          exact ⟨(World.cell?_of_block (a := ⟨wr.heap.size, 0, none⟩) hb4).trans q0, (World.cell?_of_block (a := ⟨wr.heap.size, 1, none⟩) hb4).trans q1, (World.cell?_of_block (a := ⟨wr.heap.size, 2, none⟩) hb4).trans q2, (World.cell?_of_block (a := ⟨wr.heap.size, 3, none⟩) hb4).trans q3, (World.cell?_of_block (a := ⟨wr.heap.size, 4, none⟩) hb4).trans q4⟩
         clear g2 gg gb hcl hru hfr hul ho4
         refine rQ 13 (fun K hK => ?_)
         try simp only [gY, gZ, gJ]
         rw [if_pos (by rfl)]
         unfold Oper.wp
         simp [execOp, resolve, invoke, builtin, Act.eval, hr, Result.andThen]
         refine hK.out _ _ (by with_reducible exact HD4.out) (fun hHeld => ?_)
         clear hK K hr HD4
         try simp only [aP, sT, sZ, sS]
         refine' tK 14 ?_
         try simp only [gY, gZ, gJ, aP, sT, sZ, sS]
         have hf4 := HO4.out.frz q
         have hc4 := HO4.out.at_ HU.out
         refine rQ 15 (fun K hK => ?_)
         try simp only [gY, gZ, gJ]
         go_simp
         have HD5 : Hid ((w4.setCell ⟨g, q, none⟩ (.slice A2 n2 c2)).cell? ⟨wr.heap.size, 0, none⟩ = some (.int .i64 (q : Int)) ∧ (w4.setCell ⟨g, q, none⟩ (.slice A2 n2 c2)).cell? ⟨wr.heap.size, 1, none⟩ = some (.bool ps) ∧ (w4.setCell ⟨g, q, none⟩ (.slice A2 n2 c2)).cell? ⟨wr.heap.size, 2, none⟩ = some (.slice pA pn pc) ∧ (w4.setCell ⟨g, q, none⟩ (.slice A2 n2 c2)).cell? ⟨wr.heap.size, 3, none⟩ = some (.bool pt) ∧ (w4.setCell ⟨g, q, none⟩ (.slice A2 n2 c2)).cell? ⟨wr.heap.size, 4, none⟩ = some (.slice pB pm_ pd)) := by
          obtain ⟨q0, q1, q2, q3, q4⟩ := hHeld
          have hb4 := ((Near.refl (fun b => b = g) w4).setCell g q (.slice A2 n2 c2) rfl).block wr.heap.size (World.block_lt_of_cell? _ _ q0) (fun e => absurd HGW.out (by omega))
          exact ⟨(World.cell?_of_block (a := ⟨wr.heap.size, 0, none⟩) hb4).trans q0, (World.cell?_of_block (a := ⟨wr.heap.size, 1, none⟩) hb4).trans q1, (World.cell?_of_block (a := ⟨wr.heap.size, 2, none⟩) hb4).trans q2, (World.cell?_of_block (a := ⟨wr.heap.size, 3, none⟩) hb4).trans q3, (World.cell?_of_block (a := ⟨wr.heap.size, 4, none⟩) hb4).trans q4⟩
         refine hK.out _ _ (by with_reducible exact HD5.out) (fun hHeld => ?_)
         clear hK K HD5 hf4 hc4
         try simp only [aP, sT, sZ, sS]
         refine wpAnyH_done (by kernel_rfl) ?_ _
         go_wp2_with fail
         go_roundw
         case rel => exact ⟨i + 1, _, by omega, by go_num, HTZ, HUZ, HBZ, HZZ, HNZZ⟩
         case measure => (simp [intOf]; omega)
       ·have HWI : Hid (decide (0 ≤ pat ∧ pat < (N : Int)) = false) := decide_eq_false hr
        go_wp2_with fail
        clear hV d0 d1 d2 d3 d4 e0
        refine (within_any _ _ _ false HWI.out).mono ?_
        rintro e w2 ⟨rfl, hbx⟩
        have HT2 : Hid (TZ w2 w.heap.size g us2 (gof (colsOf vs) (vals zs) k (i + 1))) := (HTV.out.below hbx).congr (fun j hj a => gof_same HVI.out (by have := HUL.out; omega) a)
        have HB2 := lh (below_on HBV.out hbx)
        have HZ2 := lh (HZV.out.below hbx)
        clear hbx HTV HBV HZV HQV HBX HT HB HZ
        go_wp2_with fail
        go_roundw
        case rel => exact ⟨i + 1, us2, by omega, by go_num, HT2, HUL, HB2, HZ2, HNG⟩
        case measure => (simp [intOf]; omega)
      ·have hi1 : ¬ (i : Int) < (gn : Int) := by omega
       have HT2 : Hid (TZ wr w.heap.size g us2 (gof (colsOf vs) [] (k + 1) 0)) := HT.out.congr (fun j _ a => gof_next (by rw [vals_len]; have := HGN.out; omega) (fun r => HZI.out.2 r) j a)
       clear HT HZ HNG
       go_wp2_with fail
       go_roundw
       case rel => exact ⟨k + 1, us2, by omega, by go_num, HT2, HUL, HB⟩
       case measure => (simp [intOf]; omega)
    ·have hk1 : ¬ (k : Int) < (n : Int) := by omega
     have HKN : Hid (k = (colsOf vs).length) := by have := HCL.out; show _ = _; omega
     have HRF : Hid (RowsF wr (some ⟨g, 0, none⟩) N N (rowf (colsOf vs))) := ⟨us, HT.out.out.rows, HUL.out.symm, lR _, fun j u hu => by
      have h1 := (HT.out.congr (G := rowf (colsOf vs)) (fun j _ a => by rw [HKN.out]; exact gof_all _ _ j a)).row j u hu
      exact h1.cf (HR.out.row HS.out.2.2 j) HS.out.1 (by have := HS.out; omega)⟩
     clear HT
     go_wp2_with fail
     exact ⟨rfl, .tuple #[.slice (some ⟨g, 0, none⟩) N N, .int .i64 0], by simp [results, Tryz.results40, go_sem], HB.out, .inr ⟨HE.out, _, _, rfl, HRF.out⟩⟩
