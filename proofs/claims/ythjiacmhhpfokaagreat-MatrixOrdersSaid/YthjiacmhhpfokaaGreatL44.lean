/- Part 44 of the proof: MxMove, MxRMove. -/
import Derived.Test.YthjiacmhhpfokaaGreatL43
namespace Go.Proofs.YthjiacmhhpfokaaGreat
open Nat renaming le_trans → lT
open List renaming getElem?_eq_getElem → gE, length_map → lM
open Option.some renaming inj → oI
namespace V
open Lib renaming hid → lh
open Go.RowKit
open Q (IsQ OneQ RetQ below_on ql Qbx)
theorem flat_set : ∀ (ts : List TV) (i : Nat) (x : TV) (a : Int), ts[i]? = some x → flat (ts.set i {x with at_ := a}) = (flat ts).set (i * 5) (.int .i64 a)
 | [], i, x, a, h => by simp at h
 | t :: ts, 0, x, a, h => by
  obtain rfl : t = x := by simpa using h
  rfl
 | t :: ts, i + 1, x, a, h => by
  have h1 : ts[i]? = some x := by simpa using h
  show t.enc ++ flat (ts.set i _) = (t.enc ++ flat ts).set ((i + 1) * 5) _
  rw [flat_set ts i x a h1, List.set_append_right _ _ (by rw [enc_len]; omega), enc_len, show (i + 1) * 5 - 5 = i * 5 by omega]
theorem OwnU.setAt {w : World} {base g n c : Nat} {ts : List TV} (h : OwnU w base (.slice (some ⟨g, 0, none⟩) n c) ts) {i : Nat} {x : TV} (hx : ts[i]? = some x) (a : Int) : OwnU (w.setCell ⟨g, i * 5, none⟩ (.int .i64 a)) base (.slice (some ⟨g, 0, none⟩) n c) (ts.set i {x with at_ := a}) := by
 refine ⟨⟨by rw [flat_len], ?_⟩, ?_, _, _, _, rfl⟩
 ·rcases h.row.2 with ⟨e, _⟩ | ⟨g', cap, cur, e, hb, hgc, hnc, hcm, hcs, htake⟩
  ·cases e
  ·obtain ⟨rfl, rfl, rfl⟩ : g = g' ∧ n = ts.length ∧ c = cap := by simpa using e
   refine .inr ⟨g, c, _, by rw [List.length_set], hb, heap_setCell_same w g (i * 5) _ _ _ hgc, by rw [List.length_set]; exact hnc, hcm, by simpa using hcs, ?_⟩
   rw [List.length_set, Array.toList_setIfInBounds, List.take_set, htake, flat_set ts i x a hx]
 ·intro g' hg' j u hu z
  obtain rfl : g = g' := by injection hg'
  rcases h.row.2 with ⟨e, _⟩ | ⟨g', cap, cur, e, hb, hgc, hnc, hcm, hcs, htake⟩
  ·cases e
  ·obtain ⟨rfl, rfl, rfl⟩ : g = g' ∧ n = ts.length ∧ c = cap := by simpa using e
   rw [cell_of_row _ g j _ _ _ (heap_setCell_same w g (i * 5) _ _ _ hgc)] at hu
   by_cases hj : i * 5 = j
   ·subst hj
    rw [Array.getElem?_setIfInBounds_self] at hu
    split at hu
    ·obtain rfl := oI hu
     intro e; cases e
    ·cases hu
   ·rw [Array.getElem?_setIfInBounds_ne hj] at hu
    exact h.all g rfl j u (by rw [cell_of_row w g j _ _ _ hgc]; exact hu) z
theorem OwnK.setAt {w : World} {base g n c k : Nat} {zs : List (TV × Rat)} (h : OwnK w base (.slice (some ⟨g, 0, none⟩) n c) zs k) {i : Nat} {z : TV × Rat} (hz : zs[i]? = some z) {a : Int} (ha : -9223372036854775808 ≤ a ∧ a ≤ 9223372036854775807) : OwnK (w.setCell ⟨g, i * 5, none⟩ (.int .i64 a)) base (.slice (some ⟨g, 0, none⟩) n c) (zs.set i ({z.1 with at_ := a}, z.2)) k := by
 have hd : NoDig w (fun b => b = g) := fun b hb j u hu => h.own.all b (by rw [hb]; rfl) j u hu
 have hn : Near (fun b => b = g) w (w.setCell ⟨g, i * 5, none⟩ (.int .i64 a)) := (Near.refl _ w).setCell g _ _ rfl
 refine ⟨by rw [List.map_set]; exact h.own.setAt (by rw [List.getElem?_map, hz]; rfl) a, fun y hy => ?_⟩
 rcases List.mem_or_eq_of_mem_set hy with hy | rfl
 ·exact ⟨isq_near (h.tq y hy).1 hd hn, (h.tq y hy).2⟩
 ·exact ⟨isq_near (h.tq z (List.mem_of_getElem? hz)).1 hd hn, ha⟩
theorem OwnK.row_ {w : World} {base g n c k : Nat} {zs : List (TV × Rat)} (h : OwnK w base (.slice (some ⟨g, 0, none⟩) n c) zs k) {i : Nat} {z : TV × Rat} (hz : zs[i]? = some z) : w.cell? ⟨g, i * 5, none⟩ = some (.int .i64 z.1.at_) ∧ w.cell? ⟨g, i * 5 + 1, none⟩ = some (.bool z.1.s) ∧ w.cell? ⟨g, i * 5 + 2, none⟩ = some (.slice z.1.A z.1.n z.1.c) ∧ w.cell? ⟨g, i * 5 + 3, none⟩ = some (.bool z.1.t) ∧ w.cell? ⟨g, i * 5 + 4, none⟩ = some (.slice z.1.B z.1.m z.1.d) ∧ ∀ j, w.frozen? ⟨g, j, none⟩ = false := by
 obtain ⟨b, off, e, hk⟩ := row_at2 h.isv.1.row (j := i) (x := z.1) (by rw [List.getElem?_map, hz]; rfl)
 obtain ⟨rfl, rfl⟩ : g = b ∧ 0 = off := by simpa using e
 obtain ⟨c0, c1, c2, c3, c4⟩ := hk w (Below.refl _ _)
 rw [Nat.zero_add] at c0 c1 c2 c3 c4
 refine ⟨c0, c1, c2, c3, c4, fun j => ?_⟩
 rcases h.own.row.2 with ⟨e, _⟩ | ⟨g', cap, cur, e, hb, hgc, _⟩
 ·cases e
 ·obtain ⟨rfl, _, _⟩ : g = g' ∧ n = (zs.map Prod.fst).length ∧ c = cap := by simpa using e
  exact frozen_of_row w g j _ _ hgc
theorem norm_own {w : World} {A : Option Addr} {n c p l L : Nat} {F : Int → Rat} (hx : VF w A n c F) (hF : Fn p l L F) (hp : p ≤ 700) (hl : l ≤ 700) : Calls Tryz.prog 18 #[.slice A n c] w (fun e w' => ∃ g n2 c2 zs, e = .returned (.slice (some ⟨g, 0, none⟩) n2 c2) ∧ OwnK w' w.heap.size (.slice (some ⟨g, 0, none⟩) n2 c2) zs 700 ∧ w.heap.size ≤ g ∧ Is F (vals zs) ∧ Below w.heap.size w w') := by
 obtain ⟨xs, h1, h2, h3⟩ := hx.ex
 refine (norm_v h1 (Nat.le_refl _) (lT hx.len (by omega)) h2 hx.blk).mono fun e w' h => ?_
 rw [h3] at h
 obtain ⟨g, n2, c2, zs, rfl, g1, g2, g3, g4, g5⟩ := h
 refine ⟨g, n2, c2, zs, rfl, ⟨⟨⟨g1.row.1, ?_⟩, g1.all, _, _, _, rfl⟩, fun y hy => ⟨(g4 y hy).1.isq (is_ql g3 hF hp hl (y.1.at_, y.2) (List.mem_map.2 ⟨y, hy, rfl⟩)), (g4 y hy).2⟩⟩, g2, g3, g5⟩
 rcases g1.row.2 with ⟨e, _⟩ | ⟨g', cap, cur, e, _, r⟩
 ·cases e
 ·obtain ⟨rfl, _, _⟩ : g = g' ∧ n2 = (zs.map Prod.fst).length ∧ c2 = cap := by simpa using e
  exact .inr ⟨g, cap, cur, e, g2, r⟩
def pm (xs : List Int) (a : Int) : Int := xs.getD a.toNat 0
def mvt (xs : List Int) (z : TV × Rat) : TV × Rat := ({z.1 with at_ := pm xs z.1.at_}, z.2)
def mv (xs : List Int) (X : Int → Rat) (b : Int) : Rat := if 0 ≤ b ∧ b < (xs.length : Int) then X (xs.idxOf b) else 0
def Fits (xs : List Int) (X : Int → Rat) : Prop := Ord xs ∧ ∀ a, X a ≠ 0 → 0 ≤ a ∧ a < (xs.length : Int)
theorem pm_at {xs : List Int} {a : Int} (h : 0 ≤ a ∧ a < (xs.length : Int)) : xs[a.toNat]? = some (pm xs a) := by
 unfold pm
 rw [List.getD_eq_getElem?_getD, gE (by omega)]; rfl
theorem pm_iff {xs : List Int} (h : Ord xs) {a b : Int} (ha : 0 ≤ a ∧ a < (xs.length : Int)) (hb : 0 ≤ b ∧ b < (xs.length : Int)) : pm xs a = b ↔ a = (xs.idxOf b : Int) := by
 have hm := h.mem hb
 have h1 := List.idxOf_lt_length_of_mem hm
 have h2 : xs[xs.idxOf b]? = some b := by rw [gE h1, List.getElem_idxOf]
 have h3 := pm_at ha
 constructor
 ·intro e
  rw [e] at h3
  have := nodup_at h.2 h3 h2
  omega
 ·intro e
  have e2 : a.toNat = xs.idxOf b := by omega
  rw [e2, h2] at h3
  exact (oI h3).symm
theorem tot_image {f : Int → Int} {b a0 : Int} : ∀ {l : List (Int × Rat)}, (∀ x ∈ l, f x.1 = b ↔ x.1 = a0) → tot (l.map (fun x => (f x.1, x.2))) b = tot l a0
 | [], _ => rfl
 | (p, q) :: l, h => by
  rw [List.map_cons, tot_cons, tot_cons, tot_image (fun x hx => h x (List.mem_cons_of_mem _ hx))]
  have h1 := h (p, q) (List.mem_cons_self ..)
  simp only at h1
  by_cases e : f p = b
  ·rw [if_pos e, if_pos (h1.1 e)]
  ·rw [if_neg e, if_neg (fun e2 => e (h1.2 e2))]
theorem vals_mvt (xs : List Int) (zs : List (TV × Rat)) : vals (zs.map (mvt xs)) = (vals zs).map (fun x => (pm xs x.1, x.2)) := by unfold vals mvt; rw [List.map_map, List.map_map]; rfl
theorem mv_tot {xs : List Int} {X : Int → Rat} {zs : List (TV × Rat)} (h : Ord xs) (hz : Is X (vals zs)) (hr : ∀ z ∈ zs, 0 ≤ z.1.at_ ∧ z.1.at_ < (xs.length : Int)) (b : Int) : tot (vals (zs.map (mvt xs))) b = mv xs X b := by
 have hr2 : ∀ x ∈ vals zs, 0 ≤ x.1 ∧ x.1 < (xs.length : Int) := fun x hx => by
  obtain ⟨z, hz, rfl⟩ := List.mem_map.1 hx; exact hr z hz
 rw [vals_mvt]
 unfold mv
 by_cases hb : 0 ≤ b ∧ b < (xs.length : Int)
 ·rw [if_pos hb, ← hz.2]
  exact tot_image (fun x hx => pm_iff h (hr2 x hx) hb)
 ·rw [if_neg hb]
  refine tot_none (fun y hy => ?_)
  obtain ⟨x, hx, rfl⟩ := List.mem_map.1 hy
  intro e
  have h3 := List.mem_of_getElem? (pm_at (hr2 x hx))
  have h4 := h.1 _ h3
  exact hb (by rw [← show pm xs x.1 = b from e]; exact h4)
theorem mv_fn {xs : List Int} {X : Int → Rat} {p m L : Nat} (h : Ord xs) (hX : Fn p m L X) : Fn p m L (mv xs X) := by
 obtain ⟨P, N, h0, h1, h2, h3⟩ := hX.over
 obtain ⟨S, hS, hS2⟩ := hX.sup
 refine ⟨⟨P, N, h0, h1, h2, fun a => ?_⟩, S.map (pm xs), by rw [lM]; exact hS, fun a ha => ?_⟩
 ·unfold mv; split
  ·exact h3 _
  ·exact Over.zero _ _
 ·unfold mv at ha
  by_cases hb : 0 ≤ a ∧ a < (xs.length : Int)
  ·rw [if_pos hb] at ha
   refine List.mem_map.2 ⟨_, hS2 _ ha, ?_⟩
   have h5 := List.idxOf_lt_length_of_mem (h.mem hb)
   exact (pm_iff h ⟨by omega, by omega⟩ hb).2 rfl
  ·exact absurd (if_neg hb) ha
def mvd (xs : List Int) (zs : List (TV × Rat)) (i : Nat) : List (TV × Rat) := (zs.take i).map (mvt xs) ++ zs.drop i
theorem mvd_at {xs : List Int} {zs : List (TV × Rat)} {i : Nat} {z : TV × Rat} (hz : zs[i]? = some z) : (mvd xs zs i)[i]? = some z := by
 have hl : ((zs.take i).map (mvt xs)).length = i := by rw [lM, List.length_take]; have := (List.getElem?_eq_some_iff.1 hz).1; omega
 unfold mvd
 rw [List.getElem?_append_right (by omega), hl, Nat.sub_self, List.getElem?_drop, Nat.add_zero, hz]
theorem mvd_succ {xs : List Int} {zs : List (TV × Rat)} {i : Nat} {z : TV × Rat} (hz : zs[i]? = some z) : (mvd xs zs i).set i ({z.1 with at_ := pm xs z.1.at_}, z.2) = mvd xs zs (i + 1) := by
 have hl : ((zs.take i).map (mvt xs)).length = i := by rw [lM, List.length_take]; have := (List.getElem?_eq_some_iff.1 hz).1; omega
 have hi := (List.getElem?_eq_some_iff.1 hz).1
 unfold mvd
 rw [List.set_append_right _ _ (by omega), hl, Nat.sub_self, List.take_add_one, hz, List.map_append, List.append_assoc, List.drop_eq_getElem_cons hi, (List.getElem?_eq_some_iff.1 hz).2]
 rfl
theorem mvd_all {xs : List Int} {zs : List (TV × Rat)} {i : Nat} (h : zs.length ≤ i) : mvd xs zs i = zs.map (mvt xs) := by
 unfold mvd
 rw [List.take_of_length_le h, List.drop_eq_nil_of_le h, List.append_nil]
def RetM (w : World) (F : Int → Rat) (v : Bool) (e : Ending) (w' : World) : Prop := Below w.heap.size w w' ∧ (v = false ∧ e = .returned (.tuple #[.slice none 0 0, .int .i64 2]) ∨ v = true ∧ ∃ A n c, e = .returned (.tuple #[.slice A n c, .int .i64 0]) ∧ CF w' A n c F)
theorem moved_vf {w wr : World} {A : Option Addr} {n c p m L : Nat} {xs : List Int} {X : Int → Rat} {zs : List (TV × Rat)} (ho : OwnK wr w.heap.size (.slice A n c) (zs.map (mvt xs)) 700) (hX : Fn p m L X) (h : Ord xs) (hz : Is X (vals zs)) (hr : ∀ z ∈ zs, 0 ≤ z.1.at_ ∧ z.1.at_ < (xs.length : Int)) (hp : p ≤ 700) (hm : m + 1 ≤ 700) (hL : L ≤ 1000) : VF wr A n c (mv xs X) := by
 obtain ⟨P, N, h0, h1, h2, h3⟩ := hX.over
 have hl : zs.length ≤ L := by have := is_len hz hX; rwa [vals_len] at this
 have hi := ho.isv
 refine ⟨⟨_, hi.1, fun l' hl' hm' => ?_, funext (mv_tot h hz hr)⟩, by have := hi.1.en; rw [lM] at this; omega, hi.2⟩
 have hov : ∀ x ∈ l', Over P N x.2 := fun x hx => by
  have h9 := hm' x hx
  rw [vals_mvt] at h9
  obtain ⟨y, hy, rfl⟩ := List.mem_map.1 h9
  show Over P N y.2
  rw [← canon_mem hz.1 hy, hz.2]
  exact h3 _
 rw [vals_len, lM] at hl'
 exact ((Over.all hov).mono (Nat.mul_le_mul_right _ (lT hl' hl))).ql_le h0 (lT (dig_length_le h1) hp) (dig_lim (mul_small (by omega) h2) hm)
set_option maxRecDepth 100000 in
set_option maxHeartbeats 4000000 in
theorem move_c {w : World} {A B : Option Addr} {n c k d p2 m2 L2 : Nat} {xs : List Int} {X : Int → Rat} (h : RI w A n xs) (hx : VF w B k d X) (hF : Fn p2 m2 L2 X) (hp : p2 ≤ 700) (hm : m2 + 1 ≤ 700) (hL : L2 ≤ 1000) (v : Bool) (hv : v = true ↔ Fits xs X) :
  Calls Tryz.prog 43 #[.slice A n c, .slice B k d] w (RetM w (mv xs X) v) := by
 obtain ⟨vp, hvp⟩ := iff_dec (Ord xs)
 have HJ := lh (perm_any (c := c) h vp hvp)
 have H := lh h
 have HX := lh hx
 have HF := lh hF
 have HS : Hid (p2 ≤ 700 ∧ m2 + 1 ≤ 700 ∧ L2 ≤ 1000) := ⟨hp, hm, hL⟩
 have HV := lh hv
 have HVP := lh hvp
 have HEN := lh h.en
 have HLE := lh h.le
 have HNO : Hid (¬ Fits xs X → v = false) := fun hn => by
  cases v with
  | false => rfl
  | true => exact absurd (HV.out.1 rfl) hn
 clear h hx hF hp hm hL hv hvp
 go_enter Tryz.func43, Tryz.ntmps43
 go_wp2_with fail
 refine HJ.out.mono ?_
 rintro e w0 ⟨rfl, hb⟩
 have HB0 := lh hb
 clear hb HJ
 cases vp with
 | false =>
  have HE := lh (HNO.out (fun hf => by have := HVP.out.2 hf.1; cases this))
  go_wp2_with fail
  exact ⟨rfl, .tuple #[.slice none 0 0, .int .i64 2], by simp [results, Tryz.results43, go_sem], HB0.out, .inl ⟨HE.out, rfl⟩⟩
 | true =>
  have HORD : Hid (Ord xs) := HVP.out.1 rfl
  have HX0 := lh (HX.out.below HB0.out)
  go_wp2_with fail
  refine (norm_own HX0.out HF.out HS.out.1 (by have := HS.out; omega)).mono ?_
  rintro e w1 ⟨g, gn, gc, zs, rfl, ho, hg, hz, hb⟩
  have HZ := lh hz
  have HB1 := lh (below_on HB0.out hb)
  have HBA := lh hb
  have HG : Hid (w0.heap.size ≤ g ∧ w.heap.size ≤ g) := ⟨hg, lT HB0.out.size hg⟩
  have HGN : Hid (gn = zs.length ∧ gn ≤ 1000) := by
   have h1 := ho.isv.1.en
   have h2 := is_len hz HF.out
   rw [vals_len] at h2
   have h3 := HS.out
   show _ ∧ _; omega
  have HO0 : Hid (OwnK w1 w0.heap.size (.slice (some ⟨g, 0, none⟩) gn gc) (mvd xs zs 0) 700) := by
   have e : mvd xs zs 0 = zs := by unfold mvd; simp
   rw [e]; exact ho
  clear ho hg hz hb HX0
  go_wp2_with fail
  go_loopw [16] (fun iv wr => ∃ i : Nat, i ≤ gn ∧ iv = .int .i64 (i : Int) ∧ Hid (OwnK wr w0.heap.size (.slice (some ⟨g, 0, none⟩) gn gc) (mvd xs zs i) 700) ∧ Hid (∀ j z, j < i → zs[j]? = some z → 0 ≤ z.1.at_ ∧ z.1.at_ < (n : Int)) ∧ Hid (Below w.heap.size w wr) ∧ Hid (Below w0.heap.size w0 wr)) (fun iv _ => gn - (intOf iv).toNat)
  case atStart => exact ⟨0, Nat.zero_le _, rfl, HO0, (fun j _ hj => absurd hj (Nat.not_lt_zero j)), HB1, HBA⟩
  case round =>
   clear HO0 HB1 HBA
   obtain ⟨i, hi, rfl, HO, HR, HB, HBA⟩ := hrel
   by_cases hlt : i < gn
   ·have hi1 : (i : Int) < (gn : Int) := by omega
    have hi0 : (0 : Int) ≤ (i : Int) := by omega
    have hwi : IntKind.i64.wrap ((i : Int) + 1) = (i : Int) + 1 := by have := HGN.out; rw [IntKind.wrap_i64]; omega
    obtain ⟨z, hz⟩ : ∃ z, zs[i]? = some z := ⟨zs[i]'(by have := HGN.out; omega), gE (by have := HGN.out; omega)⟩
    have HZI := lh hz
    obtain ⟨d0, d1, d2, d3, d4, _⟩ := HO.out.row_ (mvd_at hz)
    have HNF : Hid (¬ (0 ≤ z.1.at_ ∧ z.1.at_ < (n : Int)) → v = false) := fun hn => HNO.out (fun hf => hn (by
     have h1 := canon_mem HZ.out.1 (x := (z.1.at_, z.2)) (List.mem_map.2 ⟨z, List.mem_of_getElem? hz, rfl⟩)
     have h2 := HZ.out.1.nz (z.1.at_, z.2) (List.mem_map.2 ⟨z, List.mem_of_getElem? hz, rfl⟩)
     rw [HZ.out.2] at h1
     rw [HEN.out]
     exact hf.2 _ (by rw [show X z.1.at_ = z.2 from h1]; exact h2)))
    have HPM : Hid (0 ≤ z.1.at_ ∧ z.1.at_ < (n : Int) → xs[z.1.at_.toNat]? = some (pm xs z.1.at_)) := fun hr => pm_at (by rw [← HEN.out]; exact hr)
    obtain ⟨⟨pat, ps, pA, pn, pc, pt, pB, pm_, pd⟩, pq⟩ := z
    simp only at d0 d1 d2 d3 d4 HNF HPM
    clear hz
    obtain ⟨V, hV⟩ : ∃ V, wr.alloc (.cells #[.int .i64 pat, .bool ps, .slice pA pn pc, .bool pt, .slice pB pm_ pd] 67) = V := ⟨_, rfl⟩
    have hvb : Below wr.heap.size wr V := by rw [← hV]; exact (Below.refl _ _).alloc (Nat.le_refl _) _
    have hbx : V.heap[wr.heap.size]? = some (.cells #[.int .i64 pat, .bool ps, .slice pA pn pc, .bool pt, .slice pB pm_ pd] 67 (0, 0)) := by rw [← hV]; exact heap_alloc_new wr _
    have e0 : V.cell? ⟨wr.heap.size, 0, none⟩ = some (.int .i64 pat) := by rw [cell_of_row V wr.heap.size 0 _ _ _ hbx]; rfl
    have e1 : V.cell? ⟨wr.heap.size, 1, none⟩ = some (.bool ps) := by rw [cell_of_row V wr.heap.size 1 _ _ _ hbx]; rfl
    have HBX := lh hbx
    have HOV := lh (HO.out.below hvb)
    have HBV := lh (below_on HB.out hvb)
    have HBW := lh (below_on HBA.out hvb)
    clear hvb hbx
    by_cases hr : 0 ≤ pat ∧ pat < (n : Int)
    ·obtain ⟨hr0, hr1⟩ := hr
     obtain ⟨q, rfl⟩ := Int.eq_ofNat_of_zero_le hr0
     have HWI : Hid (decide (0 ≤ (q : Int) ∧ (q : Int) < (n : Int)) = true) := decide_eq_true ⟨hr0, hr1⟩
     have hpx := HPM.out ⟨hr0, hr1⟩
     rw [Int.toNat_natCast] at hpx
     obtain ⟨y, hy⟩ : ∃ y, pm xs (q : Int) = y := ⟨_, rfl⟩
     rw [hy] at hpx
     have HY := lh hy
     have HYR := lh (H.out.rng y (List.mem_of_getElem? hpx))
     obtain ⟨b1, off, hA, hk1⟩ := rowi_at H.out.row hpx
     subst hA
     have HKP : Hid (∀ W, Below w.heap.size w W → W.cell? ⟨b1, off + q, none⟩ = some (.int .i64 y)) := fun W hW => hk1 W hW
     clear hpx hy hk1
     go_wp2_with fail
     clear hV d0 d1 d2 d3 d4 e0 e1
     refine (within_any _ _ _ true HWI.out).mono ?_
     rintro e w2 ⟨rfl, hbx⟩
     have HO2 := lh (HOV.out.below hbx)
     have HB2 := lh (below_on HBV.out hbx)
     have HBA2 := lh (below_on HBW.out hbx)
     have hx2 := (hbx.block wr.heap.size (lt_of_block HBX.out)).trans HBX.out
     have e0 : w2.cell? ⟨wr.heap.size, 0, none⟩ = some (.int .i64 (q : Int)) := by rw [cell_of_row w2 wr.heap.size 0 _ _ _ hx2]; rfl
     obtain ⟨d0, _, _, _, _, df⟩ := HO2.out.row_ (mvd_at HZI.out)
     have df0 := df (i * 5)
     have k0 := HKP.out _ HB2.out
     simp only at d0
     have HO3 : Hid (OwnK (w2.setCell ⟨g, i * 5, none⟩ (.int .i64 y)) w0.heap.size (.slice (some ⟨g, 0, none⟩) gn gc) (mvd xs zs (i + 1)) 700) := by
      have h9 := HO2.out.setAt (mvd_at HZI.out) HYR.out
      rw [← HY.out] at h9
      rw [← HY.out, ← mvd_succ HZI.out]
      exact h9
     have HB3 : Hid (Below w.heap.size w (w2.setCell ⟨g, i * 5, none⟩ (.int .i64 y))) := below_set HB2.out HG.out.2 _ _
     have HBA3 : Hid (Below w0.heap.size w0 (w2.setCell ⟨g, i * 5, none⟩ (.int .i64 y))) := below_set HBA2.out HG.out.1 _ _
     have HR3 : Hid (∀ j z, j < i + 1 → zs[j]? = some z → 0 ≤ z.1.at_ ∧ z.1.at_ < (n : Int)) := fun j z hj hz => by
      rcases Nat.lt_or_ge j i with h9 | h9
      ·exact HR.out j z h9 hz
      ·obtain rfl : j = i := by omega
       obtain rfl := oI (hz.symm.trans HZI.out)
       exact ⟨hr0, hr1⟩
     clear hbx hx2 df
     go_wp2_with fail
     go_roundw
     case rel => exact ⟨i + 1, by omega, by go_num, HO3, HR3, HB3, HBA3⟩
     case measure => (simp [intOf]; omega)
    ·have HWI : Hid (decide (0 ≤ pat ∧ pat < (n : Int)) = false) := decide_eq_false hr
     have HE := lh (HNF.out hr)
     clear hr
     go_wp2_with fail
     clear hV d0 d1 d2 d3 d4 e0 e1
     refine (within_any _ _ _ false HWI.out).mono ?_
     rintro e w2 ⟨rfl, hbx⟩
     have HB2 := lh (below_on HBV.out hbx)
     clear hbx
     go_wp2_with fail
     exact ⟨rfl, .tuple #[.slice none 0 0, .int .i64 2], by simp [results, Tryz.results43, go_sem], HB2.out, .inl ⟨HE.out, rfl⟩⟩
   ·have hi1 : ¬ (i : Int) < (gn : Int) := by omega
    have HRA : Hid (∀ z ∈ zs, 0 ≤ z.1.at_ ∧ z.1.at_ < (xs.length : Int)) := fun z hz => by
     obtain ⟨j, hj⟩ := List.getElem?_of_mem hz
     rw [← HEN.out]
     exact HR.out j z (by have := (List.getElem?_eq_some_iff.1 hj).1; have := HGN.out; omega) hj
    have HE : Hid (v = true) := HV.out.2 ⟨HORD.out, fun a ha => by
     rw [← HZ.out.2 a] at ha
     obtain ⟨x, hx, hxa⟩ := tot_in ha
     obtain ⟨y, hy, rfl⟩ := List.mem_map.1 hx
     have h9 := HRA.out y hy
     rw [← show y.1.at_ = a from hxa]; exact h9⟩
    have HV9 : Hid (VF wr (some ⟨g, 0, none⟩) gn gc (mv xs X)) := by
     have h9 := HO.out
     rw [mvd_all (by have := HGN.out; omega)] at h9
     exact moved_vf h9 HF.out HORD.out HZ.out HRA.out HS.out.1 HS.out.2.1 HS.out.2.2
    have HFO := lh (mv_fn HORD.out HF.out)
    clear HO HR
    go_wp2_with fail
    refine (norm_c HV9.out HFO.out HS.out.1 (by have := HS.out; omega)).mono ?_
    rintro e w5 ⟨A5, n5, c5, rfl, hc, hb⟩
    have HR9 : Hid (RetM w (mv xs X) v (.returned (.tuple #[.slice A5 n5 c5, .int .i64 0])) w5) := ⟨below_on HB.out hb, .inr ⟨HE.out, A5, n5, c5, rfl, hc⟩⟩
    clear hc hb
    go_wp2_with fail
    exact ⟨rfl, .tuple #[.slice A5 n5 c5, .int .i64 0], by simp [results, Tryz.results43, go_sem], HR9.out⟩
end V

namespace V
open Go.RowKit
open Q (IsQ OneQ RetQ below_on ql Qbx)
theorem rowi_below {w w' : World} {A : Option Addr} {xs : List Int} (h : RowI w A xs) (hb : Below w.heap.size w w') : RowI w' A xs := by
 intro hne
 obtain ⟨b, off, e, hlt, hc⟩ := h hne
 exact ⟨b, off, e, Nat.lt_of_lt_of_le hlt hb.size, fun j x hj => (hb.cell (p := ⟨b, off + j, none⟩) hlt).trans (hc j x hj)⟩
theorem RI.below {w w' : World} {A : Option Addr} {n : Nat} {xs : List Int} (h : RI w A n xs) (hb : Below w.heap.size w w') : RI w' A n xs := ⟨rowi_below h.row hb, h.en, h.le, h.rng⟩
