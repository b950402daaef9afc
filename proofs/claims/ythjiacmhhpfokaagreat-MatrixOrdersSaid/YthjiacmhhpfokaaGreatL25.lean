/- Part 25 of the proof: VSum, VNear, VLib. -/
import Derived.Test.YthjiacmhhpfokaaGreatL24
import Derived.Test.YthjiacmhhpfokaaGreatProg
import Derived.Shelf.SlSortCmp.WholeK
import Derived.Shelf.SlicesE.Clone
import Derived.Shelf.SlGeneric
import Derived.Ground.SlsfProg
import Derived.Ground.SlgnProg
namespace Go.Proofs.YthjiacmhhpfokaaGreat.V
open Lib renaming hid → lh
open Go.RowKit
open Go.Proofs.YthjiacmhhpfokaaGreat.Q (IsQ OneQ RetQ Qbx put4 below_on ql below_put4 put2)
def RetA (w : World) (q : Rat) (k : Nat) (e : Ending) (w' : World) : Prop :=
 ∃ s A n c t B m d, e = .returned (.agg #[.bool s, .slice A n c, .bool t, .slice B m d]) ∧ IsQ w' s A n c t B m d q k ∧ Below w.heap.size w w'
theorem ql_null : ql 0 ≤ 1 := by
 have h := Q.ql_div (n := 0) (d := 1) (by omega)
 rw [Rat.zero_divInt] at h
 have h1 := zl_small (z := 0) (by omega) (by omega)
 have h2 := zl_small (z := 1) (by omega) (by omega)
 omega
theorem IsV.nil (w : World) (A : Option Addr) (c k : Nat) : IsV w A 0 c [] k := ⟨rfl, Nat.zero_le _, fun h => absurd rfl h, fun _ h => by cases h⟩
theorem IsV.drop {w : World} {b off n c k : Nat} {ys : List (TV × Rat)} (h : IsV w (some ⟨b, off, none⟩) n c ys k) (i : Nat) : IsV w (some ⟨b, off + i * 5, none⟩) (n - i) (c - i) (ys.drop i) k := by
 refine ⟨by rw [h.en, List.length_drop], by have := h.cap; omega, ?_, fun y hy => h.tq y (List.mem_of_mem_drop hy)⟩
 intro hne
 obtain ⟨b2, off2, e, hlt, hc⟩ := h.row (by intro e; apply hne; rw [List.map_drop, e, List.drop_nil])
 obtain ⟨rfl, rfl⟩ : b = b2 ∧ off = off2 := by simpa using e
 refine ⟨b, off + i * 5, rfl, hlt, fun j x hj i2 v hv => ?_⟩
 rw [List.map_drop, List.getElem?_drop] at hj
 have := hc (i + j) x hj i2 v hv
 rw [show off + i * 5 + j * 5 + i2 = off + (i + j) * 5 + i2 by omega]
 exact this
theorem IsV.take {w : World} {A : Option Addr} {n c k : Nat} {ys : List (TV × Rat)} (h : IsV w A n c ys k) {i : Nat} (hi : i ≤ n) : IsV w A i c (ys.take i) k := by
 refine ⟨by rw [List.length_take, ← h.en]; omega, by have := h.cap; omega, ?_, fun y hy => h.tq y (List.mem_of_mem_take hy)⟩
 intro hne
 obtain ⟨b, off, e, hlt, hc⟩ := h.row (by intro e; apply hne; rw [List.map_take, e, List.take_nil])
 refine ⟨b, off, e, hlt, fun j x hj i2 v hv => hc j x ?_ i2 v hv⟩
 rw [List.map_take, List.getElem?_take] at hj
 split at hj
 ·exact hj
 ·cases hj
theorem all_take_succ {l : List (Int × Rat)} {i : Nat} {p : Int × Rat} (h : l[i]? = some p) : all (l.take (i + 1)) = all (l.take i) + p.2 := by
 rw [List.take_add_one, h, all_append]
 show _ = all (l.take i) + p.2
 have : all (some p).toList = p.2 := by show p.2 + 0 = p.2; grind
 rw [this]
structure SM (w wx : World) (s : Bool) (A : Option Addr) (n c : Nat) (t : Bool) (B : Option Addr) (m d : Nat) (q : Rat) : Prop where
 bel : Below w.heap.size w wx
 o : Qbx wx w.heap.size false none 0 0 false none 0 0
 tot : Qbx wx (w.heap.size + 1) s A n c t B m d
 val : IsQ wx s A n c t B m d q 700
theorem SM.below {w wx wy : World} {s t : Bool} {A B : Option Addr} {n c m d : Nat} {q : Rat} (h : SM w wx s A n c t B m d q) (hb : Below wx.heap.size wx wy) : SM w wy s A n c t B m d q := ⟨below_on h.bel hb, h.o.below hb, h.tot.below hb, h.val.below hb⟩
set_option maxRecDepth 100000 in
set_option maxHeartbeats 4000000 in
theorem sum_any {w : World} {A : Option Addr} {n c k : Nat} {ys : List (TV × Rat)} (h : IsV w A n c ys k) (hk : k ≤ 700) (hn : n ≤ 1000000000) (hp : ∀ i, ql (all ((vals ys).take i)) ≤ 700) :
  Calls Tryz.prog 96 #[.slice A n c] w (RetA w (all (vals ys)) 700) := by
 rcases ys with _ | ⟨y, ys⟩
 ·have e1 : n = 0 := h.en
  have g1 : ((n : Int) == 0) = true := by rw [e1]; rfl
  have HB : Hid (Below w.heap.size w (w.alloc (.cells #[.bool false, .slice none 0 0, .bool false, .slice none 0 0] 27))) := (Below.refl _ _).alloc (Nat.le_refl _) _
  have HO : Hid (Qbx (w.alloc (.cells #[.bool false, .slice none 0 0, .bool false, .slice none 0 0] 27)) w.heap.size false none 0 0 false none 0 0) := Qbx.new _ _ rfl
  clear h hk hn hp e1
  have o0 := HO.out.c0
  have o1 := HO.out.c1
  have o2 := HO.out.c2
  have o3 := HO.out.c3
  go_enter Tryz.func96, Tryz.ntmps96
  go_wp2_with fail
  refine bodyPost_ret (v := .agg #[.bool false, .slice none 0 0, .bool false, .slice none 0 0]) (by simp [results, Tryz.results96, go_sem, o0, o1, o2, o3]) rfl ?_
  exact ⟨false, none, 0, 0, false, none, 0, 0, rfl, (Q.oneq_zero _ 0 0).isq (Nat.le_trans ql_null (by omega)), by first | exact HB.out | exact below_put4 HB.out (Nat.le_refl _)⟩
 ·have HLEN : Hid (n = ys.length + 1) := h.en
  have hy := h.tq y (List.mem_cons_self ..)
  obtain ⟨b, off, hA, _, c0, c1, c2, c3, c4⟩ := h.row.at_ (j := 0) (x := y.1) rfl
  subst hA
  simp only [Nat.zero_mul, Nat.add_zero] at c0 c1 c2 c3 c4
  have g1 : ((n : Int) == 0) = false := by rw [HLEN.out, beq_eq_false_iff_ne]; omega
  have g2 : (0 : Int) < (n : Int) := by rw [HLEN.out]; omega
  have g3 : (1 : Int) ≤ (n : Int) := by rw [HLEN.out]; omega
  have HN := lh hn
  have HP := lh hp
  have HK := lh hk
  obtain ⟨p, hpy⟩ : ∃ p, y.1 = p := ⟨_, rfl⟩
  obtain ⟨q0, hqy⟩ : ∃ q0, y.2 = q0 := ⟨_, rfl⟩
  rw [hpy, hqy] at hy
  rw [hpy] at c0 c1 c2 c3 c4
  obtain ⟨at_, s, A, na, ca, t, B, ma, da⟩ := p
  have H := lh h
  have HV : Hid (vals (y :: ys) = (at_, q0) :: vals ys) := by show _ = _; unfold vals; rw [List.map_cons, hpy, hqy]
  have HS : Hid (SM w ((w.alloc (.cells #[.bool false, .slice none 0 0, .bool false, .slice none 0 0] 27)).alloc (.cells #[.bool s, .slice A na ca, .bool t, .slice B ma da] 27)) s A na ca t B ma da (all ((vals (y :: ys)).take 1))) := by
   refine ⟨((Below.refl _ _).alloc (Nat.le_refl _) _).alloc (by simp) _, (Qbx.new _ _ rfl).alloc _, Qbx.new _ _ (by simp), ?_⟩
   rw [HV.out]
   have : all (List.take 1 ((at_, q0) :: vals ys)) = q0 := by show q0 + 0 = q0; grind
   rw [this]
   exact ((hy.1.alloc _).alloc _).mono hk
  have HW : Hid (Below w.heap.size w ((w.alloc (.cells #[.bool false, .slice none 0 0, .bool false, .slice none 0 0] 27)).alloc (.cells #[.bool s, .slice A na ca, .bool t, .slice B ma da] 27))) := HS.out.bel
  obtain ⟨ql0, hql0⟩ : ∃ v, vals (y :: ys) = v := ⟨_, rfl⟩
  rw [hql0] at HS HV HP ⊢
  have HT : Hid (IsV w (some ⟨b, off + 1 * 5, none⟩) (n - 1) (c - 1) ys k) := h.drop 1
  clear h hn hp hk hy hpy hqy hql0
  go_enter Tryz.func96, Tryz.ntmps96
  go_upto_region 4 with fail
  go_cut [15, 16, 17] (fun s15 s16 s17 wx => ∃ (A' : Option Addr) (N1 C1 : Nat), s15 = .slice A' N1 C1 ∧ s16 = .int .i64 (N1 : Int) ∧ s17 = .int .i64 0 ∧ Hid (IsV w A' N1 C1 ys k) ∧ Hid (SM w wx s A na ca t B ma da (all (ql0.take 1))))
  case first =>
   by_cases hc : c = 1
   ·have hn1 : n = 1 := by have h1 := H.out.cap; have h2 := HLEN.out; omega
    have HE : Hid (ys = []) := by have h2 := HLEN.out; exact List.eq_nil_of_length_eq_zero (by omega)
    subst hc
    subst hn1
    go_wp2_with fail
    go_meet
    exact ⟨_, _, _, rfl, rfl, rfl, by rw [HE.out]; exact IsV.nil _ _ _ _, HS⟩
   ·go_wp2_with fail
    go_meet
    exact ⟨_, _, _, rfl, rfl, rfl, HT, HS⟩
  case rest =>
   clear HT HS HW c0 c1 c2 c3 c4 g1 g2 g3
   obtain ⟨A', N1, C1, rfl, rfl, rfl, HT, HS⟩ := hcut
   have HLEN1 : Hid (N1 = ys.length) := HT.out.en
   have HN1 : Hid (N1 ≤ 1000000000) := by have h1 := HLEN.out; have h2 := HLEN1.out; have h3 := HN.out; show _ ≤ _; omega
   have HALL : Hid (ql0.length = N1 + 1) := by show _ = _; rw [HV.out, List.length_cons, vals_len, HLEN1.out]
   clear HLEN HN
   go_wp2_with fail
   go_loopw [17] (fun iv wr => ∃ (i : Nat) (s : Bool) (A : Option Addr) (na ca : Nat) (t : Bool) (B : Option Addr) (ma da : Nat), i ≤ N1 ∧ iv = .int .i64 (i : Int) ∧ Hid (SM w wr s A na ca t B ma da (all (ql0.take (i + 1))))) (fun iv _ => N1 - (intOf iv).toNat)
   case atStart => exact ⟨0, s, A, na, ca, t, B, ma, da, Nat.zero_le _, rfl, HS⟩
   case round =>
    clear HS
    obtain ⟨i, s, A, na, ca, t, B, ma, da, hi, rfl, HS⟩ := hrel
    by_cases hlt : i < N1
    ·have hi1 : (i : Int) < (N1 : Int) := by omega
     have hi0 : (0 : Int) ≤ (i : Int) := by omega
     obtain ⟨u, hu⟩ : ∃ u, ys[i]? = some u := ⟨ys[i]'(by have := HLEN1.out; omega), List.getElem?_eq_getElem (by have := HLEN1.out; omega)⟩
     have hw := HS.out.bel
     obtain ⟨b1, off1, hA1, hlt1, d0, d1, d2, d3, d4⟩ := HT.out.row.at_ (j := i) (x := u.1) (by rw [List.getElem?_map, hu]; rfl)
     subst hA1
     have d0 := (hw.cell (p := ⟨b1, off1 + i * 5, none⟩) hlt1).trans d0
     have d1 := (hw.cell (p := ⟨b1, off1 + i * 5 + 1, none⟩) hlt1).trans d1
     have d2 := (hw.cell (p := ⟨b1, off1 + i * 5 + 2, none⟩) hlt1).trans d2
     have d3 := (hw.cell (p := ⟨b1, off1 + i * 5 + 3, none⟩) hlt1).trans d3
     have d4 := (hw.cell (p := ⟨b1, off1 + i * 5 + 4, none⟩) hlt1).trans d4
     have huq := HT.out.tq u (List.mem_of_getElem? hu)
     obtain ⟨p, hpu⟩ : ∃ p, u.1 = p := ⟨_, rfl⟩
     obtain ⟨r, hru⟩ : ∃ r, u.2 = r := ⟨_, rfl⟩
     rw [hpu, hru] at huq
     rw [hpu] at d0 d1 d2 d3 d4
     have HTS : Hid (all (ql0.take (i + 1 + 1)) = all (ql0.take (i + 1)) + r) := by
      show _ = _
      refine all_take_succ (p := (p.at_, r)) ?_
      rw [HV.out, List.getElem?_cons_succ]
      unfold vals
      rw [List.getElem?_map, hu]
      show some (u.1.at_, u.2) = _
      rw [hpu, hru]
     obtain ⟨pat, ps, pA, pn, pc, pt, pB, pm, pd⟩ := p
     have HQ := lh (huq.1.below (below_on (Below.refl _ _) (hw.mono (Nat.le_refl _)))) 
     obtain ⟨v, hv⟩ : ∃ v, all (ql0.take (i + 1)) = v := ⟨_, rfl⟩
     obtain ⟨v2, hv2⟩ : ∃ v2, all (ql0.take (i + 1 + 1)) = v2 := ⟨_, rfl⟩
     rw [hv] at HS HTS
     rw [hv2] at HTS
     have HQL : Hid (ql v2 ≤ 700) := by show _ ≤ _; rw [← hv2]; exact HP.out _
     have HV2 := lh hv2
     have t1 : IntKind.i64.wrap ((i : Int) + 1) = ((i + 1 : Nat) : Int) := by
      have h := IntWalk.i64_in ((i : Int) + 1) (by have := HN1.out; omega)
      rw [h]; omega
     clear hu hw hlt1 huq hpu hru hv hv2
     have v0 := HS.out.tot.c0
     have v1 := HS.out.tot.c1
     have v2' := HS.out.tot.c2
     have v3 := HS.out.tot.c3
     obtain ⟨V, hV⟩ : ∃ V, wr.alloc (.cells #[.int .i64 pat, .bool ps, .slice pA pn pc, .bool pt, .slice pB pm pd] 67) = V := ⟨_, rfl⟩
     have HVB : Hid (Below wr.heap.size wr V) := by rw [← hV]; exact (Below.refl _ _).alloc (Nat.le_refl _) _
     have HS1 := lh (HS.out.below HVB.out)
     have HQ1 := lh (HQ.out.below HVB.out)
     have v4 := HS1.out.tot.c0
     have v5 := HS1.out.tot.c1
     have v6 := HS1.out.tot.c2
     have v7 := HS1.out.tot.c3
     have hbx : V.heap[wr.heap.size]? = some (.cells #[.int .i64 pat, .bool ps, .slice pA pn pc, .bool pt, .slice pB pm pd] 67 (0, 0)) := by rw [← hV]; exact heap_alloc_new wr _
     have e1 : V.cell? ⟨wr.heap.size, 1, none⟩ = some (.bool ps) := by rw [cell_of_row V _ 1 _ _ _ hbx]; rfl
     have e2 : V.cell? ⟨wr.heap.size, 2, none⟩ = some (.slice pA pn pc) := by rw [cell_of_row V _ 2 _ _ _ hbx]; rfl
     have e3 : V.cell? ⟨wr.heap.size, 3, none⟩ = some (.bool pt) := by rw [cell_of_row V _ 3 _ _ _ hbx]; rfl
     have e4 : V.cell? ⟨wr.heap.size, 4, none⟩ = some (.slice pB pm pd) := by rw [cell_of_row V _ 4 _ _ _ hbx]; rfl
     clear HVB HS HQ hbx
     go_wp2_with fail
     refine (Q.add_q HS1.out.val (HQ1.out.mono (l := 700) HK.out) (by omega) (by omega) v2 HTS.out.symm).mono ?_
     rintro e w5 ⟨s8, A8, n8, c8, t8, B8, m8, d8, rfl, h8, hb8⟩
     clear hV v0 v1 v2' v3 v4 v5 v6 v7 d0 d1 d2 d3 d4 e1 e2 e3 e4
     have HS5 := lh (HS1.out.below hb8)
     have HR5 := lh h8
     clear h8 hb8 HS1 HQ1
     have v0 := HS5.out.tot.c0
     have v1 := HS5.out.tot.c1
     have v2' := HS5.out.tot.c2
     have v3 := HS5.out.tot.c3
     have f0 := HS5.out.tot.f 0
     have f1 := HS5.out.tot.f 1
     have f2 := HS5.out.tot.f 2
     have f3 := HS5.out.tot.f 3
     go_wp2_with fail
     go_roundw
     case rel =>
      refine ⟨i + 1, s8, A8, n8, c8, t8, B8, m8, d8, by omega, by go_num, ?_⟩
      rw [HV2.out]
      exact ⟨below_put4 HS5.out.bel (by omega), HS5.out.o.put4_far (by omega), HS5.out.tot.put, (HR5.out.on4 HS5.out.tot.bx).isq HQL.out⟩
     case measure => simp [intOf]; omega
    ·have hi1 : ¬ (i : Int) < (N1 : Int) := by omega
     have HE : Hid (all (ql0.take (i + 1)) = all ql0) := by show _ = _; rw [List.take_of_length_le (by have := HALL.out; omega)]
     rw [HE.out] at HS
     have v0 := HS.out.tot.c0
     have v1 := HS.out.tot.c1
     have v2 := HS.out.tot.c2
     have v3 := HS.out.tot.c3
     have o0 := HS.out.o.c0
     have o1 := HS.out.o.c1
     have o2 := HS.out.o.c2
     have o3 := HS.out.o.c3
     have f0 := HS.out.o.f 0
     have f1 := HS.out.o.f 1
     have f2 := HS.out.o.f 2
     have f3 := HS.out.o.f 3
     go_wp2_with fail
     refine bodyPost_ret (v := .agg #[.bool s, .slice A na ca, .bool t, .slice B ma da]) (by simp [results, Tryz.results96, go_sem, o0, o1, o2, o3]) rfl ?_
     exact ⟨s, A, na, ca, t, B, ma, da, rfl, HS.out.val.on4 HS.out.o.bx, below_put4 HS.out.bel (Nat.le_refl _)⟩
end Go.Proofs.YthjiacmhhpfokaaGreat.V

namespace Go.Proofs.YthjiacmhhpfokaaGreat.V
open Go.RowKit
open Go.Proofs.YthjiacmhhpfokaaGreat.Q (IsQ below_on ql)
structure Near (Own : Nat → Prop) (w wx : World) : Prop where
 os : wx.os = w.os
 tape : wx.tape = w.tape
 output : wx.output = w.output
 size : w.heap.size ≤ wx.heap.size
 block : ∀ b, b < w.heap.size → ¬ Own b → wx.heap[b]? = w.heap[b]?
theorem Near.refl (Own : Nat → Prop) (w : World) : Near Own w w := ⟨rfl, rfl, rfl, Nat.le_refl _, fun _ _ _ => rfl⟩
theorem Near.trans {Own : Nat → Prop} {w wx wy : World} (h : Near Own w wx) (g : Near Own wx wy) : Near Own w wy :=
 ⟨g.os.trans h.os, g.tape.trans h.tape, g.output.trans h.output, Nat.le_trans h.size g.size, fun b hb ho => (g.block b (Nat.lt_of_lt_of_le hb h.size) ho).trans (h.block b hb ho)⟩
theorem Near.of_below {Own : Nat → Prop} {w wx : World} (h : Below w.heap.size w wx) : Near Own w wx := ⟨h.os, h.tape, h.output, h.size, fun b hb _ => h.block b hb⟩
theorem Near.below {Own : Nat → Prop} {w wx wy : World} (h : Near Own w wx) (g : Below wx.heap.size wx wy) : Near Own w wy := h.trans (Near.of_below g)
theorem Near.new {Own : Nat → Prop} {w0 w wx : World} (h : Near Own w wx) (hb : Below w0.heap.size w0 w) (ho : ∀ b, Own b → w0.heap.size ≤ b) : Below w0.heap.size w0 wx :=
 ⟨h.os.trans hb.os, h.tape.trans hb.tape, h.output.trans hb.output, Nat.le_trans hb.size h.size, fun b hlt => (h.block b (Nat.lt_of_lt_of_le hlt hb.size) (fun h2 => by have := ho b h2; omega)).trans (hb.block b hlt)⟩
def NoDig (w : World) (Own : Nat → Prop) : Prop := ∀ b, Own b → ∀ i v, w.cell? ⟨b, i, none⟩ = some v → ∀ z, v ≠ .int .u64 z
theorem num_near {Own : Nat → Prop} {w wx : World} {A : Option Addr} {xs : List Nat} (h : Num w A xs) (hd : NoDig w Own) (hn : Near Own w wx) : Num wx A xs :=
 ⟨h.1, fun hne => by
  obtain ⟨b, off, e, hlt, hc⟩ := h.2 hne
  have ho : ¬ Own b := fun h2 => hd b h2 _ _ (hc 0 (List.length_pos_iff.2 hne)) _ rfl
  exact ⟨b, off, e, Nat.lt_of_lt_of_le hlt hn.size, fun j hj => (World.cell?_of_block (hn.block b hlt ho)).trans (hc j hj)⟩⟩
theorem isq_near {Own : Nat → Prop} {w wx : World} {s : Bool} {A : Option Addr} {n c : Nat} {t : Bool} {B : Option Addr} {m d : Nat} {q : Rat} {k : Nat} (h : IsQ w s A n c t B m d q k) (hd : NoDig w Own) (hn : Near Own w wx) : IsQ wx s A n c t B m d q k :=
 ⟨by obtain ⟨xs, ys, h1, h2, h3, h4, h5⟩ := h.ex; exact ⟨xs, ys, h1, h2, num_near h3 hd hn, num_near h4 hd hn, h5⟩, h.le, h.le2, h.cap, h.cap2⟩
def Off (Own : Nat → Prop) (A : Option Addr) : Prop := ∀ a, A = some a → ¬ Own a.block
theorem IsV.near {Own : Nat → Prop} {w wx : World} {A : Option Addr} {n c k : Nat} {ys : List (TV × Rat)} (h : IsV w A n c ys k) (ho : Off Own A) (hd : NoDig w Own) (hn : Near Own w wx) : IsV wx A n c ys k := by
 refine ⟨h.en, h.cap, ?_, fun y hy => ⟨isq_near (h.tq y hy).1 hd hn, (h.tq y hy).2⟩⟩
 intro hne
 obtain ⟨b, off, e, hlt, hc⟩ := h.row hne
 exact ⟨b, off, e, Nat.lt_of_lt_of_le hlt hn.size, fun j x hj i v hv => (World.cell?_of_block (a := ⟨b, off + j * 5 + i, none⟩) (hn.block b hlt (ho _ e))).trans (hc j x hj i v hv)⟩
theorem NoDig.near {Own : Nat → Prop} {w wx : World} (hd : NoDig w Own) (hn : Below w.heap.size w wx) (ho : ∀ b, Own b → b < w.heap.size) : NoDig wx Own := fun b hb i v hv =>
 hd b hb i v ((hn.cell (p := ⟨b, i, none⟩) (ho b hb)).symm.trans hv)
theorem IsV.sl {w : World} {A : Option Addr} {n c k : Nat} {ys : List (TV × Rat)} (h : IsV w A n c ys k) (L : Nat) (hL : L ≤ n) : IsV w (if c = L then A else A.map (·.add (L * 5))) (n - L) (c - L) (ys.drop L) k := by
 rcases Nat.lt_or_ge L n with hlt | hge
 ·obtain ⟨b, off, e, _, _⟩ := h.row (by intro e; rw [List.map_eq_nil_iff] at e; have := h.en; rw [e] at this; simp at this; omega)
  have hc := h.cap
  subst e
  rw [if_neg (by omega)]
  have e2 : Option.map (·.add (L * 5)) (some (⟨b, off, none⟩ : Addr)) = some ⟨b, off + L * 5, none⟩ := by simp [Addr.add]
  rw [e2]
  exact h.drop L
 ·obtain rfl : L = n := by omega
  rw [List.drop_eq_nil_of_le (by rw [h.en]; exact Nat.le_refl _), Nat.sub_self]
  exact IsV.nil _ _ _ _
theorem IsV.st {w : World} {A : Option Addr} {n c k : Nat} {ys : List (TV × Rat)} (h : IsV w A n c ys k) (L : Nat) (hL : L ≤ n) : IsV w (if c = 0 then A else A.map (·.add (0 * 5))) L c (ys.take L) k := by
 rcases Nat.eq_zero_or_pos n with h0 | hp
 ·obtain rfl : L = 0 := by omega
  rw [List.take_zero]
  exact IsV.nil _ _ _ _
 ·obtain ⟨b, off, e, _, _⟩ := h.row (by intro e; rw [List.map_eq_nil_iff] at e; have := h.en; rw [e] at this; simp at this; omega)
  subst e
  have e2 : (if c = 0 then (some (⟨b, off, none⟩ : Addr)) else Option.map (·.add (0 * 5)) (some (⟨b, off, none⟩ : Addr))) = some ⟨b, off, none⟩ := by split <;> simp [Addr.add]
  rw [e2]
  exact h.take hL
theorem add_block (a : Addr) (k : Nat) : (a.add k).block = a.block := by unfold Addr.add; split <;> rfl
theorem Off.sl {Own : Nat → Prop} {A : Option Addr} (h : Off Own A) (c L k : Nat) : Off Own (if c = L then A else A.map (·.add k)) := by
 split
 ·exact h
 ·intro a e
  cases A with
  | none => cases e
  | some a2 =>
   obtain rfl := Option.some.inj e
   rw [add_block]
   exact h a2 rfl
theorem run_sl (w : World) (A : Option Addr) (n c L : Nat) (hL : L ≤ n) : (Instr.slice 22 (.slice A n c) (some (.int .i64 (L : Int))) none none).run Tryz.prog w = .ok (.slice (if c = L then A else A.map (·.add (L * 5))) (n - L) (c - L)) w := by
 rw [run_slice_l w _ A n c (by kernel_rfl) .i64 (L : Int) (by omega) (by omega)]
 have e : Tryz.prog.elem 22 = 67 := by kernel_rfl
 rw [e, Tryz.sizeOf67]
 simp [Result.andThen, sliced]
theorem run_st (w : World) (A : Option Addr) (n c L : Nat) (hL : L ≤ c) : (Instr.slice 22 (.slice A n c) none (some (.int .i64 (L : Int))) none).run Tryz.prog w = .ok (.slice (if c = 0 then A else A.map (·.add (0 * 5))) L c) w := by
 rw [run_slice_h w _ A n c (by kernel_rfl) .i64 (L : Int) (by omega) (by omega)]
 have e : Tryz.prog.elem 22 = 67 := by kernel_rfl
 rw [e, Tryz.sizeOf67]
 simp [Result.andThen, sliced]
def Short (l : List (Int × Rat)) : Prop := ∀ l' : List (Int × Rat), l'.length ≤ l.length → (∀ x ∈ l', x ∈ l) → ql (all l') ≤ 700
end Go.Proofs.YthjiacmhhpfokaaGreat.V

namespace Go.Proofs
open Go.Shelf
def Tryz.sortT_ren : Go.Shelf.Ren := ⟨fun | 6 => 190 | 15 => 216 | 14 => 215 | 28 => 235 | 29 => 217 | 20 => 227 | 21 => 228 | 22 => 229 | 23 => 230 | 24 => 231 | 25 => 232 | 26 => 233 | 27 => 234 | 46 => 244 | 47 => 245 | 48 => 246 | 49 => 247 | 50 => 248 | 57 => 255 | n => n, fun | 22 => 22 | 24 => 67 | 25 => 183 | 3 => 3 | 39 => 205 | 0 => 0 | 53 => 218 | 55 => 164 | 4 => 4 | 46 => 212 | 45 => 211 | 50 => 165 | 5 => 5 | 9 => 9 | 66 => 227 | 70 => 231 | 76 => 241 | 77 => 242 | n => n, fun | n => n⟩
theorem Tryz.sortT : Go.Proofs.SlLaysF0.n6 Tryz.prog Tryz.sortT_ren := {
  mixed := by kernel_rfl
  f6 := ⟨Tryz.f190.name, by decide, Tryz.func190.trans (congrArg some (by kernel_rfl))⟩
  f14 := ⟨Tryz.f215.name, by decide, Tryz.func215.trans (congrArg some (by kernel_rfl))⟩
  f15 := Tryz.func216.trans (congrArg some (by kernel_rfl))
  f20 := ⟨Tryz.f227.name, by decide, Tryz.func227.trans (congrArg some (by kernel_rfl))⟩
  f21 := ⟨Tryz.f228.name, by decide, Tryz.func228.trans (congrArg some (by kernel_rfl))⟩
  f22 := ⟨Tryz.f229.name, by decide, Tryz.func229.trans (congrArg some (by kernel_rfl))⟩
  f23 := ⟨Tryz.f230.name, by decide, Tryz.func230.trans (congrArg some (by kernel_rfl))⟩
  f24 := ⟨Tryz.f231.name, by decide, Tryz.func231.trans (congrArg some (by kernel_rfl))⟩
  f25 := ⟨Tryz.f232.name, by decide, Tryz.func232.trans (congrArg some (by kernel_rfl))⟩
  f26 := ⟨Tryz.f233.name, by decide, Tryz.func233.trans (congrArg some (by kernel_rfl))⟩
  f27 := ⟨Tryz.f234.name, by decide, Tryz.func234.trans (congrArg some (by kernel_rfl))⟩
  f28 := Tryz.func235.trans (congrArg some (by kernel_rfl))
  f29 := Tryz.func217.trans (congrArg some (by kernel_rfl))
  f46 := ⟨Tryz.f244.name, by decide, Tryz.func244.trans (congrArg some (by kernel_rfl))⟩
  f47 := Tryz.func245.trans (congrArg some (by kernel_rfl))
  f48 := Tryz.func246.trans (congrArg some (by kernel_rfl))
  f49 := ⟨Tryz.f247.name, by decide, Tryz.func247.trans (congrArg some (by kernel_rfl))⟩
  f50 := ⟨Tryz.f248.name, by decide, Tryz.func248.trans (congrArg some (by kernel_rfl))⟩
  f57 := ⟨Tryz.f255.name, by decide, Tryz.func255.trans (congrArg some (by kernel_rfl))⟩
  t0 := Tryz.underlying0
  a0 := Tryz.isAgg0
  z0 := Tryz.sizeOf0
  v0 := Tryz.zeroValue0
  t3 := Tryz.underlying3
  a3 := Tryz.isAgg3
  z3 := Tryz.sizeOf3
  v3 := Tryz.zeroValue3
  t4 := Tryz.underlying4
  a4 := Tryz.isAgg4
  z4 := Tryz.sizeOf4
  v4 := Tryz.zeroValue4
  t5 := Tryz.underlying5
  a5 := Tryz.isAgg5
  z5 := Tryz.sizeOf5
  v5 := Tryz.zeroValue5
  t9 := Tryz.underlying9
  a9 := Tryz.isAgg9
  z9 := Tryz.sizeOf9
  v9 := Tryz.zeroValue9
  t22 := Tryz.underlying22
  a22 := Tryz.isAgg22
  z22 := Tryz.sizeOf22
  v22 := Tryz.zeroValue22
  t25 := Tryz.underlying183
  a25 := Tryz.isAgg183
  z25 := Tryz.sizeOf183
  v25 := Tryz.zeroValue183
  t39 := Tryz.underlying205
  a39 := Tryz.isAgg205
  z39 := Tryz.sizeOf205
  v39 := Tryz.zeroValue205
  t45 := Tryz.underlying211
  a45 := Tryz.isAgg211
  z45 := Tryz.sizeOf211
  v45 := Tryz.zeroValue211
  t46 := Tryz.underlying212
  a46 := Tryz.isAgg212
  z46 := Tryz.sizeOf212
  v46 := Tryz.zeroValue212
  t50 := Tryz.underlying165
  a50 := Tryz.isAgg165
  z50 := Tryz.sizeOf165
  v50 := Tryz.zeroValue165
  t53 := Tryz.underlying218
  a53 := Tryz.isAgg218
  z53 := Tryz.sizeOf218
  v53 := Tryz.zeroValue218
  t55 := Tryz.underlying164
  a55 := Tryz.isAgg164
  z55 := Tryz.sizeOf164
  v55 := Tryz.zeroValue164
  t66 := Tryz.underlying227
  a66 := Tryz.isAgg227
  z66 := Tryz.sizeOf227
  v66 := Tryz.zeroValue227
  t70 := Tryz.underlying231
  a70 := Tryz.isAgg231
  z70 := Tryz.sizeOf231
  v70 := Tryz.zeroValue231
  t76 := Tryz.underlying241
  a76 := Tryz.isAgg241
  z76 := Tryz.sizeOf241
  v76 := Tryz.zeroValue241
  t77 := Tryz.underlying242
  a77 := Tryz.isAgg242
  z77 := Tryz.sizeOf242
  v77 := Tryz.zeroValue242 }
def Tryz.cloneT_ren : Go.Shelf.Ren := ⟨fun | 41 => 189 | n => n, fun | 22 => 22 | 23 => 67 | 4 => 4 | n => n, fun | n => n⟩
theorem Tryz.cloneT : Go.Proofs.SlLaysE0.n41 Tryz.prog Tryz.cloneT_ren := {
  mixed := by kernel_rfl
  f41 := ⟨Tryz.f189.name, by decide, Tryz.func189.trans (congrArg some (by kernel_rfl))⟩
  t4 := Tryz.underlying4
  a4 := Tryz.isAgg4
  z4 := Tryz.sizeOf4
  v4 := Tryz.zeroValue4
  t22 := Tryz.underlying22
  a22 := Tryz.isAgg22
  z22 := Tryz.sizeOf22
  v22 := Tryz.zeroValue22 }
