/- Part 35 of the proof: VDPut, VAppV, VSameVecs, VCopyVecs, VTellsK. -/
import Derived.Test.YthjiacmhhpfokaaGreatK33
namespace Go.Proofs.YthjiacmhhpfokaaGreat
open Go.Proofs.Tryz renaming prog → tz
open Nat renaming le_refl → lR, le_trans → lT
open List renaming length_map → lM
namespace V
open Lib renaming hid → lh
open Go.RowKit
open Q (IsQ OneQ RetQ below_on ql Qbx)
theorem wpList_appS {ops : Array Oper} {rest : List Oper} {o : Oper} {a : Act} {w : World} {Q : Exit → Act → World → Prop} (hgd : o.guard = none) (sl x : Operand)
  (ho : o.op = .call { callee := .builtin .append, args := #[sl, x], argTypes := #[22, 22] })
  (base : Nat) (v : Value) (ts : List TV) (y : TV) (ad : Addr) (hs : a.eval sl = v) (hx : a.eval x = .slice (some ad) 1 1) (hown : OwnU w base v ts) (had : ∀ j u, y.enc[j]? = some u → w.cell? (ad.add j) = some u) (h : ts.length ≤ 10000000) (hbase : base ≤ w.heap.size)
  (hk : ∀ v' w', OwnU w' base v' (ts ++ [y]) → w.grownBy w' v.ownBlock → (v'.ownBlock = v.ownBlock ∨ v'.ownBlock = some w.heap.size) → wpList tz ops Q rest (a.put o.dst v') w') : wpList tz ops Q (o :: rest) a w := by
 refine wpList_plain hgd fun K hK => ?_
 obtain ⟨v', w', hr, h1, h2, h3⟩ := appS_at w base o.type v ts y ad hown had h hbase
 unfold Oper.wp
 simp [execOp, ho, resolve, invoke, builtin, hs, hx, hr, Result.andThen]
 exact hK _ _ (hk v' w' h1 h2 h3)
structure OwnK (w : World) (base : Nat) (v : Value) (zs : List (TV × Rat)) (k : Nat) : Prop where
 own : OwnU w base v (zs.map Prod.fst)
 tq : ∀ y ∈ zs, TQ w y.1 y.2 k
theorem OwnK.below {w w' : World} {base k : Nat} {v : Value} {zs : List (TV × Rat)} (h : OwnK w base v zs k) (hb : Below w.heap.size w w') : OwnK w' base v zs k :=
 ⟨h.own.keep (fun g hg => hb.block g (h.own.lt hg)), fun y hy => ⟨(h.tq y hy).1.below hb, (h.tq y hy).2⟩⟩
theorem OwnK.app {w w4 : World} {base k : Nat} {v v' : Value} {zs : List (TV × Rat)} (h : OwnK w base v zs k) (y : TV × Rat) (hy : TQ w y.1 y.2 k) (h4 : OwnU w4 base v' (zs.map Prod.fst ++ [y.1])) (hg : w.grownBy w4 v.ownBlock) : OwnK w4 base v' (zs ++ [y]) k := by
 have hn : NoDig w (fun b => some b = v.ownBlock) := fun b hb i u hu => h.own.all b hb.symm i u hu
 have hgr : Near (fun b => some b = v.ownBlock) w w4 := Near.of_grown hg
 refine ⟨by rw [List.map_append]; exact h4, fun z hz => ?_⟩
 rcases List.mem_append.1 hz with hz | hz
 ·exact ⟨isq_near (h.tq z hz).1 hn hgr, (h.tq z hz).2⟩
 ·obtain rfl := List.mem_singleton.1 hz
  exact ⟨isq_near hy.1 hn hgr, hy.2⟩
theorem OwnK.isv {w : World} {base n c k : Nat} {A : Option Addr} {zs : List (TV × Rat)} (h : OwnK w base (.slice A n c) zs k) : IsV w A n c zs k ∧ ∀ a, A = some a → a.block < w.heap.size := by
 rcases h.own.row.2 with ⟨e, h0⟩ | ⟨g, cap, cur, e, _, hgc, hnc, hcm, hcs, htake⟩
 ·obtain ⟨rfl, rfl, rfl⟩ : A = none ∧ n = 0 ∧ c = 0 := by simpa using e
  have hz : zs = [] := by rw [lM] at h0; exact List.eq_nil_of_length_eq_zero h0
  subst hz
  exact ⟨IsV.nil _ _ _ _, fun a ha => by cases ha⟩
 ·obtain ⟨rfl, rfl, rfl⟩ : A = some ⟨g, 0, none⟩ ∧ n = (zs.map Prod.fst).length ∧ c = cap := by simpa using e
  refine ⟨⟨by rw [lM], hnc, row_cells (lt_of_block hgc) ?_, h.tq⟩, fun a ha => by obtain rfl := Option.some.inj ha; exact lt_of_block hgc⟩
  intro j u hj
  rw [Nat.zero_add, cell_of_row w g j _ _ _ hgc]
  rw [← htake, List.getElem?_take] at hj
  split at hj
  ·simpa using hj
  ·cases hj
theorem put_tot (X : List (Int × Rat)) (p : Int) (q : Rat) : tot (X.filter (fun x => x.1 != p) ++ [(p, q)]) = putAt (tot X) p q := by
 funext a
 rw [tot_append]
 show tot (X.filter (fun x => x.1 != p)) a + tot [(p, q)] a = putAt (tot X) p q a
 unfold putAt
 have h3 : tot [(p, q)] a = if p = a then q else 0 := by show (if p = a then q else 0) + 0 = _; grind
 rw [h3, tot_filter (X.filter _), List.filter_filter]
 by_cases h : a = p
 ·subst h
  have h4 : X.filter (fun x => decide (x.1 = a) && x.1 != a) = [] := by
   rw [List.filter_eq_nil_iff]; intro x _; by_cases h : x.1 = a <;> simp [h]
  rw [h4, if_pos rfl, if_pos rfl]
  show 0 + q = q
  grind
 ·have h4 : X.filter (fun x => decide (x.1 = a) && x.1 != p) = X.filter (fun x => decide (x.1 = a)) := by
   refine List.filter_congr (fun x _ => ?_)
   by_cases h5 : x.1 = a
   ·have : x.1 ≠ p := by omega
    simp [h5]; omega
   ·simp [h5]
  rw [h4, ← tot_filter, if_neg (fun e => h e.symm), if_neg h]
  grind
def els (ys : List (TV × Rat)) (a : Int) (i : Nat) : List (TV × Rat) := (ys.take i).filter (fun y => y.1.at_ != a)
theorem els_len (ys : List (TV × Rat)) (a : Int) (i : Nat) : (els ys a i).length ≤ ys.length := lT (List.length_filter_le ..) (by rw [List.length_take]; omega)
theorem els_succ {ys : List (TV × Rat)} {a : Int} {i : Nat} {y : TV × Rat} (h : ys[i]? = some y) : els ys a (i + 1) = if y.1.at_ = a then els ys a i else els ys a i ++ [y] := by
 unfold els
 rw [List.take_add_one, h, List.filter_append]
 by_cases e : y.1.at_ = a <;> simp [e]
theorem els_vals {ys : List (TV × Rat)} {a : Int} {i : Nat} (h : ys.length ≤ i) (x : TV) (q : Rat) (hx : x.at_ = a) : tot (vals (els ys a i ++ [(x, q)])) = putAt (tot (vals ys)) a q := by
 rw [← put_tot]
 unfold els vals
 rw [List.take_of_length_le h, List.map_append, List.filter_map]
 subst hx
 rfl
set_option maxRecDepth 100000 in
set_option maxHeartbeats 4000000 in
theorem dput_c {w : World} {A : Option Addr} {n c k L : Nat} {ys : List (TV × Rat)} {a : Int} {s : Bool} {A9 : Option Addr} {n9 c9 : Nat} {t : Bool} {B9 : Option Addr} {m9 d9 : Nat} {q : Rat} (h : IsV w A n c ys k) (hq : IsQ w s A9 n9 c9 t B9 m9 d9 q k) (hk : 1 ≤ k) (hL : ys.length + 1 ≤ L) (hL2 : L ≤ 1000) (hs : k * L + k + 1 ≤ 700) (ha : -9223372036854775808 ≤ a ∧ a ≤ 9223372036854775807) :
  Calls tz 27 #[.slice A n c, .int .i64 a, .agg #[.bool s, .slice A9 n9 c9, .bool t, .slice B9 m9 d9]] w (RetC w (putAt (tot (vals ys)) a q)) := by
 obtain ⟨W0, hW0⟩ : ∃ V, w.alloc (.cells #[.bool s, .slice A9 n9 c9, .bool t, .slice B9 m9 d9] 27) = V := ⟨_, rfl⟩
 have b0 : Below w.heap.size w W0 := by rw [← hW0]; exact (Below.refl _ _).alloc (lR _) _
 have hx0 : Qbx W0 w.heap.size s A9 n9 c9 t B9 m9 d9 := by rw [← hW0]; exact Qbx.new _ _ rfl
 have H := lh (h.below b0)
 have HX := lh hx0
 have HB0 := lh b0
 have HQ := lh (hq.below b0)
 have HLEN := lh h.en
 have HK := lh hk
 have HL : Hid (ys.length + 1 ≤ L ∧ L ≤ 1000 ∧ k * L + k + 1 ≤ 700) := ⟨hL, hL2, hs⟩
 have HA := lh ha
 have HZ : Hid (OwnK W0 W0.heap.size (.slice none 0 0) (els ys a 0) k) := ⟨OwnU.nil _ _, fun y hy => by simp [els] at hy⟩
 have HW : Hid (New W0 W0 (.slice none 0 0)) := ⟨Below.refl _ _, fun g h => by cases h⟩
 clear h hq hk hL hL2 hs ha b0 hx0
 go_enter Tryz.func27, Tryz.ntmps27
 go_upto_region 1 with fail
 clear hW0
 go_wp2_with fail
 go_loopw [7, 8] (fun vv iv wr => ∃ (i : Nat) (A1 : Option Addr) (n1 c1 : Nat), i ≤ n ∧ iv = .int .i64 (i : Int) ∧ vv = .slice A1 n1 c1 ∧ Hid (OwnK wr W0.heap.size (.slice A1 n1 c1) (els ys a i) k) ∧ Hid (New W0 wr (.slice A1 n1 c1))) (fun _ iv _ => n - (intOf iv).toNat)
 case atStart => exact ⟨0, none, 0, 0, Nat.zero_le _, rfl, rfl, HZ, HW⟩
 case round =>
  clear HZ HW
  obtain ⟨i, A1, n1, c1, hi, rfl, rfl, HZ, HW⟩ := hrel
  obtain ⟨zs, hzs⟩ : ∃ zs, els ys a i = zs := ⟨_, rfl⟩
  have HE := lh hzs
  have HLZ : Hid (zs.length ≤ ys.length) := by show _ ≤ _; rw [← hzs]; exact els_len ..
  rw [hzs] at HZ
  clear hzs
  by_cases hlt : i < n
  ·have hi1 : (i : Int) < (n : Int) := by omega
   have hi0 : (0 : Int) ≤ (i : Int) := by omega
   have hwi : IntKind.i64.wrap ((i : Int) + 1) = (i : Int) + 1 := by have := HLEN.out; have := HL.out; rw [IntKind.wrap_i64]; omega
   obtain ⟨y, hy⟩ : ∃ y, ys[i]? = some y := ⟨ys[i]'(by have := HLEN.out; omega), List.getElem?_eq_getElem (by have := HLEN.out; omega)⟩
   obtain ⟨b1, off, hA, hk1⟩ := row_at2 H.out.row (j := i) (x := y.1) (by rw [List.getElem?_map, hy]; rfl)
   obtain ⟨c0, c1', c2, c3, c4⟩ := hk1 _ HW.out.bel
   subst hA
   have HY := lh hy
   have HTQ : Hid (TQ wr y.1 y.2 k) := ⟨(H.out.tq y (List.mem_of_getElem? hy)).1.below HW.out.bel, (H.out.tq y (List.mem_of_getElem? hy)).2⟩
   have HS := lh (els_succ (a := a) hy)
   obtain ⟨⟨p, s8, A8, n8, c8, t8, B8, m8, d8⟩, r⟩ := y
   simp only at c0 c1' c2 c3 c4
   clear hy hk1
   by_cases hat : p = a
   ·have g1 : (p != a) = false := by rw [hat]; exact bne_self_eq_false _
    have HZ2 : Hid (OwnK wr W0.heap.size (.slice A1 n1 c1) (els ys a (i + 1)) k) := by
     show OwnK _ _ _ _ _
     rw [HS.out, if_pos hat, HE.out]
     exact HZ.out
    clear hat
    go_wp2_with fail
    go_roundw
    case rel => exact ⟨i + 1, A1, n1, c1, by omega, by go_num, rfl, HZ2, HW⟩
    case measure => (simp [intOf]; omega)
   ·have g1 : (p != a) = true := bne_iff_ne.2 hat
    have HS2 : Hid (els ys a (i + 1) = zs ++ [((⟨p, s8, A8, n8, c8, t8, B8, m8, d8⟩ : TV), r)]) := by
     show _ = _
     rw [HS.out, if_neg hat, HE.out]
    clear hat
    obtain ⟨W3, hW3⟩ : ∃ V, wr.alloc (.cells #[.int .i64 p, .bool s8, .slice A8 n8 c8, .bool t8, .slice B8 m8 d8] 67) = V := ⟨_, rfl⟩
    have hb3 : Below wr.heap.size wr W3 := by rw [← hW3]; exact (Below.refl _ _).alloc (lR _) _
    have hr3 : W3.heap[wr.heap.size]? = some (.cells #[.int .i64 p, .bool s8, .slice A8 n8 c8, .bool t8, .slice B8 m8 d8] 67 (0, 0)) := by rw [← hW3]; exact heap_alloc_new wr _
    have HZ3 := lh (HZ.out.below hb3)
    have HW3 : Hid (New W0 W3 (.slice A1 n1 c1)) := ⟨below_on HW.out.bel hb3, HW.out.new⟩
    have HT3 : Hid (TQ W3 (⟨p, s8, A8, n8, c8, t8, B8, m8, d8⟩ : TV) r k) := ⟨HTQ.out.1.below hb3, HTQ.out.2⟩
    have HR3 : Hid (∀ j u, (⟨p, s8, A8, n8, c8, t8, B8, m8, d8⟩ : TV).enc[j]? = some u → W3.cell? ((⟨wr.heap.size, 0, none⟩ : Addr).add j) = some u) := by
     intro j u hj
     rw [add_flat, Nat.zero_add, cell_of_row _ _ j _ _ _ hr3]
     simpa [TV.enc] using hj
    clear hb3 hr3
    go_wp2_with (at_builtin; refine wpList_appS rfl (.tmp 22) (.tmp 27) rfl W0.heap.size (.slice A1 n1 c1) (zs.map Prod.fst) ⟨p, s8, A8, n8, c8, t8, B8, m8, d8⟩ ⟨wr.heap.size, 0, none⟩ rfl rfl HZ3.out.own HR3.out (by rw [lM]; have := HLZ.out; have := HL.out; omega) HW3.out.bel.size ?_)
    rintro v' w4 h4 hg hbk
    obtain ⟨A', n', c', rfl⟩ := h4.some_
    have HZ4 : Hid (OwnK w4 W0.heap.size (.slice A' n' c') (els ys a (i + 1)) k) := by
     show OwnK _ _ _ _ _
     rw [HS2.out]
     exact HZ3.out.app (⟨p, s8, A8, n8, c8, t8, B8, m8, d8⟩, r) HT3.out h4 hg
    have HW4 : Hid (New W0 w4 (.slice A' n' c')) := HW3.out.step (Near.of_grown hg) (hbk.imp id (fun h => ⟨_, h, lR _⟩))
    clear h4 hg hbk hW3
    go_wp2_with fail
    go_roundw
    case rel => exact ⟨i + 1, A', n', c', by omega, by go_num, rfl, HZ4, HW4⟩
    case measure => (simp [intOf]; omega)
  ·have hi1 : ¬ (i : Int) < (n : Int) := by omega
   have HX1 := lh (HX.out.below HW.out.bel)
   have e0 := HX1.out.c0
   have e1 := HX1.out.c1
   have e2 := HX1.out.c2
   have e3 := HX1.out.c3
   obtain ⟨W3, hW3⟩ : ∃ V, wr.alloc (.cells #[.int .i64 a, .bool s, .slice A9 n9 c9, .bool t, .slice B9 m9 d9] 67) = V := ⟨_, rfl⟩
   have hb3 : Below wr.heap.size wr W3 := by rw [← hW3]; exact (Below.refl _ _).alloc (lR _) _
   have hr3 : W3.heap[wr.heap.size]? = some (.cells #[.int .i64 a, .bool s, .slice A9 n9 c9, .bool t, .slice B9 m9 d9] 67 (0, 0)) := by rw [← hW3]; exact heap_alloc_new wr _
   have HZ3 := lh (HZ.out.below hb3)
   have HW3 : Hid (New W0 W3 (.slice A1 n1 c1)) := ⟨below_on HW.out.bel hb3, HW.out.new⟩
   have HT3 : Hid (TQ W3 (⟨a, s, A9, n9, c9, t, B9, m9, d9⟩ : TV) q k) := ⟨(HQ.out.below HW.out.bel).below hb3, HA.out⟩
   have HR3 : Hid (∀ j u, (⟨a, s, A9, n9, c9, t, B9, m9, d9⟩ : TV).enc[j]? = some u → W3.cell? ((⟨wr.heap.size, 0, none⟩ : Addr).add j) = some u) := by
    intro j u hj
    rw [add_flat, Nat.zero_add, cell_of_row _ _ j _ _ _ hr3]
    simpa [TV.enc] using hj
   have HN := lh hlt
   clear hb3 hr3 hlt
   go_wp2_with (at_builtin; refine wpList_appS rfl (.tmp 29) (.tmp 33) rfl W0.heap.size (.slice A1 n1 c1) (zs.map Prod.fst) ⟨a, s, A9, n9, c9, t, B9, m9, d9⟩ ⟨wr.heap.size, 0, none⟩ rfl rfl HZ3.out.own HR3.out (by rw [lM]; have := HLZ.out; have := HL.out; omega) HW3.out.bel.size ?_)
   rintro v' w4 h4 hg hbk
   obtain ⟨A', n', c', rfl⟩ := h4.some_
   have HZ4 : Hid (OwnK w4 W0.heap.size (.slice A' n' c') (zs ++ [((⟨a, s, A9, n9, c9, t, B9, m9, d9⟩ : TV), q)]) k) := HZ3.out.app (⟨a, s, A9, n9, c9, t, B9, m9, d9⟩, q) HT3.out h4 hg
   have HW4 : Hid (New W0 w4 (.slice A' n' c')) := HW3.out.step (Near.of_grown hg) (hbk.imp id (fun h => ⟨_, h, lR _⟩))
   have HEQ : Hid (tot (vals (zs ++ [((⟨a, s, A9, n9, c9, t, B9, m9, d9⟩ : TV), q)])) = putAt (tot (vals ys)) a q) := by
    show _ = _
    rw [← HE.out]
    exact els_vals (by have := HN.out; have := HLEN.out; omega) _ _ rfl
   have HLL : Hid ((zs ++ [((⟨a, s, A9, n9, c9, t, B9, m9, d9⟩ : TV), q)]).length ≤ L) := by show _ ≤ _; rw [List.length_append]; have := HLZ.out; have := HL.out; simp; omega
   clear h4 hg hbk hW3 e0 e1 e2 e3
   go_wp2_with fail
   refine (rnorm_c (HZ4.out.isv.1.vf HK.out HLL.out HL.out.2.1 HL.out.2.2 HZ4.out.isv.2) (HZ4.out.isv.1.fn HK.out HLL.out HL.out.2.1) (by have := HL.out; omega) HL.out.2.2).mono ?_
   rintro e w5 ⟨A5, n5, c5, rfl, hc, hb⟩
   have HR : Hid (RetC w (putAt (tot (vals ys)) a q) (.returned (.slice A5 n5 c5)) w5) := ⟨A5, n5, c5, rfl, by rw [← HEQ.out]; exact hc, below_on (below_on HB0.out HW4.out.bel) hb⟩
   clear hc hb
   go_wp2_with fail
   exact ⟨rfl, .slice A5 n5 c5, by simp [results, Tryz.results27, go_sem], HR.out⟩
end V

namespace V
open Go.RowKit
open Q (below_on)
end V

namespace V
open Go.RowKit
open Q (IsQ OneQ RetQ below_on ql Qbx)
end V

namespace V
open Go.RowKit
open Q (IsQ OneQ RetQ below_on ql Qbx)
theorem OwnU.parts {w : World} {base n c : Nat} {A : Option Addr} {ts : List TV} (h : OwnU w base (.slice A n c) ts) : n = ts.length ∧ Row w A ts ∧ ∀ a, A = some a → base ≤ a.block ∧ a.block < w.heap.size := by
 rcases h.row.2 with ⟨e, h0⟩ | ⟨g, cap, cur, e, hbase, hgc, hnc, hcm, hcs, htake⟩
 ·obtain ⟨rfl, rfl, rfl⟩ : A = none ∧ n = 0 ∧ c = 0 := by simpa using e
  have hz : ts = [] := List.eq_nil_of_length_eq_zero h0
  subst hz
  exact ⟨rfl, (fun h => absurd rfl h), fun a ha => by cases ha⟩
 ·obtain ⟨rfl, rfl, rfl⟩ : A = some ⟨g, 0, none⟩ ∧ n = ts.length ∧ c = cap := by simpa using e
  refine ⟨rfl, row_cells (lt_of_block hgc) ?_, fun a ha => by obtain rfl := Option.some.inj ha; exact ⟨hbase, lt_of_block hgc⟩⟩
  intro j u hj
  rw [Nat.zero_add, cell_of_row w g j _ _ _ hgc]
  rw [← htake, List.getElem?_take] at hj
  split at hj
  ·simpa using hj
  ·cases hj
end V

namespace V
open Go.RowKit
open Q (IsQ OneQ RetQ below_on ql Qbx)
structure Since (w0 w : World) : Prop where
 bel : Below w0.heap.size w0 w
theorem Since.below {w0 w w' : World} (h : Since w0 w) (hb : Below w.heap.size w w') : Since w0 w' := ⟨below_on h.bel hb⟩
theorem IsL.len {w : World} {A : Option Addr} {n c k : Nat} {ys : List (TV × Rat)} (h : IsL w A n c ys k) : ys.length = n := h.en.symm
theorem dput_f {w : World} {A : Option Addr} {n c k L : Nat} {ys : List (TV × Rat)} {X : Int → Rat} {a : Int} {s : Bool} {A9 : Option Addr} {n9 c9 : Nat} {t : Bool} {B9 : Option Addr} {m9 d9 : Nat} {q : Rat} (hX : tot (vals ys) = X) (h : IsV w A n c ys k) (hq : IsQ w s A9 n9 c9 t B9 m9 d9 q k) (hk : 1 ≤ k) (hL : ys.length + 1 ≤ L) (hL2 : L ≤ 1000) (hs : k * L + k + 1 ≤ 700) (ha : -9223372036854775808 ≤ a ∧ a ≤ 9223372036854775807) :
  Calls tz 27 #[.slice A n c, .int .i64 a, .agg #[.bool s, .slice A9 n9 c9, .bool t, .slice B9 m9 d9]] w (RetC w (putAt X a q)) := by
 subst hX
 exact dput_c h hq hk hL hL2 hs ha
def RetDL (w : World) (F : Int → Rat) (K : Nat) (e : Ending) (w' : World) : Prop := ∃ A c, e = .returned (.slice A K c) ∧ DL w' A K c F ∧ Below w.heap.size w w'
theorem dense_c {w : World} {A : Option Addr} {n c : Nat} {F : Int → Rat} (hx : VF w A n c F) (N : Int) (K : Nat) (hK : N.toNat = K) (hN : N ≤ 65536) (hq : ∀ a, ql (F a) ≤ 700) : Calls tz 38 #[.slice A n c, .int .i64 N] w (RetDL w F K) := by
 obtain ⟨xs, h1, h2, h3⟩ := hx.ex
 refine (dense_v h1 (lR _) (lT hx.len (by omega)) h2 N K (by omega)).mono ?_
 rintro e w' ⟨r, rfl, _, hr, hb⟩
 subst h3
 exact ⟨_, _, rfl, Rats.dl hr hq, hb⟩
theorem ddense_l {w : World} {A : Option Addr} {n c : Nat} {F : Int → Rat} (hx : VF w A n c F) (N : Int) (K : Nat) (hK : N.toNat = K) (hN : N ≤ 65536) (hq : ∀ a, ql (F a) ≤ 700) : Calls tz 39 #[.slice A n c, .int .i64 N] w (RetDL w F K) := by
 subst hK
 refine (ddense_c hx N hN).mono ?_
 rintro e w' ⟨v, zs, rfl, h⟩
 obtain ⟨A', n', c', rfl⟩ := h.own.some_
 obtain ⟨rfl, h2⟩ := h.dl hq
 exact ⟨_, _, rfl, h2, h.nw.bel⟩
theorem samerats_dl {w : World} {A B : Option Addr} {K c d : Nat} {F : Int → Rat} (hx : DL w A K c F) (hy : DL w B K d F) (hK : K ≤ 1000000) (hq : ∀ a, ql (F a) ≤ 700) : Calls tz 37 #[.slice A K c, .slice B K d] w (RetB w true) := by
 obtain ⟨xs, h1, h2⟩ := hx
 obtain ⟨ys, g1, g2⟩ := hy
 refine samerats_any h1 g1 hK (fun _ => true) ?_ true ⟨fun _ => ⟨rfl, fun j x y _ _ => rfl⟩, fun _ => rfl⟩
 intro j x y W hj hj' hb
 obtain ⟨o1, e1⟩ := h2 j x hj
 obtain ⟨o2, e2⟩ := g2 j y hj'
 exact Q.rat_t (o1.below hb) (o2.below hb) (by rw [e1]; exact lT (hq _) (by omega)) (e1.trans e2.symm)
def TwinL (w : World) (A : Option Addr) (n : Nat) (xs : List TV) : Prop := ∃ zs, Row w A zs ∧ n = zs.length ∧ zs.length = xs.length ∧ ∀ (j : Nat) x z, xs[j]? = some x → zs[j]? = some z → Twin w x z
theorem TwinL.below {w w' : World} {A : Option Addr} {n : Nat} {xs : List TV} (h : TwinL w A n xs) (hb : Below w.heap.size w w') : TwinL w' A n xs := by
 obtain ⟨zs, h1, h2, h3, h4⟩ := h
 exact ⟨zs, h1.below hb, h2, h3, fun j x z hx hz => (h4 j x z hx hz).below hb⟩
theorem copyvec_c {w : World} {A : Option Addr} {n c k : Nat} {ys : List (TV × Rat)} (h : IsV w A n c ys k) (hk : k ≤ 1000) (hl : n ≤ 1000000) (hn : ∀ y ∈ ys, Nilc y.1) : Calls tz 16 #[.slice A n c] w (fun e w' => ∃ A2 n2 c2, e = .returned (.slice A2 n2 c2) ∧ TwinL w' A2 n2 (ys.map Prod.fst) ∧ Below w.heap.size w w') := by
 refine (copyvec_any h.row (by rw [lM]; exact h.en) hl (h.fit hk hn)).mono ?_
 rintro e w' ⟨v, zs, rfl, hc⟩
 obtain ⟨A', n', c', rfl⟩ := hc.own.some_
 obtain ⟨h1, h2, _⟩ := hc.own.parts
 exact ⟨_, _, _, rfl, ⟨zs, h2, h1, hc.len, hc.twin⟩, hc.bel⟩
theorem samevec_twin {w : World} {A B : Option Addr} {n c m d k : Nat} {ys : List (TV × Rat)} (ht : TwinL w A n (ys.map Prod.fst)) (h : IsV w B m d ys k) (hk : k ≤ 1000) (hm : m ≤ 1000000) : Calls tz 17 #[.slice A n c, .slice B m d] w (RetB w true) := by
 obtain ⟨zs, h1, h2, h3, h4⟩ := ht
 have hnm : n = m := by rw [h2, h3, lM, h.en]
 refine samevec_any h1 h.row h2 (by rw [lM]; exact h.en) (by omega) (fun _ => true) ?_ true ⟨fun _ => ⟨hnm, fun j z x hz hx => ⟨(h4 j x z hx hz).at_, rfl⟩⟩, fun _ => rfl⟩
 intro j z x W hz hx hb
 have t := h4 j x z hx hz
 obtain ⟨us, vs, r1, r2⟩ := t.raw
 rw [List.getElem?_map] at hx
 obtain ⟨y, hy, rfl⟩ := Option.map_eq_some_iff.1 hx
 have hq := (h.tq y (List.mem_of_getElem? hy)).1
 have e1 := t.s
 have e2 := t.t
 have e3 := t.n
 have e4 := t.m
 rw [e3, e4] at r2
 rw [e1, e2, e3, e4]
 exact Q.rat_raw (r2.below hb) (r1.below hb) (lT hq.le (by omega)) (lT hq.le2 (by omega))
