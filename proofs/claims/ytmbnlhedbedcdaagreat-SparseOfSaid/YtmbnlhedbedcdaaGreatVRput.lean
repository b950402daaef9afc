/- The document's vectors: a number put behind a row of the call's own; Of, walked. -/
import Derived.Test.YtmbnlhedbedcdaaGreatVRats
import Derived.Test.YtmbnlhedbedcdaaGreatVC
import Derived.Test.YtmbnlhedbedcdaaGreatPAll
namespace Go.Proofs.YtmbnlhedbedcdaaGreat.V
open Go.RowKit
open Go.Proofs.YtmbnlhedbedcdaaGreat.Q (IsQ OneQ RetQ below_on ql Qbx qsign qsign_zero_iff)
theorem wpList_appU {ops : Array Oper} {rest : List Oper} {o : Oper} {a : Act} {w : World} {Q : Exit → Act → World → Prop} (hgd : o.guard = none) (sl x : Operand)
  (ho : o.op = .call { callee := .builtin .append, args := #[sl, x], argTypes := #[33, 33] })
  (base : Nat) (v : Value) (ts : List TV) (y : TV) (ad : Addr) (hs : a.eval sl = v) (hx : a.eval x = .slice (some ad) 1 1) (hown : OwnU w base v ts) (had : ∀ j u, y.enc[j]? = some u → w.cell? (ad.add j) = some u) (h : ts.length ≤ 10000000) (hbase : base ≤ w.heap.size)
  (hk : ∀ v' w', OwnU w' base v' (ts ++ [y]) → w.grownBy w' v.ownBlock → (v'.ownBlock = v.ownBlock ∨ v'.ownBlock = some w.heap.size) → wpList Tryz.prog ops Q rest (a.put o.dst v') w') : wpList Tryz.prog ops Q (o :: rest) a w := by
 refine wpList_plain hgd fun K hK => ?_
 obtain ⟨v', w', hr, h1, h2, h3⟩ := appU_at w base o.type v ts y ad hown had h hbase
 unfold Oper.wp
 simp [execOp, ho, resolve, invoke, builtin, hs, hx, hr, Result.andThen]
 exact hK _ _ (hk v' w' h1 h2 h3)
structure OwnZ (w : World) (base : Nat) (v : Value) (zs : List (TV × Rat)) : Prop where
 own : OwnU w base v (zs.map Prod.fst)
 one : ∀ y ∈ zs, OneQ w y.1.s y.1.A y.1.n y.1.c y.1.t y.1.B y.1.m y.1.d y.2 ∧ -9223372036854775808 ≤ y.1.at_ ∧ y.1.at_ ≤ 9223372036854775807
theorem OwnZ.below {w w' : World} {base : Nat} {v : Value} {zs : List (TV × Rat)} (h : OwnZ w base v zs) (hb : Below w.heap.size w w') : OwnZ w' base v zs :=
 ⟨h.own.keep (fun g hg => hb.block g (h.own.lt hg)), fun y hy => ⟨(h.one y hy).1.below hb, (h.one y hy).2⟩⟩
theorem OwnZ.nil (w : World) (base : Nat) : OwnZ w base (.slice none 0 0) [] := ⟨OwnU.nil w base, fun _ h => by cases h⟩
def Grown (w w' : World) (v : Value) : Prop := Near (fun b => some b = v.ownBlock) w w'
def RetP (w : World) (base : Nat) (v : Value) (l : List (Int × Rat)) (e : Ending) (w' : World) : Prop :=
 ∃ A n c zs, e = .returned (.slice A n c) ∧ OwnZ w' base (.slice A n c) zs ∧ vals zs = l ∧ Grown w w' v ∧ ((Value.slice A n c).ownBlock = v.ownBlock ∨ ∃ g, (Value.slice A n c).ownBlock = some g ∧ w.heap.size ≤ g)
theorem own_nodig {w : World} {base : Nat} {v : Value} {zs : List (TV × Rat)} (h : OwnZ w base v zs) : NoDig w (fun b => some b = v.ownBlock) := fun b hb i u hu => h.own.all b hb.symm i u hu
theorem Near.of_grown {w w' : World} {v : Value} (h : w.grownBy w' v.ownBlock) : Grown w w' v := ⟨h.os, h.tape, h.output, h.size, fun b hb hn => h.block b hb hn⟩
set_option maxRecDepth 100000 in
set_option maxHeartbeats 4000000 in
theorem rput_any {w : World} {base : Nat} {A0 : Option Addr} {n0 c0 : Nat} {zs : List (TV × Rat)} {a : Int} {s : Bool} {A : Option Addr} {n c : Nat} {t : Bool} {B : Option Addr} {m d k : Nat} {q : Rat} (h : OwnZ w base (.slice A0 n0 c0) zs) (hb : base ≤ w.heap.size) (hq : IsQ w s A n c t B m d q k) (hk : 1 ≤ k) (hk2 : k ≤ 3000) (ha : -9223372036854775808 ≤ a ∧ a ≤ 9223372036854775807) (hl : zs.length ≤ 10000000) :
  Calls Tryz.prog 76 #[.slice A0 n0 c0, .int .i64 a, .agg #[.bool s, .slice A n c, .bool t, .slice B m d]] w (RetP w base (.slice A0 n0 c0) (if q = 0 then vals zs else vals zs ++ [(a, q)])) := by
 obtain ⟨W0, hW0⟩ : ∃ V, w.alloc (.cells #[.bool s, .slice A n c, .bool t, .slice B m d] 27) = V := ⟨_, rfl⟩
 have b0 : Below w.heap.size w W0 := by rw [← hW0]; exact (Below.refl _ _).alloc (Nat.le_refl _) _
 have hx0 : Qbx W0 w.heap.size s A n c t B m d := by rw [← hW0]; exact Qbx.new _ _ rfl
 have HX := Lib.hid hx0
 have HB := Lib.hid b0
 have HQ := Lib.hid (hq.below b0)
 have HZ := Lib.hid (h.below b0)
 have HK : Hid (1 ≤ k ∧ k ≤ 3000) := ⟨hk, hk2⟩
 have HA := Lib.hid ha
 have HLL := Lib.hid hl
 have HBS := Lib.hid hb
 obtain ⟨sg, hsg⟩ : ∃ sg, qsign q = sg := ⟨_, rfl⟩
 have HSG := Lib.hid hsg
 obtain ⟨L, hL⟩ : ∃ L, (if q = 0 then vals zs else vals zs ++ [(a, q)]) = L := ⟨_, rfl⟩
 rw [hL]
 by_cases h0 : q = 0
 ·have g1 : (sg == 0) = true := by rw [← hsg, qsign_zero_iff.2 h0]; rfl
  have HE : Hid (L = vals zs) := by show _ = _; rw [← hL]; exact if_pos h0
  clear hL
  clear h hb hq hk hk2 ha hl b0 hx0 hsg h0
  go_enter Tryz.func76, Tryz.ntmps76
  have e0 := HX.out.c0
  have e1 := HX.out.c1
  have e2 := HX.out.c2
  have e3 := HX.out.c3
  go_upto_region 1 with fail
  clear hW0
  go_wp2_with fail
  refine (Q.P.sign_q HQ.out HK.out.1 HK.out.2 sg HSG.out).mono ?_
  rintro e w1 ⟨rfl, hb1⟩
  have HZ1 := Lib.hid (HZ.out.below hb1)
  have HB1 := Lib.hid (below_on HB.out hb1)
  clear hb1 e0 e1 e2 e3
  go_wp2_with fail
  refine ⟨rfl, .slice A0 n0 c0, by simp [results, Tryz.results76, go_sem], ?_⟩
  rw [HE.out]
  exact ⟨A0, n0, c0, zs, rfl, HZ1.out, rfl, Near.of_below HB1.out, .inl rfl⟩
 ·have g1 : (sg == 0) = false := by rw [← hsg, beq_eq_false_iff_ne]; exact fun h => h0 (qsign_zero_iff.1 h)
  have HE : Hid (L = vals zs ++ [(a, q)]) := by show _ = _; rw [← hL]; exact if_neg h0
  clear hL
  clear h hb hq hk hk2 ha hl b0 hx0 hsg h0
  go_enter Tryz.func76, Tryz.ntmps76
  have e0 := HX.out.c0
  have e1 := HX.out.c1
  have e2 := HX.out.c2
  have e3 := HX.out.c3
  go_upto_region 1 with fail
  clear hW0
  go_wp2_with fail
  refine (Q.P.sign_q HQ.out HK.out.1 HK.out.2 sg HSG.out).mono ?_
  rintro e w1 ⟨rfl, hb1⟩
  have HZ1 := Lib.hid (HZ.out.below hb1)
  have HB1 := Lib.hid (below_on HB.out hb1)
  have HQ1 := Lib.hid (HQ.out.below hb1)
  have HX1 := Lib.hid (HX.out.below hb1)
  clear hb1 e0 e1 e2 e3
  have e0 := HX1.out.c0
  have e1 := HX1.out.c1
  have e2 := HX1.out.c2
  have e3 := HX1.out.c3
  go_wp2_with fail
  refine (Q.P.norm_q HQ1.out HK.out.1 HK.out.2).mono ?_
  rintro e w2 ⟨s8, A8, n8, c8, t8, B8, m8, d8, rfl, h8, hb8⟩
  have HZ2 := Lib.hid (HZ1.out.below hb8)
  have HB2 := Lib.hid (below_on HB1.out hb8)
  have HO2 := Lib.hid h8
  clear h8 hb8 e0 e1 e2 e3
  obtain ⟨W3, hW3⟩ : ∃ V, w2.alloc (.cells #[.int .i64 a, .bool s8, .slice A8 n8 c8, .bool t8, .slice B8 m8 d8] 74) = V := ⟨_, rfl⟩
  have hb3 : Below w2.heap.size w2 W3 := by rw [← hW3]; exact (Below.refl _ _).alloc (Nat.le_refl _) _
  have hr3 : W3.heap[w2.heap.size]? = some (.cells #[.int .i64 a, .bool s8, .slice A8 n8 c8, .bool t8, .slice B8 m8 d8] 74 (0, 0)) := by rw [← hW3]; exact heap_alloc_new w2 _
  have HZ3 := Lib.hid (HZ2.out.below hb3)
  have HB3 := Lib.hid (below_on HB2.out hb3)
  have HO3 := Lib.hid (HO2.out.below hb3)
  have HR3 : Hid (∀ j u, (⟨a, s8, A8, n8, c8, t8, B8, m8, d8⟩ : TV).enc[j]? = some u → W3.cell? ((⟨w2.heap.size, 0, none⟩ : Addr).add j) = some u) := by
   intro j u hj
   rw [add_flat, Nat.zero_add, cell_of_row _ _ j _ _ _ hr3]
   simpa [TV.enc] using hj
  clear hb3 hr3
  go_wp2_with (at_builtin; refine wpList_appU rfl (.tmp 11) (.tmp 16) rfl base (.slice A0 n0 c0) (zs.map Prod.fst) ⟨a, s8, A8, n8, c8, t8, B8, m8, d8⟩ ⟨w2.heap.size, 0, none⟩ rfl rfl HZ3.out.own HR3.out (by rw [List.length_map]; exact HLL.out) (Nat.le_trans HBS.out HB3.out.size) ?_)
  rintro v' w4 h4 hg hbk
  obtain ⟨A', n', c', rfl⟩ := h4.some_
  have hgr : Grown W3 w4 (.slice A0 n0 c0) := Near.of_grown hg
  have HRET : Hid (RetP w base (.slice A0 n0 c0) L (.returned (.slice A' n' c')) w4) := by
   refine ⟨A', n', c', zs ++ [((⟨a, s8, A8, n8, c8, t8, B8, m8, d8⟩ : TV), q)], rfl, ⟨by rw [List.map_append]; exact h4, fun y hy => ?_⟩, ?_, (Near.of_below HB3.out).trans hgr, ?_⟩
   ·rcases List.mem_append.1 hy with hy | hy
    ·exact ⟨one_near (HZ3.out.one y hy).1 (own_nodig HZ3.out) hgr, (HZ3.out.one y hy).2⟩
    ·obtain rfl := List.mem_singleton.1 hy
     exact ⟨one_near HO3.out (own_nodig HZ3.out) hgr, HA.out⟩
   ·rw [HE.out]
    unfold vals
    rw [List.map_append]
    rfl
   ·rcases hbk with h | h
    ·exact .inl h
    ·exact .inr ⟨_, h, HB3.out.size⟩
  clear h4 hg hbk hgr hW3
  go_wp2_with fail
  exact ⟨rfl, .slice A' n' c', by simp [results, Tryz.results76, go_sem], HRET.out⟩
theorem OwnZ.ret {w wx : World} {base : Nat} {A : Option Addr} {n c : Nat} {zs : List (TV × Rat)} {F : Int → Rat} {p m L : Nat} (h : OwnZ wx base (.slice A n c) zs) (hp : Is F (vals zs)) (hF : Fn p m L F) (hp7 : p ≤ 700) (hm7 : m ≤ 700) (hB : Below w.heap.size w wx) : RetC w F (.returned (.slice A n c)) wx := by
 have hk : ∀ y ∈ zs, ql y.2 ≤ 700 := fun y hy => is_ql hp hF hp7 hm7 (y.1.at_, y.2) (List.mem_map.2 ⟨y, hy, rfl⟩)
 refine ⟨A, n, c, rfl, ?_, hB⟩
 rcases h.own.row.2 with ⟨e, h0⟩ | ⟨g, cap, cur, e, _, hgc, hnc, hcm, hcs, htake⟩
 ·obtain ⟨rfl, rfl, rfl⟩ : A = none ∧ n = 0 ∧ c = 0 := by simpa using e
  have hz : zs = [] := by rw [List.length_map] at h0; exact List.eq_nil_of_length_eq_zero h0
  subst hz
  exact ⟨⟨[], IsV.nil _ _ _ _, hp, (fun _ h => by cases h)⟩, fun a ha => by cases ha⟩
 ·obtain ⟨rfl, rfl, rfl⟩ : A = some ⟨g, 0, none⟩ ∧ n = (zs.map Prod.fst).length ∧ c = cap := by simpa using e
  have hown : OwnT wx 0 (.slice (some ⟨g, 0, none⟩) (zs.map Prod.fst).length c) (zs.map Prod.fst) := ⟨⟨h.own.row.1, .inr ⟨g, c, cur, rfl, Nat.zero_le _, hgc, hnc, hcm, hcs, htake⟩⟩, h.own.all, _, _, _, rfl⟩
  exact ⟨⟨zs, own_isv hown h.one hk, hp, fun y hy => (h.one y hy).1⟩, fun a ha => by obtain rfl := Option.some.inj ha; exact lt_of_block hgc⟩
structure New (w wx : World) (v : Value) : Prop where
 bel : Below w.heap.size w wx
 new : ∀ g, v.ownBlock = some g → w.heap.size ≤ g
theorem New.step {w wx wy : World} {v v' : Value} (h : New w wx v) (hg : Grown wx wy v) (hb : v'.ownBlock = v.ownBlock ∨ ∃ g, v'.ownBlock = some g ∧ wx.heap.size ≤ g) : New w wy v' :=
 ⟨hg.new h.bel (fun b hb => h.new b hb.symm), fun g hg2 => by
  rcases hb with hb | ⟨g', hb, hl⟩
  ·exact h.new g (hb ▸ hg2)
  ·rw [hb] at hg2
   obtain rfl := Option.some.inj hg2
   exact Nat.le_trans h.bel.size hl⟩
set_option maxHeartbeats 4000000 in
theorem rof_c {w : World} {A : Option Addr} {n c k : Nat} {ys : List (TV × Rat)} {p l L : Nat} (h : IsL w A n c ys k) (hk : 1 ≤ k) (hk2 : k ≤ 700) (hn : n ≤ 1000) (hF : Fn p l L (tot (vals ys))) (hp : p ≤ 700) (hl : l ≤ 700) :
  Calls Tryz.prog 39 #[.slice A n c] w (RetC w (tot (vals ys))) := by
 have H := Lib.hid h
 have HLEN := Lib.hid h.en
 have HK : Hid (1 ≤ k ∧ k ≤ 700) := ⟨hk, hk2⟩
 have HN := Lib.hid hn
 have HFN := Lib.hid hF
 have HPL : Hid (p ≤ 700 ∧ l ≤ 700) := ⟨hp, hl⟩
 have HZ := Lib.hid (OwnZ.nil w w.heap.size)
 have HW : Hid (New w w (.slice none 0 0)) := ⟨Below.refl _ _, fun g h => by cases h⟩
 clear h hk hk2 hn hF hp hl
 go_enter Tryz.func39, Tryz.ntmps39
 go_wp2_with fail
 go_loopw [3, 4] (fun vv iv wr => ∃ (i : Nat) (A1 : Option Addr) (n1 c1 : Nat) (zs : List (TV × Rat)), i ≤ n ∧ iv = .int .i64 (i : Int) ∧ vv = .slice A1 n1 c1 ∧ Hid (OwnZ wr w.heap.size (.slice A1 n1 c1) zs) ∧ Hid (vals zs = nzs ((vals ys).take i)) ∧ Hid (New w wr (.slice A1 n1 c1))) (fun _ iv _ => n - (intOf iv).toNat)
 case atStart => exact ⟨0, none, 0, 0, [], Nat.zero_le _, rfl, rfl, HZ, rfl, HW⟩
 case round =>
  clear HZ HW
  obtain ⟨i, A1, n1, c1, zs, hi, rfl, rfl, HZ, HV, HW⟩ := hrel
  by_cases hlt : i < n
  ·have hi1 : (i : Int) < (n : Int) := by omega
   have hi0 : (0 : Int) ≤ (i : Int) := by omega
   have hwi : IntKind.i64.wrap ((i : Int) + 1) = (i : Int) + 1 := by have := HN.out; rw [IntKind.wrap_i64]; omega
   obtain ⟨y, hy⟩ : ∃ y, ys[i]? = some y := ⟨ys[i]'(by have := HLEN.out; omega), List.getElem?_eq_getElem (by have := HLEN.out; omega)⟩
   obtain ⟨b1, off, hA, c0, c1', c2, c3⟩ := (H.out.below HW.out.bel).get hy
   subst hA
   have HYQ : Hid (IsQ wr y.1.s y.1.A y.1.n y.1.c y.1.t y.1.B y.1.m y.1.d y.2 k) := (H.out.tq y (List.mem_of_getElem? hy)).below HW.out.bel
   have HYV : Hid ((vals ys)[i]? = some ((i : Int), y.2)) := by
    show _ = _
    unfold vals
    rw [List.getElem?_map, hy]
    show some (y.1.at_, y.2) = _
    rw [H.out.at_ i y hy]
   have HLN : Hid (zs.length ≤ 10000000) := by
    have h0 : (vals zs).length = zs.length := vals_len zs
    rw [HV.out] at h0
    have h1 : (nzs ((vals ys).take i)).length ≤ ((vals ys).take i).length := List.length_filter_le ..
    rw [List.length_take] at h1
    have := HN.out
    show _ ≤ _
    omega
   obtain ⟨y1, q⟩ := y
   simp only at c0 c1' c2 c3
   clear hy
   go_wp2_with fail
   refine (rput_any HZ.out HW.out.bel.size HYQ.out HK.out.1 (Nat.le_trans HK.out.2 (by omega)) (by have := HN.out; omega) HLN.out).mono ?_
   rintro e w2 ⟨A2, n2, c2', zs2, rfl, h2, h3, h4, h5⟩
   have HZ2 := Lib.hid h2
   have HV2 : Hid (vals zs2 = nzs ((vals ys).take (i + 1))) := by show _ = _; rw [h3, nzs_snoc HYV.out, HV.out]
   have HW2 := Lib.hid (HW.out.step h4 h5)
   clear c0 c1' c2 c3 h2 h3 h4 h5
   go_wp2_with fail
   go_roundw
   case rel => exact ⟨i + 1, A2, n2, c2', zs2, by omega, by go_num, rfl, HZ2, HV2, HW2⟩
   case measure => (simp [intOf]; omega)
  ·have hi1 : ¬ (i : Int) < (n : Int) := by omega
   have hin : (vals ys).take i = vals ys := List.take_of_length_le (by rw [vals_len]; have := HLEN.out; omega)
   have HRET : Hid (RetC w (tot (vals ys)) (.returned (.slice A1 n1 c1)) wr) := HZ.out.ret (by rw [HV.out, hin]; exact nzs_is H.out.up) HFN.out HPL.out.1 HPL.out.2 HW.out.bel
   clear hin
   go_wp2_with fail
   exact ⟨rfl, .slice A1 n1 c1, by simp [results, Tryz.results39, go_sem], HRET.out⟩
end Go.Proofs.YtmbnlhedbedcdaaGreat.V
