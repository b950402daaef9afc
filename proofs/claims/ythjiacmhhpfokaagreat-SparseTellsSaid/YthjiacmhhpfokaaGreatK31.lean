/- Part 31 of the proof: VRget, VDDense, VSameRats, VRMath, VSameW. -/
import Derived.Test.YthjiacmhhpfokaaGreatK30
namespace Go.Proofs.YthjiacmhhpfokaaGreat
open Lib renaming hid → lh
open List renaming getElem_toArray → gY, getElem_cons_zero → gZ, getElem_cons_succ → gJ, setIfInBounds_toArray → sT, set_cons_zero → sZ, set_cons_succ → sS
open Act renaming put → aP
open Go.Proofs.Tryz renaming prog → tz
open Nat renaming le_refl → lR
open Go.RowKit.Below renaming refl → bR
open List renaming getElem?_eq_getElem → gE, length_map → lM, getElem?_map → gM
namespace V
open Go.RowKit
open Q (IsQ OneQ RetQ below_on ql Qbx below_put4)
theorem tot_take_succ {l : List (Int × Rat)} {i : Nat} {p : Int × Rat} (h : l[i]? = some p) (a : Int) : tot (l.take (i + 1)) a = tot (l.take i) a + (if p.1 = a then p.2 else 0) := by
 rw [List.take_add_one, h, tot_append]
 have : tot (some p).toList a = (if p.1 = a then p.2 else 0) := by
  show (if p.1 = a then p.2 else 0) + 0 = _
  grind
 rw [this]
structure SO (w wx : World) (s : Bool) (A : Option Addr) (n c : Nat) (t : Bool) (B : Option Addr) (m d : Nat) (q : Rat) : Prop where
 bel : Below w.heap.size w wx
 o : Qbx wx w.heap.size false none 0 0 false none 0 0
 tot : Qbx wx (w.heap.size + 1) s A n c t B m d
 val : OneQ wx s A n c t B m d q
theorem SO.below {w wx wy : World} {s t : Bool} {A B : Option Addr} {n c m d : Nat} {q : Rat} (h : SO w wx s A n c t B m d q) (hb : Below wx.heap.size wx wy) : SO w wy s A n c t B m d q := ⟨below_on h.bel hb, h.o.below hb, h.tot.below hb, h.val.below hb⟩
theorem SO.start (w : World) : SO w ((w.alloc (.cells #[.bool false, .slice none 0 0, .bool false, .slice none 0 0] 27)).alloc (.cells #[.bool false, .slice none 0 0, .bool false, .slice none 0 0] 27)) false none 0 0 false none 0 0 0 :=
 ⟨((bR _ _).alloc (lR _) _).alloc (by simp) _, (Qbx.new _ _ rfl).alloc _, Qbx.new _ _ (by simp), Q.oneq_zero _ 0 0⟩
theorem SO.put {w wx : World} {s t : Bool} {A B : Option Addr} {n c m d : Nat} {q : Rat} {s' t' : Bool} {A' B' : Option Addr} {n' c' m' d' : Nat} {q' : Rat} (h : SO w wx s A n c t B m d q) (h2 : OneQ wx s' A' n' c' t' B' m' d' q') : SO w (Q.put4 wx (w.heap.size + 1) s' A' n' c' t' B' m' d') s' A' n' c' t' B' m' d' q' :=
 ⟨below_put4 h.bel (by omega), h.o.put4_far (by omega), h.tot.put, h2.on4 h.tot.bx⟩
theorem Short.takes {l : List (Int × Rat)} (h : Short l) (i : Nat) : Short (l.take i) := h.sub (by rw [List.length_take]; omega) (fun _ hx => List.mem_of_mem_take hx)
set_option maxRecDepth 100000 in
set_option maxHeartbeats 8000000 in
theorem rget_v {w : World} {A : Option Addr} {n c : Nat} {ys : List (TV × Rat)} (h : IsV w A n c ys 700) (hn : n ≤ 1000000) (hs : Short (vals ys)) (a : Int) (q : Rat) (hq : tot (vals ys) a = q) : Calls tz 32 #[.slice A n c, .int .i64 a] w (Q.RetQ w q) := by
 have H := lh h
 have HLEN := lh h.en
 have HN := lh hn
 have HSH := lh hs
 have HQ := lh hq
 have HS0 : Hid (SO w ((w.alloc (.cells #[.bool false, .slice none 0 0, .bool false, .slice none 0 0] 27)).alloc (.cells #[.bool false, .slice none 0 0, .bool false, .slice none 0 0] 27)) false none 0 0 false none 0 0 (tot ((vals ys).take 0) a)) := SO.start w
 clear h hn hs hq
 go_enter Tryz.func32, Tryz.ntmps32
 go_wp2_with fail
 go_loopw [6] (fun iv wr => ∃ (i : Nat) (s : Bool) (A : Option Addr) (na ca : Nat) (t : Bool) (B : Option Addr) (ma da : Nat), i ≤ n ∧ iv = .int .i64 (i : Int) ∧ Hid (SO w wr s A na ca t B ma da (tot ((vals ys).take i) a))) (fun iv _ => n - (intOf iv).toNat)
 case atStart => exact ⟨0, false, none, 0, 0, false, none, 0, 0, Nat.zero_le _, rfl, HS0⟩
 case round =>
  clear HS0
  obtain ⟨i, s, A1, na, ca, t, B, ma, da, hi, rfl, HS⟩ := hrel
  by_cases hlt : i < n
  ·have hi1 : (i : Int) < (n : Int) := by omega
   have hi0 : (0 : Int) ≤ (i : Int) := by omega
   have hwi : IntKind.i64.wrap ((i : Int) + 1) = (i : Int) + 1 := by have := HN.out; rw [IntKind.wrap_i64]; omega
   obtain ⟨u, hu⟩ : ∃ u, ys[i]? = some u := ⟨ys[i]'(by have := HLEN.out; omega), gE (by have := HLEN.out; omega)⟩
   obtain ⟨b1, off1, hA1, hk1⟩ := row_at2 H.out.row (j := i) (x := u.1) (by rw [gM, hu]; rfl)
   subst hA1
   have hts : tot ((vals ys).take (i + 1)) a = tot ((vals ys).take i) a + (if u.1.at_ = a then u.2 else 0) := tot_take_succ (p := (u.1.at_, u.2)) (by unfold vals; rw [gM, hu]; rfl) a
   have huq := (H.out.tq u (List.mem_of_getElem? hu)).1
   have HL1 : Hid (ql (tot ((vals ys).take i) a) ≤ 700) := (HSH.out.takes i).tot a
   have HL2 : Hid (ql (tot ((vals ys).take (i + 1)) a) ≤ 700) := (HSH.out.takes (i + 1)).tot a
   obtain ⟨v, hv⟩ : ∃ v, tot ((vals ys).take i) a = v := ⟨_, rfl⟩
   obtain ⟨v2, hv2⟩ : ∃ v, tot ((vals ys).take (i + 1)) a = v := ⟨_, rfl⟩
   obtain ⟨⟨pat, ps, pA, pn, pc, pt, pB, pm, pd⟩, r⟩ := u
   simp only at hk1 hts huq
   rw [hv] at HS hts HL1
   rw [hv2] at hts HL2
   have HV2 := lh hv2
   have HUQ := lh huq
   have HK : Hid (∀ V, Below w.heap.size w V → V.cell? ⟨b1, off1 + i * 5, none⟩ = some (.int .i64 pat) ∧ V.cell? ⟨b1, off1 + i * 5 + 1, none⟩ = some (.bool ps) ∧ V.cell? ⟨b1, off1 + i * 5 + 2, none⟩ = some (.slice pA pn pc) ∧ V.cell? ⟨b1, off1 + i * 5 + 3, none⟩ = some (.bool pt) ∧ V.cell? ⟨b1, off1 + i * 5 + 4, none⟩ = some (.slice pB pm pd)) := hk1
   obtain ⟨d0, _, _, _, _⟩ := hk1 _ HS.out.bel
   clear hu huq hk1 hv hv2
   by_cases hpa : pat = a
   ·have g1 : (pat == a) = true := beq_iff_eq.2 hpa
    have HTS : Hid (v + r = v2) := by show _ = _; rw [hts, if_pos hpa]
    clear hts hpa
    go_upto_region 6 with fail
    clear d0
    obtain ⟨W0, hW0⟩ : ∃ V, wr.drew = V := ⟨_, rfl⟩
    replace HS : Hid (SO w W0 s A1 na ca t B ma da v) := by rw [← hW0]; exact HS.out.below ((bR _ _).drew)
    refine wp_region_held_drew (S := (fun V => V.cell? ⟨b1, off1 + i * 5, none⟩ = some (.int .i64 pat) ∧ V.cell? ⟨b1, off1 + i * 5 + 1, none⟩ = some (.bool ps) ∧ V.cell? ⟨b1, off1 + i * 5 + 2, none⟩ = some (.slice pA pn pc) ∧ V.cell? ⟨b1, off1 + i * 5 + 3, none⟩ = some (.bool pt) ∧ V.cell? ⟨b1, off1 + i * 5 + 4, none⟩ = some (.slice pB pm pd))) (by kernel_rfl) (by rw [hW0]; with_reducible exact HK.out _ HS.out.bel) (fun hHeld => ?_)
    rw [hW0] at hHeld ⊢
    clear hW0
    refine' tK 1 ?_
    try simp only [gY, gZ, gJ, aP, sT, sZ, sS]
    refine' tK 2 ?_
    try simp only [gY, gZ, gJ, aP, sT, sZ, sS]
    refine' tK 3 ?_
    try simp only [gY, gZ, gJ, aP, sT, sZ, sS]
    refine' tK 4 ?_
    try simp only [gY, gZ, gJ, aP, sT, sZ, sS]
    refine' tK 5 ?_
    try simp only [gY, gZ, gJ, aP, sT, sZ, sS]
    refine rQ 0 (fun K hK => ?_)
    try simp only [gY, gZ]
    have v0 := HS.out.tot.c0
    have v1 := HS.out.tot.c1
    have v3 := HS.out.tot.c2
    have v4 := HS.out.tot.c3
    go_simp
    clear v0 v1 v3 v4
    refine hK.out _ _ (by with_reducible exact HK.out _ HS.out.bel) (fun hHeld => ?_)
    clear hK K
    try simp only [aP, sT, sZ, sS]
    refine rQ 6 (fun K hK => ?_)
    try simp only [gY, gZ, gJ]
    go_simp
    with_reducible refine (Q.P.add_q (HS.out.val.isq HL1.out) ((HUQ.out.below HS.out.bel)) (by omega) (by omega) v2 HTS.out).mono ?_
    rintro e w5 ⟨s8, A8, n8, c8, t8, B8, m8, d8, rfl, ho, hbx⟩
    replace HS := lh (HS.out.below hbx)
    refine hK.out _ _ (by with_reducible exact HK.out _ HS.out.bel) (fun hHeld => ?_)
    clear hK K
    try simp only [aP, sT, sZ, sS]
    have HN5 := lh ho
    clear ho hbx
    obtain ⟨V, hV⟩ : ∃ V, Q.put4 w5 (w.heap.size + 1) s8 A8 n8 c8 t8 B8 m8 d8 = V := ⟨_, rfl⟩
    have HSV : Hid (SO w V s8 A8 n8 c8 t8 B8 m8 d8 v2) := by rw [← hV]; exact HS.out.put HN5.out
    have v0 := HS.out.tot.c0
    have v1 := HS.out.tot.c1
    have v3 := HS.out.tot.c2
    have v4 := HS.out.tot.c3
    have f0 := HS.out.tot.f 0
    have f1 := HS.out.tot.f 1
    have f2 := HS.out.tot.f 2
    have f3 := HS.out.tot.f 3
    simp only [Q.put4] at hV
    refine rQ 7 (fun K hK => ?_)
    try simp only [gY, gZ, gJ]
    go_simp
    try rw [hV]
    clear hV v0 v1 v3 v4 f0 f1 f2 f3 HS
    have HS := HSV
    clear HSV
    refine hK.out _ _ (by with_reducible exact HK.out _ HS.out.bel) (fun hHeld => ?_)
    clear hK K
    try simp only [aP, sT, sZ, sS]
    refine wpAnyH_done (by kernel_rfl) ?_ _
    go_wp2_with fail
    go_roundw
    case rel => exact ⟨i + 1, s8, A8, n8, c8, t8, B8, m8, d8, by omega, by go_num, by rw [HV2.out]; exact HS⟩
    case measure => (simp [intOf]; omega)
   ·have g1 : (pat == a) = false := beq_eq_false_iff_ne.2 hpa
    have HTS : Hid (v = v2) := by show _ = _; rw [hts, if_neg hpa]; grind
    clear hts hpa
    go_wp2_with fail
    go_roundw
    case rel => exact ⟨i + 1, s, A1, na, ca, t, B, ma, da, by omega, by go_num, by rw [HV2.out, ← HTS.out]; exact HS⟩
    case measure => (simp [intOf]; omega)
  ·have hi1 : ¬ (i : Int) < (n : Int) := by omega
   have HE : Hid (tot ((vals ys).take i) a = q) := by show _ = _; rw [List.take_of_length_le (by rw [vals_len]; have := HLEN.out; omega)]; exact HQ.out
   rw [HE.out] at HS
   have v0 := HS.out.tot.c0
   have v1 := HS.out.tot.c1
   have v2 := HS.out.tot.c2
   have v3 := HS.out.tot.c3
   have o0 := HS.out.o.c0
   have o1 := HS.out.o.c1
   have o2 := HS.out.o.c2
   have o3 := HS.out.o.c3
   have f0 := HS.out.o.f 0
   have f1 := HS.out.o.f 1
   have f2 := HS.out.o.f 2
   have f3 := HS.out.o.f 3
   go_wp2_with fail
   refine bodyPost_ret (v := .agg #[.bool s, .slice A1 na ca, .bool t, .slice B ma da]) (by simp [results, Tryz.results32, go_sem, o0, o1, o2, o3]) rfl ?_
   exact ⟨s, A1, na, ca, t, B, ma, da, rfl, HS.out.val.on4 HS.out.o.bx, below_put4 HS.out.bel (lR _)⟩
theorem rget_c {w : World} {A : Option Addr} {n c : Nat} {F : Int → Rat} (hx : VF w A n c F) (a : Int) (r : Rat) (hr : F a = r) : Calls tz 32 #[.slice A n c, .int .i64 a] w (Q.RetQ w r) := by
 obtain ⟨xs, h1, h2, h3⟩ := hx.ex
 exact rget_v h1 (Nat.le_trans hx.len (by omega)) h2 a r (by rw [h3, hr])
end V

namespace V
open Go.RowKit
open Q (IsQ OneQ RetQ below_on ql Qbx)
theorem wpList_appR {ops : Array Oper} {rest : List Oper} {o : Oper} {a : Act} {w : World} {Q : Exit → Act → World → Prop} (hgd : o.guard = none) (sl x : Operand)
  (ho : o.op = .call { callee := .builtin .append, args := #[sl, x], argTypes := #[52, 52] })
  (base : Nat) (v : Value) (ts : List TV) (y : TV) (ad : Addr) (hs : a.eval sl = v) (hx : a.eval x = .slice (some ad) 1 1) (hown : OwnR w base v ts) (had : ∀ j u, y.encR[j]? = some u → w.cell? (ad.add j) = some u) (h : ts.length ≤ 10000000) (hbase : base ≤ w.heap.size)
  (hk : ∀ v' w', OwnR w' base v' (ts ++ [y]) → w.grownBy w' v.ownBlock → (v'.ownBlock = v.ownBlock ∨ v'.ownBlock = some w.heap.size) → wpList tz ops Q rest (a.put o.dst v') w') : wpList tz ops Q (o :: rest) a w := by
 refine wpList_plain hgd fun K hK => ?_
 obtain ⟨v', w', hr, h1, h2, h3⟩ := appR_at w base o.type v ts y ad hown had h hbase
 unfold Oper.wp
 simp [execOp, ho, resolve, invoke, builtin, hs, hx, hr, Result.andThen]
 exact hK _ _ (hk v' w' h1 h2 h3)
structure DenseR (w wx : World) (v : Value) (zs : List (TV × Rat)) (F : Int → Rat) (i : Nat) : Prop where
 own : OwnR wx w.heap.size v (zs.map Prod.fst)
 len : zs.length = i
 one : ∀ (j : Nat) y, zs[j]? = some y → OneQ wx y.1.s y.1.A y.1.n y.1.c y.1.t y.1.B y.1.m y.1.d y.2 ∧ y.1.at_ = (j : Int) ∧ y.2 = F (j : Int)
 nw : New w wx v
theorem DenseR.below {w wx wy : World} {v : Value} {zs : List (TV × Rat)} {F : Int → Rat} {i : Nat} (h : DenseR w wx v zs F i) (hb : Below wx.heap.size wx wy) : DenseR w wy v zs F i :=
 ⟨h.own.keep (fun g hg => hb.block g (h.own.lt hg)), h.len, fun j y hy => ⟨(h.one j y hy).1.below hb, (h.one j y hy).2⟩, ⟨below_on h.nw.bel hb, h.nw.new⟩⟩
theorem DenseR.app {w wr w4 : World} {v v' : Value} {zs : List (TV × Rat)} {F : Int → Rat} {i : Nat} (h : DenseR w wr v zs F i) (x : TV) (hx : x.at_ = (i : Int)) (ho : OneQ wr x.s x.A x.n x.c x.t x.B x.m x.d (F (i : Int))) (h4 : OwnR w4 w.heap.size v' (zs.map Prod.fst ++ [x])) (hg : wr.grownBy w4 v.ownBlock) (hB : New w w4 v') : DenseR w w4 v' (zs ++ [(x, F (i : Int))]) F (i + 1) := by
 have hn : NoDig wr (fun b => some b = v.ownBlock) := fun b hb i u hu => h.own.all b hb.symm i u hu
 have hgr : Near (fun b => some b = v.ownBlock) wr w4 := Near.of_grown hg
 refine ⟨by rw [List.map_append]; exact h4, by rw [List.length_append, h.len]; rfl, fun j y hy => ?_, hB⟩
 rcases Nat.lt_or_ge j i with hj | hj
 ·rw [List.getElem?_append_left (by rw [h.len]; exact hj)] at hy
  exact ⟨one_near (h.one j y hy).1 hn hgr, (h.one j y hy).2⟩
 ·have h5 := (List.getElem?_eq_some_iff.1 hy).1
  rw [List.length_append, h.len] at h5
  obtain rfl : j = i := by simp at h5; omega
  rw [List.getElem?_append_right (by rw [h.len]; exact lR _), h.len, Nat.sub_self] at hy
  obtain rfl : (x, F (j : Int)) = y := by simpa using hy
  exact ⟨one_near ho hn hgr, hx, rfl⟩
def RetDR (w : World) (F : Int → Rat) (N : Nat) (e : Ending) (w' : World) : Prop := ∃ v zs, e = .returned v ∧ DenseR w w' v zs F N
set_option maxRecDepth 100000 in
set_option maxHeartbeats 4000000 in
theorem ddense_c {w : World} {A : Option Addr} {n c : Nat} {F : Int → Rat} (hx : VF w A n c F) (N : Int) (hN : N ≤ 65536) : Calls tz 39 #[.slice A n c, .int .i64 N] w (RetDR w F N.toNat) := by
 have HX := lh hx
 have HN := lh hN
 have HZ : Hid (DenseR w w (.slice none 0 0) [] F 0) := ⟨⟨⟨rfl, .inl ⟨rfl, rfl⟩⟩, (fun _ h => by cases h), _, _, _, rfl⟩, rfl, fun j y h => by simp at h, ⟨bR _ _, fun g h => by cases h⟩⟩
 clear hx hN
 go_enter Tryz.func39, Tryz.ntmps39
 go_wp2_with fail
 go_loopw [5, 6] (fun vv iv wr => ∃ (i : Nat) (A1 : Option Addr) (n1 c1 : Nat) (zs : List (TV × Rat)), i ≤ N.toNat ∧ iv = .int .i64 (i : Int) ∧ vv = .slice A1 n1 c1 ∧ Hid (DenseR w wr (.slice A1 n1 c1) zs F i)) (fun _ iv _ => N.toNat - (intOf iv).toNat)
 case atStart => exact ⟨0, none, 0, 0, [], Nat.zero_le _, rfl, rfl, HZ⟩
 case round =>
  clear HZ
  obtain ⟨i, A1, n1, c1, zs, hi, rfl, rfl, HZ⟩ := hrel
  by_cases hlt : (i : Int) < N
  ·have hi6 : (i : Int) < 65536 := by have := HN.out; omega
   have hi0 : (0 : Int) ≤ (i : Int) := by omega
   have hin : i < N.toNat := by omega
   have hwi : IntKind.i64.wrap ((i : Int) + 1) = (i : Int) + 1 := by rw [IntKind.wrap_i64]; omega
   obtain ⟨q, hq⟩ : ∃ q, F (i : Int) = q := ⟨_, rfl⟩
   have HQ := lh hq
   clear hq
   go_wp2_with fail
   refine (rget_c (HX.out.below HZ.out.nw.bel) (i : Int) q HQ.out).mono ?_
   rintro e w2 ⟨s8, A8, n8, c8, t8, B8, m8, d8, rfl, ho, hb⟩
   have HZ2 := lh (HZ.out.below hb)
   have HO2 := lh ho
   clear ho hb
   obtain ⟨W3, hW3⟩ : ∃ V, w2.alloc (.cells #[.bool s8, .slice A8 n8 c8, .bool t8, .slice B8 m8 d8] 27) = V := ⟨_, rfl⟩
   have hb3 : Below w2.heap.size w2 W3 := by rw [← hW3]; exact (bR _ _).alloc (lR _) _
   have hr3 : W3.heap[w2.heap.size]? = some (.cells #[.bool s8, .slice A8 n8 c8, .bool t8, .slice B8 m8 d8] 27 (0, 0)) := by rw [← hW3]; exact heap_alloc_new w2 _
   have HZ3 := lh (HZ2.out.below hb3)
   have HO3 := lh (HO2.out.below hb3)
   have HR3 : Hid (∀ j u, (⟨(i : Int), s8, A8, n8, c8, t8, B8, m8, d8⟩ : TV).encR[j]? = some u → W3.cell? ((⟨w2.heap.size, 0, none⟩ : Addr).add j) = some u) := by
    intro j u hj
    rw [add_flat, Nat.zero_add, cell_of_row _ _ j _ _ _ hr3]
    simpa [TV.encR] using hj
   clear hb3 hr3
   go_wp2_with (at_builtin; refine wpList_appR rfl (.tmp 16) (.tmp 20) rfl w.heap.size (.slice A1 n1 c1) (zs.map Prod.fst) ⟨(i : Int), s8, A8, n8, c8, t8, B8, m8, d8⟩ ⟨w2.heap.size, 0, none⟩ rfl rfl HZ3.out.own HR3.out (by rw [lM, HZ3.out.len]; omega) HZ3.out.nw.bel.size ?_)
   rintro v' w4 h4 hg hbk
   obtain ⟨A', n', c', rfl⟩ := h4.some_
   have HN4 : Hid (New w w4 (.slice A' n' c')) := HZ3.out.nw.step (Near.of_grown hg) (hbk.imp id (fun h => ⟨_, h, lR _⟩))
   have HZ4 : Hid (DenseR w w4 (.slice A' n' c') (zs ++ [((⟨(i : Int), s8, A8, n8, c8, t8, B8, m8, d8⟩ : TV), F (i : Int))]) F (i + 1)) := HZ3.out.app ⟨(i : Int), s8, A8, n8, c8, t8, B8, m8, d8⟩ rfl (by rw [HQ.out]; exact HO3.out) h4 hg HN4.out
   clear h4 hg hbk hW3
   go_wp2_with fail
   go_roundw
   case rel => exact ⟨i + 1, A', n', c', _, by omega, by go_num, rfl, HZ4⟩
   case measure => (simp [intOf]; omega)
  ·have HE : Hid (RetDR w F N.toNat (.returned (.slice A1 n1 c1)) wr) := ⟨_, zs, rfl, by rw [show N.toNat = i by omega]; exact HZ.out⟩
   go_wp2_with fail
   exact ⟨rfl, .slice A1 n1 c1, by simp [results, Tryz.results39, go_sem], HE.out⟩
end V

namespace V
open Go.RowKit
open Q (IsQ OneQ RetQ below_on ql Qbx)
def SameR (xs ys : List (TV × Rat)) (b : Nat → Bool) (j : Nat) : Prop := ∀ x y, xs[j]? = some x → ys[j]? = some y → b j = true
theorem rat_at {w : World} {A : Option Addr} {n c k : Nat} {ys : List (TV × Rat)} (h : IsL w A n c ys k) {j : Nat} {x : TV × Rat} (hj : ys[j]? = some x) : ∃ b off, A = some ⟨b, off, none⟩ ∧ ∀ V, Below w.heap.size w V → V.cell? ⟨b, off + j * 4, none⟩ = some (.bool x.1.s) ∧ V.cell? ⟨b, off + j * 4 + 1, none⟩ = some (.slice x.1.A x.1.n x.1.c) ∧ V.cell? ⟨b, off + j * 4 + 2, none⟩ = some (.bool x.1.t) ∧ V.cell? ⟨b, off + j * 4 + 3, none⟩ = some (.slice x.1.B x.1.m x.1.d) := by
 have h1 : (ys.map Prod.fst)[j]? = some x.1 := by rw [gM, hj]; rfl
 obtain ⟨b, off, e, hlt, hc⟩ := h.row (by intro e; rw [e] at h1; cases h1)
 obtain ⟨c0, c1, c2, c3⟩ := hc j _ h1
 exact ⟨b, off, e, fun V hV => ⟨(hV.cell (p := ⟨b, off + j * 4, none⟩) hlt).trans c0, (hV.cell (p := ⟨b, off + j * 4 + 1, none⟩) hlt).trans c1, (hV.cell (p := ⟨b, off + j * 4 + 2, none⟩) hlt).trans c2, (hV.cell (p := ⟨b, off + j * 4 + 3, none⟩) hlt).trans c3⟩⟩
set_option maxRecDepth 100000 in
set_option maxHeartbeats 4000000 in
theorem samerats_any {w : World} {A B : Option Addr} {n c m d k l : Nat} {xs ys : List (TV × Rat)} (hx : IsL w A n c xs k) (hy : IsL w B m d ys l) (hl : n ≤ 1000000) (b : Nat → Bool)
  (hs : ∀ j x y W, xs[j]? = some x → ys[j]? = some y → Below w.heap.size w W → Calls tz 28 #[.agg #[.bool x.1.s, .slice x.1.A x.1.n x.1.c, .bool x.1.t, .slice x.1.B x.1.m x.1.d], .agg #[.bool y.1.s, .slice y.1.A y.1.n y.1.c, .bool y.1.t, .slice y.1.B y.1.m y.1.d]] W (RetB W (b j)))
  (v : Bool) (hv : v = true ↔ n = m ∧ ∀ j, SameR xs ys b j) : Calls tz 37 #[.slice A n c, .slice B m d] w (RetB w v) := by
 have HXR := lh hx
 have HYR := lh hy
 have HXL := lh hx.en
 have HYL := lh hy.en
 have HL := lh hl
 have HS := lh hs
 have HV := lh hv
 have HB := lh (bR w.heap.size w)
 have bv : ∀ c : Bool, (c = true ↔ n = m ∧ ∀ j, SameR xs ys b j) → c = v := fun c hc => Bool.eq_iff_iff.2 (hc.trans HV.out.symm)
 have BV := lh bv
 by_cases hnm : n = m
 ·have g0 : ((n : Int) != (m : Int)) = false := by rw [hnm]; exact bne_self_eq_false _
  have HNM := lh hnm
  clear hx hy hl hs hv hnm bv
  go_enter Tryz.func37, Tryz.ntmps37
  go_wp2_with fail
  go_loopw [5] (fun iv wr => ∃ i : Nat, i ≤ n ∧ iv = .int .i64 (i : Int) ∧ Hid (Below w.heap.size w wr) ∧ Hid (∀ j, j < i → SameR xs ys b j)) (fun iv _ => n - (intOf iv).toNat)
  case atStart => exact ⟨0, Nat.zero_le _, rfl, HB, fun j hj => absurd hj (Nat.not_lt_zero j)⟩
  case round =>
   clear HB
   obtain ⟨i, hi, rfl, HB, HG⟩ := hrel
   by_cases hlt : i < n
   ·have hi1 : (i : Int) < (n : Int) := by omega
    have hi0 : (0 : Int) ≤ (i : Int) := by omega
    have hi2 : (i : Int) < (m : Int) := by have := HNM.out; omega
    have hwi : IntKind.i64.wrap ((i : Int) + 1) = (i : Int) + 1 := by have := HL.out; rw [IntKind.wrap_i64]; omega
    obtain ⟨x, hx⟩ : ∃ x, xs[i]? = some x := ⟨xs[i]'(by have := HXL.out; omega), gE (by have := HXL.out; omega)⟩
    obtain ⟨y, hy⟩ : ∃ y, ys[i]? = some y := ⟨ys[i]'(by have := HYL.out; omega), gE (by have := HYL.out; omega)⟩
    obtain ⟨b1, off, hA, hk1⟩ := rat_at HXR.out hx
    obtain ⟨b2, off', hB, hk2⟩ := rat_at HYR.out hy
    have HX := lh hx
    have HY := lh hy
    subst hA hB
    have HK : Hid (∀ V, Below w.heap.size w V → V.cell? ⟨b1, off + i * 4, none⟩ = some (.bool x.1.s) ∧ V.cell? ⟨b1, off + i * 4 + 1, none⟩ = some (.slice x.1.A x.1.n x.1.c) ∧ V.cell? ⟨b1, off + i * 4 + 2, none⟩ = some (.bool x.1.t) ∧ V.cell? ⟨b1, off + i * 4 + 3, none⟩ = some (.slice x.1.B x.1.m x.1.d) ∧ V.cell? ⟨b2, off' + i * 4, none⟩ = some (.bool y.1.s) ∧ V.cell? ⟨b2, off' + i * 4 + 1, none⟩ = some (.slice y.1.A y.1.n y.1.c) ∧ V.cell? ⟨b2, off' + i * 4 + 2, none⟩ = some (.bool y.1.t) ∧ V.cell? ⟨b2, off' + i * 4 + 3, none⟩ = some (.slice y.1.B y.1.m y.1.d)) := fun V hV => by
     obtain ⟨p0, p1, p2, p3⟩ := hk1 V hV
     obtain ⟨q0, q1, q2, q3⟩ := hk2 V hV
     exact ⟨p0, p1, p2, p3, q0, q1, q2, q3⟩
    clear hx hy hk1 hk2
    obtain ⟨s0, hs0⟩ : ∃ s0, b i = s0 := ⟨_, rfl⟩
    have HS0 := lh hs0
    clear hs0
    cases s0 with
    | true =>
     go_upto_region 6 with fail
     replace HB := lh HB.out.drew
     refine wp_region_held_drew (S := (fun V => V.cell? ⟨b1, off + i * 4, none⟩ = some (.bool x.1.s) ∧ V.cell? ⟨b1, off + i * 4 + 1, none⟩ = some (.slice x.1.A x.1.n x.1.c) ∧ V.cell? ⟨b1, off + i * 4 + 2, none⟩ = some (.bool x.1.t) ∧ V.cell? ⟨b1, off + i * 4 + 3, none⟩ = some (.slice x.1.B x.1.m x.1.d) ∧ V.cell? ⟨b2, off' + i * 4, none⟩ = some (.bool y.1.s) ∧ V.cell? ⟨b2, off' + i * 4 + 1, none⟩ = some (.slice y.1.A y.1.n y.1.c) ∧ V.cell? ⟨b2, off' + i * 4 + 2, none⟩ = some (.bool y.1.t) ∧ V.cell? ⟨b2, off' + i * 4 + 3, none⟩ = some (.slice y.1.B y.1.m y.1.d))) (by kernel_rfl) (by with_reducible exact HK.out _ HB.out) (fun hHeld => ?_)
     refine' tK 0 ?_
     try simp only [gY, gZ, aP, sT, sZ, sS]
     refine' tK 1 ?_
     try simp only [gY, gZ, gJ, aP, sT, sZ, sS]
     refine' tK 2 ?_
     try simp only [gY, gZ, gJ, aP, sT, sZ, sS]
     refine' tK 3 ?_
     try simp only [gY, gZ, gJ, aP, sT, sZ, sS]
     refine' tK 4 ?_
     try simp only [gY, gZ, gJ, aP, sT, sZ, sS]
     refine' tK 5 ?_
     try simp only [gY, gZ, gJ, aP, sT, sZ, sS]
     refine' tK 6 ?_
     try simp only [gY, gZ, gJ, aP, sT, sZ, sS]
     refine' tK 7 ?_
     try simp only [gY, gZ, gJ, aP, sT, sZ, sS]
     refine rQ 8 (fun K hK => ?_)
     try simp only [gY, gZ, gJ]
     go_simp
     with_reducible refine (HS.out i x y _ HX.out HY.out HB.out).mono ?_
     rintro e w1 ⟨rfl, hbx⟩
     replace HB := lh (below_on HB.out hbx)
     clear hbx
     refine hK.out _ _ (by with_reducible exact HK.out _ HB.out) (fun hHeld => ?_)
     clear hK K
     try simp only [aP, sT, sZ, sS]
     refine' tK 9 ?_
     try simp only [gY, gZ, gJ, aP, sT, sZ, sS]
     refine wpAnyH_done (by kernel_rfl) ?_ _
     rw [HS0.out]
     go_wp2_with fail
     go_roundw
     case rel =>
      refine ⟨i + 1, by omega, by go_num, HB, fun j hj => ?_⟩
      rcases Nat.lt_or_ge j i with h | h
      ·exact HG.out j h
      ·intro x' y' hx' hy'
       obtain rfl : j = i := by omega
       exact HS0.out
     case measure => (simp [intOf]; omega)
    | false =>
     go_upto_region 6 with fail
     replace HB := lh HB.out.drew
     refine wp_region_held_drew (S := (fun V => V.cell? ⟨b1, off + i * 4, none⟩ = some (.bool x.1.s) ∧ V.cell? ⟨b1, off + i * 4 + 1, none⟩ = some (.slice x.1.A x.1.n x.1.c) ∧ V.cell? ⟨b1, off + i * 4 + 2, none⟩ = some (.bool x.1.t) ∧ V.cell? ⟨b1, off + i * 4 + 3, none⟩ = some (.slice x.1.B x.1.m x.1.d) ∧ V.cell? ⟨b2, off' + i * 4, none⟩ = some (.bool y.1.s) ∧ V.cell? ⟨b2, off' + i * 4 + 1, none⟩ = some (.slice y.1.A y.1.n y.1.c) ∧ V.cell? ⟨b2, off' + i * 4 + 2, none⟩ = some (.bool y.1.t) ∧ V.cell? ⟨b2, off' + i * 4 + 3, none⟩ = some (.slice y.1.B y.1.m y.1.d))) (by kernel_rfl) (by with_reducible exact HK.out _ HB.out) (fun hHeld => ?_)
     refine' tK 0 ?_
     try simp only [gY, gZ, aP, sT, sZ, sS]
     refine' tK 1 ?_
     try simp only [gY, gZ, gJ, aP, sT, sZ, sS]
     refine' tK 2 ?_
     try simp only [gY, gZ, gJ, aP, sT, sZ, sS]
     refine' tK 3 ?_
     try simp only [gY, gZ, gJ, aP, sT, sZ, sS]
     refine' tK 4 ?_
     try simp only [gY, gZ, gJ, aP, sT, sZ, sS]
     refine' tK 5 ?_
     try simp only [gY, gZ, gJ, aP, sT, sZ, sS]
     refine' tK 6 ?_
     try simp only [gY, gZ, gJ, aP, sT, sZ, sS]
     refine' tK 7 ?_
     try simp only [gY, gZ, gJ, aP, sT, sZ, sS]
     refine rQ 8 (fun K hK => ?_)
     try simp only [gY, gZ, gJ]
     go_simp
     with_reducible refine (HS.out i x y _ HX.out HY.out HB.out).mono ?_
     rintro e w2 ⟨rfl, hbx⟩
     replace HB := lh (below_on HB.out hbx)
     clear hbx
     refine hK.out _ _ (by with_reducible exact HK.out _ HB.out) (fun hHeld => ?_)
     clear hK K
     try simp only [aP, sT, sZ, sS]
     refine' tK 9 ?_
     try simp only [gY, gZ, gJ, aP, sT, sZ, sS]
     refine wpAnyH_done (by kernel_rfl) ?_ _
     rw [HS0.out]
     go_wp2_with fail
     have HE : Hid (false = v) := BV.out false ⟨fun h => (by cases h), fun h => by have h2 := h.2 i x y HX.out HY.out; rw [HS0.out] at h2; exact h2⟩
     go_ret
     rw [← HE.out]
     exact ⟨rfl, HB.out⟩
   ·have hi1 : ¬ (i : Int) < (n : Int) := by omega
    have HE : Hid (true = v) := BV.out true ⟨fun _ => ⟨HNM.out, fun j => by
     rcases Nat.lt_or_ge j i with h | h
     ·exact HG.out j h
     ·intro x y hx
      have h2 := (List.getElem?_eq_some_iff.1 hx).1
      have := HXL.out
      omega⟩, fun _ => rfl⟩
    go_wp2_with fail
    go_ret
    rw [← HE.out]
    exact ⟨rfl, HB.out⟩
 ·have g0 : ((n : Int) != (m : Int)) = true := bne_iff_ne.2 (by omega)
  have HE : Hid (false = v) := bv false ⟨fun h => (by cases h), fun h => absurd h.1 hnm⟩
  clear hx hy hl hs hv hnm bv
  go_enter Tryz.func37, Tryz.ntmps37
  go_wp2_with fail
  go_ret
  rw [← HE.out]
  exact ⟨rfl, HB.out⟩
end V

namespace V
open Go.RowKit
open Q (IsQ OneQ RetQ below_on ql Qbx dden)
theorem isq_same {w : World} {s t : Bool} {A B : Option Addr} {n c m d k l : Nat} {q r : Rat} (h : IsQ w s A n c t B m d q k) (g : IsQ w s A n c t B m d r l) : q = r := by
 obtain ⟨xs, ys, h1, h2, h3, h4, h5⟩ := h.ex
 obtain ⟨us, vs, g1, g2, g3, g4, g5⟩ := g.ex
 obtain rfl := num_same h3 g3 (h1.symm.trans g1)
 obtain rfl := num_same h4 g4 (h2.symm.trans g2)
 exact h5.symm.trans g5
structure RowOK (N : Int) (y z : TV × Rat) (us vs : List Nat) : Prop where
 at_ : y.1.at_ = z.1.at_
 lo : 0 ≤ y.1.at_
 hi : y.1.at_ < N
 s : y.1.s = z.1.s
 t : y.1.t = z.1.t
 us : us = YthjiacmhhpfokaaGreat.dig z.2.num.natAbs
 vs : vs = dden z.2
theorem RowOK.one {w : World} {N : Int} {y z : TV × Rat} {us vs : List Nat} {k : Nat} (h : RowOK N y z us vs) (hy : IsQ w y.1.s y.1.A y.1.n y.1.c y.1.t y.1.B y.1.m y.1.d y.2 k) (hn : y.1.n = us.length) (hm : y.1.m = vs.length) (hu : Num w y.1.A us) (hv : Num w y.1.B vs) (hz : OneQ w z.1.s z.1.A z.1.n z.1.c z.1.t z.1.B z.1.m z.1.d z.2) (hq : ql z.2 ≤ 700) :
  OneQ w y.1.s y.1.A y.1.n y.1.c y.1.t y.1.B y.1.m y.1.d y.2 ∧ y.2 = z.2 := by
 have h1 : OneQ w y.1.s y.1.A y.1.n y.1.c y.1.t y.1.B y.1.m y.1.d z.2 := by
  refine ⟨h.s.trans hz.es, ?_, h.t.trans hz.et, ?_, h.us ▸ hu, h.vs ▸ hv, hy.cap, hy.cap2⟩
  ·rw [hn, h.us]
  ·rw [hm, h.vs]
 have e : y.2 = z.2 := isq_same hy (h1.isq hq)
 exact ⟨e ▸ h1, e⟩
theorem RowOK.of {w : World} {N : Int} {y z : TV × Rat} {us vs : List Nat} (hat : y.1.at_ = z.1.at_) (h0 : 0 ≤ y.1.at_) (h1 : y.1.at_ < N) (ho : OneQ w y.1.s y.1.A y.1.n y.1.c y.1.t y.1.B y.1.m y.1.d y.2) (e : y.2 = z.2) (hn : y.1.n = us.length) (hm : y.1.m = vs.length) (hu : Num w y.1.A us) (hv : Num w y.1.B vs) (hz : OneQ w z.1.s z.1.A z.1.n z.1.c z.1.t z.1.B z.1.m z.1.d z.2) : RowOK N y z us vs := by
 refine ⟨hat, h0, h1, ?_, ?_, ?_, ?_⟩
 ·rw [ho.es, hz.es, e]
 ·rw [ho.et, hz.et]
 ·rw [← e]; exact num_same hu ho.num (hn.symm.trans ho.en)
 ·rw [← e]; exact num_same hv ho.den (hm.symm.trans ho.em)
theorem rise_of : ∀ {l : List (Int × Rat)}, (∀ j x y, l[j]? = some x → l[j + 1]? = some y → x.1 < y.1) → l.Pairwise (fun x y => x.1 < y.1)
 | [], _ => List.Pairwise.nil
 | [_], _ => List.pairwise_singleton _ _
 | x :: y :: l, h => by
  have h1 : (y :: l).Pairwise (fun x y => x.1 < y.1) := rise_of (fun j a b ha hb => h (j + 1) a b ha hb)
  have h0 : x.1 < y.1 := h 0 x y rfl rfl
  refine List.pairwise_cons.2 ⟨fun z hz => ?_, h1⟩
  rcases List.mem_cons.1 hz with rfl | hz
  ·exact h0
  ·have := (List.pairwise_cons.1 h1).1 z hz
   omega
theorem rightv_canon {w : World} {N : Int} {ys : List (TV × Rat)} (h : RightV w N ys) : Canon (vals ys) := by
 refine ⟨rise_of fun j x y hx hy => ?_, fun x hx => ?_⟩
 ·unfold vals at hx hy
  rw [gM] at hx hy
  obtain ⟨x', hx', rfl⟩ := Option.map_eq_some_iff.1 hx
  obtain ⟨y', hy', rfl⟩ := Option.map_eq_some_iff.1 hy
  exact (h (j + 1) y' hy').2.2.1 x' (by omega) hx'
 ·obtain ⟨y, hy, rfl⟩ := List.mem_map.1 hx
  obtain ⟨j, hj⟩ := List.getElem?_of_mem hy
  exact (h j y hj).2.2.2.1
structure Digs (w : World) (ys : List (TV × Rat)) (U V : Nat → List Nat) : Prop where
 at_ : ∀ j y, ys[j]? = some y → y.1.n = (U j).length ∧ y.1.m = (V j).length ∧ Num w y.1.A (U j) ∧ Num w y.1.B (V j)
theorem digs_of {w : World} {A : Option Addr} {n c k : Nat} {ys : List (TV × Rat)} (h : IsV w A n c ys k) : ∃ U V, Digs w ys U V := by
 have h1 : ∀ j : Nat, ∃ p : List Nat × List Nat, ∀ y, ys[j]? = some y → y.1.n = p.1.length ∧ y.1.m = p.2.length ∧ Num w y.1.A p.1 ∧ Num w y.1.B p.2 := by
  intro j
  cases hj : ys[j]? with
  | none => exact ⟨([], []), fun y hy => by cases hy⟩
  | some y =>
   obtain ⟨xs, zs, e1, e2, e3, e4, _⟩ := (h.tq y (List.mem_of_getElem? hj)).1.ex
   exact ⟨(xs, zs), fun y' hy' => by obtain rfl := Option.some.inj hy'; exact ⟨e1, e2, e3, e4⟩⟩
 exact ⟨fun j => (Classical.choose (h1 j)).1, fun j => (Classical.choose (h1 j)).2, ⟨fun j => Classical.choose_spec (h1 j)⟩⟩
def RowsOK (N : Int) (ys zs : List (TV × Rat)) (U V : Nat → List Nat) (j : Nat) : Prop := ∀ y z, ys[j]? = some y → zs[j]? = some z → RowOK N y z (U j) (V j)
theorem right_iff {w : World} {A : Option Addr} {n c k : Nat} {N : Int} {ys zs : List (TV × Rat)} {U V : Nat → List Nat} (h : IsV w A n c ys k) (hd : Digs w ys U V) (hz : Canon (vals zs)) (ht : ∀ a, tot (vals zs) a = tot (vals ys) a) (ho : ∀ z ∈ zs, OneQ w z.1.s z.1.A z.1.n z.1.c z.1.t z.1.B z.1.m z.1.d z.2) (hq : ∀ z ∈ zs, ql z.2 ≤ 700) :
  RightV w N ys ↔ zs.length = ys.length ∧ ∀ j, RowsOK N ys zs U V j := by
 constructor
 ·intro hr
  have hc := rightv_canon hr
  have he : vals zs = vals ys := hz.ext hc ht
  refine ⟨by rw [← vals_len zs, he, vals_len], fun j y z hy hz' => ?_⟩
  have e1 : (vals zs)[j]? = some (z.1.at_, z.2) := by unfold vals; rw [gM, hz']; rfl
  have e2 : (vals ys)[j]? = some (y.1.at_, y.2) := by unfold vals; rw [gM, hy]; rfl
  rw [he, e2] at e1
  have e3 := Option.some.inj e1
  have e4 : y.1.at_ = z.1.at_ := (Prod.mk.inj e3).1
  have e5 : y.2 = z.2 := (Prod.mk.inj e3).2
  obtain ⟨g1, g2, _, _, g5⟩ := hr j y hy
  obtain ⟨d1, d2, d3, d4⟩ := hd.at_ j y hy
  exact RowOK.of e4 g1 g2 g5 e5 d1 d2 d3 d4 (ho z (List.mem_of_getElem? hz'))
 ·rintro ⟨hl, hr⟩ j y hy
  have hj : j < zs.length := by rw [hl]; exact (List.getElem?_eq_some_iff.1 hy).1
  have hzj : zs[j]? = some zs[j] := gE hj
  have r1 := hr j y _ hy hzj
  obtain ⟨d1, d2, d3, d4⟩ := hd.at_ j y hy
  have hmem := List.mem_of_getElem? hzj
  obtain ⟨o1, o2⟩ := r1.one (h.tq y (List.mem_of_getElem? hy)).1 d1 d2 d3 d4 (ho _ hmem) (hq _ hmem)
  refine ⟨r1.lo, r1.hi, fun x hj0 hx => ?_, ?_, o1⟩
  ·have hj1 : j - 1 < zs.length := by omega
   have hz1 : zs[j - 1]? = some zs[j - 1] := gE hj1
   have r0 := hr (j - 1) x _ hx hz1
   rw [r0.at_, r1.at_]
   have := (List.pairwise_iff_getElem.1 hz.up) (j - 1) j (by rw [vals_len]; exact hj1) (by rw [vals_len]; exact hj) (by omega)
   simpa [vals] using this
  ·rw [o2]
   exact hz.nz (_, _) (List.mem_map.2 ⟨_, hmem, rfl⟩)
theorem rightv_below {w w' : World} {A : Option Addr} {n c k : Nat} {N : Int} {ys : List (TV × Rat)} (h : IsV w A n c ys k) (hb : Below w.heap.size w w') : RightV w N ys ↔ RightV w' N ys := by
 constructor
 ·intro hr j y hy
  obtain ⟨g1, g2, g3, g4, g5⟩ := hr j y hy
  exact ⟨g1, g2, g3, g4, g5.below hb⟩
 ·intro hr j y hy
  obtain ⟨g1, g2, g3, g4, g5⟩ := hr j y hy
  exact ⟨g1, g2, g3, g4, oneq_back (h.tq y (List.mem_of_getElem? hy)).1 hb g5⟩
def DL (w : World) (A : Option Addr) (n c : Nat) (F : Int → Rat) : Prop := ∃ zs, IsL w A n c zs 700 ∧ ∀ (j : Nat) y, zs[j]? = some y → OneQ w y.1.s y.1.A y.1.n y.1.c y.1.t y.1.B y.1.m y.1.d y.2 ∧ y.2 = F (j : Int)
theorem DL.below {w w' : World} {A : Option Addr} {n c : Nat} {F : Int → Rat} (h : DL w A n c F) (hb : Below w.heap.size w w') : DL w' A n c F := by
 obtain ⟨zs, h1, h2⟩ := h
 exact ⟨zs, h1.below hb, fun j y hy => ⟨(h2 j y hy).1.below hb, (h2 j y hy).2⟩⟩
theorem Rats.dl {w : World} {r N : Nat} {F : Int → Rat} (h : Rats w r N (fun i => F (i : Int))) (hq : ∀ a, ql (F a) ≤ 700) : DL w (some ⟨r, 0, none⟩) N N F := by
 obtain ⟨cur, h1, h2, h3⟩ := h
 obtain ⟨zs, hl, hz⟩ := list_of (P := fun (i : Nat) (y : TV × Rat) => y.1.at_ = (i : Int) ∧ y.2 = F (i : Int) ∧ cur[i * 4]? = some (.bool y.1.s) ∧ cur[i * 4 + 1]? = some (.slice y.1.A y.1.n y.1.c) ∧ cur[i * 4 + 2]? = some (.bool y.1.t) ∧ cur[i * 4 + 3]? = some (.slice y.1.B y.1.m y.1.d) ∧ OneQ w y.1.s y.1.A y.1.n y.1.c y.1.t y.1.B y.1.m y.1.d y.2) N (fun i hi => by
  obtain ⟨s, A, n, c, t, B, m, d, e0, e1, e2, e3, ho⟩ := h3 i hi
  exact ⟨(⟨(i : Int), s, A, n, c, t, B, m, d⟩, F (i : Int)), rfl, rfl, e0, e1, e2, e3, ho⟩)
 refine ⟨zs, ⟨hl.symm, lR _, fun _ => ⟨r, 0, rfl, lt_of_block h1, ?_⟩, ?_, fun j y hy => (hz j y hy).1⟩, fun j y hy => ⟨(hz j y hy).2.2.2.2.2.2, (hz j y hy).2.1⟩⟩
 ·intro j x hj
  rw [gM] at hj
  obtain ⟨y, hy, rfl⟩ := Option.map_eq_some_iff.1 hj
  obtain ⟨_, _, e0, e1, e2, e3, _⟩ := hz j y hy
  refine ⟨?_, ?_, ?_, ?_⟩
  ·rw [Nat.zero_add, cell_of_row w r _ _ _ _ h1]; exact e0
  ·rw [Nat.zero_add, cell_of_row w r _ _ _ _ h1]; exact e1
  ·rw [Nat.zero_add, cell_of_row w r _ _ _ _ h1]; exact e2
  ·rw [Nat.zero_add, cell_of_row w r _ _ _ _ h1]; exact e3
 ·intro y hy
  obtain ⟨j, hj⟩ := List.getElem?_of_mem hy
  obtain ⟨_, e, _, _, _, _, ho⟩ := hz j y hj
  exact ho.isq (by rw [e]; exact hq _)
theorem flatR_at : ∀ (xs : List TV) (j i : Nat), i < 4 → (flatR xs)[j * 4 + i]? = xs[j]?.bind (fun x => x.encR[i]?)
 | [], j, i, _ => by simp [flatR]
 | x :: xs, 0, i, hi => by
  show (x.encR ++ flatR xs)[0 * 4 + i]? = _
  rw [Nat.zero_mul, Nat.zero_add, List.getElem?_append_left (by rw [encR_len]; exact hi)]
  rfl
 | x :: xs, j + 1, i, hi => by
  show (x.encR ++ flatR xs)[(j + 1) * 4 + i]? = _
  rw [List.getElem?_append_right (by rw [encR_len]; omega), encR_len, show (j + 1) * 4 + i - 4 = j * 4 + i by omega, flatR_at xs j i hi]
  rfl
theorem DenseR.dl {w wx : World} {A : Option Addr} {n c : Nat} {zs : List (TV × Rat)} {F : Int → Rat} {N : Nat} (h : DenseR w wx (.slice A n c) zs F N) (hq : ∀ a, ql (F a) ≤ 700) : n = N ∧ DL wx A n c F := by
 have ho : ∀ y ∈ zs, IsQ wx y.1.s y.1.A y.1.n y.1.c y.1.t y.1.B y.1.m y.1.d y.2 700 := by
  intro y hy
  obtain ⟨j, hj⟩ := List.getElem?_of_mem hy
  obtain ⟨h1, _, h3⟩ := h.one j y hj
  exact h1.isq (by rw [h3]; exact hq _)
 have hl := h.len
 rcases h.own.row.2 with ⟨e, h0⟩ | ⟨g, cap, cur, e, _, hgc, hnc, hcm, hcs, htake⟩
 ·obtain ⟨rfl, rfl, rfl⟩ : A = none ∧ n = 0 ∧ c = 0 := by simpa using e
  have hz : zs = [] := by rw [lM] at h0; exact List.eq_nil_of_length_eq_zero h0
  subst hz
  exact ⟨hl, [], ⟨rfl, lR _, (fun hne => absurd rfl hne), (fun _ h => by cases h), (fun _ _ h => by cases h)⟩, fun _ _ h => by cases h⟩
 ·obtain ⟨rfl, rfl, rfl⟩ : A = some ⟨g, 0, none⟩ ∧ n = (zs.map Prod.fst).length ∧ c = cap := by simpa using e
  refine ⟨by rw [lM, hl], zs, ⟨by rw [lM], hnc, fun _ => ⟨g, 0, rfl, lt_of_block hgc, ?_⟩, ho, fun j y hy => (h.one j y hy).2.1⟩, fun j y hy => ⟨(h.one j y hy).1, (h.one j y hy).2.2⟩⟩
  intro j x hj
  have hc : ∀ i v, i < 4 → x.encR[i]? = some v → wx.cell? ⟨g, 0 + j * 4 + i, none⟩ = some v := by
   intro i v hi hv
   have h1 : (flatR (zs.map Prod.fst))[j * 4 + i]? = some v := by rw [flatR_at _ j i hi, hj]; exact hv
   rw [Nat.zero_add, cell_of_row wx g _ _ _ _ hgc]
   rw [← htake, List.getElem?_take] at h1
   split at h1
   ·simpa using h1
   ·cases h1
  exact ⟨hc 0 _ (by omega) rfl, hc 1 _ (by omega) rfl, hc 2 _ (by omega) rfl, hc 3 _ (by omega) rfl⟩
end V

namespace V
set_option maxHeartbeats 800000
open Go.RowKit
theorem dsame_yes (w : World) (A B : Option Addr) (c d : Nat) (xs : List Nat) (ha : Num w A xs) (hb : Num w B xs) (hn : xs.length ≤ 1099511627776) :
  Calls tz 100 #[.slice A xs.length c, .slice B xs.length d] w (RetB w true) := by
 have HA := lh ha
 have HB := lh hb
 clear ha hb
 go_enter Tryz.func100, Tryz.ntmps100
 go_wp2
 go_loopw [5] (fun i wr => ∃ k : Nat, k ≤ xs.length ∧ i = .int .i64 k ∧ Below w.heap.size w wr) (fun i _ => xs.length - (intOf i).toNat)
 case atStart => exact ⟨0, Nat.zero_le _, rfl, bR _ _⟩
 case round =>
  obtain ⟨k, hk, rfl, hbw⟩ := hrel
  by_cases hlt : k < xs.length
  ·obtain ⟨b, off, rfl, hbl, hc1⟩ := HA.out.at_ (by omega)
   obtain ⟨b', off', rfl, hbl', hc2⟩ := HB.out.at_ (by omega)
   have h1 := (hbw.cell (p := ⟨b, off + k, none⟩) hbl).trans (hc1 k hlt)
   have h2 := (hbw.cell (p := ⟨b', off' + k, none⟩) hbl').trans (hc2 k hlt)
   have hlt' : (k : Int) < (xs.length : Int) := by omega
   clear hc1 hc2
   have HBW := lh hbw
   clear hbw
   go_wp2
   go_quiet (fail)
   go_wp2
   go_roundw
   case rel => exact ⟨k + 1, by omega, by go_num, below_drewN HBW.out _⟩
   case measure => simp [intOf]; omega
  ·go_wp2
   go_ret
   exact ⟨rfl, hbw⟩
theorem dsame_no (w : World) (A B : Option Addr) (c d : Nat) (xs ys : List Nat) (ha : Num w A xs) (hb : Num w B ys) (hn : xs.length ≤ 1099511627776) (hl : xs.length = ys.length) (hne : xs ≠ ys) :
  Calls tz 100 #[.slice A xs.length c, .slice B xs.length d] w (RetB w false) := by
 have HA := lh ha
 have HB := lh hb
 have HL := lh hl
 have HN := lh hne
 clear ha hb hl hne
 go_enter Tryz.func100, Tryz.ntmps100
 go_wp2
 go_loopw [5] (fun i wr => ∃ k : Nat, k ≤ xs.length ∧ i = .int .i64 k ∧ Below w.heap.size w wr ∧ Hid (∀ j, j < k → dg xs j = dg ys j)) (fun i _ => xs.length - (intOf i).toNat)
 case atStart => exact ⟨0, Nat.zero_le _, rfl, bR _ _, fun j hj => absurd hj (Nat.not_lt_zero j)⟩
 case round =>
  obtain ⟨k, hk, rfl, hbw, HK⟩ := hrel
  by_cases hlt : k < xs.length
  ·obtain ⟨b, off, rfl, hbl, hc1⟩ := HA.out.at_ (by omega)
   obtain ⟨b', off', rfl, hbl', hc2⟩ := HB.out.at_ (by have := HL.out; omega)
   have h1 := (hbw.cell (p := ⟨b, off + k, none⟩) hbl).trans (hc1 k hlt)
   have h2 := (hbw.cell (p := ⟨b', off' + k, none⟩) hbl').trans (hc2 k (by have := HL.out; omega))
   have hlt' : (k : Int) < (xs.length : Int) := by omega
   clear hc1 hc2
   have HBW := lh hbw
   clear hbw
   obtain ⟨x, hx⟩ : ∃ x : Int, ((dg xs k : Nat) : Int) = x := ⟨_, rfl⟩
   obtain ⟨y, hy⟩ : ∃ y : Int, ((dg ys k : Nat) : Int) = y := ⟨_, rfl⟩
   rw [hx] at h1
   rw [hy] at h2
   by_cases hxy : x = y
   ·have HE : Hid (dg xs k = dg ys k) := by show _ = _; omega
    have b1 : (x == y) = true := beq_iff_eq.2 hxy
    have b2 : (x != y) = false := by rw [hxy]; exact bne_self_eq_false _
    clear hx hy hxy
    go_wp2
    go_quiet (fail)
    go_wp2
    go_roundw
    case rel =>
     refine ⟨k + 1, by omega, by go_num, below_drewN HBW.out _, fun j hj => ?_⟩
     rcases Nat.lt_or_ge j k with h | h
     ·exact HK.out j h
     ·rw [show j = k by omega]; exact HE.out
    case measure => simp [intOf]; omega
   ·have b1 : (x == y) = false := beq_eq_false_iff_ne.2 hxy
    have b2 : (x != y) = true := bne_iff_ne.2 hxy
    clear hx hy hxy
    go_wp2
    go_quiet (fail)
    go_wp2
    go_ret
    exact ⟨rfl, below_drewN HBW.out _⟩
  ·exact absurd (ext_dg HL.out (fun j hj => HK.out j (by omega))) HN.out
theorem dsame_len (w : World) (A B : Option Addr) (n c m d : Nat) (hl : n ≠ m) :
  Calls tz 100 #[.slice A n c, .slice B m d] w (RetB w false) := by
 have b1 : ((n : Int) == (m : Int)) = false := beq_eq_false_iff_ne.2 (by omega)
 have b2 : ((n : Int) != (m : Int)) = true := bne_iff_ne.2 (by omega)
 clear hl
 go_enter Tryz.func100, Tryz.ntmps100
 go_wp2
 go_ret
 exact ⟨rfl, bR _ _⟩
theorem samew_d {w : World} {A B : Option Addr} {n c m d : Nat} {xs ys : List Nat} (ha : Num w A xs) (hb : Num w B ys) (hn : n = xs.length) (hm : m = ys.length) (hl : n ≤ 1000000) (v : Bool) (hv : decide (xs = ys) = v) :
  Calls tz 100 #[.slice A n c, .slice B m d] w (RetB w v) := by
 subst hn hm hv
 by_cases h : xs = ys
 ·subst h
  rw [decide_eq_true rfl]
  exact dsame_yes w A B c d xs ha hb (by omega)
 ·rw [decide_eq_false h]
  by_cases h2 : xs.length = ys.length
  ·have h3 := dsame_no w A B c d xs ys ha hb (by omega) h2 h
   rw [h2] at h3 ⊢
   exact h3
  ·exact dsame_len w A B _ c _ d h2
