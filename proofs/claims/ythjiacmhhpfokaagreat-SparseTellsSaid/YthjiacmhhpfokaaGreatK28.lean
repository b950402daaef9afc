/- Part 28 of the proof: WDm1, WTellsZ, PLow. -/
import Derived.Test.YthjiacmhhpfokaaGreatK27
namespace Go.Proofs.YthjiacmhhpfokaaGreat
open Lib renaming hid → lh
open Go.Proofs.Tryz renaming prog → tz
open Nat renaming le_trans → lT
namespace W
open Go.RowKit
theorem dm_len {y z q r : Int} (hr : r = y - q * z) (hlt : r.natAbs < z.natAbs) (h1 : (dig y.natAbs).length ≤ 3000) (h2 : (dig z.natAbs).length ≤ 3000) :
  (dig (q * z).natAbs).length ≤ 6001 ∧ (dig q.natAbs).length ≤ 6001 ∧ (dig r.natAbs).length ≤ 3000 := by
 have h3 : (dig (y.natAbs + z.natAbs)).length ≤ 6001 := by have := dl_add y.natAbs z.natAbs; omega
 have h4 : (q * z).natAbs ≤ y.natAbs + z.natAbs := by omega
 have h5 : q.natAbs ≤ (q * z).natAbs := by
  rw [Int.natAbs_mul]
  exact Nat.le_mul_of_pos_right _ (by omega)
 exact ⟨lT (dl_le h4) h3, lT (dl_le (lT h5 h4)) h3, lT (dl_le (Nat.le_of_lt hlt)) h2⟩
theorem mul_at (w : World) (t : Bool) (B Aq : Option Addr) (d cq : Nat) (ys : List Nat) (z q p : Int) (hy : zv t (val ys) = z) (hm : ys.length ≤ 3000) (hd : ys.length ≤ d) (hl : (dig q.natAbs).length ≤ 6001) (hcq : (dig q.natAbs).length ≤ cq) (hp : q * z = p) (h1 : Num w Aq (dig q.natAbs)) (h2 : Num w B ys) :
  Calls tz 145 #[.agg #[.bool (zneg q), .slice Aq (dig q.natAbs).length cq], .agg #[.bool t, .slice B ys.length d]] w (RetZ w p) :=
 mul_any w (zneg q) t Aq B cq d (dig q.natAbs) ys q z h1 h2 (by rw [val_dig]; exact zv_zneg q) hy (by omega) (by omega) hcq hd p hp
theorem sub_at (w : World) (s : Bool) (A A3 : Option Addr) (c c3 : Nat) (xs : List Nat) (y p r : Int) (hx : zv s (val xs) = y) (hn : xs.length ≤ 3000) (hl : (dig p.natAbs).length ≤ 6001) (hr : y - p = r) (h1 : Num w A xs) (h2 : Num w A3 (dig p.natAbs)) :
  Calls tz 212 #[.agg #[.bool s, .slice A xs.length c], .agg #[.bool (zneg p), .slice A3 (dig p.natAbs).length c3]] w (RetZ w r) :=
 sub_any w s (zneg p) A A3 c c3 xs (dig p.natAbs) y p h1 h2 hx (by rw [val_dig]; exact zv_zneg p) (by omega) (by omega) r hr
set_option maxRecDepth 100000 in
set_option maxHeartbeats 16000000 in
theorem divmod_pos (w : World) (s t : Bool) (A B : Option Addr) (c d : Nat) (xs ys : List Nat) (y z : Int) (ha : Num w A xs) (hb : Num w B ys) (hx : zv s (val xs) = y) (hy : zv t (val ys) = z) (hn : xs.length ≤ 3000) (hm : ys.length ≤ 3000) (hc : xs.length ≤ c) (hd : ys.length ≤ d) (hz : z ≠ 0) :
  Calls tz 181 #[.agg #[.bool s, .slice A xs.length c], .agg #[.bool t, .slice B ys.length d]] w (RetZZ w (y / z) (zrem y z)) := by
 obtain ⟨sg, hsg⟩ : ∃ k, z.sign = k := ⟨_, rfl⟩
 have HSG := lh (fun W h => sign_any W t B d ys z h hy (by omega))
 rw [hsg] at HSG
 have hsg0 : (sg == 0) = false := by
  rw [beq_eq_false_iff_ne, ← hsg]; exact fun h => hz (Int.sign_eq_zero_iff_zero.1 h)
 obtain ⟨a, hva⟩ : ∃ a, val xs = a := ⟨_, rfl⟩
 obtain ⟨b, hvb⟩ : ∃ b, val ys = b := ⟨_, rfl⟩
 have hza : z.natAbs = b := by rw [← hy, zv_natAbs, hvb]
 have hb0 : b ≠ 0 := by omega
 have hly : (dig y.natAbs).length ≤ 3000 := by rw [← hx, zv_natAbs]; exact lT (dig_length_val ha.1) hn
 have hlz : (dig z.natAbs).length ≤ 3000 := by rw [← hy, zv_natAbs]; exact lT (dig_length_val hb.1) hm
 obtain ⟨x0, hx0⟩ : ∃ x, dmq a b = x := ⟨_, rfl⟩
 obtain ⟨x1, hx1⟩ : ∃ x, dmr a b = x := ⟨_, rfl⟩
 have hlx : (dig x0).length ≤ 3000 := by
  rw [← hx0]
  have h1 := dl_dmq a b
  have h2 := dig_length_val ha.1
  rw [hva] at h2
  omega
 have HDV := lh (fun W h1 h2 => edm_n W A B c d xs ys a b h1 h2 hva hvb (by omega) (by omega) hc hd x0 x1 hx0 hx1)
 obtain ⟨q0, hq0⟩ : ∃ q, zv (s != t) x0 = q := ⟨_, rfl⟩
 have HMK := lh (fun W A3 c3 h => make_any W (s != t) A3 c3 (dig x0) q0 h (by rw [val_dig]; exact hq0) (by omega))
 obtain ⟨r0, hr0⟩ : ∃ r, r = y - q0 * z := ⟨_, rfl⟩
 have hlt0 : r0.natAbs < z.natAbs := by
  have h := dm_first s t a b hb0
  rw [hr0, hza, ← hq0, ← hx0, ← hx, ← hy, hva, hvb]
  exact h
 obtain ⟨hlp0, hlq0, hlr0⟩ := dm_len hr0 hlt0 hly hlz
 have HR0 := lh hr0
 have HLT0 := lh hlt0
 have HX := lh hx
 have HY := lh hy
 have HA := lh ha
 have HB := lh hb
 have HZ := lh hz
 have HLY := lh hly
 have HLZ := lh hlz
 have HSGN := lh hsg
 have HDM : Hid (Dm w ((((w.alloc (.cells #[.bool s, .slice A xs.length c] 25)).alloc (.cells #[.bool t, .slice B ys.length d] 25)).alloc (.cells #[.bool false, .slice none 0 0] 25)).alloc (.cells #[.bool false, .slice none 0 0] 25)) s t A B xs.length ys.length c d) := ⟨((C4.base w _ _ _ _ _ _).alloc _).alloc _, (Ibx.new' _ _ _ _ _ _ (by simp)).alloc _, Ibx.new' _ _ _ _ _ _ (by simp), ((((Below.refl _ _).alloc (Nat.le_refl _) _).alloc (by simp) _).alloc (by simp; omega) _).alloc (by simp; omega) _, by simp⟩
 obtain ⟨k0, k1, k2, k3⟩ := HDM.out.c4
 clear ha hb hx hy hz hr0 hlt0 hly hlz hq0 hx0 hx1 hza hb0 hsg hva hvb hlr0
 go_enter Tryz.func181, Tryz.ntmps181
 go_wp2_with fail
 refine (HSG.out _ (HB.out.below HDM.out.bel)).mono ?_
 rintro e w1 ⟨rfl, hb1⟩
 have HD1 := lh (HDM.out.below hb1)
 clear hb1 HDM k0 k1 k2 k3
 obtain ⟨k0, k1, k2, k3⟩ := HD1.out.c4
 go_wp2_with fail
 refine (HDV.out w1 (HA.out.below HD1.out.bel) (HB.out.below HD1.out.bel)).mono ?_
 rintro e w2 ⟨Ax, cx, Ax2, cx2, rfl, hcx, hcx2, hnx, -, hb2⟩
 have HD2 := lh (HD1.out.below hb2)
 have HNX := lh hnx
 clear hb2 HD1 k0 k1 k2 k3 hnx
 obtain ⟨k0, k1, k2, k3⟩ := HD2.out.c4
 go_upto_region 4 with fail
 go_cut [8] (fun s8 wx => ∃ (gq : Nat) (Aq : Option Addr) (cq : Nat), s8 = .pointer (some ⟨gq, 0, none⟩) ∧ w.heap.size + 1 + 1 + 1 < gq ∧ Dm w wx s t A B xs.length ys.length c d ∧ Bz wx gq q0 Aq cq)
 case first =>
  go_wp2_with fail
  refine (HMK.out w2 Ax cx HNX.out).mono ?_
  rintro e w5 ⟨Aq, cq, rfl, hcq, nq, hb5⟩
  have HD5 := lh (HD2.out.below hb5)
  have HNQ := lh nq
  clear hb5 nq
  go_wp2_with fail
  go_meet
  exact ⟨w5.heap.size, Aq, cq, rfl, HD5.out.sz, HD5.out.alloc _, ⟨Ibx.new' _ _ _ _ _ _ rfl, HNQ.out.alloc _, hcq⟩⟩
 case rest =>
  obtain ⟨gq, Aq, cq, rfl, hgq, hD, hQ⟩ := hcut
  clear HD2 HNX k0 k1 k2 k3 HDV HMK HSG
  have HD := lh hD
  have HBq := lh hQ
  have HK0 : Hid (K3 w.heap.size (w.heap.size + 1) gq (.bool s) (.slice A xs.length c) (.bool t) (.slice B ys.length d) (.bool (zneg q0)) (.slice Aq (dig q0.natAbs).length cq) wc) := K3.of ⟨hD.c4.1, hD.c4.2.1⟩ ⟨hD.c4.2.2.1, hD.c4.2.2.2⟩ ⟨hQ.i.c0, hQ.i.c1⟩
  have HKx := lh HK0.out
  have HNq := lh hQ.n
  have HNa := lh (HA.out.below hD.bel)
  have HNb := lh (HB.out.below hD.bel)
  have hgw := hQ.i.lt
  have hcq := hQ.l
  obtain ⟨p0, hp0⟩ : ∃ p, q0 * z = p := ⟨_, rfl⟩
  rw [hp0] at hlp0
  have HMUL := lh (fun W h1 h2 => mul_at W t B Aq d cq ys z q0 p0 HY.out hm hd hlq0 hcq hp0 h1 h2)
  have HSUB := lh (fun W A3 c3 h1 h2 => sub_at W s A A3 c c3 xs y p0 r0 HX.out hn hlp0 (by rw [HR0.out, hp0]) h1 h2)
  clear hD hQ hp0 hlp0 hlq0
  go_upto_region 5 with fail
  go_cut [9] (fun s9 wx => ∃ (gr : Nat) (Ar : Option Addr) (cr : Nat), s9 = .pointer (some ⟨gr, 0, none⟩) ∧ w.heap.size + 1 + 1 + 1 < gr ∧ gr ≠ gq ∧ Dm w wx s t A B xs.length ys.length c d ∧ Bz wx gq q0 Aq cq ∧ Bz wx gr r0 Ar cr)
  case first =>
   go_region_held3 (fun W => W.cell? ⟨w.heap.size, 0, none⟩ = some (.bool s) ∧ W.cell? ⟨w.heap.size, 1, none⟩ = some (.slice A xs.length c) ∧ W.cell? ⟨w.heap.size + 1, 0, none⟩ = some (.bool t) ∧ W.cell? ⟨w.heap.size + 1, 1, none⟩ = some (.slice B ys.length d) ∧ W.cell? ⟨gq, 0, none⟩ = some (.bool (zneg q0)) ∧ W.cell? ⟨gq, 1, none⟩ = some (.slice Aq (dig (q0).natAbs).length cq))
    (repeat (first | (with_reducible exact s6_of HKx.out) | (with_reducible refine s6_drew ?_) | (with_reducible refine s6_alloc ?_ _) | (with_reducible refine s6_far (by omega) (by omega) (by omega) _ ?_)))
    (first
    | (go_at_call 212; refine (HSUB.out _ A3 c3 ?_ ?_).mono ?_; (repeat (first | exact HNa3.out | exact HN3.out | (with_reducible refine Num.drew ?_) | (with_reducible refine Num.alloc ?_ _))); rintro e w4 ⟨A4, c4, rfl, hc4, nn4, hb4⟩; have HT4 : Hid (Below wc.heap.size wc w4) := (by first | exact below_on HT3.out hb4 | exact below_on HT3.out (below_al hb4)); have HKx := lh (K3.below HT4.out HK0.out); have hs4 : wc.heap.size ≤ w4.heap.size := HT4.out.size; (first | (have I4 : Ibx w4 wc.heap.size false none 0 0 := I3.below hb4; have c0 := I4.c0; have c1' := I4.c1; have f0 := I4.f 0; have f1 := I4.f 1) | (have I4 : Ibx w4 w3.heap.size false none 0 0 := (Ibx.new' w3 false none 0 0 _ rfl).below hb4; have c0 := I4.c0; have c1' := I4.c1; have f0 := I4.f 0; have f1 := I4.f 1) | skip))
    | (go_at_call 145; refine (HMUL.out _ ?_ ?_).mono ?_; (repeat (first | exact HNq.out | exact HNb.out | (with_reducible refine Num.drew ?_) | (with_reducible refine Num.alloc ?_ _))); rintro e w3 ⟨A3, c3, rfl, hc3, nn3, hb3⟩; have HT3 : Hid (Below wc.heap.size wc w3) := (by first | exact bdrew hb3 | exact below_ad hb3); have HKx := lh (K3.below HT3.out HK0.out); have HN3 := lh nn3; have HNa3 := lh (HNa.out.below HT3.out); have hs3 := HT3.out.size; have hs3' : wc.heap.size ≤ w3.heap.size := hs3; try (have I3 : Ibx w3 wc.heap.size false none 0 0 := (Ibx.new' wc false none 0 0 _ rfl).drew.below hb3)))
   all_goals
    go_wp2_with fail
    go_meet
    first
     | exact ⟨wc.heap.size, A4, c4, rfl, HD.out.sz, by omega, (HD.out.below HT4.out).set2 HD.out.sz _ _, (HBq.out.below HT4.out).other I4 (by omega) _ _, Bz.put I4 nn4 hc4⟩
     | exact ⟨w3.heap.size, A4, c4, rfl, by have := HD.out.sz; omega, by omega, (HD.out.below HT4.out).set2 (by have := HD.out.sz; omega) _ _, (HBq.out.below HT4.out).other I4 (by omega) _ _, Bz.put I4 nn4 hc4⟩
     | exact ⟨w4.heap.size, A4, c4, rfl, by have := HD.out.sz; omega, by omega, (HD.out.below HT4.out).alloc _, (HBq.out.below HT4.out).alloc _, ⟨Ibx.new' _ _ _ _ _ _ rfl, nn4.alloc _, hc4⟩⟩
     | exact ⟨w4.heap.size, A4, c4, rfl, by have := HD.out.sz; omega, by omega, ((HD.out.below HT4.out).alloc _).set2 (by have := HD.out.sz; omega) _ _, ((HBq.out.below HT4.out).alloc _).other (Ibx.new' w4 false none 0 0 _ rfl) (by omega) _ _, Bz.put (Ibx.new' w4 false none 0 0 _ rfl) (nn4.alloc _) hc4⟩
  case rest =>
   obtain ⟨gr, Ar, cr, rfl, hgr, hne, hD, hQ, hR⟩ := hcut
   clear HD HBq HK0 HKx HNq HNa HNb hgw hcq HMUL HSUB
   have HD := lh hD
   have HBq := lh hQ
   have HBr := lh hR
   clear hD hQ hR
   obtain ⟨one, hone⟩ : ∃ k : Int, (1 : Int) = k := ⟨_, rfl⟩
   have HO1 : Hid (∀ W, Calls tz 139 #[.int .i64 1] W (RetZ W one)) := by intro W; rw [← hone]; exact of_any W 1 (by omega) (by omega)
   have hl1 : (dig one.natAbs).length ≤ 7000 := lT (dig_length_le (k := 1) (by rw [B64_eq]; omega)) (by omega)
   have HONE := lh hone
   clear hone
   go_upto_block 0 with fail
   go_cut [8] (fun s8 wx => ∃ (q r : Int) (Aq : Option Addr) (cq : Nat) (Ar : Option Addr) (cr : Nat), s8 = .pointer (some ⟨gq, 0, none⟩) ∧ Hid (r = y - q * z) ∧ Hid (r.natAbs < z.natAbs) ∧ Hid (0 ≤ r) ∧ Hid (Dm w wx s t A B xs.length ys.length c d) ∧ Hid (Bz wx gq q Aq cq) ∧ Hid (Bz wx gr r Ar cr))
   case first =>
    go_wp2_with fail
    go_loopg [] 1 (fun G wx => ∃ (q r : Int) (Aq : Option Addr) (cq : Nat) (Ar : Option Addr) (cr : Nat), Hid (r = y - q * z) ∧ Hid (r.natAbs < z.natAbs) ∧ Hid (0 ≤ r ∨ G = 1) ∧ Hid (Dm w wx s t A B xs.length ys.length c d) ∧ Hid (Bz wx gq q Aq cq) ∧ Hid (Bz wx gr r Ar cr))
    case atStart => exact ⟨q0, r0, Aq, cq, Ar, cr, HR0.out, HLT0.out, .inr rfl, HD.out, HBq.out, HBr.out⟩
    case round =>
     clear HD HBq HBr
     obtain ⟨q, r, Aq, cq, Ar, cr, hr, hlt, h01, HD, HBq, HBr⟩ := hrel
     obtain ⟨hlp, hlq, hlr⟩ := dm_len hr.out hlt.out HLY.out HLZ.out
     have HSR := lh (sign_any wr (zneg r) Ar cr (dig r.natAbs) r HBr.out.n (by rw [val_dig]; exact zv_zneg r) (by omega))
     obtain ⟨k, hk⟩ : ∃ k, r.sign = k := ⟨_, rfl⟩
     rw [hk] at HSR
     have e0 := HBr.out.i.c0
     have e1 := HBr.out.i.c1
     by_cases hneg : r < 0
     ·have hk0 : k < 0 := by rw [← hk]; exact Int.sign_neg_iff.2 hneg
      have dk0 : decide (k < 0) = true := decide_eq_true hk0
      have HG : Hid (0 < gk) := by
       show _ < _
       rcases h01.out with h | h
       ·omega
       ·omega
      have HNEG := lh hneg
      clear hk hneg h01
      go_wp2_with fail
      refine HSR.out.mono ?_
      rintro e w6 ⟨rfl, hb6⟩
      have HD6 := lh (HD.out.below hb6)
      have HQ6 := lh (HBq.out.below hb6)
      have HR6 := lh (HBr.out.below hb6)
      clear hb6 HD HBq HBr e0 e1
      obtain ⟨k0, k1, k2, k3⟩ := HD6.out.c4
      have HSB := lh (sign_any w6 t B d ys z (HB.out.below HD6.out.bel) HY.out (by omega))
      rw [HSGN.out] at HSB
      go_wp2_with fail
      refine HSB.out.mono ?_
      rintro e w7 ⟨rfl, hb7⟩
      have HD7 := lh (HD6.out.below hb7)
      have HQ7 := lh (HQ6.out.below hb7)
      have HR7 := lh (HR6.out.below hb7)
      clear hb7 HD6 HQ6 HR6 k0 k1 k2 k3
      have e0 := HQ7.out.i.c0
      have e1 := HQ7.out.i.c1
      have HNQ7 := lh HQ7.out.n
      go_upto_if 40 with fail
      go_cut [8] (fun s8 wx => ∃ (q' : Int) (Aq' : Option Addr) (cq' : Nat), s8 = .pointer (some ⟨gq, 0, none⟩) ∧ Hid (q' = if 0 < z then q - 1 else q + 1) ∧ Hid (Dm w wx s t A B xs.length ys.length c d) ∧ Hid (Bz wx gq q' Aq' cq') ∧ Hid (Bz wx gr r Ar cr))
      case first =>
       by_cases hzp : 0 < z
       ·have hsp : 0 < sg := by rw [← HSGN.out]; exact Int.sign_pos_iff.2 hzp
        have dsp : decide (0 < sg) = true := decide_eq_true hsp
        obtain ⟨q', hq'⟩ : ∃ q', q - one = q' := ⟨_, rfl⟩
        have HQE : Hid (q' = if 0 < z then q - 1 else q + 1) := by show _ = _; rw [if_pos hzp, ← hq', ← HONE.out]
        have HST := lh (fun W A1 c1 h1 h2 => sub_any W (zneg q) (zneg one) Aq A1 cq c1 (dig q.natAbs) (dig one.natAbs) q one h1 h2 (by rw [val_dig]; exact zv_zneg q) (by rw [val_dig]; exact zv_zneg one) (by omega) (by omega) q' hq')
        clear hzp hq'
        go_wp2_with fail
        go_region_with (first
         | (go_at_call 139; refine (HO1.out _).mono ?_; rintro e w8 ⟨A1, c1, rfl, hc1, nn1, hb8⟩; have HT8 := lh (bdrew hb8); have HN1 := lh nn1; have HQ8 := lh (HQ7.out.below HT8.out); have u0 := HQ8.out.i.c0; have u1 := HQ8.out.i.c1)
         | (go_at_call 212; refine (HST.out w8 A1 c1 HQ8.out.n HN1.out).mono ?_; rintro e w9 ⟨A2, c2, rfl, hc2, nn2, hb9⟩; have HT9 := lh (below_on HT8.out hb9); have I9 := (HQ7.out.below HT9.out).i; have v0 := I9.c0; have v1 := I9.c1; have f0 := I9.f 0; have f1 := I9.f 1))
        all_goals
         go_wp2_with fail
         go_meet
         exact ⟨q', A2, c2, rfl, HQE, (HD7.out.below HT9.out).set2 hgq _ _, Bz.put I9 nn2 hc2, (HR7.out.below HT9.out).other I9 hne _ _⟩
       ·have hsp : ¬ 0 < sg := by rw [← HSGN.out]; exact fun h => hzp (Int.sign_pos_iff.1 h)
        have dsp : decide (0 < sg) = false := decide_eq_false hsp
        obtain ⟨q', hq'⟩ : ∃ q', q + one = q' := ⟨_, rfl⟩
        have HQE : Hid (q' = if 0 < z then q - 1 else q + 1) := by show _ = _; rw [if_neg hzp, ← hq', ← HONE.out]
        have HST := lh (fun W A1 c1 h1 h2 => add_any W (zneg q) (zneg one) Aq A1 cq c1 (dig q.natAbs) (dig one.natAbs) q one h1 h2 (by rw [val_dig]; exact zv_zneg q) (by rw [val_dig]; exact zv_zneg one) (by omega) (by omega) q' hq')
        clear hzp hq'
        go_wp2_with fail
        go_region_with (first
         | (go_at_call 139; refine (HO1.out _).mono ?_; rintro e w8 ⟨A1, c1, rfl, hc1, nn1, hb8⟩; have HT8 := lh (bdrew hb8); have HN1 := lh nn1; have HQ8 := lh (HQ7.out.below HT8.out); have u0 := HQ8.out.i.c0; have u1 := HQ8.out.i.c1)
         | (go_at_call 144; refine (HST.out w8 A1 c1 HQ8.out.n HN1.out).mono ?_; rintro e w9 ⟨A2, c2, rfl, hc2, nn2, hb9⟩; have HT9 := lh (below_on HT8.out hb9); have I9 := (HQ7.out.below HT9.out).i; have v0 := I9.c0; have v1 := I9.c1; have f0 := I9.f 0; have f1 := I9.f 1))
        all_goals
         go_wp2_with fail
         go_meet
         exact ⟨q', A2, c2, rfl, HQE, (HD7.out.below HT9.out).set2 hgq _ _, Bz.put I9 nn2 hc2, (HR7.out.below HT9.out).other I9 hne _ _⟩
      case rest =>
       obtain ⟨q', Aq', cq', rfl, hqe, HD, HBq, HBr⟩ := hcut
       clear HD7 HQ7 HR7 e0 e1 HNQ7
       obtain ⟨r', hr'⟩ : ∃ r', r' = y - q' * z := ⟨_, rfl⟩
       obtain ⟨h0', hlt'⟩ := dm_round hr.out HNEG.out hlt.out hqe.out hr'
       have hlens := dm_len hr' hlt' HLY.out HLZ.out
       have HK0 : Hid (K3 w.heap.size (w.heap.size + 1) gq (.bool s) (.slice A xs.length c) (.bool t) (.slice B ys.length d) (.bool (zneg q')) (.slice Aq' (dig q'.natAbs).length cq') wc) := K3.of ⟨HD.out.c4.1, HD.out.c4.2.1⟩ ⟨HD.out.c4.2.2.1, HD.out.c4.2.2.2⟩ ⟨HBq.out.i.c0, HBq.out.i.c1⟩
       have HKx := lh HK0.out
       have HNq := lh HBq.out.n
       have HNa := lh (HA.out.below HD.out.bel)
       have HNb := lh (HB.out.below HD.out.bel)
       have hcq := HBq.out.l
       obtain ⟨p0, hp0⟩ : ∃ p, q' * z = p := ⟨_, rfl⟩
       rw [hp0] at hlens
       have HMUL := lh (fun W h1 h2 => mul_at W t B Aq' d cq' ys z q' p0 HY.out hm hd hlens.2.1 hcq hp0 h1 h2)
       have HSUB := lh (fun W A3 c3 h1 h2 => sub_at W s A A3 c c3 xs y p0 r' HX.out hn hlens.1 (by rw [hr', hp0]) h1 h2)
       have HR' := lh hr'
       have HLT' := lh hlt'
       have H0' := lh h0'
       have hgqr : gq ≠ gr := fun h => hne h.symm
       have hq1 : w.heap.size ≠ gr := by omega
       have hq2 : w.heap.size + 1 ≠ gr := by omega
       clear hp0 hlens hr' hlt' h0' hlp hlq hlr
       go_wp2_with fail
       go_region_held3 (fun W => W.cell? ⟨w.heap.size, 0, none⟩ = some (.bool s) ∧ W.cell? ⟨w.heap.size, 1, none⟩ = some (.slice A xs.length c) ∧ W.cell? ⟨w.heap.size + 1, 0, none⟩ = some (.bool t) ∧ W.cell? ⟨w.heap.size + 1, 1, none⟩ = some (.slice B ys.length d) ∧ W.cell? ⟨gq, 0, none⟩ = some (.bool (zneg q')) ∧ W.cell? ⟨gq, 1, none⟩ = some (.slice Aq' (dig (q').natAbs).length cq'))
        (repeat (first | (with_reducible exact s6_of HKx.out) | (with_reducible refine s6_drew ?_) | (with_reducible refine s6_alloc ?_ _) | (with_reducible refine s6_far (by omega) (by omega) (by omega) _ ?_)))
        (first
        | (go_at_call 212; refine (HSUB.out _ A3 c3 ?_ ?_).mono ?_; (repeat (first | exact HNa3.out | exact HN3.out | (with_reducible refine Num.drew ?_) | (with_reducible refine Num.alloc ?_ _))); rintro e w4 ⟨A4, c4, rfl, hc4, nn4, hb4⟩; have HT4 : Hid (Below wc.heap.size wc w4) := (by first | exact below_on HT3.out hb4 | exact below_on HT3.out (below_al hb4)); have HKx := lh (K3.below HT4.out HK0.out); have hs4 : wc.heap.size ≤ w4.heap.size := HT4.out.size; have I4 := (HBr.out.below HT4.out).i; have c0 := I4.c0; have c1' := I4.c1; have f0 := I4.f 0; have f1 := I4.f 1)
        | (go_at_call 145; refine (HMUL.out _ ?_ ?_).mono ?_; (repeat (first | exact HNq.out | exact HNb.out | (with_reducible refine Num.drew ?_) | (with_reducible refine Num.alloc ?_ _))); rintro e w3 ⟨A3, c3, rfl, hc3, nn3, hb3⟩; have HT3 : Hid (Below wc.heap.size wc w3) := (by first | exact bdrew hb3 | exact below_ad hb3); have HKx := lh (K3.below HT3.out HK0.out); have HN3 := lh nn3; have HNa3 := lh (HNa.out.below HT3.out); have hs3 := HT3.out.size; have hs3' : wc.heap.size ≤ w3.heap.size := hs3; try (have I3 : Ibx w3 wc.heap.size false none 0 0 := (Ibx.new' wc false none 0 0 _ rfl).drew.below hb3)))
       all_goals
        go_wp2_with fail
        go_roundg 0
        case measure => exact HG.out
        case rel => exact ⟨q', r', Aq', cq', A4, c4, HR'.out, HLT'.out, .inl H0'.out, (HD.out.below HT4.out).set2 hgr _ _, (HBq.out.below HT4.out).other I4 hgqr _ _, Bz.put I4 nn4 hc4⟩
     ·have hk0 : ¬ k < 0 := by rw [← hk]; exact fun h => hneg (Int.sign_neg_iff.1 h)
      have dk0 : decide (k < 0) = false := decide_eq_false hk0
      have H0 : Hid (0 ≤ r) := by show _ ≤ _; omega
      clear hk hneg h01
      go_wp2_with fail
      refine HSR.out.mono ?_
      rintro e w6 ⟨rfl, hb6⟩
      have HD6 := lh (HD.out.below hb6)
      have HQ6 := lh (HBq.out.below hb6)
      have HR6 := lh (HBr.out.below hb6)
      clear hb6 HD HBq HBr e0 e1
      go_wp2_with fail
      go_meet
      exact ⟨q, r, Aq, cq, Ar, cr, rfl, hr, hlt, H0, HD6.out, HQ6.out, HR6.out⟩
   case rest =>
    clear HD HBq HBr
    obtain ⟨q, r, Aq, cq, Ar, cr, rfl, hr, hlt, h0, HD, HBq, HBr⟩ := hcut
    have HE := lh (dm_end HZ.out hr.out h0.out hlt.out)
    have e0 := HBq.out.i.c0
    have e1 := HBq.out.i.c1
    have e2 := HBr.out.i.c0
    have e3 := HBr.out.i.c1
    have c0 := HD.out.i1.c0
    have c1' := HD.out.i1.c1
    have f0 := HD.out.i1.f 0
    have f1 := HD.out.i1.f 1
    have d0 := HD.out.i2.c0
    have d1 := HD.out.i2.c1
    have g0 := HD.out.i2.f 0
    have g1 := HD.out.i2.f 1
    have n1 : gr ≠ w.heap.size + 1 + 1 := by omega
    have n2 : gq ≠ w.heap.size + 1 + 1 := by omega
    go_wp2_with fail
    go_region
    all_goals
     go_wp2_with fail
     have hi2 : Ibx ((wc.setCell ⟨w.heap.size + 1 + 1, 0, none⟩ (.bool (zneg q))).setCell ⟨w.heap.size + 1 + 1, 1, none⟩ (.slice Aq (dig q.natAbs).length cq)) (w.heap.size + 1 + 1 + 1) false none 0 0 := (HD.out.i2.far (show w.heap.size + 1 + 1 + 1 ≠ w.heap.size + 1 + 1 by omega) _).far (show w.heap.size + 1 + 1 + 1 ≠ w.heap.size + 1 + 1 by omega) _
     refine bodyPost_ret (v := .tuple #[.agg #[.bool (zneg q), .slice Aq (dig q.natAbs).length cq], .agg #[.bool (zneg r), .slice Ar (dig r.natAbs).length cr]]) (by simp [results, Tryz.results181, go_sem, c0, c1', d0, d1]) rfl ?_
     rw [← HE.out.1, ← HE.out.2]
     exact ⟨Aq, cq, Ar, cr, rfl, HBq.out.l, HBr.out.l, ((HBq.out.n.two HD.out.i1 _ _).two hi2 _ _).drew, ((HBr.out.n.two HD.out.i1 _ _).two hi2 _ _).drew, ((((HD.out.bel.setCell (show w.heap.size ≤ w.heap.size + 1 + 1 by omega) _).setCell (show w.heap.size ≤ w.heap.size + 1 + 1 by omega) _).setCell (show w.heap.size ≤ w.heap.size + 1 + 1 + 1 by omega) _).setCell (show w.heap.size ≤ w.heap.size + 1 + 1 + 1 by omega) _).drew⟩
end W

section
open Go.RowKit
section
variable (w : World) (s t : Bool) (A B : Option Addr) (c d : Nat) (xs ys : List Nat) (y z : Int) (ha : Num w A xs) (hb : Num w B ys) (hx : zv s (val xs) = y) (hy : zv t (val ys) = z) (hn : xs.length ≤ 3000) (hm : ys.length ≤ 3000) (hc : xs.length ≤ c) (hd : ys.length ≤ d)
include ha hb hx hy hn hm hc hd
theorem wadd_z (r : Int) (hr : y + z = r) : Calls tz 144 #[.agg #[.bool s, .slice A xs.length c], .agg #[.bool t, .slice B ys.length d]] w (RetZ w r) := (fun _ _ => W.add_any w s t A B c d xs ys y z ha hb hx hy (by omega) (by omega) r hr) hc hd
theorem wmul_z (r : Int) (hr : y * z = r) : Calls tz 145 #[.agg #[.bool s, .slice A xs.length c], .agg #[.bool t, .slice B ys.length d]] w (RetZ w r) := W.mul_any w s t A B c d xs ys y z ha hb hx hy (by omega) (by omega) hc hd r hr
theorem wgcd_z (r : Int) (hr : ((Nat.gcd y.natAbs z.natAbs : Nat) : Int) = r) : Calls tz 180 #[.agg #[.bool s, .slice A xs.length c], .agg #[.bool t, .slice B ys.length d]] w (RetZ w r) := W.gcd_any w s t A B c d xs ys y z ha hb hx hy (by omega) (by omega) hc hd r hr
theorem wcmp_z (r : Int) (hr : zcmp y z = r) : Calls tz 182 #[.agg #[.bool s, .slice A xs.length c], .agg #[.bool t, .slice B ys.length d]] w (RetI w r) := (fun _ _ => W.cmp_any w s t A B c d xs ys y z ha hb hx hy (by omega) (by omega) r hr) hc hd
theorem wdivmod_z (q r : Int) (hq : y / z = q) (hr : zrem y z = r) : Calls tz 181 #[.agg #[.bool s, .slice A xs.length c], .agg #[.bool t, .slice B ys.length d]] w (RetZZ w q r) := by
 subst hq
 subst hr
 by_cases h0 : z = 0
 ·have h := W.divmod_zero w s t A B c d xs ys z hb hy hm h0
  rw [h0, Int.ediv_zero, show zrem y 0 = 0 from if_pos rfl]
  exact h
 ·exact W.divmod_pos w s t A B c d xs ys y z ha hb hx hy hn hm hc hd h0
end
section
variable (w : World) (s : Bool) (A : Option Addr) (c : Nat) (xs : List Nat) (z : Int) (ha : Num w A xs) (hx : zv s (val xs) = z) (hn : xs.length ≤ 3000) (hc : xs.length ≤ c)
include ha hx hn hc
theorem wnorm_z (r : Int) (hr : z = r) : Calls tz 179 #[.agg #[.bool s, .slice A xs.length c]] w (RetZ w r) := (fun _ => W.norm_any w s A c xs z ha hx (by omega) r hr) hc
theorem wneg_z (r : Int) (hr : -z = r) : Calls tz 176 #[.agg #[.bool s, .slice A xs.length c]] w (RetZ w r) := (fun _ => W.neg_any w s A c xs z ha hx (by omega) r hr) hc
theorem wsign_z (r : Int) (hr : z.sign = r) : Calls tz 164 #[.agg #[.bool s, .slice A xs.length c]] w (RetI w r) := by subst hr; exact (fun _ => W.sign_any w s A c xs z ha hx (by omega)) hc
end
theorem wof_z (w : World) (n r : Int) (hr : n = r) (h1 : -9223372036854775808 ≤ r) (h2 : r ≤ 9223372036854775807) : Calls tz 139 #[.int .i64 n] w (RetZ w r) := by subst hr; exact W.of_any w n h1 h2
section
variable {p q r o m n : Nat} {v1 v2 v3 v4 v5 v6 u1 u2 u3 u4 u5 u6 : Value} {W W' : World}
theorem K4.d (h : K4 p q r o v1 v2 v3 v4 v5 v6 u1 u2 W) : C2 o u1 u2 W := ⟨h.2.2.2.2.2.2.1, h.2.2.2.2.2.2.2⟩
end
end

namespace Q.P
open Go.RowKit
section
variable {w : World} {s t : Bool} {A B : Option Addr} {n c m d k : Nat} {y z : Int}
theorem add_j (h1 : IsZ w s A n c y k) (h2 : IsZ w t B m d z k) (hk : k ≤ 3000) (r : Int) (hr : y + z = r) : Calls tz 144 #[.agg #[.bool s, .slice A n c], .agg #[.bool t, .slice B m d]] w (RetJ w r) := by
 obtain ⟨xs, rfl, ha, hx⟩ := h1.ex
 obtain ⟨ys, rfl, hb, hy⟩ := h2.ex
 exact (wadd_z w s t A B c d xs ys y z ha hb hx hy (by have := h1.le; omega) (by have := h2.le; omega) h1.cap h2.cap r hr).mono fun _ _ => retj_of
theorem mul_j (h1 : IsZ w s A n c y k) (h2 : IsZ w t B m d z k) (hk : k ≤ 3000) (r : Int) (hr : y * z = r) : Calls tz 145 #[.agg #[.bool s, .slice A n c], .agg #[.bool t, .slice B m d]] w (RetJ w r) := by
 obtain ⟨xs, rfl, ha, hx⟩ := h1.ex
 obtain ⟨ys, rfl, hb, hy⟩ := h2.ex
 exact (wmul_z w s t A B c d xs ys y z ha hb hx hy (by have := h1.le; omega) (by have := h2.le; omega) h1.cap h2.cap r hr).mono fun _ _ => retj_of
theorem gcd_j (h1 : IsZ w s A n c y k) (h2 : IsZ w t B m d z k) (hk : k ≤ 3000) (r : Int) (hr : ((Nat.gcd y.natAbs z.natAbs : Nat) : Int) = r) : Calls tz 180 #[.agg #[.bool s, .slice A n c], .agg #[.bool t, .slice B m d]] w (RetJ w r) := by
 obtain ⟨xs, rfl, ha, hx⟩ := h1.ex
 obtain ⟨ys, rfl, hb, hy⟩ := h2.ex
 exact (wgcd_z w s t A B c d xs ys y z ha hb hx hy (by have := h1.le; omega) (by have := h2.le; omega) h1.cap h2.cap r hr).mono fun _ _ => retj_of
theorem cmp_j (h1 : IsZ w s A n c y k) (h2 : IsZ w t B m d z k) (hk : k ≤ 3000) (r : Int) (hr : zcmp y z = r) : Calls tz 182 #[.agg #[.bool s, .slice A n c], .agg #[.bool t, .slice B m d]] w (RetI w r) := by
 obtain ⟨xs, rfl, ha, hx⟩ := h1.ex
 obtain ⟨ys, rfl, hb, hy⟩ := h2.ex
 exact wcmp_z w s t A B c d xs ys y z ha hb hx hy (by have := h1.le; omega) (by have := h2.le; omega) h1.cap h2.cap r hr
theorem divmod_j (h1 : IsZ w s A n c y k) (h2 : IsZ w t B m d z k) (hk : k ≤ 3000) (q r : Int) (hq : y / z = q) (hr : zrem y z = r) : Calls tz 181 #[.agg #[.bool s, .slice A n c], .agg #[.bool t, .slice B m d]] w (RetJJ w q r) := by
 obtain ⟨xs, rfl, ha, hx⟩ := h1.ex
 obtain ⟨ys, rfl, hb, hy⟩ := h2.ex
 refine (wdivmod_z w s t A B c d xs ys y z ha hb hx hy (by have := h1.le; omega) (by have := h2.le; omega) h1.cap h2.cap q r hq hr).mono ?_
 rintro e w' ⟨A1, c1, B1, d1, rfl, hc, hd, h3, h4, h5⟩
 exact ⟨_, _, _, _, _, _, _, _, rfl, ⟨rfl, rfl, h3, hc⟩, ⟨rfl, rfl, h4, hd⟩, h5⟩
theorem norm_j (h1 : IsZ w s A n c y k) (hk : k ≤ 3000) : Calls tz 179 #[.agg #[.bool s, .slice A n c]] w (RetJ w y) := by
 obtain ⟨xs, rfl, ha, hx⟩ := h1.ex
 exact (wnorm_z w s A c xs y ha hx (by have := h1.le; omega) h1.cap _ rfl).mono fun _ _ => retj_of
theorem neg_j (h1 : IsZ w s A n c y k) (hk : k ≤ 3000) (r : Int) (hr : -y = r) : Calls tz 176 #[.agg #[.bool s, .slice A n c]] w (RetJ w r) := by
 obtain ⟨xs, rfl, ha, hx⟩ := h1.ex
 exact (wneg_z w s A c xs y ha hx (by have := h1.le; omega) h1.cap r hr).mono fun _ _ => retj_of
theorem sign_j (h1 : IsZ w s A n c y k) (hk : k ≤ 3000) (r : Int) (hr : y.sign = r) : Calls tz 164 #[.agg #[.bool s, .slice A n c]] w (RetI w r) := by
 obtain ⟨xs, rfl, ha, hx⟩ := h1.ex
 exact wsign_z w s A c xs y ha hx (by have := h1.le; omega) h1.cap _ hr
end
theorem of_j (w : World) (z r : Int) (hr : z = r) (h1 : -9223372036854775808 ≤ r) (h2 : r ≤ 9223372036854775807) : Calls tz 139 #[.int .i64 z] w (RetJ w r) := (wof_z w z r hr h1 h2).mono fun _ _ => retj_of
set_option maxRecDepth 100000 in
set_option maxHeartbeats 2000000 in
theorem lowest_q {w : World} {s t : Bool} {A B : Option Addr} {n c m d k : Nat} {y z : Int} {q : Rat} (h1 : IsZ w s A n c y k) (h2 : IsZ w t B m d z k) (hk : 1 ≤ k) (hk2 : k ≤ 3000) (hzp : 0 < z) (hq : Rat.divInt y z = q) :
  Calls tz 143 #[.agg #[.bool s, .slice A n c], .agg #[.bool t, .slice B m d]] w (RetQ w q) := by
 have HS := lh (SQ.start w s A n c t B m d)
 have HA := lh (((h1.alloc (.cells #[.bool s, .slice A n c] 25)).alloc (.cells #[.bool t, .slice B m d] 25)).alloc (.cells #[.bool false, .slice none 0 0, .bool false, .slice none 0 0] 27))
 have HB := lh (((h2.alloc (.cells #[.bool s, .slice A n c] 25)).alloc (.cells #[.bool t, .slice B m d] 25)).alloc (.cells #[.bool false, .slice none 0 0, .bool false, .slice none 0 0] 27))
 have hly := h1.zl
 have hlz := h2.zl
 have hlow := low (n := y) hzp
 have hgl : zl (((Nat.gcd y.natAbs z.natAbs : Nat) : Int)) ≤ k := by
  refine lT ?_ hlz
  unfold zl
  rw [Int.natAbs_natCast]
  exact dl_le (Nat.gcd_le_right _ (by omega))
 obtain ⟨g, hg⟩ : ∃ g : Int, ((Nat.gcd y.natAbs z.natAbs : Nat) : Int) = g := ⟨_, rfl⟩
 rw [hq, hg] at hlow
 rw [hg] at hgl
 have hle := low_le (n := y) hzp
 rw [hq] at hle
 have HDL : Hid (zl (q.den : Int) ≤ k) := by show _ ≤ _; rw [den_zl]; exact lT (dl_le hle.2) hlz
 obtain ⟨one, hone⟩ : ∃ one : Int, (1 : Int) = one := ⟨_, rfl⟩
 have HOB : Hid (one = 1) := hone.symm
 have HOL : Hid (zl one ≤ k) := by show _ ≤ _; rw [← hone]; exact lT (zl_small (by omega) (by omega)) hk
 have HONE := lh hone
 have HG := lh hg
 have HGL := lh hgl
 have HN := lh hlow.1
 have HD := lh hlow.2
 clear h1 h2 hly hlz hlow hgl hg hle hq hone
 go_enter Tryz.func143, Tryz.ntmps143
 go_wp2_with fail
 refine (gcd_j HA.out HB.out hk2 g HG.out).mono ?_
 rintro e w1 ⟨sg, Ag, ng, cg, rfl, h1, hb1⟩
 have HS1 := lh (HS.out.below hb1)
 have HA1 := lh (HA.out.below hb1)
 have HB1 := lh (HB.out.below hb1)
 have H1 := lh (h1.isz HGL.out)
 have HLW : Hid (w.heap.size + 1 + 1 < w1.heap.size) := HS1.out.o.lt
 clear h1 hb1 HS HA HB
 obtain ⟨W, hW⟩ : ∃ W, w1.alloc (.cells #[.bool sg, .slice Ag ng cg] 25) = W := ⟨_, rfl⟩
 have HG2 : Hid (Ibx W w1.heap.size sg Ag ng cg) := by rw [← hW]; exact Ibx.new' _ _ _ _ _ _ rfl
 have HS2 : Hid (SQ w W s A n c t B m d) := by rw [← hW]; exact HS1.out.alloc _
 have HA2 : Hid (IsZ W s A n c y k) := by rw [← hW]; exact HA1.out.alloc _
 have HB2 : Hid (IsZ W t B m d z k) := by rw [← hW]; exact HB1.out.alloc _
 have HO2 : Hid (IsZ W sg Ag ng cg g k) := by rw [← hW]; exact H1.out.alloc _
 clear HS1 HA1 HB1 H1
 have k0 := HS2.out.i1.c0
 have k1 := HS2.out.i1.c1
 have g0 := HG2.out.c0
 have g1 := HG2.out.c1
 go_wp2_with fail
 refine (divmod_j HA2.out HO2.out hk2 q.num _ HN.out rfl).mono ?_
 rintro e w3 ⟨s3, A3, n3, c3, sr, Ar, nr, cr, rfl, h3, hr3, hb3⟩
 clear hW k0 k1 g0 g1
 have HS3 := lh (HS2.out.below hb3)
 have HG3 := lh (HG2.out.below hb3)
 have HB3 := lh (HB2.out.below hb3)
 have HO3 := lh (HO2.out.below hb3)
 have HN3 := lh h3
 clear h3 hr3 hb3 HS2 HG2 HA2 HB2 HO2
 obtain ⟨V, hV⟩ : ∃ V, (w3.setCell ⟨w.heap.size, 0, none⟩ (.bool s3)).setCell ⟨w.heap.size, 1, none⟩ (.slice A3 n3 c3) = V := ⟨_, rfl⟩
 have HS4 : Hid (SQ w V s3 A3 n3 c3 t B m d) := by rw [← hV]; exact HS3.out.fst
 have HG4 : Hid (Ibx V w1.heap.size sg Ag ng cg) := by rw [← hV]; exact HG3.out.put_far (by have := HLW.out; omega)
 have HB4 : Hid (IsZ V t B m d z k) := by rw [← hV]; exact HB3.out.on2 HS3.out.i1.bx
 have HO4 : Hid (IsZ V sg Ag ng cg g k) := by rw [← hV]; exact HO3.out.on2 HS3.out.i1.bx
 have HN4 : Hid (OneZ V s3 A3 n3 c3 q.num) := by rw [← hV]; exact HN3.out.on2 HS3.out.i1.bx
 have j0 := HS3.out.i1.c0
 have j1 := HS3.out.i1.c1
 have f0 := HS3.out.i1.f 0
 have f1 := HS3.out.i1.f 1
 have k0 := HS4.out.i2.c0
 have k1 := HS4.out.i2.c1
 have g0 := HG4.out.c0
 have g1 := HG4.out.c1
 go_wp2_with fail
 refine (divmod_j HB4.out HO4.out hk2 (q.den : Int) _ HD.out rfl).mono ?_
 rintro e w5 ⟨s5, A5, n5, c5, sr, Ar, nr, cr, rfl, h5, hr5, hb5⟩
 clear hV j0 j1 f0 f1 k0 k1 g0 g1
 have HS5 := lh (HS4.out.below hb5)
 have HN5 := lh (HN4.out.below hb5)
 have HD5 := lh h5
 clear h5 hr5 hb5 HS3 HG3 HB3 HO3 HN3 HS4 HG4 HB4 HO4 HN4
 obtain ⟨U, hU⟩ : ∃ U, (w5.setCell ⟨w.heap.size + 1, 0, none⟩ (.bool s5)).setCell ⟨w.heap.size + 1, 1, none⟩ (.slice A5 n5 c5) = U := ⟨_, rfl⟩
 have HS6 : Hid (SQ w U s3 A3 n3 c3 s5 A5 n5 c5) := by rw [← hU]; exact HS5.out.snd
 have HN6 : Hid (OneZ U s3 A3 n3 c3 q.num) := by rw [← hU]; exact HN5.out.on2 HS5.out.i2.bx
 have HD6 : Hid (OneZ U s5 A5 n5 c5 (q.den : Int)) := by rw [← hU]; exact HD5.out.on2 HS5.out.i2.bx
 have j0 := HS5.out.i2.c0
 have j1 := HS5.out.i2.c1
 have f0 := HS5.out.i2.f 0
 have f1 := HS5.out.i2.f 1
 obtain ⟨kc, hkc⟩ : ∃ kc, zcmp (q.den : Int) one = kc := ⟨_, rfl⟩
 have HKC := lh hkc
 go_upto_region 4 with fail
 clear hU HS5 HN5 HD5 j0 j1 f0 f1
 have hdn := q.den_nz
 by_cases hd1 : q.den = 1
 ·have b1 : (kc == 0) = true := by rw [← hkc, hd1, HOB.out]; rfl
  clear hkc hdn
  go_region_held3 (fun V => V.cell? ⟨w.heap.size + 1, 0, none⟩ = some (.bool s5) ∧ V.cell? ⟨w.heap.size + 1, 1, none⟩ = some (.slice A5 n5 c5))
   (first | (with_reducible exact ⟨HS8.out.i2.c0, HS8.out.i2.c1⟩) | (with_reducible exact ⟨HS7.out.i2.c0, HS7.out.i2.c1⟩) | (with_reducible exact ⟨HS6.out.drew.i2.c0, HS6.out.drew.i2.c1⟩))
   (first
   | (go_at_call 182; (with_reducible refine (cmp_j (HD7.out.isz HDL.out) (HO7.out.isz HOL.out) hk2 kc HKC.out).mono ?_); rintro e w8 ⟨rfl, hb8⟩; have HS8 := lh (HS7.out.below hb8); have HN8 := lh (HN7.out.below hb8); have HD8 := lh (HD7.out.below hb8))
   | (go_at_call 139; (with_reducible refine (of_j _ 1 one HONE.out (by have := HOB.out; omega) (by have := HOB.out; omega)).mono ?_); rintro e w7 ⟨s7, A7, n7, c7, rfl, h7, hb7⟩; have HS7 := lh (HS6.out.drew.below hb7); have HN7 := lh (HN6.out.drew.below hb7); have HD7 := lh (HD6.out.drew.below hb7); have HO7 := lh h7))
  all_goals
   have k0 := HS8.out.i1.c0
   have k1 := HS8.out.i1.c1
   have k2 := HS8.out.i2.c0
   have k3 := HS8.out.i2.c1
   have f0 := HS8.out.i2.f 0
   have f1 := HS8.out.i2.f 1
   have o0 := HS8.out.o.c0
   have o1 := HS8.out.o.c1
   have o2 := HS8.out.o.c2
   have o3 := HS8.out.o.c3
   have p0 := HS8.out.o.f 0
   have p1 := HS8.out.o.f 1
   have p2 := HS8.out.o.f 2
   have p3 := HS8.out.o.f 3
   go_wp2_with fail
   refine bodyPost_ret (v := .agg #[.bool s3, .slice A3 n3 c3, .bool false, .slice none 0 0]) (by simp [results, Tryz.results143, go_sem, o0, o1, o2, o3]) rfl ?_
   exact retq_put (oneq_one (HN8.out.on2 HS8.out.i2.bx) hd1 0) HS8.out.snd.o (by omega) HS8.out.snd.bel
 ·have b1 : (kc == 0) = false := by
   rw [beq_eq_false_iff_ne, ← hkc, HOB.out]
   unfold zcmp
   split
   ·omega
   ·split <;> omega
  clear hkc hdn
  go_region_held3 (fun V => V.cell? ⟨w.heap.size + 1, 0, none⟩ = some (.bool s5) ∧ V.cell? ⟨w.heap.size + 1, 1, none⟩ = some (.slice A5 n5 c5))
   (first | (with_reducible exact ⟨HS8.out.i2.c0, HS8.out.i2.c1⟩) | (with_reducible exact ⟨HS7.out.i2.c0, HS7.out.i2.c1⟩) | (with_reducible exact ⟨HS6.out.drew.i2.c0, HS6.out.drew.i2.c1⟩))
   (first
   | (go_at_call 182; (with_reducible refine (cmp_j (HD7.out.isz HDL.out) (HO7.out.isz HOL.out) hk2 kc HKC.out).mono ?_); rintro e w8 ⟨rfl, hb8⟩; have HS8 := lh (HS7.out.below hb8); have HN8 := lh (HN7.out.below hb8); have HD8 := lh (HD7.out.below hb8))
   | (go_at_call 139; (with_reducible refine (of_j _ 1 one HONE.out (by have := HOB.out; omega) (by have := HOB.out; omega)).mono ?_); rintro e w7 ⟨s7, A7, n7, c7, rfl, h7, hb7⟩; have HS7 := lh (HS6.out.drew.below hb7); have HN7 := lh (HN6.out.drew.below hb7); have HD7 := lh (HD6.out.drew.below hb7); have HO7 := lh h7))
  all_goals
   have k0 := HS8.out.i1.c0
   have k1 := HS8.out.i1.c1
   have k2 := HS8.out.i2.c0
   have k3 := HS8.out.i2.c1
   have o0 := HS8.out.o.c0
   have o1 := HS8.out.o.c1
   have o2 := HS8.out.o.c2
   have o3 := HS8.out.o.c3
   have p0 := HS8.out.o.f 0
   have p1 := HS8.out.o.f 1
   have p2 := HS8.out.o.f 2
   have p3 := HS8.out.o.f 3
   go_wp2_with fail
   refine bodyPost_ret (v := .agg #[.bool s3, .slice A3 n3 c3, .bool s5, .slice A5 n5 c5]) (by simp [results, Tryz.results143, go_sem, o0, o1, o2, o3]) rfl ?_
   exact retq_put (oneq_of HN8.out HD8.out hd1) HS8.out.o (by omega) HS8.out.bel
