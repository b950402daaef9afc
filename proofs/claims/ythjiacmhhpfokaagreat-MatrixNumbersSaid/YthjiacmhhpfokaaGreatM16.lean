/- Part 16 of the proof: Leap2, Leap3, Foresee. -/
import Derived.Test.YthjiacmhhpfokaaGreatM15
namespace Go.Proofs.YthjiacmhhpfokaaGreat
open Lib renaming hid → lh
section
open Go.RowKit
set_option maxHeartbeats 1000000 in
theorem turned_at (w : World) (t l : Nat) :
  Calls Tryz.prog 240 #[.agg #[.int .u64 (t : Int), .int .u64 (l : Int)]] w fun e w' => e = .returned (.agg #[.int .u64 (l : Int), .int .u64 (t : Int)]) ∧
   w' = (w.alloc (.cells #[.int .u64 (t : Int), .int .u64 (l : Int)] 220)).alloc (.cells #[.int .u64 (l : Int), .int .u64 (t : Int)] 220) := by
 go_enter Tryz.func240, Tryz.ntmps240
 go_wp2
 exact bodyPost_ret (v := .agg #[.int .u64 (l : Int), .int .u64 (t : Int)]) (by simp [results, Tryz.results240, go_sem]) rfl ⟨rfl, rfl⟩
def Boxed (p t1 l1 t2 l2 : Nat) (W : World) : Prop :=
 W.cell? ⟨p, 0, none⟩ = some (.int .u64 (t1 : Int)) ∧ W.cell? ⟨p, 1, none⟩ = some (.int .u64 (l1 : Int)) ∧ W.cell? ⟨p + 1, 0, none⟩ = some (.int .u64 (t2 : Int)) ∧ W.cell? ⟨p + 1, 1, none⟩ = some (.int .u64 (l2 : Int))
theorem Boxed.alloc {p t1 l1 t2 l2 : Nat} {W : World} (o : Obj) (h : Boxed p t1 l1 t2 l2 W) : Boxed p t1 l1 t2 l2 (W.alloc o) := by
 obtain ⟨h1, h2, h3, h4⟩ := h
 refine ⟨?_, ?_, ?_, ?_⟩
 ·rw [World.cell?_alloc_some _ _ _ (by rw [h1]; rfl)]; exact h1
 ·rw [World.cell?_alloc_some _ _ _ (by rw [h2]; rfl)]; exact h2
 ·rw [World.cell?_alloc_some _ _ _ (by rw [h3]; rfl)]; exact h3
 ·rw [World.cell?_alloc_some _ _ _ (by rw [h4]; rfl)]; exact h4
theorem Boxed.drew {p t1 l1 t2 l2 : Nat} {W : World} (h : Boxed p t1 l1 t2 l2 W) : Boxed p t1 l1 t2 l2 W.drew := h
theorem Boxed.base (w : World) (t1 l1 t2 l2 : Nat) (T U : TypeId) : Boxed w.heap.size t1 l1 t2 l2 ((w.alloc (.cells #[.int .u64 (t1 : Int), .int .u64 (l1 : Int)] T)).alloc (.cells #[.int .u64 (t2 : Int), .int .u64 (l2 : Int)] U)) := by
 refine ⟨?_, ?_, ?_, ?_⟩ <;> simp [go_sem]
theorem Bl.alloc {w : World} {g t l o u b : Nat} (h : Bl w g t l o u b) (x : Obj) : Bl (w.alloc x) g t l o u b := by
 unfold Bl at h ⊢
 exact (Below.heap_alloc w x g (lt_of_block h)).trans h
theorem Bl.drew {w : World} {g t l o u b : Nat} (h : Bl w g t l o u b) : Bl w.drew g t l o u b := h
theorem Bl.new (w : World) (g t l : Nat) (hg : g = w.heap.size) : Bl (w.alloc (.cells #[.int .u64 (t : Int), .int .u64 (l : Int), .int .u64 0, .int .u64 0, .int .u64 0] 237)) g t l 0 0 0 := by
 subst hg; unfold Bl; rw [heap_alloc_new]; rfl
theorem size_al (w : World) (o : Obj) : (w.alloc o).heap.size = w.heap.size + 1  := by
 show (w.heap.push o).size = _
 simp
structure LeapAt (w : World) (t1 l1 t2 l2 p1 p2 : Nat) (W : World) : Prop where
 b1 : Bl W p1 t1 l1 0 0 0
 b2 : Bl W p2 l2 t2 0 0 0
 ne : p1 ≠ p2
 g1 : w.heap.size ≤ p1
 g2 : w.heap.size ≤ p2
 bel : Below w.heap.size w W
end

section
open Go.RowKit
structure LeapRel (B : Nat) (w : World) (ga gb p1 p2 t1 l1 t2 l2 n : Nat) (La Lb : List Nat) (wr : World) (i : Value) : Prop where
 ex : ∃ (k : Nat) (zs ys : List Nat) (o1 u1 b1 o2 u2 b2 : Nat), k ≤ n ∧ i = .int .i64 k ∧ Blend La Lb t1 l1 k zs o1 u1 b1 ∧ Blend Lb La l2 t2 k ys o2 u2 b2 ∧
  Blk wr ga (mid La 0 zs) ∧ Blk wr gb (mid Lb 0 ys) ∧ Bl wr p1 t1 l1 o1 u1 b1 ∧ Bl wr p2 l2 t2 o2 u2 b2
 bel : Below B w wr
theorem leap_step {B n k : Nat} {w wr : World} {ga gb p1 p2 t1 l1 t2 l2 o1 u1 b1 o2 u2 b2 : Nat} {La Lb zs ys : List Nat} (hlt : k < n) (hna : n ≤ La.length) (hnb : n ≤ Lb.length) (hab : ga ≠ gb)
  (e1 : p1 ≠ ga) (e2 : p1 ≠ gb) (e3 : p2 ≠ ga) (e4 : p2 ≠ gb) (hBa : B ≤ ga) (hBb : B ≤ gb) (h5 : Blend La Lb t1 l1 k zs o1 u1 b1) (h6 : Blend Lb La l2 t2 k ys o2 u2 b2) (hdA : Digs La) (hdB : Digs Lb)
  (h1 : t1 < B64) (h2 : l1 < B64) (h3 : t2 < B64) (h4 : l2 < B64) (m1 : Blk wr ga (mid La 0 zs)) (m2 : Blk wr gb (mid Lb 0 ys))
  (m3 : Bl wr p1 t1 l1 (hi (dg La k * t1 + o1)) (hi (dg Lb k * l1 + u1)) (sbo (lo (dg La k * t1 + o1)) (lo (dg Lb k * l1 + u1)) b1))
  (m4 : Bl wr p2 l2 t2 (hi (dg Lb k * l2 + o2)) (hi (dg La k * t2 + u2)) (sbo (lo (dg Lb k * l2 + o2)) (lo (dg La k * t2 + u2)) b2)) (hbel : Below B w wr) :
  LeapRel B w ga gb p1 p2 t1 l1 t2 l2 n La Lb ((wr.setCell ⟨ga, k, none⟩ (.int .u64 ((slo (lo (dg La k * t1 + o1)) (lo (dg Lb k * l1 + u1)) b1 : Nat) : Int))).setCell ⟨gb, k, none⟩ (.int .u64 ((slo (lo (dg Lb k * l2 + o2)) (lo (dg La k * t2 + u2)) b2 : Nat) : Int))) (.int .i64 ((k : Int) + 1)) := by
 refine ⟨⟨k + 1, _, _, _, _, _, _, _, _, hlt, by simp, blend_step h5 hdA hdB h1 h2, blend_step h6 hdB hdA h4 h3, ?_, ?_, ?_, ?_⟩, (hbel.setCell hBa _).setCell hBb _⟩
 ·have h := m1.set_ k (slo (lo (dg La k * t1 + o1)) (lo (dg Lb k * l1 + u1)) b1)
  have hs := mid_set (cs := La) (zs := zs) (off := 0) (by rw [h5.len]; omega) (slo (lo (dg La k * t1 + o1)) (lo (dg Lb k * l1 + u1)) b1)
  rw [h5.len, Nat.zero_add] at hs
  rw [hs] at h
  exact h.far hab _
 ·have h := (m2.far (p := ⟨ga, k, none⟩) (fun e => hab e.symm) (.int .u64 ((slo (lo (dg La k * t1 + o1)) (lo (dg Lb k * l1 + u1)) b1 : Nat) : Int))).set_ k (slo (lo (dg Lb k * l2 + o2)) (lo (dg La k * t2 + u2)) b2)
  have hs := mid_set (cs := Lb) (zs := ys) (off := 0) (by rw [h6.len]; omega) (slo (lo (dg Lb k * l2 + o2)) (lo (dg La k * t2 + u2)) b2)
  rw [h6.len, Nat.zero_add] at hs
  rwa [hs] at h
 ·exact (Below.heap_setCell _ _ _ _ e2).trans ((Below.heap_setCell _ _ _ _ e1).trans m3)
 ·exact (Below.heap_setCell _ _ _ _ e4).trans ((Below.heap_setCell _ _ _ _ e3).trans m4)
structure LeapMem (B : Nat) (w w' : World) (ga gb F G : Nat) (La Lb : List Nat) : Prop where
 ex : ∃ Xa Xb : List Nat, Blk w' ga Xa ∧ Blk w' gb Xb ∧ Digs Xa ∧ Digs Xb ∧ Xa.length = La.length ∧ Xb.length = Lb.length ∧
  (dig F).length ≤ La.length ∧ (dig G).length ≤ Lb.length ∧ Xa.take (dig F).length = dig F ∧ Xb.take (dig G).length = dig G
 bel : Below B w w'
theorem LeapMem.drew {B : Nat} {w w' : World} {ga gb F G : Nat} {La Lb : List Nat} (h : LeapMem B w w' ga gb F G La Lb) : LeapMem B w w'.drew ga gb F G La Lb := ⟨h.ex, h.bel.drew⟩
structure LeapPost (B : Nat) (w : World) (ga gb ca cb F G : Nat) (La Lb : List Nat) (e : Ending) (w' : World) : Prop where
 ret : ∃ A1 c1 A2 c2, e = .returned (.tuple #[.slice A1 (dig F).length c1, .slice A2 (dig G).length c2]) ∧ (dig F).length ≤ c1 ∧ (dig G).length ≤ c2 ∧
  (0 < (dig F).length → A1 = some ⟨ga, 0, none⟩ ∧ c1 = ca) ∧ (0 < (dig G).length → A2 = some ⟨gb, 0, none⟩ ∧ c2 = cb)
 mem : LeapMem B w w' ga gb F G La Lb
theorem mid_low {cs zs : List Nat} (hzd : Digs zs) : (mid cs 0 zs).take (dig (val zs)).length = dig (val zs) := by
 have h2 : (mid cs 0 zs).take (dig (val zs)).length = zs.take (dig (val zs)).length := by
  have h3 : ((mid cs 0 zs).take zs.length).take (dig (val zs)).length = zs.take (dig (val zs)).length := by rw [mid_take]
  rwa [List.take_take, Nat.min_eq_left (dig_length_val hzd)] at h3
 rw [h2]
 exact (dig_take_self hzd).symm
theorem leap_mem {B n : Nat} {w wr : World} {ga gb t1 l1 t2 l2 o1 u1 b1 o2 u2 b2 F G : Nat} {La Lb zs ys : List Nat} (hna : n ≤ La.length) (hnb : n ≤ Lb.length)
  (h5 : Blend La Lb t1 l1 n zs o1 u1 b1) (h6 : Blend Lb La l2 t2 n ys o2 u2 b2) (hdA : Digs La) (hdB : Digs Lb) (hz : val zs = F) (hy : val ys = G)
  (m1 : Blk wr ga (mid La 0 zs)) (m2 : Blk wr gb (mid Lb 0 ys)) (hbel : Below B w wr) : LeapMem B w wr ga gb F G La Lb := by
 subst hz hy
 have e1 := h5.len
 have e2 := h6.len
 have e3 := dig_length_val h5.digs
 have e4 := dig_length_val h6.digs
 exact ⟨⟨_, _, m1, m2, hdA.mid h5.digs 0, hdB.mid h6.digs 0, mid_length (by omega), mid_length (by omega), by omega, by omega, mid_low h5.digs, mid_low h6.digs⟩, hbel⟩
set_option maxRecDepth 100000 in
set_option maxHeartbeats 4000000 in
theorem leap_any (w : World) (B ga gb na nb ca cb n t1 l1 t2 l2 F G x1 y1 x2 y2 : Nat) (La Lb : List Nat) (ha : Blk w ga La) (hb : Blk w gb Lb) (hab : ga ≠ gb) (hBa : B ≤ ga) (hBb : B ≤ gb) (hdA : Digs La) (hdB : Digs Lb)
  (hna : n ≤ na) (hnb : n ≤ nb) (hLa : na ≤ La.length) (hLb : nb ≤ Lb.length) (hla : na ≤ ca) (hlb : nb ≤ cb) (hcap : n ≤ 1099511627776) (h1 : t1 < B64) (h2 : l1 < B64) (h3 : t2 < B64) (h4 : l2 < B64)
  (hF : val (Lb.take n) * l1 + F + B64 ^ n * x1 = val (La.take n) * t1 + B64 ^ n * y1) (hFn : F < B64 ^ n) (hG : val (La.take n) * t2 + G + B64 ^ n * x2 = val (Lb.take n) * l2 + B64 ^ n * y2) (hGn : G < B64 ^ n) :
  Calls Tryz.prog 239 #[.slice (some ⟨ga, 0, none⟩) na ca, .slice (some ⟨gb, 0, none⟩) nb cb, .agg #[.int .u64 (t1 : Int), .int .u64 (l1 : Int)], .agg #[.int .u64 (t2 : Int), .int .u64 (l2 : Int)], .int .i64 (n : Int)] w (LeapPost B w ga gb ca cb F G La Lb) := by
 have HT := lh (fun W : World => turned_at W t2 l2)
 have HA := lh ha
 have HB := lh hb
 clear ha hb
 go_enter Tryz.func239, Tryz.ntmps239
 go_upto_region 1 with fail
 go_cut [12, 13] (fun s12 s13 wx => ∃ p1 p2 : Nat, s12 = .pointer (some ⟨p1, 0, none⟩) ∧ s13 = .pointer (some ⟨p2, 0, none⟩) ∧ LeapAt w t1 l1 t2 l2 p1 p2 wx)
 case first =>
  go_region_held3 (fun W => W.cell? ⟨w.heap.size, 0, none⟩ = some (.int .u64 (t1 : Int)) ∧ W.cell? ⟨w.heap.size, 1, none⟩ = some (.int .u64 (l1 : Int)) ∧ W.cell? ⟨w.heap.size + 1, 0, none⟩ = some (.int .u64 (t2 : Int)) ∧ W.cell? ⟨w.heap.size + 1, 1, none⟩ = some (.int .u64 (l2 : Int)))
   (first | exact Boxed.alloc _ (by assumption) | exact Boxed.alloc _ (Boxed.alloc _ (by assumption)) | exact Boxed.drew (Boxed.alloc _ (Boxed.alloc _ (Boxed.alloc _ (Boxed.alloc _ (Boxed.base _ _ _ _ _ _ _))))) | exact Boxed.drew (Boxed.alloc _ (Boxed.alloc _ (Boxed.alloc _ (Boxed.base _ _ _ _ _ _ _)))) | go_keep)
   (first | (go_at_call 240; refine (HT.out _).mono ?_; rintro e w1 ⟨rfl, rfl⟩))
  all_goals
   go_wp2_with fail
   go_meet
   case rel =>
    refine ⟨_, _, rfl, rfl, ⟨?_, ?_, ?_, ?_, ?_, ?_⟩⟩
    ·refine Bl.drew ?_; repeat (first | exact Bl.new _ _ _ _ (by simp only [size_al]) | refine Bl.alloc ?_ _)
    ·refine Bl.drew ?_; repeat (first | exact Bl.new _ _ _ _ (by simp only [size_al]) | refine Bl.alloc ?_ _)
    ·omega
    ·omega
    ·omega
    ·refine Below.drew ?_; repeat (first | exact Below.refl _ _ | refine Below.alloc ?_ (by first | exact Nat.le_refl _ | (simp only [size_al]; omega)) _)
 case rest =>
  obtain ⟨p1, p2, rfl, rfl, hL⟩ := hcut
  have HL := lh hL
  clear hL
  have hga := HA.out.lt
  have hgb := HB.out.lt
  go_wp2_with fail
  go_loopw [23] (fun i wr => LeapRel B w ga gb p1 p2 t1 l1 t2 l2 n La Lb wr i) (fun i _ => n - (intOf i).toNat)
  case atStart =>
   refine ⟨⟨0, [], [], 0, 0, 0, 0, 0, 0, Nat.zero_le _, rfl, Blend.start _ _ _ _, Blend.start _ _ _ _, ?_, ?_, HL.out.b1, HL.out.b2⟩, HL.out.bel.mono (by omega)⟩
   ·rw [mid_nil]; exact HA.out.below HL.out.bel hga
   ·rw [mid_nil]; exact HB.out.below HL.out.bel hgb
  case round =>
   obtain ⟨⟨k, zs, ys, o1, u1, b1, o2, u2, b2, hk, rfl, h5, h6, m1, m2, m3, m4⟩, hbel⟩ := hrel
   by_cases hlt : k < n
   ·have hlt' : (k : Int) < (n : Int) := by omega
    have la1 : (k : Int) < (na : Int) := by omega
    have lb1 : (k : Int) < (nb : Int) := by omega
    have ca1 := m1.cell (i := k) (by rw [mid_length (by rw [h5.len]; omega)]; omega)
    have cb1 := m2.cell (i := k) (by rw [mid_length (by rw [h6.len]; omega)]; omega)
    rw [dg_mid_above (by rw [h5.len]; omega) (Nat.zero_le _)] at ca1
    rw [dg_mid_above (by rw [h6.len]; omega) (Nat.zero_le _)] at cb1
    have fa1 := m1.frozen k
    have fb1 := m2.frozen k
    have H5 := lh h5
    have H6 := lh h6
    have M1 := lh m1
    have M2 := lh m2
    have M3 := lh m3
    have M4 := lh m4
    have HBEL := lh hbel
    clear h5 h6 m1 m2 m3 m4 hbel
    go_wp2_with fail
    go_quiet (fail)
    have HN1 := lh (fun q => next_any (wr.drewN q) p1 t1 l1 o1 u1 b1 (dg La k) (dg Lb k) M3.out h1 h2 H5.out.ho H5.out.hu H5.out.hb (dg_lt hdA k) (dg_lt hdB k))
    have HN2 := lh (fun w2 h => next_any w2 p2 l2 t2 o2 u2 b2 (dg Lb k) (dg La k) h h4 h3 H6.out.ho H6.out.hu H6.out.hb (dg_lt hdB k) (dg_lt hdA k))
    have hp1 := HL.out.g1
    have hp2 := HL.out.g2
    have hpp := HL.out.ne
    go_wp2_with fail
    refine (HN1.out _).mono ?_
    rintro e w2 ⟨rfl, q1, hO1⟩
    have q2 : Bl w2 p2 l2 t2 o2 u2 b2 := (hO1.block p2 (fun e => hpp e.symm)).trans M4.out
    go_wp2_with fail
    refine (HN2.out _ q2).mono ?_
    rintro e w3 ⟨rfl, q3, hO2⟩
    have q4 : Bl w3 p1 t1 l1 _ _ _ := (hO2.block p1 hpp).trans q1
    have a2 := hO2.blk (hO1.blk (M1.out.drewN _) (by omega)) (g' := ga) (by omega)
    have b2' := hO2.blk (hO1.blk (M2.out.drewN _) (by omega)) (g' := gb) (by omega)
    have HBW : Hid (Below B w w3) := ((⟨HBEL.out.os, HBEL.out.tape, HBEL.out.output, HBEL.out.size, HBEL.out.block⟩ : Below B w (wr.drewN _)).trans (hO1.below (by omega))).trans (hO2.below (by omega))
    have ca2 := a2.cell (i := k) (by rw [mid_length (by rw [H5.out.len]; omega)]; omega)
    have cb2 := b2'.cell (i := k) (by rw [mid_length (by rw [H6.out.len]; omega)]; omega)
    have fa2 := a2.frozen k
    have fb2 := b2'.frozen k
    have HS := lh (leap_step hlt (by omega) (by omega) hab (by omega) (by omega) (by omega) (by omega) hBa hBb H5.out H6.out hdA hdB h1 h2 h3 h4 a2 b2' q4 q3 HBW.out)
    clear hO1 hO2 q1 q2 q3 q4 a2 b2'
    go_wp2_with fail
    go_roundw
    case rel => exact HS.out
    case measure => simp [intOf]; omega
   ·have hkn : k = n := by omega
    subst hkn
    have hz := blend_end h5 hF hFn
    have hy := blend_end h6 hG hGn
    have hca : (k : Int) ≤ (ca : Int) := by omega
    have hcb : (k : Int) ≤ (cb : Int) := by omega
    have hlz := h5.len
    have hly := h6.len
    have n1 : Num wr (some ⟨ga, 0, none⟩) zs := by
     have h := (m1.num (hdA.mid h5.digs 0)).take zs.length
     rwa [mid_take] at h
    have n2 : Num wr (some ⟨gb, 0, none⟩) ys := by
     have h := (m2.num (hdB.mid h6.digs 0)).take ys.length
     rwa [mid_take] at h
    have C1 := cut_at wr.drew _ ca zs n1.drew (by omega) (by omega)
    have C2 := cut_at wr.drew _ cb ys n2.drew (by omega) (by omega)
    rw [hz, hlz] at C1
    rw [hy, hly] at C2
    have HC1 := lh C1
    have HC2 := lh C2
    have HE : Hid (LeapMem B w wr ga gb F G La Lb) := leap_mem (by omega) (by omega) h5 h6 hdA hdB hz hy m1 m2 hbel
    clear h5 h6 m1 m2 m3 m4 hbel n1 n2 C1 C2 hz hy
    go_wp2_with fail
    go_region_with (first
     | (go_at_call 199; (with_reducible refine HC1.out.mono ?_); rintro e w4 ⟨A1, c1, rfl, hc1, ha1, rfl, hd1⟩)
     | (go_at_call 199; (with_reducible refine HC2.out.mono ?_); rintro e w4 ⟨A2, c2, rfl, hc2, ha2, rfl, hd2⟩))
    all_goals
     go_wp2_with fail
     go_ret2
     exact ⟨⟨A1, c1, A2, c2, rfl, hc1, hc2, hd1, hd2⟩, HE.out.drew⟩
end

section
open Go.RowKit
def Mix (w : World) (g u v : Nat) : Prop := w.heap[g]? = some (.cells #[.int .u64 (u : Int), .int .u64 (v : Int)] 220 (0, 0))
theorem Mix.c0 {w : World} {g u v : Nat} (h : Mix w g u v) : w.cell? ⟨g, 0, none⟩ = some (.int .u64 (u : Int)) := by
 unfold Mix at h
 rw [cell_of_row w g 0 _ _ _ h]; rfl
theorem Mix.c1 {w : World} {g u v : Nat} (h : Mix w g u v) : w.cell? ⟨g, 1, none⟩ = some (.int .u64 (v : Int)) := by
 unfold Mix at h
 rw [cell_of_row w g 1 _ _ _ h]; rfl
theorem Mix.f {w : World} {g u v : Nat} (h : Mix w g u v) (i : Nat) : w.frozen? ⟨g, i, none⟩ = false := frozen_of_row w g i _ _ h
theorem Mix.new (w : World) (u v : Nat) : Mix (w.alloc (.cells #[.int .u64 (u : Int), .int .u64 (v : Int)] 220)) w.heap.size u v := heap_alloc_new w _
theorem Mix.lt {w : World} {g u v : Nat} (h : Mix w g u v) : g < w.heap.size := lt_of_block h
theorem Mix.alloc {w : World} {g u v : Nat} (h : Mix w g u v) (o : Obj) : Mix (w.alloc o) g u v := (Below.heap_alloc w o g h.lt).trans h
theorem Mix.drewN {w : World} {g u v : Nat} (h : Mix w g u v) (n : Nat) : Mix (w.drewN n) g u v := h
theorem Mix.far {w : World} {g u v : Nat} (h : Mix w g u v) {p : Addr} (hp : g ≠ p.block) (x : Value) : Mix (w.setCell p x) g u v := (Below.heap_setCell w p x g hp).trans h
theorem Mix.two {w : World} {g u v : Nat} (h : Mix w g u v) (a b : Nat) : Mix ((w.setCell ⟨g, 0, none⟩ (.int .u64 (a : Int))).setCell ⟨g, 1, none⟩ (.int .u64 (b : Int))) g a b := by
 unfold Mix at h ⊢
 rw [heap_setCell_same _ g 1 _ _ _ (heap_setCell_same w g 0 _ _ _ h)]
 rfl
theorem Mix.new1_ (w : World) (u v : Nat) (o1 o2 o3 o4 : Obj) : Mix (((((w.alloc (.cells #[.int .u64 (u : Int), .int .u64 (v : Int)] 220)).alloc o1).alloc o2).alloc o3).alloc o4) (w.heap.size) u v := by
 have h := ((((Mix.new w u v).alloc o1).alloc o2).alloc o3).alloc o4
 exact h
theorem Mix.new2_ (w : World) (u v : Nat) (o1 o2 o3 o4 : Obj) : Mix (((((w.alloc o1).alloc (.cells #[.int .u64 (u : Int), .int .u64 (v : Int)] 220)).alloc o2).alloc o3).alloc o4) (w.heap.size + 1) u v := by
 have h := (((Mix.new ((w.alloc o1)) u v).alloc o2).alloc o3).alloc o4
 simpa using h
theorem Mix.new3_ (w : World) (u v : Nat) (o1 o2 o3 o4 : Obj) : Mix (((((w.alloc o1).alloc o2).alloc (.cells #[.int .u64 (u : Int), .int .u64 (v : Int)] 220)).alloc o3).alloc o4) (w.heap.size + 1 + 1) u v := by
 have h := ((Mix.new (((w.alloc o1).alloc o2)) u v).alloc o3).alloc o4
 simpa using h
theorem Mix.new4_ (w : World) (u v : Nat) (o1 o2 o3 o4 : Obj) : Mix (((((w.alloc o1).alloc o2).alloc o3).alloc (.cells #[.int .u64 (u : Int), .int .u64 (v : Int)] 220)).alloc o4) (w.heap.size + 1 + 1 + 1) u v := by
 have h := (Mix.new ((((w.alloc o1).alloc o2).alloc o3)) u v).alloc o4
 simpa using h
theorem Mix.new5_ (w : World) (u v : Nat) (o1 o2 o3 o4 : Obj) : Mix (((((w.alloc o1).alloc o2).alloc o3).alloc o4).alloc (.cells #[.int .u64 (u : Int), .int .u64 (v : Int)] 220)) (w.heap.size + 1 + 1 + 1 + 1) u v := by
 have h := Mix.new (((((w.alloc o1).alloc o2).alloc o3).alloc o4)) u v
 simpa using h
structure ForeRel (w wr : World) (A B x0 y0 H : Nat) (xv yv tv : Value) : Prop where
 ex : ∃ (u0 v0 u1 v1 u2 v2 x y : Nat) (t : Bool), xv = .int .u64 (x : Int) ∧ yv = .int .u64 (y : Int) ∧ tv = .bool t ∧ Fore A B x0 y0 H u0 v0 u1 v1 u2 v2 x y t ∧ u0 < B64 ∧ v0 < B64 ∧ u1 < B64 ∧ v1 < B64 ∧ u2 < B64 ∧ v2 < B64 ∧
  Mix wr (w.heap.size + 1 + 1) u0 v0 ∧ Mix wr (w.heap.size + 1 + 1 + 1) u1 v1 ∧ Mix wr (w.heap.size + 1 + 1 + 1 + 1) u2 v2 ∧ x < B64
 z0 : Mix wr w.heap.size 0 0
 z1 : Mix wr (w.heap.size + 1) 0 0
 below : Below w.heap.size w wr
theorem fore_mem {w wr : World} {A B x0 y0 H : Nat} {u0 v0 u1 v1 u2 v2 q x y : Nat} {t : Bool} (hx : y < B64) (l2 : u1 < B64) (l3 : v1 < B64) (l4 : u2 < B64) (l5 : v2 < B64) (b1 : u1 + q * u2 < B64) (b2 : v1 + q * v2 < B64)
  (hk : Fore A B x0 y0 H u1 v1 u2 v2 (u1 + q * u2) (v1 + q * v2) y (x % y) (!t)) (z0 : Mix wr w.heap.size 0 0) (z1 : Mix wr (w.heap.size + 1) 0 0)
  (m0 : Mix wr (w.heap.size + 1 + 1) u0 v0) (m1 : Mix wr (w.heap.size + 1 + 1 + 1) u1 v1) (m2 : Mix wr (w.heap.size + 1 + 1 + 1 + 1) u2 v2) (hbw : Below w.heap.size w wr) (n : Nat) :
  ForeRel w (((((((wr.drewN n).setCell ⟨w.heap.size + 1 + 1, 0, none⟩ (.int .u64 (u1 : Int))).setCell ⟨w.heap.size + 1 + 1, 1, none⟩ (.int .u64 (v1 : Int))).setCell ⟨w.heap.size + 1 + 1 + 1, 0, none⟩ (.int .u64 (u2 : Int))).setCell
   ⟨w.heap.size + 1 + 1 + 1, 1, none⟩ (.int .u64 (v2 : Int))).setCell ⟨w.heap.size + 1 + 1 + 1 + 1, 0, none⟩ (.int .u64 ((u1 + q * u2 : Nat) : Int))).setCell ⟨w.heap.size + 1 + 1 + 1 + 1, 1, none⟩ (.int .u64 ((v1 + q * v2 : Nat) : Int)))
   A B x0 y0 H (.int .u64 (y : Int)) (.int .u64 ((x % y : Nat) : Int)) (.bool (!t)) := by
 refine ⟨⟨u1, v1, u2, v2, u1 + q * u2, v1 + q * v2, y, x % y, !t, rfl, rfl, rfl, hk, l2, l3, l4, l5, b1, b2, ?_, ?_, ?_, hx⟩, ?_, ?_, ?_⟩
 ·exact (((((m0.drewN n).two u1 v1).far (by first | (simp; done) | (simp; omega)) _).far (by first | (simp; done) | (simp; omega)) _).far (by first | (simp; done) | (simp; omega)) _).far (by first | (simp; done) | (simp; omega)) _
 ·exact (((((m1.drewN n).far (by first | (simp; done) | (simp; omega)) _).far (by first | (simp; done) | (simp; omega)) _).two u2 v2).far (by first | (simp; done) | (simp; omega)) _).far (by first | (simp; done) | (simp; omega)) _
 ·exact (((((m2.drewN n).far (by first | (simp; done) | (simp; omega)) _).far (by first | (simp; done) | (simp; omega)) _).far (by first | (simp; done) | (simp; omega)) _).far (by first | (simp; done) | (simp; omega)) _).two _ _
 ·exact ((((((z0.drewN n).far (by first | (simp; done) | (simp; omega)) _).far (by first | (simp; done) | (simp; omega)) _).far (by first | (simp; done) | (simp; omega)) _).far (by first | (simp; done) | (simp; omega)) _).far (by first | (simp; done) | (simp; omega)) _).far (by first | (simp; done) | (simp; omega)) _
 ·exact ((((((z1.drewN n).far (by first | (simp; done) | (simp; omega)) _).far (by first | (simp; done) | (simp; omega)) _).far (by first | (simp; done) | (simp; omega)) _).far (by first | (simp; done) | (simp; omega)) _).far (by first | (simp; done) | (simp; omega)) _).far (by first | (simp; done) | (simp; omega)) _
 ·exact ((((((below_drewN hbw n).setCell (by first | (simp; done) | (simp; omega)) _).setCell (by first | (simp; done) | (simp; omega)) _).setCell (by first | (simp; done) | (simp; omega)) _).setCell (by first | (simp; done) | (simp; omega)) _).setCell (by first | (simp; done) | (simp; omega)) _).setCell (by first | (simp; done) | (simp; omega)) _
def ForePost (w : World) (A B : Nat) (e : Ending) (w' : World) : Prop :=
 ∃ (u0 v0 u1 v1 : Nat) (t : Bool), e = .returned (.tuple #[.agg #[.int .u64 (u0 : Int), .int .u64 (v0 : Int)], .agg #[.int .u64 (u1 : Int), .int .u64 (v1 : Int)], .bool t]) ∧ Foreseen A B u0 v0 u1 v1 t ∧ Below w.heap.size w w'
set_option maxHeartbeats 4000000 in
theorem foresee_any (w : World) (A B x0 y0 H : Nat) (h : Lead A B x0 y0 H) :
  Calls Tryz.prog 236 #[.int .u64 x0, .int .u64 y0] w (ForePost w A B) := by
 have HL := lh h
 clear h
 go_enter Tryz.func236, Tryz.ntmps236
 go_wp2_with fail
 go_loopw [0, 1, 10] (fun xv yv tv wr => ForeRel w wr A B x0 y0 H xv yv tv) (fun _ yv _ _ => (intOf yv).toNat)
 case atStart =>
  have hlt := HL.out.lt
  have hle := HL.out.le
  refine ⟨⟨0, 0, 1, 0, 0, 1, x0, y0, true, rfl, rfl, rfl, fore_start HL.out, B64_pos, B64_pos, by rw [B64_eq]; omega, B64_pos, B64_pos, by rw [B64_eq]; omega, ?_, ?_, ?_, hlt⟩, ?_, ?_, ?_⟩
  ·exact Mix.new3_ w _ _ _ _ _ _
  ·exact Mix.new4_ w _ _ _ _ _ _
  ·exact Mix.new5_ w _ _ _ _ _ _
  ·exact Mix.new1_ w _ _ _ _ _ _
  ·exact Mix.new2_ w _ _ _ _ _ _
  ·exact (((((Below.refl _ _).alloc (Nat.le_refl _) _).alloc (by simp) _).alloc (by first | (simp; done) | (simp; omega)) _).alloc (by first | (simp; done) | (simp; omega)) _).alloc (by first | (simp; done) | (simp; omega)) _
 case round =>
  obtain ⟨⟨u0, v0, u1, v1, u2, v2, x, y, t, rfl, rfl, rfl, hk, l0, l1, l2, l3, l4, l5, m0, m1, m2, hx⟩, z0, z1, hbw⟩ := hrel
  have HK := lh hk
  have HBW := lh hbw
  have c00 := m0.c0
  have c01 := m0.c1
  have c10 := m1.c0
  have c11 := m1.c1
  have c20 := m2.c0
  have c21 := m2.c1
  have f00 := m0.f 0
  have f01 := m0.f 1
  have f10 := m1.f 0
  have f11 := m1.f 1
  have f20 := m2.f 0
  have f21 := m2.f 1
  have hxy := hk.xy
  have hvp := hk.v2p
  by_cases g1 : v2 ≤ y
  ·have hsum := fore_sum HL.out hk g1
   have es1 : IntKind.u64.wrap ((v1 : Int) + (v2 : Int)) = (v1 : Int) + (v2 : Int) := u64_add' hsum
   have es2 : IntKind.u64.wrap ((x : Int) - (y : Int)) = ((x - y : Nat) : Int) := u64_sub (by omega) hx
   have g1' : (v2 : Int) ≤ (y : Int) := by omega
   by_cases g2 : v1 + v2 ≤ x - y
   ·obtain ⟨hn, b1, b2⟩ := fore_step HL.out hk g1 g2
    have HN := lh hn
    have g2' : (v1 : Int) + (v2 : Int) ≤ ((x - y : Nat) : Int) := by omega
    have hy1 : 1 ≤ (y : Int) := by omega
    have hy0 : ((y : Int) == 0) = false := by rw [beq_eq_false_iff_ne]; omega
    have hyn : ¬ (y : Int) = 0 := by omega
    have hq64 : x / y < B64 := Nat.lt_of_le_of_lt (Nat.div_le_self _ _) hx
    obtain ⟨q, hq⟩ : ∃ q, q = x / y := ⟨_, rfl⟩
    have eq0 : IntKind.u64.wrap ((x : Int) / (y : Int)) = (q : Int) := by
     rw [hq]
     exact u64_small (n := x / y) hq64
    rw [← hq] at b1 b2 HN hq64
    have em1 : IntKind.u64.wrap ((q : Int) * (u2 : Int)) = (q : Int) * (u2 : Int) := u64_mul (by omega)
    have em2 : IntKind.u64.wrap ((q : Int) * (v2 : Int)) = (q : Int) * (v2 : Int) := u64_mul (by omega)
    have ea1 : IntKind.u64.wrap ((u1 : Int) + (q : Int) * (u2 : Int)) = (u1 : Int) + (q : Int) * (u2 : Int) := by
     rw [← Int.natCast_mul]
     exact u64_add' (a := u1) (b := q * u2) b1
    have ea2 : IntKind.u64.wrap ((v1 : Int) + (q : Int) * (v2 : Int)) = (v1 : Int) + (q : Int) * (v2 : Int) := by
     rw [← Int.natCast_mul]
     exact u64_add' (a := v1) (b := q * v2) b2
    have HQ := lh hq
    have Z0 := lh z0
    have Z1 := lh z1
    have M0 := lh m0
    have M1 := lh m1
    have M2 := lh m2
    clear hk hbw hn hq z0 z1 m0 m1 m2
    go_wp2_with fail
    go_quiet (fail)
    go_wp2_with fail
    go_region
    have HS := fore_mem (Nat.lt_of_le_of_lt hxy hx) l2 l3 l4 l5 b1 b2 HN.out Z0.out Z1.out M0.out M1.out M2.out HBW.out (nq + 1)
    go_wp2_with fail
    go_roundw
    case rel => exact HS
    case measure =>
     have := Nat.mod_lt x (show y > 0 by omega)
     simp [intOf]; omega
   ·have g2' : ¬ (v1 : Int) + (v2 : Int) ≤ ((x - y : Nat) : Int) := by omega
    have HF := lh (fore_end hk l0 l1 l2 l3)
    have c30 := z0.c0
    have c31 := z0.c1
    have c40 := z1.c0
    have c41 := z1.c1
    have f30 := z0.f 0
    have f31 := z0.f 1
    have f40 := z1.f 0
    have f41 := z1.f 1
    clear hk hbw z0 z1 m0 m1 m2
    go_wp2_with fail
    go_region
    go_wp2_with fail
    refine bodyPost_ret (v := .tuple #[.agg #[.int .u64 (u0 : Int), .int .u64 (v0 : Int)], .agg #[.int .u64 (u1 : Int), .int .u64 (v1 : Int)], .bool t]) (by simp [results, Tryz.results236, go_sem, c30, c31, c40, c41]) rfl ⟨u0, v0, u1, v1, t, rfl, HF.out, ?_⟩
    exact (((((HBW.out.setCell (by simp) _).setCell (by simp) _).setCell (by simp) _).setCell (by simp) _).drew)
  ·have g1' : ¬ (v2 : Int) ≤ (y : Int) := by omega
   have HF := lh (fore_end hk l0 l1 l2 l3)
   have c30 := z0.c0
   have c31 := z0.c1
   have c40 := z1.c0
   have c41 := z1.c1
   have f30 := z0.f 0
   have f31 := z0.f 1
   have f40 := z1.f 0
   have f41 := z1.f 1
   clear hk hbw z0 z1 m0 m1 m2
   go_wp2_with fail
   go_region
   go_wp2_with fail
   refine bodyPost_ret (v := .tuple #[.agg #[.int .u64 (u0 : Int), .int .u64 (v0 : Int)], .agg #[.int .u64 (u1 : Int), .int .u64 (v1 : Int)], .bool t]) (by simp [results, Tryz.results236, go_sem, c30, c31, c40, c41]) rfl ⟨u0, v0, u1, v1, t, rfl, HF.out, ?_⟩
   exact (((((HBW.out.setCell (by simp) _).setCell (by simp) _).setCell (by simp) _).setCell (by simp) _).drew)
