/- leap, walked. -/
import Derived.Test.YtginajegbknfhaaLeap2
import Derived.Test.YtginajegbknfhaaDivE
import Derived.Deep.QuietTactic
import Derived.BigQuiet
namespace Go.Proofs.Ytginajegbknfhaa
open Go.RowKit

/-- leap's state ahead of digit k. -/
structure LeapRel (B : Nat) (w : World) (ga gb p1 p2 t1 l1 t2 l2 n : Nat) (La Lb : List Nat) (wr : World) (i : Value) : Prop where
  ex : ∃ (k : Nat) (zs ys : List Nat) (o1 u1 b1 o2 u2 b2 : Nat), k ≤ n ∧ i = .int .i64 k ∧ Blend La Lb t1 l1 k zs o1 u1 b1 ∧ Blend Lb La l2 t2 k ys o2 u2 b2 ∧
    Blk wr ga (mid La 0 zs) ∧ Blk wr gb (mid Lb 0 ys) ∧ Bl wr p1 t1 l1 o1 u1 b1 ∧ Bl wr p2 l2 t2 o2 u2 b2
  bel : Below B w wr

theorem leap_step {B n k : Nat} {w wr : World} {ga gb p1 p2 t1 l1 t2 l2 o1 u1 b1 o2 u2 b2 : Nat} {La Lb zs ys : List Nat} (hlt : k < n) (hna : n ≤ La.length) (hnb : n ≤ Lb.length) (hab : ga ≠ gb)
    (e1 : p1 ≠ ga) (e2 : p1 ≠ gb) (e3 : p2 ≠ ga) (e4 : p2 ≠ gb) (hBa : B ≤ ga) (hBb : B ≤ gb) (h5 : Blend La Lb t1 l1 k zs o1 u1 b1) (h6 : Blend Lb La l2 t2 k ys o2 u2 b2) (hdA : Digs La) (hdB : Digs Lb)
    (h1 : t1 < B64) (h2 : l1 < B64) (h3 : t2 < B64) (h4 : l2 < B64) (m1 : Blk wr ga (mid La 0 zs)) (m2 : Blk wr gb (mid Lb 0 ys))
    (m3 : Bl wr p1 t1 l1 (hi (dg La k * t1 + o1)) (hi (dg Lb k * l1 + u1)) (sbo (lo (dg La k * t1 + o1)) (lo (dg Lb k * l1 + u1)) b1))
    (m4 : Bl wr p2 l2 t2 (hi (dg Lb k * l2 + o2)) (hi (dg La k * t2 + u2)) (sbo (lo (dg Lb k * l2 + o2)) (lo (dg La k * t2 + u2)) b2)) (hbel : Below B w wr) :
    LeapRel B w ga gb p1 p2 t1 l1 t2 l2 n La Lb ((wr.setCell ⟨ga, k, none⟩ (.int .u64 ((slo (lo (dg La k * t1 + o1)) (lo (dg Lb k * l1 + u1)) b1 : Nat) : Int))).setCell ⟨gb, k, none⟩ (.int .u64 ((slo (lo (dg Lb k * l2 + o2)) (lo (dg La k * t2 + u2)) b2 : Nat) : Int))) (.int .i64 ((k : Int) + 1)) := by
  refine ⟨⟨k + 1, _, _, _, _, _, _, _, _, hlt, by simp, blend_step h5 hdA hdB h1 h2, blend_step h6 hdB hdA h4 h3, ?_, ?_, ?_, ?_⟩, (hbel.setCell hBa _).setCell hBb _⟩
  · have h := m1.set_ k (slo (lo (dg La k * t1 + o1)) (lo (dg Lb k * l1 + u1)) b1)
    have hs := mid_set (cs := La) (zs := zs) (off := 0) (by rw [h5.len]; omega) (slo (lo (dg La k * t1 + o1)) (lo (dg Lb k * l1 + u1)) b1)
    rw [h5.len, Nat.zero_add] at hs
    rw [hs] at h
    exact h.far hab _
  · have h := (m2.far (p := ⟨ga, k, none⟩) (fun e => hab e.symm) (.int .u64 ((slo (lo (dg La k * t1 + o1)) (lo (dg Lb k * l1 + u1)) b1 : Nat) : Int))).set_ k (slo (lo (dg Lb k * l2 + o2)) (lo (dg La k * t2 + u2)) b2)
    have hs := mid_set (cs := Lb) (zs := ys) (off := 0) (by rw [h6.len]; omega) (slo (lo (dg Lb k * l2 + o2)) (lo (dg La k * t2 + u2)) b2)
    rw [h6.len, Nat.zero_add] at hs
    rwa [hs] at h
  · exact (Below.heap_setCell _ _ _ _ e2).trans ((Below.heap_setCell _ _ _ _ e1).trans m3)
  · exact (Below.heap_setCell _ _ _ _ e4).trans ((Below.heap_setCell _ _ _ _ e3).trans m4)

/-- What leap leaves in memory: F and G in the low digits of the two blocks. -/
structure LeapMem (B : Nat) (w w' : World) (ga gb F G : Nat) (La Lb : List Nat) : Prop where
  ex : ∃ Xa Xb : List Nat, Blk w' ga Xa ∧ Blk w' gb Xb ∧ Digs Xa ∧ Digs Xb ∧ Xa.length = La.length ∧ Xb.length = Lb.length ∧
    (dig F).length ≤ La.length ∧ (dig G).length ≤ Lb.length ∧ Xa.take (dig F).length = dig F ∧ Xb.take (dig G).length = dig G
  bel : Below B w w'
theorem LeapMem.drew {B : Nat} {w w' : World} {ga gb F G : Nat} {La Lb : List Nat} (h : LeapMem B w w' ga gb F G La Lb) : LeapMem B w w'.drew ga gb F G La Lb := ⟨h.ex, h.bel.drew⟩

structure LeapPost (B : Nat) (w : World) (ga gb ca cb F G : Nat) (La Lb : List Nat) (e : Ending) (w' : World) : Prop where
  ret : ∃ A1 c1 A2 c2, e = .returned (.tuple #[.slice A1 (dig F).length c1, .slice A2 (dig G).length c2]) ∧ (dig F).length ≤ c1 ∧ (dig G).length ≤ c2 ∧
    (0 < (dig F).length → A1 = some ⟨ga, 0, none⟩ ∧ c1 = ca) ∧ (0 < (dig G).length → A2 = some ⟨gb, 0, none⟩ ∧ c2 = cb)
  mem : LeapMem B w w' ga gb F G La Lb

theorem mid_low {cs zs : List Nat} (hzd : Digs zs) : (mid cs 0 zs).take (dig (val zs)).length = dig (val zs) := by
  have h2 : (mid cs 0 zs).take (dig (val zs)).length = zs.take (dig (val zs)).length := by
    have h3 : ((mid cs 0 zs).take zs.length).take (dig (val zs)).length = zs.take (dig (val zs)).length := by rw [mid_take]
    rwa [List.take_take, Nat.min_eq_left (dig_length_val hzd)] at h3
  rw [h2]
  exact (dig_take_self hzd).symm

theorem leap_mem {B n : Nat} {w wr : World} {ga gb t1 l1 t2 l2 o1 u1 b1 o2 u2 b2 F G : Nat} {La Lb zs ys : List Nat} (hna : n ≤ La.length) (hnb : n ≤ Lb.length)
    (h5 : Blend La Lb t1 l1 n zs o1 u1 b1) (h6 : Blend Lb La l2 t2 n ys o2 u2 b2) (hdA : Digs La) (hdB : Digs Lb) (hz : val zs = F) (hy : val ys = G)
    (m1 : Blk wr ga (mid La 0 zs)) (m2 : Blk wr gb (mid Lb 0 ys)) (hbel : Below B w wr) : LeapMem B w wr ga gb F G La Lb := by
  subst hz hy
  have e1 := h5.len
  have e2 := h6.len
  have e3 := dig_length_val h5.digs
  have e4 := dig_length_val h6.digs
  exact ⟨⟨_, _, m1, m2, hdA.mid h5.digs 0, hdB.mid h6.digs 0, mid_length (by omega), mid_length (by omega), by omega, by omega, mid_low h5.digs, mid_low h6.digs⟩, hbel⟩

set_option maxRecDepth 100000 in
set_option maxHeartbeats 4000000 in
theorem leap_any (w : World) (B ga gb na nb ca cb n t1 l1 t2 l2 F G x1 y1 x2 y2 : Nat) (La Lb : List Nat) (ha : Blk w ga La) (hb : Blk w gb Lb) (hab : ga ≠ gb) (hBa : B ≤ ga) (hBb : B ≤ gb) (hdA : Digs La) (hdB : Digs Lb)
    (hna : n ≤ na) (hnb : n ≤ nb) (hLa : na ≤ La.length) (hLb : nb ≤ Lb.length) (hla : na ≤ ca) (hlb : nb ≤ cb) (hcap : n ≤ 1099511627776) (h1 : t1 < B64) (h2 : l1 < B64) (h3 : t2 < B64) (h4 : l2 < B64)
    (hF : val (Lb.take n) * l1 + F + B64 ^ n * x1 = val (La.take n) * t1 + B64 ^ n * y1) (hFn : F < B64 ^ n) (hG : val (La.take n) * t2 + G + B64 ^ n * x2 = val (Lb.take n) * l2 + B64 ^ n * y2) (hGn : G < B64 ^ n) :
    Calls Try.prog 88 #[.slice (some ⟨ga, 0, none⟩) na ca, .slice (some ⟨gb, 0, none⟩) nb cb, .agg #[.int .u64 (t1 : Int), .int .u64 (l1 : Int)], .agg #[.int .u64 (t2 : Int), .int .u64 (l2 : Int)], .int .i64 (n : Int)] w (LeapPost B w ga gb ca cb F G La Lb) := by
  have HT := Lib.hid (fun W : World => turned_at W t2 l2)
  have HA := Lib.hid ha
  have HB := Lib.hid hb
  clear ha hb
  go_enter Try.func88, Try.ntmps88
  go_upto_region 1 with fail
  go_cut [12, 13] (fun s12 s13 wx => ∃ p1 p2 : Nat, s12 = .pointer (some ⟨p1, 0, none⟩) ∧ s13 = .pointer (some ⟨p2, 0, none⟩) ∧ LeapAt w t1 l1 t2 l2 p1 p2 wx)
  case first =>
    go_region_held3 (fun W => W.cell? ⟨w.heap.size, 0, none⟩ = some (.int .u64 (t1 : Int)) ∧ W.cell? ⟨w.heap.size, 1, none⟩ = some (.int .u64 (l1 : Int)) ∧ W.cell? ⟨w.heap.size + 1, 0, none⟩ = some (.int .u64 (t2 : Int)) ∧ W.cell? ⟨w.heap.size + 1, 1, none⟩ = some (.int .u64 (l2 : Int)))
      (first | exact Boxed.alloc _ (by assumption) | exact Boxed.alloc _ (Boxed.alloc _ (by assumption)) | exact Boxed.drew (Boxed.alloc _ (Boxed.alloc _ (Boxed.alloc _ (Boxed.alloc _ (Boxed.base _ _ _ _ _ _ _))))) | exact Boxed.drew (Boxed.alloc _ (Boxed.alloc _ (Boxed.alloc _ (Boxed.base _ _ _ _ _ _ _)))) | go_keep)
      (first | (go_at_call 89; refine (HT.out _).mono ?_; rintro e w1 ⟨rfl, rfl⟩))
    all_goals
      go_wp2_with fail
      go_meet
      case rel =>
        refine ⟨_, _, rfl, rfl, ⟨?_, ?_, ?_, ?_, ?_, ?_⟩⟩
        · refine Bl.drew ?_; repeat (first | exact Bl.new _ _ _ _ (by simp only [size_al]) | refine Bl.alloc ?_ _)
        · refine Bl.drew ?_; repeat (first | exact Bl.new _ _ _ _ (by simp only [size_al]) | refine Bl.alloc ?_ _)
        · omega
        · omega
        · omega
        · refine Below.drew ?_; repeat (first | exact Below.refl _ _ | refine Below.alloc ?_ (by first | exact Nat.le_refl _ | (simp only [size_al]; omega)) _)
  case rest =>
    obtain ⟨p1, p2, rfl, rfl, hL⟩ := hcut
    have HL := Lib.hid hL
    clear hL
    have hga := HA.out.lt
    have hgb := HB.out.lt
    go_wp2_with fail
    go_loopw [23] (fun i wr => LeapRel B w ga gb p1 p2 t1 l1 t2 l2 n La Lb wr i) (fun i _ => n - (intOf i).toNat)
    case atStart =>
      refine ⟨⟨0, [], [], 0, 0, 0, 0, 0, 0, Nat.zero_le _, rfl, Blend.start _ _ _ _, Blend.start _ _ _ _, ?_, ?_, HL.out.b1, HL.out.b2⟩, HL.out.bel.mono (by omega)⟩
      · rw [mid_nil]; exact HA.out.below HL.out.bel hga
      · rw [mid_nil]; exact HB.out.below HL.out.bel hgb
    case round =>
      obtain ⟨⟨k, zs, ys, o1, u1, b1, o2, u2, b2, hk, rfl, h5, h6, m1, m2, m3, m4⟩, hbel⟩ := hrel
      by_cases hlt : k < n
      · have hlt' : (k : Int) < (n : Int) := by omega
        have la1 : (k : Int) < (na : Int) := by omega
        have lb1 : (k : Int) < (nb : Int) := by omega
        have ca1 := m1.cell (i := k) (by rw [mid_length (by rw [h5.len]; omega)]; omega)
        have cb1 := m2.cell (i := k) (by rw [mid_length (by rw [h6.len]; omega)]; omega)
        rw [dg_mid_above (by rw [h5.len]; omega) (Nat.zero_le _)] at ca1
        rw [dg_mid_above (by rw [h6.len]; omega) (Nat.zero_le _)] at cb1
        have fa1 := m1.frozen k
        have fb1 := m2.frozen k
        have H5 := Lib.hid h5
        have H6 := Lib.hid h6
        have M1 := Lib.hid m1
        have M2 := Lib.hid m2
        have M3 := Lib.hid m3
        have M4 := Lib.hid m4
        have HBEL := Lib.hid hbel
        clear h5 h6 m1 m2 m3 m4 hbel
        go_wp2_with fail
        go_quiet (fail)
        have HN1 := Lib.hid (fun q => next_any (wr.drewN q) p1 t1 l1 o1 u1 b1 (dg La k) (dg Lb k) M3.out h1 h2 H5.out.ho H5.out.hu H5.out.hb (dg_lt hdA k) (dg_lt hdB k))
        have HN2 := Lib.hid (fun w2 h => next_any w2 p2 l2 t2 o2 u2 b2 (dg Lb k) (dg La k) h h4 h3 H6.out.ho H6.out.hu H6.out.hb (dg_lt hdB k) (dg_lt hdA k))
        have hp1 := HL.out.g1
        have hp2 := HL.out.g2
        have hpp := HL.out.ne
        go_wp2_with fail
        refine (HN1.out _).mono ?_
        rintro e w2 ⟨rfl, q1, hO1⟩
        have q2 : Bl w2 p2 l2 t2 o2 u2 b2 := (hO1.block p2 (fun e => hpp e.symm)).trans M4.out
        go_wp2_with fail
        refine (HN2.out _ q2).mono ?_
        rintro e w3 ⟨rfl, q3, hO2⟩
        have q4 : Bl w3 p1 t1 l1 _ _ _ := (hO2.block p1 hpp).trans q1
        have a2 := hO2.blk (hO1.blk (M1.out.drewN _) (by omega)) (g' := ga) (by omega)
        have b2' := hO2.blk (hO1.blk (M2.out.drewN _) (by omega)) (g' := gb) (by omega)
        have HBW : Hid (Below B w w3) := ((⟨HBEL.out.os, HBEL.out.tape, HBEL.out.output, HBEL.out.size, HBEL.out.block⟩ : Below B w (wr.drewN _)).trans (hO1.below (by omega))).trans (hO2.below (by omega))
        have ca2 := a2.cell (i := k) (by rw [mid_length (by rw [H5.out.len]; omega)]; omega)
        have cb2 := b2'.cell (i := k) (by rw [mid_length (by rw [H6.out.len]; omega)]; omega)
        have fa2 := a2.frozen k
        have fb2 := b2'.frozen k
        have HS := Lib.hid (leap_step hlt (by omega) (by omega) hab (by omega) (by omega) (by omega) (by omega) hBa hBb H5.out H6.out hdA hdB h1 h2 h3 h4 a2 b2' q4 q3 HBW.out)
        clear hO1 hO2 q1 q2 q3 q4 a2 b2'
        go_wp2_with fail
        go_roundw
        case rel => exact HS.out
        case measure => simp [intOf]; omega
      · have hkn : k = n := by omega
        subst hkn
        have hz := blend_end h5 hF hFn
        have hy := blend_end h6 hG hGn
        have hca : (k : Int) ≤ (ca : Int) := by omega
        have hcb : (k : Int) ≤ (cb : Int) := by omega
        have hlz := h5.len
        have hly := h6.len
        have n1 : Num wr (some ⟨ga, 0, none⟩) zs := by
          have h := (m1.num (hdA.mid h5.digs 0)).take zs.length
          rwa [mid_take] at h
        have n2 : Num wr (some ⟨gb, 0, none⟩) ys := by
          have h := (m2.num (hdB.mid h6.digs 0)).take ys.length
          rwa [mid_take] at h
        have C1 := cut_at wr.drew _ ca zs n1.drew (by omega) (by omega)
        have C2 := cut_at wr.drew _ cb ys n2.drew (by omega) (by omega)
        rw [hz, hlz] at C1
        rw [hy, hly] at C2
        have HC1 := Lib.hid C1
        have HC2 := Lib.hid C2
        have HE : Hid (LeapMem B w wr ga gb F G La Lb) := leap_mem (by omega) (by omega) h5 h6 hdA hdB hz hy m1 m2 hbel
        clear h5 h6 m1 m2 m3 m4 hbel n1 n2 C1 C2 hz hy
        go_wp2_with fail
        go_region_with (first
          | (go_at_call 58; (with_reducible refine HC1.out.mono ?_); rintro e w4 ⟨A1, c1, rfl, hc1, ha1, rfl, hd1⟩)
          | (go_at_call 58; (with_reducible refine HC2.out.mono ?_); rintro e w4 ⟨A2, c2, rfl, hc2, ha2, rfl, hd2⟩))

        all_goals
          go_wp2_with fail
          go_ret2
          exact ⟨⟨A1, c1, A2, c2, rfl, hc1, hc2, hd1, hd2⟩, HE.out.drew⟩
end Go.Proofs.Ytginajegbknfhaa
