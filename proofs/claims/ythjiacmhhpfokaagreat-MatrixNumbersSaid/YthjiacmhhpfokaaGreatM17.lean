/- Part 17 of the proof: ShortMath, Shorten, Gcd. -/
import Derived.Test.YthjiacmhhpfokaaGreatM16
namespace Go.Proofs.YthjiacmhhpfokaaGreat
open Lib renaming hid → lh
open Go.Proofs.Tryz renaming prog → tz
open Nat renaming le_refl → lR, lt_of_lt_of_le → lL
section
open Go.RowKit
theorem row_pos {u v A B F : Nat} (h : row 1 u v A B = (F : Int)) : B * v + F = A * u := by
 unfold row at h
 rw [Int.one_mul] at h
 have e : ((B * v + F : Nat) : Int) = ((A * u : Nat) : Int) := by
  push_cast
  rw [Int.mul_comm (A : Int), Int.mul_comm (B : Int)]
  omega
 exact_mod_cast e
theorem row_neg1 {u v A B F : Nat} (h : row (-1) u v A B = (F : Int)) : A * u + F = B * v := by
 unfold row at h
 rw [Int.neg_mul, Int.one_mul] at h
 have e : ((A * u + F : Nat) : Int) = ((B * v : Nat) : Int) := by
  push_cast
  rw [Int.mul_comm (A : Int), Int.mul_comm (B : Int)]
  omega
 exact_mod_cast e
theorem low_pos {A B u v F l h P : Nat} (hA : A = l + P * h) (e : B * v + F = A * u) : B * v + F + P * 0 = l * u + P * (h * u) := by
 rw [e, hA, Nat.add_mul, Nat.mul_assoc, Nat.mul_zero, Nat.add_zero]
theorem low_neg {A B u v F l h P : Nat} (hA : A = l + P * h) (e : A * u + F = B * v) : l * u + F + P * (h * u) = B * v + P * 0 := by
 rw [← e, hA, Nat.add_mul, Nat.mul_assoc, Nat.mul_zero, Nat.add_zero]
 omega
structure Pair (B : Nat) (w wr : World) (g F G : Nat) (av bv : Value) : Prop where
 ex : ∃ (PA PB : Option Addr) (ca cb : Nat), av = .slice PA (dig F).length ca ∧ bv = .slice PB (dig G).length cb ∧ (dig F).length ≤ ca ∧ (dig G).length ≤ cb ∧
  Num wr PA (dig F) ∧ Num wr PB (dig G) ∧
  (1 < (dig G).length → ∃ ga gb Xa Xb, PA = some ⟨ga, 0, none⟩ ∧ PB = some ⟨gb, 0, none⟩ ∧ ga ≠ gb ∧ B ≤ ga ∧ B ≤ gb ∧ Blk wr ga Xa ∧ Blk wr gb Xb ∧ Digs Xa ∧ Digs Xb ∧
   (dig F).length ≤ Xa.length ∧ (dig G).length ≤ Xb.length ∧ Xa.take (dig F).length = dig F ∧ Xb.take (dig G).length = dig G)
 le : G ≤ F
 len : (dig F).length ≤ 4294967296
 gcd : Nat.gcd F G = g
 bel : Below B w wr
theorem num_low {w : World} {g : Nat} {X : List Nat} {F : Nat} {P : Option Addr} (hb : Blk w g X) (hd : Digs X) (ht : X.take (dig F).length = dig F) (hP : 0 < (dig F).length → P = some ⟨g, 0, none⟩) : Num w P (dig F) := by
 rcases Nat.eq_zero_or_pos (dig F).length with h0 | h0
 ·rw [List.length_eq_zero_iff.1 h0]; exact Num.nil _ _
 ·have h := (hb.num hd).take (dig F).length
  rw [ht] at h
  rw [hP h0]
  exact h
theorem leap_pair {B : Nat} {w wx w' : World} {g ga gb ca cb F G : Nat} {La Lb : List Nat} {e : Ending} (h : LeapPost B wx ga gb ca cb F G La Lb e w') (hw : Below B w wx) (hne : ga ≠ gb) (hBa : B ≤ ga) (hBb : B ≤ gb)
  (hle : G ≤ F) (hlen : (dig F).length ≤ 4294967296) (hg : Nat.gcd F G = g) : ∃ av bv, e = .returned (.tuple #[av, bv]) ∧ Pair B w w' g F G av bv := by
 obtain ⟨⟨A1, c1, A2, c2, rfl, k1, k2, k3, k4⟩, ⟨⟨Xa, Xb, m1, m2, d1, d2, l1, l2, n1, n2, t1, t2⟩, hb⟩⟩ := h
 refine ⟨_, _, rfl, ⟨⟨A1, A2, c1, c2, rfl, rfl, k1, k2, num_low m1 d1 t1 (fun hp => (k3 hp).1), num_low m2 d2 t2 (fun hp => (k4 hp).1), fun h1 => ?_⟩, hle, hlen, hg, hw.trans hb⟩⟩
 have h0 : 1 < (dig F).length := lL h1 (dig_length_mono hle)
 exact ⟨ga, gb, Xa, Xb, (k3 (by omega)).1, (k4 (by omega)).1, hne, hBa, hBb, m1, m2, d1, d2, by omega, by omega, t1, t2⟩
theorem blk_split {X : List Nat} {F n : Nat} (ht : X.take (dig F).length = dig F) (hn : n ≤ (dig F).length) : F = val (X.take n) + B64 ^ n * val ((dig F).drop n) := by
 have h := val_take_add (dig F) n
 rw [val_dig, Nat.min_eq_left hn] at h
 have e : X.take n = (dig F).take n := by rw [← ht, List.take_take, Nat.min_eq_left hn]
 rw [e]
 exact h
theorem top_shift {F : Nat} (h2 : 2 ≤ (dig F).length) : ∃ s, s + blen (dg (dig F) ((dig F).length - 1)) = 64 ∧ s ≤ 63 ∧ dg (dig F) ((dig F).length - 1) * 2 ^ s < B64 ∧ dg (dig F) ((dig F).length - 1) ≠ 0 := by
 have htop : dg (dig F) ((dig F).length - 1) ≠ 0 := by
  intro h
  have h1 := dig_top F
  rw [List.getLast?_eq_getElem?, List.getElem?_eq_getElem (by omega)] at h1
  rw [dg_of_lt (by omega)] at h
  exact h1 (by rw [h])
 have hb := blen_lt (dg (dig F) ((dig F).length - 1))
 have hb1 : 1 ≤ blen (dg (dig F) ((dig F).length - 1)) := by
  rcases Nat.eq_zero_or_pos (blen (dg (dig F) ((dig F).length - 1))) with h | h
  ·rw [h] at hb; omega
  ·exact h
 have hbl64 := blen_digit (dg_lt (dig_digs F) ((dig F).length - 1))
 refine ⟨64 - blen (dg (dig F) ((dig F).length - 1)), by omega, by omega, ?_, htop⟩
 have e : B64 = 2 ^ blen (dg (dig F) ((dig F).length - 1)) * 2 ^ (64 - blen (dg (dig F) ((dig F).length - 1))) := by
  rw [← Nat.pow_add, B64_pow]; congr 1; omega
 rw [e]
 exact Nat.mul_lt_mul_of_pos_right hb (Nat.pow_pos (by omega))
end

section
open Go.RowKit
def ShortPost (B : Nat) (w : World) (g : Nat) (e : Ending) (w' : World) : Prop :=
 ∃ F G av bv, e = .returned (.tuple #[av, bv]) ∧ (dig G).length ≤ 1 ∧ Pair B w w' g F G av bv
theorem gcd_step (F G : Nat) : Nat.gcd G (F % G) = Nat.gcd F G := by rw [Nat.gcd_comm F G, Nat.gcd_rec G F, Nat.gcd_comm]
theorem pair_divided {B : Nat} {w wx w' : World} {g F G gb cb : Nat} {Xb : List Nat} {q : Nat} {e : Ending} (hpos : 0 < G) (hgb : B ≤ gb) (hsz : gb < wx.heap.size) (hBx : B ≤ wx.heap.size) (hb : Blk wx gb Xb) (hd : Digs Xb) (hl : (dig G).length ≤ Xb.length) (ht : Xb.take (dig G).length = dig G) (hcb : (dig G).length ≤ cb)
  (hnum : Num wx (some ⟨gb, 0, none⟩) (dig G)) (hlen : (dig G).length ≤ 4294967296) (hg : Nat.gcd F G = g) (hw : Below B w wx) (h : RetQR wx q (F % G) e w') :
  ∃ A1 c1 bv, e = .returned (.tuple #[.slice A1 (dig q).length c1, bv]) ∧ Pair B w w' g G (F % G) (.slice (some ⟨gb, 0, none⟩) (dig G).length cb) bv := by
 obtain ⟨A, c, C, d, g2, zs, rfl, k1, k2, k3, k4, k5, k6, k7, k8, k9, k10, k11⟩ := h
 refine ⟨A, c, _, rfl, ⟨⟨_, C, cb, d, rfl, rfl, hcb, k2, hnum.below k5, k4, fun h1 => ?_⟩, Nat.le_of_lt (Nat.mod_lt _ hpos), hlen, ?_, hw.trans (k5.mono hBx)⟩⟩
 ·exact ⟨gb, g2, Xb, zs, rfl, (k11 (by omega)).1, by omega, hgb, by omega, hb.below k5 hsz, k7, hd, k8, hl, k9, ht, k10⟩
 ·rw [gcd_step, hg]
theorem of_drewB {w w' : World} (h : Below w.drew.heap.size w.drew w') : Below w.heap.size w w' := ⟨h.os, h.tape, h.output, h.size, h.block⟩
theorem Boxed.belowW {p t1 l1 t2 l2 : Nat} {W W' : World} {B : Nat} (hB : B = W.heap.size) (hp : p + 1 < W.heap.size) (hb : Below B W W') (h : Boxed p t1 l1 t2 l2 W) : Boxed p t1 l1 t2 l2 W' := by
 subst hB
 obtain ⟨h1, h2, h3, h4⟩ := h
 exact ⟨(hb.cell (p := ⟨p, 0, none⟩) (by show p < _; omega)).trans h1, (hb.cell (p := ⟨p, 1, none⟩) (by show p < _; omega)).trans h2, (hb.cell (p := ⟨p + 1, 0, none⟩) hp).trans h3, (hb.cell (p := ⟨p + 1, 1, none⟩) hp).trans h4⟩
set_option maxRecDepth 100000 in
set_option maxHeartbeats 8000000 in
theorem shorten_any (w : World) (B g F0 G0 : Nat) (av bv : Value) (hB : B ≤ w.heap.size) (h : Pair B w w g F0 G0 av bv) :
  Calls tz 218 #[av, bv] w (ShortPost B w g) := by
 have H0 := lh h
 clear h
 have HT := lh (fun (W : World) (t l : Nat) => turned_at W t l)
 go_enter Tryz.func218, Tryz.ntmps218
 go_wp2_with fail
 go_loopg [0, 1] G0 (fun G av bv wr => ∃ F, Pair B w wr g F G av bv)
 case atStart => exact ⟨F0, H0.out⟩
 case round =>
  obtain ⟨F, ⟨⟨PA, PB, ca, cb, rfl, rfl, hca, hcb, hna, hnb, hblk⟩, hle, hlen, hg, hbel⟩⟩ := hrel
  have hlm := dig_length_mono hle
  by_cases h1 : 1 < (dig gk).length
  ·have h1' : (1 : Int) < ((dig gk).length : Int) := by omega
   obtain ⟨ga, gb, Xa, Xb, rfl, rfl, hne, hBa, hBb, m1, m2, d1, d2, l1, l2, t1, t2⟩ := hblk h1
   obtain ⟨s, hs, hs63, hsh, htop⟩ := top_shift (F := F) (by omega)
   have hlead := ld_lead (dig_digs F) (dig_digs gk) rfl hlm (by omega) hs63 hsh (by rw [val_dig, val_dig]; exact hle)
   rw [val_dig, val_dig] at hlead
   have HLD := lh (leading_any wr (some ⟨ga, 0, none⟩) (some ⟨gb, 0, none⟩) ca cb (dig F).length s (dig F) (dig gk) hna hnb rfl (by omega) (by omega) (by omega) hs hs63)
   have HFS := lh (fun W => foresee_any W F gk _ _ _ hlead)
   have HNA := lh hna
   have HNB := lh hnb
   have M1 := lh m1
   have M2 := lh m2
   have HG := lh hg
   have HBEL := lh hbel
   have T1 := lh t1
   have T2 := lh t2
   have hga := m1.lt
   have hgb := m2.lt
   clear hna hnb m1 m2 hg hbel t1 t2 hlead hblk hs hsh htop
   go_upto_region 4 with ((first
    | (go_at_call 237; refine HLD.out.mono ?_; rintro e w1 ⟨rfl, hb1⟩)
    | (go_at_call 236; refine (HFS.out _).mono ?_; rintro e w2 ⟨u0, v0, u1, v1, t, rfl, hF, hb2⟩)))
   have HBX := Boxed.base w2 u0 v0 u1 v1 220 220
   have hb12 : Below wr.heap.size wr w2 := hb1.trans (hb2.mono hb1.size)
   have hbx : Below wr.heap.size wr ((w2.alloc (.cells #[.int .u64 (u0 : Int), .int .u64 (v0 : Int)] 220)).alloc (.cells #[.int .u64 (u1 : Int), .int .u64 (v1 : Int)] 220)) :=
    hb12.trans (((Below.refl _ _).alloc hb12.size _).alloc (by simp; have := hb12.size; omega) _)
   have hsx : w2.heap.size + 1 < ((w2.alloc (.cells #[.int .u64 (u0 : Int), .int .u64 (v0 : Int)] 220)).alloc (.cells #[.int .u64 (u1 : Int), .int .u64 (v1 : Int)] 220)).heap.size := by simp
   generalize ((w2.alloc (.cells #[.int .u64 (u0 : Int), .int .u64 (v0 : Int)] 220)).alloc (.cells #[.int .u64 (u1 : Int), .int .u64 (v1 : Int)] 220)) = wx at *
   have X1 := lh (M1.out.below hbx hga)
   have X2 := lh (M2.out.below hbx hgb)
   have XA := lh (HNA.out.below hbx)
   have XB := lh (HNB.out.below hbx)
   have XW := lh (HBEL.out.trans (hbx.mono (Nat.le_trans hB HBEL.out.size)))
   have hgax : ga < wx.heap.size := lL hga hbx.size
   have hgbx : gb < wx.heap.size := lL hgb hbx.size
   have hBx : B ≤ wx.heap.size := Nat.le_trans hBa (Nat.le_of_lt hgax)
   obtain ⟨hu0, hv0, hu1, hv1, hFF⟩ := hF
   obtain ⟨b0, b1', b2', b3⟩ := HBX
   have HBX : Hid (Boxed w2.heap.size u0 v0 u1 v1 wx) := ⟨b0, b1', b2', b3⟩
   clear hb1 hb2 hb12 hbx M1 M2 HNA HNB HBEL HLD HFS hga hgb
   by_cases hz : v0 = 0
   ·have hz' : (((v0 : Nat) : Int) == 0) = true := by rw [hz]; rfl
    clear hFF
    obtain ⟨s2, hs2, hs263, hsh2, htop2⟩ := top_shift (F := gk) (by omega)
    have hlong := long_any wx (some ⟨ga, 0, none⟩) (some ⟨gb, 0, none⟩) ca cb (dig gk).length s2 ((dig F).length - (dig gk).length + 1) (dig F) (dig gk) XA.out XB.out (by omega) rfl (by omega) hlm hs2 htop2 (by omega)
    rw [val_dig, val_dig] at hlong
    have HLG := lh hlong
    clear hs2 hs263 hsh2 htop2 hlong
    go_wp2_with fail
    refine HLG.out.mono ?_
    intro e w3 hq
    obtain ⟨A1, c1, bv', rfl, hP⟩ := pair_divided (g := g) (by
     rcases Nat.eq_zero_or_pos gk with h0 | h0
     ·rw [h0, dig_zero] at h1; simp at h1
     ·exact h0) hBb hgbx hBx X2.out d2 l2 T2.out hcb XB.out (by omega) HG.out XW.out hq
    have HP := lh hP
    have hlt := Nat.mod_lt F (show 0 < gk by
     rcases Nat.eq_zero_or_pos gk with h0 | h0
     ·rw [h0, dig_zero] at h1; simp at h1
     ·exact h0)
    clear hP hq
    go_wp2_with fail
    go_roundg (F % gk)
    case measure => exact hlt
    case rel => exact ⟨gk, HP.out⟩
   ·have hz' : (((v0 : Nat) : Int) == 0) = false := by rw [beq_eq_false_iff_ne]; omega
    obtain ⟨F0, F1, r0, r1, hlt, hle0, hgcd⟩ := hFF hz
    cases t with
    | false =>
     have hP := blk_split (n := (dig gk).length) T1.out hlm
     have hgv : val (Xb.take (dig gk).length) = gk := by rw [T2.out, val_dig]
     have hglt : gk < B64 ^ (dig gk).length := by have h := val_lt (dig_digs gk); rwa [val_dig] at h
     have hl0 := dig_length_mono hle0
     have hg0 : Nat.gcd F0 F1 = g := by rw [hgcd]; exact HG.out
     have hmeas : F1 < gk := by omega
     rw [show - sg false = 1 from rfl] at r0
     rw [show sg false = -1 from rfl] at r1
     have hE1 := low_pos hP (row_pos r0)
     have hE2 := low_neg hP (row_neg1 r1)
     have HLP := lh (leap_any wx B ga gb (dig F).length (dig gk).length ca cb (dig gk).length u0 v0 u1 v1 F0 F1 0 (val ((dig F).drop (dig gk).length) * u0) (val ((dig F).drop (dig gk).length) * u1) 0 Xa Xb X1.out X2.out hne hBa hBb d1 d2 hlm (lR _) l1 l2 hca hcb (by omega) hu0 hv0 hu1 hv1 (by rw [hgv]; exact hE1) (by omega) (by rw [hgv]; exact hE2) (by omega))
     clear hP hgv hE1 hE2 hglt r0 r1 hFF
     go_wp2_with fail
     refine HLP.out.mono ?_
     intro e w3 hq
     obtain ⟨av', bv', rfl, hPP⟩ := leap_pair hq XW.out hne hBa hBb (Nat.le_of_lt hlt) (by omega) hg0
     have HP := lh hPP
     clear hPP hq
     go_wp2_with fail
     go_roundg F1
     case measure => exact hmeas
     case rel => exact ⟨F0, HP.out⟩
    | true =>
     have hP := blk_split (n := (dig gk).length) T1.out hlm
     have hgv : val (Xb.take (dig gk).length) = gk := by rw [T2.out, val_dig]
     have hglt : gk < B64 ^ (dig gk).length := by have h := val_lt (dig_digs gk); rwa [val_dig] at h
     have hl0 := dig_length_mono hle0
     have hg0 : Nat.gcd F0 F1 = g := by rw [hgcd]; exact HG.out
     have hmeas : F1 < gk := by omega
     rw [show - sg true = -1 from rfl] at r0
     rw [show sg true = 1 from rfl] at r1
     have hE1 := low_neg hP (row_neg1 r0)
     have hE2 := low_pos hP (row_pos r1)
     have HLP : Hid (∀ w5 : World, Below wx.heap.size wx w5 → Calls tz 239 #[.slice (some ⟨gb, 0, none⟩) (dig gk).length cb, .slice (some ⟨ga, 0, none⟩) (dig F).length ca, .agg #[.int .u64 (v0 : Int), .int .u64 (u0 : Int)], .agg #[.int .u64 (v1 : Int), .int .u64 (u1 : Int)], .int .i64 ((dig gk).length : Int)] w5 (LeapPost B w5 gb ga cb ca F0 F1 Xb Xa)) := fun w5 h5 =>
      leap_any w5 B gb ga (dig gk).length (dig F).length cb ca (dig gk).length v0 u0 v1 u1 F0 F1 (val ((dig F).drop (dig gk).length) * u0) 0 0 (val ((dig F).drop (dig gk).length) * u1) Xb Xa (X2.out.below h5 hgbx) (X1.out.below h5 hgax) hne.symm hBb hBa d2 d1 (lR _) hlm l2 l1 hcb hca (by omega) hv0 hu0 hv1 hu1 (by rw [hgv]; exact hE1) (by omega) (by rw [hgv]; exact hE2) (by omega)
     clear hP hgv hE1 hE2 hglt r0 r1 hFF
     go_upto_region 8 with fail
     go_region_with
      (first
      | (go_at_call 239; refine (HLP.out w5 HB5.out).mono ?_; intro e w6 hq; obtain ⟨av', bv', rfl, hPP⟩ := leap_pair hq (XW.out.trans (HB5.out.mono hBx)) hne.symm hBb hBa (Nat.le_of_lt hlt) (by omega) hg0; have HP := lh hPP; clear hPP hq)
      | (go_at_call 240; refine (turned_any w4 u1 v1).mono ?_; rintro e w5 ⟨rfl, hb5⟩; have HB5 := lh (HB4.out.trans (hb5.mono HB4.out.size)); obtain ⟨m0, m1, m2, m3⟩ := Boxed.belowW rfl hsx HB5.out HBX.out; clear hb5)
      | (go_at_call 240; refine (turned_any _ u0 v0).mono ?_; rintro e w4 ⟨rfl, hb4⟩; have hb4 := of_drewB hb4; have HB4 := lh hb4; obtain ⟨n0, n1, n2, n3⟩ := Boxed.belowW rfl hsx hb4 HBX.out; clear hb4))
     all_goals
      go_wp2_with fail
      go_roundg F1
      case measure => exact hmeas
      case rel => exact ⟨F0, HP.out⟩
  ·have h1' : ¬ (1 : Int) < ((dig gk).length : Int) := by omega
   go_wp2_with fail
   go_ret2
   exact ⟨F, gk, _, _, rfl, by omega, ⟨⟨PA, PB, ca, cb, rfl, rfl, hca, hcb, hna, hnb, hblk⟩, hle, hlen, hg, hbel⟩⟩
end

section
set_option maxHeartbeats 4000000
open Go.RowKit
def TrimPost (w : World) (n : Nat) (e : Ending) (w' : World) : Prop :=
 ∃ A c, e = .returned (.slice A (dig n).length c) ∧ (dig n).length ≤ c ∧ Num w' A (dig n) ∧ Below w.heap.size w w' ∧ Blk w' w.heap.size (dig n) ∧ (0 < (dig n).length → A = some ⟨w.heap.size, 0, none⟩)
theorem trim_blk (w : World) (A : Option Addr) (c : Nat) (xs : List Nat) (h : Num w A xs) (hn : xs.length ≤ 1099511627776) (hc : xs.length ≤ c) :
  Calls tz 168 #[.slice A xs.length c] w (TrimPost w (val xs)) := by
 have C1 := lh (cut_any w A c xs h hn hc)
 have hl := dig_length_val h.1
 have hmk := run_make_u64 (dig (val xs)).length (by omega)
 have HT := lh (dig_take_self h.1)
 have HN := lh h
 clear h
 go_enter Tryz.func168, Tryz.ntmps168
 go_wp2_with fail
 refine C1.out.mono ?_
 rintro e w' ⟨A', c', rfl, hc', -, rfl⟩
 clear C1
 have K1 : ((dig (val xs)).map dcell).length = Nat.min xs.length (dig (val xs)).length := by
  rw [List.length_map]; exact (Nat.min_eq_right hl).symm
 have K2 : 0 < ((dig (val xs)).map dcell).length → ∃ ad, A = some ad ∧ ∀ j v, ((dig (val xs)).map dcell)[j]? = some v → (w.alloc (.cells (madeCells #[.int .u64 0] (dig (val xs)).length) 164)).cell? (ad.add j) = some v := by
  intro hp
  rw [List.length_map] at hp
  obtain ⟨b, off, rfl, hlt, hcell⟩ := (HN.out.alloc (.cells (madeCells #[.int .u64 0] (dig (val xs)).length) 164)).at_ (by omega)
  refine ⟨_, rfl, fun j v hj => ?_⟩
  rw [List.getElem?_map] at hj
  have hjl : j < (dig (val xs)).length := by
   rcases Nat.lt_or_ge j (dig (val xs)).length with h1 | h1
   ·exact h1
   ·rw [List.getElem?_eq_none h1] at hj; cases hj
  have hj2 : v = dcell (dg (dig (val xs)) j) := by
   rw [List.getElem?_eq_getElem hjl] at hj
   rw [dg_of_lt hjl]
   exact (Option.some.inj hj).symm
  have hj3 : dg (dig (val xs)) j = dg xs j := by
   conv => lhs; rw [HT.out]
   exact dg_take hjl
  rw [hj2, hj3, addr_add]
  exact hcell j (by omega)
 have HK1 := lh K1
 have HK2 := lh K2
 clear K1 K2
 go_wp2_with ((refine wpList_copy_splice rfl (.tmp 8) (.tmp 9) _ _ rfl 164 under_u64s (by kernel_rfl) (some ⟨w.heap.size, 0, none⟩) A (dig (val xs)).length (dig (val xs)).length xs.length c rfl rfl w.heap.size 0 ((List.replicate (dig (val xs)).length 0).map dcell) 164 (Blk.made w _) ((dig (val xs)).map dcell) HK1.out (fun hp => ⟨rfl, HK2.out hp⟩) (by simp) (dcells_one _) w.heap.size w ((Below.refl _ _).alloc (lR _) _) (lR _) ?_); intro w2 hb2 hbw2)
 have hblk : Blk w2 w.heap.size (dig (val xs)) := by
  have h1 := hb2.out
  rw [splice_all _ _ (by simp)] at h1
  exact h1
 have hnum := hblk.num (dig_digs _)
 refine (cut_at w2 _ _ _ hnum (by omega) (lR _)).mono ?_
 rw [val_dig]
 rintro e w' ⟨A2, c2, rfl, hc2, ha2, rfl, hd2⟩
 go_wp2
 go_ret
 exact ⟨A2, c2, rfl, hc2, ha2, hbw2, hblk, fun hp => (hd2 hp).1⟩
theorem pair_start {w1 w2 : World} {B a b ca cb : Nat} {A C : Option Addr} (hle : b ≤ a) (hlen : (dig a).length ≤ 4294967296) (hb2 : 1 < (dig b).length) (hB : B ≤ w1.heap.size) (h1 : Num w2 A (dig a)) (h2 : Num w2 C (dig b)) (g1 : Blk w2 w1.heap.size (dig a)) {k : Nat} (hk : w1.heap.size < k) (g2 : Blk w2 k (dig b))
  (e1 : 0 < (dig a).length → A = some ⟨w1.heap.size, 0, none⟩) (e2 : 0 < (dig b).length → C = some ⟨k, 0, none⟩) (hca : (dig a).length ≤ ca) (hcb : (dig b).length ≤ cb) : Pair B w2 w2 (Nat.gcd a b) a b (.slice A (dig a).length ca) (.slice C (dig b).length cb) :=
 ⟨⟨A, C, ca, cb, rfl, rfl, hca, hcb, h1, h2, fun _ => ⟨_, k, dig a, dig b, e1 (by have := dig_length_mono hle; omega), e2 (by omega), by omega, hB, by omega, g1, g2, dig_digs _, dig_digs _, lR _, lR _, List.take_length, List.take_length⟩⟩, hle, hlen, rfl, Below.refl _ _⟩
theorem gcd_long (w : World) (A B : Option Addr) (c d : Nat) (xs ys : List Nat) (ha : Num w A xs) (hb : Num w B ys) (hn : xs.length ≤ 4294967296) (hm : ys.length ≤ 4294967296)
  (hc : xs.length ≤ c) (hd : ys.length ≤ d) (hs : 1 < (dig (min (val xs) (val ys))).length) :
  Calls tz 200 #[.slice A xs.length c, .slice B ys.length d] w (RetN w (Nat.gcd (val xs) (val ys))) := by
 have C1 := lh (cut_any w A c xs ha (by omega) hc)
 have C2 := lh (cut_any w B d ys hb (by omega) hd)
 have hl1 := dig_length_val ha.1
 have hl2 := dig_length_val hb.1
 clear ha hb
 rcases Nat.lt_or_ge (val xs) (val ys) with hab | hab
 case' inl =>
  rw [Nat.min_eq_left (by omega)] at hs
  rw [Nat.gcd_comm]
  generalize val xs = b at *
  generalize val ys = a at *
  have HCM : Hid (cmpv b a = -1) := cmpv_lt hab
  have hle : b ≤ a := Nat.le_of_lt hab
  clear hab
  go_enter Tryz.func200, Tryz.ntmps200
  go_wp2_with fail
  refine C1.out.mono ?_
  rintro e w' ⟨B', d', rfl, hd', hb', rfl⟩
  go_wp2_with fail
  refine C2.out.mono ?_
  rintro e w' ⟨A', c', rfl, hc', ha', rfl⟩
  have HCMP := cmp_any w B' A' d' c' (dig b) (dig a) hb' ha' (by omega) (by omega) hd' hc'
  rw [val_dig, val_dig, HCM.out] at HCMP
  have HC := lh HCMP
  clear HCMP HCM
 case' inr =>
  rw [Nat.min_eq_right (by omega)] at hs
  generalize val xs = a at *
  generalize val ys = b at *
  obtain ⟨z, hz1, hz2⟩ : ∃ z : Int, cmpv a b = z ∧ ¬ z < 0 := by
   rcases Nat.lt_or_ge b a with h | h
   ·exact ⟨1, cmpv_gt h, by omega⟩
   ·exact ⟨0, cmpv_eq (by omega), by omega⟩
  have HCM := lh hz1
  have hle : b ≤ a := hab
  clear hz1 hab
  go_enter Tryz.func200, Tryz.ntmps200
  go_wp2_with fail
  refine C1.out.mono ?_
  rintro e w' ⟨A', c', rfl, hc', ha', rfl⟩
  go_wp2_with fail
  refine C2.out.mono ?_
  rintro e w' ⟨B', d', rfl, hd', hb', rfl⟩
  have HCMP := cmp_any w A' B' c' d' (dig a) (dig b) ha' hb' (by omega) (by omega) hc' hd'
  rw [val_dig, val_dig, HCM.out] at HCMP
  have HC := lh HCMP
  clear HCMP HCM
 all_goals
  have HA := lh ha'
  have HB := lh hb'
  clear C1 C2 ha' hb'
  have hs' : (1 : Int) < ((dig b).length : Int) := by omega
  have hla : (dig a).length ≤ 4294967296 := by omega
  have hlb : (dig b).length ≤ 4294967296 := by omega
  go_wp2_with fail
  refine HC.out.mono ?_
  rintro e w' ⟨rfl, q0, rfl⟩
  have hT1 := trim_blk (w.drewN q0) A' c' (dig a) (HA.out.drewN q0) (by omega) hc'
  rw [val_dig] at hT1
  have HT1 := lh hT1
  clear hT1
  go_wp2_with fail
  refine HT1.out.mono ?_
  rintro e w1 ⟨A1, c1, rfl, hc1, ha1, hb1, hg1, he1⟩
  have hbw : Below w.heap.size w w1 := (below_drewN (Below.refl _ _) q0).trans hb1
  have hT2 := trim_blk w1 B' d' (dig b) (HB.out.below hbw) (by omega) hd'
  rw [val_dig] at hT2
  have HT2 := lh hT2
  have HA1 := lh ha1
  have HG1 := lh hg1
  have HBW := lh hbw
  have HE1 := lh he1
  clear hT2 ha1 hg1 hbw he1 hb1 HT1
  go_wp2_with fail
  refine HT2.out.mono ?_
  rintro e w2 ⟨A2, c2, rfl, hc2, ha2, hb2, hg2, he2⟩
  have hP := pair_start (w1 := w) (B := w.heap.size) hle hla (by omega) (lR _) (HA1.out.below hb2) ha2 (HG1.out.below hb2 HG1.out.lt) HG1.out.lt hg2 HE1.out he2 hc1 hc2
  have HBW2 := lh (HBW.out.trans (hb2.mono HBW.out.size))
  have HS := lh (shorten_any w2 w.heap.size (Nat.gcd a b) a b _ _ HBW2.out.size hP)
  clear hP ha2 hb2 hg2 he2 HT2 HA1 HG1 HBW HE1
  go_wp2_with fail
  refine HS.out.mono ?_
  rintro e w3 ⟨F, G, av, bv, rfl, hGl, ⟨⟨PA, PB, cF, cG, rfl, rfl, hcF, hcG, hnF, hnG, -⟩, hGF, hFl, hgg, hbl⟩⟩
  have HA3 := lh hnF
  have HB3 := lh hnG
  have HGG := lh hgg
  have HBW3 := lh (HBW2.out.trans hbl)
  clear hnF hnG hgg hbl HS HBW2 HC HA HB hs' hla hlb hle
  go_upto_region 6 with fail
  by_cases hG0 : G = 0
  ·have hbl : (((dig G).length : Int) == 0) = true := by rw [hG0, dig_zero]; rfl
   have hg : Hid (Nat.gcd a b = F) := by
    show _ = _
    rw [← HGG.out, hG0]; exact Nat.gcd_zero_right F
   clear hG0
   have hT := trim_any w3 PA cF (dig F) HA3.out (by omega) hcF
   rw [val_dig] at hT
   have HT := lh hT
   clear hT
   go_wp2_with fail
   refine HT.out.mono ?_
   rintro e w4 ⟨A4, c4, rfl, hc4, ha4, hb4⟩
   have HA4 := lh ha4
   have HB4 : Hid (Below w.heap.size w w4) := HBW3.out.trans (hb4.mono HBW3.out.size)
   clear ha4 hb4
   go_wp2_with fail
   go_ret
   rw [hg.out]
   exact ⟨A4, c4, rfl, hc4, HA4.out, HB4.out⟩
  ·have hbpos : 0 < G := by omega
   have hlb0 : (dig G).length ≠ 0 := fun h => hG0 (dig_nil_iff.1 h)
   have hbl : (((dig G).length : Int) == 0) = false := by rw [beq_eq_false_iff_ne]; omega
   have hlt0 : (0 : Int) < ((dig G).length : Int) := by omega
   have HBV : Hid (G = dg (dig G) 0) := by
    have h := val_take_dg (dig G) 0
    rw [List.take_of_length_le (by omega), val_dig, List.take_zero, val_nil, Nat.pow_zero, Nat.one_mul, Nat.zero_add] at h
    exact h
   obtain ⟨b1, o1, rfl, hG1, hcell⟩ := HB3.out.at_ (by omega)
   have hx := hcell 0 (by omega)
   rw [← HBV.out, Nat.add_zero] at hx
   have hb64 : G < B64 := by
    have := dg_lt (dig_digs G) 0
    rwa [← HBV.out] at this
   have HR : Hid (∀ q, Calls tz 219 #[.slice PA (dig F).length cF, .int .u64 G] (w3.drewN q) fun e w' => e = .returned (.int .u64 ((F % G : Nat) : Int)) ∧ ∃ n, w' = (w3.drewN q).drewN n) := by
    intro q
    have h := rest_any (w3.drewN q) cF G (dig F) PA (HA3.out.drewN q) hbpos hb64 (by omega)
    rwa [val_dig] at h
   have hrb := Nat.mod_lt F hbpos
   have hgc : Nat.gcd a b = Nat.gcd G (F % G) := by rw [← HGG.out]; exact (gcd_step F G).symm
   obtain ⟨r, hr⟩ : ∃ r, r = F % G := ⟨_, rfl⟩
   rw [← hr] at HR hrb hgc
   have HGC := lh hgc
   have HB64 := lh hb64
   clear hG0 hlb0 hgc hr hcell hb64
   go_wp2_with fail
   go_quiet ((go_at_call 219; exact quiet_first (HR.out _)))
   go_wp2_with fail
   go_loopw [5, 6] (fun xv yv wr => GcdRel w3 wr (Nat.gcd a b) xv yv) (fun _ yv _ => (intOf yv).toNat)
   case atStart => exact ⟨⟨G, r, rfl, rfl, hbpos, HB64.out, Nat.lt_trans hrb HB64.out, HGC.out.symm⟩, _, rfl⟩
   case round =>
    obtain ⟨⟨x, y, rfl, rfl, hx0, hx64, hy64, hg⟩, n, rfl⟩ := hrel
    by_cases hy : y = 0
    ·have hy' : ((y : Int) != 0) = false := by rw [hy]; rfl
     have HE : Hid (Nat.gcd a b = x) := by
      show _ = _
      rw [← hg, hy]; exact Nat.gcd_zero_right x
     have HX := lh (dig_one hx0 hx64)
     have HX64 := lh hx64
     clear hy hg hx64
     go_wp2_with fail
     go_ret
     rw [HE.out]
     refine ⟨some ⟨w3.heap.size, 0, none⟩, 1, by rw [HX.out]; rfl, by rw [HX.out]; simp, ?_, ?_⟩
     ·rw [HX.out]
      exact ((Blk.lit1 w3 x).drewN n).num (Digs.cons HX64.out Digs.nil)
     ·exact below_drewN (HBW3.out.alloc HBW3.out.size _) n
    ·have hy' : ((y : Int) != 0) = true := by rw [bne_iff_ne]; omega
     have hy1 : 1 ≤ (y : Int) := by omega
     have hyz : ((y : Int) == 0) = false := by rw [beq_eq_false_iff_ne]; omega
     have HS : Hid (∀ m, GcdRel w3 ((w3.drewN n).drewN m) (Nat.gcd a b) (.int .u64 (y : Int)) (.int .u64 ((x % y : Nat) : Int))) := by
      intro m
      have h1 := Nat.mod_lt x (show y > 0 by omega)
      refine ⟨⟨y, x % y, rfl, rfl, by omega, hy64, Nat.lt_trans h1 hy64, ?_⟩, n + m, by rw [World.drewN_drewN]⟩
      rw [← hg, Nat.gcd_comm x y, Nat.gcd_rec y x, Nat.gcd_comm]
     have hml : Hid (x % y < y) := Nat.mod_lt x (show y > 0 by omega)
     clear hg hy
     go_wp2_with fail
     go_quiet (fail)
     go_wp2_with fail
     go_roundw
     case rel => exact HS.out nq
     case measure =>
      have h := hml.out
      simp [intOf]; omega
theorem gcd_any (w : World) (A B : Option Addr) (c d : Nat) (xs ys : List Nat) (ha : Num w A xs) (hb : Num w B ys) (hn : xs.length ≤ 4294967296) (hm : ys.length ≤ 4294967296) (hc : xs.length ≤ c) (hd : ys.length ≤ d) :
  Calls tz 200 #[.slice A xs.length c, .slice B ys.length d] w (RetN w (Nat.gcd (val xs) (val ys))) := by
 by_cases hs : (dig (min (val xs) (val ys))).length ≤ 1
 ·exact gcd_small w A B c d xs ys ha hb (by omega) (by omega) hc hd hs
 ·exact gcd_long w A B c d xs ys ha hb hn hm hc hd (by omega)
