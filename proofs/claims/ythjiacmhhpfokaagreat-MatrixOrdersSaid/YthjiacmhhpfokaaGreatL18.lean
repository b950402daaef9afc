/- Part 18 of the proof: Gcd, RLow. -/
import Derived.Test.YthjiacmhhpfokaaGreatL17
namespace Go.Proofs.YthjiacmhhpfokaaGreat
open Lib renaming hid → lh
open Go.Proofs.Tryz renaming prog → tz
open Nat renaming le_refl → lR
open Go.RowKit.Below renaming refl → bR
section
set_option maxHeartbeats 4000000
open Go.RowKit
def TrimPost (w : World) (n : Nat) (e : Ending) (w' : World) : Prop :=
 ∃ A c, e = .returned (.slice A (dig n).length c) ∧ (dig n).length ≤ c ∧ Num w' A (dig n) ∧ Below w.heap.size w w' ∧ Blk w' w.heap.size (dig n) ∧ (0 < (dig n).length → A = some ⟨w.heap.size, 0, none⟩)
theorem trim_blk (w : World) (A : Option Addr) (c : Nat) (xs : List Nat) (h : Num w A xs) (hn : xs.length ≤ 1099511627776) (hc : xs.length ≤ c) :
  Calls tz 168 #[.slice A xs.length c] w (TrimPost w (val xs)) := by
 have C1 := lh (cut_any w A c xs h hn hc)
 have hl := dig_length_val h.1
 have hmk := run_make_u64 (dig (val xs)).length (by omega)
 have HT := lh (dig_take_self h.1)
 have HN := lh h
 clear h
 go_enter Tryz.func168, Tryz.ntmps168
 go_wp2_with fail
 refine C1.out.mono ?_
 rintro e w' ⟨A', c', rfl, hc', -, rfl⟩
 clear C1
 have K1 : ((dig (val xs)).map dcell).length = Nat.min xs.length (dig (val xs)).length := by
  rw [List.length_map]; exact (Nat.min_eq_right hl).symm
 have K2 : 0 < ((dig (val xs)).map dcell).length → ∃ ad, A = some ad ∧ ∀ j v, ((dig (val xs)).map dcell)[j]? = some v → (w.alloc (.cells (madeCells #[.int .u64 0] (dig (val xs)).length) 164)).cell? (ad.add j) = some v := by
  intro hp
  rw [List.length_map] at hp
  obtain ⟨b, off, rfl, hlt, hcell⟩ := (HN.out.alloc (.cells (madeCells #[.int .u64 0] (dig (val xs)).length) 164)).at_ (by omega)
  refine ⟨_, rfl, fun j v hj => ?_⟩
  rw [List.getElem?_map] at hj
  have hjl : j < (dig (val xs)).length := by
   rcases Nat.lt_or_ge j (dig (val xs)).length with h1 | h1
   ·exact h1
   ·rw [List.getElem?_eq_none h1] at hj; cases hj
  have hj2 : v = dcell (dg (dig (val xs)) j) := by
   rw [List.getElem?_eq_getElem hjl] at hj
   rw [dg_of_lt hjl]
   exact (Option.some.inj hj).symm
  have hj3 : dg (dig (val xs)) j = dg xs j := by
   conv => lhs; rw [HT.out]
   exact dg_take hjl
  rw [hj2, hj3, addr_add]
  exact hcell j (by omega)
 have HK1 := lh K1
 have HK2 := lh K2
 clear K1 K2
 go_wp2_with ((refine wpList_copy_splice rfl (.tmp 8) (.tmp 9) _ _ rfl 164 under_u64s (by kernel_rfl) (some ⟨w.heap.size, 0, none⟩) A (dig (val xs)).length (dig (val xs)).length xs.length c rfl rfl w.heap.size 0 ((List.replicate (dig (val xs)).length 0).map dcell) 164 (Blk.made w _) ((dig (val xs)).map dcell) HK1.out (fun hp => ⟨rfl, HK2.out hp⟩) (by simp) (dcells_one _) w.heap.size w ((bR _ _).alloc (lR _) _) (lR _) ?_); intro w2 hb2 hbw2)
 have hblk : Blk w2 w.heap.size (dig (val xs)) := by
  have h1 := hb2.out
  rw [splice_all _ _ (by simp)] at h1
  exact h1
 have hnum := hblk.num (dig_digs _)
 refine (cut_at w2 _ _ _ hnum (by omega) (lR _)).mono ?_
 rw [val_dig]
 rintro e w' ⟨A2, c2, rfl, hc2, ha2, rfl, hd2⟩
 go_wp2
 go_ret
 exact ⟨A2, c2, rfl, hc2, ha2, hbw2, hblk, fun hp => (hd2 hp).1⟩
theorem pair_start {w1 w2 : World} {B a b ca cb : Nat} {A C : Option Addr} (hle : b ≤ a) (hlen : (dig a).length ≤ 4294967296) (hb2 : 1 < (dig b).length) (hB : B ≤ w1.heap.size) (h1 : Num w2 A (dig a)) (h2 : Num w2 C (dig b)) (g1 : Blk w2 w1.heap.size (dig a)) {k : Nat} (hk : w1.heap.size < k) (g2 : Blk w2 k (dig b))
  (e1 : 0 < (dig a).length → A = some ⟨w1.heap.size, 0, none⟩) (e2 : 0 < (dig b).length → C = some ⟨k, 0, none⟩) (hca : (dig a).length ≤ ca) (hcb : (dig b).length ≤ cb) : Pair B w2 w2 (Nat.gcd a b) a b (.slice A (dig a).length ca) (.slice C (dig b).length cb) :=
 ⟨⟨A, C, ca, cb, rfl, rfl, hca, hcb, h1, h2, fun _ => ⟨_, k, dig a, dig b, e1 (by have := dig_length_mono hle; omega), e2 (by omega), by omega, hB, by omega, g1, g2, dig_digs _, dig_digs _, lR _, lR _, List.take_length, List.take_length⟩⟩, hle, hlen, rfl, bR _ _⟩
theorem gcd_long (w : World) (A B : Option Addr) (c d : Nat) (xs ys : List Nat) (ha : Num w A xs) (hb : Num w B ys) (hn : xs.length ≤ 4294967296) (hm : ys.length ≤ 4294967296)
  (hc : xs.length ≤ c) (hd : ys.length ≤ d) (hs : 1 < (dig (min (val xs) (val ys))).length) :
  Calls tz 200 #[.slice A xs.length c, .slice B ys.length d] w (RetN w (Nat.gcd (val xs) (val ys))) := by
 have C1 := lh (cut_any w A c xs ha (by omega) hc)
 have C2 := lh (cut_any w B d ys hb (by omega) hd)
 have hl1 := dig_length_val ha.1
 have hl2 := dig_length_val hb.1
 clear ha hb
 rcases Nat.lt_or_ge (val xs) (val ys) with hab | hab
 case' inl =>
  rw [Nat.min_eq_left (by omega)] at hs
  rw [Nat.gcd_comm]
  generalize val xs = b at *
  generalize val ys = a at *
  have HCM : Hid (cmpv b a = -1) := cmpv_lt hab
  have hle : b ≤ a := Nat.le_of_lt hab
  clear hab
  go_enter Tryz.func200, Tryz.ntmps200
  go_wp2_with fail
  refine C1.out.mono ?_
  rintro e w' ⟨B', d', rfl, hd', hb', rfl⟩
  go_wp2_with fail
  refine C2.out.mono ?_
  rintro e w' ⟨A', c', rfl, hc', ha', rfl⟩
  have HCMP := cmp_any w B' A' d' c' (dig b) (dig a) hb' ha' (by omega) (by omega) hd' hc'
  rw [val_dig, val_dig, HCM.out] at HCMP
  have HC := lh HCMP
  clear HCMP HCM
 case' inr =>
  rw [Nat.min_eq_right (by omega)] at hs
  generalize val xs = a at *
  generalize val ys = b at *
  obtain ⟨z, hz1, hz2⟩ : ∃ z : Int, cmpv a b = z ∧ ¬ z < 0 := by
   rcases Nat.lt_or_ge b a with h | h
   ·exact ⟨1, cmpv_gt h, by omega⟩
   ·exact ⟨0, cmpv_eq (by omega), by omega⟩
  have HCM := lh hz1
  have hle : b ≤ a := hab
  clear hz1 hab
  go_enter Tryz.func200, Tryz.ntmps200
  go_wp2_with fail
  refine C1.out.mono ?_
  rintro e w' ⟨A', c', rfl, hc', ha', rfl⟩
  go_wp2_with fail
  refine C2.out.mono ?_
  rintro e w' ⟨B', d', rfl, hd', hb', rfl⟩
  have HCMP := cmp_any w A' B' c' d' (dig a) (dig b) ha' hb' (by omega) (by omega) hc' hd'
  rw [val_dig, val_dig, HCM.out] at HCMP
  have HC := lh HCMP
  clear HCMP HCM
 all_goals
  have HA := lh ha'
  have HB := lh hb'
  clear C1 C2 ha' hb'
  have hs' : (1 : Int) < ((dig b).length : Int) := by omega
  have hla : (dig a).length ≤ 4294967296 := by omega
  have hlb : (dig b).length ≤ 4294967296 := by omega
  go_wp2_with fail
  refine HC.out.mono ?_
  rintro e w' ⟨rfl, q0, rfl⟩
  have hT1 := trim_blk (w.drewN q0) A' c' (dig a) (HA.out.drewN q0) (by omega) hc'
  rw [val_dig] at hT1
  have HT1 := lh hT1
  clear hT1
  go_wp2_with fail
  refine HT1.out.mono ?_
  rintro e w1 ⟨A1, c1, rfl, hc1, ha1, hb1, hg1, he1⟩
  have hbw : Below w.heap.size w w1 := (below_drewN (bR _ _) q0).trans hb1
  have hT2 := trim_blk w1 B' d' (dig b) (HB.out.below hbw) (by omega) hd'
  rw [val_dig] at hT2
  have HT2 := lh hT2
  have HA1 := lh ha1
  have HG1 := lh hg1
  have HBW := lh hbw
  have HE1 := lh he1
  clear hT2 ha1 hg1 hbw he1 hb1 HT1
  go_wp2_with fail
  refine HT2.out.mono ?_
  rintro e w2 ⟨A2, c2, rfl, hc2, ha2, hb2, hg2, he2⟩
  have hP := pair_start (w1 := w) (B := w.heap.size) hle hla (by omega) (lR _) (HA1.out.below hb2) ha2 (HG1.out.below hb2 HG1.out.lt) HG1.out.lt hg2 HE1.out he2 hc1 hc2
  have HBW2 := lh (HBW.out.trans (hb2.mono HBW.out.size))
  have HS := lh (shorten_any w2 w.heap.size (Nat.gcd a b) a b _ _ HBW2.out.size hP)
  clear hP ha2 hb2 hg2 he2 HT2 HA1 HG1 HBW HE1
  go_wp2_with fail
  refine HS.out.mono ?_
  rintro e w3 ⟨F, G, av, bv, rfl, hGl, ⟨⟨PA, PB, cF, cG, rfl, rfl, hcF, hcG, hnF, hnG, -⟩, hGF, hFl, hgg, hbl⟩⟩
  have HA3 := lh hnF
  have HB3 := lh hnG
  have HGG := lh hgg
  have HBW3 := lh (HBW2.out.trans hbl)
  clear hnF hnG hgg hbl HS HBW2 HC HA HB hs' hla hlb hle
  go_upto_region 6 with fail
  by_cases hG0 : G = 0
  ·have hbl : (((dig G).length : Int) == 0) = true := by rw [hG0, dig_zero]; rfl
   have hg : Hid (Nat.gcd a b = F) := by
    show _ = _
    rw [← HGG.out, hG0]; exact Nat.gcd_zero_right F
   clear hG0
   have hT := trim_any w3 PA cF (dig F) HA3.out (by omega) hcF
   rw [val_dig] at hT
   have HT := lh hT
   clear hT
   go_wp2_with fail
   refine HT.out.mono ?_
   rintro e w4 ⟨A4, c4, rfl, hc4, ha4, hb4⟩
   have HA4 := lh ha4
   have HB4 : Hid (Below w.heap.size w w4) := HBW3.out.trans (hb4.mono HBW3.out.size)
   clear ha4 hb4
   go_wp2_with fail
   go_ret
   rw [hg.out]
   exact ⟨A4, c4, rfl, hc4, HA4.out, HB4.out⟩
  ·have hbpos : 0 < G := by omega
   have hlb0 : (dig G).length ≠ 0 := fun h => hG0 (dig_nil_iff.1 h)
   have hbl : (((dig G).length : Int) == 0) = false := by rw [beq_eq_false_iff_ne]; omega
   have hlt0 : (0 : Int) < ((dig G).length : Int) := by omega
   have HBV : Hid (G = dg (dig G) 0) := by
    have h := val_take_dg (dig G) 0
    rw [List.take_of_length_le (by omega), val_dig, List.take_zero, val_nil, Nat.pow_zero, Nat.one_mul, Nat.zero_add] at h
    exact h
   obtain ⟨b1, o1, rfl, hG1, hcell⟩ := HB3.out.at_ (by omega)
   have hx := hcell 0 (by omega)
   rw [← HBV.out, Nat.add_zero] at hx
   have hb64 : G < B64 := by
    have := dg_lt (dig_digs G) 0
    rwa [← HBV.out] at this
   have HR : Hid (∀ q, Calls tz 219 #[.slice PA (dig F).length cF, .int .u64 G] (w3.drewN q) fun e w' => e = .returned (.int .u64 ((F % G : Nat) : Int)) ∧ ∃ n, w' = (w3.drewN q).drewN n) := by
    intro q
    have h := rest_any (w3.drewN q) cF G (dig F) PA (HA3.out.drewN q) hbpos hb64 (by omega)
    rwa [val_dig] at h
   have hrb := Nat.mod_lt F hbpos
   have hgc : Nat.gcd a b = Nat.gcd G (F % G) := by rw [← HGG.out]; exact (gcd_step F G).symm
   obtain ⟨r, hr⟩ : ∃ r, r = F % G := ⟨_, rfl⟩
   rw [← hr] at HR hrb hgc
   have HGC := lh hgc
   have HB64 := lh hb64
   clear hG0 hlb0 hgc hr hcell hb64
   go_wp2_with fail
   go_quiet ((go_at_call 219; exact quiet_first (HR.out _)))
   go_wp2_with fail
   go_loopw [5, 6] (fun xv yv wr => GcdRel w3 wr (Nat.gcd a b) xv yv) (fun _ yv _ => (intOf yv).toNat)
   case atStart => exact ⟨⟨G, r, rfl, rfl, hbpos, HB64.out, Nat.lt_trans hrb HB64.out, HGC.out.symm⟩, _, rfl⟩
   case round =>
    obtain ⟨⟨x, y, rfl, rfl, hx0, hx64, hy64, hg⟩, n, rfl⟩ := hrel
    by_cases hy : y = 0
    ·have hy' : ((y : Int) != 0) = false := by rw [hy]; rfl
     have HE : Hid (Nat.gcd a b = x) := by
      show _ = _
      rw [← hg, hy]; exact Nat.gcd_zero_right x
     have HX := lh (dig_one hx0 hx64)
     have HX64 := lh hx64
     clear hy hg hx64
     go_wp2_with fail
     go_ret
     rw [HE.out]
     refine ⟨some ⟨w3.heap.size, 0, none⟩, 1, by rw [HX.out]; rfl, by rw [HX.out]; simp, ?_, ?_⟩
     ·rw [HX.out]
      exact ((Blk.lit1 w3 x).drewN n).num (Digs.cons HX64.out Digs.nil)
     ·exact below_drewN (HBW3.out.alloc HBW3.out.size _) n
    ·have hy' : ((y : Int) != 0) = true := by rw [bne_iff_ne]; omega
     have hy1 : 1 ≤ (y : Int) := by omega
     have hyz : ((y : Int) == 0) = false := by rw [beq_eq_false_iff_ne]; omega
     have HS : Hid (∀ m, GcdRel w3 ((w3.drewN n).drewN m) (Nat.gcd a b) (.int .u64 (y : Int)) (.int .u64 ((x % y : Nat) : Int))) := by
      intro m
      have h1 := Nat.mod_lt x (show y > 0 by omega)
      refine ⟨⟨y, x % y, rfl, rfl, by omega, hy64, Nat.lt_trans h1 hy64, ?_⟩, n + m, by rw [World.drewN_drewN]⟩
      rw [← hg, Nat.gcd_comm x y, Nat.gcd_rec y x, Nat.gcd_comm]
     have hml : Hid (x % y < y) := Nat.mod_lt x (show y > 0 by omega)
     clear hg hy
     go_wp2_with fail
     go_quiet (fail)
     go_wp2_with fail
     go_roundw
     case rel => exact HS.out nq
     case measure =>
      have h := hml.out
      simp [intOf]; omega
theorem gcd_any (w : World) (A B : Option Addr) (c d : Nat) (xs ys : List Nat) (ha : Num w A xs) (hb : Num w B ys) (hn : xs.length ≤ 4294967296) (hm : ys.length ≤ 4294967296) (hc : xs.length ≤ c) (hd : ys.length ≤ d) :
  Calls tz 200 #[.slice A xs.length c, .slice B ys.length d] w (RetN w (Nat.gcd (val xs) (val ys))) := by
 by_cases hs : (dig (min (val xs) (val ys))).length ≤ 1
 ·exact gcd_small w A B c d xs ys ha hb (by omega) (by omega) hc hd hs
 ·exact gcd_long w A B c d xs ys ha hb hn hm hc hd (by omega)
end

namespace Q
set_option maxRecDepth 100000
set_option maxHeartbeats 8000000
open Go.RowKit
theorem gcd_j {w : World} {s t : Bool} {A B : Option Addr} {n c m d k : Nat} {y z : Int} (h1 : IsZ w s A n c y k) (h2 : IsZ w t B m d z k) (hk : k ≤ 3000) (r : Int) (hr : ((Nat.gcd y.natAbs z.natAbs : Nat) : Int) = r) : Calls tz 170 #[.agg #[.bool s, .slice A n c], .agg #[.bool t, .slice B m d]] w (RetJ w r) := by
 obtain ⟨xs, rfl, ha, hx⟩ := h1.ex
 obtain ⟨ys, rfl, hb, hy⟩ := h2.ex
 subst hr
 exact (zgcd_any w s t A B c d xs ys y z ha hb hx hy (by have := h1.le; omega) (by have := h2.le; omega) h1.cap h2.cap (fun W e1 e2 => gcd_any W A B c d xs ys e1 e2 (by have := h1.le; omega) (by have := h2.le; omega) h1.cap h2.cap)).mono fun _ _ => retj_of
theorem isone_j {w : World} {s : Bool} {A : Option Addr} {n c k : Nat} {z : Int} (h : IsZ w s A n c z k) (hk : k ≤ 3000) (b : Bool) (hb : decide (z = 1) = b) :
  Calls tz 172 #[.agg #[.bool s, .slice A n c]] w (RetB w b) := by
 have H1 := lh (small_j (h.alloc (.cells #[.bool s, .slice A n c] 25)) hk)
 have HW : Hid (Below w.heap.size w (w.alloc (.cells #[.bool s, .slice A n c] 25))) := (bR _ _).alloc (lR _) _
 rw [← smallv_one] at hb
 obtain ⟨v, hv⟩ : ∃ v, smallv z = v := ⟨_, rfl⟩
 obtain ⟨u, hu⟩ : ∃ u, smallb z = u := ⟨_, rfl⟩
 rw [hv] at hb
 rw [hv, hu] at H1
 clear h hv hu
 go_enter Tryz.func172, Tryz.ntmps172
 go_wp2_with fail
 refine H1.out.mono ?_
 rintro e w1 ⟨rfl, hb1⟩
 have HW1 := lh (below_on HW.out hb1)
 clear hb1
 go_wp2_with fail
 go_ret
 exact ⟨rfl, HW1.out⟩
structure SH (w wx : World) (s : Bool) (A : Option Addr) (n c : Nat) (t : Bool) (B : Option Addr) (m d : Nat) : Prop where
 bel : Below w.heap.size w wx
 i1 : Ibx wx w.heap.size s A n c
 i2 : Ibx wx (w.heap.size + 1) t B m d
 o : Ibx wx (w.heap.size + 1 + 1) false none 0 0
theorem SH.start (w : World) (s : Bool) (A : Option Addr) (n c : Nat) (t : Bool) (B : Option Addr) (m d : Nat) : SH w (((w.alloc (.cells #[.bool s, .slice A n c] 25)).alloc (.cells #[.bool t, .slice B m d] 25)).alloc (.cells #[.bool false, .slice none 0 0] 25)) s A n c t B m d :=
 ⟨(((bR _ _).alloc (lR _) _).alloc (by simp) _).alloc (by simp; omega) _, ((Ibx.new' _ _ _ _ _ _ rfl).alloc _).alloc _, (Ibx.new' _ _ _ _ _ _ (by simp)).alloc _, Ibx.new' _ _ _ _ _ _ (by simp)⟩
theorem SH.below {w wx wy : World} {s t : Bool} {A B : Option Addr} {n c m d : Nat} (h : SH w wx s A n c t B m d) (hb : Below wx.heap.size wx wy) : SH w wy s A n c t B m d :=
 ⟨below_on h.bel hb, h.i1.below hb, h.i2.below hb, h.o.below hb⟩
theorem retj_put {w wx : World} {g : Nat} {s0 : Bool} {A0 : Option Addr} {n0 c0 : Nat} {s : Bool} {A : Option Addr} {n c : Nat} {z : Int} (h : OneZ wx s A n c z) (ho : Ibx wx g s0 A0 n0 c0) (hg : w.heap.size ≤ g) (hb : Below w.heap.size w wx) :
  RetJ w z (.returned (.agg #[.bool s, .slice A n c])) (put2 wx g s A n c) := ⟨s, A, n, c, rfl, h.on2 ho.bx, below_put2 hb hg⟩
theorem share_j {w : World} {s t : Bool} {A B : Option Addr} {n c m d : Nat} {y z : Int} (h1 : OneZ w s A n c y) (h2 : OneZ w t B m d z) (hy : zl y ≤ 3000) (hz : zl z ≤ 3000) (r : Int) (hr : y / z = r) :
  Calls tz 171 #[.agg #[.bool s, .slice A n c], .agg #[.bool t, .slice B m d]] w (RetJ w r) := by
 have HS := lh (SH.start w s A n c t B m d)
 have HA := lh (((h1.alloc (.cells #[.bool s, .slice A n c] 25)).alloc (.cells #[.bool t, .slice B m d] 25)).alloc (.cells #[.bool false, .slice none 0 0] 25))
 have HB := lh (((h2.alloc (.cells #[.bool s, .slice A n c] 25)).alloc (.cells #[.bool t, .slice B m d] 25)).alloc (.cells #[.bool false, .slice none 0 0] 25))
 have HY := lh hy
 have HZ := lh hz
 clear h1 h2 hy hz
 by_cases hz1 : z = 1
 ·have HD : Hid (decide (z = 1) = true) := decide_eq_true hz1
  have HR : Hid (y = r) := by show _ = _; rw [← hr, hz1, Int.ediv_one]
  clear hr hz1
  go_enter Tryz.func171, Tryz.ntmps171
  go_wp2_with fail
  refine (isone_j (HB.out.isz HZ.out) (by omega) true HD.out).mono ?_
  rintro e w1 ⟨rfl, hb1⟩
  have HS1 := lh (HS.out.below hb1)
  have HA1 := lh (HA.out.below hb1)
  clear hb1
  have c0 := HS1.out.i1.c0
  have c1 := HS1.out.i1.c1
  have o0 := HS1.out.o.c0
  have o1 := HS1.out.o.c1
  have f0 := HS1.out.o.f 0
  have f1 := HS1.out.o.f 1
  go_wp2_with fail
  refine bodyPost_ret (v := .agg #[.bool s, .slice A n c]) (by simp [results, Tryz.results171, go_sem, o0, o1]) rfl ?_
  rw [← HR.out]
  exact retj_put HA1.out HS1.out.o (by omega) HS1.out.bel
 ·have HD : Hid (decide (z = 1) = false) := decide_eq_false hz1
  have HR := lh hr
  clear hr hz1
  go_enter Tryz.func171, Tryz.ntmps171
  go_wp2_with fail
  refine (isone_j (HB.out.isz HZ.out) (by omega) false HD.out).mono ?_
  rintro e w1 ⟨rfl, hb1⟩
  have HS1 := lh (HS.out.below hb1)
  have HA1 := lh (HA.out.below hb1)
  have HB1 := lh (HB.out.below hb1)
  clear hb1 HA HB
  have c0 := HS1.out.i1.c0
  have c1 := HS1.out.i1.c1
  have d0 := HS1.out.i2.c0
  have d1 := HS1.out.i2.c1
  go_wp2_with fail
  refine (divmod_j (HA1.out.isz HY.out) (HB1.out.isz HZ.out) (by omega)).mono ?_
  rintro e w2 ⟨s1, A1, n1, c1', t1, B1, m1, d1', rfl, h1, h2, hb2⟩
  rw [HR.out] at h1
  have HS2 := lh (HS1.out.below hb2)
  have HN := lh h1
  clear hb2 h1 h2 c0 c1 d0 d1 HS HS1 HA1 HB1
  have HS3 := lh (HS2.out.below (((bR _ _).alloc (lR _) (.cells #[.bool s1, .slice A1 n1 c1'] 25)).alloc (by simp) (.cells #[.bool t1, .slice B1 m1 d1'] 25)))
  have HN3 := lh ((HN.out.alloc (.cells #[.bool s1, .slice A1 n1 c1'] 25)).alloc (.cells #[.bool t1, .slice B1 m1 d1'] 25))
  have o0 := HS3.out.o.c0
  have o1 := HS3.out.o.c1
  have f0 := HS3.out.o.f 0
  have f1 := HS3.out.o.f 1
  have hlt := HS2.out.o.lt
  go_wp2_with fail
  refine bodyPost_ret (v := .agg #[.bool s1, .slice A1 n1 c1']) (by simp [results, Tryz.results171, go_sem, o0, o1]) rfl ?_
  exact retj_put HN3.out HS3.out.o (by omega) HS3.out.bel
theorem oneq_of {w : World} {s t : Bool} {A B : Option Addr} {n c m d : Nat} {q : Rat} (h1 : OneZ w s A n c q.num) (h2 : OneZ w t B m d (q.den : Int)) (h : q.den ≠ 1) : OneQ w s A n c t B m d q := by
 have e : dden q = dig q.den := if_neg h
 exact ⟨h1.es, h1.en, by rw [h2.es]; unfold zneg; exact decide_eq_false (by omega), by rw [h2.en, den_zl, e], h1.num, by have := h2.num; rw [Int.natAbs_natCast] at this; rw [e]; exact this, h1.cap, h2.cap⟩
theorem oneq_one {w : World} {s : Bool} {A : Option Addr} {n c : Nat} {q : Rat} (h1 : OneZ w s A n c q.num) (h : q.den = 1) (d : Nat) : OneQ w s A n c false none 0 d q := by
 have e : dden q = [] := if_pos h
 exact ⟨h1.es, h1.en, rfl, by rw [e]; rfl, h1.num, by rw [e]; exact Num.nil _ _, h1.cap, Nat.zero_le _⟩
theorem retq_put {w wx : World} {g : Nat} {s0 : Bool} {A0 : Option Addr} {n0 c0 : Nat} {t0 : Bool} {B0 : Option Addr} {m0 d0 : Nat} {s : Bool} {A : Option Addr} {n c : Nat} {t : Bool} {B : Option Addr} {m d : Nat} {q : Rat} (h : OneQ wx s A n c t B m d q) (ho : Qbx wx g s0 A0 n0 c0 t0 B0 m0 d0) (hg : w.heap.size ≤ g) (hb : Below w.heap.size w wx) :
  RetQ w q (.returned (.agg #[.bool s, .slice A n c, .bool t, .slice B m d])) (put4 wx g s A n c t B m d) := ⟨s, A, n, c, t, B, m, d, rfl, h.on4 ho.bx, below_put4 hb hg⟩
structure SQ (w wx : World) (s : Bool) (A : Option Addr) (n c : Nat) (t : Bool) (B : Option Addr) (m d : Nat) : Prop where
 bel : Below w.heap.size w wx
 i1 : Ibx wx w.heap.size s A n c
 i2 : Ibx wx (w.heap.size + 1) t B m d
 o : Qbx wx (w.heap.size + 1 + 1) false none 0 0 false none 0 0
section
variable {w wx wy : World} {s t s' t' : Bool} {A B A' B' : Option Addr} {n c m d n' c' m' d' : Nat}
theorem SQ.start (w : World) (s : Bool) (A : Option Addr) (n c : Nat) (t : Bool) (B : Option Addr) (m d : Nat) : SQ w (((w.alloc (.cells #[.bool s, .slice A n c] 25)).alloc (.cells #[.bool t, .slice B m d] 25)).alloc (.cells #[.bool false, .slice none 0 0, .bool false, .slice none 0 0] 27)) s A n c t B m d :=
 ⟨(((bR _ _).alloc (lR _) _).alloc (by simp) _).alloc (by simp; omega) _, ((Ibx.new' _ _ _ _ _ _ rfl).alloc _).alloc _, (Ibx.new' _ _ _ _ _ _ (by simp)).alloc _, Qbx.new _ _ (by simp)⟩
theorem SQ.below (h : SQ w wx s A n c t B m d) (hb : Below wx.heap.size wx wy) : SQ w wy s A n c t B m d :=
 ⟨below_on h.bel hb, h.i1.below hb, h.i2.below hb, h.o.below hb⟩
theorem SQ.alloc (h : SQ w wx s A n c t B m d) (o : Obj) : SQ w (wx.alloc o) s A n c t B m d := h.below ((bR _ _).alloc (lR _) o)
theorem SQ.drew (h : SQ w wx s A n c t B m d) : SQ w wx.drew s A n c t B m d := h.below ((bR _ _).drew)
theorem SQ.fst (h : SQ w wx s A n c t B m d) : SQ w (put2 wx w.heap.size s' A' n' c') s' A' n' c' t B m d :=
 ⟨below_put2 h.bel (lR _), h.i1.put, h.i2.put_far (by omega), h.o.put2_far (by omega)⟩
theorem SQ.snd (h : SQ w wx s A n c t B m d) : SQ w (put2 wx (w.heap.size + 1) t' B' m' d') s A n c t' B' m' d' :=
 ⟨below_put2 h.bel (by omega), h.i1.put_far (by omega), h.i2.put, h.o.put2_far (by omega)⟩
theorem SQ.k (h : SQ w wx s A n c t B m d) : C4 w.heap.size (.bool s) (.slice A n c) (.bool t) (.slice B m d) wx := ⟨h.i1.c0, h.i1.c1, h.i2.c0, h.i2.c1⟩
end
def hideL (o : Op) : Op := o
@[go_sem] theorem hideL_eq (o : Op) : hideL o = o := rfl
theorem lowest_j {w : World} {s t : Bool} {A B : Option Addr} {n c m d : Nat} {y z : Int} {q : Rat} (h1 : OneZ w s A n c y) (h2 : OneZ w t B m d z) (hy : zl y ≤ 3000) (hz : zl z ≤ 3000) (hzp : 0 < z) (hq : Rat.divInt y z = q) :
  Calls tz 133 #[.agg #[.bool s, .slice A n c], .agg #[.bool t, .slice B m d]] w (RetQ w q) := by
 have HS := lh (SQ.start w s A n c t B m d)
 have HA := lh (((h1.alloc (.cells #[.bool s, .slice A n c] 25)).alloc (.cells #[.bool t, .slice B m d] 25)).alloc (.cells #[.bool false, .slice none 0 0, .bool false, .slice none 0 0] 27))
 have HB := lh (((h2.alloc (.cells #[.bool s, .slice A n c] 25)).alloc (.cells #[.bool t, .slice B m d] 25)).alloc (.cells #[.bool false, .slice none 0 0, .bool false, .slice none 0 0] 27))
 have HY := lh hy
 have HZ := lh hz
 have hlow := low (n := y) hzp
 have hgl : zl (((Nat.gcd y.natAbs z.natAbs : Nat) : Int)) ≤ 3000 := by
  refine Nat.le_trans ?_ hz
  unfold zl
  rw [Int.natAbs_natCast]
  exact dl_le (Nat.gcd_le_right _ (by omega))
 obtain ⟨g, hg⟩ : ∃ g : Int, ((Nat.gcd y.natAbs z.natAbs : Nat) : Int) = g := ⟨_, rfl⟩
 rw [hq, hg] at hlow
 rw [hg] at hgl
 have hle := low_le (n := y) hzp
 rw [hq] at hle
 have HDL : Hid (zl (q.den : Int) ≤ 3000) := by show _ ≤ _; rw [den_zl]; exact Nat.le_trans (dl_le hle.2) hz
 have HG := lh hg
 have HGL := lh hgl
 have HN := lh hlow.1
 have HD := lh hlow.2
 clear h1 h2 hy hz hlow hgl hg hle hq
 go_enter Tryz.func133, Tryz.ntmps133
 go_wp2_with fail
 refine (gcd_j (HA.out.isz HY.out) (HB.out.isz HZ.out) (by omega) g HG.out).mono ?_
 rintro e w1 ⟨sg, Ag, ng, cg, rfl, h1, hb1⟩
 have HS1 := lh (HS.out.below hb1)
 have HA1 := lh (HA.out.below hb1)
 have HB1 := lh (HB.out.below hb1)
 have H1 := lh h1
 have HLW : Hid (w.heap.size + 1 + 1 < w1.heap.size) := HS1.out.o.lt
 clear h1 hb1 HS HA HB
 go_upto_region 2 with fail
 go_cut [] (fun wx => ∃ (s1 : Bool) (A1 : Option Addr) (n1 c1 : Nat) (t1 : Bool) (B1 : Option Addr) (m1 d1 : Nat), Hid (SQ w wx s1 A1 n1 c1 t1 B1 m1 d1) ∧ Hid (OneZ wx s1 A1 n1 c1 q.num) ∧ Hid (OneZ wx t1 B1 m1 d1 (q.den : Int)))
 case first =>
  obtain ⟨W, hW⟩ : ∃ W, w1.alloc (.cells #[.bool sg, .slice Ag ng cg] 25) = W := ⟨_, rfl⟩
  have HG2 : Hid (Ibx W w1.heap.size sg Ag ng cg) := by rw [← hW]; exact Ibx.new' _ _ _ _ _ _ rfl
  have HS2 : Hid (SQ w W s A n c t B m d) := by rw [← hW]; exact HS1.out.alloc _
  have HA2 : Hid (OneZ W s A n c y) := by rw [← hW]; exact HA1.out.alloc _
  have HB2 : Hid (OneZ W t B m d z) := by rw [← hW]; exact HB1.out.alloc _
  have HO2 : Hid (OneZ W sg Ag ng cg g) := by rw [← hW]; exact H1.out.alloc _
  rw [hW]
  clear hW HS1 HA1 HB1 H1
  have k0 := HS2.out.i1.c0
  have k1 := HS2.out.i1.c1
  have k2 := HS2.out.i2.c0
  have k3 := HS2.out.i2.c1
  have hlt := HS2.out.i2.lt
  have hlw : w.heap.size + 1 + 1 < w1.heap.size := HLW.out
  rw [show Op.load 25 (Operand.tmp 2) = hideL (Op.load 25 (Operand.tmp 2)) from rfl, show Op.load 25 (Operand.tmp 3) = hideL (Op.load 25 (Operand.tmp 3)) from rfl]
  go_region_held3 (fun V => V.cell? ⟨w1.heap.size, 0, none⟩ = some (.bool sg) ∧ V.cell? ⟨w1.heap.size, 1, none⟩ = some (.slice Ag ng cg))
   (first | (with_reducible exact ⟨HG4.out.c0, HG4.out.c1⟩) | (with_reducible exact ⟨(HG4.out.put_far (by omega)).c0, (HG4.out.put_far (by omega)).c1⟩) | (with_reducible exact ⟨((HG4.out.put_far (by omega)).put_far (by omega)).c0, ((HG4.out.put_far (by omega)).put_far (by omega)).c1⟩) | (with_reducible exact ⟨HG3.out.c0, HG3.out.c1⟩) | (with_reducible exact ⟨HG2.out.drew.c0, HG2.out.drew.c1⟩))
   (first
   | (go_at_call 171; (refine (share_j HB3.out HO3.out HZ.out HGL.out (q.den : Int) HD.out).mono ?_); rintro e w4 ⟨s4, A4, n4, c4, rfl, h4, hb4⟩; have HS4 := lh (HS3.out.below hb4); have HG4 := lh (HG3.out.below hb4); have HN4 := lh (HN3.out.below hb4); have HD4 := lh h4; have f0 := HS4.out.i1.f 0; have f1 := HS4.out.i1.f 1; have f2 := HS4.out.i2.f 0; have f3 := HS4.out.i2.f 1; have k0 := HS4.out.i1.c0; have k1 := HS4.out.i1.c1; have k2 := HS4.out.i2.c0; have k3 := HS4.out.i2.c1)
   | (go_at_call 171; (refine (share_j HA2.out.drew HO2.out.drew HY.out HGL.out q.num HN.out).mono ?_); rintro e w3 ⟨s3, A3, n3, c3, rfl, h3, hb3⟩; have HS3 := lh (HS2.out.drew.below hb3); have HG3 := lh (HG2.out.drew.below hb3); have HB3 := lh (HB2.out.drew.below hb3); have HO3 := lh (HO2.out.drew.below hb3); have HN3 := lh h3; have k2 := HS3.out.i2.c0; have k3 := HS3.out.i2.c1))
  all_goals
   go_wp2_with fail
   go_meet
   exact ⟨s3, A3, n3, c3, s4, A4, n4, c4, HS4.out.fst.snd, (HN4.out.on2 HS4.out.i1.bx).on2 HS4.out.fst.i2.bx, (HD4.out.on2 HS4.out.i1.bx).on2 HS4.out.fst.i2.bx⟩
 case rest =>
  clear HS1 HA1 HB1 H1
  obtain ⟨s1, A1, n1, c1, t1, B1, m1, d1, HS, HN1, HD1⟩ := hcut
  have c0 := HS.out.i1.c0
  have c1' := HS.out.i1.c1
  have c2 := HS.out.i2.c0
  have c3 := HS.out.i2.c1
  by_cases hd1 : q.den = 1
  ·have HE : Hid (decide ((q.den : Int) = 1) = true) := decide_eq_true (by omega)
   go_wp2_with fail
   refine (isone_j (HD1.out.isz HDL.out) (by omega) true HE.out).mono ?_
   rintro e w5 ⟨rfl, hb5⟩
   have HS5 := lh (HS.out.below hb5)
   have HN5 := lh (HN1.out.below hb5)
   clear hb5 c0 c1' c2 c3
   have c0 := HS5.out.i1.c0
   have c1' := HS5.out.i1.c1
   have c2 := HS5.out.i2.c0
   have c3 := HS5.out.i2.c1
   have f2 := HS5.out.i2.f 0
   have f3 := HS5.out.i2.f 1
   have o0 := HS5.out.o.c0
   have o1 := HS5.out.o.c1
   have o2 := HS5.out.o.c2
   have o3 := HS5.out.o.c3
   have p0 := HS5.out.o.f 0
   have p1 := HS5.out.o.f 1
   have p2 := HS5.out.o.f 2
   have p3 := HS5.out.o.f 3
   go_wp2_with fail
   refine bodyPost_ret (v := .agg #[.bool s1, .slice A1 n1 c1, .bool false, .slice none 0 0]) (by simp [results, Tryz.results133, go_sem, o0, o1, o2, o3]) rfl ?_
   exact retq_put (oneq_one (HN5.out.on2 HS5.out.i2.bx) hd1 0) HS5.out.snd.o (by omega) HS5.out.snd.bel
  ·have HE : Hid (decide ((q.den : Int) = 1) = false) := decide_eq_false (by omega)
   go_wp2_with fail
   refine (isone_j (HD1.out.isz HDL.out) (by omega) false HE.out).mono ?_
   rintro e w5 ⟨rfl, hb5⟩
   have HS5 := lh (HS.out.below hb5)
   have HN5 := lh (HN1.out.below hb5)
   have HD5 := lh (HD1.out.below hb5)
   clear hb5 c0 c1' c2 c3
   have c0 := HS5.out.i1.c0
   have c1' := HS5.out.i1.c1
   have c2 := HS5.out.i2.c0
   have c3 := HS5.out.i2.c1
   have o0 := HS5.out.o.c0
   have o1 := HS5.out.o.c1
   have o2 := HS5.out.o.c2
   have o3 := HS5.out.o.c3
   have p0 := HS5.out.o.f 0
   have p1 := HS5.out.o.f 1
   have p2 := HS5.out.o.f 2
   have p3 := HS5.out.o.f 3
   go_wp2_with fail
   refine bodyPost_ret (v := .agg #[.bool s1, .slice A1 n1 c1, .bool t1, .slice B1 m1 d1]) (by simp [results, Tryz.results133, go_sem, o0, o1, o2, o3]) rfl ?_
   exact retq_put (oneq_of HN5.out HD5.out hd1) HS5.out.o (by omega) HS5.out.bel
