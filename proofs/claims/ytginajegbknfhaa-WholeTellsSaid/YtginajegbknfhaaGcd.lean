/- Trim, with the block of its answer; the whole of Gcd. -/
import Derived.Test.YtginajegbknfhaaShorten
namespace Go.Proofs.Ytginajegbknfhaa
open Go.RowKit

def TrimPost (w : World) (n : Nat) (e : Ending) (w' : World) : Prop :=
  ∃ A c, e = .returned (.slice A (dig n).length c) ∧ (dig n).length ≤ c ∧ Num w' A (dig n) ∧ Below w.heap.size w w' ∧ Blk w' w.heap.size (dig n) ∧ (0 < (dig n).length → A = some ⟨w.heap.size, 0, none⟩)

set_option maxHeartbeats 800000 in
theorem trim_blk (w : World) (A : Option Addr) (c : Nat) (xs : List Nat) (h : Num w A xs) (hn : xs.length ≤ 1099511627776) (hc : xs.length ≤ c) :
    Calls Try.prog 25 #[.slice A xs.length c] w (TrimPost w (val xs)) := by
  have C1 := Lib.hid (cut_any w A c xs h hn hc)
  have hl := dig_length_val h.1
  have hmk := run_make_u64 (dig (val xs)).length (by omega)
  have HT := Lib.hid (dig_take_self h.1)
  have HN := Lib.hid h
  clear h
  go_enter Try.func25, Try.ntmps25
  go_wp2_with fail
  refine C1.out.mono ?_
  rintro e w' ⟨A', c', rfl, hc', -, rfl⟩
  clear C1
  have K1 : ((dig (val xs)).map dcell).length = Nat.min xs.length (dig (val xs)).length := by
    rw [List.length_map]; exact (Nat.min_eq_right hl).symm
  have K2 : 0 < ((dig (val xs)).map dcell).length → ∃ ad, A = some ad ∧ ∀ j v, ((dig (val xs)).map dcell)[j]? = some v → (w.alloc (.cells (madeCells #[.int .u64 0] (dig (val xs)).length) 50)).cell? (ad.add j) = some v := by
    intro hp
    rw [List.length_map] at hp
    obtain ⟨b, off, rfl, hlt, hcell⟩ := (HN.out.alloc (.cells (madeCells #[.int .u64 0] (dig (val xs)).length) 50)).at_ (by omega)
    refine ⟨_, rfl, fun j v hj => ?_⟩
    rw [List.getElem?_map] at hj
    have hjl : j < (dig (val xs)).length := by
      rcases Nat.lt_or_ge j (dig (val xs)).length with h1 | h1
      · exact h1
      · rw [List.getElem?_eq_none h1] at hj; cases hj
    have hj2 : v = dcell (dg (dig (val xs)) j) := by
      rw [List.getElem?_eq_getElem hjl] at hj
      rw [dg_of_lt hjl]
      exact (Option.some.inj hj).symm
    have hj3 : dg (dig (val xs)) j = dg xs j := by
      conv => lhs; rw [HT.out]
      exact dg_take hjl
    rw [hj2, hj3, addr_add]
    exact hcell j (by omega)
  have HK1 := Lib.hid K1
  have HK2 := Lib.hid K2
  clear K1 K2
  go_wp2_with ((refine wpList_copy_splice rfl (.tmp 8) (.tmp 9) _ _ rfl 50 under_u64s (by kernel_rfl) (some ⟨w.heap.size, 0, none⟩) A (dig (val xs)).length (dig (val xs)).length xs.length c rfl rfl w.heap.size 0 ((List.replicate (dig (val xs)).length 0).map dcell) 50 (Blk.made w _) ((dig (val xs)).map dcell) HK1.out (fun hp => ⟨rfl, HK2.out hp⟩) (by simp) (dcells_one _) w.heap.size w ((Below.refl _ _).alloc (Nat.le_refl _) _) (Nat.le_refl _) ?_); intro w2 hb2 hbw2)
  have hblk : Blk w2 w.heap.size (dig (val xs)) := by
    have h1 := hb2.out
    rw [splice_all _ _ (by simp)] at h1
    exact h1
  have hnum := hblk.num (dig_digs _)
  refine (cut_at w2 _ _ _ hnum (by omega) (Nat.le_refl _)).mono ?_
  rw [val_dig]
  rintro e w' ⟨A2, c2, rfl, hc2, ha2, rfl, hd2⟩
  go_wp2
  go_ret
  exact ⟨A2, c2, rfl, hc2, ha2, hbw2, hblk, fun hp => (hd2 hp).1⟩

theorem pair_start {w1 w2 : World} {B a b ca cb : Nat} {A C : Option Addr} (hle : b ≤ a) (hlen : (dig a).length ≤ 4294967296) (hb2 : 1 < (dig b).length) (hB : B ≤ w1.heap.size) (h1 : Num w2 A (dig a)) (h2 : Num w2 C (dig b)) (g1 : Blk w2 w1.heap.size (dig a)) {k : Nat} (hk : w1.heap.size < k) (g2 : Blk w2 k (dig b))
    (e1 : 0 < (dig a).length → A = some ⟨w1.heap.size, 0, none⟩) (e2 : 0 < (dig b).length → C = some ⟨k, 0, none⟩) (hca : (dig a).length ≤ ca) (hcb : (dig b).length ≤ cb) : Pair B w2 w2 (Nat.gcd a b) a b (.slice A (dig a).length ca) (.slice C (dig b).length cb) :=
  ⟨⟨A, C, ca, cb, rfl, rfl, hca, hcb, h1, h2, fun _ => ⟨_, k, dig a, dig b, e1 (by have := dig_length_mono hle; omega), e2 (by omega), by omega, hB, by omega, g1, g2, dig_digs _, dig_digs _, Nat.le_refl _, Nat.le_refl _, List.take_length, List.take_length⟩⟩, hle, hlen, rfl, Below.refl _ _⟩

set_option maxHeartbeats 4000000 in
theorem gcd_long (w : World) (A B : Option Addr) (c d : Nat) (xs ys : List Nat) (ha : Num w A xs) (hb : Num w B ys) (hn : xs.length ≤ 4294967296) (hm : ys.length ≤ 4294967296)
    (hc : xs.length ≤ c) (hd : ys.length ≤ d) (hs : 1 < (dig (min (val xs) (val ys))).length) :
    Calls Try.prog 28 #[.slice A xs.length c, .slice B ys.length d] w (RetN w (Nat.gcd (val xs) (val ys))) := by
  have C1 := Lib.hid (cut_any w A c xs ha (by omega) hc)
  have C2 := Lib.hid (cut_any w B d ys hb (by omega) hd)
  have hl1 := dig_length_val ha.1
  have hl2 := dig_length_val hb.1
  clear ha hb
  rcases Nat.lt_or_ge (val xs) (val ys) with hab | hab
  case' inl =>
    rw [Nat.min_eq_left (by omega)] at hs
    rw [Nat.gcd_comm]
    generalize val xs = b at *
    generalize val ys = a at *
    have HCM : Hid (cmpv b a = -1) := cmpv_lt hab
    have hle : b ≤ a := Nat.le_of_lt hab
    clear hab
    go_enter Try.func28, Try.ntmps28
    go_wp2_with fail
    refine C1.out.mono ?_
    rintro e w' ⟨B', d', rfl, hd', hb', rfl⟩
    go_wp2_with fail
    refine C2.out.mono ?_
    rintro e w' ⟨A', c', rfl, hc', ha', rfl⟩
    have HCMP := cmp_any w B' A' d' c' (dig b) (dig a) hb' ha' (by omega) (by omega) hd' hc'
    rw [val_dig, val_dig, HCM.out] at HCMP
    have HC := Lib.hid HCMP
    clear HCMP HCM
  case' inr =>
    rw [Nat.min_eq_right (by omega)] at hs
    generalize val xs = a at *
    generalize val ys = b at *
    obtain ⟨z, hz1, hz2⟩ : ∃ z : Int, cmpv a b = z ∧ ¬ z < 0 := by
      rcases Nat.lt_or_ge b a with h | h
      · exact ⟨1, cmpv_gt h, by omega⟩
      · exact ⟨0, cmpv_eq (by omega), by omega⟩
    have HCM := Lib.hid hz1
    have hle : b ≤ a := hab
    clear hz1 hab
    go_enter Try.func28, Try.ntmps28
    go_wp2_with fail
    refine C1.out.mono ?_
    rintro e w' ⟨A', c', rfl, hc', ha', rfl⟩
    go_wp2_with fail
    refine C2.out.mono ?_
    rintro e w' ⟨B', d', rfl, hd', hb', rfl⟩
    have HCMP := cmp_any w A' B' c' d' (dig a) (dig b) ha' hb' (by omega) (by omega) hc' hd'
    rw [val_dig, val_dig, HCM.out] at HCMP
    have HC := Lib.hid HCMP
    clear HCMP HCM
  all_goals
    have HA := Lib.hid ha'
    have HB := Lib.hid hb'
    clear C1 C2 ha' hb'
    have hs' : (1 : Int) < ((dig b).length : Int) := by omega
    have hla : (dig a).length ≤ 4294967296 := by omega
    have hlb : (dig b).length ≤ 4294967296 := by omega
    go_wp2_with fail
    refine HC.out.mono ?_
    rintro e w' ⟨rfl, q0, rfl⟩
    have hT1 := trim_blk (w.drewN q0) A' c' (dig a) (HA.out.drewN q0) (by omega) hc'
    rw [val_dig] at hT1
    have HT1 := Lib.hid hT1
    clear hT1
    go_wp2_with fail
    refine HT1.out.mono ?_
    rintro e w1 ⟨A1, c1, rfl, hc1, ha1, hb1, hg1, he1⟩
    have hbw : Below w.heap.size w w1 := (below_drewN (Below.refl _ _) q0).trans hb1
    have hT2 := trim_blk w1 B' d' (dig b) (HB.out.below hbw) (by omega) hd'
    rw [val_dig] at hT2
    have HT2 := Lib.hid hT2
    have HA1 := Lib.hid ha1
    have HG1 := Lib.hid hg1
    have HBW := Lib.hid hbw
    have HE1 := Lib.hid he1
    clear hT2 ha1 hg1 hbw he1 hb1 HT1
    go_wp2_with fail
    refine HT2.out.mono ?_
    rintro e w2 ⟨A2, c2, rfl, hc2, ha2, hb2, hg2, he2⟩
    have hP := pair_start (w1 := w) (B := w.heap.size) hle hla (by omega) (Nat.le_refl _) (HA1.out.below hb2) ha2 (HG1.out.below hb2 HG1.out.lt) HG1.out.lt hg2 HE1.out he2 hc1 hc2
    have HBW2 := Lib.hid (HBW.out.trans (hb2.mono HBW.out.size))
    have HS := Lib.hid (shorten_any w2 w.heap.size (Nat.gcd a b) a b _ _ HBW2.out.size hP)
    clear hP ha2 hb2 hg2 he2 HT2 HA1 HG1 HBW HE1
    go_wp2_with fail
    refine HS.out.mono ?_
    rintro e w3 ⟨F, G, av, bv, rfl, hGl, ⟨⟨PA, PB, cF, cG, rfl, rfl, hcF, hcG, hnF, hnG, -⟩, hGF, hFl, hgg, hbl⟩⟩
    have HA3 := Lib.hid hnF
    have HB3 := Lib.hid hnG
    have HGG := Lib.hid hgg
    have HBW3 := Lib.hid (HBW2.out.trans hbl)
    clear hnF hnG hgg hbl HS HBW2 HC HA HB hs' hla hlb hle
    go_upto_region 6 with fail
    by_cases hG0 : G = 0
    · have hbl : (((dig G).length : Int) == 0) = true := by rw [hG0, dig_zero]; rfl
      have hg : Hid (Nat.gcd a b = F) := by
        show _ = _
        rw [← HGG.out, hG0]; exact Nat.gcd_zero_right F
      clear hG0
      have hT := trim_any w3 PA cF (dig F) HA3.out (by omega) hcF
      rw [val_dig] at hT
      have HT := Lib.hid hT
      clear hT
      go_wp2_with fail
      refine HT.out.mono ?_
      rintro e w4 ⟨A4, c4, rfl, hc4, ha4, hb4⟩
      have HA4 := Lib.hid ha4
      have HB4 : Hid (Below w.heap.size w w4) := HBW3.out.trans (hb4.mono HBW3.out.size)
      clear ha4 hb4
      go_wp2_with fail
      go_ret
      rw [hg.out]
      exact ⟨A4, c4, rfl, hc4, HA4.out, HB4.out⟩
    · have hbpos : 0 < G := by omega
      have hlb0 : (dig G).length ≠ 0 := fun h => hG0 (dig_nil_iff.1 h)
      have hbl : (((dig G).length : Int) == 0) = false := by rw [beq_eq_false_iff_ne]; omega
      have hlt0 : (0 : Int) < ((dig G).length : Int) := by omega
      have HBV : Hid (G = dg (dig G) 0) := by
        have h := val_take_dg (dig G) 0
        rw [List.take_of_length_le (by omega), val_dig, List.take_zero, val_nil, Nat.pow_zero, Nat.one_mul, Nat.zero_add] at h
        exact h
      obtain ⟨b1, o1, rfl, hG1, hcell⟩ := HB3.out.at_ (by omega)
      have hx := hcell 0 (by omega)
      rw [← HBV.out, Nat.add_zero] at hx
      have hb64 : G < B64 := by
        have := dg_lt (dig_digs G) 0
        rwa [← HBV.out] at this
      have HR : Hid (∀ q, Calls Try.prog 74 #[.slice PA (dig F).length cF, .int .u64 G] (w3.drewN q) fun e w' => e = .returned (.int .u64 ((F % G : Nat) : Int)) ∧ ∃ n, w' = (w3.drewN q).drewN n) := by
        intro q
        have h := rest_any (w3.drewN q) cF G (dig F) PA (HA3.out.drewN q) hbpos hb64 (by omega)
        rwa [val_dig] at h
      have hrb := Nat.mod_lt F hbpos
      have hgc : Nat.gcd a b = Nat.gcd G (F % G) := by rw [← HGG.out]; exact (gcd_step F G).symm
      obtain ⟨r, hr⟩ : ∃ r, r = F % G := ⟨_, rfl⟩
      rw [← hr] at HR hrb hgc
      have HGC := Lib.hid hgc
      have HB64 := Lib.hid hb64
      clear hG0 hlb0 hgc hr hcell hb64
      go_wp2_with fail
      go_quiet ((go_at_call 74; exact quiet_first (HR.out _)))
      go_wp2_with fail
      go_loopw [5, 6] (fun xv yv wr => GcdRel w3 wr (Nat.gcd a b) xv yv) (fun _ yv _ => (intOf yv).toNat)
      case atStart => exact ⟨⟨G, r, rfl, rfl, hbpos, HB64.out, Nat.lt_trans hrb HB64.out, HGC.out.symm⟩, _, rfl⟩
      case round =>
        obtain ⟨⟨x, y, rfl, rfl, hx0, hx64, hy64, hg⟩, n, rfl⟩ := hrel
        by_cases hy : y = 0
        · have hy' : ((y : Int) != 0) = false := by rw [hy]; rfl
          have HE : Hid (Nat.gcd a b = x) := by
            show _ = _
            rw [← hg, hy]; exact Nat.gcd_zero_right x
          have HX := Lib.hid (dig_one hx0 hx64)
          have HX64 := Lib.hid hx64
          clear hy hg hx64
          go_wp2_with fail
          go_ret
          rw [HE.out]
          refine ⟨some ⟨w3.heap.size, 0, none⟩, 1, by rw [HX.out]; rfl, by rw [HX.out]; simp, ?_, ?_⟩
          · rw [HX.out]
            exact ((Blk.lit1 w3 x).drewN n).num (Digs.cons HX64.out Digs.nil)
          · exact below_drewN (HBW3.out.alloc HBW3.out.size _) n
        · have hy' : ((y : Int) != 0) = true := by rw [bne_iff_ne]; omega
          have hy1 : 1 ≤ (y : Int) := by omega
          have hyz : ((y : Int) == 0) = false := by rw [beq_eq_false_iff_ne]; omega
          have HS : Hid (∀ m, GcdRel w3 ((w3.drewN n).drewN m) (Nat.gcd a b) (.int .u64 (y : Int)) (.int .u64 ((x % y : Nat) : Int))) := by
            intro m
            have h1 := Nat.mod_lt x (show y > 0 by omega)
            refine ⟨⟨y, x % y, rfl, rfl, by omega, hy64, Nat.lt_trans h1 hy64, ?_⟩, n + m, by rw [World.drewN_drewN]⟩
            rw [← hg, Nat.gcd_comm x y, Nat.gcd_rec y x, Nat.gcd_comm]
          have hml : Hid (x % y < y) := Nat.mod_lt x (show y > 0 by omega)
          clear hg hy
          go_wp2_with fail
          go_quiet (fail)
          go_wp2_with fail
          go_roundw
          case rel => exact HS.out nq
          case measure =>
            have h := hml.out
            simp [intOf]; omega

/-- Gcd, of any two numbers. -/
theorem gcd_any (w : World) (A B : Option Addr) (c d : Nat) (xs ys : List Nat) (ha : Num w A xs) (hb : Num w B ys) (hn : xs.length ≤ 4294967296) (hm : ys.length ≤ 4294967296) (hc : xs.length ≤ c) (hd : ys.length ≤ d) :
    Calls Try.prog 28 #[.slice A xs.length c, .slice B ys.length d] w (RetN w (Nat.gcd (val xs) (val ys))) := by
  by_cases hs : (dig (min (val xs) (val ys))).length ≤ 1
  · exact gcd_small w A B c d xs ys ha hb (by omega) (by omega) hc hd hs
  · exact gcd_long w A B c d xs ys ha hb hn hm hc hd (by omega)
end Go.Proofs.Ytginajegbknfhaa
