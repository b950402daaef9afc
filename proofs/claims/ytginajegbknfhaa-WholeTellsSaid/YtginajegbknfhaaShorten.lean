/- shorten: Euclid's steps, many at once, till the lesser number has one digit at most. -/
import Derived.Test.YtginajegbknfhaaShortMath
import Derived.Deep.LoopGhost
namespace Go.Proofs.Ytginajegbknfhaa
open Go.RowKit

/-- What shorten hands back. -/
def ShortPost (B : Nat) (w : World) (g : Nat) (e : Ending) (w' : World) : Prop :=
  ∃ F G av bv, e = .returned (.tuple #[av, bv]) ∧ (dig G).length ≤ 1 ∧ Pair B w w' g F G av bv

theorem gcd_step (F G : Nat) : Nat.gcd G (F % G) = Nat.gcd F G := by rw [Nat.gcd_comm F G, Nat.gcd_rec G F, Nat.gcd_comm]

theorem pair_divided {B : Nat} {w wx w' : World} {g F G gb cb : Nat} {Xb : List Nat} {q : Nat} {e : Ending} (hpos : 0 < G) (hgb : B ≤ gb) (hsz : gb < wx.heap.size) (hBx : B ≤ wx.heap.size) (hb : Blk wx gb Xb) (hd : Digs Xb) (hl : (dig G).length ≤ Xb.length) (ht : Xb.take (dig G).length = dig G) (hcb : (dig G).length ≤ cb)
    (hnum : Num wx (some ⟨gb, 0, none⟩) (dig G)) (hlen : (dig G).length ≤ 4294967296) (hg : Nat.gcd F G = g) (hw : Below B w wx) (h : RetQR wx q (F % G) e w') :
    ∃ A1 c1 bv, e = .returned (.tuple #[.slice A1 (dig q).length c1, bv]) ∧ Pair B w w' g G (F % G) (.slice (some ⟨gb, 0, none⟩) (dig G).length cb) bv := by
  obtain ⟨A, c, C, d, g2, zs, rfl, k1, k2, k3, k4, k5, k6, k7, k8, k9, k10, k11⟩ := h
  refine ⟨A, c, _, rfl, ⟨⟨_, C, cb, d, rfl, rfl, hcb, k2, hnum.below k5, k4, fun h1 => ?_⟩, Nat.le_of_lt (Nat.mod_lt _ hpos), hlen, ?_, hw.trans (k5.mono hBx)⟩⟩
  · exact ⟨gb, g2, Xb, zs, rfl, (k11 (by omega)).1, by omega, hgb, by omega, hb.below k5 hsz, k7, hd, k8, hl, k9, ht, k10⟩
  · rw [gcd_step, hg]

theorem of_drewB {w w' : World} (h : Below w.drew.heap.size w.drew w') : Below w.heap.size w w' := ⟨h.os, h.tape, h.output, h.size, h.block⟩
theorem Boxed.belowW {p t1 l1 t2 l2 : Nat} {W W' : World} {B : Nat} (hB : B = W.heap.size) (hp : p + 1 < W.heap.size) (hb : Below B W W') (h : Boxed p t1 l1 t2 l2 W) : Boxed p t1 l1 t2 l2 W' := by
  subst hB
  obtain ⟨h1, h2, h3, h4⟩ := h
  exact ⟨(hb.cell (p := ⟨p, 0, none⟩) (by show p < _; omega)).trans h1, (hb.cell (p := ⟨p, 1, none⟩) (by show p < _; omega)).trans h2, (hb.cell (p := ⟨p + 1, 0, none⟩) hp).trans h3, (hb.cell (p := ⟨p + 1, 1, none⟩) hp).trans h4⟩

set_option maxRecDepth 100000 in
set_option maxHeartbeats 8000000 in
theorem shorten_any (w : World) (B g F0 G0 : Nat) (av bv : Value) (hB : B ≤ w.heap.size) (h : Pair B w w g F0 G0 av bv) :
    Calls Try.prog 73 #[av, bv] w (ShortPost B w g) := by
  have H0 := Lib.hid h
  clear h
  have HT := Lib.hid (fun (W : World) (t l : Nat) => turned_at W t l)
  go_enter Try.func73, Try.ntmps73
  go_wp2_with fail
  go_loopg [0, 1] G0 (fun G av bv wr => ∃ F, Pair B w wr g F G av bv)
  case atStart => exact ⟨F0, H0.out⟩
  case round =>
    obtain ⟨F, ⟨⟨PA, PB, ca, cb, rfl, rfl, hca, hcb, hna, hnb, hblk⟩, hle, hlen, hg, hbel⟩⟩ := hrel
    have hlm := dig_length_mono hle
    by_cases h1 : 1 < (dig gk).length
    · have h1' : (1 : Int) < ((dig gk).length : Int) := by omega
      obtain ⟨ga, gb, Xa, Xb, rfl, rfl, hne, hBa, hBb, m1, m2, d1, d2, l1, l2, t1, t2⟩ := hblk h1
      obtain ⟨s, hs, hs63, hsh, htop⟩ := top_shift (F := F) (by omega)
      have hlead := ld_lead (dig_digs F) (dig_digs gk) rfl hlm (by omega) hs63 hsh (by rw [val_dig, val_dig]; exact hle)
      rw [val_dig, val_dig] at hlead
      have HLD := Lib.hid (leading_any wr (some ⟨ga, 0, none⟩) (some ⟨gb, 0, none⟩) ca cb (dig F).length s (dig F) (dig gk) hna hnb rfl (by omega) (by omega) (by omega) hs hs63)
      have HFS := Lib.hid (fun W => foresee_any W F gk _ _ _ hlead)
      have HNA := Lib.hid hna
      have HNB := Lib.hid hnb
      have M1 := Lib.hid m1
      have M2 := Lib.hid m2
      have HG := Lib.hid hg
      have HBEL := Lib.hid hbel
      have T1 := Lib.hid t1
      have T2 := Lib.hid t2
      have hga := m1.lt
      have hgb := m2.lt
      clear hna hnb m1 m2 hg hbel t1 t2 hlead hblk hs hsh htop
      go_upto_region 4 with ((first
        | (go_at_call 87; refine HLD.out.mono ?_; rintro e w1 ⟨rfl, hb1⟩)
        | (go_at_call 86; refine (HFS.out _).mono ?_; rintro e w2 ⟨u0, v0, u1, v1, t, rfl, hF, hb2⟩)))
      have HBX := Boxed.base w2 u0 v0 u1 v1 74 74
      have hb12 : Below wr.heap.size wr w2 := hb1.trans (hb2.mono hb1.size)
      have hbx : Below wr.heap.size wr ((w2.alloc (.cells #[.int .u64 (u0 : Int), .int .u64 (v0 : Int)] 74)).alloc (.cells #[.int .u64 (u1 : Int), .int .u64 (v1 : Int)] 74)) :=
        hb12.trans (((Below.refl _ _).alloc hb12.size _).alloc (by simp; have := hb12.size; omega) _)
      have hsx : w2.heap.size + 1 < ((w2.alloc (.cells #[.int .u64 (u0 : Int), .int .u64 (v0 : Int)] 74)).alloc (.cells #[.int .u64 (u1 : Int), .int .u64 (v1 : Int)] 74)).heap.size := by simp
      generalize ((w2.alloc (.cells #[.int .u64 (u0 : Int), .int .u64 (v0 : Int)] 74)).alloc (.cells #[.int .u64 (u1 : Int), .int .u64 (v1 : Int)] 74)) = wx at *
      have X1 := Lib.hid (M1.out.below hbx hga)
      have X2 := Lib.hid (M2.out.below hbx hgb)
      have XA := Lib.hid (HNA.out.below hbx)
      have XB := Lib.hid (HNB.out.below hbx)
      have XW := Lib.hid (HBEL.out.trans (hbx.mono (Nat.le_trans hB HBEL.out.size)))
      have hgax : ga < wx.heap.size := Nat.lt_of_lt_of_le hga hbx.size
      have hgbx : gb < wx.heap.size := Nat.lt_of_lt_of_le hgb hbx.size
      have hBx : B ≤ wx.heap.size := Nat.le_trans hBa (Nat.le_of_lt hgax)
      obtain ⟨hu0, hv0, hu1, hv1, hFF⟩ := hF
      obtain ⟨b0, b1', b2', b3⟩ := HBX
      have HBX : Hid (Boxed w2.heap.size u0 v0 u1 v1 wx) := ⟨b0, b1', b2', b3⟩
      clear hb1 hb2 hb12 hbx M1 M2 HNA HNB HBEL HLD HFS hga hgb
      by_cases hz : v0 = 0
      · have hz' : (((v0 : Nat) : Int) == 0) = true := by rw [hz]; rfl
        clear hFF
        obtain ⟨s2, hs2, hs263, hsh2, htop2⟩ := top_shift (F := gk) (by omega)
        have hlong := long_any wx (some ⟨ga, 0, none⟩) (some ⟨gb, 0, none⟩) ca cb (dig gk).length s2 ((dig F).length - (dig gk).length + 1) (dig F) (dig gk) XA.out XB.out (by omega) rfl (by omega) hlm hs2 htop2 (by omega)
        rw [val_dig, val_dig] at hlong
        have HLG := Lib.hid hlong
        clear hs2 hs263 hsh2 htop2 hlong
        go_wp2_with fail
        refine HLG.out.mono ?_
        intro e w3 hq
        obtain ⟨A1, c1, bv', rfl, hP⟩ := pair_divided (g := g) (by
          rcases Nat.eq_zero_or_pos gk with h0 | h0
          · rw [h0, dig_zero] at h1; simp at h1
          · exact h0) hBb hgbx hBx X2.out d2 l2 T2.out hcb XB.out (by omega) HG.out XW.out hq
        have HP := Lib.hid hP
        have hlt := Nat.mod_lt F (show 0 < gk by
          rcases Nat.eq_zero_or_pos gk with h0 | h0
          · rw [h0, dig_zero] at h1; simp at h1
          · exact h0)
        clear hP hq
        go_wp2_with fail
        go_roundg (F % gk)
        case measure => exact hlt
        case rel => exact ⟨gk, HP.out⟩
      · have hz' : (((v0 : Nat) : Int) == 0) = false := by rw [beq_eq_false_iff_ne]; omega
        obtain ⟨F0, F1, r0, r1, hlt, hle0, hgcd⟩ := hFF hz
        cases t with
        | false =>
          have hP := blk_split (n := (dig gk).length) T1.out hlm
          have hgv : val (Xb.take (dig gk).length) = gk := by rw [T2.out, val_dig]
          have hglt : gk < B64 ^ (dig gk).length := by have h := val_lt (dig_digs gk); rwa [val_dig] at h
          have hl0 := dig_length_mono hle0
          have hg0 : Nat.gcd F0 F1 = g := by rw [hgcd]; exact HG.out
          have hmeas : F1 < gk := by omega
          rw [show - sg false = 1 from rfl] at r0
          rw [show sg false = -1 from rfl] at r1
          have hE1 := low_pos hP (row_pos r0)
          have hE2 := low_neg hP (row_neg1 r1)
          have HLP := Lib.hid (leap_any wx B ga gb (dig F).length (dig gk).length ca cb (dig gk).length u0 v0 u1 v1 F0 F1 0 (val ((dig F).drop (dig gk).length) * u0) (val ((dig F).drop (dig gk).length) * u1) 0 Xa Xb X1.out X2.out hne hBa hBb d1 d2 hlm (Nat.le_refl _) l1 l2 hca hcb (by omega) hu0 hv0 hu1 hv1 (by rw [hgv]; exact hE1) (by omega) (by rw [hgv]; exact hE2) (by omega))
          clear hP hgv hE1 hE2 hglt r0 r1 hFF
          go_wp2_with fail
          refine HLP.out.mono ?_
          intro e w3 hq
          obtain ⟨av', bv', rfl, hPP⟩ := leap_pair hq XW.out hne hBa hBb (Nat.le_of_lt hlt) (by omega) hg0
          have HP := Lib.hid hPP
          clear hPP hq
          go_wp2_with fail
          go_roundg F1
          case measure => exact hmeas
          case rel => exact ⟨F0, HP.out⟩
        | true =>
          have hP := blk_split (n := (dig gk).length) T1.out hlm
          have hgv : val (Xb.take (dig gk).length) = gk := by rw [T2.out, val_dig]
          have hglt : gk < B64 ^ (dig gk).length := by have h := val_lt (dig_digs gk); rwa [val_dig] at h
          have hl0 := dig_length_mono hle0
          have hg0 : Nat.gcd F0 F1 = g := by rw [hgcd]; exact HG.out
          have hmeas : F1 < gk := by omega
          rw [show - sg true = -1 from rfl] at r0
          rw [show sg true = 1 from rfl] at r1
          have hE1 := low_neg hP (row_neg1 r0)
          have hE2 := low_pos hP (row_pos r1)
          have HLP : Hid (∀ w5 : World, Below wx.heap.size wx w5 → Calls Try.prog 88 #[.slice (some ⟨gb, 0, none⟩) (dig gk).length cb, .slice (some ⟨ga, 0, none⟩) (dig F).length ca, .agg #[.int .u64 (v0 : Int), .int .u64 (u0 : Int)], .agg #[.int .u64 (v1 : Int), .int .u64 (u1 : Int)], .int .i64 ((dig gk).length : Int)] w5 (LeapPost B w5 gb ga cb ca F0 F1 Xb Xa)) := fun w5 h5 =>
            leap_any w5 B gb ga (dig gk).length (dig F).length cb ca (dig gk).length v0 u0 v1 u1 F0 F1 (val ((dig F).drop (dig gk).length) * u0) 0 0 (val ((dig F).drop (dig gk).length) * u1) Xb Xa (X2.out.below h5 hgbx) (X1.out.below h5 hgax) hne.symm hBb hBa d2 d1 (Nat.le_refl _) hlm l2 l1 hcb hca (by omega) hv0 hu0 hv1 hu1 (by rw [hgv]; exact hE1) (by omega) (by rw [hgv]; exact hE2) (by omega)
          clear hP hgv hE1 hE2 hglt r0 r1 hFF
          go_upto_region 8 with fail
          go_region_with
           (first
            | (go_at_call 88; refine (HLP.out w5 HB5.out).mono ?_; intro e w6 hq; obtain ⟨av', bv', rfl, hPP⟩ := leap_pair hq (XW.out.trans (HB5.out.mono hBx)) hne.symm hBb hBa (Nat.le_of_lt hlt) (by omega) hg0; have HP := Lib.hid hPP; clear hPP hq)
            | (go_at_call 89; refine (turned_any w4 u1 v1).mono ?_; rintro e w5 ⟨rfl, hb5⟩; have HB5 := Lib.hid (HB4.out.trans (hb5.mono HB4.out.size)); obtain ⟨m0, m1, m2, m3⟩ := Boxed.belowW rfl hsx HB5.out HBX.out; clear hb5)
            | (go_at_call 89; refine (turned_any _ u0 v0).mono ?_; rintro e w4 ⟨rfl, hb4⟩; have hb4 := of_drewB hb4; have HB4 := Lib.hid hb4; obtain ⟨n0, n1, n2, n3⟩ := Boxed.belowW rfl hsx hb4 HBX.out; clear hb4))
          all_goals
            go_wp2_with fail
            go_roundg F1
            case measure => exact hmeas
            case rel => exact ⟨F0, HP.out⟩
    · have h1' : ¬ (1 : Int) < ((dig gk).length : Int) := by omega
      go_wp2_with fail
      go_ret2
      exact ⟨F, gk, _, _, rfl, by omega, ⟨⟨PA, PB, ca, cb, rfl, rfl, hca, hcb, hna, hnb, hblk⟩, hle, hlen, hg, hbel⟩⟩
end Go.Proofs.Ytginajegbknfhaa
