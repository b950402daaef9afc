/- Gcd where one of the two has one digit at most. -/
import Derived.Test.YtmbnlhedbedcdaaGreatDoorDivAll
namespace Go.Proofs.YtmbnlhedbedcdaaGreatDoor
open Go.RowKit

theorem quiet_first {P : Program} {f : FuncId} {args : Array Value} {w : World} {n : Nat} {v : Value}
    (h : Calls P f args (w.drewN n) fun e w' => e = .returned v ∧ ∃ m, w' = (w.drewN n).drewN m) : Calls P f args (w.drewN n) fun e w'' => e = .returned v ∧ ∃ m, w'' = w.drewN m :=
  h.mono fun _ _ ⟨he, m, hm⟩ => ⟨he, n + m, by rw [hm, World.drewN_drewN]⟩

theorem dig_one {x : Nat} (h0 : 0 < x) (h : x < B64) : dig x = [x] := by
  rw [dig_pos (by omega), Nat.mod_eq_of_lt h, Nat.div_eq_of_lt h, dig_zero]

structure GcdRel (w wr : World) (G : Nat) (xv yv : Value) : Prop where
  ex : ∃ x y : Nat, xv = .int .u64 (x : Int) ∧ yv = .int .u64 (y : Int) ∧ 0 < x ∧ x < B64 ∧ y < B64 ∧ Nat.gcd x y = G
  drew : ∃ n, wr = w.drewN n

set_option maxHeartbeats 4000000 in
theorem gcd_small (w : World) (A B : Option Addr) (c d : Nat) (xs ys : List Nat) (ha : Num w A xs) (hb : Num w B ys) (hn : xs.length ≤ 8589934592) (hm : ys.length ≤ 8589934592)
    (hc : xs.length ≤ c) (hd : ys.length ≤ d) (hs : (dig (min (val xs) (val ys))).length ≤ 1) :
    Calls Tryz.prog 85 #[.slice A xs.length c, .slice B ys.length d] w (RetN w (Nat.gcd (val xs) (val ys))) := by
  have C1 := Lib.hid (cut_any w A c xs ha (by omega) hc)
  have C2 := Lib.hid (cut_any w B d ys hb (by omega) hd)
  have hl1 := dig_length_val ha.1
  have hl2 := dig_length_val hb.1
  clear ha hb
  rcases Nat.lt_or_ge (val xs) (val ys) with hab | hab
  case' inl =>
    rw [Nat.min_eq_left (by omega)] at hs
    rw [Nat.gcd_comm]
    generalize val xs = b at *
    generalize val ys = a at *
    have HCM : Hid (cmpv b a = -1) := cmpv_lt hab
    clear hab
    go_enter Tryz.func85, Tryz.ntmps85
    go_wp2_with fail
    refine C1.out.mono ?_
    rintro e w' ⟨B', d', rfl, hd', hb', rfl⟩
    go_wp2_with fail
    refine C2.out.mono ?_
    rintro e w' ⟨A', c', rfl, hc', ha', rfl⟩
    have HCMP := cmp_any w B' A' d' c' (dig b) (dig a) hb' ha' (by omega) (by omega) hd' hc'
    rw [val_dig, val_dig, HCM.out] at HCMP
    have HC := Lib.hid HCMP
    clear HCMP HCM
  case' inr =>
    rw [Nat.min_eq_right (by omega)] at hs
    generalize val xs = a at *
    generalize val ys = b at *
    obtain ⟨z, hz1, hz2⟩ : ∃ z : Int, cmpv a b = z ∧ ¬ z < 0 := by
      rcases Nat.lt_or_ge b a with h | h
      · exact ⟨1, cmpv_gt h, by omega⟩
      · exact ⟨0, cmpv_eq (by omega), by omega⟩
    have HCM := Lib.hid hz1
    clear hz1 hab
    go_enter Tryz.func85, Tryz.ntmps85
    go_wp2_with fail
    refine C1.out.mono ?_
    rintro e w' ⟨A', c', rfl, hc', ha', rfl⟩
    go_wp2_with fail
    refine C2.out.mono ?_
    rintro e w' ⟨B', d', rfl, hd', hb', rfl⟩
    have HCMP := cmp_any w A' B' c' d' (dig a) (dig b) ha' hb' (by omega) (by omega) hc' hd'
    rw [val_dig, val_dig, HCM.out] at HCMP
    have HC := Lib.hid HCMP
    clear HCMP HCM
  all_goals
    have HA := Lib.hid ha'
    have HB := Lib.hid hb'
    clear C1 C2 ha' hb'
    have hs' : ¬ (1 : Int) < ((dig b).length : Int) := by omega
    by_cases hb0 : b = 0
    · have hbl : (((dig b).length : Int) == 0) = true := by rw [hb0, dig_zero]; rfl
      have hg : Hid (Nat.gcd a b = a) := by rw [hb0]; exact Nat.gcd_zero_right a
      clear hb0
      go_wp2_with fail
      refine HC.out.mono ?_
      rintro e w' ⟨rfl, q, rfl⟩
      have hT := trim_any (w.drewN q) A' c' (dig a) (HA.out.drewN q) (by omega) hc'
      rw [val_dig] at hT
      have HT := Lib.hid hT
      clear hT
      go_wp2_with fail
      refine HT.out.mono ?_
      rintro e w2 ⟨A2, c2, rfl, hc2, ha2, hb2⟩
      have HA2 := Lib.hid ha2
      have HB2 : Hid (Below w.heap.size w w2) := (below_drewN (Below.refl _ _) q).trans hb2
      clear ha2 hb2
      go_wp2_with fail
      go_ret
      rw [hg.out]
      exact ⟨A2, c2, rfl, hc2, HA2.out, HB2.out⟩
    · have hbpos : 0 < b := by omega
      have hlb0 : (dig b).length ≠ 0 := fun h => hb0 (dig_nil_iff.1 h)
      have hbl : (((dig b).length : Int) == 0) = false := by rw [beq_eq_false_iff_ne]; omega
      have hlt0 : (0 : Int) < ((dig b).length : Int) := by omega
      have HBV : Hid (b = dg (dig b) 0) := by
        have h := val_take_dg (dig b) 0
        rw [List.take_of_length_le (by omega), val_dig, List.take_zero, val_nil, Nat.pow_zero, Nat.one_mul, Nat.zero_add] at h
        exact h
      obtain ⟨b1, o1, rfl, hb1, hcell⟩ := HB.out.at_ (by omega)
      have hx := hcell 0 (by omega)
      rw [← HBV.out, Nat.add_zero] at hx
      have hb64 : b < B64 := by
        have := dg_lt (dig_digs b) 0
        rwa [← HBV.out] at this
      have HR : Hid (∀ q, Calls Tryz.prog 104 #[.slice A' (dig a).length c', .int .u64 b] (w.drewN q) fun e w' => e = .returned (.int .u64 ((a % b : Nat) : Int)) ∧ ∃ n, w' = (w.drewN q).drewN n) := by
        intro q
        have h := rest_any (w.drewN q) c' b (dig a) A' (HA.out.drewN q) hbpos hb64 (by omega)
        rwa [val_dig] at h
      have hrb := Nat.mod_lt a hbpos
      have hgc : Nat.gcd a b = Nat.gcd b (a % b) := by rw [Nat.gcd_comm, Nat.gcd_rec, Nat.gcd_comm]
      obtain ⟨r, hr⟩ : ∃ r, r = a % b := ⟨_, rfl⟩
      rw [← hr] at HR hrb hgc
      have HGC := Lib.hid hgc
      have HB64 := Lib.hid hb64
      clear hb0 hlb0 hgc hr hcell hb64
      go_wp2_with fail
      refine HC.out.mono ?_
      rintro e w' ⟨rfl, q, rfl⟩
      go_wp2_with fail
      go_quiet ((go_at_call 104; exact quiet_add (HR.out _)))
      go_wp2_with fail
      go_loopw [5, 6] (fun xv yv wr => GcdRel w wr (Nat.gcd a b) xv yv) (fun _ yv _ => (intOf yv).toNat)
      case atStart => exact ⟨⟨b, r, rfl, rfl, hbpos, HB64.out, Nat.lt_trans hrb HB64.out, HGC.out.symm⟩, _, by rw [World.drewN_drewN]⟩
      case round =>
        obtain ⟨⟨x, y, rfl, rfl, hx0, hx64, hy64, hg⟩, n, rfl⟩ := hrel
        by_cases hy : y = 0
        · have hy' : ((y : Int) != 0) = false := by rw [hy]; rfl
          have HE : Hid (Nat.gcd a b = x) := by rw [← hg, hy]; exact Nat.gcd_zero_right x
          have HX := Lib.hid (dig_one hx0 hx64)
          have HX64 := Lib.hid hx64
          clear hy hg hx64
          go_wp2_with fail
          go_ret
          rw [HE.out]
          refine ⟨some ⟨w.heap.size, 0, none⟩, 1, by rw [HX.out]; rfl, by rw [HX.out]; simp, ?_, ?_⟩
          · rw [HX.out]
            exact ((Blk.lit1 w x).drewN n).num (Digs.cons HX64.out Digs.nil)
          · exact below_drewN ((Below.refl _ _).alloc (Nat.le_refl _) _) n
        · have hy' : ((y : Int) != 0) = true := by rw [bne_iff_ne]; omega
          have hy1 : 1 ≤ (y : Int) := by omega
          have hyz : ((y : Int) == 0) = false := by rw [beq_eq_false_iff_ne]; omega
          have HS : Hid (∀ m, GcdRel w ((w.drewN n).drewN m) (Nat.gcd a b) (.int .u64 (y : Int)) (.int .u64 ((x % y : Nat) : Int))) := by
            intro m
            have h1 := Nat.mod_lt x (show y > 0 by omega)
            refine ⟨⟨y, x % y, rfl, rfl, by omega, hy64, Nat.lt_trans h1 hy64, ?_⟩, n + m, by rw [World.drewN_drewN]⟩
            rw [← hg, Nat.gcd_comm x y, Nat.gcd_rec y x, Nat.gcd_comm]
          have hml : Hid (x % y < y) := Nat.mod_lt x (show y > 0 by omega)
          clear hg hy
          go_wp2_with fail
          go_quiet (fail)
          go_wp2_with fail
          go_roundw
          case rel => exact HS.out nq
          case measure =>
            have h := hml.out
            simp [intOf]; omega
end Go.Proofs.YtmbnlhedbedcdaaGreatDoor