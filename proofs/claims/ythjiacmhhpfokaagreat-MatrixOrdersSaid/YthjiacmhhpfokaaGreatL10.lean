/- Part 10 of the proof: DivMod, GcdS, Awake, Laws, WholeA. -/
import Derived.Test.YthjiacmhhpfokaaGreatL9
import Derived.OpenShut
import Derived.BigRegion
import Derived.StillTailTactics
import Derived.Deep.RegionHeld3
namespace Go.Proofs.YthjiacmhhpfokaaGreat
open Lib renaming hid → lh
open Go.Proofs.Tryz renaming prog → tz
open Nat renaming le_refl → lR
open Go.RowKit.Below renaming refl → bR
open List renaming getElem?_eq_getElem → gE
section
open Go.RowKit
def RetDM (w : World) (q r : Nat) (e : Ending) (w' : World) : Prop :=
 ∃ A c B d, e = .returned (.tuple #[.slice A (dig q).length c, .slice B (dig r).length d]) ∧ (dig q).length ≤ c ∧ (dig r).length ≤ d ∧ Num w' A (dig q) ∧ Num w' B (dig r) ∧ Below w.heap.size w w'
theorem RetQR.dm {w : World} {q r : Nat} {e : Ending} {w' : World} (h : RetQR w q r e w') : RetDM w q r e w' := by
 obtain ⟨A, c, B, d, g, zs, h1, h2, h3, h4, h5, h6, _⟩ := h
 exact ⟨A, c, B, d, h1, h2, h3, h4, h5, h6⟩
theorem Blk.lit (w : World) (xs : List Nat) : Blk (w.alloc (.cells (xs.map dcell).toArray 164)) w.heap.size xs := heap_alloc_new w _
theorem Blk.lit1 (w : World) (x : Nat) : Blk (w.alloc (.cells #[.int .u64 (x : Int)] 164)) w.heap.size [x] := Blk.lit w [x]
def dmq (a b : Nat) : Nat := a / b
def dmr (a b : Nat) : Nat := if b = 0 then 0 else a % b
set_option maxHeartbeats 2000000 in
theorem divmod_any (w : World) (A B : Option Addr) (c d : Nat) (xs ys : List Nat) (ha : Num w A xs) (hb : Num w B ys) (hn : xs.length ≤ 8589934592) (hm : ys.length ≤ 8589934592)
  (hc : xs.length ≤ c) (hd : ys.length ≤ d) :
  Calls tz 220 #[.slice A xs.length c, .slice B ys.length d] w (RetDM w (dmq (val xs) (val ys)) (dmr (val xs) (val ys))) := by
 have C1 := lh (cut_any w A c xs ha (by omega) hc)
 have C2 := lh (cut_any w B d ys hb (by omega) hd)
 have hl1 := dig_length_val ha.1
 have hl2 := dig_length_val hb.1
 clear ha hb
 generalize val xs = a at *
 generalize val ys = b at *
 by_cases hb0 : b = 0
 ·have hq : Hid (dmq a b = 0 ∧ dmr a b = 0) := by subst hb0; exact ⟨Nat.div_zero a, rfl⟩
  have hbl : (((dig b).length : Int) == 0) = true := by rw [hb0, dig_zero]; rfl
  clear hb0
  go_enter Tryz.func220, Tryz.ntmps220
  go_wp2_with fail
  refine C1.out.mono ?_
  rintro e w' ⟨A', c', rfl, hc', ha', rfl⟩
  go_wp2_with fail
  refine C2.out.mono ?_
  rintro e w' ⟨B', d', rfl, hd', hb', rfl⟩
  clear ha' hb' C1 C2
  go_wp2_with fail
  go_ret2
  obtain ⟨e1, e2⟩ := hq.out
  rw [e1, e2]
  exact ⟨none, 0, none, 0, by rw [dig_zero]; rfl, by rw [dig_zero]; simp, by rw [dig_zero]; simp, by rw [dig_zero]; exact Num.nil _ _, by rw [dig_zero]; exact Num.nil _ _, bR _ _⟩
 ·have hdr : dmr a b = a % b := by unfold dmr; rw [if_neg hb0]
  have hlb0 : (dig b).length ≠ 0 := fun h => hb0 (dig_nil_iff.1 h)
  have hbl : (((dig b).length : Int) == 0) = false := by rw [beq_eq_false_iff_ne]; omega
  rcases Nat.lt_or_ge a b with hab | hab
  ·have hq : Hid (dmq a b = 0 ∧ dmr a b = a) := ⟨Nat.div_eq_of_lt hab, by rw [hdr, Nat.mod_eq_of_lt hab]⟩
   have HCM : Hid (cmpv a b = -1) := cmpv_lt hab
   clear hdr hab
   go_enter Tryz.func220, Tryz.ntmps220
   go_wp2_with fail
   refine C1.out.mono ?_
   rintro e w' ⟨A', c', rfl, hc', ha', rfl⟩
   go_wp2_with fail
   refine C2.out.mono ?_
   rintro e w' ⟨B', d', rfl, hd', hb', rfl⟩
   have HCMP := cmp_any w A' B' c' d' (dig a) (dig b) ha' hb' (by omega) (by omega) hc' hd'
   rw [val_dig, val_dig, HCM.out] at HCMP
   have HC := lh HCMP
   have HA := lh ha'
   clear ha' hb' C1 C2 HCMP
   go_wp2_with fail
   refine HC.out.mono ?_
   rintro e w' ⟨rfl, q, rfl⟩
   have HT := trim_any (w.drewN q) A' c' (dig a) (HA.out.drewN q) (by omega) hc'
   rw [val_dig] at HT
   have HTT := lh HT
   clear HT
   go_wp2_with fail
   refine HTT.out.mono ?_
   rintro e w2 ⟨A2, c2, rfl, hc2, ha2, hb2⟩
   have HA2 := lh ha2
   have HB2 : Hid (Below w.heap.size w w2) := (below_drewN (bR _ _) q).trans hb2
   clear ha2 hb2
   go_wp2_with fail
   go_ret2
   obtain ⟨e1, e2⟩ := hq.out
   rw [e1, e2]
   exact ⟨none, 0, A2, c2, by rw [dig_zero]; rfl, by rw [dig_zero]; simp, hc2, by rw [dig_zero]; exact Num.nil _ _, HA2.out, HB2.out⟩
  ·have hz : ∃ z : Int, cmpv a b = z ∧ ¬ z < 0 := by
    rcases Nat.lt_or_ge b a with h | h
    ·exact ⟨1, cmpv_gt h, by omega⟩
    ·exact ⟨0, cmpv_eq (by omega), by omega⟩
   obtain ⟨z, hz1, hz2⟩ := hz
   have HCM := lh hz1
   have HDR : Hid (dmr a b = a % b) := hdr
   have hlab := dig_length_mono hab
   have hbpos : 0 < b := by omega
   clear hz1 hdr hab
   by_cases hone : (dig b).length = 1
   ·have hone' : (((dig b).length : Int) == 1) = true := by rw [hone]; rfl
    have HONE := lh hone
    have hlt0 : (0 : Int) < ((dig b).length : Int) := by omega
    have hmk := run_make_u64 (dig a).length (by omega)
    have HBV : Hid (b = dg (dig b) 0) := by
     have h := val_take_dg (dig b) 0
     rw [List.take_of_length_le (by omega), val_dig, List.take_zero, val_nil, Nat.pow_zero, Nat.one_mul, Nat.zero_add] at h
     exact h
    clear hone
    go_enter Tryz.func220, Tryz.ntmps220
    go_wp2_with fail
    refine C1.out.mono ?_
    rintro e w' ⟨A', c', rfl, hc', ha', rfl⟩
    go_wp2_with fail
    refine C2.out.mono ?_
    rintro e w' ⟨B', d', rfl, hd', hb', rfl⟩
    have HCMP := cmp_any w A' B' c' d' (dig a) (dig b) ha' hb' (by omega) (by omega) hc' hd'
    rw [val_dig, val_dig, HCM.out] at HCMP
    have HC := lh HCMP
    have HA := lh ha'
    obtain ⟨b1, o1, rfl, hb1, hcell⟩ := hb'.at_ (by omega)
    have hx := hcell 0 (by omega)
    rw [← HBV.out, Nat.add_zero] at hx
    have hb64 : b < B64 := by
     have := dg_lt (dig_digs b) 0
     rwa [← HBV.out] at this
    have HB64 := lh hb64
    clear ha' hb' C1 C2 HCMP hcell hb64
    go_wp2_with fail
    refine HC.out.mono ?_
    rintro e w' ⟨rfl, q, rfl⟩
    have hx2 : ((w.drewN q).alloc (.cells (madeCells #[.int .u64 0] (dig a).length) 164)).cell? ⟨b1, o1, none⟩ = some (.int .u64 (b : Int)) := (World.cell?_alloc_lt (w.drewN q) _ _ hb1).trans hx
    go_wp2_with fail
    have hD := divd_any ((w.drewN q).alloc (.cells (madeCells #[.int .u64 0] (dig a).length) 164)) w.heap.size (dig a).length c' b (dig a) A' (Blk.made (w.drewN q) _) ((HA.out.drewN q).alloc _) (HA.out.ne (lR _)) hbpos HB64.out (by omega)
    have HD := lh hD
    clear hD
    refine HD.out.mono ?_
    rintro e w2 ⟨he, ⟨qs, hql, hqd, hqv, hblk⟩, hown⟩
    rw [val_dig] at hqv he
    obtain ⟨r, hr⟩ : ∃ r, r = a % b := ⟨_, rfl⟩
    rw [← hr] at he
    subst he
    have HR := lh hr
    have hrb : r < b := by rw [hr]; exact Nat.mod_lt _ hbpos
    clear hr
    have hB2 : Below w.heap.size w w2 := ((below_drewN (bR _ _) q).alloc (lR _) _).grown hown (by simp [World.drewN]) (by intro k hk; injection hk with hk; exact Nat.le_of_eq hk)
    have hcut := cut_any w2 _ (dig a).length qs (hblk.num hqd) (by omega) (by omega)
    rw [hql, hqv] at hcut
    have HCUT := lh hcut
    have HB2 := lh hB2
    clear hcut hblk hown hB2 hqv hql
    go_wp2_with fail
    refine HCUT.out.mono ?_
    rintro e w3 ⟨A2, c2, rfl, hc2, ha2, rfl⟩
    have HA2 := lh ha2
    clear ha2 HCUT
    go_wp2_with fail
    have hlit := Blk.lit1 w2 r
    have hcut := cut_any _ _ 1 [r] (hlit.num (Digs.cons (Nat.lt_trans hrb HB64.out) Digs.nil)) (by simp) (by simp)
    rw [val_cons, val_nil, Nat.mul_zero, Nat.add_zero, List.length_singleton] at hcut
    have HCUT := lh hcut
    clear hcut hlit
    refine HCUT.out.mono ?_
    rintro e w3 ⟨A3, c3, rfl, hc3, ha3, rfl⟩
    have HA3 := lh ha3
    clear ha3 HCUT
    go_wp2_with fail
    go_ret2
    rw [HDR.out, ← HR.out]
    exact ⟨A2, c2, A3, c3, rfl, hc2, hc3, HA2.out.alloc _, HA3.out, HB2.out.alloc HB2.out.size _⟩
   ·have hone' : (((dig b).length : Int) == 1) = false := by rw [beq_eq_false_iff_ne]; omega
    have htop : dg (dig b) ((dig b).length - 1) ≠ 0 := by
     intro h
     have h1 := dig_top b
     rw [List.getLast?_eq_getElem?, gE (by omega)] at h1
     rw [dg_of_lt (by omega)] at h
     exact h1 (by rw [h])
    have hbl64 := blen_digit (dg_lt (dig_digs b) ((dig b).length - 1))
    obtain ⟨s, hs⟩ : ∃ s, s + blen (dg (dig b) ((dig b).length - 1)) = 64 := ⟨64 - blen (dg (dig b) ((dig b).length - 1)), by omega⟩
    have HTOP := lh htop
    have HS := lh hs
    clear htop hs hbl64
    go_enter Tryz.func220, Tryz.ntmps220
    go_wp2_with fail
    refine C1.out.mono ?_
    rintro e w' ⟨A', c', rfl, hc', ha', rfl⟩
    go_wp2_with fail
    refine C2.out.mono ?_
    rintro e w' ⟨B', d', rfl, hd', hb', rfl⟩
    have HCMP := cmp_any w A' B' c' d' (dig a) (dig b) ha' hb' (by omega) (by omega) hc' hd'
    rw [val_dig, val_dig, HCM.out] at HCMP
    have HC := lh HCMP
    have hL : ∀ q, Calls tz 238 #[.slice A' (dig a).length c', .slice B' (dig b).length d'] (w.drewN q) (RetQR (w.drewN q) (a / b) (a % b)) := by
     intro q
     have h := long_any (w.drewN q) A' B' c' d' (dig b).length s ((dig a).length - (dig b).length + 1) (dig a) (dig b) (ha'.drewN q) (hb'.drewN q) (by omega) rfl (by omega) hlab HS.out HTOP.out (by omega)
     rw [val_dig, val_dig] at h
     exact h
    have HL := lh hL
    clear ha' hb' C1 C2 HCMP hL
    go_wp2_with fail
    refine HC.out.mono ?_
    rintro e w' ⟨rfl, q, rfl⟩
    go_wp2_with fail
    refine (HL.out q).mono ?_
    rintro e w2 h2
    obtain ⟨A2, c2, A3, c3, rfl, hc2, hc3, ha2, ha3, hb2⟩ := h2.dm
    have HA2 := lh ha2
    have HA3 := lh ha3
    have HB2 : Hid (Below w.heap.size w w2) := (below_drewN (bR _ _) q).trans hb2
    clear ha2 ha3 hb2 h2
    go_wp2_with fail
    go_ret2
    rw [HDR.out]
    exact ⟨A2, c2, A3, c3, rfl, hc2, hc3, HA2.out, HA3.out, HB2.out⟩
end

section
open Go.RowKit
theorem quiet_first {P : Program} {f : FuncId} {args : Array Value} {w : World} {n : Nat} {v : Value}
  (h : Calls P f args (w.drewN n) fun e w' => e = .returned v ∧ ∃ m, w' = (w.drewN n).drewN m) : Calls P f args (w.drewN n) fun e w'' => e = .returned v ∧ ∃ m, w'' = w.drewN m :=
 h.mono fun _ _ ⟨he, m, hm⟩ => ⟨he, n + m, by rw [hm, World.drewN_drewN]⟩
theorem dig_one {x : Nat} (h0 : 0 < x) (h : x < B64) : dig x = [x] := by
 rw [dig_pos (by omega), Nat.mod_eq_of_lt h, Nat.div_eq_of_lt h, dig_zero]
structure GcdRel (w wr : World) (G : Nat) (xv yv : Value) : Prop where
 ex : ∃ x y : Nat, xv = .int .u64 (x : Int) ∧ yv = .int .u64 (y : Int) ∧ 0 < x ∧ x < B64 ∧ y < B64 ∧ Nat.gcd x y = G
 drew : ∃ n, wr = w.drewN n
set_option maxHeartbeats 4000000 in
theorem gcd_small (w : World) (A B : Option Addr) (c d : Nat) (xs ys : List Nat) (ha : Num w A xs) (hb : Num w B ys) (hn : xs.length ≤ 8589934592) (hm : ys.length ≤ 8589934592)
  (hc : xs.length ≤ c) (hd : ys.length ≤ d) (hs : (dig (min (val xs) (val ys))).length ≤ 1) :
  Calls tz 200 #[.slice A xs.length c, .slice B ys.length d] w (RetN w (Nat.gcd (val xs) (val ys))) := by
 have C1 := lh (cut_any w A c xs ha (by omega) hc)
 have C2 := lh (cut_any w B d ys hb (by omega) hd)
 have hl1 := dig_length_val ha.1
 have hl2 := dig_length_val hb.1
 clear ha hb
 rcases Nat.lt_or_ge (val xs) (val ys) with hab | hab
 case' inl =>
  rw [Nat.min_eq_left (by omega)] at hs
  rw [Nat.gcd_comm]
  generalize val xs = b at *
  generalize val ys = a at *
  have HCM : Hid (cmpv b a = -1) := cmpv_lt hab
  clear hab
  go_enter Tryz.func200, Tryz.ntmps200
  go_wp2_with fail
  refine C1.out.mono ?_
  rintro e w' ⟨B', d', rfl, hd', hb', rfl⟩
  go_wp2_with fail
  refine C2.out.mono ?_
  rintro e w' ⟨A', c', rfl, hc', ha', rfl⟩
  have HCMP := cmp_any w B' A' d' c' (dig b) (dig a) hb' ha' (by omega) (by omega) hd' hc'
  rw [val_dig, val_dig, HCM.out] at HCMP
  have HC := lh HCMP
  clear HCMP HCM
 case' inr =>
  rw [Nat.min_eq_right (by omega)] at hs
  generalize val xs = a at *
  generalize val ys = b at *
  obtain ⟨z, hz1, hz2⟩ : ∃ z : Int, cmpv a b = z ∧ ¬ z < 0 := by
   rcases Nat.lt_or_ge b a with h | h
   ·exact ⟨1, cmpv_gt h, by omega⟩
   ·exact ⟨0, cmpv_eq (by omega), by omega⟩
  have HCM := lh hz1
  clear hz1 hab
  go_enter Tryz.func200, Tryz.ntmps200
  go_wp2_with fail
  refine C1.out.mono ?_
  rintro e w' ⟨A', c', rfl, hc', ha', rfl⟩
  go_wp2_with fail
  refine C2.out.mono ?_
  rintro e w' ⟨B', d', rfl, hd', hb', rfl⟩
  have HCMP := cmp_any w A' B' c' d' (dig a) (dig b) ha' hb' (by omega) (by omega) hc' hd'
  rw [val_dig, val_dig, HCM.out] at HCMP
  have HC := lh HCMP
  clear HCMP HCM
 all_goals
  have HA := lh ha'
  have HB := lh hb'
  clear C1 C2 ha' hb'
  have hs' : ¬ (1 : Int) < ((dig b).length : Int) := by omega
  by_cases hb0 : b = 0
  ·have hbl : (((dig b).length : Int) == 0) = true := by rw [hb0, dig_zero]; rfl
   have hg : Hid (Nat.gcd a b = a) := by rw [hb0]; exact Nat.gcd_zero_right a
   clear hb0
   go_wp2_with fail
   refine HC.out.mono ?_
   rintro e w' ⟨rfl, q, rfl⟩
   have hT := trim_any (w.drewN q) A' c' (dig a) (HA.out.drewN q) (by omega) hc'
   rw [val_dig] at hT
   have HT := lh hT
   clear hT
   go_wp2_with fail
   refine HT.out.mono ?_
   rintro e w2 ⟨A2, c2, rfl, hc2, ha2, hb2⟩
   have HA2 := lh ha2
   have HB2 : Hid (Below w.heap.size w w2) := (below_drewN (bR _ _) q).trans hb2
   clear ha2 hb2
   go_wp2_with fail
   go_ret
   rw [hg.out]
   exact ⟨A2, c2, rfl, hc2, HA2.out, HB2.out⟩
  ·have hbpos : 0 < b := by omega
   have hlb0 : (dig b).length ≠ 0 := fun h => hb0 (dig_nil_iff.1 h)
   have hbl : (((dig b).length : Int) == 0) = false := by rw [beq_eq_false_iff_ne]; omega
   have hlt0 : (0 : Int) < ((dig b).length : Int) := by omega
   have HBV : Hid (b = dg (dig b) 0) := by
    have h := val_take_dg (dig b) 0
    rw [List.take_of_length_le (by omega), val_dig, List.take_zero, val_nil, Nat.pow_zero, Nat.one_mul, Nat.zero_add] at h
    exact h
   obtain ⟨b1, o1, rfl, hb1, hcell⟩ := HB.out.at_ (by omega)
   have hx := hcell 0 (by omega)
   rw [← HBV.out, Nat.add_zero] at hx
   have hb64 : b < B64 := by
    have := dg_lt (dig_digs b) 0
    rwa [← HBV.out] at this
   have HR : Hid (∀ q, Calls tz 219 #[.slice A' (dig a).length c', .int .u64 b] (w.drewN q) fun e w' => e = .returned (.int .u64 ((a % b : Nat) : Int)) ∧ ∃ n, w' = (w.drewN q).drewN n) := by
    intro q
    have h := rest_any (w.drewN q) c' b (dig a) A' (HA.out.drewN q) hbpos hb64 (by omega)
    rwa [val_dig] at h
   have hrb := Nat.mod_lt a hbpos
   have hgc : Nat.gcd a b = Nat.gcd b (a % b) := by rw [Nat.gcd_comm, Nat.gcd_rec, Nat.gcd_comm]
   obtain ⟨r, hr⟩ : ∃ r, r = a % b := ⟨_, rfl⟩
   rw [← hr] at HR hrb hgc
   have HGC := lh hgc
   have HB64 := lh hb64
   clear hb0 hlb0 hgc hr hcell hb64
   go_wp2_with fail
   refine HC.out.mono ?_
   rintro e w' ⟨rfl, q, rfl⟩
   go_wp2_with fail
   go_quiet ((go_at_call 219; exact quiet_add (HR.out _)))
   go_wp2_with fail
   go_loopw [5, 6] (fun xv yv wr => GcdRel w wr (Nat.gcd a b) xv yv) (fun _ yv _ => (intOf yv).toNat)
   case atStart => exact ⟨⟨b, r, rfl, rfl, hbpos, HB64.out, Nat.lt_trans hrb HB64.out, HGC.out.symm⟩, _, by rw [World.drewN_drewN]⟩
   case round =>
    obtain ⟨⟨x, y, rfl, rfl, hx0, hx64, hy64, hg⟩, n, rfl⟩ := hrel
    by_cases hy : y = 0
    ·have hy' : ((y : Int) != 0) = false := by rw [hy]; rfl
     have HE : Hid (Nat.gcd a b = x) := by rw [← hg, hy]; exact Nat.gcd_zero_right x
     have HX := lh (dig_one hx0 hx64)
     have HX64 := lh hx64
     clear hy hg hx64
     go_wp2_with fail
     go_ret
     rw [HE.out]
     refine ⟨some ⟨w.heap.size, 0, none⟩, 1, by rw [HX.out]; rfl, by rw [HX.out]; simp, ?_, ?_⟩
     ·rw [HX.out]
      exact ((Blk.lit1 w x).drewN n).num (Digs.cons HX64.out Digs.nil)
     ·exact below_drewN ((bR _ _).alloc (lR _) _) n
    ·have hy' : ((y : Int) != 0) = true := by rw [bne_iff_ne]; omega
     have hy1 : 1 ≤ (y : Int) := by omega
     have hyz : ((y : Int) == 0) = false := by rw [beq_eq_false_iff_ne]; omega
     have HS : Hid (∀ m, GcdRel w ((w.drewN n).drewN m) (Nat.gcd a b) (.int .u64 (y : Int)) (.int .u64 ((x % y : Nat) : Int))) := by
      intro m
      have h1 := Nat.mod_lt x (show y > 0 by omega)
      refine ⟨⟨y, x % y, rfl, rfl, by omega, hy64, Nat.lt_trans h1 hy64, ?_⟩, n + m, by rw [World.drewN_drewN]⟩
      rw [← hg, Nat.gcd_comm x y, Nat.gcd_rec y x, Nat.gcd_comm]
     have hml : Hid (x % y < y) := Nat.mod_lt x (show y > 0 by omega)
     clear hg hy
     go_wp2_with fail
     go_quiet (fail)
     go_wp2_with fail
     go_roundw
     case rel => exact HS.out nq
     case measure =>
      have h := hml.out
      simp [intOf]; omega
end

section
open Go.RowKit
section
variable (w : World) (xs ys : List Nat) (n m : Nat) (X Y : Array Value) (hX : (xs.map dcell).toArray = X) (hY : (ys.map dcell).toArray = Y) (hn : xs.length = n) (hm : ys.length = m) (hx : Digs xs) (hy : Digs ys)
 (hn2 : n ≤ 4294967296) (hm2 : m ≤ 4294967296)
include hX hY hn hm hx hy hn2 hm2
end
end

section
open Go.RowKit
theorem dl_add (m n : Nat) : (dig (m + n)).length ≤ (dig m).length + (dig n).length + 1 := by
 refine dig_length_le ?_
 have h1 := val_lt (dig_digs m)
 have h2 := val_lt (dig_digs n)
 rw [val_dig] at h1 h2
 have h3 : B64 ^ (dig m).length ≤ B64 ^ ((dig m).length + (dig n).length) := Nat.pow_le_pow_right B64_pos (by omega)
 have h4 : B64 ^ (dig n).length ≤ B64 ^ ((dig m).length + (dig n).length) := Nat.pow_le_pow_right B64_pos (by omega)
 have h5 : B64 ^ ((dig m).length + (dig n).length + 1) = B64 ^ ((dig m).length + (dig n).length) * B64 := Nat.pow_succ _ _
 have h6 : B64 ^ ((dig m).length + (dig n).length) * 2 ≤ B64 ^ ((dig m).length + (dig n).length) * B64 := Nat.mul_le_mul_left _ (by rw [B64_eq]; omega)
 omega
theorem dl_mul (m n : Nat) : (dig (m * n)).length ≤ (dig m).length + (dig n).length := by
 refine dig_length_le ?_
 have h1 := val_lt (dig_digs m)
 have h2 := val_lt (dig_digs n)
 rw [val_dig] at h1 h2
 rw [Nat.pow_add]
 exact Nat.mul_lt_mul'' h1 h2
theorem dl_le {m n : Nat} (h : m ≤ n) : (dig m).length ≤ (dig n).length := dig_length_mono h
section
variable (w : World) (A B : Option Addr) (c d : Nat) (xs ys : List Nat) (m n : Nat) (ha : Num w A xs) (hb : Num w B ys) (hx : val xs = m) (hy : val ys = n) (hn : xs.length ≤ 1000000) (hm : ys.length ≤ 1000000) (hc : xs.length ≤ c) (hd : ys.length ≤ d)
include ha hb hx hy hn hm hc hd
theorem add_v : Calls tz 173 #[.slice A xs.length c, .slice B ys.length d] w (RetN w (m + n)) := by
 subst hx; subst hy; exact add_any w A B c d xs ys ha hb (by omega) (by omega) hc hd
theorem sub_v : Calls tz 175 #[.slice A xs.length c, .slice B ys.length d] w (RetN w (m - n)) := by
 subst hx; subst hy; exact sub_any w A B c d xs ys ha hb (by omega) (by omega) hc hd
theorem mul_v : Calls tz 178 #[.slice A xs.length c, .slice B ys.length d] w (RetN w (m * n)) := by
 subst hx; subst hy; exact mul_any w A B c d xs ys ha hb (by omega) (by omega) hc hd
theorem dm_v : Calls tz 220 #[.slice A xs.length c, .slice B ys.length d] w (RetDM w (dmq m n) (dmr m n)) := by
 subst hx; subst hy; exact divmod_any w A B c d xs ys ha hb (by omega) (by omega) hc hd
theorem cmp_v : Calls tz 174 #[.slice A xs.length c, .slice B ys.length d] w (RetI w (cmpv m n)) := by
 subst hx; subst hy; exact (cmp_any w A B c d xs ys ha hb (by omega) (by omega) hc hd).mono fun _ _ h => h.below
end
section
variable (w : World) (A : Option Addr) (c : Nat) (xs : List Nat) (m : Nat) (ha : Num w A xs) (hx : val xs = m) (hn : xs.length ≤ 1000000) (hc : xs.length ≤ c)
include ha hx hn hc
theorem trim_v : Calls tz 168 #[.slice A xs.length c] w (RetN w m) := by
 subst hx; exact trim_any w A c xs ha (by omega) hc
end
theorem num_of_row {w : World} {a : Option Addr} {len cap : Nat} {zs : List Int}
  (h : (a = none ∧ len = 0 ∧ cap = 0 ∧ zs = []) ∨
   ∃ x, a = some x ∧ len ≤ cap ∧ cap ≤ maxLen ∧ zs.length = cap ∧ (∀ i, i < zs.length → w.cell? (x.add i) = some (.int .u64 (zs.getD i 0))) ∧ ∀ n ∈ zs, (Lit.int .u64 n).wf = true) :
  ∃ xs : List Nat, xs.length = len ∧ Num w a xs ∧ len ≤ cap := by
 rcases h with ⟨rfl, rfl, rfl, rfl⟩ | ⟨x, rfl, hl, hm, hz, hc, hw⟩
 ·exact ⟨[], rfl, Num.nil _ _, lR _⟩
 ·have hb : ∀ i, i < zs.length → 0 ≤ zs.getD i 0 ∧ zs.getD i 0 < 18446744073709551616 := by
   intro i hi
   have h1 := hw (zs.getD i 0) (by rw [List.getD_eq_getElem?_getD, gE hi]; exact List.getElem_mem hi)
   have h2 := bounds_u64 h1
   exact ⟨h2.1, by omega⟩
  have hl2 : ((zs.take len).map Int.toNat).length = len := by rw [List.length_map, List.length_take]; omega
  have hdg : ∀ i, i < len → dg ((zs.take len).map Int.toNat) i = (zs.getD i 0).toNat := by
   intro i hi
   unfold dg
   rw [List.getD_eq_getElem?_getD, List.getElem?_map, List.getElem?_take_of_lt hi, List.getD_eq_getElem?_getD, gE (by omega)]
   rfl
  refine ⟨(zs.take len).map Int.toNat, hl2, ⟨?_, ?_⟩, hl⟩
  ·intro y hy
   obtain ⟨z, hz1, rfl⟩ := List.mem_map.1 hy
   obtain ⟨i, hi, rfl⟩ := List.getElem_of_mem (List.mem_of_mem_take hz1)
   have := hb i hi
   rw [List.getD_eq_getElem?_getD, gE hi] at this
   rw [B64_eq]
   simp only [Option.getD_some] at this
   omega
  ·intro hne
   have hpos : 0 < len := by
    rw [← hl2]; exact List.length_pos_iff.2 hne
   have h0 := hc 0 (by omega)
   obtain ⟨b, off, spot⟩ := x
   have hs : spot = none := by
    have h1 : (⟨b, off, spot⟩ : Addr).add 0 = ⟨b, off, spot⟩ := by simp [Addr.add]
    rw [h1] at h0
    unfold World.cell? at h0
    cases spot with
    | none => rfl
    | some p =>
     simp only [Option.isSome_some, if_true] at h0
     split at h0 <;> cases h0
   subst hs
   refine ⟨b, off, rfl, block_lt_of_cell (a := (⟨b, off, none⟩ : Addr).add 0) h0 |> fun h => by rwa [addr_add] at h, fun i hi => ?_⟩
   rw [hl2] at hi
   have h1 := hc i (by omega)
   rw [addr_add] at h1
   rw [h1, hdg i hi]
   have := hb i (by omega)
   congr 2
   omega
end

section
set_option maxHeartbeats 1000000
open Go.RowKit
def zv (s : Bool) (m : Nat) : Int := if s then -(m : Int) else (m : Int)
def zneg (z : Int) : Bool := decide (z < 0)
theorem zv_zneg (z : Int) : zv (zneg z) z.natAbs = z := by
 unfold zv zneg
 by_cases h : z < 0
 ·rw [decide_eq_true h, if_pos rfl]; omega
 ·rw [decide_eq_false h, if_neg (by simp)]; omega
theorem zv_natAbs (s : Bool) (m : Nat) : (zv s m).natAbs = m := by cases s <;> simp [zv]
theorem zv_zero (s : Bool) : zv s 0 = 0 := by cases s <;> simp [zv]
theorem zneg_of {z : Int} {b : Bool} (h : b = true ↔ z < 0) : zneg z = b := by
 unfold zneg
 cases b with
 | true => exact decide_eq_true (h.1 rfl)
 | false => exact decide_eq_false (fun h2 => Bool.noConfusion (h.2 h2))
def RetZ (w : World) (z : Int) (e : Ending) (w' : World) : Prop :=
 ∃ A c, e = .returned (.agg #[.bool (zneg z), .slice A (dig z.natAbs).length c]) ∧ (dig z.natAbs).length ≤ c ∧ Num w' A (dig z.natAbs) ∧ Below w.heap.size w w'
theorem blen_pos {m : Nat} (h : m ≠ 0) : 0 < blen m := by unfold blen; rw [if_neg h]; omega
theorem signOf_any (w : World) (b : Bool) :
  Calls tz 167 #[.bool b] w fun e w' => e = .returned (.func (.func 197) #[] #[.pointer (some ⟨w.heap.size, 0, none⟩)]) ∧ w' = w.alloc (.cells #[.bool b] 4) := by
 go_enter Tryz.func167, Tryz.ntmps167
 go_wp2
 go_ret
 exact ⟨rfl, rfl⟩
theorem sign1_any (w : World) (p c : Nat) (s : Bool) (A : Option Addr) (xs : List Nat) (ha : Num w A xs) (hp : w.cell? ⟨p, 0, none⟩ = some (.bool s)) (hn : xs.length ≤ 8589934592) (hc : xs.length ≤ c) :
  Calls tz 197 #[.slice A xs.length c, .pointer (some ⟨p, 0, none⟩)] w fun e w' => e = .returned (.int .i64 (Int.sign (zv s (val xs)))) ∧ w = w' := by
 have HB := Lib.hid (bits_any w A c xs ha hn hc)
 clear ha
 generalize val xs = m at *
 by_cases h0 : m = 0
 ·have hz : (((blen m : Nat) : Int) == 0) = true := by rw [h0, blen_zero]; rfl
  have hs : Hid (Int.sign (zv s m) = 0) := by rw [h0, zv_zero]; rfl
  clear h0
  go_enter Tryz.func197, Tryz.ntmps197
  go_wp2_with fail
  refine HB.out.mono ?_
  rintro e w' ⟨rfl, rfl⟩
  go_wp2_with fail
  go_ret
  rw [hs.out]
  exact ⟨rfl, rfl⟩
 ·have hz : (((blen m : Nat) : Int) == 0) = false := by rw [beq_eq_false_iff_ne]; have := blen_pos h0; omega
  cases s with
  | true =>
   have hs : Hid (Int.sign (zv true m) = -1) := by
    have : zv true m < 0 := by simp only [zv, if_true]; omega
    exact Int.sign_eq_neg_one_of_neg this
   clear h0
   go_enter Tryz.func197, Tryz.ntmps197
   go_wp2_with fail
   refine HB.out.mono ?_
   rintro e w' ⟨rfl, rfl⟩
   go_wp2_with fail
   go_ret
   rw [hs.out]
   exact ⟨rfl, rfl⟩
  | false =>
   have hs : Hid (Int.sign (zv false m) = 1) := by
    have : 0 < zv false m := by simp only [zv]; rw [if_neg (by simp)]; omega
    exact Int.sign_eq_one_of_pos this
   clear h0
   go_enter Tryz.func197, Tryz.ntmps197
   go_wp2_with fail
   refine HB.out.mono ?_
   rintro e w' ⟨rfl, rfl⟩
   go_wp2_with fail
   go_ret
   rw [hs.out]
   exact ⟨rfl, rfl⟩
theorem number_any (w : World) (p c m : Nat) (s : Bool) (A : Option Addr) (ha : Num w A (dig m)) (hp : w.cell? ⟨p, 0, none⟩ = some (.bool s)) (hn : (dig m).length ≤ 8589934592) (hc : (dig m).length ≤ c) :
  Calls tz 166 #[.func (.func 197) #[] #[.pointer (some ⟨p, 0, none⟩)], .slice A (dig m).length c] w
   fun e w' => e = .returned (.agg #[.bool (zneg (zv s m)), .slice A (dig m).length c]) ∧ Below w.heap.size w w' := by
 have HS := Lib.hid (fun o : Obj => sign1_any (w.alloc o) p c s A (dig m) (ha.alloc o) ((World.cell?_alloc_some _ _ _ (by rw [hp]; rfl)).trans hp) hn hc)
 clear ha
 go_enter Tryz.func166, Tryz.ntmps166
 go_wp2_with fail
 refine (HS.out _).mono ?_
 rintro e w' ⟨rfl, rfl⟩
 rw [val_dig]
 go_wp2_with fail
 refine bodyPost_ret (v := .agg #[.bool (zneg (zv s m)), .slice A (dig m).length c]) (by simp [results, Tryz.results166, go_sem]; rfl) rfl ⟨rfl, ?_⟩
 repeat (first | exact bR _ _ | refine Below.setCell ?_ (by first | (simp; done) | (simp; omega)) _ | refine Below.alloc ?_ (by first | exact lR _ | (simp; done) | (simp; omega)) _)
