/- Part 5 of the proof: DivE, DivMod, GcdS, Awake, Laws, WholeA, WholeB. -/
import Derived.Test.YthjiacmhhpfokaaGreatK4
import Derived.OpenShut
import Derived.BigRegion
import Derived.StillTailTactics
import Derived.Deep.RegionHeld3
namespace Go.Proofs.YthjiacmhhpfokaaGreat
open Lib renaming hid → lh
open Go.Proofs.Tryz renaming prog → tz
open Nat renaming le_refl → lR, mul_assoc → mS
open Go.RowKit.Below renaming refl → bR
open List renaming getElem?_eq_getElem → gE, length_take → lK
section
open Go.RowKit
theorem norm_top {Y : List Nat} {n s : Nat} (hn : Y.length = n) (h2 : 1 ≤ n) (hs : s + blen (dg Y (n - 1)) = 64) (htop : dg Y (n - 1) ≠ 0) :
  rc Y s n = 0 ∧ B64 ^ n ≤ val Y * 2 ^ s * 2 ∧ s ≤ 63 := by
 have hb := blen_lt (dg Y (n - 1))
 have hb1 : 1 ≤ blen (dg Y (n - 1)) := by
  rcases Nat.eq_zero_or_pos (blen (dg Y (n - 1))) with h | h
  ·rw [h] at hb; omega
  ·exact h
 have hl := blen_le (n := dg Y (n - 1)) (k := blen (dg Y (n - 1)) - 1) (by omega)
 have e1 : dg Y (n - 1) * 2 ^ s < B64 := by
  rw [B64_pow, ← hs, Nat.add_comm, Nat.pow_add]
  exact Nat.mul_lt_mul_of_pos_right hb (Nat.pow_pos (by omega))
 refine ⟨?_, ?_, by omega⟩
 ·unfold rc
  rw [if_neg (by omega), hi_of_lt e1]
 ·have h1 := val_take_dg Y (n - 1)
  rw [show n - 1 + 1 = n by omega, ← hn, List.take_length, hn] at h1
  have h3 : B64 ^ (n - 1) * dg Y (n - 1) ≤ val Y := by omega
  have h4 : 2 ^ (blen (dg Y (n - 1)) - 1) * 2 ^ s * 2 = B64 := by
   rw [← Nat.pow_add, ← Nat.pow_succ, B64_pow]
   congr 1
   omega
  have h5 : B64 ^ n = B64 ^ (n - 1) * B64 := by rw [← Nat.pow_succ]; congr 1; omega
  have h6 : B64 ^ (n - 1) * B64 = B64 ^ (n - 1) * 2 ^ (blen (dg Y (n - 1)) - 1) * (2 ^ s * 2) := by
   have e : B64 ^ (n - 1) * B64 = B64 ^ (n - 1) * (2 ^ (blen (dg Y (n - 1)) - 1) * 2 ^ s * 2) := congrArg (fun t => B64 ^ (n - 1) * t) h4.symm
   rw [e, mS, mS]
  have h7 : B64 ^ (n - 1) * 2 ^ (blen (dg Y (n - 1)) - 1) ≤ val Y := Nat.le_trans (Nat.mul_le_mul_left _ hl) h3
  rw [h5, h6, mS (val Y)]
  exact Nat.mul_le_mul_right _ h7
theorem long_start {X Z0 : List Nat} {n M s D : Nat} (hX : Digs X) (hv : val Z0 = val X * 2 ^ s) (hl : Z0.length = M + n) (hM : M + n = X.length + 1) (hn : 1 ≤ n) (hD : B64 ^ n ≤ D * 2) (hs : s ≤ 63) : val (Z0.drop M) < D := by
 have h1 := val_take_add Z0 M
 rw [Nat.min_eq_left (by omega)] at h1
 have h2 := val_lt hX
 have h3 : val X * 2 ^ s < B64 ^ X.length * 2 ^ s := Nat.mul_lt_mul_of_pos_right h2 (Nat.pow_pos (by omega))
 have h4 : B64 ^ X.length * 2 ^ s = B64 ^ M * (B64 ^ (n - 1) * 2 ^ s) := by
  rw [← mS, ← Nat.pow_add]
  congr 2
  omega
 have h5 : val (Z0.drop M) < B64 ^ (n - 1) * 2 ^ s := by
  refine Nat.lt_of_mul_lt_mul_left (a := B64 ^ M) ?_
  omega
 have h6 : B64 ^ (n - 1) * 2 ^ s * 2 ≤ B64 ^ n := by
  have e : B64 ^ n = B64 ^ (n - 1) * B64 := by rw [← Nat.pow_succ]; congr 1; omega
  rw [e, mS]
  refine Nat.mul_le_mul_left _ ?_
  rw [B64_pow, ← Nat.pow_succ]
  exact Nat.pow_le_pow_right (by omega) (by omega)
 omega
theorem long_end {x y q r s v : Nat} (hy : 0 < y) (hv : x * 2 ^ s = q * (y * 2 ^ s) + r) (hr : r < y * 2 ^ s) (hz : v = r / 2 ^ s) : q = x / y ∧ v = x % y := by
 have hp : 0 < 2 ^ s := Nat.pow_pos (by omega)
 have hyp : 0 < y * 2 ^ s := Nat.mul_pos hy hp
 have e1 : x / y = q := by
  rw [← Nat.mul_div_mul_right x y hp, hv, Nat.mul_comm q, Nat.mul_add_div hyp, Nat.div_eq_of_lt hr, Nat.add_zero]
 have e2 : x % y * 2 ^ s = r := by
  rw [← Nat.mul_mod_mul_right, hv, Nat.mul_comm q, Nat.mul_add_mod, Nat.mod_eq_of_lt hr]
 refine ⟨e1.symm, ?_⟩
 rw [hz, ← e2, Nat.mul_div_cancel _ hp]
theorem mid_take {cs zs : List Nat} : (mid cs 0 zs).take zs.length = zs := by
 unfold mid
 rw [List.take_zero, List.nil_append, List.take_left]
set_option maxHeartbeats 4000000 in
theorem long_any (w : World) (A B : Option Addr) (c d n s M : Nat) (X Y : List Nat) (hA : Num w A X) (hB : Num w B Y) (hX : X.length ≤ 8589934592) (hn : Y.length = n) (h2 : 2 ≤ n) (hle : n ≤ X.length)
  (hs : s + blen (dg Y (n - 1)) = 64) (htop : dg Y (n - 1) ≠ 0) (hM : M + n = X.length + 1) :
  Calls tz 238 #[.slice A X.length c, .slice B n d] w (RetQR w (val X / val Y) (val X % val Y)) := by
 obtain ⟨hrc, hnorm, hs63⟩ := norm_top hn (by omega) hs htop
 obtain ⟨b2, o2, rfl, hb2, hc2⟩ := hB.at_ (by omega)
 have ht := hc2 (n - 1) (by omega)
 have htd := dg_lt hB.1 (n - 1)
 have hsb : (64 : Int) - ((blen (dg Y (n - 1)) : Nat) : Int) = (s : Int) := by omega
 have HLZ := lh (lz64_any _ htd w)
 rw [hsb] at HLZ
 have HA := lh hA
 have HB := lh hB
 have HN := lh hn
 have HRC := lh hrc
 have HNORM := lh hnorm
 have hm1 := run_make_u64' ((X.length : Int) + 1) (X.length + 1) (by omega) (by omega)
 have hm2 := run_make_u64 n (by omega)
 have hm3 := run_make_u64' ((X.length : Int) - (n : Int) + 1) M (by omega) (by omega)
 clear hA hB hn hs hsb hrc hnorm htd hc2
 go_enter Tryz.func238, Tryz.ntmps238
 go_wp2_with fail
 refine HLZ.out.mono ?_
 rintro e w' ⟨rfl, rfl⟩
 clear HLZ
 go_wp2_with fail
 refine (raise_any (w.alloc (.cells (madeCells #[.int .u64 0] (X.length + 1)) 164)) w.heap.size 0 (X.length + 1) (X.length + 1) s c (List.replicate (X.length + 1) 0) X A (Blk.made _ _) (by rw [List.length_replicate]; omega)
  (HA.out.alloc _) (HA.out.ne (lR _)) hs63 (by omega) (by omega)).mono ?_
 rintro e w1 ⟨rfl, ⟨Z0, hz0l, hz0d, hz0v, hblk0⟩, hown1⟩
 have hZ0 := raise_whole rfl hz0v
 rw [mid_all (by rw [List.length_replicate]; omega)] at hblk0
 have hB1 : Below w.heap.size w w1 := ((bR _ _).alloc (lR _) _).grown hown1 (by simp) (by intro k hk; injection hk with hk; omega)
 have HZ0 := lh hZ0
 have HBLK0 := lh hblk0
 have HB1 := lh hB1
 have HZ0L := lh hz0l
 have HZ0D := lh hz0d
 clear hz0v hZ0 hblk0 hown1 hB1 hz0l hz0d
 go_wp2_with fail
 have HBN := lh (HB.out.below HB1.out)
 have hr2 := raise_any (w1.alloc (.cells (madeCells #[.int .u64 0] n) 164)) w1.heap.size 0 n n s d (List.replicate n 0) Y (some ⟨b2, o2, none⟩) (Blk.made _ _) (by rw [List.length_replicate]; omega)
  (HBN.out.alloc _) (HBN.out.ne (lR _)) hs63 (by omega) (by rw [HN.out]; omega)
 rw [HN.out] at hr2
 refine hr2.mono ?_
 clear hr2
 rintro e w2 ⟨rfl, ⟨Z1, hz1l, hz1d, hz1v, hblk1⟩, hown2⟩
 rw [HRC.out, Nat.mul_zero, Nat.add_zero, List.take_of_length_le (Nat.le_of_eq HN.out)] at hz1v
 rw [mid_all (by rw [List.length_replicate]; omega)] at hblk1
 have hB2 : Below w1.heap.size w1 w2 := ((bR _ _).alloc (lR _) _).grown hown2 (by simp) (by intro k hk; injection hk with hk; omega)
 have HBLK0' := lh (HBLK0.out.below hB2 HBLK0.out.lt)
 have HB2 := lh (HB1.out.trans (hB2.mono HB1.out.size))
 have HBLK1 := lh hblk1
 have HZ1 := lh hz1v
 have HZ1L := lh hz1l
 have HZ1D := lh hz1d
 have hsz1 := HBLK0.out.lt
 clear hz1v hblk1 hown2 hB2 hz1l hz1d HBLK0
 go_wp2_with fail
 have hw12 := HB2.out.size
 go_loopw [44] (fun i wr => LongRel w wr w.heap.size w1.heap.size w2.heap.size n M Z0 Z1 i) (fun i _ => M - (intOf i).toNat)
 case atStart =>
  have hl := HZ0L.out
  refine ⟨⟨0, [], Z0, Nat.zero_le _, rfl, by omega, HZ0D.out, rfl, Digs.nil, rfl, by rw [val_nil, Nat.zero_mul, Nat.zero_add], ?_, HBLK0'.out.alloc _, by rw [Nat.sub_zero, List.append_nil]; exact Blk.made _ _⟩, HBLK1.out.alloc _, HB2.out.alloc HB2.out.size _⟩
  exact long_start HA.out.1 HZ0.out (by omega) hM (by omega) (by rw [HZ1.out]; exact HNORM.out) hs63
 case round =>
  obtain ⟨⟨k, qs, cs, hk, rfl, hcl, hcs, hql, hqd, htk, hv, hlt, hblk, hq⟩, hdiv, hbw⟩ := hrel
  have h01 : w.heap.size ≠ w1.heap.size := Nat.ne_of_lt hsz1
  have h12 : w1.heap.size < w2.heap.size := HBLK1.out.lt
  by_cases hkm : k < M
  ·obtain ⟨j, hj⟩ : ∃ j, j + k + 1 = M := ⟨M - 1 - k, by omega⟩
   have hji : (M : Int) - 1 - (k : Int) = (j : Int) := by omega
   have hkm' : (k : Int) < (M : Int) := by omega
   have hjm : (j : Int) < (M : Int) := by omega
   have hcapne : ¬ (X.length + 1 = j) := by omega
   have hj0 : (0 : Int) ≤ (j : Int) + (n : Int) + 1 := by omega
   have hjx : j + n ≤ X.length := by omega
   have hjx' : (j : Int) + (n : Int) ≤ (X.length : Int) := by omega
   have htn : ((j : Int) + (n : Int) + 1).toNat = j + n + 1 := by omega
   have hsub : j + n + 1 - j = n + 1 := by omega
   obtain ⟨n', hn'⟩ : ∃ n', n' + 2 = n := ⟨n - 2, by omega⟩
   have hD : 0 < val Z1 := by omega
   obtain ⟨hp1, hp2⟩ := long_part hcs hcl HZ1D.out HZ1L.out hj hlt
   have hP : val ((cs.drop j).take (Z1.length + 1)) < val Z1 * B64 := by
    have h5 : B64 * (val (cs.drop (M - k)) + 1) ≤ B64 * val Z1 := Nat.mul_le_mul_left _ hlt
    have h6 := dg_lt hcs j
    rw [Nat.mul_add, Nat.mul_one] at h5
    rw [hp1, Nat.mul_comm (val Z1)]
    omega
   have hT := takeOut_any wr w.heap.size j (X.length + 1 - j) n n' cs Z1 (some ⟨w1.heap.size, 0, none⟩) hblk hcs (by rw [HZ1L.out]; omega) (hdiv.num HZ1D.out) (by rw [HZ1L.out]; omega) (by intro _ p e; injection e with e; rw [← e]; exact h01.symm) (by omega) hD hP
   rw [show n' + 3 = n + 1 by omega, show n' + 2 = n by omega] at hT
   have HT := lh hT
   have HS : Hid (∀ (w3 : World) (zs : List Nat), zs.length = Z1.length + 1 → Digs zs → val zs = val ((cs.drop j).take (Z1.length + 1)) % val Z1 → Blk w3 w.heap.size (mid cs j zs) → wr.grownBy w3 (some w.heap.size) →
     LongRel w (w3.setCell ⟨w2.heap.size, j, none⟩ (.int .u64 ((val ((cs.drop j).take (Z1.length + 1)) / val Z1 : Nat) : Int))) w.heap.size w1.heap.size w2.heap.size n M Z0 Z1 (.int .i64 ((k : Int) + 1))) := by
    intro w3 zs g1 g2 g3 g4 g5
    exact long_step hkm hj (by omega) (by omega) h01 (lR _) (by omega) hcl hcs hql hqd HZ1D.out HZ1L.out (by rw [HZ0L.out]; omega) htk hv hlt hq hdiv hbw g1 g2 g3 g4 g5
   have HQ := lh hq
   have HQL := lh hql
   clear hT hP hp1 hp2 hD hblk hq hdiv hbw hv hlt htk hcl hql hn' hj
   go_wp2_with fail
   refine HT.out.mono ?_
   rintro e w3 ⟨rfl, ⟨zs, hzl, hzd, hz, hblk3⟩, hown3⟩
   have hq3 : Blk w3 w2.heap.size (List.replicate (M - k) 0 ++ qs) := HQ.out.of_heap (hown3.block _ HQ.out.lt (by intro e; injection e with e; omega))
   have ho := hq3.cell (i := j) (by rw [List.length_append, List.length_replicate]; omega)
   have hf := hq3.frozen j
   have HR := lh (HS.out w3 zs hzl hzd hz hblk3 hown3)
   clear hz hblk3 hown3 hq3 hzl
   go_wp2_with fail
   go_roundw
   case rel => exact HR.out
   case measure => simp [intOf]; omega
  ·have hkM : k = M := by omega
   rw [hkM, Nat.sub_self, List.drop_zero, List.drop_zero] at hv
   rw [hkM, Nat.sub_self, List.drop_zero] at hlt
   rw [hkM, Nat.sub_self, List.replicate_zero, List.nil_append] at hq
   have hyp : 0 < val Y := by
    rcases Nat.eq_zero_or_pos (val Y) with h0 | h0
    ·rw [HZ1.out, h0, Nat.zero_mul] at hlt; omega
    ·exact h0
   have hXl : ((cs.drop 0).take n).length = n := by rw [lK, List.length_drop]; omega
   have hXv : val ((cs.drop 0).take n) = val cs := by
    rw [List.drop_zero]
    refine val_take_of_le (lR _) ?_
    have := val_lt HZ1D.out
    rw [HZ1L.out] at this
    omega
   rw [HZ0.out, HZ1.out] at hv
   rw [HZ1.out] at hlt
   have HEND : Hid (∀ v, v = val cs / 2 ^ s → val qs = val X / val Y ∧ v = val X % val Y) := fun v hvv => long_end hyp hv hlt hvv
   have hL := lower_any wr w.heap.size 0 (X.length + 1) s (X.length + 1) cs ((cs.drop 0).take n) (some ⟨w.heap.size, 0, none⟩) hblk (by rw [hXl]; omega) (Src.self hcs) hs63 (by rw [hXl]; omega)
   rw [hXl] at hL
   have HL := lh hL
   have HXV := lh hXv
   have HQ := lh hq
   have HQL : Hid (qs.length = M) := by show qs.length = M; omega
   have HBW := lh hbw
   have HCL := lh hcl
   have hnx : n ≤ X.length + 1 := by omega
   have hnx' : (n : Int) ≤ (X.length : Int) + 1 := by omega
   have HKM := lh hkM
   clear hL hXv hq hbw hblk hdiv hv hlt htk hyp hql hcl hkM hXl
   go_wp2_with fail
   refine HL.out.mono ?_
   rintro e w3 ⟨rfl, ⟨zs, hzl, hzd, hz, hblk3⟩, hown3⟩
   have hXl : ((cs.drop 0).take n).length = n := by rw [lK, List.length_drop, HCL.out]; omega
   rw [hXl] at hzl
   rw [HXV.out] at hz
   obtain ⟨e1, e2⟩ := HEND.out _ hz
   have hq3 : Blk w3 w2.heap.size qs := HQ.out.of_heap (hown3.block _ HQ.out.lt (by intro e; injection e with e; omega))
   have hcut1 := cut_any w3 _ M qs (hq3.num hqd) (by rw [HQL.out]; omega) (by rw [HQL.out]; omega)
   rw [HQL.out, e1] at hcut1
   have hnum : Num w3 (some ⟨w.heap.size, 0, none⟩) zs := by
    have h := (hblk3.num (hcs.mid hzd 0)).take zs.length
    rwa [mid_take] at h
   have hcut2 := cut_at w3 _ (X.length + 1) zs hnum (by omega) (by omega)
   rw [hzl, e2] at hcut2
   have HC1 := lh hcut1
   have HC2 := lh hcut2
   have HFIN : Hid (Below w.heap.size w w3 ∧ Blk w3 w.heap.size (mid cs 0 zs) ∧ Digs (mid cs 0 zs) ∧ (mid cs 0 zs).length = X.length + 1 ∧ (dig (val X % val Y)).length ≤ n ∧ (mid cs 0 zs).take (dig (val X % val Y)).length = dig (val X % val Y)) := by
    have hl : (dig (val X % val Y)).length ≤ n := by rw [← e2, ← hzl]; exact dig_length_val hzd
    refine ⟨HBW.out.grown hown3 HBW.out.size (by intro i hi; injection hi with hi; omega), hblk3, hcs.mid hzd 0, by rw [mid_length (by rw [HCL.out]; omega), HCL.out]; omega, hl, ?_⟩
    have h := dig_take_self hzd
    rw [e2] at h
    have h2 : (mid cs 0 zs).take (dig (val X % val Y)).length = zs.take (dig (val X % val Y)).length := by
     have h3 : ((mid cs 0 zs).take zs.length).take (dig (val X % val Y)).length = zs.take (dig (val X % val Y)).length := by rw [mid_take]
     rwa [List.take_take, Nat.min_eq_left (by omega)] at h3
    rw [h2]
    exact h.symm
   clear hcut1 hcut2 hnum hq3 hz hblk3 hown3 hzl hXl e1 e2
   go_wp2_with fail
   refine HC1.out.mono ?_
   rintro e w4 ⟨A1, c1, rfl, hc1, ha1, rfl⟩
   go_wp2_with fail
   refine HC2.out.mono ?_
   rintro e w4 ⟨A2, c2, rfl, hc2, ha2, rfl, hc2'⟩
   have HA1 := lh ha1
   have HA2 := lh ha2
   have HC2' := lh hc2'
   clear ha1 ha2 hc2'
   go_wp2
   go_ret2
   obtain ⟨f1, f2, f3, f4, f5, f6⟩ := HFIN.out
   refine ⟨A1, c1, A2, c2, w.heap.size, _, rfl, hc1, hc2, HA1.out, HA2.out, f1, lR _, f2, f3, by omega, f6, fun hp => ?_⟩
   obtain ⟨g1, g2⟩ := HC2'.out hp
   exact ⟨g1, by omega⟩
end

section
open Go.RowKit
def RetDM (w : World) (q r : Nat) (e : Ending) (w' : World) : Prop :=
 ∃ A c B d, e = .returned (.tuple #[.slice A (dig q).length c, .slice B (dig r).length d]) ∧ (dig q).length ≤ c ∧ (dig r).length ≤ d ∧ Num w' A (dig q) ∧ Num w' B (dig r) ∧ Below w.heap.size w w'
theorem RetQR.dm {w : World} {q r : Nat} {e : Ending} {w' : World} (h : RetQR w q r e w') : RetDM w q r e w' := by
 obtain ⟨A, c, B, d, g, zs, h1, h2, h3, h4, h5, h6, _⟩ := h
 exact ⟨A, c, B, d, h1, h2, h3, h4, h5, h6⟩
theorem Blk.lit (w : World) (xs : List Nat) : Blk (w.alloc (.cells (xs.map dcell).toArray 164)) w.heap.size xs := heap_alloc_new w _
theorem Blk.lit1 (w : World) (x : Nat) : Blk (w.alloc (.cells #[.int .u64 (x : Int)] 164)) w.heap.size [x] := Blk.lit w [x]
def dmq (a b : Nat) : Nat := a / b
def dmr (a b : Nat) : Nat := if b = 0 then 0 else a % b
set_option maxHeartbeats 2000000 in
theorem divmod_any (w : World) (A B : Option Addr) (c d : Nat) (xs ys : List Nat) (ha : Num w A xs) (hb : Num w B ys) (hn : xs.length ≤ 8589934592) (hm : ys.length ≤ 8589934592)
  (hc : xs.length ≤ c) (hd : ys.length ≤ d) :
  Calls tz 220 #[.slice A xs.length c, .slice B ys.length d] w (RetDM w (dmq (val xs) (val ys)) (dmr (val xs) (val ys))) := by
 have C1 := lh (cut_any w A c xs ha (by omega) hc)
 have C2 := lh (cut_any w B d ys hb (by omega) hd)
 have hl1 := dig_length_val ha.1
 have hl2 := dig_length_val hb.1
 clear ha hb
 generalize val xs = a at *
 generalize val ys = b at *
 by_cases hb0 : b = 0
 ·have hq : Hid (dmq a b = 0 ∧ dmr a b = 0) := by subst hb0; exact ⟨Nat.div_zero a, rfl⟩
  have hbl : (((dig b).length : Int) == 0) = true := by rw [hb0, dig_zero]; rfl
  clear hb0
  go_enter Tryz.func220, Tryz.ntmps220
  go_wp2_with fail
  refine C1.out.mono ?_
  rintro e w' ⟨A', c', rfl, hc', ha', rfl⟩
  go_wp2_with fail
  refine C2.out.mono ?_
  rintro e w' ⟨B', d', rfl, hd', hb', rfl⟩
  clear ha' hb' C1 C2
  go_wp2_with fail
  go_ret2
  obtain ⟨e1, e2⟩ := hq.out
  rw [e1, e2]
  exact ⟨none, 0, none, 0, by rw [dig_zero]; rfl, by rw [dig_zero]; simp, by rw [dig_zero]; simp, by rw [dig_zero]; exact Num.nil _ _, by rw [dig_zero]; exact Num.nil _ _, bR _ _⟩
 ·have hdr : dmr a b = a % b := by unfold dmr; rw [if_neg hb0]
  have hlb0 : (dig b).length ≠ 0 := fun h => hb0 (dig_nil_iff.1 h)
  have hbl : (((dig b).length : Int) == 0) = false := by rw [beq_eq_false_iff_ne]; omega
  rcases Nat.lt_or_ge a b with hab | hab
  ·have hq : Hid (dmq a b = 0 ∧ dmr a b = a) := ⟨Nat.div_eq_of_lt hab, by rw [hdr, Nat.mod_eq_of_lt hab]⟩
   have HCM : Hid (cmpv a b = -1) := cmpv_lt hab
   clear hdr hab
   go_enter Tryz.func220, Tryz.ntmps220
   go_wp2_with fail
   refine C1.out.mono ?_
   rintro e w' ⟨A', c', rfl, hc', ha', rfl⟩
   go_wp2_with fail
   refine C2.out.mono ?_
   rintro e w' ⟨B', d', rfl, hd', hb', rfl⟩
   have HCMP := cmp_any w A' B' c' d' (dig a) (dig b) ha' hb' (by omega) (by omega) hc' hd'
   rw [val_dig, val_dig, HCM.out] at HCMP
   have HC := lh HCMP
   have HA := lh ha'
   clear ha' hb' C1 C2 HCMP
   go_wp2_with fail
   refine HC.out.mono ?_
   rintro e w' ⟨rfl, q, rfl⟩
   have HT := trim_any (w.drewN q) A' c' (dig a) (HA.out.drewN q) (by omega) hc'
   rw [val_dig] at HT
   have HTT := lh HT
   clear HT
   go_wp2_with fail
   refine HTT.out.mono ?_
   rintro e w2 ⟨A2, c2, rfl, hc2, ha2, hb2⟩
   have HA2 := lh ha2
   have HB2 : Hid (Below w.heap.size w w2) := (below_drewN (bR _ _) q).trans hb2
   clear ha2 hb2
   go_wp2_with fail
   go_ret2
   obtain ⟨e1, e2⟩ := hq.out
   rw [e1, e2]
   exact ⟨none, 0, A2, c2, by rw [dig_zero]; rfl, by rw [dig_zero]; simp, hc2, by rw [dig_zero]; exact Num.nil _ _, HA2.out, HB2.out⟩
  ·have hz : ∃ z : Int, cmpv a b = z ∧ ¬ z < 0 := by
    rcases Nat.lt_or_ge b a with h | h
    ·exact ⟨1, cmpv_gt h, by omega⟩
    ·exact ⟨0, cmpv_eq (by omega), by omega⟩
   obtain ⟨z, hz1, hz2⟩ := hz
   have HCM := lh hz1
   have HDR : Hid (dmr a b = a % b) := hdr
   have hlab := dig_length_mono hab
   have hbpos : 0 < b := by omega
   clear hz1 hdr hab
   by_cases hone : (dig b).length = 1
   ·have hone' : (((dig b).length : Int) == 1) = true := by rw [hone]; rfl
    have HONE := lh hone
    have hlt0 : (0 : Int) < ((dig b).length : Int) := by omega
    have hmk := run_make_u64 (dig a).length (by omega)
    have HBV : Hid (b = dg (dig b) 0) := by
     have h := val_take_dg (dig b) 0
     rw [List.take_of_length_le (by omega), val_dig, List.take_zero, val_nil, Nat.pow_zero, Nat.one_mul, Nat.zero_add] at h
     exact h
    clear hone
    go_enter Tryz.func220, Tryz.ntmps220
    go_wp2_with fail
    refine C1.out.mono ?_
    rintro e w' ⟨A', c', rfl, hc', ha', rfl⟩
    go_wp2_with fail
    refine C2.out.mono ?_
    rintro e w' ⟨B', d', rfl, hd', hb', rfl⟩
    have HCMP := cmp_any w A' B' c' d' (dig a) (dig b) ha' hb' (by omega) (by omega) hc' hd'
    rw [val_dig, val_dig, HCM.out] at HCMP
    have HC := lh HCMP
    have HA := lh ha'
    obtain ⟨b1, o1, rfl, hb1, hcell⟩ := hb'.at_ (by omega)
    have hx := hcell 0 (by omega)
    rw [← HBV.out, Nat.add_zero] at hx
    have hb64 : b < B64 := by
     have := dg_lt (dig_digs b) 0
     rwa [← HBV.out] at this
    have HB64 := lh hb64
    clear ha' hb' C1 C2 HCMP hcell hb64
    go_wp2_with fail
    refine HC.out.mono ?_
    rintro e w' ⟨rfl, q, rfl⟩
    have hx2 : ((w.drewN q).alloc (.cells (madeCells #[.int .u64 0] (dig a).length) 164)).cell? ⟨b1, o1, none⟩ = some (.int .u64 (b : Int)) := (World.cell?_alloc_lt (w.drewN q) _ _ hb1).trans hx
    go_wp2_with fail
    have hD := divd_any ((w.drewN q).alloc (.cells (madeCells #[.int .u64 0] (dig a).length) 164)) w.heap.size (dig a).length c' b (dig a) A' (Blk.made (w.drewN q) _) ((HA.out.drewN q).alloc _) (HA.out.ne (lR _)) hbpos HB64.out (by omega)
    have HD := lh hD
    clear hD
    refine HD.out.mono ?_
    rintro e w2 ⟨he, ⟨qs, hql, hqd, hqv, hblk⟩, hown⟩
    rw [val_dig] at hqv he
    obtain ⟨r, hr⟩ : ∃ r, r = a % b := ⟨_, rfl⟩
    rw [← hr] at he
    subst he
    have HR := lh hr
    have hrb : r < b := by rw [hr]; exact Nat.mod_lt _ hbpos
    clear hr
    have hB2 : Below w.heap.size w w2 := ((below_drewN (bR _ _) q).alloc (lR _) _).grown hown (by simp [World.drewN]) (by intro k hk; injection hk with hk; exact Nat.le_of_eq hk)
    have hcut := cut_any w2 _ (dig a).length qs (hblk.num hqd) (by omega) (by omega)
    rw [hql, hqv] at hcut
    have HCUT := lh hcut
    have HB2 := lh hB2
    clear hcut hblk hown hB2 hqv hql
    go_wp2_with fail
    refine HCUT.out.mono ?_
    rintro e w3 ⟨A2, c2, rfl, hc2, ha2, rfl⟩
    have HA2 := lh ha2
    clear ha2 HCUT
    go_wp2_with fail
    have hlit := Blk.lit1 w2 r
    have hcut := cut_any _ _ 1 [r] (hlit.num (Digs.cons (Nat.lt_trans hrb HB64.out) Digs.nil)) (by simp) (by simp)
    rw [val_cons, val_nil, Nat.mul_zero, Nat.add_zero, List.length_singleton] at hcut
    have HCUT := lh hcut
    clear hcut hlit
    refine HCUT.out.mono ?_
    rintro e w3 ⟨A3, c3, rfl, hc3, ha3, rfl⟩
    have HA3 := lh ha3
    clear ha3 HCUT
    go_wp2_with fail
    go_ret2
    rw [HDR.out, ← HR.out]
    exact ⟨A2, c2, A3, c3, rfl, hc2, hc3, HA2.out.alloc _, HA3.out, HB2.out.alloc HB2.out.size _⟩
   ·have hone' : (((dig b).length : Int) == 1) = false := by rw [beq_eq_false_iff_ne]; omega
    have htop : dg (dig b) ((dig b).length - 1) ≠ 0 := by
     intro h
     have h1 := dig_top b
     rw [List.getLast?_eq_getElem?, gE (by omega)] at h1
     rw [dg_of_lt (by omega)] at h
     exact h1 (by rw [h])
    have hbl64 := blen_digit (dg_lt (dig_digs b) ((dig b).length - 1))
    obtain ⟨s, hs⟩ : ∃ s, s + blen (dg (dig b) ((dig b).length - 1)) = 64 := ⟨64 - blen (dg (dig b) ((dig b).length - 1)), by omega⟩
    have HTOP := lh htop
    have HS := lh hs
    clear htop hs hbl64
    go_enter Tryz.func220, Tryz.ntmps220
    go_wp2_with fail
    refine C1.out.mono ?_
    rintro e w' ⟨A', c', rfl, hc', ha', rfl⟩
    go_wp2_with fail
    refine C2.out.mono ?_
    rintro e w' ⟨B', d', rfl, hd', hb', rfl⟩
    have HCMP := cmp_any w A' B' c' d' (dig a) (dig b) ha' hb' (by omega) (by omega) hc' hd'
    rw [val_dig, val_dig, HCM.out] at HCMP
    have HC := lh HCMP
    have hL : ∀ q, Calls tz 238 #[.slice A' (dig a).length c', .slice B' (dig b).length d'] (w.drewN q) (RetQR (w.drewN q) (a / b) (a % b)) := by
     intro q
     have h := long_any (w.drewN q) A' B' c' d' (dig b).length s ((dig a).length - (dig b).length + 1) (dig a) (dig b) (ha'.drewN q) (hb'.drewN q) (by omega) rfl (by omega) hlab HS.out HTOP.out (by omega)
     rw [val_dig, val_dig] at h
     exact h
    have HL := lh hL
    clear ha' hb' C1 C2 HCMP hL
    go_wp2_with fail
    refine HC.out.mono ?_
    rintro e w' ⟨rfl, q, rfl⟩
    go_wp2_with fail
    refine (HL.out q).mono ?_
    rintro e w2 h2
    obtain ⟨A2, c2, A3, c3, rfl, hc2, hc3, ha2, ha3, hb2⟩ := h2.dm
    have HA2 := lh ha2
    have HA3 := lh ha3
    have HB2 : Hid (Below w.heap.size w w2) := (below_drewN (bR _ _) q).trans hb2
    clear ha2 ha3 hb2 h2
    go_wp2_with fail
    go_ret2
    rw [HDR.out]
    exact ⟨A2, c2, A3, c3, rfl, hc2, hc3, HA2.out, HA3.out, HB2.out⟩
end

section
open Go.RowKit
theorem quiet_first {P : Program} {f : FuncId} {args : Array Value} {w : World} {n : Nat} {v : Value}
  (h : Calls P f args (w.drewN n) fun e w' => e = .returned v ∧ ∃ m, w' = (w.drewN n).drewN m) : Calls P f args (w.drewN n) fun e w'' => e = .returned v ∧ ∃ m, w'' = w.drewN m :=
 h.mono fun _ _ ⟨he, m, hm⟩ => ⟨he, n + m, by rw [hm, World.drewN_drewN]⟩
theorem dig_one {x : Nat} (h0 : 0 < x) (h : x < B64) : dig x = [x] := by
 rw [dig_pos (by omega), Nat.mod_eq_of_lt h, Nat.div_eq_of_lt h, dig_zero]
structure GcdRel (w wr : World) (G : Nat) (xv yv : Value) : Prop where
 ex : ∃ x y : Nat, xv = .int .u64 (x : Int) ∧ yv = .int .u64 (y : Int) ∧ 0 < x ∧ x < B64 ∧ y < B64 ∧ Nat.gcd x y = G
 drew : ∃ n, wr = w.drewN n
set_option maxHeartbeats 4000000 in
theorem gcd_small (w : World) (A B : Option Addr) (c d : Nat) (xs ys : List Nat) (ha : Num w A xs) (hb : Num w B ys) (hn : xs.length ≤ 8589934592) (hm : ys.length ≤ 8589934592)
  (hc : xs.length ≤ c) (hd : ys.length ≤ d) (hs : (dig (min (val xs) (val ys))).length ≤ 1) :
  Calls tz 200 #[.slice A xs.length c, .slice B ys.length d] w (RetN w (Nat.gcd (val xs) (val ys))) := by
 have C1 := lh (cut_any w A c xs ha (by omega) hc)
 have C2 := lh (cut_any w B d ys hb (by omega) hd)
 have hl1 := dig_length_val ha.1
 have hl2 := dig_length_val hb.1
 clear ha hb
 rcases Nat.lt_or_ge (val xs) (val ys) with hab | hab
 case' inl =>
  rw [Nat.min_eq_left (by omega)] at hs
  rw [Nat.gcd_comm]
  generalize val xs = b at *
  generalize val ys = a at *
  have HCM : Hid (cmpv b a = -1) := cmpv_lt hab
  clear hab
  go_enter Tryz.func200, Tryz.ntmps200
  go_wp2_with fail
  refine C1.out.mono ?_
  rintro e w' ⟨B', d', rfl, hd', hb', rfl⟩
  go_wp2_with fail
  refine C2.out.mono ?_
  rintro e w' ⟨A', c', rfl, hc', ha', rfl⟩
  have HCMP := cmp_any w B' A' d' c' (dig b) (dig a) hb' ha' (by omega) (by omega) hd' hc'
  rw [val_dig, val_dig, HCM.out] at HCMP
  have HC := lh HCMP
  clear HCMP HCM
 case' inr =>
  rw [Nat.min_eq_right (by omega)] at hs
  generalize val xs = a at *
  generalize val ys = b at *
  obtain ⟨z, hz1, hz2⟩ : ∃ z : Int, cmpv a b = z ∧ ¬ z < 0 := by
   rcases Nat.lt_or_ge b a with h | h
   ·exact ⟨1, cmpv_gt h, by omega⟩
   ·exact ⟨0, cmpv_eq (by omega), by omega⟩
  have HCM := lh hz1
  clear hz1 hab
  go_enter Tryz.func200, Tryz.ntmps200
  go_wp2_with fail
  refine C1.out.mono ?_
  rintro e w' ⟨A', c', rfl, hc', ha', rfl⟩
  go_wp2_with fail
  refine C2.out.mono ?_
  rintro e w' ⟨B', d', rfl, hd', hb', rfl⟩
  have HCMP := cmp_any w A' B' c' d' (dig a) (dig b) ha' hb' (by omega) (by omega) hc' hd'
  rw [val_dig, val_dig, HCM.out] at HCMP
  have HC := lh HCMP
  clear HCMP HCM
 all_goals
  have HA := lh ha'
  have HB := lh hb'
  clear C1 C2 ha' hb'
  have hs' : ¬ (1 : Int) < ((dig b).length : Int) := by omega
  by_cases hb0 : b = 0
  ·have hbl : (((dig b).length : Int) == 0) = true := by rw [hb0, dig_zero]; rfl
   have hg : Hid (Nat.gcd a b = a) := by rw [hb0]; exact Nat.gcd_zero_right a
   clear hb0
   go_wp2_with fail
   refine HC.out.mono ?_
   rintro e w' ⟨rfl, q, rfl⟩
   have hT := trim_any (w.drewN q) A' c' (dig a) (HA.out.drewN q) (by omega) hc'
   rw [val_dig] at hT
   have HT := lh hT
   clear hT
   go_wp2_with fail
   refine HT.out.mono ?_
   rintro e w2 ⟨A2, c2, rfl, hc2, ha2, hb2⟩
   have HA2 := lh ha2
   have HB2 : Hid (Below w.heap.size w w2) := (below_drewN (bR _ _) q).trans hb2
   clear ha2 hb2
   go_wp2_with fail
   go_ret
   rw [hg.out]
   exact ⟨A2, c2, rfl, hc2, HA2.out, HB2.out⟩
  ·have hbpos : 0 < b := by omega
   have hlb0 : (dig b).length ≠ 0 := fun h => hb0 (dig_nil_iff.1 h)
   have hbl : (((dig b).length : Int) == 0) = false := by rw [beq_eq_false_iff_ne]; omega
   have hlt0 : (0 : Int) < ((dig b).length : Int) := by omega
   have HBV : Hid (b = dg (dig b) 0) := by
    have h := val_take_dg (dig b) 0
    rw [List.take_of_length_le (by omega), val_dig, List.take_zero, val_nil, Nat.pow_zero, Nat.one_mul, Nat.zero_add] at h
    exact h
   obtain ⟨b1, o1, rfl, hb1, hcell⟩ := HB.out.at_ (by omega)
   have hx := hcell 0 (by omega)
   rw [← HBV.out, Nat.add_zero] at hx
   have hb64 : b < B64 := by
    have := dg_lt (dig_digs b) 0
    rwa [← HBV.out] at this
   have HR : Hid (∀ q, Calls tz 219 #[.slice A' (dig a).length c', .int .u64 b] (w.drewN q) fun e w' => e = .returned (.int .u64 ((a % b : Nat) : Int)) ∧ ∃ n, w' = (w.drewN q).drewN n) := by
    intro q
    have h := rest_any (w.drewN q) c' b (dig a) A' (HA.out.drewN q) hbpos hb64 (by omega)
    rwa [val_dig] at h
   have hrb := Nat.mod_lt a hbpos
   have hgc : Nat.gcd a b = Nat.gcd b (a % b) := by rw [Nat.gcd_comm, Nat.gcd_rec, Nat.gcd_comm]
   obtain ⟨r, hr⟩ : ∃ r, r = a % b := ⟨_, rfl⟩
   rw [← hr] at HR hrb hgc
   have HGC := lh hgc
   have HB64 := lh hb64
   clear hb0 hlb0 hgc hr hcell hb64
   go_wp2_with fail
   refine HC.out.mono ?_
   rintro e w' ⟨rfl, q, rfl⟩
   go_wp2_with fail
   go_quiet ((go_at_call 219; exact quiet_add (HR.out _)))
   go_wp2_with fail
   go_loopw [5, 6] (fun xv yv wr => GcdRel w wr (Nat.gcd a b) xv yv) (fun _ yv _ => (intOf yv).toNat)
   case atStart => exact ⟨⟨b, r, rfl, rfl, hbpos, HB64.out, Nat.lt_trans hrb HB64.out, HGC.out.symm⟩, _, by rw [World.drewN_drewN]⟩
   case round =>
    obtain ⟨⟨x, y, rfl, rfl, hx0, hx64, hy64, hg⟩, n, rfl⟩ := hrel
    by_cases hy : y = 0
    ·have hy' : ((y : Int) != 0) = false := by rw [hy]; rfl
     have HE : Hid (Nat.gcd a b = x) := by rw [← hg, hy]; exact Nat.gcd_zero_right x
     have HX := lh (dig_one hx0 hx64)
     have HX64 := lh hx64
     clear hy hg hx64
     go_wp2_with fail
     go_ret
     rw [HE.out]
     refine ⟨some ⟨w.heap.size, 0, none⟩, 1, by rw [HX.out]; rfl, by rw [HX.out]; simp, ?_, ?_⟩
     ·rw [HX.out]
      exact ((Blk.lit1 w x).drewN n).num (Digs.cons HX64.out Digs.nil)
     ·exact below_drewN ((bR _ _).alloc (lR _) _) n
    ·have hy' : ((y : Int) != 0) = true := by rw [bne_iff_ne]; omega
     have hy1 : 1 ≤ (y : Int) := by omega
     have hyz : ((y : Int) == 0) = false := by rw [beq_eq_false_iff_ne]; omega
     have HS : Hid (∀ m, GcdRel w ((w.drewN n).drewN m) (Nat.gcd a b) (.int .u64 (y : Int)) (.int .u64 ((x % y : Nat) : Int))) := by
      intro m
      have h1 := Nat.mod_lt x (show y > 0 by omega)
      refine ⟨⟨y, x % y, rfl, rfl, by omega, hy64, Nat.lt_trans h1 hy64, ?_⟩, n + m, by rw [World.drewN_drewN]⟩
      rw [← hg, Nat.gcd_comm x y, Nat.gcd_rec y x, Nat.gcd_comm]
     have hml : Hid (x % y < y) := Nat.mod_lt x (show y > 0 by omega)
     clear hg hy
     go_wp2_with fail
     go_quiet (fail)
     go_wp2_with fail
     go_roundw
     case rel => exact HS.out nq
     case measure =>
      have h := hml.out
      simp [intOf]; omega
end

section
open Go.RowKit
section
variable (w : World) (xs ys : List Nat) (n m : Nat) (X Y : Array Value) (hX : (xs.map dcell).toArray = X) (hY : (ys.map dcell).toArray = Y) (hn : xs.length = n) (hm : ys.length = m) (hx : Digs xs) (hy : Digs ys)
 (hn2 : n ≤ 4294967296) (hm2 : m ≤ 4294967296)
include hX hY hn hm hx hy hn2 hm2
end
end

section
open Go.RowKit
theorem dl_add (m n : Nat) : (dig (m + n)).length ≤ (dig m).length + (dig n).length + 1 := by
 refine dig_length_le ?_
 have h1 := val_lt (dig_digs m)
 have h2 := val_lt (dig_digs n)
 rw [val_dig] at h1 h2
 have h3 : B64 ^ (dig m).length ≤ B64 ^ ((dig m).length + (dig n).length) := Nat.pow_le_pow_right B64_pos (by omega)
 have h4 : B64 ^ (dig n).length ≤ B64 ^ ((dig m).length + (dig n).length) := Nat.pow_le_pow_right B64_pos (by omega)
 have h5 : B64 ^ ((dig m).length + (dig n).length + 1) = B64 ^ ((dig m).length + (dig n).length) * B64 := Nat.pow_succ _ _
 have h6 : B64 ^ ((dig m).length + (dig n).length) * 2 ≤ B64 ^ ((dig m).length + (dig n).length) * B64 := Nat.mul_le_mul_left _ (by rw [B64_eq]; omega)
 omega
theorem dl_mul (m n : Nat) : (dig (m * n)).length ≤ (dig m).length + (dig n).length := by
 refine dig_length_le ?_
 have h1 := val_lt (dig_digs m)
 have h2 := val_lt (dig_digs n)
 rw [val_dig] at h1 h2
 rw [Nat.pow_add]
 exact Nat.mul_lt_mul'' h1 h2
theorem dl_le {m n : Nat} (h : m ≤ n) : (dig m).length ≤ (dig n).length := dig_length_mono h
section
variable (w : World) (A B : Option Addr) (c d : Nat) (xs ys : List Nat) (m n : Nat) (ha : Num w A xs) (hb : Num w B ys) (hx : val xs = m) (hy : val ys = n) (hn : xs.length ≤ 1000000) (hm : ys.length ≤ 1000000) (hc : xs.length ≤ c) (hd : ys.length ≤ d)
include ha hb hx hy hn hm hc hd
theorem add_v : Calls tz 173 #[.slice A xs.length c, .slice B ys.length d] w (RetN w (m + n)) := by
 subst hx; subst hy; exact add_any w A B c d xs ys ha hb (by omega) (by omega) hc hd
theorem sub_v : Calls tz 175 #[.slice A xs.length c, .slice B ys.length d] w (RetN w (m - n)) := by
 subst hx; subst hy; exact sub_any w A B c d xs ys ha hb (by omega) (by omega) hc hd
theorem mul_v : Calls tz 178 #[.slice A xs.length c, .slice B ys.length d] w (RetN w (m * n)) := by
 subst hx; subst hy; exact mul_any w A B c d xs ys ha hb (by omega) (by omega) hc hd
theorem dm_v : Calls tz 220 #[.slice A xs.length c, .slice B ys.length d] w (RetDM w (dmq m n) (dmr m n)) := by
 subst hx; subst hy; exact divmod_any w A B c d xs ys ha hb (by omega) (by omega) hc hd
theorem cmp_v : Calls tz 174 #[.slice A xs.length c, .slice B ys.length d] w (RetI w (cmpv m n)) := by
 subst hx; subst hy; exact (cmp_any w A B c d xs ys ha hb (by omega) (by omega) hc hd).mono fun _ _ h => h.below
end
section
variable (w : World) (A : Option Addr) (c : Nat) (xs : List Nat) (m : Nat) (ha : Num w A xs) (hx : val xs = m) (hn : xs.length ≤ 1000000) (hc : xs.length ≤ c)
include ha hx hn hc
theorem trim_v : Calls tz 168 #[.slice A xs.length c] w (RetN w m) := by
 subst hx; exact trim_any w A c xs ha (by omega) hc
end
theorem num_of_row {w : World} {a : Option Addr} {len cap : Nat} {zs : List Int}
  (h : (a = none ∧ len = 0 ∧ cap = 0 ∧ zs = []) ∨
   ∃ x, a = some x ∧ len ≤ cap ∧ cap ≤ maxLen ∧ zs.length = cap ∧ (∀ i, i < zs.length → w.cell? (x.add i) = some (.int .u64 (zs.getD i 0))) ∧ ∀ n ∈ zs, (Lit.int .u64 n).wf = true) :
  ∃ xs : List Nat, xs.length = len ∧ Num w a xs ∧ len ≤ cap := by
 rcases h with ⟨rfl, rfl, rfl, rfl⟩ | ⟨x, rfl, hl, hm, hz, hc, hw⟩
 ·exact ⟨[], rfl, Num.nil _ _, lR _⟩
 ·have hb : ∀ i, i < zs.length → 0 ≤ zs.getD i 0 ∧ zs.getD i 0 < 18446744073709551616 := by
   intro i hi
   have h1 := hw (zs.getD i 0) (by rw [List.getD_eq_getElem?_getD, gE hi]; exact List.getElem_mem hi)
   have h2 := bounds_u64 h1
   exact ⟨h2.1, by omega⟩
  have hl2 : ((zs.take len).map Int.toNat).length = len := by rw [List.length_map, lK]; omega
  have hdg : ∀ i, i < len → dg ((zs.take len).map Int.toNat) i = (zs.getD i 0).toNat := by
   intro i hi
   unfold dg
   rw [List.getD_eq_getElem?_getD, List.getElem?_map, List.getElem?_take_of_lt hi, List.getD_eq_getElem?_getD, gE (by omega)]
   rfl
  refine ⟨(zs.take len).map Int.toNat, hl2, ⟨?_, ?_⟩, hl⟩
  ·intro y hy
   obtain ⟨z, hz1, rfl⟩ := List.mem_map.1 hy
   obtain ⟨i, hi, rfl⟩ := List.getElem_of_mem (List.mem_of_mem_take hz1)
   have := hb i hi
   rw [List.getD_eq_getElem?_getD, gE hi] at this
   rw [B64_eq]
   simp only [Option.getD_some] at this
   omega
  ·intro hne
   have hpos : 0 < len := by
    rw [← hl2]; exact List.length_pos_iff.2 hne
   have h0 := hc 0 (by omega)
   obtain ⟨b, off, spot⟩ := x
   have hs : spot = none := by
    have h1 : (⟨b, off, spot⟩ : Addr).add 0 = ⟨b, off, spot⟩ := by simp [Addr.add]
    rw [h1] at h0
    unfold World.cell? at h0
    cases spot with
    | none => rfl
    | some p =>
     simp only [Option.isSome_some, if_true] at h0
     split at h0 <;> cases h0
   subst hs
   refine ⟨b, off, rfl, block_lt_of_cell (a := (⟨b, off, none⟩ : Addr).add 0) h0 |> fun h => by rwa [addr_add] at h, fun i hi => ?_⟩
   rw [hl2] at hi
   have h1 := hc i (by omega)
   rw [addr_add] at h1
   rw [h1, hdg i hi]
   have := hb i (by omega)
   congr 2
   omega
end

section
set_option maxHeartbeats 1000000
open Go.RowKit
def zv (s : Bool) (m : Nat) : Int := if s then -(m : Int) else (m : Int)
def zneg (z : Int) : Bool := decide (z < 0)
theorem zv_zneg (z : Int) : zv (zneg z) z.natAbs = z := by
 unfold zv zneg
 by_cases h : z < 0
 ·rw [decide_eq_true h, if_pos rfl]; omega
 ·rw [decide_eq_false h, if_neg (by simp)]; omega
theorem zv_natAbs (s : Bool) (m : Nat) : (zv s m).natAbs = m := by cases s <;> simp [zv]
theorem zv_zero (s : Bool) : zv s 0 = 0 := by cases s <;> simp [zv]
theorem zneg_of {z : Int} {b : Bool} (h : b = true ↔ z < 0) : zneg z = b := by
 unfold zneg
 cases b with
 | true => exact decide_eq_true (h.1 rfl)
 | false => exact decide_eq_false (fun h2 => Bool.noConfusion (h.2 h2))
def RetZ (w : World) (z : Int) (e : Ending) (w' : World) : Prop :=
 ∃ A c, e = .returned (.agg #[.bool (zneg z), .slice A (dig z.natAbs).length c]) ∧ (dig z.natAbs).length ≤ c ∧ Num w' A (dig z.natAbs) ∧ Below w.heap.size w w'
theorem blen_pos {m : Nat} (h : m ≠ 0) : 0 < blen m := by unfold blen; rw [if_neg h]; omega
theorem signOf_any (w : World) (b : Bool) :
  Calls tz 167 #[.bool b] w fun e w' => e = .returned (.func (.func 197) #[] #[.pointer (some ⟨w.heap.size, 0, none⟩)]) ∧ w' = w.alloc (.cells #[.bool b] 4) := by
 go_enter Tryz.func167, Tryz.ntmps167
 go_wp2
 go_ret
 exact ⟨rfl, rfl⟩
theorem sign1_any (w : World) (p c : Nat) (s : Bool) (A : Option Addr) (xs : List Nat) (ha : Num w A xs) (hp : w.cell? ⟨p, 0, none⟩ = some (.bool s)) (hn : xs.length ≤ 8589934592) (hc : xs.length ≤ c) :
  Calls tz 197 #[.slice A xs.length c, .pointer (some ⟨p, 0, none⟩)] w fun e w' => e = .returned (.int .i64 (Int.sign (zv s (val xs)))) ∧ w = w' := by
 have HB := Lib.hid (bits_any w A c xs ha hn hc)
 clear ha
 generalize val xs = m at *
 by_cases h0 : m = 0
 ·have hz : (((blen m : Nat) : Int) == 0) = true := by rw [h0, blen_zero]; rfl
  have hs : Hid (Int.sign (zv s m) = 0) := by rw [h0, zv_zero]; rfl
  clear h0
  go_enter Tryz.func197, Tryz.ntmps197
  go_wp2_with fail
  refine HB.out.mono ?_
  rintro e w' ⟨rfl, rfl⟩
  go_wp2_with fail
  go_ret
  rw [hs.out]
  exact ⟨rfl, rfl⟩
 ·have hz : (((blen m : Nat) : Int) == 0) = false := by rw [beq_eq_false_iff_ne]; have := blen_pos h0; omega
  cases s with
  | true =>
   have hs : Hid (Int.sign (zv true m) = -1) := by
    have : zv true m < 0 := by simp only [zv, if_true]; omega
    exact Int.sign_eq_neg_one_of_neg this
   clear h0
   go_enter Tryz.func197, Tryz.ntmps197
   go_wp2_with fail
   refine HB.out.mono ?_
   rintro e w' ⟨rfl, rfl⟩
   go_wp2_with fail
   go_ret
   rw [hs.out]
   exact ⟨rfl, rfl⟩
  | false =>
   have hs : Hid (Int.sign (zv false m) = 1) := by
    have : 0 < zv false m := by simp only [zv]; rw [if_neg (by simp)]; omega
    exact Int.sign_eq_one_of_pos this
   clear h0
   go_enter Tryz.func197, Tryz.ntmps197
   go_wp2_with fail
   refine HB.out.mono ?_
   rintro e w' ⟨rfl, rfl⟩
   go_wp2_with fail
   go_ret
   rw [hs.out]
   exact ⟨rfl, rfl⟩
theorem number_any (w : World) (p c m : Nat) (s : Bool) (A : Option Addr) (ha : Num w A (dig m)) (hp : w.cell? ⟨p, 0, none⟩ = some (.bool s)) (hn : (dig m).length ≤ 8589934592) (hc : (dig m).length ≤ c) :
  Calls tz 166 #[.func (.func 197) #[] #[.pointer (some ⟨p, 0, none⟩)], .slice A (dig m).length c] w
   fun e w' => e = .returned (.agg #[.bool (zneg (zv s m)), .slice A (dig m).length c]) ∧ Below w.heap.size w w' := by
 have HS := Lib.hid (fun o : Obj => sign1_any (w.alloc o) p c s A (dig m) (ha.alloc o) ((World.cell?_alloc_some _ _ _ (by rw [hp]; rfl)).trans hp) hn hc)
 clear ha
 go_enter Tryz.func166, Tryz.ntmps166
 go_wp2_with fail
 refine (HS.out _).mono ?_
 rintro e w' ⟨rfl, rfl⟩
 rw [val_dig]
 go_wp2_with fail
 refine bodyPost_ret (v := .agg #[.bool (zneg (zv s m)), .slice A (dig m).length c]) (by simp [results, Tryz.results166, go_sem]; rfl) rfl ⟨rfl, ?_⟩
 repeat (first | exact bR _ _ | refine Below.setCell ?_ (by first | (simp; done) | (simp; omega)) _ | refine Below.alloc ?_ (by first | exact lR _ | (simp; done) | (simp; omega)) _)
end

section
open Go.RowKit
def Ibx (w : World) (g : Nat) (s : Bool) (A : Option Addr) (n c : Nat) : Prop := w.heap[g]? = some (.cells #[.bool s, .slice A n c] 25 (0, 0))
section
variable {w w' : World} {g : Nat} {s : Bool} {A : Option Addr} {n c : Nat}
theorem Ibx.lt (h : Ibx w g s A n c) : g < w.heap.size := lt_of_block h
theorem Ibx.c0 (h : Ibx w g s A n c) : w.cell? ⟨g, 0, none⟩ = some (.bool s) := by unfold Ibx at h; rw [cell_of_row w g 0 _ _ _ h]; rfl
theorem Ibx.c1 (h : Ibx w g s A n c) : w.cell? ⟨g, 1, none⟩ = some (.slice A n c) := by unfold Ibx at h; rw [cell_of_row w g 1 _ _ _ h]; rfl
theorem Ibx.f (h : Ibx w g s A n c) (i : Nat) : w.frozen? ⟨g, i, none⟩ = false := frozen_of_row w g i _ _ h
theorem Ibx.alloc (h : Ibx w g s A n c) (o : Obj) : Ibx (w.alloc o) g s A n c := (Below.heap_alloc w o g h.lt).trans h
theorem Ibx.drew (h : Ibx w g s A n c) : Ibx w.drew g s A n c := h
theorem Ibx.below (h : Ibx w g s A n c) (hb : Below w.heap.size w w') : Ibx w' g s A n c := (hb.block g h.lt).trans h
theorem Ibx.new' (w : World) (s : Bool) (A : Option Addr) (n c g : Nat) (hg : g = w.heap.size) : Ibx (w.alloc (.cells #[.bool s, .slice A n c] 25)) g s A n c := by subst hg; exact heap_alloc_new w _
theorem Ibx.two (h : Ibx w g s A n c) (s' : Bool) (A' : Option Addr) (n' c' : Nat) : Ibx ((w.setCell ⟨g, 0, none⟩ (.bool s')).setCell ⟨g, 1, none⟩ (.slice A' n' c')) g s' A' n' c' := by
 unfold Ibx at h ⊢
 rw [heap_setCell_same _ g 1 _ _ _ (heap_setCell_same w g 0 _ _ _ h)]
 rfl
theorem Ibx.far (h : Ibx w g s A n c) {p : Addr} (hp : g ≠ p.block) (v : Value) : Ibx (w.setCell p v) g s A n c := (Below.heap_setCell w p v g hp).trans h
theorem Ibx.far_num (h : Ibx w g s A n c) {B : Option Addr} {xs : List Nat} (hB : Num w B xs) (hn : xs ≠ []) : ∀ p, B = some p → p.block ≠ g := by
 intro p e hg
 obtain ⟨b, off, e2, _, hc⟩ := hB.2 hn
 rw [e] at e2
 have e3 := Option.some.inj e2
 subst e3
 have h0 := hc 0 (List.length_pos_iff.2 hn)
 have hg' : b = g := hg
 subst hg'
 unfold Ibx at h
 rw [cell_of_row w b _ _ _ _ h] at h0
 rcases Nat.lt_or_ge (off + 0) 2 with h2 | h2
 ·rcases (show off + 0 = 0 ∨ off + 0 = 1 by omega) with h3 | h3 <;> rw [h3] at h0 <;> cases h0
 ·rw [Array.getElem?_eq_none (by simpa using h2)] at h0
  cases h0
theorem Num.two {B : Option Addr} {xs : List Nat} (hB : Num w B xs) (h : Ibx w g s A n c) (v0 v1 : Value) : Num ((w.setCell ⟨g, 0, none⟩ v0).setCell ⟨g, 1, none⟩ v1) B xs :=
 ⟨hB.1, fun hn => by
  have hfar := h.far_num hB hn
  obtain ⟨b, off, e, hlt, hc⟩ := hB.2 hn
  have hbg : b ≠ g := hfar _ e
  refine ⟨b, off, e, by simpa [World.setCell] using hlt, fun i hi => ?_⟩
  exact (World.cell?_of_block ((Below.heap_setCell _ _ _ b hbg).trans (Below.heap_setCell _ _ _ b hbg))).trans (hc i hi)⟩
end
def Sbx (w : World) (g : Nat) (s : Bool) : Prop := w.heap[g]? = some (.cells #[.bool s] 4 (0, 0))
section
variable {w w' : World} {g : Nat} {s : Bool}
theorem Sbx.lt (h : Sbx w g s) : g < w.heap.size := lt_of_block h
theorem Sbx.c (h : Sbx w g s) : w.cell? ⟨g, 0, none⟩ = some (.bool s) := by unfold Sbx at h; rw [cell_of_row w g 0 _ _ _ h]; rfl
theorem Sbx.alloc (h : Sbx w g s) (o : Obj) : Sbx (w.alloc o) g s := (Below.heap_alloc w o g h.lt).trans h
theorem Sbx.drew (h : Sbx w g s) : Sbx w.drew g s := h
theorem Sbx.below (h : Sbx w g s) (hb : Below w.heap.size w w') : Sbx w' g s := (hb.block g h.lt).trans h
theorem Sbx.new' (w : World) (s : Bool) (g : Nat) (hg : g = w.heap.size) : Sbx (w.alloc (.cells #[.bool s] 4)) g s := by subst hg; exact heap_alloc_new w _
end
theorem number_at (w W1 w3 : World) (p g c m : Nat) (s s0 : Bool) (A A0 : Option Addr) (n0 c0 : Nat) (hS : Sbx W1 p s) (hI : Ibx W1 g s0 A0 n0 c0) (hW : Below w.heap.size w W1) (hb3 : Below W1.heap.size W1 w3) (ha : Num w3 A (dig m)) (hn : (dig m).length ≤ 8589934592) (hc : (dig m).length ≤ c) :
  Calls tz 166 #[.func (.func 197) #[] #[.pointer (some ⟨p, 0, none⟩)], .slice A (dig m).length c] w3
   fun e w4 => e = .returned (.agg #[.bool (zneg (zv s m)), .slice A (dig m).length c]) ∧ Num w4 A (dig m) ∧ Ibx w4 g s0 A0 n0 c0 ∧ Below w.heap.size w w4 ∧ Below w3.heap.size w3 w4 := by
 refine (number_any w3 p c m s A ha (hS.below hb3).c hn hc).mono ?_
 rintro e w4 ⟨rfl, hb4⟩
 have h3 := hW.trans (hb3.mono hW.size)
 exact ⟨rfl, ha.below hb4, (hI.below hb3).below hb4, h3.trans (hb4.mono h3.size), hb4⟩
theorem retz_of {w w4 wf : World} {s : Bool} {m c g : Nat} {z : Int} {A A0 : Option Addr} {s0 : Bool} {n0 c0 : Nat} (hz : zv s m = z) (hc : (dig m).length ≤ c) (hA : Num w4 A (dig m)) (hg : Ibx w4 g s0 A0 n0 c0) (hgw : w.heap.size ≤ g) (hb : Below w.heap.size w w4)
  (v0 v1 : Value) (hwf : wf = (w4.setCell ⟨g, 0, none⟩ v0).setCell ⟨g, 1, none⟩ v1) : RetZ w z (.returned (.agg #[.bool (zneg (zv s m)), .slice A (dig m).length c])) wf := by
 subst hz
 subst hwf
 refine ⟨A, c, by rw [zv_natAbs], by rw [zv_natAbs]; exact hc, by rw [zv_natAbs]; exact hA.two hg _ _, (hb.setCell hgw _).setCell hgw _⟩
def C4 (p : Nat) (v1 v2 v3 v4 : Value) (W : World) : Prop := W.cell? ⟨p, 0, none⟩ = some v1 ∧ W.cell? ⟨p, 1, none⟩ = some v2 ∧ W.cell? ⟨p + 1, 0, none⟩ = some v3 ∧ W.cell? ⟨p + 1, 1, none⟩ = some v4
def C2 (p : Nat) (v1 v2 : Value) (W : World) : Prop := W.cell? ⟨p, 0, none⟩ = some v1 ∧ W.cell? ⟨p, 1, none⟩ = some v2
section
variable {w W W' : World} {p : Nat} {v1 v2 v3 v4 : Value}
theorem C2.alloc (h : C2 p v1 v2 W) (o : Obj) : C2 p v1 v2 (W.alloc o) := ⟨(World.cell?_alloc_some _ _ _ (by rw [h.1]; rfl)).trans h.1, (World.cell?_alloc_some _ _ _ (by rw [h.2]; rfl)).trans h.2⟩
theorem C2.below (hb : Below W.heap.size W W') (h : C2 p v1 v2 W) : C2 p v1 v2 W' := ⟨(hb.cell (block_lt_of_cell h.1)).trans h.1, (hb.cell (block_lt_of_cell h.2)).trans h.2⟩
theorem C2.drew (h : C2 p v1 v2 W) : C2 p v1 v2 W.drew := h
theorem C2.far (h : C2 p v1 v2 W) {a : Addr} (hp : p ≠ a.block) (v : Value) : C2 p v1 v2 (W.setCell a v) :=
 ⟨(World.cell?_of_block (Below.heap_setCell W a v p hp)).trans h.1, (World.cell?_of_block (Below.heap_setCell W a v p hp)).trans h.2⟩
theorem C2.base (w : World) (v1 v2 : Value) (T : TypeId) : C2 w.heap.size v1 v2 (w.alloc (.cells #[v1, v2] T)) := by refine ⟨?_, ?_⟩ <;> simp [go_sem]
theorem C4.of (h1 : C2 p v1 v2 W) (h2 : C2 (p + 1) v3 v4 W) : C4 p v1 v2 v3 v4 W := ⟨h1.1, h1.2, h2.1, h2.2⟩
theorem C4.alloc (h : C4 p v1 v2 v3 v4 W) (o : Obj) : C4 p v1 v2 v3 v4 (W.alloc o) := C4.of (C2.alloc ⟨h.1, h.2.1⟩ o) (C2.alloc ⟨h.2.2.1, h.2.2.2⟩ o)
theorem C4.below (hb : Below W.heap.size W W') (h : C4 p v1 v2 v3 v4 W) : C4 p v1 v2 v3 v4 W' := C4.of (C2.below hb ⟨h.1, h.2.1⟩) (C2.below hb ⟨h.2.2.1, h.2.2.2⟩)
theorem C4.drew (h : C4 p v1 v2 v3 v4 W) : C4 p v1 v2 v3 v4 W.drew := h
theorem C4.far (h : C4 p v1 v2 v3 v4 W) {a : Addr} (hp : p ≠ a.block) (hq : p + 1 ≠ a.block) (v : Value) : C4 p v1 v2 v3 v4 (W.setCell a v) := C4.of (C2.far ⟨h.1, h.2.1⟩ hp v) (C2.far ⟨h.2.2.1, h.2.2.2⟩ hq v)
theorem C4.base (w : World) (v1 v2 v3 v4 : Value) (T U : TypeId) : C4 w.heap.size v1 v2 v3 v4 ((w.alloc (.cells #[v1, v2] T)).alloc (.cells #[v3, v4] U)) := by
 refine C4.of ((C2.base w v1 v2 T).alloc _) ?_
 have h := C2.base (w.alloc (.cells #[v1, v2] T)) v3 v4 U
 rwa [show (w.alloc (.cells #[v1, v2] T)).heap.size = w.heap.size + 1 by simp] at h
end
