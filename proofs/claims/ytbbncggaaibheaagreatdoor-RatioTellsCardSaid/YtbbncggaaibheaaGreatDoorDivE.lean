/- Long division, walked. -/
import Derived.Test.YtbbncggaaibheaaGreatDoorDivD
namespace Go.Proofs.YtbbncggaaibheaaGreatDoor
open Go.RowKit

/-- The upshift that sets the top bit. -/
theorem norm_top {Y : List Nat} {n s : Nat} (hn : Y.length = n) (h2 : 1 ≤ n) (hs : s + blen (dg Y (n - 1)) = 64) (htop : dg Y (n - 1) ≠ 0) :
    rc Y s n = 0 ∧ B64 ^ n ≤ val Y * 2 ^ s * 2 ∧ s ≤ 63 := by
  have hb := blen_lt (dg Y (n - 1))
  have hb1 : 1 ≤ blen (dg Y (n - 1)) := by
    rcases Nat.eq_zero_or_pos (blen (dg Y (n - 1))) with h | h
    · rw [h] at hb; omega
    · exact h
  have hl := blen_le (n := dg Y (n - 1)) (k := blen (dg Y (n - 1)) - 1) (by omega)
  have e1 : dg Y (n - 1) * 2 ^ s < B64 := by
    rw [B64_pow, ← hs, Nat.add_comm, Nat.pow_add]
    exact Nat.mul_lt_mul_of_pos_right hb (Nat.pow_pos (by omega))
  refine ⟨?_, ?_, by omega⟩
  · unfold rc
    rw [if_neg (by omega), hi_of_lt e1]
  · have h1 := val_take_dg Y (n - 1)
    rw [show n - 1 + 1 = n by omega, ← hn, List.take_length, hn] at h1
    have h3 : B64 ^ (n - 1) * dg Y (n - 1) ≤ val Y := by omega
    have h4 : 2 ^ (blen (dg Y (n - 1)) - 1) * 2 ^ s * 2 = B64 := by
      rw [← Nat.pow_add, ← Nat.pow_succ, B64_pow]
      congr 1
      omega
    have h5 : B64 ^ n = B64 ^ (n - 1) * B64 := by rw [← Nat.pow_succ]; congr 1; omega
    have h6 : B64 ^ (n - 1) * B64 = B64 ^ (n - 1) * 2 ^ (blen (dg Y (n - 1)) - 1) * (2 ^ s * 2) := by
      have e : B64 ^ (n - 1) * B64 = B64 ^ (n - 1) * (2 ^ (blen (dg Y (n - 1)) - 1) * 2 ^ s * 2) := congrArg (fun t => B64 ^ (n - 1) * t) h4.symm
      rw [e, Nat.mul_assoc, Nat.mul_assoc]
    have h7 : B64 ^ (n - 1) * 2 ^ (blen (dg Y (n - 1)) - 1) ≤ val Y := Nat.le_trans (Nat.mul_le_mul_left _ hl) h3
    rw [h5, h6, Nat.mul_assoc (val Y)]
    exact Nat.mul_le_mul_right _ h7

theorem long_start {X Z0 : List Nat} {n M s D : Nat} (hX : Digs X) (hv : val Z0 = val X * 2 ^ s) (hl : Z0.length = M + n) (hM : M + n = X.length + 1) (hn : 1 ≤ n) (hD : B64 ^ n ≤ D * 2) (hs : s ≤ 63) : val (Z0.drop M) < D := by
  have h1 := val_take_add Z0 M
  rw [Nat.min_eq_left (by omega)] at h1
  have h2 := val_lt hX
  have h3 : val X * 2 ^ s < B64 ^ X.length * 2 ^ s := Nat.mul_lt_mul_of_pos_right h2 (Nat.pow_pos (by omega))
  have h4 : B64 ^ X.length * 2 ^ s = B64 ^ M * (B64 ^ (n - 1) * 2 ^ s) := by
    rw [← Nat.mul_assoc, ← Nat.pow_add]
    congr 2
    omega
  have h5 : val (Z0.drop M) < B64 ^ (n - 1) * 2 ^ s := by
    refine Nat.lt_of_mul_lt_mul_left (a := B64 ^ M) ?_
    omega
  have h6 : B64 ^ (n - 1) * 2 ^ s * 2 ≤ B64 ^ n := by
    have e : B64 ^ n = B64 ^ (n - 1) * B64 := by rw [← Nat.pow_succ]; congr 1; omega
    rw [e, Nat.mul_assoc]
    refine Nat.mul_le_mul_left _ ?_
    rw [B64_pow, ← Nat.pow_succ]
    exact Nat.pow_le_pow_right (by omega) (by omega)
  omega

theorem long_end {x y q r s v : Nat} (hy : 0 < y) (hv : x * 2 ^ s = q * (y * 2 ^ s) + r) (hr : r < y * 2 ^ s) (hz : v = r / 2 ^ s) : q = x / y ∧ v = x % y := by
  have hp : 0 < 2 ^ s := Nat.pow_pos (by omega)
  have hyp : 0 < y * 2 ^ s := Nat.mul_pos hy hp
  have e1 : x / y = q := by
    rw [← Nat.mul_div_mul_right x y hp, hv, Nat.mul_comm q, Nat.mul_add_div hyp, Nat.div_eq_of_lt hr, Nat.add_zero]
  have e2 : x % y * 2 ^ s = r := by
    rw [← Nat.mul_mod_mul_right, hv, Nat.mul_comm q, Nat.mul_add_mod, Nat.mod_eq_of_lt hr]
  refine ⟨e1.symm, ?_⟩
  rw [hz, ← e2, Nat.mul_div_cancel _ hp]
theorem mid_take {cs zs : List Nat} : (mid cs 0 zs).take zs.length = zs := by
  unfold mid
  rw [List.take_zero, List.nil_append, List.take_left]

set_option maxHeartbeats 4000000 in
theorem long_any (w : World) (A B : Option Addr) (c d n s M : Nat) (X Y : List Nat) (hA : Num w A X) (hB : Num w B Y) (hX : X.length ≤ 8589934592) (hn : Y.length = n) (h2 : 2 ≤ n) (hle : n ≤ X.length)
    (hs : s + blen (dg Y (n - 1)) = 64) (htop : dg Y (n - 1) ≠ 0) (hM : M + n = X.length + 1) :
    Calls Tryz.prog 160 #[.slice A X.length c, .slice B n d] w (RetQR w (val X / val Y) (val X % val Y)) := by
  obtain ⟨hrc, hnorm, hs63⟩ := norm_top hn (by omega) hs htop
  obtain ⟨b2, o2, rfl, hb2, hc2⟩ := hB.at_ (by omega)
  have ht := hc2 (n - 1) (by omega)
  have htd := dg_lt hB.1 (n - 1)
  have hsb : (64 : Int) - ((blen (dg Y (n - 1)) : Nat) : Int) = (s : Int) := by omega
  have HLZ := Lib.hid (lz64_any _ htd w)
  rw [hsb] at HLZ
  have HA := Lib.hid hA
  have HB := Lib.hid hB
  have HN := Lib.hid hn
  have HRC := Lib.hid hrc
  have HNORM := Lib.hid hnorm
  have hm1 := run_make_u64' ((X.length : Int) + 1) (X.length + 1) (by omega) (by omega)
  have hm2 := run_make_u64 n (by omega)
  have hm3 := run_make_u64' ((X.length : Int) - (n : Int) + 1) M (by omega) (by omega)
  clear hA hB hn hs hsb hrc hnorm htd hc2
  go_enter Tryz.func160, Tryz.ntmps160
  go_wp2_with fail
  refine HLZ.out.mono ?_
  rintro e w' ⟨rfl, rfl⟩
  clear HLZ
  go_wp2_with fail
  refine (raise_any (w.alloc (.cells (madeCells #[.int .u64 0] (X.length + 1)) 30)) w.heap.size 0 (X.length + 1) (X.length + 1) s c (List.replicate (X.length + 1) 0) X A (Blk.made _ _) (by rw [List.length_replicate]; omega)
    (HA.out.alloc _) (HA.out.ne (Nat.le_refl _)) hs63 (by omega) (by omega)).mono ?_
  rintro e w1 ⟨rfl, ⟨Z0, hz0l, hz0d, hz0v, hblk0⟩, hown1⟩
  have hZ0 := raise_whole rfl hz0v
  rw [mid_all (by rw [List.length_replicate]; omega)] at hblk0
  have hB1 : Below w.heap.size w w1 := ((Below.refl _ _).alloc (Nat.le_refl _) _).grown hown1 (by simp) (by intro k hk; injection hk with hk; omega)
  have HZ0 := Lib.hid hZ0
  have HBLK0 := Lib.hid hblk0
  have HB1 := Lib.hid hB1
  have HZ0L := Lib.hid hz0l
  have HZ0D := Lib.hid hz0d
  clear hz0v hZ0 hblk0 hown1 hB1 hz0l hz0d
  go_wp2_with fail
  have HBN := Lib.hid (HB.out.below HB1.out)
  have hr2 := raise_any (w1.alloc (.cells (madeCells #[.int .u64 0] n) 30)) w1.heap.size 0 n n s d (List.replicate n 0) Y (some ⟨b2, o2, none⟩) (Blk.made _ _) (by rw [List.length_replicate]; omega)
    (HBN.out.alloc _) (HBN.out.ne (Nat.le_refl _)) hs63 (by omega) (by rw [HN.out]; omega)
  rw [HN.out] at hr2
  refine hr2.mono ?_
  clear hr2
  rintro e w2 ⟨rfl, ⟨Z1, hz1l, hz1d, hz1v, hblk1⟩, hown2⟩
  rw [HRC.out, Nat.mul_zero, Nat.add_zero, List.take_of_length_le (Nat.le_of_eq HN.out)] at hz1v
  rw [mid_all (by rw [List.length_replicate]; omega)] at hblk1
  have hB2 : Below w1.heap.size w1 w2 := ((Below.refl _ _).alloc (Nat.le_refl _) _).grown hown2 (by simp) (by intro k hk; injection hk with hk; omega)
  have HBLK0' := Lib.hid (HBLK0.out.below hB2 HBLK0.out.lt)
  have HB2 := Lib.hid (HB1.out.trans (hB2.mono HB1.out.size))
  have HBLK1 := Lib.hid hblk1
  have HZ1 := Lib.hid hz1v
  have HZ1L := Lib.hid hz1l
  have HZ1D := Lib.hid hz1d
  have hsz1 := HBLK0.out.lt
  clear hz1v hblk1 hown2 hB2 hz1l hz1d HBLK0
  go_wp2_with fail
  have hw12 := HB2.out.size
  go_loopw [44] (fun i wr => LongRel w wr w.heap.size w1.heap.size w2.heap.size n M Z0 Z1 i) (fun i _ => M - (intOf i).toNat)
  case atStart =>
    have hl := HZ0L.out
    refine ⟨⟨0, [], Z0, Nat.zero_le _, rfl, by omega, HZ0D.out, rfl, Digs.nil, rfl, by rw [val_nil, Nat.zero_mul, Nat.zero_add], ?_, HBLK0'.out.alloc _, by rw [Nat.sub_zero, List.append_nil]; exact Blk.made _ _⟩, HBLK1.out.alloc _, HB2.out.alloc HB2.out.size _⟩
    exact long_start HA.out.1 HZ0.out (by omega) hM (by omega) (by rw [HZ1.out]; exact HNORM.out) hs63
  case round =>
    obtain ⟨⟨k, qs, cs, hk, rfl, hcl, hcs, hql, hqd, htk, hv, hlt, hblk, hq⟩, hdiv, hbw⟩ := hrel
    have h01 : w.heap.size ≠ w1.heap.size := Nat.ne_of_lt hsz1
    have h12 : w1.heap.size < w2.heap.size := HBLK1.out.lt
    by_cases hkm : k < M
    · obtain ⟨j, hj⟩ : ∃ j, j + k + 1 = M := ⟨M - 1 - k, by omega⟩
      have hji : (M : Int) - 1 - (k : Int) = (j : Int) := by omega
      have hkm' : (k : Int) < (M : Int) := by omega
      have hjm : (j : Int) < (M : Int) := by omega
      have hcapne : ¬ (X.length + 1 = j) := by omega
      have hj0 : (0 : Int) ≤ (j : Int) + (n : Int) + 1 := by omega
      have hjx : j + n ≤ X.length := by omega
      have hjx' : (j : Int) + (n : Int) ≤ (X.length : Int) := by omega
      have htn : ((j : Int) + (n : Int) + 1).toNat = j + n + 1 := by omega
      have hsub : j + n + 1 - j = n + 1 := by omega
      obtain ⟨n', hn'⟩ : ∃ n', n' + 2 = n := ⟨n - 2, by omega⟩
      have hD : 0 < val Z1 := by omega
      obtain ⟨hp1, hp2⟩ := long_part hcs hcl HZ1D.out HZ1L.out hj hlt
      have hP : val ((cs.drop j).take (Z1.length + 1)) < val Z1 * B64 := by
        have h5 : B64 * (val (cs.drop (M - k)) + 1) ≤ B64 * val Z1 := Nat.mul_le_mul_left _ hlt
        have h6 := dg_lt hcs j
        rw [Nat.mul_add, Nat.mul_one] at h5
        rw [hp1, Nat.mul_comm (val Z1)]
        omega
      have hT := takeOut_any wr w.heap.size j (X.length + 1 - j) n n' cs Z1 (some ⟨w1.heap.size, 0, none⟩) hblk hcs (by rw [HZ1L.out]; omega) (hdiv.num HZ1D.out) (by rw [HZ1L.out]; omega) (by intro _ p e; injection e with e; rw [← e]; exact h01.symm) (by omega) hD hP
      rw [show n' + 3 = n + 1 by omega, show n' + 2 = n by omega] at hT
      have HT := Lib.hid hT
      have HS : Hid (∀ (w3 : World) (zs : List Nat), zs.length = Z1.length + 1 → Digs zs → val zs = val ((cs.drop j).take (Z1.length + 1)) % val Z1 → Blk w3 w.heap.size (mid cs j zs) → wr.grownBy w3 (some w.heap.size) →
          LongRel w (w3.setCell ⟨w2.heap.size, j, none⟩ (.int .u64 ((val ((cs.drop j).take (Z1.length + 1)) / val Z1 : Nat) : Int))) w.heap.size w1.heap.size w2.heap.size n M Z0 Z1 (.int .i64 ((k : Int) + 1))) := by
        intro w3 zs g1 g2 g3 g4 g5
        exact long_step hkm hj (by omega) (by omega) h01 (Nat.le_refl _) (by omega) hcl hcs hql hqd HZ1D.out HZ1L.out (by rw [HZ0L.out]; omega) htk hv hlt hq hdiv hbw g1 g2 g3 g4 g5
      have HQ := Lib.hid hq
      have HQL := Lib.hid hql
      clear hT hP hp1 hp2 hD hblk hq hdiv hbw hv hlt htk hcl hql hn' hj
      go_wp2_with fail
      refine HT.out.mono ?_
      rintro e w3 ⟨rfl, ⟨zs, hzl, hzd, hz, hblk3⟩, hown3⟩
      have hq3 : Blk w3 w2.heap.size (List.replicate (M - k) 0 ++ qs) := HQ.out.of_heap (hown3.block _ HQ.out.lt (by intro e; injection e with e; omega))
      have ho := hq3.cell (i := j) (by rw [List.length_append, List.length_replicate]; omega)
      have hf := hq3.frozen j
      have HR := Lib.hid (HS.out w3 zs hzl hzd hz hblk3 hown3)
      clear hz hblk3 hown3 hq3 hzl
      go_wp2_with fail
      go_roundw
      case rel => exact HR.out
      case measure => simp [intOf]; omega
    · have hkM : k = M := by omega
      rw [hkM, Nat.sub_self, List.drop_zero, List.drop_zero] at hv
      rw [hkM, Nat.sub_self, List.drop_zero] at hlt
      rw [hkM, Nat.sub_self, List.replicate_zero, List.nil_append] at hq
      have hyp : 0 < val Y := by
        rcases Nat.eq_zero_or_pos (val Y) with h0 | h0
        · rw [HZ1.out, h0, Nat.zero_mul] at hlt; omega
        · exact h0
      have hXl : ((cs.drop 0).take n).length = n := by rw [List.length_take, List.length_drop]; omega
      have hXv : val ((cs.drop 0).take n) = val cs := by
        rw [List.drop_zero]
        refine val_take_of_le (Nat.le_refl _) ?_
        have := val_lt HZ1D.out
        rw [HZ1L.out] at this
        omega
      rw [HZ0.out, HZ1.out] at hv
      rw [HZ1.out] at hlt
      have HEND : Hid (∀ v, v = val cs / 2 ^ s → val qs = val X / val Y ∧ v = val X % val Y) := fun v hvv => long_end hyp hv hlt hvv
      have hL := lower_any wr w.heap.size 0 (X.length + 1) s (X.length + 1) cs ((cs.drop 0).take n) (some ⟨w.heap.size, 0, none⟩) hblk (by rw [hXl]; omega) (Src.self hcs) hs63 (by rw [hXl]; omega)
      rw [hXl] at hL
      have HL := Lib.hid hL
      have HXV := Lib.hid hXv
      have HQ := Lib.hid hq
      have HQL : Hid (qs.length = M) := by show qs.length = M; omega
      have HBW := Lib.hid hbw
      have HCL := Lib.hid hcl
      have hnx : n ≤ X.length + 1 := by omega
      have hnx' : (n : Int) ≤ (X.length : Int) + 1 := by omega
      have HKM := Lib.hid hkM
      clear hL hXv hq hbw hblk hdiv hv hlt htk hyp hql hcl hkM hXl
      go_wp2_with fail
      refine HL.out.mono ?_
      rintro e w3 ⟨rfl, ⟨zs, hzl, hzd, hz, hblk3⟩, hown3⟩
      have hXl : ((cs.drop 0).take n).length = n := by rw [List.length_take, List.length_drop, HCL.out]; omega
      rw [hXl] at hzl
      rw [HXV.out] at hz
      obtain ⟨e1, e2⟩ := HEND.out _ hz
      have hq3 : Blk w3 w2.heap.size qs := HQ.out.of_heap (hown3.block _ HQ.out.lt (by intro e; injection e with e; omega))
      have hcut1 := cut_any w3 _ M qs (hq3.num hqd) (by rw [HQL.out]; omega) (by rw [HQL.out]; omega)
      rw [HQL.out, e1] at hcut1
      have hnum : Num w3 (some ⟨w.heap.size, 0, none⟩) zs := by
        have h := (hblk3.num (hcs.mid hzd 0)).take zs.length
        rwa [mid_take] at h
      have hcut2 := cut_at w3 _ (X.length + 1) zs hnum (by omega) (by omega)
      rw [hzl, e2] at hcut2
      have HC1 := Lib.hid hcut1
      have HC2 := Lib.hid hcut2
      have HFIN : Hid (Below w.heap.size w w3 ∧ Blk w3 w.heap.size (mid cs 0 zs) ∧ Digs (mid cs 0 zs) ∧ (mid cs 0 zs).length = X.length + 1 ∧ (dig (val X % val Y)).length ≤ n ∧ (mid cs 0 zs).take (dig (val X % val Y)).length = dig (val X % val Y)) := by
        have hl : (dig (val X % val Y)).length ≤ n := by rw [← e2, ← hzl]; exact dig_length_val hzd
        refine ⟨HBW.out.grown hown3 HBW.out.size (by intro i hi; injection hi with hi; omega), hblk3, hcs.mid hzd 0, by rw [mid_length (by rw [HCL.out]; omega), HCL.out]; omega, hl, ?_⟩
        have h := dig_take_self hzd
        rw [e2] at h
        have h2 : (mid cs 0 zs).take (dig (val X % val Y)).length = zs.take (dig (val X % val Y)).length := by
          have h3 : ((mid cs 0 zs).take zs.length).take (dig (val X % val Y)).length = zs.take (dig (val X % val Y)).length := by rw [mid_take]
          rwa [List.take_take, Nat.min_eq_left (by omega)] at h3
        rw [h2]
        exact h.symm
      clear hcut1 hcut2 hnum hq3 hz hblk3 hown3 hzl hXl e1 e2
      go_wp2_with fail
      refine HC1.out.mono ?_
      rintro e w4 ⟨A1, c1, rfl, hc1, ha1, rfl⟩
      go_wp2_with fail
      refine HC2.out.mono ?_
      rintro e w4 ⟨A2, c2, rfl, hc2, ha2, rfl, hc2'⟩
      have HA1 := Lib.hid ha1
      have HA2 := Lib.hid ha2
      have HC2' := Lib.hid hc2'
      clear ha1 ha2 hc2'
      go_wp2
      go_ret2
      obtain ⟨f1, f2, f3, f4, f5, f6⟩ := HFIN.out
      refine ⟨A1, c1, A2, c2, w.heap.size, _, rfl, hc1, hc2, HA1.out, HA2.out, f1, Nat.le_refl _, f2, f3, by omega, f6, fun hp => ?_⟩
      obtain ⟨g1, g2⟩ := HC2'.out hp
      exact ⟨g1, by omega⟩
end Go.Proofs.YtbbncggaaibheaaGreatDoor