/- Part 9 of the proof: DivD, DivE. -/
import Derived.Test.YthjiacmhhpfokaaGreatL8
namespace Go.Proofs.YthjiacmhhpfokaaGreat
open Nat renaming le_refl → lR, mul_comm → mC, mul_assoc → mS
open List renaming length_take → lK
section
open Go.RowKit
def RetC (w : World) (A : Option Addr) (c n : Nat) (e : Ending) (w' : World) : Prop :=
 ∃ A' c', e = .returned (.slice A' (dig n).length c') ∧ (dig n).length ≤ c' ∧ Num w A' (dig n) ∧ w = w' ∧ (0 < (dig n).length → A' = A ∧ c' = c)
set_option maxHeartbeats 400000 in
theorem cut_at (w : World) (A : Option Addr) (c : Nat) (xs : List Nat) (h : Num w A xs) (hn : xs.length ≤ 1099511627776) (hc : xs.length ≤ c) :
  Calls Tryz.prog 199 #[.slice A xs.length c] w (RetC w A c (val xs)) := by
 have hd := h.1
 have HX := Lib.hid h
 clear h
 go_enter Tryz.func199, Tryz.ntmps199
 go_wp2
 go_loop [3] (fun n => ∃ k : Nat, k ≤ xs.length ∧ n = .int .i64 k ∧ Hid (val (xs.take k) = val xs)) (fun n => (intOf n).toNat)
 case atStart => exact ⟨xs.length, lR _, rfl, by rw [List.take_length]; exact rfl⟩
 case round =>
  obtain ⟨k, hk, rfl, hv⟩ := hrel
  by_cases h0 : k = 0
  ·subst h0
   go_wp2
   go_ret
   have h1 := dig_take_of hd hk hv.out (.inl rfl)
   rw [List.take_zero] at h1
   refine ⟨none, 0, ?_, by rw [h1]; simp, by rw [h1]; exact Num.nil _ _, rfl, by rw [h1]; intro h; simp at h⟩
   rw [h1]; rfl
  ·obtain ⟨b, off, rfl, hb, hcell⟩ := HX.out.at_ (by omega)
   have hck := hcell (k - 1) (by omega)
   clear hcell
   by_cases hz : dg xs (k - 1) = 0
   ·have hz' : (((dg xs (k - 1) : Nat) : Int) == 0) = true := by rw [hz]; rfl
    have HZ := Lib.hid hz
    clear hz
    go_wp2
    go_round
    case rel => exact ⟨k - 1, by omega, by congr 1; omega, (val_take_pred h0 HZ.out).trans hv.out⟩
    case measure => simp [intOf]; omega
   ·have hz' : (((dg xs (k - 1) : Nat) : Int) == 0) = false := by
     rw [beq_eq_false_iff_ne]; omega
    go_wp2
    go_ret
    have h1 := dig_take_of hd hk hv.out (.inr hz)
    have h2 : (dig (val xs)).length = k := by rw [h1, lK]; omega
    refine ⟨some ⟨b, off, none⟩, c, ?_, by omega, by rw [h1]; exact HX.out.take k, rfl, fun _ => ⟨rfl, rfl⟩⟩
    rw [h2]; rfl
theorem mid_all {cs zs : List Nat} (h : zs.length = cs.length) : mid cs 0 zs = zs := by
 unfold mid
 rw [List.take_zero, List.nil_append, Nat.zero_add, List.drop_of_length_le (by omega), List.append_nil]
structure LongRel (w wr : World) (g0 g1 g2 n m : Nat) (Z0 Z1 : List Nat) (i : Value) : Prop where
 ex : ∃ (k : Nat) (qs cs : List Nat), k ≤ m ∧ i = .int .i64 k ∧ cs.length = m + n ∧ Digs cs ∧ qs.length = k ∧ Digs qs ∧ cs.take (m - k) = Z0.take (m - k) ∧
  val (Z0.drop (m - k)) = val qs * val Z1 + val (cs.drop (m - k)) ∧ val (cs.drop (m - k)) < val Z1 ∧ Blk wr g0 cs ∧ Blk wr g2 (List.replicate (m - k) 0 ++ qs)
 div : Blk wr g1 Z1
 below : Below w.heap.size w wr
theorem long_part {cs Z1 : List Nat} {m n k j : Nat} (hcs : Digs cs) (hcl : cs.length = m + n) (hZ : Digs Z1) (hZl : Z1.length = n) (hj : j + k + 1 = m) (hlt : val (cs.drop (m - k)) < val Z1) :
  val ((cs.drop j).take (Z1.length + 1)) = dg cs j + B64 * val (cs.drop (m - k)) ∧ val (cs.drop j) = dg cs j + B64 * val (cs.drop (m - k)) := by
 have h1 : val (cs.drop j) = dg cs j + B64 * val (cs.drop (m - k)) := by rw [drop_pred (by omega), val_cons, show j + 1 = m - k by omega]
 refine ⟨?_, h1⟩
 rw [← h1]
 have h2 := val_lt hZ
 have h3 := dg_lt hcs j
 have h4 : val (cs.drop j) < B64 ^ (Z1.length + 1) := by
  rw [h1, Nat.pow_succ]
  have h5 : B64 * (val (cs.drop (m - k)) + 1) ≤ B64 * B64 ^ Z1.length := Nat.mul_le_mul_left _ (by omega)
  rw [Nat.mul_add, Nat.mul_one] at h5
  rw [mC (B64 ^ Z1.length)]
  omega
 exact val_take_of_le (lR _) h4
theorem long_step {w wr w1 : World} {g0 g1 g2 n m k j : Nat} {Z0 Z1 qs cs zs : List Nat} (hk : k < m) (hj : j + k + 1 = m) (hg02 : g0 ≠ g2) (hg12 : g1 ≠ g2) (hg01 : g0 ≠ g1) (hw0 : w.heap.size ≤ g0) (hw2 : w.heap.size ≤ g2) (hcl : cs.length = m + n) (hcs : Digs cs) (hql : qs.length = k) (hqd : Digs qs)
  (hZ1 : Digs Z1) (hZl : Z1.length = n) (hZ0l : Z0.length = m + n)
  (ht : cs.take (m - k) = Z0.take (m - k)) (hv : val (Z0.drop (m - k)) = val qs * val Z1 + val (cs.drop (m - k))) (hlt : val (cs.drop (m - k)) < val Z1) (hq : Blk wr g2 (List.replicate (m - k) 0 ++ qs))
  (hdiv : Blk wr g1 Z1) (hbw : Below w.heap.size w wr)
  (hzl : zs.length = Z1.length + 1) (hzd : Digs zs) (hz : val zs = val ((cs.drop j).take (Z1.length + 1)) % val Z1) (hblk : Blk w1 g0 (mid cs j zs)) (hown : wr.grownBy w1 (some g0)) :
  LongRel w (w1.setCell ⟨g2, j, none⟩ (.int .u64 ((val ((cs.drop j).take (Z1.length + 1)) / val Z1 : Nat) : Int))) g0 g1 g2 n m Z0 Z1 (.int .i64 ((k : Int) + 1)) := by
 obtain ⟨hp1, hp2⟩ := long_part hcs hcl hZ1 hZl hj hlt
 have hq1 : Blk w1 g2 (List.replicate (m - k) 0 ++ qs) := hq.of_heap (hown.block g2 hq.lt (by intro e; injection e with e; exact hg02 e.symm))
 have hd1 : Blk w1 g1 Z1 := hdiv.of_heap (hown.block g1 hdiv.lt (by intro e; injection e with e; exact hg01 e.symm))
 have hmm : m - (k + 1) = j := by omega
 have hD : 0 < val Z1 := by omega
 have hzs : val ((mid cs j zs).drop j) = val zs := by
  unfold mid
  have h1 : (cs.take j).length = j := by rw [lK]; omega
  rw [List.drop_append, h1, List.drop_of_length_le (by omega), List.nil_append, Nat.sub_self, List.drop_zero, val_append]
  have h2 : val (cs.drop (j + zs.length)) = 0 := by
   have h3 := val_take_add (cs.drop j) zs.length
   rw [List.drop_drop, hzl, hp1, hp2] at h3
   rcases Nat.eq_zero_or_pos (val (cs.drop (j + (Z1.length + 1)))) with h4 | h4
   ·rw [hzl]; exact h4
   ·have : 0 < B64 ^ min (Z1.length + 1) (cs.drop j).length * val (cs.drop (j + (Z1.length + 1))) := Nat.mul_pos (pow_pos' _) h4
    omega
  rw [h2, Nat.mul_zero, Nat.add_zero]
 refine ⟨⟨k + 1, (val ((cs.drop j).take (Z1.length + 1)) / val Z1) :: qs, mid cs j zs, by omega, by simp, ?_, hcs.mid hzd j, by simp [hql], Digs.cons ?_ hqd, ?_, ?_, ?_, ?_, ?_⟩, ?_, ?_⟩
 ·rw [mid_length (by omega), hcl]
 ·rw [hp1, Nat.add_comm, mC]
  exact div_digit_lt hlt (dg_lt hcs j)
 ·rw [hmm]
  unfold mid
  rw [List.take_append_of_le_length (by rw [lK]; omega), List.take_take, Nat.min_self]
  have h5 : (cs.take (m - k)).take j = (Z0.take (m - k)).take j := by rw [ht]
  rw [List.take_take, List.take_take, Nat.min_eq_left (by omega)] at h5
  exact h5
 ·rw [hmm, hzs, hz, val_cons, drop_pred (xs := Z0) (by omega), val_cons, show j + 1 = m - k by omega, hv]
  have h6 : dg Z0 j = dg cs j := by
   have h7 : dg (Z0.take (m - k)) j = dg (cs.take (m - k)) j := by rw [ht]
   rwa [dg_take (by omega), dg_take (by omega)] at h7
  rw [h6, hp1]
  have h8 := Nat.div_add_mod' (dg cs j + B64 * val (cs.drop (m - k))) (val Z1)
  rw [Nat.mul_add, Nat.add_mul, mS]
  omega
 ·rw [hmm, hzs, hz]
  exact Nat.mod_lt _ hD
 ·exact hblk.far hg02 _
 ·rw [hmm]
  have h := hq1.set_ j (val ((cs.drop j).take (Z1.length + 1)) / val Z1)
  have e := rep_set (n := m) (k := k) (q := val ((cs.drop j).take (Z1.length + 1)) / val Z1) (qs := qs) hk
  rw [show m - 1 - k = j by omega, hmm] at e
  rwa [e] at h
 ·exact hd1.far hg12 _
 ·exact (hbw.grown hown (by have := hbw.size; omega) (by intro i hi; injection hi with hi; omega)).setCell hw2 _
def RetQR (w : World) (q r : Nat) (e : Ending) (w' : World) : Prop :=
 ∃ A c B d g zs, e = .returned (.tuple #[.slice A (dig q).length c, .slice B (dig r).length d]) ∧ (dig q).length ≤ c ∧ (dig r).length ≤ d ∧ Num w' A (dig q) ∧ Num w' B (dig r) ∧ Below w.heap.size w w' ∧
  w.heap.size ≤ g ∧ Blk w' g zs ∧ Digs zs ∧ (dig r).length ≤ zs.length ∧ zs.take (dig r).length = dig r ∧ (0 < (dig r).length → B = some ⟨g, 0, none⟩ ∧ d = zs.length)
end

section
open Lib renaming hid → lh
open Go.RowKit
theorem norm_top {Y : List Nat} {n s : Nat} (hn : Y.length = n) (h2 : 1 ≤ n) (hs : s + blen (dg Y (n - 1)) = 64) (htop : dg Y (n - 1) ≠ 0) :
  rc Y s n = 0 ∧ B64 ^ n ≤ val Y * 2 ^ s * 2 ∧ s ≤ 63 := by
 have hb := blen_lt (dg Y (n - 1))
 have hb1 : 1 ≤ blen (dg Y (n - 1)) := by
  rcases Nat.eq_zero_or_pos (blen (dg Y (n - 1))) with h | h
  ·rw [h] at hb; omega
  ·exact h
 have hl := blen_le (n := dg Y (n - 1)) (k := blen (dg Y (n - 1)) - 1) (by omega)
 have e1 : dg Y (n - 1) * 2 ^ s < B64 := by
  rw [B64_pow, ← hs, Nat.add_comm, Nat.pow_add]
  exact Nat.mul_lt_mul_of_pos_right hb (Nat.pow_pos (by omega))
 refine ⟨?_, ?_, by omega⟩
 ·unfold rc
  rw [if_neg (by omega), hi_of_lt e1]
 ·have h1 := val_take_dg Y (n - 1)
  rw [show n - 1 + 1 = n by omega, ← hn, List.take_length, hn] at h1
  have h3 : B64 ^ (n - 1) * dg Y (n - 1) ≤ val Y := by omega
  have h4 : 2 ^ (blen (dg Y (n - 1)) - 1) * 2 ^ s * 2 = B64 := by
   rw [← Nat.pow_add, ← Nat.pow_succ, B64_pow]
   congr 1
   omega
  have h5 : B64 ^ n = B64 ^ (n - 1) * B64 := by rw [← Nat.pow_succ]; congr 1; omega
  have h6 : B64 ^ (n - 1) * B64 = B64 ^ (n - 1) * 2 ^ (blen (dg Y (n - 1)) - 1) * (2 ^ s * 2) := by
   have e : B64 ^ (n - 1) * B64 = B64 ^ (n - 1) * (2 ^ (blen (dg Y (n - 1)) - 1) * 2 ^ s * 2) := congrArg (fun t => B64 ^ (n - 1) * t) h4.symm
   rw [e, mS, mS]
  have h7 : B64 ^ (n - 1) * 2 ^ (blen (dg Y (n - 1)) - 1) ≤ val Y := Nat.le_trans (Nat.mul_le_mul_left _ hl) h3
  rw [h5, h6, mS (val Y)]
  exact Nat.mul_le_mul_right _ h7
theorem long_start {X Z0 : List Nat} {n M s D : Nat} (hX : Digs X) (hv : val Z0 = val X * 2 ^ s) (hl : Z0.length = M + n) (hM : M + n = X.length + 1) (hn : 1 ≤ n) (hD : B64 ^ n ≤ D * 2) (hs : s ≤ 63) : val (Z0.drop M) < D := by
 have h1 := val_take_add Z0 M
 rw [Nat.min_eq_left (by omega)] at h1
 have h2 := val_lt hX
 have h3 : val X * 2 ^ s < B64 ^ X.length * 2 ^ s := Nat.mul_lt_mul_of_pos_right h2 (Nat.pow_pos (by omega))
 have h4 : B64 ^ X.length * 2 ^ s = B64 ^ M * (B64 ^ (n - 1) * 2 ^ s) := by
  rw [← mS, ← Nat.pow_add]
  congr 2
  omega
 have h5 : val (Z0.drop M) < B64 ^ (n - 1) * 2 ^ s := by
  refine Nat.lt_of_mul_lt_mul_left (a := B64 ^ M) ?_
  omega
 have h6 : B64 ^ (n - 1) * 2 ^ s * 2 ≤ B64 ^ n := by
  have e : B64 ^ n = B64 ^ (n - 1) * B64 := by rw [← Nat.pow_succ]; congr 1; omega
  rw [e, mS]
  refine Nat.mul_le_mul_left _ ?_
  rw [B64_pow, ← Nat.pow_succ]
  exact Nat.pow_le_pow_right (by omega) (by omega)
 omega
theorem long_end {x y q r s v : Nat} (hy : 0 < y) (hv : x * 2 ^ s = q * (y * 2 ^ s) + r) (hr : r < y * 2 ^ s) (hz : v = r / 2 ^ s) : q = x / y ∧ v = x % y := by
 have hp : 0 < 2 ^ s := Nat.pow_pos (by omega)
 have hyp : 0 < y * 2 ^ s := Nat.mul_pos hy hp
 have e1 : x / y = q := by
  rw [← Nat.mul_div_mul_right x y hp, hv, mC q, Nat.mul_add_div hyp, Nat.div_eq_of_lt hr, Nat.add_zero]
 have e2 : x % y * 2 ^ s = r := by
  rw [← Nat.mul_mod_mul_right, hv, mC q, Nat.mul_add_mod, Nat.mod_eq_of_lt hr]
 refine ⟨e1.symm, ?_⟩
 rw [hz, ← e2, Nat.mul_div_cancel _ hp]
theorem mid_take {cs zs : List Nat} : (mid cs 0 zs).take zs.length = zs := by
 unfold mid
 rw [List.take_zero, List.nil_append, List.take_left]
set_option maxHeartbeats 4000000 in
theorem long_any (w : World) (A B : Option Addr) (c d n s M : Nat) (X Y : List Nat) (hA : Num w A X) (hB : Num w B Y) (hX : X.length ≤ 8589934592) (hn : Y.length = n) (h2 : 2 ≤ n) (hle : n ≤ X.length)
  (hs : s + blen (dg Y (n - 1)) = 64) (htop : dg Y (n - 1) ≠ 0) (hM : M + n = X.length + 1) :
  Calls Tryz.prog 238 #[.slice A X.length c, .slice B n d] w (RetQR w (val X / val Y) (val X % val Y)) := by
 obtain ⟨hrc, hnorm, hs63⟩ := norm_top hn (by omega) hs htop
 obtain ⟨b2, o2, rfl, hb2, hc2⟩ := hB.at_ (by omega)
 have ht := hc2 (n - 1) (by omega)
 have htd := dg_lt hB.1 (n - 1)
 have hsb : (64 : Int) - ((blen (dg Y (n - 1)) : Nat) : Int) = (s : Int) := by omega
 have HLZ := lh (lz64_any _ htd w)
 rw [hsb] at HLZ
 have HA := lh hA
 have HB := lh hB
 have HN := lh hn
 have HRC := lh hrc
 have HNORM := lh hnorm
 have hm1 := run_make_u64' ((X.length : Int) + 1) (X.length + 1) (by omega) (by omega)
 have hm2 := run_make_u64 n (by omega)
 have hm3 := run_make_u64' ((X.length : Int) - (n : Int) + 1) M (by omega) (by omega)
 clear hA hB hn hs hsb hrc hnorm htd hc2
 go_enter Tryz.func238, Tryz.ntmps238
 go_wp2_with fail
 refine HLZ.out.mono ?_
 rintro e w' ⟨rfl, rfl⟩
 clear HLZ
 go_wp2_with fail
 refine (raise_any (w.alloc (.cells (madeCells #[.int .u64 0] (X.length + 1)) 164)) w.heap.size 0 (X.length + 1) (X.length + 1) s c (List.replicate (X.length + 1) 0) X A (Blk.made _ _) (by rw [List.length_replicate]; omega)
  (HA.out.alloc _) (HA.out.ne (lR _)) hs63 (by omega) (by omega)).mono ?_
 rintro e w1 ⟨rfl, ⟨Z0, hz0l, hz0d, hz0v, hblk0⟩, hown1⟩
 have hZ0 := raise_whole rfl hz0v
 rw [mid_all (by rw [List.length_replicate]; omega)] at hblk0
 have hB1 : Below w.heap.size w w1 := ((Below.refl _ _).alloc (lR _) _).grown hown1 (by simp) (by intro k hk; injection hk with hk; omega)
 have HZ0 := lh hZ0
 have HBLK0 := lh hblk0
 have HB1 := lh hB1
 have HZ0L := lh hz0l
 have HZ0D := lh hz0d
 clear hz0v hZ0 hblk0 hown1 hB1 hz0l hz0d
 go_wp2_with fail
 have HBN := lh (HB.out.below HB1.out)
 have hr2 := raise_any (w1.alloc (.cells (madeCells #[.int .u64 0] n) 164)) w1.heap.size 0 n n s d (List.replicate n 0) Y (some ⟨b2, o2, none⟩) (Blk.made _ _) (by rw [List.length_replicate]; omega)
  (HBN.out.alloc _) (HBN.out.ne (lR _)) hs63 (by omega) (by rw [HN.out]; omega)
 rw [HN.out] at hr2
 refine hr2.mono ?_
 clear hr2
 rintro e w2 ⟨rfl, ⟨Z1, hz1l, hz1d, hz1v, hblk1⟩, hown2⟩
 rw [HRC.out, Nat.mul_zero, Nat.add_zero, List.take_of_length_le (Nat.le_of_eq HN.out)] at hz1v
 rw [mid_all (by rw [List.length_replicate]; omega)] at hblk1
 have hB2 : Below w1.heap.size w1 w2 := ((Below.refl _ _).alloc (lR _) _).grown hown2 (by simp) (by intro k hk; injection hk with hk; omega)
 have HBLK0' := lh (HBLK0.out.below hB2 HBLK0.out.lt)
 have HB2 := lh (HB1.out.trans (hB2.mono HB1.out.size))
 have HBLK1 := lh hblk1
 have HZ1 := lh hz1v
 have HZ1L := lh hz1l
 have HZ1D := lh hz1d
 have hsz1 := HBLK0.out.lt
 clear hz1v hblk1 hown2 hB2 hz1l hz1d HBLK0
 go_wp2_with fail
 have hw12 := HB2.out.size
 go_loopw [44] (fun i wr => LongRel w wr w.heap.size w1.heap.size w2.heap.size n M Z0 Z1 i) (fun i _ => M - (intOf i).toNat)
 case atStart =>
  have hl := HZ0L.out
  refine ⟨⟨0, [], Z0, Nat.zero_le _, rfl, by omega, HZ0D.out, rfl, Digs.nil, rfl, by rw [val_nil, Nat.zero_mul, Nat.zero_add], ?_, HBLK0'.out.alloc _, by rw [Nat.sub_zero, List.append_nil]; exact Blk.made _ _⟩, HBLK1.out.alloc _, HB2.out.alloc HB2.out.size _⟩
  exact long_start HA.out.1 HZ0.out (by omega) hM (by omega) (by rw [HZ1.out]; exact HNORM.out) hs63
 case round =>
  obtain ⟨⟨k, qs, cs, hk, rfl, hcl, hcs, hql, hqd, htk, hv, hlt, hblk, hq⟩, hdiv, hbw⟩ := hrel
  have h01 : w.heap.size ≠ w1.heap.size := Nat.ne_of_lt hsz1
  have h12 : w1.heap.size < w2.heap.size := HBLK1.out.lt
  by_cases hkm : k < M
  ·obtain ⟨j, hj⟩ : ∃ j, j + k + 1 = M := ⟨M - 1 - k, by omega⟩
   have hji : (M : Int) - 1 - (k : Int) = (j : Int) := by omega
   have hkm' : (k : Int) < (M : Int) := by omega
   have hjm : (j : Int) < (M : Int) := by omega
   have hcapne : ¬ (X.length + 1 = j) := by omega
   have hj0 : (0 : Int) ≤ (j : Int) + (n : Int) + 1 := by omega
   have hjx : j + n ≤ X.length := by omega
   have hjx' : (j : Int) + (n : Int) ≤ (X.length : Int) := by omega
   have htn : ((j : Int) + (n : Int) + 1).toNat = j + n + 1 := by omega
   have hsub : j + n + 1 - j = n + 1 := by omega
   obtain ⟨n', hn'⟩ : ∃ n', n' + 2 = n := ⟨n - 2, by omega⟩
   have hD : 0 < val Z1 := by omega
   obtain ⟨hp1, hp2⟩ := long_part hcs hcl HZ1D.out HZ1L.out hj hlt
   have hP : val ((cs.drop j).take (Z1.length + 1)) < val Z1 * B64 := by
    have h5 : B64 * (val (cs.drop (M - k)) + 1) ≤ B64 * val Z1 := Nat.mul_le_mul_left _ hlt
    have h6 := dg_lt hcs j
    rw [Nat.mul_add, Nat.mul_one] at h5
    rw [hp1, mC (val Z1)]
    omega
   have hT := takeOut_any wr w.heap.size j (X.length + 1 - j) n n' cs Z1 (some ⟨w1.heap.size, 0, none⟩) hblk hcs (by rw [HZ1L.out]; omega) (hdiv.num HZ1D.out) (by rw [HZ1L.out]; omega) (by intro _ p e; injection e with e; rw [← e]; exact h01.symm) (by omega) hD hP
   rw [show n' + 3 = n + 1 by omega, show n' + 2 = n by omega] at hT
   have HT := lh hT
   have HS : Hid (∀ (w3 : World) (zs : List Nat), zs.length = Z1.length + 1 → Digs zs → val zs = val ((cs.drop j).take (Z1.length + 1)) % val Z1 → Blk w3 w.heap.size (mid cs j zs) → wr.grownBy w3 (some w.heap.size) →
     LongRel w (w3.setCell ⟨w2.heap.size, j, none⟩ (.int .u64 ((val ((cs.drop j).take (Z1.length + 1)) / val Z1 : Nat) : Int))) w.heap.size w1.heap.size w2.heap.size n M Z0 Z1 (.int .i64 ((k : Int) + 1))) := by
    intro w3 zs g1 g2 g3 g4 g5
    exact long_step hkm hj (by omega) (by omega) h01 (lR _) (by omega) hcl hcs hql hqd HZ1D.out HZ1L.out (by rw [HZ0L.out]; omega) htk hv hlt hq hdiv hbw g1 g2 g3 g4 g5
   have HQ := lh hq
   have HQL := lh hql
   clear hT hP hp1 hp2 hD hblk hq hdiv hbw hv hlt htk hcl hql hn' hj
   go_wp2_with fail
   refine HT.out.mono ?_
   rintro e w3 ⟨rfl, ⟨zs, hzl, hzd, hz, hblk3⟩, hown3⟩
   have hq3 : Blk w3 w2.heap.size (List.replicate (M - k) 0 ++ qs) := HQ.out.of_heap (hown3.block _ HQ.out.lt (by intro e; injection e with e; omega))
   have ho := hq3.cell (i := j) (by rw [List.length_append, List.length_replicate]; omega)
   have hf := hq3.frozen j
   have HR := lh (HS.out w3 zs hzl hzd hz hblk3 hown3)
   clear hz hblk3 hown3 hq3 hzl
   go_wp2_with fail
   go_roundw
   case rel => exact HR.out
   case measure => simp [intOf]; omega
  ·have hkM : k = M := by omega
   rw [hkM, Nat.sub_self, List.drop_zero, List.drop_zero] at hv
   rw [hkM, Nat.sub_self, List.drop_zero] at hlt
   rw [hkM, Nat.sub_self, List.replicate_zero, List.nil_append] at hq
   have hyp : 0 < val Y := by
    rcases Nat.eq_zero_or_pos (val Y) with h0 | h0
    ·rw [HZ1.out, h0, Nat.zero_mul] at hlt; omega
    ·exact h0
   have hXl : ((cs.drop 0).take n).length = n := by rw [lK, List.length_drop]; omega
   have hXv : val ((cs.drop 0).take n) = val cs := by
    rw [List.drop_zero]
    refine val_take_of_le (lR _) ?_
    have := val_lt HZ1D.out
    rw [HZ1L.out] at this
    omega
   rw [HZ0.out, HZ1.out] at hv
   rw [HZ1.out] at hlt
   have HEND : Hid (∀ v, v = val cs / 2 ^ s → val qs = val X / val Y ∧ v = val X % val Y) := fun v hvv => long_end hyp hv hlt hvv
   have hL := lower_any wr w.heap.size 0 (X.length + 1) s (X.length + 1) cs ((cs.drop 0).take n) (some ⟨w.heap.size, 0, none⟩) hblk (by rw [hXl]; omega) (Src.self hcs) hs63 (by rw [hXl]; omega)
   rw [hXl] at hL
   have HL := lh hL
   have HXV := lh hXv
   have HQ := lh hq
   have HQL : Hid (qs.length = M) := by show qs.length = M; omega
   have HBW := lh hbw
   have HCL := lh hcl
   have hnx : n ≤ X.length + 1 := by omega
   have hnx' : (n : Int) ≤ (X.length : Int) + 1 := by omega
   have HKM := lh hkM
   clear hL hXv hq hbw hblk hdiv hv hlt htk hyp hql hcl hkM hXl
   go_wp2_with fail
   refine HL.out.mono ?_
   rintro e w3 ⟨rfl, ⟨zs, hzl, hzd, hz, hblk3⟩, hown3⟩
   have hXl : ((cs.drop 0).take n).length = n := by rw [lK, List.length_drop, HCL.out]; omega
   rw [hXl] at hzl
   rw [HXV.out] at hz
   obtain ⟨e1, e2⟩ := HEND.out _ hz
   have hq3 : Blk w3 w2.heap.size qs := HQ.out.of_heap (hown3.block _ HQ.out.lt (by intro e; injection e with e; omega))
   have hcut1 := cut_any w3 _ M qs (hq3.num hqd) (by rw [HQL.out]; omega) (by rw [HQL.out]; omega)
   rw [HQL.out, e1] at hcut1
   have hnum : Num w3 (some ⟨w.heap.size, 0, none⟩) zs := by
    have h := (hblk3.num (hcs.mid hzd 0)).take zs.length
    rwa [mid_take] at h
   have hcut2 := cut_at w3 _ (X.length + 1) zs hnum (by omega) (by omega)
   rw [hzl, e2] at hcut2
   have HC1 := lh hcut1
   have HC2 := lh hcut2
   have HFIN : Hid (Below w.heap.size w w3 ∧ Blk w3 w.heap.size (mid cs 0 zs) ∧ Digs (mid cs 0 zs) ∧ (mid cs 0 zs).length = X.length + 1 ∧ (dig (val X % val Y)).length ≤ n ∧ (mid cs 0 zs).take (dig (val X % val Y)).length = dig (val X % val Y)) := by
    have hl : (dig (val X % val Y)).length ≤ n := by rw [← e2, ← hzl]; exact dig_length_val hzd
    refine ⟨HBW.out.grown hown3 HBW.out.size (by intro i hi; injection hi with hi; omega), hblk3, hcs.mid hzd 0, by rw [mid_length (by rw [HCL.out]; omega), HCL.out]; omega, hl, ?_⟩
    have h := dig_take_self hzd
    rw [e2] at h
    have h2 : (mid cs 0 zs).take (dig (val X % val Y)).length = zs.take (dig (val X % val Y)).length := by
     have h3 : ((mid cs 0 zs).take zs.length).take (dig (val X % val Y)).length = zs.take (dig (val X % val Y)).length := by rw [mid_take]
     rwa [List.take_take, Nat.min_eq_left (by omega)] at h3
    rw [h2]
    exact h.symm
   clear hcut1 hcut2 hnum hq3 hz hblk3 hown3 hzl hXl e1 e2
   go_wp2_with fail
   refine HC1.out.mono ?_
   rintro e w4 ⟨A1, c1, rfl, hc1, ha1, rfl⟩
   go_wp2_with fail
   refine HC2.out.mono ?_
   rintro e w4 ⟨A2, c2, rfl, hc2, ha2, rfl, hc2'⟩
   have HA1 := lh ha1
   have HA2 := lh ha2
   have HC2' := lh hc2'
   clear ha1 ha2 hc2'
   go_wp2
   go_ret2
   obtain ⟨f1, f2, f3, f4, f5, f6⟩ := HFIN.out
   refine ⟨A1, c1, A2, c2, w.heap.size, _, rfl, hc1, hc2, HA1.out, HA2.out, f1, lR _, f2, f3, by omega, f6, fun hp => ?_⟩
   obtain ⟨g1, g2⟩ := HC2'.out hp
   exact ⟨g1, by omega⟩
