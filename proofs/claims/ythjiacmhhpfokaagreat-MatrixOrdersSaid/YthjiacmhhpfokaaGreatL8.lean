/- Part 8 of the proof: DivB, DivC. -/
import Derived.Test.YthjiacmhhpfokaaGreatL7
namespace Go.Proofs.YthjiacmhhpfokaaGreat
open Lib renaming hid → lh
open Go.Proofs.Tryz renaming prog → tz
open List renaming length_take → lK
open Nat renaming mul_comm → mC
section
set_option maxHeartbeats 4000000
open Go.RowKit
structure GiveRel (w wr : World) (g off m : Nat) (cs Y : List Nat) (B : Option Addr) (d : Nat) (cy i : Value) : Prop where
 ex : ∃ (k c : Nat) (zs : List Nat), k ≤ m ∧ i = .int .i64 k ∧ cy = .int .u64 c ∧ c ≤ 1 ∧ zs.length = k ∧ Digs zs ∧ val zs + B64 ^ k * c = val ((cs.drop off).take k) + val (Y.take k) ∧ Blk wr g (mid cs off zs)
 cap : wr.cell? ⟨w.heap.size, 0, none⟩ = some (.slice B Y.length d)
 own : w.grownBy wr (some g)
 num : Num wr B Y
structure GivePost (w : World) (g off m : Nat) (cs Y : List Nat) (e : Ending) (w' : World) : Prop where
 ex : ∃ (zs : List Nat) (c : Nat), c ≤ 1 ∧ e = .returned (.bool (c != 0)) ∧ zs.length = m ∧ Digs zs ∧ val zs + B64 ^ m * c = val ((cs.drop off).take m) + val Y ∧ Blk w' g (mid cs off zs)
 own : w.grownBy w' (some g)
theorem give_step {w wr : World} {g off m k c d : Nat} {cs Y zs : List Nat} {B : Option Addr} (hlt : k < m) (hoff : off + m ≤ cs.length) (hg : g < w.heap.size) (hcs : Digs cs) (hc : c ≤ 1)
  (hzl : zs.length = k) (hzd : Digs zs) (hv : val zs + B64 ^ k * c = val ((cs.drop off).take k) + val (Y.take k)) (hblk : Blk wr g (mid cs off zs)) (hcap : wr.cell? ⟨w.heap.size, 0, none⟩ = some (.slice B Y.length d))
  (hown : w.grownBy wr (some g)) (hnum : Num wr B Y) (hne : 0 < Y.length → ∀ p, B = some p → p.block ≠ g) (n : Nat) :
  GiveRel w ((wr.setCell ⟨g, off + k, none⟩ (.int .u64 ((lo (dg cs (off + k) + dg Y k + c) : Nat) : Int))).drewN n) g off m cs Y B d (.int .u64 ((hi (dg cs (off + k) + dg Y k + c) : Nat) : Int)) (.int .i64 ((k : Int) + 1)) := by
 refine ⟨⟨k + 1, hi (dg cs (off + k) + dg Y k + c), zs ++ [lo (dg cs (off + k) + dg Y k + c)], by omega, by simp, rfl, hi_le_one (dg_lt hcs _) (dg_lt hnum.1 _) hc, by simp [hzl], hzd.snoc (lo_lt _), ?_, ?_⟩, ?_, grown_drewN (grown_set hown _ _) n, (hnum.set_far hne).drewN n⟩
 ·rw [val_take_dg, val_take_dg, val_snoc, Nat.pow_succ, hzl, dg_drop]
  have := add_round (p := B64 ^ k) hv (lo_hi (dg cs (off + k) + dg Y k + c))
  omega
 ·have h := hblk.set_ (off + k) (lo (dg cs (off + k) + dg Y k + c))
  have hs := mid_set (cs := cs) (zs := zs) (off := off) (by omega) (lo (dg cs (off + k) + dg Y k + c))
  rw [hzl] at hs
  rw [hs] at h
  exact h.drewN n
 ·exact (World.cell?_setCell_other wr _ _ _ (by intro e; injection e with e1; omega)).trans hcap
theorem give_any (w : World) (g off m capP d : Nat) (cs Y : List Nat) (B : Option Addr) (hblk : Blk w g cs) (hcs : Digs cs) (hoff : off + m ≤ cs.length) (hB : Num w B Y)
  (hne : 0 < Y.length → ∀ p, B = some p → p.block ≠ g) (hm : Y.length ≤ m) (hn : m ≤ 1099511627776) :
  Calls tz 258 #[.slice (some ⟨g, off, none⟩) m capP, .slice B Y.length d] w (GivePost w g off m cs Y) := by
 have HB := lh hB
 have HBLK0 := lh hblk
 have HNE := lh hne
 have hg := hblk.lt
 clear hB hblk hne
 go_enter Tryz.func258, Tryz.ntmps258
 go_wp2_with fail
 refine (digitOf_any _ _ _ _).mono ?_
 rintro e w' ⟨rfl, rfl⟩
 go_wp2_with fail
 go_loopw [6, 12] (fun cy i wr => GiveRel w wr g off m cs Y B d cy i) (fun _ i _ => m - (intOf i).toNat)
 case atStart =>
  exact ⟨⟨0, 0, [], Nat.zero_le _, rfl, rfl, Nat.zero_le _, rfl, Digs.nil, by simp [val_nil], by rw [mid_nil]; exact HBLK0.out.alloc _⟩, cell_of_one (heap_alloc_new w _), World.grownBy_alloc _ _ _, HB.out.alloc _⟩
 case round =>
  obtain ⟨⟨k, c, zs, hk, rfl, rfl, hc, hzl, hzd, hv, hblk⟩, hcap, hown, hnum⟩ := hrel
  by_cases hlt : k < m
  ·have hlt' : (k : Int) < (m : Int) := by omega
   have ho : (wr.cell? ⟨g, off + k, none⟩) = some (.int .u64 ((dg cs (off + k) : Nat) : Int)) := by
    rw [hblk.cell (by rw [mid_length (by omega)]; omega), dg_mid_above (by omega) (by omega)]
   have hf : wr.frozen? ⟨g, off + k, none⟩ = false := hblk.frozen _
   have hadd := run_add (dg cs (off + k)) (dg Y k) c hc
   have HD := lh (digit_any wr.drew w.heap.size B d k Y hnum.drew (by omega) hcap)
   have HS := lh (give_step hlt hoff hg hcs hc hzl hzd hv hblk hcap hown hnum HNE.out)
   clear hblk hv hzl hcap hown hnum
   go_wp2_with fail
   go_region_with (first | (go_at_call 221; refine HD.out.mono ?_; rintro e w' ⟨rfl, rfl⟩))
   all_goals
    go_wp2
    go_roundw
    case rel => exact HS.out 1
    case measure => simp [intOf]; omega
  ·have hkn : k = m := by omega
   have HE : Hid (GivePost w g off m cs Y (.returned (.bool (c != 0))) wr) := by
    subst hkn
    refine ⟨⟨zs, c, hc, rfl, hzl, hzd, ?_, hblk⟩, hown⟩
    rw [List.take_of_length_le hm] at hv
    exact hv
   have HN := lh (bne_cast c)
   clear hblk hv hzl hkn hcap hown hnum
   go_wp2_with fail
   go_ret
   rw [HN.out]
   exact HE.out
theorem quot_two {S Y : List Nat} {n : Nat} (hS : Digs S) (hl : S.length = Y.length + 1) (hn : Y.length = n + 2) :
  val S / val Y * dg Y (n + 1) ≤ dg S (n + 2) * B64 + dg S (n + 1) := by
 have h1 := val_take_add S (n + 1)
 rw [Nat.min_eq_left (by omega), drop_pred (by omega), val_cons, drop_pred (by omega), val_cons, List.drop_of_length_le (by omega)] at h1
 simp only [val_nil, Nat.mul_zero, Nat.add_zero] at h1
 have h2 := val_take_add Y (n + 1)
 rw [Nat.min_eq_left (by omega), drop_pred (by omega), val_cons, List.drop_of_length_le (by omega)] at h2
 simp only [val_nil, Nat.mul_zero, Nat.add_zero] at h2
 have h3 := val_lt (hS.take (n + 1))
 rw [lK, Nat.min_eq_left (by omega)] at h3
 have h4 := Nat.div_mul_le_self (val S) (val Y)
 generalize val S / val Y = Q at *
 have h5 : B64 ^ (n + 1) * (Q * dg Y (n + 1)) ≤ Q * val Y := by
  rw [Nat.mul_left_comm]
  exact Nat.mul_le_mul_left _ (by omega)
 have h6 : Q * dg Y (n + 1) < (dg S (n + 1) + B64 * dg S (n + 1 + 1)) + 1 := by
  refine Nat.lt_of_mul_lt_mul_left (a := B64 ^ (n + 1)) ?_
  rw [Nat.mul_succ]
  omega
 rw [mC (dg S (n + 2))]
 exact Nat.le_trans (Nat.le_of_lt_succ h6) (Nat.le_of_eq (Nat.add_comm _ _))
theorem quot_three {S Y : List Nat} {n t r : Nat} (hS : Digs S) (hl : S.length = Y.length + 1) (hn : Y.length = n + 2) (ht : t ≤ val S / val Y)
  (hr : t * dg Y (n + 1) + r = dg S (n + 2) * B64 + dg S (n + 1)) : t * dg Y n ≤ r * B64 + dg S n := by
 have h1 := val_take_add S n
 rw [Nat.min_eq_left (by omega), drop_pred (by omega), val_cons, drop_pred (by omega), val_cons, drop_pred (by omega), val_cons, List.drop_of_length_le (by omega)] at h1
 simp only [val_nil, Nat.mul_zero, Nat.add_zero] at h1
 have h2 := val_take_add Y n
 rw [Nat.min_eq_left (by omega), drop_pred (by omega), val_cons, drop_pred (by omega), val_cons, List.drop_of_length_le (by omega)] at h2
 simp only [val_nil, Nat.mul_zero, Nat.add_zero] at h2
 have h3 := val_lt (hS.take n)
 rw [lK, Nat.min_eq_left (by omega)] at h3
 have h4 := Nat.le_trans (Nat.mul_le_mul_right (val Y) ht) (Nat.div_mul_le_self (val S) (val Y))
 rw [show n + 1 + 1 = n + 2 by omega] at h1
 have e1 : dg S (n + 1) + B64 * dg S (n + 2) = t * dg Y (n + 1) + r := by rw [hr, mC B64]; omega
 rw [e1] at h1
 have h5 : B64 ^ n * (t * (dg Y n + B64 * dg Y (n + 1))) ≤ t * val Y := by
  rw [Nat.mul_left_comm]
  exact Nat.mul_le_mul_left _ (by omega)
 have h6 : t * (dg Y n + B64 * dg Y (n + 1)) < dg S n + B64 * (t * dg Y (n + 1) + r) + 1 := by
  refine Nat.lt_of_mul_lt_mul_left (a := B64 ^ n) ?_
  rw [Nat.mul_succ]
  omega
 have e2 : t * (dg Y n + B64 * dg Y (n + 1)) = t * dg Y n + B64 * (t * dg Y (n + 1)) := by rw [Nat.mul_add, Nat.mul_left_comm]
 rw [e2, Nat.mul_add] at h6
 rw [mC r]
 omega
theorem quiet_add {P : Program} {f : FuncId} {args : Array Value} {w : World} {a n : Nat} {v : Value}
  (h : Calls P f args (w.drewN (a + n)) fun e w' => e = .returned v ∧ ∃ m, w' = (w.drewN (a + n)).drewN m) :
  Calls P f args (w.drewN (a + n)) fun e w'' => e = .returned v ∧ ∃ m, w'' = w.drewN (a + m) :=
 h.mono fun _ _ ⟨he, m, hm⟩ => ⟨he, n + m, by rw [hm, World.drewN_drewN, Nat.add_assoc]⟩
def GuessPost (w : World) (Q : Nat) (e : Ending) (w' : World) : Prop := ∃ q : Nat, e = .returned (.int .u64 (q : Int)) ∧ q < B64 ∧ Q ≤ q ∧ ∃ n, w' = w.drewN n
structure GuessRel (Q top nx p3 p2 : Nat) (t r h l : Nat) : Prop where
 kq : Q ≤ t
 kt : t < B64
 kr : r < B64
 kh : h < B64
 kl : l < B64
 e1 : h * B64 + l = t * nx
 e2 : t * top + r = p3 * B64 + p2
theorem guess_next {Q top nx p3 p2 p1 t r h l : Nat} (hk : GuessRel Q top nx p3 p2 t r h l) (hnx : nx < B64) (hq : t ≤ Q → t * nx ≤ r * B64 + p1) (hg : r * B64 + p1 < h * B64 + l) :
  1 ≤ t ∧ sbo l nx 0 ≤ h ∧ Q ≤ t - 1 ∧ (hi (r + top) = 0 → GuessRel Q top nx p3 p2 (t - 1) (lo (r + top)) (h - sbo l nx 0) (slo l nx 0)) := by
 have ht : Q < t := by
  rcases Nat.lt_or_ge Q t with h1 | h1
  ·exact h1
  ·have := hq h1
   have := hk.e1
   omega
 have h1 := slo_sbo hk.kl hnx (show 0 ≤ 1 by omega)
 have h2 : (t - 1) * nx + nx = t * nx := by rw [← Nat.succ_mul]; congr 1; omega
 have h3 : sbo l nx 0 ≤ h := by
  rcases Nat.eq_zero_or_pos h with h0 | h0
  ·unfold sbo
   rw [if_neg]
   ·omega
   ·have h4 := hk.e1
    subst h0
    omega
  ·have := sbo_le l nx 0
   omega
 refine ⟨by omega, h3, by omega, fun hc => ⟨by omega, by have := hk.kt; omega, lo_lt _, by have := hk.kh; omega, slo_lt _ _ _, ?_, ?_⟩⟩
 ·have h5 := hk.e1
  have h6 : (h - sbo l nx 0) * B64 + sbo l nx 0 * B64 = h * B64 := by rw [← Nat.add_mul]; congr 1; omega
  have h7 : B64 * sbo l nx 0 = sbo l nx 0 * B64 := mC _ _
  omega
 ·have h5 := lo_hi (r + top)
  rw [hc, Nat.mul_zero, Nat.add_zero] at h5
  have h6 : (t - 1) * top + top = t * top := by rw [← Nat.succ_mul]; congr 1; omega
  have := hk.e2
  omega
theorem lex_lt {r h p l : Nat} (hp : p < B64) (hl : l < B64) : (r * B64 + p < h * B64 + l) ↔ (r < h ∨ (h = r ∧ p < l)) := by
 constructor
 ·intro h1
  rcases Nat.lt_trichotomy r h with h2 | h2 | h2
  ·exact .inl h2
  ·subst h2; exact .inr ⟨rfl, by omega⟩
  ·have : (h + 1) * B64 ≤ r * B64 := Nat.mul_le_mul_right _ h2
   rw [Nat.succ_mul] at this
   omega
 ·rintro (h2 | ⟨rfl, h2⟩)
  ·have : (r + 1) * B64 ≤ h * B64 := Nat.mul_le_mul_right _ h2
   rw [Nat.succ_mul] at this
   omega
  ·omega
theorem guess_any (w : World) (A B : Option Addr) (capP d n : Nat) (S Y : List Nat) (hA : Num w A S) (hB : Num w B Y) (hl : S.length = Y.length + 1) (hn : Y.length = n + 2) (hN : n ≤ 1099511627776) (hQ : val S / val Y < B64) :
  Calls tz 256 #[.slice A (n + 3) capP, .slice B (n + 2) d] w (GuessPost w (val S / val Y)) := by
 have HQ2 := lh (quot_two hA.1 hl hn)
 have HQ3 : Hid (∀ t r, t * dg Y (n + 1) + r = dg S (n + 2) * B64 + dg S (n + 1) → t ≤ val S / val Y → t * dg Y n ≤ r * B64 + dg S n) := fun t r h1 h2 => quot_three hA.1 hl hn h2 h1
 obtain ⟨b1, o1, rfl, hb1, hc1⟩ := hA.at_ (by omega)
 obtain ⟨b2, o2, rfl, hb2, hc2⟩ := hB.at_ (by omega)
 have c1 := hc1 (n + 2) (by omega)
 have c2 := hc1 (n + 1) (by omega)
 have c3 := hc1 n (by omega)
 have c4 := hc2 (n + 1) (by omega)
 have c5 := hc2 n (by omega)
 have d1 := dg_lt hA.1 (n + 2)
 have d2 := dg_lt hA.1 (n + 1)
 have d3 := dg_lt hA.1 n
 have d4 := dg_lt hB.1 (n + 1)
 have d5 := dg_lt hB.1 n
 generalize val S / val Y = Q at *
 generalize dg S (n + 2) = p3 at *
 generalize dg S (n + 1) = p2 at *
 generalize dg S n = p1 at *
 generalize dg Y (n + 1) = top at *
 generalize dg Y n = nx at *
 clear hc1 hc2 hA hB hl hn
 have i1 : ((n : Int) + 1) < (n : Int) + 2 := by omega
 have w1 : IntKind.i64.wrap ((n : Int) + 2 - 1) = (n : Int) + 1 := by
  rw [show (n : Int) + 2 - 1 = (n : Int) + 1 by omega]; exact IntWalk.i64_in _ (by omega)
 have w2 : IntKind.i64.wrap ((n : Int) + 2 - 2) = (n : Int) := by
  rw [show (n : Int) + 2 - 2 = (n : Int) by omega]; exact IntWalk.i64_in _ (by omega)
 have tn1 : ((n : Int) + 1).toNat = n + 1 := by omega
 have tn2 : ((n : Int) + 2).toNat = n + 2 := by omega
 by_cases hpt : top ≤ p3
 ·have hpt' : (top : Int) ≤ (p3 : Int) := by omega
  have HF : Hid (Q ≤ 18446744073709551615) := by
   show Q ≤ 18446744073709551615
   rw [B64_eq] at hQ
   omega
  clear hQ
  go_enter Tryz.func256, Tryz.ntmps256
  go_wp2_with fail
  go_quiet (fail)
  go_wp2_with fail
  go_ret
  exact ⟨18446744073709551615, rfl, by rw [B64_eq]; omega, HF.out, _, rfl⟩
 ·have hpt' : ¬ (top : Int) ≤ (p3 : Int) := by omega
  have HP1 : Hid ((p3 * B64 + p2) / top < B64) := div_digit_lt (by omega) d2
  have HP2 : Hid ((p3 * B64 + p2) % top < B64) := by
   have := Nat.mod_lt (p3 * B64 + p2) (show top > 0 by omega)
   exact Nat.lt_trans this d4
  have HP3 : Hid ((p3 * B64 + p2) / top * top + (p3 * B64 + p2) % top = p3 * B64 + p2) := Nat.div_add_mod' _ _
  have HP4 : Hid (Q ≤ (p3 * B64 + p2) / top) := by
   show Q ≤ (p3 * B64 + p2) / top
   rw [Nat.le_div_iff_mul_le (by omega)]
   exact HQ2.out
  have HD : Hid (∀ W : World, Calls tz 241 #[.int .u64 p3, .int .u64 p2, .int .u64 top] W (RetDiv W ((p3 * B64 + p2) / top) ((p3 * B64 + p2) % top))) := fun W => div64_any p3 p2 top (by omega) d2 d4 W
  go_enter Tryz.func256, Tryz.ntmps256
  go_wp2_with fail
  go_quiet (fail)
  go_wp2_with fail
  generalize (p3 * B64 + p2) / top = t0 at *
  generalize (p3 * B64 + p2) % top = r0 at *
  go_quiet ((go_at_call 241; exact quiet_add (HD.out _)))
  go_wp2_with fail
  refine (mul64_any _ _ HP1.out d5 _).mono ?_
  rintro e w' ⟨rfl, rfl⟩
  go_wp2_with fail
  have HR0 : Hid (GuessRel Q top nx p3 p2 t0 r0 (hi (t0 * nx)) (lo (t0 * nx))) :=
   ⟨HP4.out, HP1.out, HP2.out, hi_prod_lt0 HP1.out d5, lo_lt _, by have := lo_hi (t0 * nx); rw [mC] ; omega, HP3.out⟩
  clear hQ
  go_loop [8, 9, 10, 11] (fun t r h l => ∃ t' r' h' l' : Nat, t = .int .u64 (t' : Int) ∧ r = .int .u64 (r' : Int) ∧ h = .int .u64 (h' : Int) ∧ l = .int .u64 (l' : Int) ∧ Hid (GuessRel Q top nx p3 p2 t' r' h' l')) (fun t _ _ _ => (intOf t).toNat)
  case atStart => exact ⟨t0, r0, _, _, rfl, rfl, rfl, rfl, HR0⟩
  case round =>
   obtain ⟨t, r, h, l, rfl, rfl, rfl, rfl, hk⟩ := hrel
   have hxt := hk.out.kt
   have hxl := hk.out.kl
   by_cases hc : r * B64 + p1 < h * B64 + l
   ·obtain ⟨n1, n2, n3, n4⟩ := guess_next hk.out d5 (fun hle => HQ3.out t r hk.out.e2 hle) hc
    have N3 := lh n3
    have N4 := lh n4
    have hxt2 : t - 1 < B64 := by omega
    have HT2 := lh hxt2
    have eq1 : IntKind.u64.wrap ((t : Int) - 1) = ((t - 1 : Nat) : Int) := u64_sub (a := t) (b := 1) (by omega) hxt
    have eq2 : IntKind.u64.wrap ((h : Int) - ((sbo l nx 0 : Nat) : Int)) = ((h - sbo l nx 0 : Nat) : Int) := u64_sub (by omega) hk.out.kh
    have hsub := run_sub0 l nx
    have hadd := run_add0 r top
    have hlex := (lex_lt d3 hxl).1 hc
    clear hc n3 n4 hxt2
    by_cases hca : hi (r + top) = 0
    ·have HR := lh (N4.out hca)
     have hca' : (((hi (r + top) : Nat) : Int) != 0) = false := by rw [hca]; rfl
     clear hca
     rcases hlex with hl1 | ⟨hl1, hl2⟩
     ·have f1 : (r : Int) < (h : Int) := by omega
      clear hl1
      go_wp2_with fail
      go_round
      case rel => exact ⟨t - 1, _, _, _, rfl, rfl, rfl, rfl, HR⟩
      case measure => simp [intOf]; omega
     ·have f1 : ¬ (r : Int) < (h : Int) := by omega
      have f2 : ((h : Int) == (r : Int)) = true := by rw [hl1]; simp
      have f3 : (p1 : Int) < (l : Int) := by omega
      clear hl1 hl2
      go_wp2_with fail
      go_round
      case rel => exact ⟨t - 1, _, _, _, rfl, rfl, rfl, rfl, HR⟩
      case measure => simp [intOf]; omega
    ·have hca' : (((hi (r + top) : Nat) : Int) != 0) = true := by rw [bne_iff_ne]; omega
     clear hca
     rcases hlex with hl1 | ⟨hl1, hl2⟩
     ·have f1 : (r : Int) < (h : Int) := by omega
      clear hl1
      go_wp2_with fail
      go_ret
      exact ⟨t - 1, rfl, HT2.out, N3.out, _, rfl⟩
     ·have f1 : ¬ (r : Int) < (h : Int) := by omega
      have f2 : ((h : Int) == (r : Int)) = true := by rw [hl1]; simp
      have f3 : (p1 : Int) < (l : Int) := by omega
      clear hl1 hl2
      go_wp2_with fail
      go_ret
      exact ⟨t - 1, rfl, HT2.out, N3.out, _, rfl⟩
   ·have hlex := mt (lex_lt d3 hxl).2 hc
    have f1 : ¬ (r : Int) < (h : Int) := fun hx => hlex (.inl (by omega))
    by_cases hl1 : h = r
    ·have f2 : ((h : Int) == (r : Int)) = true := by rw [hl1]; simp
     have f3 : ¬ (p1 : Int) < (l : Int) := fun hx => hlex (.inr ⟨hl1, by omega⟩)
     clear hl1 hlex hc
     go_wp2_with fail
     go_ret
     exact ⟨t, rfl, hk.out.kt, hk.out.kq, _, rfl⟩
    ·have f2 : ((h : Int) == (r : Int)) = false := by rw [beq_eq_false_iff_ne]; omega
     clear hl1 hlex hc
     go_wp2_with fail
     go_ret
     exact ⟨t, rfl, hk.out.kt, hk.out.kq, _, rfl⟩
end

section
open Go.RowKit
structure OutPost (w : World) (g off : Nat) (cs Y : List Nat) (e : Ending) (w' : World) : Prop where
 ret : e = .returned (.int .u64 ((val ((cs.drop off).take (Y.length + 1)) / val Y : Nat) : Int))
 ex : ∃ zs : List Nat, zs.length = Y.length + 1 ∧ Digs zs ∧ val zs = val ((cs.drop off).take (Y.length + 1)) % val Y ∧ Blk w' g (mid cs off zs)
 own : w.grownBy w' (some g)
def OutAt (P D n : Nat) (t : Nat) (zs : List Nat) : Bool → Prop
 | true => val zs + t * D = P + B64 ^ n ∧ P < t * D
 | false => val zs + t * D = P ∧ val zs < D
structure OutRel (w wr : World) (g off : Nat) (cs Y : List Nat) (B : Option Addr) (tv bv : Value) : Prop where
 ex : ∃ (t : Nat) (b : Bool) (zs : List Nat), tv = .int .u64 (t : Int) ∧ bv = .bool b ∧ t < B64 ∧ zs.length = Y.length + 1 ∧ Digs zs ∧ OutAt (val ((cs.drop off).take (Y.length + 1))) (val Y) (Y.length + 1) t zs b ∧ Blk wr g (mid cs off zs)
 own : w.grownBy wr (some g)
 num : Num wr B Y
theorem grown_trans {a b c : World} {row : Option Nat} (h : a.grownBy b row) (k : b.grownBy c row) : a.grownBy c row :=
 ⟨k.os.trans h.os, k.tape.trans h.tape, k.output.trans h.output, Nat.le_trans h.size k.size, fun i hi hne => (k.block i (Nat.lt_of_lt_of_le hi h.size) hne).trans (h.block i hi hne)⟩
theorem grown_of_only {a b : World} {g : Nat} (h : Only g a b) : a.grownBy b (some g) :=
 ⟨h.os, h.tape, h.output, Nat.le_of_eq h.size.symm, fun i _ hne => h.block i (by rintro rfl; exact hne rfl)⟩
theorem Num.grown {w w' : World} {g : Nat} {A : Option Addr} {xs : List Nat} (h : Num w A xs) (hO : w.grownBy w' (some g)) (hne : 0 < xs.length → ∀ p, A = some p → p.block ≠ g) : Num w' A xs :=
 ⟨h.1, fun hn => by
  obtain ⟨b, off, e, hlt, hc⟩ := h.2 hn
  have hb : b ≠ g := hne (List.length_pos_iff.2 hn) _ e
  exact ⟨b, off, e, Nat.lt_of_lt_of_le hlt hO.size, fun i hi => (World.cell?_of_block (hO.block b hlt (by intro e2; injection e2 with e3; exact hb e3))).trans (hc i hi)⟩⟩
theorem mid_mid {cs zs ys : List Nat} {off : Nat} (h : zs.length = ys.length) (hl : off + zs.length ≤ cs.length) : mid (mid cs off zs) off ys = mid cs off ys := by
 unfold mid
 have h1 : (cs.take off).length = off := by rw [lK]; omega
 rw [List.take_append_of_le_length (by omega), List.take_of_length_le (Nat.le_of_eq h1), ← h, List.drop_append, h1, List.drop_of_length_le (by omega), List.nil_append, show off + zs.length - off = zs.length by omega, List.drop_left]
theorem drop_take_mid {cs zs : List Nat} {off : Nat} (hl : off + zs.length ≤ cs.length) : ((mid cs off zs).drop off).take zs.length = zs := by
 unfold mid
 have h1 : (cs.take off).length = off := by rw [lK]; omega
 rw [List.drop_append, h1, List.drop_of_length_le (by omega), List.nil_append, Nat.sub_self, List.drop_zero, List.take_left]
theorem out_start {P D n q b : Nat} {zs : List Nat} (hb : b ≤ 1) (hv : val zs + D * q = P + B64 ^ n * b) (hz : val zs < B64 ^ n) (hQ : P / D ≤ q) (hD : 0 < D) : OutAt P D n q zs (b != 0) := by
 rw [mC D] at hv
 rcases Nat.eq_zero_or_pos b with h0 | h0
 ·subst h0
  rw [Nat.mul_zero, Nat.add_zero] at hv
  refine ⟨hv, ?_⟩
  have h1 : P < (q + 1) * D := (Nat.div_lt_iff_lt_mul hD).1 (by omega)
  rw [Nat.succ_mul] at h1
  omega
 ·have : b = 1 := by omega
  subst this
  rw [Nat.mul_one] at hv
  exact ⟨hv, by omega⟩
theorem out_next {P D n t c : Nat} {zs ys : List Nat} (hc : c ≤ 1) (h : OutAt P D n t zs true) (hv : val ys + B64 ^ n * c = val zs + D) (hz : val zs < B64 ^ n) (hy : val ys < B64 ^ n) : 1 ≤ t ∧ OutAt P D n (t - 1) ys (!(c != 0)) := by
 obtain ⟨h1, h2⟩ := h
 have ht : 1 ≤ t := by
  rcases Nat.eq_zero_or_pos t with h0 | h0
  ·subst h0; omega
  ·exact h0
 have h3 : (t - 1) * D + D = t * D := by rw [← Nat.succ_mul]; congr 1; omega
 refine ⟨ht, ?_⟩
 rcases Nat.eq_zero_or_pos c with h0 | h0
 ·subst h0
  rw [Nat.mul_zero, Nat.add_zero] at hv
  exact ⟨by omega, by omega⟩
 ·have : c = 1 := by omega
  subst this
  rw [Nat.mul_one] at hv
  exact ⟨by omega, by omega⟩
set_option maxHeartbeats 2000000 in
theorem takeOut_any (w : World) (g off capP d n : Nat) (cs Y : List Nat) (B : Option Addr) (hblk : Blk w g cs) (hcs : Digs cs) (hoff : off + (Y.length + 1) ≤ cs.length) (hB : Num w B Y) (hn : Y.length = n + 2)
  (hne : 0 < Y.length → ∀ p, B = some p → p.block ≠ g) (hN : n ≤ 1099511627770) (hY : 0 < val Y) (hP : val ((cs.drop off).take (Y.length + 1)) < val Y * B64) :
  Calls tz 252 #[.slice (some ⟨g, off, none⟩) (n + 3) capP, .slice B (n + 2) d] w (OutPost w g off cs Y) := by
 have hSl : ((cs.drop off).take (Y.length + 1)).length = Y.length + 1 := by rw [lK, List.length_drop]; omega
 have hS : Num w (some ⟨g, off, none⟩) ((cs.drop off).take (Y.length + 1)) := (hblk.num_drop hcs off).take _
 have hQ : val ((cs.drop off).take (Y.length + 1)) / val Y < B64 := Nat.div_lt_of_lt_mul hP
 have HG := lh (guess_any w (some ⟨g, off, none⟩) B capP d n _ Y hS hB hSl hn (by omega) hQ)
 have HB := lh hB
 have HNE := lh hne
 have HY := lh hY
 have HN := lh hn
 have HBLK := lh hblk
 have HT : Hid (∀ (W : World) (xs : List Nat) (x : Nat), Blk W g xs → Digs xs → off + Y.length < xs.length → Num W B Y → x < B64 → Calls tz 257 #[.slice (some ⟨g, off, none⟩) (n + 3) capP, .slice B (n + 2) d, .int .u64 x] W (TakePost W g off xs Y x)) := by
  intro W xs x h1 h2 h3 h4 h5
  have h := take_any W g off capP d x xs Y B h1 h2 h3 h4 hne h5 (by omega)
  rw [hn] at h
  exact h
 have HV : Hid (∀ (W : World) (xs : List Nat), Blk W g xs → Digs xs → off + (Y.length + 1) ≤ xs.length → Num W B Y → Calls tz 258 #[.slice (some ⟨g, off, none⟩) (n + 3) capP, .slice B (n + 2) d] W (GivePost W g off (Y.length + 1) xs Y)) := by
  intro W xs h1 h2 h3 h4
  have h := give_any W g off (Y.length + 1) capP d xs Y B h1 h2 h3 h4 hne (by omega) (by omega)
  rw [hn] at h
  rw [hn]
  exact h
 clear hB hne hS hSl hP hQ hY hn hblk
 go_enter Tryz.func252, Tryz.ntmps252
 go_wp2_with fail
 refine HG.out.mono ?_
 rintro e w' ⟨q, rfl, hq, hQq, m, rfl⟩
 have HQq := lh hQq
 clear hQq HG
 go_wp2_with fail
 refine (HT.out (w.drewN m) cs q (HBLK.out.drewN m) hcs (by omega) (HB.out.drewN m) hq).mono ?_
 rintro e w1 ⟨⟨zs, b, hb, rfl, hzl, hzd, hv, hblk1⟩, hO1⟩
 have HS0 : Hid (OutRel w w1 g off cs Y B (.int .u64 (q : Int)) (.bool (b != 0))) := by
  have hz := val_lt hzd
  rw [hzl] at hz
  have hO2 : w.grownBy w1 (some g) := grown_trans (grown_drewN (World.grownBy.refl w _) m) (grown_of_only hO1)
  exact ⟨⟨q, _, zs, rfl, rfl, hq, hzl, hzd, out_start hb hv hz HQq.out HY.out, hblk1⟩, hO2, HB.out.grown hO2 HNE.out⟩
 clear hv hzl hblk1 hO1
 go_wp2_with fail
 go_loopw [5, 6] (fun tv bv wr => OutRel w wr g off cs Y B tv bv) (fun tv _ _ => (intOf tv).toNat)
 case atStart => exact HS0.out
 case round =>
  obtain ⟨⟨t, b', zs', rfl, rfl, ht, hzl, hzd, hat, hblk⟩, hown, hnum⟩ := hrel
  cases b' with
  | true =>
   have hml := mid_length (cs := cs) (zs := zs') (off := off) (by omega)
   have HG2 := lh (HV.out _ _ hblk (hcs.mid hzd off) (by omega) hnum)
   have HAT := lh hat
   have HZL := lh hzl
   have HOWN := lh hown
   have HNUM := lh hnum
   clear hat hblk hzl hown hnum hml
   go_wp2_with fail
   refine HG2.out.mono ?_
   rintro e w2 ⟨⟨ys, c, hc, rfl, hyl, hyd, hv, hblk2⟩, hown2⟩
   have hv2 : val ys + B64 ^ (Y.length + 1) * c = val zs' + val Y := by
    have h := drop_take_mid (cs := cs) (zs := zs') (off := off) (by rw [HZL.out]; omega)
    rw [HZL.out] at h
    rwa [h] at hv
   have hz1 := val_lt hzd
   rw [HZL.out] at hz1
   have hz2 := val_lt hyd
   rw [hyl] at hz2
   obtain ⟨ht1, hat2⟩ := out_next hc HAT.out hv2 hz1 hz2
   rw [mid_mid (by rw [HZL.out, hyl]) (by rw [HZL.out]; omega)] at hblk2
   have HR : Hid (OutRel w w2 g off cs Y B (.int .u64 ((t - 1 : Nat) : Int)) (.bool (!(c != 0)))) := by
    have hO3 := grown_trans HOWN.out hown2
    exact ⟨⟨t - 1, _, ys, rfl, rfl, by omega, hyl, hyd, hat2, hblk2⟩, hO3, HB.out.grown hO3 HNE.out⟩
   have eq1 : IntKind.u64.wrap ((t : Int) - 1) = ((t - 1 : Nat) : Int) := u64_sub (a := t) (b := 1) (by omega) ht
   clear hv hv2 hz1 hz2 hyl hblk2 hown2 hat2
   go_wp2_with fail
   go_roundw
   case rel => exact HR.out
   case measure => simp [intOf]; omega
  | false =>
   have HE : Hid (OutPost w g off cs Y (.returned (.int .u64 (t : Int))) wr) := by
    obtain ⟨h1, h2⟩ := hat
    have h3 : val ((cs.drop off).take (Y.length + 1)) = val Y * t + val zs' := by rw [← h1, mC t]; omega
    refine ⟨?_, ⟨zs', hzl, hzd, ?_, hblk⟩, hown⟩
    ·rw [h3, Nat.mul_add_div HY.out, Nat.div_eq_of_lt h2, Nat.add_zero]
    ·rw [h3, Nat.mul_add_mod, Nat.mod_eq_of_lt h2]
   clear hat hblk hzl hown hnum
   go_wp2_with fail
   go_ret
   exact HE.out
