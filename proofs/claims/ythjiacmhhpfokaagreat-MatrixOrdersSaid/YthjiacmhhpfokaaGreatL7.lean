/- Part 7 of the proof: DivA. -/
import Derived.Test.YthjiacmhhpfokaaGreatL6
namespace Go.Proofs.YthjiacmhhpfokaaGreat
open Nat renaming mul_add → mA, mul_comm → mC, mul_assoc → mS
section
open Lib renaming hid → lh
set_option maxHeartbeats 1000000
open Go.RowKit
theorem rep_set {n k q : Nat} {qs : List Nat} (h : k < n) : (List.replicate (n - k) 0 ++ qs).set (n - 1 - k) q = List.replicate (n - (k + 1)) 0 ++ (q :: qs) := by
 rw [show n - k = (n - (k + 1)) + 1 by omega, List.replicate_succ', List.append_assoc, List.set_append_right _ _ (by rw [List.length_replicate]; omega), List.length_replicate,
  show n - 1 - k - (n - (k + 1)) = 0 by omega]
 rfl
theorem divd_round {x r b q r' v Q : Nat} (hv : v = Q * b + r) (hq : q * b + r' = r * B64 + x) : x + B64 * v = (q + B64 * Q) * b + r' := by
 rw [hv, mA, Nat.add_mul, mS, mC B64 r]
 omega
theorem div_digit_lt {r x b : Nat} (hr : r < b) (hx : x < B64) : (r * B64 + x) / b < B64 := by
 refine Nat.div_lt_of_lt_mul ?_
 have : (r + 1) * B64 ≤ b * B64 := Nat.mul_le_mul_right _ hr
 rw [Nat.succ_mul] at this
 omega
structure DivdRel (w wr : World) (g : Nat) (X : List Nat) (b : Nat) (cy i : Value) : Prop where
 ex : ∃ (k r : Nat) (qs : List Nat), k ≤ X.length ∧ i = .int .i64 k ∧ cy = .int .u64 r ∧ r < b ∧ qs.length = k ∧ Digs qs ∧ val (X.drop (X.length - k)) = val qs * b + r ∧ Blk wr g (List.replicate (X.length - k) 0 ++ qs)
 own : w.grownBy wr (some g)
structure DivdPost (w : World) (g : Nat) (X : List Nat) (b : Nat) (e : Ending) (w' : World) : Prop where
 ret : e = .returned (.int .u64 ((val X % b : Nat) : Int))
 ex : ∃ qs : List Nat, qs.length = X.length ∧ Digs qs ∧ val qs = val X / b ∧ Blk w' g qs
 own : w.grownBy w' (some g)
theorem divd_step {w wr : World} {g k r b : Nat} {X qs : List Nat} (hX : Digs X) (hlt : k < X.length) (hr : r < b) (hqd : Digs qs) (hql : qs.length = k) (hv : val (X.drop (X.length - k)) = val qs * b + r)
  (hblk : Blk wr g (List.replicate (X.length - k) 0 ++ qs)) (hO : w.grownBy wr (some g)) (n : Nat) :
  DivdRel w ((wr.setCell ⟨g, X.length - 1 - k, none⟩ (.int .u64 (((r * B64 + dg X (X.length - 1 - k)) / b : Nat) : Int))).drewN n) g X b (.int .u64 (((r * B64 + dg X (X.length - 1 - k)) % b : Nat) : Int)) (.int .i64 ((k : Int) + 1)) := by
 refine ⟨⟨k + 1, (r * B64 + dg X (X.length - 1 - k)) % b, ((r * B64 + dg X (X.length - 1 - k)) / b) :: qs, by omega, by simp, rfl, Nat.mod_lt _ (by omega), by simp [hql], Digs.cons (div_digit_lt hr (dg_lt hX _)) hqd, ?_, ?_⟩, ?_⟩
 ·rw [show X.length - (k + 1) = X.length - 1 - k by omega, drop_pred (by omega), val_cons, val_cons, show X.length - 1 - k + 1 = X.length - k by omega]
  exact divd_round hv (Nat.div_add_mod' _ _)
 ·have h := hblk.set_ (X.length - 1 - k) ((r * B64 + dg X (X.length - 1 - k)) / b)
  rw [rep_set hlt] at h
  exact h.drewN n
 ·exact grown_drewN (grown_set hO _ _) n
theorem divd_any (w : World) (g capQ c b : Nat) (X : List Nat) (A : Option Addr) (hblk : Blk w g (List.replicate X.length 0)) (hA : Num w A X) (hne : 0 < X.length → ∀ p, A = some p → p.block ≠ g)
  (hb : 0 < b) (hb64 : b < B64) (hn : X.length ≤ 1099511627776) :
  Calls Tryz.prog 242 #[.slice (some ⟨g, 0, none⟩) X.length capQ, .slice A X.length c, .int .u64 b] w (DivdPost w g X b) := by
 have HA := lh hA
 have HBLK0 := lh hblk
 have HNE := lh hne
 have HB := lh hb
 have HB64 := lh hb64
 clear hA hblk hne hb hb64
 go_enter Tryz.func242, Tryz.ntmps242
 go_wp2_with fail
 go_loopw [7, 12] (fun cy i wr => DivdRel w wr g X b cy i) (fun _ i _ => X.length - (intOf i).toNat)
 case atStart =>
  exact ⟨⟨0, 0, [], Nat.zero_le _, rfl, rfl, HB.out, rfl, Digs.nil, by simp [val_nil], by rw [Nat.sub_zero, List.append_nil]; exact HBLK0.out⟩, World.grownBy.refl _ _⟩
 case round =>
  obtain ⟨⟨k, r, qs, hk, rfl, rfl, hr, hql, hqd, hv, hblk⟩, hO⟩ := hrel
  by_cases hlt : k < X.length
  ·obtain ⟨b1, o1, rfl, hb1, hc1⟩ := HA.out.at_ (by omega)
   have h1 := (World.cell?_of_block (hO.block b1 hb1 (by intro e; injection e with e; exact HNE.out (by omega) ⟨b1, o1, none⟩ rfl e))).trans (hc1 (X.length - 1 - k) (by omega))
   have hlt' : (k : Int) < (X.length : Int) := by omega
   have ho := hblk.cell (i := X.length - 1 - k) (by rw [List.length_append, List.length_replicate]; omega)
   have hf := hblk.frozen (X.length - 1 - k)
   have HD := lh (div64_any r (dg X (X.length - 1 - k)) b hr (dg_lt HA.out.1 _) HB64.out wr)
   have HS := lh (divd_step HA.out.1 hlt hr hqd hql hv hblk hO)
   clear hc1 hblk hv hql hO
   go_wp2_with fail
   refine HD.out.mono ?_
   rintro e w' ⟨rfl, q, rfl⟩
   go_wp2_with fail
   go_roundw
   case rel => exact HS.out q
   case measure => simp [intOf]; omega
  ·have hkn : k = X.length := by omega
   have HE : Hid (DivdPost w g X b (.returned (.int .u64 (r : Int))) wr) := by
    subst hkn
    rw [Nat.sub_self, List.drop_zero] at hv
    rw [Nat.sub_self, List.replicate_zero, List.nil_append] at hblk
    refine ⟨?_, ⟨qs, hql, hqd, ?_, hblk⟩, hO⟩
    ·rw [hv, mC, Nat.mul_add_mod, Nat.mod_eq_of_lt hr]
    ·rw [hv, mC, Nat.mul_add_div HB.out, Nat.div_eq_of_lt hr, Nat.add_zero]
   clear hblk hv hql hkn hO
   go_wp2
   go_ret
   exact HE.out
structure RestRel (w wr : World) (X : List Nat) (b : Nat) (cy i : Value) : Prop where
 ex : ∃ (k r Q : Nat), k ≤ X.length ∧ i = .int .i64 k ∧ cy = .int .u64 r ∧ r < b ∧ val (X.drop (X.length - k)) = Q * b + r
 drew : ∃ n, wr = w.drewN n
theorem rest_any (w : World) (c b : Nat) (X : List Nat) (A : Option Addr) (hA : Num w A X) (hb : 0 < b) (hb64 : b < B64) (hn : X.length ≤ 1099511627776) :
  Calls Tryz.prog 219 #[.slice A X.length c, .int .u64 b] w fun e w' => e = .returned (.int .u64 ((val X % b : Nat) : Int)) ∧ ∃ n, w' = w.drewN n := by
 have HA := lh hA
 have HB := lh hb
 have HB64 := lh hb64
 clear hA hb hb64
 go_enter Tryz.func219, Tryz.ntmps219
 go_wp2_with fail
 go_loopw [5, 9] (fun cy i wr => RestRel w wr X b cy i) (fun _ i _ => X.length - (intOf i).toNat)
 case atStart =>
  exact ⟨⟨0, 0, 0, Nat.zero_le _, rfl, rfl, HB.out, by simp [val_nil]⟩, 0, rfl⟩
 case round =>
  obtain ⟨⟨k, r, Q, hk, rfl, rfl, hr, hv⟩, n, rfl⟩ := hrel
  by_cases hlt : k < X.length
  ·obtain ⟨b1, o1, rfl, hb1, hc1⟩ := HA.out.at_ (by omega)
   have h1 := hc1 (X.length - 1 - k) (by omega)
   have hlt' : (k : Int) < (X.length : Int) := by omega
   have HD := lh (div64_any r (dg X (X.length - 1 - k)) b hr (dg_lt HA.out.1 _) HB64.out (w.drewN n))
   have HS : Hid (∀ m, RestRel w ((w.drewN n).drewN m) X b (.int .u64 (((r * B64 + dg X (X.length - 1 - k)) % b : Nat) : Int)) (.int .i64 ((k : Int) + 1))) := by
    intro m
    refine ⟨⟨k + 1, (r * B64 + dg X (X.length - 1 - k)) % b, ((r * B64 + dg X (X.length - 1 - k)) / b) + B64 * Q, by omega, by simp, rfl, Nat.mod_lt _ HB.out, ?_⟩, n + m, by rw [World.drewN_drewN]⟩
    rw [show X.length - (k + 1) = X.length - 1 - k by omega, drop_pred (by omega), val_cons, show X.length - 1 - k + 1 = X.length - k by omega]
    exact divd_round hv (Nat.div_add_mod' _ _)
   clear hc1 hv
   go_wp2_with fail
   refine HD.out.mono ?_
   rintro e w' ⟨rfl, q, rfl⟩
   go_wp2_with fail
   go_roundw
   case rel =>
    have h := HS.out q
    rw [World.drewN_drewN] at h
    exact h
   case measure => simp [intOf]; omega
  ·have hkn : k = X.length := by omega
   have HE : Hid (val X % b = r) := by
    subst hkn
    rw [Nat.sub_self, List.drop_zero] at hv
    show _ = _
    rw [hv, mC, Nat.mul_add_mod, Nat.mod_eq_of_lt hr]
   clear hv hkn
   go_wp2
   go_ret
   rw [HE.out]
   exact ⟨rfl, n, rfl⟩
structure TakeRel (w wr : World) (g off : Nat) (cs Y : List Nat) (x : Nat) (cy bo i : Value) : Prop where
 ex : ∃ (k c b : Nat) (zs : List Nat), k ≤ Y.length ∧ i = .int .i64 k ∧ cy = .int .u64 c ∧ bo = .int .u64 b ∧ c < B64 ∧ b ≤ 1 ∧ zs.length = k ∧ Digs zs ∧
  val zs + val (Y.take k) * x = val ((cs.drop off).take k) + B64 ^ k * (c + b) ∧ Blk wr g (mid cs off zs)
 only : Only g w wr
structure TakePost (w : World) (g off : Nat) (cs Y : List Nat) (x : Nat) (e : Ending) (w' : World) : Prop where
 ex : ∃ (zs : List Nat) (b : Nat), b ≤ 1 ∧ e = .returned (.bool (b != 0)) ∧ zs.length = Y.length + 1 ∧ Digs zs ∧ val zs + val Y * x = val ((cs.drop off).take (Y.length + 1)) + B64 ^ (Y.length + 1) * b ∧ Blk w' g (mid cs off zs)
 only : Only g w w'
theorem take_round {v t s p c b y x sk low c' l b' : Nat} (hv : v + t * x = s + p * (c + b)) (h1 : low + B64 * c' = y * x + c) (h2 : l + low + b = sk + B64 * b') :
  v + p * l + (t + p * y) * x = s + p * sk + p * B64 * (c' + b') := by
 have e1 : p * l + p * low + p * b = p * sk + p * (B64 * b') := by rw [← mA, ← mA, h2, mA]
 have e2 : p * low + p * (B64 * c') = p * (y * x) + p * c := by rw [← mA, h1, mA]
 rw [Nat.add_mul, mS p y x, mS p B64, mA B64, mA p (B64 * c')]
 rw [mA] at hv
 omega
theorem take_step {w wr : World} {g off : Nat} {cs Y : List Nat} {x k c b : Nat} {zs : List Nat} (hlt : k < Y.length) (hoff : off + Y.length < cs.length) (hcs : Digs cs) (hY : Digs Y) (hx : x < B64)
  (hc : c < B64) (hb : b ≤ 1) (hzl : zs.length = k) (hzd : Digs zs) (hv : val zs + val (Y.take k) * x = val ((cs.drop off).take k) + B64 ^ k * (c + b)) (hblk : Blk wr g (mid cs off zs)) (hO : Only g w wr) :
  TakeRel w (wr.setCell ⟨g, off + k, none⟩ (.int .u64 ((slo (dg cs (off + k)) (lo (dg Y k * x + c)) b : Nat) : Int))) g off cs Y x
   (.int .u64 ((hi (dg Y k * x + c) : Nat) : Int)) (.int .u64 ((sbo (dg cs (off + k)) (lo (dg Y k * x + c)) b : Nat) : Int)) (.int .i64 ((k : Int) + 1)) := by
 refine ⟨⟨k + 1, _, _, zs ++ [slo (dg cs (off + k)) (lo (dg Y k * x + c)) b], by omega, by simp, rfl, rfl, hi_prod_lt (dg_lt hY k) hx hc, sbo_le _ _ _, by simp [hzl], hzd.snoc (slo_lt _ _ _), ?_, ?_⟩, hO.set _ _⟩
 ·rw [val_take_dg, val_take_dg, val_snoc, Nat.pow_succ, hzl, dg_drop]
  exact take_round hv (lo_hi _) (slo_sbo (dg_lt hcs _) (lo_lt _) hb)
 ·have h := hblk.set_ (off + k) (slo (dg cs (off + k)) (lo (dg Y k * x + c)) b)
  have hs := mid_set (cs := cs) (zs := zs) (off := off) (by omega) (slo (dg cs (off + k)) (lo (dg Y k * x + c)) b)
  rw [hzl] at hs
  rwa [hs] at h
theorem take_end {w wr : World} {g off : Nat} {cs Y : List Nat} {x c b : Nat} {zs : List Nat} (hoff : off + Y.length < cs.length) (hcs : Digs cs)
  (hc : c < B64) (hb : b ≤ 1) (hzl : zs.length = Y.length) (hzd : Digs zs) (hv : val zs + val Y * x = val ((cs.drop off).take Y.length) + B64 ^ Y.length * (c + b)) (hblk : Blk wr g (mid cs off zs)) (hO : Only g w wr) :
  TakePost w g off cs Y x (.returned (.bool (sbo (dg cs (off + Y.length)) c b != 0))) (wr.setCell ⟨g, off + Y.length, none⟩ (.int .u64 ((slo (dg cs (off + Y.length)) c b : Nat) : Int))) := by
 refine ⟨⟨zs ++ [slo (dg cs (off + Y.length)) c b], _, sbo_le _ _ _, rfl, by simp [hzl], hzd.snoc (slo_lt _ _ _), ?_, ?_⟩, hO.set _ _⟩
 ·rw [val_take_dg, val_snoc, hzl, dg_drop, Nat.pow_succ]
  have h := slo_sbo (x := dg cs (off + Y.length)) (y := c) (b := b) (dg_lt hcs _) hc hb
  generalize B64 ^ Y.length = p at *
  have e1 : p * slo (dg cs (off + Y.length)) c b + p * c + p * b = p * dg cs (off + Y.length) + p * (B64 * sbo (dg cs (off + Y.length)) c b) := by
   rw [← mA, ← mA, h, mA]
  rw [mA] at hv
  rw [mS]
  omega
 ·have h := hblk.set_ (off + Y.length) (slo (dg cs (off + Y.length)) c b)
  have hs := mid_set (cs := cs) (zs := zs) (off := off) (by omega) (slo (dg cs (off + Y.length)) c b)
  rw [hzl] at hs
  rwa [hs] at h
theorem bne_cast (b : Nat) : (((b : Nat) : Int) != 0) = (b != 0) := by
 cases b with
 | zero => rfl
 | succ n =>
  have h1 : (((n + 1 : Nat) : Int) != 0) = true := by rw [bne_iff_ne]; omega
  have h2 : ((n + 1) != 0) = true := by rw [bne_iff_ne]; omega
  rw [h1, h2]
theorem take_any (w : World) (g off capP d x : Nat) (cs Y : List Nat) (B : Option Addr) (hblk : Blk w g cs) (hcs : Digs cs) (hoff : off + Y.length < cs.length) (hB : Num w B Y)
  (hne : 0 < Y.length → ∀ p, B = some p → p.block ≠ g) (hx : x < B64) (hn : Y.length ≤ 1099511627776) :
  Calls Tryz.prog 257 #[.slice (some ⟨g, off, none⟩) (Y.length + 1) capP, .slice B Y.length d, .int .u64 x] w (TakePost w g off cs Y x) := by
 have HB := lh hB
 have HBLK0 := lh hblk
 have HNE := lh hne
 have HX := lh hx
 clear hB hblk hne hx
 go_enter Tryz.func257, Tryz.ntmps257
 go_wp2_with fail
 go_loopw [7, 8, 14] (fun cy bo i wr => TakeRel w wr g off cs Y x cy bo i) (fun _ _ i _ => Y.length - (intOf i).toNat)
 case atStart =>
  exact ⟨⟨0, 0, 0, [], Nat.zero_le _, rfl, rfl, rfl, B64_pos, Nat.zero_le _, rfl, Digs.nil, by simp [val_nil], by rw [mid_nil]; exact HBLK0.out⟩, Only.refl _ _⟩
 case round =>
  obtain ⟨⟨k, c, b, zs, hk, rfl, rfl, rfl, hc, hb, hzl, hzd, hv, hblk⟩, hO⟩ := hrel
  by_cases hlt : k < Y.length
  ·obtain ⟨b1, o1, rfl, hb1, hc1⟩ := HB.out.at_ (by omega)
   have h1 := (hO.cell (p := ⟨b1, o1 + k, none⟩) (show b1 ≠ g from HNE.out (by omega) ⟨b1, o1, none⟩ rfl)).trans (hc1 k hlt)
   have hlt' : (k : Int) < (Y.length : Int) := by omega
   have ho : (wr.cell? ⟨g, off + k, none⟩) = some (.int .u64 ((dg cs (off + k) : Nat) : Int)) := by
    rw [hblk.cell (by rw [mid_length (by omega)]; omega), dg_mid_above (by omega) (by omega)]
   have hf : wr.frozen? ⟨g, off + k, none⟩ = false := hblk.frozen _
   have hsub := run_sub (dg cs (off + k)) (lo (dg Y k * x + c)) b hb
   have HP := lh (product_any (dg Y k) x c (dg_lt HB.out.1 k) HX.out hc wr)
   have HS := lh (take_step hlt hoff hcs HB.out.1 HX.out hc hb hzl hzd hv hblk hO)
   clear hc1 hblk hv hzl
   go_wp2_with fail
   refine HP.out.mono ?_
   rintro e w' ⟨rfl, rfl⟩
   go_wp2_with fail
   go_roundw
   case rel => exact HS.out
   case measure => simp [intOf]; omega
  ·have hkn : k = Y.length := by omega
   have ho : (wr.cell? ⟨g, off + Y.length, none⟩) = some (.int .u64 ((dg cs (off + Y.length) : Nat) : Int)) := by
    rw [hblk.cell (by rw [mid_length (by omega)]; omega), dg_mid_above (by omega) (by omega)]
   have hf : wr.frozen? ⟨g, off + Y.length, none⟩ = false := hblk.frozen _
   have hsub := run_sub (dg cs (off + Y.length)) c b hb
   have HE : Hid (TakePost w g off cs Y x (.returned (.bool (sbo (dg cs (off + Y.length)) c b != 0))) (wr.setCell ⟨g, off + Y.length, none⟩ (.int .u64 ((slo (dg cs (off + Y.length)) c b : Nat) : Int)))) := by
    subst hkn
    rw [List.take_length] at hv
    exact take_end hoff hcs hc hb hzl hzd hv hblk hO
   have HN := lh (bne_cast (sbo (dg cs (off + Y.length)) c b))
   clear hblk hv hzl
   have hkn' := lh hkn
   clear hkn
   go_wp2_with fail
   go_ret
   rw [HN.out]
   exact HE.out
