/- Part 16 of the proof: Leading, Leading2, LeapMath, Leap2, Leap3. -/
import Derived.Test.YthjiacmhhpfokaaGreatL15
namespace Go.Proofs.YthjiacmhhpfokaaGreat
open Lib renaming hid → lh
open Go.Proofs.Tryz renaming prog → tz
open Nat renaming mul_add → mA, mul_assoc → mS
section
set_option maxHeartbeats 2000000
open Go.RowKit
theorem turned_any (w : World) (t l : Nat) :
  Calls tz 240 #[.agg #[.int .u64 (t : Int), .int .u64 (l : Int)]] w fun e w' => e = .returned (.agg #[.int .u64 (l : Int), .int .u64 (t : Int)]) ∧ Below w.heap.size w w' := by
 go_enter Tryz.func240, Tryz.ntmps240
 go_wp2
 refine bodyPost_ret (v := .agg #[.int .u64 (l : Int), .int .u64 (t : Int)]) (by simp [results, Tryz.results240, go_sem]) rfl ⟨rfl, ?_⟩
 exact ((Below.refl _ _).alloc (Nat.le_refl _) _).alloc (by simp) _
theorem quiet_left {P : Program} {f : FuncId} {args : Array Value} {w : World} {n : Nat} {v : Value}
  (h : Calls P f args (w.drewN n) fun e w' => e = .returned v ∧ w.drewN n = w') : Calls P f args (w.drewN n) fun e w'' => e = .returned v ∧ ∃ m, w'' = w.drewN m :=
 h.mono fun _ _ ⟨he, hm⟩ => ⟨he, n, hm.symm⟩
def ld (X : List Nat) (n s : Nat) : Nat := lo (dg X (n - 1) * 2 ^ s) + hi (dg X (n - 2) * 2 ^ s)
theorem ld_near {X : List Nat} {n s : Nat} (hX : Digs X) (hl : X.length ≤ n) (h2 : 2 ≤ n) (hs : s ≤ 64) (ht : dg X (n - 1) * 2 ^ s < B64) :
  ld X n s * (B64 ^ (n - 2) * 2 ^ (64 - s)) ≤ val X ∧ val X < ld X n s * (B64 ^ (n - 2) * 2 ^ (64 - s)) + B64 ^ (n - 2) * 2 ^ (64 - s) := by
 have h1 := val_take_dg X (n - 1)
 have h3 := val_take_dg X (n - 2)
 rw [show n - 1 + 1 = n by omega, List.take_of_length_le hl] at h1
 rw [show n - 2 + 1 = n - 1 by omega] at h3
 have h4 := val_lt (hX.take (n - 2))
 have h5 : B64 ^ (X.take (n - 2)).length ≤ B64 ^ (n - 2) := Nat.pow_le_pow_right B64_pos (by rw [List.length_take]; omega)
 have hp : B64 ^ (n - 1) = B64 ^ (n - 2) * B64 := by rw [← Nat.pow_succ]; congr 1; omega
 rw [h3, hp] at h1
 have hlo : lo (dg X (n - 1) * 2 ^ s) = dg X (n - 1) * 2 ^ s := lo_of_lt ht
 have hlh := lo_hi (dg X (n - 2) * 2 ^ s)
 have hll := lo_lt (dg X (n - 2) * 2 ^ s)
 unfold ld
 rw [hlo]
 generalize val (X.take (n - 2)) = L at *
 generalize dg X (n - 1) = a at *
 generalize dg X (n - 2) = b at *
 generalize B64 ^ (n - 2) = P at *
 have hsp := B64_split hs
 have hV : (b + B64 * a) * 2 ^ s = B64 * (a * 2 ^ s + hi (b * 2 ^ s)) + lo (b * 2 ^ s) := by
  rw [Nat.add_mul, mA, mS]
  omega
 generalize hx : a * 2 ^ s + hi (b * 2 ^ s) = x at *
 have hq : 0 < 2 ^ s := Nat.pow_pos (by omega)
 have k1 : x * 2 ^ (64 - s) ≤ b + B64 * a := by
  refine Nat.le_of_mul_le_mul_right (c := 2 ^ s) ?_ hq
  rw [mS, ← hsp, hV, Nat.mul_comm x]
  omega
 have k2 : b + B64 * a < x * 2 ^ (64 - s) + 2 ^ (64 - s) := by
  refine Nat.lt_of_mul_lt_mul_right (a := 2 ^ s) ?_
  have e5 : (x * 2 ^ (64 - s) + 2 ^ (64 - s)) * 2 ^ s = B64 * x + B64 := by rw [Nat.add_mul, mS, ← hsp, Nat.mul_comm x]
  rw [e5, hV]
  omega
 have e1 : val X = L + P * (b + B64 * a) := by rw [h1, mA, mS]; omega
 have e2 : x * (P * 2 ^ (64 - s)) = P * (x * 2 ^ (64 - s)) := Nat.mul_left_comm _ _ _
 have e3 : P * (x * 2 ^ (64 - s)) ≤ P * (b + B64 * a) := Nat.mul_le_mul_left _ k1
 have e4 : P * (b + B64 * a) + P ≤ P * (x * 2 ^ (64 - s) + 2 ^ (64 - s)) := by
  rw [← Nat.mul_succ]; exact Nat.mul_le_mul_left _ k2
 rw [mA P (x * 2 ^ (64 - s))] at e4
 rw [e1, e2]
 generalize P * (b + B64 * a) = v at *
 generalize P * (x * 2 ^ (64 - s)) = v' at *
 refine ⟨?_, ?_⟩ <;> omega
theorem ld_lead {X Y : List Nat} {n s : Nat} (hX : Digs X) (hY : Digs Y) (hxl : X.length = n) (hyl : Y.length ≤ n) (h2 : 2 ≤ n) (hs : s ≤ 63) (ht : dg X (n - 1) * 2 ^ s < B64) (hle : val Y ≤ val X) :
  Lead (val X) (val Y) (ld X n s) (ld Y n s) (B64 ^ (n - 2) * 2 ^ (64 - s)) := by
 have hty : dg Y (n - 1) ≤ dg X (n - 1) := by
  have h1 := val_take_dg X (n - 1)
  have h3 := val_take_dg Y (n - 1)
  rw [show n - 1 + 1 = n by omega, List.take_of_length_le (Nat.le_of_eq hxl)] at h1
  rw [show n - 1 + 1 = n by omega, List.take_of_length_le hyl] at h3
  have h4 := val_lt (hX.take (n - 1))
  have h5 : B64 ^ (X.take (n - 1)).length ≤ B64 ^ (n - 1) := Nat.pow_le_pow_right B64_pos (by rw [List.length_take]; omega)
  refine Nat.le_of_lt_succ (Nat.lt_of_mul_lt_mul_left (a := B64 ^ (n - 1)) ?_)
  rw [Nat.mul_succ]
  omega
 have hty2 : dg Y (n - 1) * 2 ^ s < B64 := Nat.lt_of_le_of_lt (Nat.mul_le_mul_right _ hty) ht
 obtain ⟨a1, a2⟩ := ld_near hX (Nat.le_of_eq hxl) h2 (by omega) ht
 obtain ⟨b1, b2⟩ := ld_near hY hyl h2 (by omega) hty2
 have hH : 0 < B64 ^ (n - 2) * 2 ^ (64 - s) := Nat.mul_pos (pow_pos' _) (Nat.pow_pos (by omega))
 refine ⟨a1, a2, b1, b2, hH, ?_, ?_, hle⟩
 ·refine Nat.le_of_lt_succ (Nat.lt_of_mul_lt_mul_right (a := B64 ^ (n - 2) * 2 ^ (64 - s)) ?_)
  rw [Nat.succ_mul]
  omega
 ·have h1 := raise_digit_lt hX (show s ≤ 64 by omega) (n - 1)
  rw [show rc X s (n - 1) = hi (dg X (n - 2) * 2 ^ s) by unfold rc; rw [if_neg (by omega)]; rfl] at h1
  exact h1
theorem at_any (w : World) (p pn ps n s c : Nat) (A : Option Addr) (X : List Nat) (hA : Num w A X) (hX : X.length ≤ 1099511627776) (hn : n ≤ 1099511627776) (h2 : 2 ≤ n) (hs : s ≤ 63)
  (hp : w.cell? ⟨p, 0, none⟩ = some (.slice A X.length c)) (hpn : w.cell? ⟨pn, 0, none⟩ = some (.int .i64 (n : Int))) (hps : w.cell? ⟨ps, 0, none⟩ = some (.int .u64 (s : Int))) :
  Calls tz 250 #[.func (.func 221) #[] #[.pointer (some ⟨p, 0, none⟩)], .pointer (some ⟨pn, 0, none⟩), .pointer (some ⟨ps, 0, none⟩)] w
   fun e w' => e = .returned (.int .u64 ((ld X n s : Nat) : Int)) ∧ ∃ k, w' = w.drewN k := by
 have hs64 : s ≤ 64 := by omega
 have hw64 : IntKind.u64.wrap (64 - (s : Int)) = 64 - (s : Int) := by rw [IntKind.wrap_u64]; omega
 have hw1 : IntKind.i64.wrap ((n : Int) - 1) = (n : Int) - 1 := IntWalk.i64_in _ (by omega)
 have hw2 : IntKind.i64.wrap ((n : Int) - 2) = (n : Int) - 2 := IntWalk.i64_in _ (by omega)
 have H1 := Lib.hid (fun W : Nat => digit_z (w.drewN W) p A c (n - 1) ((n : Int) - 1) (by omega) X (hA.drewN W) hX hp)
 have H2 := Lib.hid (fun W : Nat => digit_z (w.drewN W) p A c (n - 2) ((n : Int) - 2) (by omega) X (hA.drewN W) hX hp)
 have HU : Hid (bits BinOp.or IntKind.u64 (IntKind.u64.wrap (((dg X (n - 1) : Nat) : Int) * 2 ^ s)) (((dg X (n - 2) : Nat) : Int) / 2 ^ (64 - s)) = ((ld X n s : Nat) : Int)) := raise_or (dg_lt hA.1 _) hs64
 clear hA hp
 go_enter Tryz.func250, Tryz.ntmps250
 go_wp2_with fail
 go_quiet ((go_at_call 221; first | with_reducible exact quiet_left (H1.out _) | with_reducible exact quiet_left (H2.out _)))
 go_wp2_with fail
 go_ret
 rw [HU.out]
 exact ⟨rfl, _, rfl⟩
end

section
open Go.RowKit
def LeadPost (w : World) (x y : Nat) (e : Ending) (w' : World) : Prop := e = .returned (.tuple #[.int .u64 (x : Int), .int .u64 (y : Int)]) ∧ Below w.heap.size w w'
theorem cells3 (w : World) (v1 v2 v3 : Value) (t1 t2 t3 : TypeId) :
  (((w.alloc (.cells #[v1] t1)).alloc (.cells #[v2] t2)).alloc (.cells #[v3] t3)).cell? ⟨w.heap.size, 0, none⟩ = some v1 ∧
  (((w.alloc (.cells #[v1] t1)).alloc (.cells #[v2] t2)).alloc (.cells #[v3] t3)).cell? ⟨w.heap.size + 1, 0, none⟩ = some v2 ∧
  (((w.alloc (.cells #[v1] t1)).alloc (.cells #[v2] t2)).alloc (.cells #[v3] t3)).cell? ⟨w.heap.size + 1 + 1, 0, none⟩ = some v3 := by
 have h3 := cell_of_one (heap_alloc_new ((w.alloc (.cells #[v1] t1)).alloc (.cells #[v2] t2)) (.cells #[v3] t3))
 have h2 := cell_of_one (heap_alloc_new (w.alloc (.cells #[v1] t1)) (.cells #[v2] t2))
 have h1 := cell_of_one (heap_alloc_new w (.cells #[v1] t1))
 have e1 : (w.alloc (.cells #[v1] t1)).heap.size = w.heap.size + 1 := by simp
 have e2 : ((w.alloc (.cells #[v1] t1)).alloc (.cells #[v2] t2)).heap.size = w.heap.size + 1 + 1 := by simp
 rw [e2] at h3
 rw [e1] at h2
 refine ⟨?_, ?_, h3⟩
 ·exact (World.cell?_alloc_lt _ _ _ (by simp; omega)).trans ((World.cell?_alloc_lt _ _ _ (by simp)).trans h1)
 ·exact (World.cell?_alloc_lt _ _ _ (by simp)).trans h2
set_option maxHeartbeats 2000000 in
theorem leading_any (w : World) (A B : Option Addr) (c d n s : Nat) (X Y : List Nat) (hA : Num w A X) (hB : Num w B Y) (hn : X.length = n) (hX : n ≤ 1099511627776) (hY : Y.length ≤ 1099511627776) (h2 : 2 ≤ n) (hs : s + blen (dg X (n - 1)) = 64) (hs63 : s ≤ 63) :
  Calls tz 237 #[.slice A n c, .slice B Y.length d] w (LeadPost w (ld X n s) (ld Y n s)) := by
 subst hn
 obtain ⟨b1, o1, rfl, hb1, hc⟩ := hA.at_ (by omega)
 have ht := hc (X.length - 1) (by omega)
 have htd := dg_lt hA.1 (X.length - 1)
 have hsb : (64 : Int) - ((blen (dg X (X.length - 1)) : Nat) : Int) = (s : Int) := by omega
 have HLZ := lh (fun W : World => lz64_any _ htd W)
 rw [hsb] at HLZ
 have HA := lh hA
 have HB := lh hB
 have ht2 : (w.alloc (.cells #[.int .i64 ((X.length : Nat) : Int)] 3)).cell? ⟨b1, o1 + (X.length - 1), none⟩ = some (.int .u64 ((dg X (X.length - 1) : Nat) : Int)) := (World.cell?_alloc_lt w _ _ hb1).trans ht
 clear hA hB hc hs hsb htd
 go_enter Tryz.func237, Tryz.ntmps237
 go_wp2_with fail
 refine (HLZ.out _).mono ?_
 rintro e w' ⟨rfl, rfl⟩
 go_wp2_with fail
 refine (digitOf_any _ _ _ _).mono ?_
 rintro e w' ⟨rfl, rfl⟩
 go_wp2_with fail
 obtain ⟨k1, k2, k3⟩ := cells3 w (.int .i64 ((X.length : Nat) : Int)) (.int .u64 (s : Int)) (.slice (some ⟨b1, o1, none⟩) X.length c) 3 205 23
 have K1 := lh k1
 have K2 := lh k2
 have hat := at_any _ (w.heap.size + 1 + 1) w.heap.size (w.heap.size + 1) X.length s c (some ⟨b1, o1, none⟩) X (((HA.out.alloc _).alloc _).alloc _) (by omega) hX h2 hs63 k3 k1 k2
 refine hat.mono ?_
 clear hat k1 k2 k3
 rintro e w' ⟨rfl, q, rfl⟩
 have hsz : ((((w.alloc (.cells #[.int .i64 ((X.length : Nat) : Int)] 3)).alloc (.cells #[.int .u64 (s : Int)] 205)).alloc (.cells #[.slice (some ⟨b1, o1, none⟩) X.length c] 23)).drewN q).heap.size = w.heap.size + 3 := by simp [World.drewN]
 have HSZ := lh hsz
 clear hsz
 go_wp2_with fail
 refine (digitOf_any _ _ _ _).mono ?_
 rintro e w' ⟨rfl, rfl⟩
 go_wp2_with fail
 have lt1 : w.heap.size < ((((w.alloc (.cells #[.int .i64 ((X.length : Nat) : Int)] 3)).alloc (.cells #[.int .u64 (s : Int)] 205)).alloc (.cells #[.slice (some ⟨b1, o1, none⟩) X.length c] 23)).drewN q).heap.size := by rw [HSZ.out]; omega
 have lt2 : w.heap.size + 1 < ((((w.alloc (.cells #[.int .i64 ((X.length : Nat) : Int)] 3)).alloc (.cells #[.int .u64 (s : Int)] 205)).alloc (.cells #[.slice (some ⟨b1, o1, none⟩) X.length c] 23)).drewN q).heap.size := by rw [HSZ.out]; omega
 have k4 := cell_of_one (heap_alloc_new ((((w.alloc (.cells #[.int .i64 ((X.length : Nat) : Int)] 3)).alloc (.cells #[.int .u64 (s : Int)] 205)).alloc (.cells #[.slice (some ⟨b1, o1, none⟩) X.length c] 23)).drewN q) (.cells #[.slice B Y.length d] 23))
 rw [HSZ.out] at k4
 have hat := at_any _ (w.heap.size + 1 + 1 + 1) w.heap.size (w.heap.size + 1) X.length s d B Y (((((HB.out.alloc _).alloc _).alloc _).drewN q).alloc _) hY hX h2 hs63 k4 ((World.cell?_alloc_lt _ _ _ lt1).trans K1.out) ((World.cell?_alloc_lt _ _ _ lt2).trans K2.out)
 refine hat.mono ?_
 clear hat k4 lt1 lt2
 rintro e w' ⟨rfl, q2, rfl⟩
 go_wp2_with fail
 go_ret2
 refine ⟨rfl, below_drewN ?_ q2⟩
 exact (below_drewN ((((Below.refl _ _).alloc (Nat.le_refl _) _).alloc (by simp) _).alloc (by simp; omega) _) q).alloc (by rw [HSZ.out]; omega) _
end

section
open Go.RowKit
structure Blend (A B : List Nat) (t l k : Nat) (zs : List Nat) (o u b : Nat) : Prop where
 len : zs.length = k
 digs : Digs zs
 ho : o < B64
 hu : u < B64
 hb : b ≤ 1
 eq : val zs + val (B.take k) * l + B64 ^ k * o = val (A.take k) * t + B64 ^ k * (u + b)
theorem Blend.start (A B : List Nat) (t l : Nat) : Blend A B t l 0 [] 0 0 0 := ⟨rfl, Digs.nil, B64_pos, B64_pos, Nat.zero_le _, by simp [val_nil]⟩
theorem blend_round {v a c t l p o u b x y m o' s u' d b' : Nat} (h : v + c * l + p * o = a * t + p * (u + b)) (h1 : m + B64 * o' = x * t + o) (h2 : s + B64 * u' = y * l + u) (h3 : d + s + b = m + B64 * b') :
  v + p * d + (c + p * y) * l + p * B64 * o' = (a + p * x) * t + p * B64 * (u' + b') := by
 have e1 : p * m + p * (B64 * o') = p * (x * t) + p * o := by rw [← mA, h1, mA]
 have e2 : p * s + p * (B64 * u') = p * (y * l) + p * u := by rw [← mA, h2, mA]
 have e3 : p * d + p * s + p * b = p * m + p * (B64 * b') := by rw [← mA, ← mA, h3, mA]
 rw [Nat.add_mul, Nat.add_mul, mS p y l, mS p x t, mS p B64, mS p B64, mA B64, mA p (B64 * u')]
 rw [mA] at h
 omega
theorem blend_step {A B : List Nat} {t l k : Nat} {zs : List Nat} {o u b : Nat} (h : Blend A B t l k zs o u b) (hA : Digs A) (hB : Digs B) (ht : t < B64) (hl : l < B64) :
  Blend A B t l (k + 1) (zs ++ [slo (lo (dg A k * t + o)) (lo (dg B k * l + u)) b]) (hi (dg A k * t + o)) (hi (dg B k * l + u)) (sbo (lo (dg A k * t + o)) (lo (dg B k * l + u)) b) := by
 refine ⟨by simp [h.len], h.digs.snoc (slo_lt _ _ _), hi_prod_lt (dg_lt hA k) ht h.ho, hi_prod_lt (dg_lt hB k) hl h.hu, sbo_le _ _ _, ?_⟩
 rw [val_take_dg, val_take_dg, val_snoc, Nat.pow_succ, h.len]
 exact blend_round h.eq (lo_hi _) (lo_hi _) (slo_sbo (lo_lt _) (lo_lt _) h.hb)
theorem blend_end {A B : List Nat} {t l n F x y : Nat} {zs : List Nat} {o u b : Nat} (h : Blend A B t l n zs o u b) (hF : val (B.take n) * l + F + B64 ^ n * x = val (A.take n) * t + B64 ^ n * y) (hlt : F < B64 ^ n) : val zs = F := by
 have hz : val zs < B64 ^ n := by have := val_lt h.digs; rwa [h.len] at this
 have e : val zs + B64 ^ n * (o + y) = F + B64 ^ n * (x + (u + b)) := by
  have := h.eq
  rw [mA, mA (B64 ^ n) x]
  omega
 have e2 := congrArg (· % B64 ^ n) e
 simp only [Nat.add_mul_mod_self_left, Nat.mod_eq_of_lt hz, Nat.mod_eq_of_lt hlt] at e2
 exact e2
end

section
open Go.RowKit
set_option maxHeartbeats 1000000 in
theorem turned_at (w : World) (t l : Nat) :
  Calls tz 240 #[.agg #[.int .u64 (t : Int), .int .u64 (l : Int)]] w fun e w' => e = .returned (.agg #[.int .u64 (l : Int), .int .u64 (t : Int)]) ∧
   w' = (w.alloc (.cells #[.int .u64 (t : Int), .int .u64 (l : Int)] 220)).alloc (.cells #[.int .u64 (l : Int), .int .u64 (t : Int)] 220) := by
 go_enter Tryz.func240, Tryz.ntmps240
 go_wp2
 exact bodyPost_ret (v := .agg #[.int .u64 (l : Int), .int .u64 (t : Int)]) (by simp [results, Tryz.results240, go_sem]) rfl ⟨rfl, rfl⟩
def Boxed (p t1 l1 t2 l2 : Nat) (W : World) : Prop :=
 W.cell? ⟨p, 0, none⟩ = some (.int .u64 (t1 : Int)) ∧ W.cell? ⟨p, 1, none⟩ = some (.int .u64 (l1 : Int)) ∧ W.cell? ⟨p + 1, 0, none⟩ = some (.int .u64 (t2 : Int)) ∧ W.cell? ⟨p + 1, 1, none⟩ = some (.int .u64 (l2 : Int))
theorem Boxed.alloc {p t1 l1 t2 l2 : Nat} {W : World} (o : Obj) (h : Boxed p t1 l1 t2 l2 W) : Boxed p t1 l1 t2 l2 (W.alloc o) := by
 obtain ⟨h1, h2, h3, h4⟩ := h
 refine ⟨?_, ?_, ?_, ?_⟩
 ·rw [World.cell?_alloc_some _ _ _ (by rw [h1]; rfl)]; exact h1
 ·rw [World.cell?_alloc_some _ _ _ (by rw [h2]; rfl)]; exact h2
 ·rw [World.cell?_alloc_some _ _ _ (by rw [h3]; rfl)]; exact h3
 ·rw [World.cell?_alloc_some _ _ _ (by rw [h4]; rfl)]; exact h4
theorem Boxed.drew {p t1 l1 t2 l2 : Nat} {W : World} (h : Boxed p t1 l1 t2 l2 W) : Boxed p t1 l1 t2 l2 W.drew := h
theorem Boxed.base (w : World) (t1 l1 t2 l2 : Nat) (T U : TypeId) : Boxed w.heap.size t1 l1 t2 l2 ((w.alloc (.cells #[.int .u64 (t1 : Int), .int .u64 (l1 : Int)] T)).alloc (.cells #[.int .u64 (t2 : Int), .int .u64 (l2 : Int)] U)) := by
 refine ⟨?_, ?_, ?_, ?_⟩ <;> simp [go_sem]
theorem Bl.alloc {w : World} {g t l o u b : Nat} (h : Bl w g t l o u b) (x : Obj) : Bl (w.alloc x) g t l o u b := by
 unfold Bl at h ⊢
 exact (Below.heap_alloc w x g (lt_of_block h)).trans h
theorem Bl.drew {w : World} {g t l o u b : Nat} (h : Bl w g t l o u b) : Bl w.drew g t l o u b := h
theorem Bl.new (w : World) (g t l : Nat) (hg : g = w.heap.size) : Bl (w.alloc (.cells #[.int .u64 (t : Int), .int .u64 (l : Int), .int .u64 0, .int .u64 0, .int .u64 0] 237)) g t l 0 0 0 := by
 subst hg; unfold Bl; rw [heap_alloc_new]; rfl
theorem size_al (w : World) (o : Obj) : (w.alloc o).heap.size = w.heap.size + 1  := by
 show (w.heap.push o).size = _
 simp
structure LeapAt (w : World) (t1 l1 t2 l2 p1 p2 : Nat) (W : World) : Prop where
 b1 : Bl W p1 t1 l1 0 0 0
 b2 : Bl W p2 l2 t2 0 0 0
 ne : p1 ≠ p2
 g1 : w.heap.size ≤ p1
 g2 : w.heap.size ≤ p2
 bel : Below w.heap.size w W
end

section
open Go.RowKit
structure LeapRel (B : Nat) (w : World) (ga gb p1 p2 t1 l1 t2 l2 n : Nat) (La Lb : List Nat) (wr : World) (i : Value) : Prop where
 ex : ∃ (k : Nat) (zs ys : List Nat) (o1 u1 b1 o2 u2 b2 : Nat), k ≤ n ∧ i = .int .i64 k ∧ Blend La Lb t1 l1 k zs o1 u1 b1 ∧ Blend Lb La l2 t2 k ys o2 u2 b2 ∧
  Blk wr ga (mid La 0 zs) ∧ Blk wr gb (mid Lb 0 ys) ∧ Bl wr p1 t1 l1 o1 u1 b1 ∧ Bl wr p2 l2 t2 o2 u2 b2
 bel : Below B w wr
theorem leap_step {B n k : Nat} {w wr : World} {ga gb p1 p2 t1 l1 t2 l2 o1 u1 b1 o2 u2 b2 : Nat} {La Lb zs ys : List Nat} (hlt : k < n) (hna : n ≤ La.length) (hnb : n ≤ Lb.length) (hab : ga ≠ gb)
  (e1 : p1 ≠ ga) (e2 : p1 ≠ gb) (e3 : p2 ≠ ga) (e4 : p2 ≠ gb) (hBa : B ≤ ga) (hBb : B ≤ gb) (h5 : Blend La Lb t1 l1 k zs o1 u1 b1) (h6 : Blend Lb La l2 t2 k ys o2 u2 b2) (hdA : Digs La) (hdB : Digs Lb)
  (h1 : t1 < B64) (h2 : l1 < B64) (h3 : t2 < B64) (h4 : l2 < B64) (m1 : Blk wr ga (mid La 0 zs)) (m2 : Blk wr gb (mid Lb 0 ys))
  (m3 : Bl wr p1 t1 l1 (hi (dg La k * t1 + o1)) (hi (dg Lb k * l1 + u1)) (sbo (lo (dg La k * t1 + o1)) (lo (dg Lb k * l1 + u1)) b1))
  (m4 : Bl wr p2 l2 t2 (hi (dg Lb k * l2 + o2)) (hi (dg La k * t2 + u2)) (sbo (lo (dg Lb k * l2 + o2)) (lo (dg La k * t2 + u2)) b2)) (hbel : Below B w wr) :
  LeapRel B w ga gb p1 p2 t1 l1 t2 l2 n La Lb ((wr.setCell ⟨ga, k, none⟩ (.int .u64 ((slo (lo (dg La k * t1 + o1)) (lo (dg Lb k * l1 + u1)) b1 : Nat) : Int))).setCell ⟨gb, k, none⟩ (.int .u64 ((slo (lo (dg Lb k * l2 + o2)) (lo (dg La k * t2 + u2)) b2 : Nat) : Int))) (.int .i64 ((k : Int) + 1)) := by
 refine ⟨⟨k + 1, _, _, _, _, _, _, _, _, hlt, by simp, blend_step h5 hdA hdB h1 h2, blend_step h6 hdB hdA h4 h3, ?_, ?_, ?_, ?_⟩, (hbel.setCell hBa _).setCell hBb _⟩
 ·have h := m1.set_ k (slo (lo (dg La k * t1 + o1)) (lo (dg Lb k * l1 + u1)) b1)
  have hs := mid_set (cs := La) (zs := zs) (off := 0) (by rw [h5.len]; omega) (slo (lo (dg La k * t1 + o1)) (lo (dg Lb k * l1 + u1)) b1)
  rw [h5.len, Nat.zero_add] at hs
  rw [hs] at h
  exact h.far hab _
 ·have h := (m2.far (p := ⟨ga, k, none⟩) (fun e => hab e.symm) (.int .u64 ((slo (lo (dg La k * t1 + o1)) (lo (dg Lb k * l1 + u1)) b1 : Nat) : Int))).set_ k (slo (lo (dg Lb k * l2 + o2)) (lo (dg La k * t2 + u2)) b2)
  have hs := mid_set (cs := Lb) (zs := ys) (off := 0) (by rw [h6.len]; omega) (slo (lo (dg Lb k * l2 + o2)) (lo (dg La k * t2 + u2)) b2)
  rw [h6.len, Nat.zero_add] at hs
  rwa [hs] at h
 ·exact (Below.heap_setCell _ _ _ _ e2).trans ((Below.heap_setCell _ _ _ _ e1).trans m3)
 ·exact (Below.heap_setCell _ _ _ _ e4).trans ((Below.heap_setCell _ _ _ _ e3).trans m4)
structure LeapMem (B : Nat) (w w' : World) (ga gb F G : Nat) (La Lb : List Nat) : Prop where
 ex : ∃ Xa Xb : List Nat, Blk w' ga Xa ∧ Blk w' gb Xb ∧ Digs Xa ∧ Digs Xb ∧ Xa.length = La.length ∧ Xb.length = Lb.length ∧
  (dig F).length ≤ La.length ∧ (dig G).length ≤ Lb.length ∧ Xa.take (dig F).length = dig F ∧ Xb.take (dig G).length = dig G
 bel : Below B w w'
theorem LeapMem.drew {B : Nat} {w w' : World} {ga gb F G : Nat} {La Lb : List Nat} (h : LeapMem B w w' ga gb F G La Lb) : LeapMem B w w'.drew ga gb F G La Lb := ⟨h.ex, h.bel.drew⟩
structure LeapPost (B : Nat) (w : World) (ga gb ca cb F G : Nat) (La Lb : List Nat) (e : Ending) (w' : World) : Prop where
 ret : ∃ A1 c1 A2 c2, e = .returned (.tuple #[.slice A1 (dig F).length c1, .slice A2 (dig G).length c2]) ∧ (dig F).length ≤ c1 ∧ (dig G).length ≤ c2 ∧
  (0 < (dig F).length → A1 = some ⟨ga, 0, none⟩ ∧ c1 = ca) ∧ (0 < (dig G).length → A2 = some ⟨gb, 0, none⟩ ∧ c2 = cb)
 mem : LeapMem B w w' ga gb F G La Lb
theorem mid_low {cs zs : List Nat} (hzd : Digs zs) : (mid cs 0 zs).take (dig (val zs)).length = dig (val zs) := by
 have h2 : (mid cs 0 zs).take (dig (val zs)).length = zs.take (dig (val zs)).length := by
  have h3 : ((mid cs 0 zs).take zs.length).take (dig (val zs)).length = zs.take (dig (val zs)).length := by rw [mid_take]
  rwa [List.take_take, Nat.min_eq_left (dig_length_val hzd)] at h3
 rw [h2]
 exact (dig_take_self hzd).symm
theorem leap_mem {B n : Nat} {w wr : World} {ga gb t1 l1 t2 l2 o1 u1 b1 o2 u2 b2 F G : Nat} {La Lb zs ys : List Nat} (hna : n ≤ La.length) (hnb : n ≤ Lb.length)
  (h5 : Blend La Lb t1 l1 n zs o1 u1 b1) (h6 : Blend Lb La l2 t2 n ys o2 u2 b2) (hdA : Digs La) (hdB : Digs Lb) (hz : val zs = F) (hy : val ys = G)
  (m1 : Blk wr ga (mid La 0 zs)) (m2 : Blk wr gb (mid Lb 0 ys)) (hbel : Below B w wr) : LeapMem B w wr ga gb F G La Lb := by
 subst hz hy
 have e1 := h5.len
 have e2 := h6.len
 have e3 := dig_length_val h5.digs
 have e4 := dig_length_val h6.digs
 exact ⟨⟨_, _, m1, m2, hdA.mid h5.digs 0, hdB.mid h6.digs 0, mid_length (by omega), mid_length (by omega), by omega, by omega, mid_low h5.digs, mid_low h6.digs⟩, hbel⟩
set_option maxRecDepth 100000 in
set_option maxHeartbeats 4000000 in
theorem leap_any (w : World) (B ga gb na nb ca cb n t1 l1 t2 l2 F G x1 y1 x2 y2 : Nat) (La Lb : List Nat) (ha : Blk w ga La) (hb : Blk w gb Lb) (hab : ga ≠ gb) (hBa : B ≤ ga) (hBb : B ≤ gb) (hdA : Digs La) (hdB : Digs Lb)
  (hna : n ≤ na) (hnb : n ≤ nb) (hLa : na ≤ La.length) (hLb : nb ≤ Lb.length) (hla : na ≤ ca) (hlb : nb ≤ cb) (hcap : n ≤ 1099511627776) (h1 : t1 < B64) (h2 : l1 < B64) (h3 : t2 < B64) (h4 : l2 < B64)
  (hF : val (Lb.take n) * l1 + F + B64 ^ n * x1 = val (La.take n) * t1 + B64 ^ n * y1) (hFn : F < B64 ^ n) (hG : val (La.take n) * t2 + G + B64 ^ n * x2 = val (Lb.take n) * l2 + B64 ^ n * y2) (hGn : G < B64 ^ n) :
  Calls tz 239 #[.slice (some ⟨ga, 0, none⟩) na ca, .slice (some ⟨gb, 0, none⟩) nb cb, .agg #[.int .u64 (t1 : Int), .int .u64 (l1 : Int)], .agg #[.int .u64 (t2 : Int), .int .u64 (l2 : Int)], .int .i64 (n : Int)] w (LeapPost B w ga gb ca cb F G La Lb) := by
 have HT := lh (fun W : World => turned_at W t2 l2)
 have HA := lh ha
 have HB := lh hb
 clear ha hb
 go_enter Tryz.func239, Tryz.ntmps239
 go_upto_region 1 with fail
 go_cut [12, 13] (fun s12 s13 wx => ∃ p1 p2 : Nat, s12 = .pointer (some ⟨p1, 0, none⟩) ∧ s13 = .pointer (some ⟨p2, 0, none⟩) ∧ LeapAt w t1 l1 t2 l2 p1 p2 wx)
 case first =>
  go_region_held3 (fun W => W.cell? ⟨w.heap.size, 0, none⟩ = some (.int .u64 (t1 : Int)) ∧ W.cell? ⟨w.heap.size, 1, none⟩ = some (.int .u64 (l1 : Int)) ∧ W.cell? ⟨w.heap.size + 1, 0, none⟩ = some (.int .u64 (t2 : Int)) ∧ W.cell? ⟨w.heap.size + 1, 1, none⟩ = some (.int .u64 (l2 : Int)))
   (first | exact Boxed.alloc _ (by assumption) | exact Boxed.alloc _ (Boxed.alloc _ (by assumption)) | exact Boxed.drew (Boxed.alloc _ (Boxed.alloc _ (Boxed.alloc _ (Boxed.alloc _ (Boxed.base _ _ _ _ _ _ _))))) | exact Boxed.drew (Boxed.alloc _ (Boxed.alloc _ (Boxed.alloc _ (Boxed.base _ _ _ _ _ _ _)))) | go_keep)
   (first | (go_at_call 240; refine (HT.out _).mono ?_; rintro e w1 ⟨rfl, rfl⟩))
  all_goals
   go_wp2_with fail
   go_meet
   case rel =>
    refine ⟨_, _, rfl, rfl, ⟨?_, ?_, ?_, ?_, ?_, ?_⟩⟩
    ·refine Bl.drew ?_; repeat (first | exact Bl.new _ _ _ _ (by simp only [size_al]) | refine Bl.alloc ?_ _)
    ·refine Bl.drew ?_; repeat (first | exact Bl.new _ _ _ _ (by simp only [size_al]) | refine Bl.alloc ?_ _)
    ·omega
    ·omega
    ·omega
    ·refine Below.drew ?_; repeat (first | exact Below.refl _ _ | refine Below.alloc ?_ (by first | exact Nat.le_refl _ | (simp only [size_al]; omega)) _)
 case rest =>
  obtain ⟨p1, p2, rfl, rfl, hL⟩ := hcut
  have HL := lh hL
  clear hL
  have hga := HA.out.lt
  have hgb := HB.out.lt
  go_wp2_with fail
  go_loopw [23] (fun i wr => LeapRel B w ga gb p1 p2 t1 l1 t2 l2 n La Lb wr i) (fun i _ => n - (intOf i).toNat)
  case atStart =>
   refine ⟨⟨0, [], [], 0, 0, 0, 0, 0, 0, Nat.zero_le _, rfl, Blend.start _ _ _ _, Blend.start _ _ _ _, ?_, ?_, HL.out.b1, HL.out.b2⟩, HL.out.bel.mono (by omega)⟩
   ·rw [mid_nil]; exact HA.out.below HL.out.bel hga
   ·rw [mid_nil]; exact HB.out.below HL.out.bel hgb
  case round =>
   obtain ⟨⟨k, zs, ys, o1, u1, b1, o2, u2, b2, hk, rfl, h5, h6, m1, m2, m3, m4⟩, hbel⟩ := hrel
   by_cases hlt : k < n
   ·have hlt' : (k : Int) < (n : Int) := by omega
    have la1 : (k : Int) < (na : Int) := by omega
    have lb1 : (k : Int) < (nb : Int) := by omega
    have ca1 := m1.cell (i := k) (by rw [mid_length (by rw [h5.len]; omega)]; omega)
    have cb1 := m2.cell (i := k) (by rw [mid_length (by rw [h6.len]; omega)]; omega)
    rw [dg_mid_above (by rw [h5.len]; omega) (Nat.zero_le _)] at ca1
    rw [dg_mid_above (by rw [h6.len]; omega) (Nat.zero_le _)] at cb1
    have fa1 := m1.frozen k
    have fb1 := m2.frozen k
    have H5 := lh h5
    have H6 := lh h6
    have M1 := lh m1
    have M2 := lh m2
    have M3 := lh m3
    have M4 := lh m4
    have HBEL := lh hbel
    clear h5 h6 m1 m2 m3 m4 hbel
    go_wp2_with fail
    go_quiet (fail)
    have HN1 := lh (fun q => next_any (wr.drewN q) p1 t1 l1 o1 u1 b1 (dg La k) (dg Lb k) M3.out h1 h2 H5.out.ho H5.out.hu H5.out.hb (dg_lt hdA k) (dg_lt hdB k))
    have HN2 := lh (fun w2 h => next_any w2 p2 l2 t2 o2 u2 b2 (dg Lb k) (dg La k) h h4 h3 H6.out.ho H6.out.hu H6.out.hb (dg_lt hdB k) (dg_lt hdA k))
    have hp1 := HL.out.g1
    have hp2 := HL.out.g2
    have hpp := HL.out.ne
    go_wp2_with fail
    refine (HN1.out _).mono ?_
    rintro e w2 ⟨rfl, q1, hO1⟩
    have q2 : Bl w2 p2 l2 t2 o2 u2 b2 := (hO1.block p2 (fun e => hpp e.symm)).trans M4.out
    go_wp2_with fail
    refine (HN2.out _ q2).mono ?_
    rintro e w3 ⟨rfl, q3, hO2⟩
    have q4 : Bl w3 p1 t1 l1 _ _ _ := (hO2.block p1 hpp).trans q1
    have a2 := hO2.blk (hO1.blk (M1.out.drewN _) (by omega)) (g' := ga) (by omega)
    have b2' := hO2.blk (hO1.blk (M2.out.drewN _) (by omega)) (g' := gb) (by omega)
    have HBW : Hid (Below B w w3) := ((⟨HBEL.out.os, HBEL.out.tape, HBEL.out.output, HBEL.out.size, HBEL.out.block⟩ : Below B w (wr.drewN _)).trans (hO1.below (by omega))).trans (hO2.below (by omega))
    have ca2 := a2.cell (i := k) (by rw [mid_length (by rw [H5.out.len]; omega)]; omega)
    have cb2 := b2'.cell (i := k) (by rw [mid_length (by rw [H6.out.len]; omega)]; omega)
    have fa2 := a2.frozen k
    have fb2 := b2'.frozen k
    have HS := lh (leap_step hlt (by omega) (by omega) hab (by omega) (by omega) (by omega) (by omega) hBa hBb H5.out H6.out hdA hdB h1 h2 h3 h4 a2 b2' q4 q3 HBW.out)
    clear hO1 hO2 q1 q2 q3 q4 a2 b2'
    go_wp2_with fail
    go_roundw
    case rel => exact HS.out
    case measure => simp [intOf]; omega
   ·have hkn : k = n := by omega
    subst hkn
    have hz := blend_end h5 hF hFn
    have hy := blend_end h6 hG hGn
    have hca : (k : Int) ≤ (ca : Int) := by omega
    have hcb : (k : Int) ≤ (cb : Int) := by omega
    have hlz := h5.len
    have hly := h6.len
    have n1 : Num wr (some ⟨ga, 0, none⟩) zs := by
     have h := (m1.num (hdA.mid h5.digs 0)).take zs.length
     rwa [mid_take] at h
    have n2 : Num wr (some ⟨gb, 0, none⟩) ys := by
     have h := (m2.num (hdB.mid h6.digs 0)).take ys.length
     rwa [mid_take] at h
    have C1 := cut_at wr.drew _ ca zs n1.drew (by omega) (by omega)
    have C2 := cut_at wr.drew _ cb ys n2.drew (by omega) (by omega)
    rw [hz, hlz] at C1
    rw [hy, hly] at C2
    have HC1 := lh C1
    have HC2 := lh C2
    have HE : Hid (LeapMem B w wr ga gb F G La Lb) := leap_mem (by omega) (by omega) h5 h6 hdA hdB hz hy m1 m2 hbel
    clear h5 h6 m1 m2 m3 m4 hbel n1 n2 C1 C2 hz hy
    go_wp2_with fail
    go_region_with (first
     | (go_at_call 199; (with_reducible refine HC1.out.mono ?_); rintro e w4 ⟨A1, c1, rfl, hc1, ha1, rfl, hd1⟩)
     | (go_at_call 199; (with_reducible refine HC2.out.mono ?_); rintro e w4 ⟨A2, c2, rfl, hc2, ha2, rfl, hd2⟩))
    all_goals
     go_wp2_with fail
     go_ret2
     exact ⟨⟨A1, c1, A2, c2, rfl, hc1, hc2, hd1, hd2⟩, HE.out.drew⟩
