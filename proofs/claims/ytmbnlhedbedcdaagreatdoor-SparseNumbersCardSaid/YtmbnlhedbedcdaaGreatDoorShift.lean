/- Shifts of limbs. -/
import Derived.Test.YtmbnlhedbedcdaaGreatDoorMul
import Derived.Laws.BitsAllLaws
namespace Go.Proofs.YtmbnlhedbedcdaaGreatDoor
open Go.RowKit

theorem B64_pow : B64 = 2 ^ 64 := by rw [B64_eq]
theorem B64_split {s : Nat} (hs : s ≤ 64) : B64 = 2 ^ (64 - s) * 2 ^ s := by rw [B64_pow, ← Nat.pow_add]; congr 1; omega
theorem lo_shl {x s : Nat} (hs : s ≤ 64) : lo (x * 2 ^ s) = 2 ^ s * (x % 2 ^ (64 - s)) := by
  unfold lo
  rw [B64_split hs, Nat.mul_mod_mul_right, Nat.mul_comm]
theorem hi_shl {x s : Nat} (hs : s ≤ 64) : hi (x * 2 ^ s) = x / 2 ^ (64 - s) := by
  unfold hi
  rw [B64_split hs, Nat.mul_div_mul_right _ _ (Nat.pow_pos (by omega))]
theorem shr_lt {y s : Nat} (hy : y < B64) (hs : s ≤ 64) : y / 2 ^ (64 - s) < 2 ^ s := by
  refine Nat.div_lt_of_lt_mul ?_
  rw [← B64_split hs]; exact hy
theorem u64_wrap_nat (n : Nat) : IntKind.u64.wrap (n : Int) = ((lo n : Nat) : Int) := by
  rw [IntKind.wrap_u64]
  unfold lo
  rw [B64_eq]
  omega
theorem raise_or {x y s : Nat} (hy : y < B64) (hs : s ≤ 64) :
    bits BinOp.or IntKind.u64 (IntKind.u64.wrap ((x : Int) * 2 ^ s)) ((y : Int) / 2 ^ (64 - s)) = ((lo (x * 2 ^ s) + hi (y * 2 ^ s) : Nat) : Int) := by
  have e1 : (x : Int) * 2 ^ s = ((x * 2 ^ s : Nat) : Int) := by push_cast; rfl
  have e2 : (y : Int) / 2 ^ (64 - s) = ((y / 2 ^ (64 - s) : Nat) : Int) := by push_cast; rfl
  have hlt := shr_lt hy hs
  rw [e1, e2, u64_wrap_nat, u64_or_nat _ _ (lo_lt _) (Nat.lt_of_le_of_lt (Nat.div_le_self _ _) hy), hi_shl hs, lo_shl hs, Nat.two_pow_add_eq_or_of_lt hlt]
theorem lower_or {x y s : Nat} (hx : x < B64) (hs : s ≤ 64) :
    bits BinOp.or IntKind.u64 ((x : Int) / 2 ^ s) (IntKind.u64.wrap ((y : Int) * 2 ^ (64 - s))) = ((x / 2 ^ s + lo (y * 2 ^ (64 - s)) : Nat) : Int) := by
  have e1 : (y : Int) * 2 ^ (64 - s) = ((y * 2 ^ (64 - s) : Nat) : Int) := by push_cast; rfl
  have e2 : (x : Int) / 2 ^ s = ((x / 2 ^ s : Nat) : Int) := by push_cast; rfl
  have hlt := shr_lt hx (show 64 - s ≤ 64 by omega)
  rw [show 64 - (64 - s) = s by omega] at hlt
  rw [e1, e2, u64_wrap_nat, u64_or_nat _ _ (Nat.lt_of_le_of_lt (Nat.div_le_self _ _) hx) (lo_lt _), lo_shl (show 64 - s ≤ 64 by omega), Nat.or_comm, ← Nat.two_pow_add_eq_or_of_lt hlt, Nat.add_comm]

/-- What is carried into digit k. -/
def rc (X : List Nat) (s k : Nat) : Nat := if k = 0 then 0 else hi (dg X (k - 1) * 2 ^ s)
theorem rc_zero (X : List Nat) (s : Nat) : rc X s 0 = 0 := rfl
theorem rc_succ (X : List Nat) (s k : Nat) : rc X s (k + 1) = hi (dg X k * 2 ^ s) := by unfold rc; rw [if_neg (by omega)]; rfl
theorem rc_lt {X : List Nat} (hX : Digs X) {s : Nat} (hs : s ≤ 64) (k : Nat) : rc X s k < 2 ^ s := by
  unfold rc
  split
  · exact Nat.pow_pos (by omega)
  · rw [hi_shl hs]; exact shr_lt (dg_lt hX _) hs
theorem raise_digit_lt {X : List Nat} (hX : Digs X) {s : Nat} (hs : s ≤ 64) (k : Nat) : lo (dg X k * 2 ^ s) + rc X s k < B64 := by
  have h1 := rc_lt hX hs k
  rw [lo_shl hs, B64_split hs]
  have h2 : dg X k % 2 ^ (64 - s) < 2 ^ (64 - s) := Nat.mod_lt _ (Nat.pow_pos (by omega))
  have h3 : 2 ^ s * (dg X k % 2 ^ (64 - s)) + 2 ^ s ≤ 2 ^ s * 2 ^ (64 - s) := by
    rw [← Nat.mul_succ]; exact Nat.mul_le_mul_left _ h2
  rw [Nat.mul_comm (2 ^ (64 - s))]
  omega
theorem raise_round {v p c s x q l h : Nat} (hv : v + p * c = s * q) (hl : l + B64 * h = x * q) : v + p * (l + c) + p * B64 * h = (s + p * x) * q := by
  have e : p * l + p * (B64 * h) = p * (x * q) := by rw [← Nat.mul_add, hl]
  rw [Nat.mul_add, Nat.mul_assoc, Nat.add_mul, Nat.mul_assoc p x q]
  omega

theorem digit_z (w : World) (p : Nat) (A : Option Addr) (c i : Nat) (z : Int) (hz : z = (i : Int)) (xs : List Nat) (h : Num w A xs) (hn : xs.length ≤ 1099511627776)
    (hp : w.cell? ⟨p, 0, none⟩ = some (.slice A xs.length c)) :
    Calls Tryz.prog 153 #[.int .i64 z, .pointer (some ⟨p, 0, none⟩)] w fun e w' => e = .returned (.int .u64 ((dg xs i : Nat) : Int)) ∧ w = w' := by
  subst hz
  exact digit_any w p A c i xs h hn hp

structure RaiseRel (w wr : World) (g off n s : Nat) (cs X : List Nat) (A : Option Addr) (c : Nat) (i : Value) : Prop where
  ex : ∃ (k : Nat) (zs : List Nat), k ≤ n ∧ i = .int .i64 k ∧ zs.length = k ∧ Digs zs ∧ val zs + B64 ^ k * rc X s k = val (X.take k) * 2 ^ s ∧ Blk wr g (mid cs off zs)
  cap : wr.cell? ⟨w.heap.size, 0, none⟩ = some (.slice A X.length c)
  own : w.grownBy wr (some g)
  num : Num wr A X

theorem grown_set {a w : World} {g : Nat} (h : a.grownBy w (some g)) (i : Nat) (u : Value) : a.grownBy (w.setCell ⟨g, i, none⟩ u) (some g) :=
  ⟨h.os, h.tape, h.output, by simpa [World.setCell] using h.size, fun j hj hne => (Below.heap_setCell w _ u j (by rintro rfl; exact hne rfl)).trans (h.block j hj hne)⟩
theorem grown_drewN {a w : World} {row : Option Nat} (h : a.grownBy w row) (n : Nat) : a.grownBy (w.drewN n) row := ⟨h.os, h.tape, h.output, h.size, h.block⟩
theorem Num.set_far {w : World} {A : Option Addr} {xs : List Nat} (h : Num w A xs) {g i : Nat} {u : Value} (hne : 0 < xs.length → ∀ p, A = some p → p.block ≠ g) : Num (w.setCell ⟨g, i, none⟩ u) A xs :=
  ⟨h.1, fun hn => by
    obtain ⟨b, off, e, hlt, hc⟩ := h.2 hn
    have hb : b ≠ g := hne (List.length_pos_iff.2 hn) _ e
    exact ⟨b, off, e, by simpa [World.setCell] using hlt, fun j hj => (World.cell?_setCell_other w _ _ _ (by intro e2; injection e2 with e3; exact hb e3.symm)).trans (hc j hj)⟩⟩

theorem raise_step {w wr : World} {g off n s k c : Nat} {cs X zs : List Nat} {A : Option Addr} (hlt : k < n) (hs : s ≤ 64) (hoff : off + n ≤ cs.length) (hg : g < w.heap.size)
    (hzl : zs.length = k) (hzd : Digs zs) (hv : val zs + B64 ^ k * rc X s k = val (X.take k) * 2 ^ s) (hblk : Blk wr g (mid cs off zs)) (hcap : wr.cell? ⟨w.heap.size, 0, none⟩ = some (.slice A X.length c))
    (hown : w.grownBy wr (some g)) (hnum : Num wr A X) (hne : 0 < X.length → ∀ p, A = some p → p.block ≠ g) :
    RaiseRel w (wr.setCell ⟨g, off + k, none⟩ (.int .u64 ((lo (dg X k * 2 ^ s) + rc X s k : Nat) : Int))) g off n s cs X A c (.int .i64 ((k : Int) + 1)) := by
  refine ⟨⟨k + 1, zs ++ [lo (dg X k * 2 ^ s) + rc X s k], by omega, by simp, by simp [hzl], hzd.snoc (raise_digit_lt hnum.1 hs k), ?_, ?_⟩, ?_, grown_set hown _ _, hnum.set_far hne⟩
  · rw [val_take_dg, val_snoc, Nat.pow_succ, hzl, rc_succ]
    exact raise_round hv (lo_hi _)
  · have h := hblk.set_ (off + k) (lo (dg X k * 2 ^ s) + rc X s k)
    have hs := mid_set (cs := cs) (zs := zs) (off := off) (by omega) (lo (dg X k * 2 ^ s) + rc X s k)
    rw [hzl] at hs
    rwa [hs] at h
  · exact (World.cell?_setCell_other wr _ _ _ (by intro e; injection e with e1; omega)).trans hcap

structure RaisePost (w : World) (g off n s : Nat) (cs X : List Nat) (e : Ending) (w' : World) : Prop where
  ret : e = .returned (.tuple #[])
  ex : ∃ zs : List Nat, zs.length = n ∧ Digs zs ∧ val zs + B64 ^ n * rc X s n = val (X.take n) * 2 ^ s ∧ Blk w' g (mid cs off zs)
  own : w.grownBy w' (some g)

set_option maxHeartbeats 1000000 in
theorem raise_any (w : World) (g off n capO s c : Nat) (cs X : List Nat) (A : Option Addr) (hblk : Blk w g cs) (hoff : off + n ≤ cs.length) (hA : Num w A X)
    (hne : 0 < X.length → ∀ p, A = some p → p.block ≠ g) (hs : s ≤ 63) (hn : n ≤ 1099511627776) (hX : X.length ≤ 1099511627776) :
    Calls Tryz.prog 117 #[.slice (some ⟨g, off, none⟩) n capO, .slice A X.length c, .int .u64 s] w (RaisePost w g off n s cs X) := by
  have HNE := Lib.hid hne
  have HNUM := Lib.hid hA
  have HBLK0 := Lib.hid hblk
  have hg := hblk.lt
  have hw64 : IntKind.u64.wrap (64 - (s : Int)) = 64 - (s : Int) := by rw [IntKind.wrap_u64]; omega
  have hs64 : s ≤ 64 := by omega
  clear hA hblk hne
  go_enter Tryz.func117, Tryz.ntmps117
  go_wp2_with fail
  refine (digitOf_any _ _ _ _).mono ?_
  rintro e w' ⟨rfl, rfl⟩
  go_wp2_with fail
  go_loopw [12] (fun i wr => RaiseRel w wr g off n s cs X A c i) (fun i _ => n - (intOf i).toNat)
  case atStart =>
    exact ⟨⟨0, [], Nat.zero_le _, rfl, rfl, Digs.nil, by simp [val_nil, rc_zero], by rw [mid_nil]; exact HBLK0.out.alloc _⟩, cell_of_one (heap_alloc_new w _), World.grownBy_alloc _ _ _, HNUM.out.alloc _⟩
  case round =>
    obtain ⟨⟨k, zs, hk, rfl, hzl, hzd, hv, hblk⟩, hcap, hown, hnum⟩ := hrel
    by_cases hlt : k < n
    · have hlt' : (k : Int) < (n : Int) := by omega
      have ho : (wr.cell? ⟨g, off + k, none⟩) = some (.int .u64 ((dg cs (off + k) : Nat) : Int)) := by
        rw [hblk.cell (by rw [mid_length (by omega)]; omega), dg_mid_above (by omega) (by omega)]
      have hf : wr.frozen? ⟨g, off + k, none⟩ = false := hblk.frozen _
      have HS := Lib.hid (raise_step hlt hs64 hoff hg hzl hzd hv hblk hcap hown hnum HNE.out)
      have HD1 := Lib.hid (digit_any wr w.heap.size A c k X hnum (by omega) hcap)
      have HXD := Lib.hid hnum.1
      rcases Nat.lt_or_ge k 1 with hk0 | hk0
      · have HU : Hid (bits BinOp.or IntKind.u64 (IntKind.u64.wrap (((dg X k : Nat) : Int) * 2 ^ s)) 0 = ((lo (dg X k * 2 ^ s) + rc X s k : Nat) : Int)) := by
          have h := raise_or (x := dg X k) (y := 0) B64_pos hs64
          rw [Nat.zero_mul, hi_of_lt B64_pos, Int.natCast_zero, Int.zero_ediv] at h
          unfold rc
          rw [if_pos (by omega)]
          exact h
        clear hblk hv hzl hcap hown hnum
        go_wp2_with fail
        refine HD1.out.mono ?_
        rintro e w' ⟨rfl, rfl⟩
        go_wp2_with fail
        refine (digit_neg _ _ _ (by omega)).mono ?_
        rintro e w' ⟨rfl, rfl⟩
        go_wp2_with fail
        go_roundw
        case rel => rw [HU.out]; exact HS.out
        case measure => simp [intOf]; omega
      · have HD2 := Lib.hid (digit_z wr w.heap.size A c (k - 1) ((k : Int) - 1) (by omega) X hnum (by omega) hcap)
        have HU : Hid (bits BinOp.or IntKind.u64 (IntKind.u64.wrap (((dg X k : Nat) : Int) * 2 ^ s)) (((dg X (k - 1) : Nat) : Int) / 2 ^ (64 - s)) = ((lo (dg X k * 2 ^ s) + rc X s k : Nat) : Int)) := by
          rw [raise_or (dg_lt hnum.1 _) hs64]
          unfold rc
          rw [if_neg (by omega)]
          exact rfl
        clear hblk hv hzl hcap hown hnum
        go_wp2_with fail
        refine HD1.out.mono ?_
        rintro e w' ⟨rfl, rfl⟩
        go_wp2_with fail
        refine HD2.out.mono ?_
        rintro e w' ⟨rfl, rfl⟩
        go_wp2_with fail
        go_roundw
        case rel => rw [HU.out]; exact HS.out
        case measure => simp [intOf]; omega
    · have hkn : k = n := by omega
      have HE : Hid (RaisePost w g off n s cs X (.returned (.tuple #[])) wr) := by
        subst hkn
        exact ⟨rfl, ⟨zs, hzl, hzd, hv, hblk⟩, hown⟩
      clear hblk hv hzl hkn hcap hown hnum
      go_wp2
      go_end0
      exact HE.out
end Go.Proofs.YtmbnlhedbedcdaaGreatDoor
