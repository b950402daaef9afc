/- Part 23 of the proof: EMem, ETrim, ESmall, ESmall2, ELarge, ECmp, ESub. -/
import Derived.Test.YthjiacmhhpfokaaGreatRows
import Derived.Test.YthjiacmhhpfokaaGreatK22
import Derived.OwnWalk
namespace Go.Proofs.YthjiacmhhpfokaaGreat
open Lib renaming hid → lh
open Go.Proofs.Tryz renaming prog → tz
open Nat renaming le_refl → lR, mul_add → mA, mul_assoc → mS
open List renaming getElem?_eq_getElem → gE, length_take → lK, getElem?_map → gM
namespace E
open Go.RowKit
def Num (w : World) (A : Option Addr) (xs : List Nat) : Prop :=
 Digs xs ∧ (xs ≠ [] → ∃ b off, A = some ⟨b, off, none⟩ ∧ b < w.heap.size ∧ ∀ i, i < xs.length → w.cell? ⟨b, off + i, none⟩ = some (.int .i64 ((dg xs i : Nat) : Int)))
theorem Num.digs {w : World} {A : Option Addr} {xs : List Nat} (h : Num w A xs) : Digs xs := h.1
theorem Num.nil (w : World) (A : Option Addr) : Num w A [] := ⟨Digs.nil, fun h => absurd rfl h⟩
theorem Num.at_ {w : World} {A : Option Addr} {xs : List Nat} (h : Num w A xs) (hp : 0 < xs.length) :
  ∃ b off, A = some ⟨b, off, none⟩ ∧ b < w.heap.size ∧ ∀ i, i < xs.length → w.cell? ⟨b, off + i, none⟩ = some (.int .i64 ((dg xs i : Nat) : Int)) :=
 h.2 (by rintro rfl; simp at hp)
theorem Num.below {w w' : World} {A : Option Addr} {xs : List Nat} (h : Num w A xs) (hb : Below w.heap.size w w') : Num w' A xs :=
 ⟨h.1, fun hn => by
  obtain ⟨b, off, e, hlt, hc⟩ := h.2 hn
  exact ⟨b, off, e, Nat.lt_of_lt_of_le hlt hb.size, fun i hi => (hb.cell (p := ⟨b, off + i, none⟩) hlt).trans (hc i hi)⟩⟩
theorem Num.alloc {w : World} {A : Option Addr} {xs : List Nat} (h : Num w A xs) (o : Obj) : Num (w.alloc o) A xs :=
 h.below ((Below.refl _ _).alloc (lR _) o)
theorem Num.drewN {w : World} {A : Option Addr} {xs : List Nat} (h : Num w A xs) (n : Nat) : Num (w.drewN n) A xs := h
theorem Num.take {w : World} {A : Option Addr} {xs : List Nat} (h : Num w A xs) (k : Nat) : Num w A (xs.take k) :=
 ⟨h.1.take k, fun hn => by
  obtain ⟨b, off, e, hlt, hc⟩ := h.2 (by rintro rfl; simp at hn)
  refine ⟨b, off, e, hlt, fun i hi => ?_⟩
  rw [lK] at hi
  rw [dg_take (by omega)]
  exact hc i (by omega)⟩
def RetN (w : World) (n : Nat) (e : Ending) (w' : World) : Prop :=
 ∃ A c, e = .returned (.slice A (dig n).length c) ∧ (dig n).length ≤ c ∧ Num w' A (dig n) ∧ Below w.heap.size w w'
def RetV (w : World) (n : Nat) (e : Ending) (w' : World) : Prop :=
 ∃ A c, e = .returned (.slice A (dig n).length c) ∧ (dig n).length ≤ c ∧ Num w A (dig n) ∧ w = w'
def dcell (x : Nat) : Value := .int .i64 (x : Int)
def Blk (w : World) (g : Nat) (xs : List Nat) : Prop := w.heap[g]? = some (.cells (xs.map dcell).toArray 3 (0, 0))
section
variable {w w' : World} {g : Nat} {xs : List Nat}
theorem Blk.lt (h : Blk w g xs) : g < w.heap.size := lt_of_block h
theorem Blk.cell (h : Blk w g xs) {i : Nat} (hi : i < xs.length) : w.cell? ⟨g, i, none⟩ = some (.int .i64 ((dg xs i : Nat) : Int)) := by
 unfold Blk at h
 rw [cell_of_row w g i _ _ _ h, List.getElem?_toArray, gM, gE hi, dg_of_lt hi]; rfl
theorem Blk.frozen (h : Blk w g xs) (i : Nat) : w.frozen? ⟨g, i, none⟩ = false := frozen_of_row w g i _ _ h
theorem Blk.below {B : Nat} (h : Blk w g xs) (hb : Below B w w') (hg : g < B) : Blk w' g xs := (hb.block g hg).trans h
theorem Blk.drewN (h : Blk w g xs) (n : Nat) : Blk (w.drewN n) g xs := h
theorem Blk.set_ (h : Blk w g xs) (i x : Nat) : Blk (w.setCell ⟨g, i, none⟩ (.int .i64 (x : Int))) g (xs.set i x) := by
 unfold Blk at h ⊢
 simp only [World.setCell, Array.getElem?_modify, h]
 simp [dcell, List.map_set]
theorem Blk.made (w : World) (n : Nat) : Blk (w.alloc (.cells (madeCells #[.int .i64 0] n) 3)) w.heap.size (List.replicate n 0) := by
 have h1 : madeCells #[.int .i64 0] n = ((List.replicate n 0).map dcell).toArray := by
  apply Array.ext'
  rw [toList_madeCells_one, List.map_replicate]; rfl
 unfold Blk
 rw [heap_alloc_new, h1]
theorem Blk.num (h : Blk w g xs) (hd : Digs xs) : Num w (some ⟨g, 0, none⟩) xs :=
 ⟨hd, fun _ => ⟨g, 0, rfl, h.lt, fun i hi => by rw [Nat.zero_add]; exact h.cell hi⟩⟩
end
theorem info_u64 : (Tryz.prog.info? 3).map (fun i => (i.zero, i.size, i.bytes)) = some (some (.int .i64 0), 1, 8) := by kernel_rfl
theorem under_u64s : Tryz.prog.underlying 61 = some (.slice 3) := by kernel_rfl
theorem run_make_u64 (n : Nat) (hn : n ≤ 35184372088832) (w : World) :
  (Instr.makeSlice 61 (.int .i64 (n : Int)) (.int .i64 (n : Int))).run tz w = .ok (.slice (some ⟨w.heap.size, 0, none⟩) n n) (w.alloc (.cells (madeCells #[.int .i64 0] n) 3)) :=
 run_make_row' _ _ _ 8 under_u64s info_u64 rfl .i64 .i64 n (by omega) (by omega) w
theorem run_make_u64' (z : Int) (n : Nat) (hz : z = n) (hn : n ≤ 35184372088832) (w : World) :
  (Instr.makeSlice 61 (.int .i64 z) (.int .i64 z)).run tz w = .ok (.slice (some ⟨w.heap.size, 0, none⟩) n n) (w.alloc (.cells (madeCells #[.int .i64 0] n) 3)) := by
 subst hz
 exact run_make_u64 n hn w
structure Only (g : Nat) (w w' : World) : Prop where
 os : w'.os = w.os
 tape : w'.tape = w.tape
 output : w'.output = w.output
 size : w'.heap.size = w.heap.size
 block : ∀ i, i ≠ g → w'.heap[i]? = w.heap[i]?
theorem Only.refl (g : Nat) (w : World) : Only g w w := ⟨rfl, rfl, rfl, rfl, fun _ _ => rfl⟩
theorem Only.set {g : Nat} {w w' : World} (h : Only g w w') (i : Nat) (v : Value) : Only g w (w'.setCell ⟨g, i, none⟩ v) :=
 ⟨h.os, h.tape, h.output, by simpa [World.setCell] using h.size, fun j hj => (Below.heap_setCell w' _ v j hj).trans (h.block j hj)⟩
theorem Only.cell {g : Nat} {w w' : World} (h : Only g w w') {p : Addr} (hp : p.block ≠ g) : w'.cell? p = w.cell? p := World.cell?_of_block (h.block p.block hp)
theorem Only.num {g : Nat} {w w' : World} (h : Only g w w') {A : Option Addr} {xs : List Nat} (hA : Num w A xs) (hne : ∀ p, A = some p → p.block ≠ g) : Num w' A xs :=
 ⟨hA.1, fun hn => by
  obtain ⟨b, off, e, hlt, hc⟩ := hA.2 hn
  have hbg : b ≠ g := hne _ e
  exact ⟨b, off, e, by rw [h.size]; exact hlt, fun i hi => (h.cell (p := ⟨b, off + i, none⟩) hbg).trans (hc i hi)⟩⟩
end E

namespace E
open Go.RowKit
def RetA (w : World) (A : Option Addr) (n : Nat) (e : Ending) (w' : World) : Prop :=
 ∃ c, e = .returned (.slice A (dig n).length c) ∧ (dig n).length ≤ c ∧ Num w A (dig n) ∧ w = w'
set_option maxHeartbeats 400000 in
theorem trim_at (w : World) (A : Option Addr) (c : Nat) (xs : List Nat) (h : Num w A xs) (hn : xs.length ≤ 1099511627776) (hc : xs.length ≤ c) :
  Calls tz 222 #[.slice A xs.length c] w (RetA w A (val xs)) := by
 have hd := h.1
 have HX := Lib.hid h
 clear h
 go_enter Tryz.func222, Tryz.ntmps222
 go_wp2
 go_loop [3] (fun n => ∃ k : Nat, k ≤ xs.length ∧ n = .int .i64 k ∧ Hid (val (xs.take k) = val xs)) (fun n => (intOf n).toNat)
 case atStart => exact ⟨xs.length, lR _, rfl, by rw [List.take_length]; exact rfl⟩
 case round =>
  obtain ⟨k, hk, rfl, hv⟩ := hrel
  by_cases h0 : k = 0
  ·subst h0
   go_wp2
   go_ret
   have h1 := dig_take_of hd hk hv.out (.inl rfl)
   rw [List.take_zero] at h1
   refine ⟨c, ?_, by rw [h1]; exact Nat.zero_le _, by rw [h1]; exact Num.nil _ _, rfl⟩
   rw [h1]; rfl
  ·obtain ⟨b, off, rfl, hb, hcell⟩ := HX.out.at_ (by omega)
   have hck := hcell (k - 1) (by omega)
   clear hcell
   by_cases hz : dg xs (k - 1) = 0
   ·have hz' : (((dg xs (k - 1) : Nat) : Int) == 0) = true := by rw [hz]; rfl
    have HZ := Lib.hid hz
    clear hz
    go_wp2
    go_round
    case rel => exact ⟨k - 1, by omega, by congr 1; omega, (val_take_pred h0 HZ.out).trans hv.out⟩
    case measure => simp [intOf]; omega
   ·have hz' : (((dg xs (k - 1) : Nat) : Int) == 0) = false := by
     rw [beq_eq_false_iff_ne]; omega
    go_wp2
    go_ret
    have h1 := dig_take_of hd hk hv.out (.inr hz)
    have h2 : (dig (val xs)).length = k := by rw [h1, lK]; omega
    refine ⟨c, ?_, by omega, by rw [h1]; exact HX.out.take k, rfl⟩
    rw [h2]; rfl
theorem trim_any (w : World) (A : Option Addr) (c : Nat) (xs : List Nat) (h : Num w A xs) (hn : xs.length ≤ 1099511627776) (hc : xs.length ≤ c) :
  Calls tz 222 #[.slice A xs.length c] w (RetV w (val xs)) :=
 (trim_at w A c xs h hn hc).mono fun _ _ ⟨c', h1, h2, h3, h4⟩ => ⟨A, c', h1, h2, h3, h4⟩
end E

namespace E
open Go.RowKit
def bytes (x : Nat) : Nat → List Nat
 | 0 => []
 | k + 1 => bytes x k ++ [x / 256 ^ k % 256]
theorem bytes_length (x k : Nat) : (bytes x k).length = k := by induction k with
 | zero => rfl
 | succ k ih => simp [bytes, ih]
theorem bytes_digs (x k : Nat) : Digs (bytes x k) := by
 induction k with
 | zero => exact Digs.nil
 | succ k ih => exact ih.snoc (by rw [B64_eq]; exact Nat.mod_lt _ (by omega))
theorem bytes_val (x k : Nat) : val (bytes x k) = x % 256 ^ k := by
 induction k with
 | zero => simp [bytes, val_nil, Nat.mod_one]
 | succ k ih =>
  rw [bytes, val_snoc, ih, bytes_length, B64_eq, Nat.pow_succ, Nat.mod_mul]
def small : List Nat → List Nat
 | [] => []
 | x :: r => bytes x 8 ++ small r
theorem small_length (xs : List Nat) : (small xs).length = 8 * xs.length := by
 induction xs with
 | nil => rfl
 | cons x r ih => simp only [small, List.length_append, bytes_length, ih, List.length_cons]; omega
theorem small_digs (xs : List Nat) : Digs (small xs) := by
 induction xs with
 | nil => exact Digs.nil
 | cons x r ih => exact (bytes_digs x 8).append ih
theorem small_val {xs : List Nat} (h : YthjiacmhhpfokaaGreat.Digs xs) : val (small xs) = YthjiacmhhpfokaaGreat.val xs := by
 induction xs with
 | nil => rfl
 | cons x r ih =>
  have hx := h.head
  rw [small, val_append, bytes_val, bytes_length, ih h.tail, YthjiacmhhpfokaaGreat.val_cons, B64_eq, YthjiacmhhpfokaaGreat.B64_eq]
  rw [YthjiacmhhpfokaaGreat.B64_eq] at hx
  rw [Nat.mod_eq_of_lt (by omega)]
theorem small_snoc (xs : List Nat) (x : Nat) : small (xs ++ [x]) = small xs ++ bytes x 8 := by
 induction xs with
 | nil => simp [small]
 | cons y r ih => simp only [List.cons_append, small, ih, List.append_assoc]
theorem num_of_own {w : World} {base : Nat} {v : Value} {n : Nat} {xs : List Nat} (hd : Digs xs) (h : w.ownsRow base 3 1 v n (xs.map dcell)) :
  ∃ A c, v = .slice A xs.length c ∧ xs.length ≤ c ∧ Num w A xs := by
 obtain ⟨hl, h⟩ := h
 rw [List.length_map] at hl
 have hn : n = xs.length := by omega
 subst hn
 rcases h with ⟨rfl, h0⟩ | ⟨g, cap, cur, rfl, hb, hg, hc, hm, hs, ht⟩
 ·exact ⟨none, 0, by rw [h0], by omega, by rw [List.length_eq_zero_iff.1 h0]; exact Num.nil _ _⟩
 ·refine ⟨some ⟨g, 0, none⟩, cap, rfl, hc, hd, fun _ => ⟨g, 0, rfl, lt_of_block hg, fun i hi => ?_⟩⟩
  rw [Nat.zero_add, cell_of_row w g i _ _ _ hg]
  rw [Nat.mul_one] at ht
  have h2 : cur.toList[i]? = (xs.map dcell)[i]? := by rw [← ht, List.getElem?_take_of_lt hi]
  rw [← Array.getElem?_toList, h2, gM, gE hi, dg_of_lt hi]
  rfl
theorem app_cell (w : World) (v : Value) (t : TypeId) : ∀ (j : Nat) (u : Value), [v][j]? = some u → (w.alloc (.cells #[v] t)).cell? ((⟨w.heap.size, 0, none⟩ : Addr).add j) = some u := by
 intro j u hj
 match j, hj with
 | 0, hj =>
  simp only [List.getElem?_cons_zero, Option.some.injEq] at hj
  subst hj
  rw [YthjiacmhhpfokaaGreat.addr_add]
  exact cell_of_one (heap_alloc_new w _)
theorem app_one (k : IntKind) (z : Int) : ∀ u ∈ [Value.int k z], u.oneCell' = true := by intro u hu; simp only [List.mem_singleton] at hu; subst hu; rfl
theorem own_block {w : World} {base : Nat} {e : TypeId} {v : Value} {n : Nat} {xs : List Value} (h : w.ownsRow base e 1 v n xs) : ∀ k, v.ownBlock = some k → base ≤ k := by
 intro k hk
 rcases h.2 with ⟨rfl, _⟩ | ⟨g, cap, cur, rfl, hb, _⟩
 ·cases hk
 ·have hk : g = k := by simpa [Value.ownBlock] using hk
  omega
theorem below_app {B base : Nat} {w wr w1 : World} {o : Obj} {e : TypeId} {v : Value} {n : Nat} {xs : List Value} (hb : Below B w wr) (hB : B ≤ wr.heap.size) (hbase : B ≤ base) (ho : wr.ownsRow base e 1 v n xs) (hg : (wr.alloc o).grownBy w1 v.ownBlock) : Below B w w1 :=
 (hb.alloc hB o).grown hg (by simp; omega) (fun k hk => Nat.le_trans hbase (own_block ho k hk))
end E

namespace E
open Go.RowKit
theorem take_snoc {xs : List Nat} {k : Nat} (h : k < xs.length) : xs.take (k + 1) = xs.take k ++ [YthjiacmhhpfokaaGreat.dg xs k] := by
 rw [YthjiacmhhpfokaaGreat.dg_of_lt h, List.take_add_one, gE h]; rfl
theorem pow256 (j : Nat) : 256 ^ (j + 1) = 256 ^ j * 256 := Nat.pow_succ _ _
set_option maxRecDepth 100000 in
set_option maxHeartbeats 4000000 in
theorem small_any (w : World) (A : Option Addr) (c : Nat) (xs : List Nat) (ha : YthjiacmhhpfokaaGreat.Num w A xs) (hn : xs.length ≤ 1000000) :
  Calls tz 208 #[.slice A xs.length c] w (RetN w (YthjiacmhhpfokaaGreat.val xs)) := by
 have HA := lh ha
 clear ha
 obtain ⟨i0, hi0, hz0, hz1, hz2⟩ := info_parts info_u64
 go_enter Tryz.func208, Tryz.ntmps208
 go_wp2_with fail
 go_loopw [3, 4] (fun v i wr => ∃ k : Nat, k ≤ xs.length ∧ i = .int .i64 k ∧ wr.ownsRow w.heap.size 3 1 v (8 * k) ((small (xs.take k)).map dcell) ∧ Below w.heap.size w wr) (fun _ i _ => xs.length - (intOf i).toNat)
 case atStart => exact ⟨0, Nat.zero_le _, rfl, World.ownsRow_nil _ _ _ _, Below.refl _ _⟩
 case round =>
  obtain ⟨k, hk, rfl, hown, hbel⟩ := hrel
  by_cases hlt : k < xs.length
  ·have hlt' : (k : Int) < (xs.length : Int) := by omega
   obtain ⟨b1, o1, rfl, hb1, hcell⟩ := HA.out.at_ (by omega)
   have hx := ((hbel.cell (p := ⟨b1, o1 + k, none⟩) hb1).trans (hcell k hlt))
   have hxd := YthjiacmhhpfokaaGreat.dg_lt HA.out.1 k
   have HTS := lh (take_snoc hlt)
   obtain ⟨X, hX⟩ : ∃ X, YthjiacmhhpfokaaGreat.dg xs k = X := ⟨_, rfl⟩
   rw [hX] at hx hxd HTS
   have HOWN := lh hown
   have HBEL := lh hbel
   clear hcell hown hbel hX
   go_wp2_with fail
   go_loopw [3, 5, 6] (fun v x j wr2 => ∃ j' : Nat, j' ≤ 8 ∧ j = .int .i64 j' ∧ x = .int .u64 ((X / 256 ^ j' : Nat) : Int) ∧ wr2.ownsRow w.heap.size 3 1 v (8 * k + j') ((small (xs.take k) ++ bytes X j').map dcell) ∧ Below w.heap.size w wr2) (fun _ _ j _ => 8 - (intOf j).toNat)
   case atStart => exact ⟨0, by omega, rfl, by rw [Nat.pow_zero, Nat.div_one], by simpa [bytes] using HOWN.out, HBEL.out⟩
   case round =>
    obtain ⟨j, hj, rfl, rfl, hown2, hbel2⟩ := hrel
    by_cases hj8 : j < 8
    ·have hj8' : (j : Int) < 8 := by omega
     have HO2 := lh hown2
     have HB2 := lh hbel2
     obtain ⟨d, hd⟩ : ∃ d, X / 256 ^ j = d := ⟨_, rfl⟩
     have hd64 : d < 18446744073709551616 := by
      rw [← hd]; exact Nat.lt_of_le_of_lt (Nat.div_le_self _ _) (by rw [YthjiacmhhpfokaaGreat.B64_eq] at hxd; exact hxd)
     rewrite [hd]
     have HD := lh hd
     clear hown2 hbel2 hd
     have hB2 := HB2.out.size
     have HSTEP : Hid ((small (xs.take k) ++ bytes X j).map dcell ++ [.int .i64 ((d : Int) % 256)] = (small (xs.take k) ++ bytes X (j + 1)).map dcell) := by
      show _ = _
      rw [bytes, HD.out, ← List.append_assoc, List.map_append (l₂ := [d % 256])]
      rfl
     have HDIV : Hid (X / 256 ^ (j + 1) = d / 256) := by
      show _ = _
      rw [pow256, ← Nat.div_div_eq_div_mul, HD.out]
     go_wp2_with ((at_builtin; refine wpList_append_own _ rfl (.tmp 21) (.tmp 25) 61 rfl w.heap.size 3 i0 (.int .i64 0) 1 8 under_u64s hi0 hz0 hz1 hz2 rfl (by decide) _ _ _ rfl (HO2.out.alloc _) ⟨wr.heap.size, 0, none⟩ 1 1 [.int .i64 ((d : Int) % 256)] rfl rfl (app_cell _ _ _) (app_one _ _) (by unfold maxLen; omega) (by omega) (by simp; omega) ?_); intro v' w1 hown' hgrow hnil)
     have HOWN' := lh hown'
     rw [HSTEP.out] at HOWN'
     have HBEL' := lh (below_app HB2.out hB2 (lR _) HO2.out hgrow)
     clear hown' hgrow hnil
     go_wp2_with fail
     go_roundw
     case rel => exact ⟨j + 1, by omega, by go_num, by rw [HDIV.out]; go_num, HOWN'.out, HBEL'.out⟩
     case measure => simp [intOf]; omega
    ·have hj8' : ¬ (j : Int) < 8 := by omega
     have e8 : j = 8 := by omega
     subst e8
     have HO2 := lh hown2
     rw [show 8 * k + 8 = 8 * (k + 1) by omega, ← small_snoc, ← HTS.out] at HO2
     have HB2 := lh hbel2
     clear hown2 hbel2
     go_wp2_with fail
     go_roundw
     case rel => exact ⟨k + 1, by omega, by go_num, HO2.out, HB2.out⟩
     case measure => simp [intOf]; omega
  ·have hlt' : ¬ (k : Int) < (xs.length : Int) := by omega
   have ek : k = xs.length := by omega
   subst ek
   rw [List.take_length] at hown
   obtain ⟨A2, c2, rfl, hc2, hnum⟩ := num_of_own (small_digs xs) (n := 8 * xs.length) hown
   have hbel' := lh hbel
   have HT := lh (trim_any wr A2 c2 (small xs) hnum (by rw [small_length]; omega) hc2)
   rw [small_val HA.out.1] at HT
   clear hown hbel hnum
   go_wp2_with fail
   refine HT.out.mono ?_
   rintro e w4 ⟨A4, c4, rfl, hc4, ha4, rfl⟩
   have HA4 := lh ha4
   clear ha4
   go_wp2_with fail
   go_ret
   exact ⟨A4, c4, rfl, hc4, HA4.out, hbel'.out⟩
end E

namespace E
open YthjiacmhhpfokaaGreat renaming dcell → dcellN
open Go.RowKit
def chunk (s : List Nat) (i j : Nat) : Nat := val ((s.drop (i + j)).take (8 - j))
theorem chunk_end (s : List Nat) (i : Nat) : chunk s i 8 = 0 := by unfold chunk; rw [Nat.sub_self, List.take_zero, val_nil]
theorem chunk_step (s : List Nat) (i q : Nat) (h : q < 8) : chunk s i q = dg s (i + q) + 256 * chunk s i (q + 1) := by
 unfold chunk
 rcases Nat.lt_or_ge (i + q) s.length with h1 | h1
 ·rw [drop_pred h1, show 8 - q = (8 - (q + 1)) + 1 by omega, List.take_succ_cons, val_cons, B64_eq]
  rw [show i + (q + 1) = i + q + 1 by omega]
 ·rw [List.drop_of_length_le h1, List.drop_of_length_le (by omega), dg_of_ge h1]
  simp [val_nil]
theorem chunk_lt {s : List Nat} (hs : Digs s) (i j : Nat) (h : j ≤ 8) : chunk s i j < 256 ^ (8 - j) := by
 have h1 := val_lt ((hs.drop (i + j)).take (8 - j))
 have h2 : B64 ^ ((s.drop (i + j)).take (8 - j)).length ≤ B64 ^ (8 - j) := Nat.pow_le_pow_right B64_pos (by rw [lK]; omega)
 rw [B64_eq] at h1 h2
 unfold chunk
 omega
def pack (s : List Nat) : Nat → List Nat
 | 0 => []
 | m + 1 => pack s m ++ [chunk s (8 * m) 0]
theorem pack_length (s : List Nat) (m : Nat) : (pack s m).length = m := by induction m with
 | zero => rfl
 | succ m ih => simp [pack, ih]
theorem pow_8 (m : Nat) : 256 ^ (8 * m) = YthjiacmhhpfokaaGreat.B64 ^ m := by rw [Nat.pow_mul, YthjiacmhhpfokaaGreat.B64_eq]
theorem pack_digs {s : List Nat} (hs : Digs s) (m : Nat) : YthjiacmhhpfokaaGreat.Digs (pack s m) := by
 induction m with
 | zero => exact YthjiacmhhpfokaaGreat.Digs.nil
 | succ m ih =>
  refine ih.snoc ?_
  have h := chunk_lt hs (8 * m) 0 (by omega)
  rw [YthjiacmhhpfokaaGreat.B64_eq]
  exact h
theorem pack_val (s : List Nat) (m : Nat) (h : m = 0 ∨ 8 * (m - 1) ≤ s.length) : YthjiacmhhpfokaaGreat.val (pack s m) = val (s.take (8 * m)) := by
 induction m with
 | zero => simp [pack, val_nil, YthjiacmhhpfokaaGreat.val_nil]
 | succ m ih =>
  have h8 : 8 * m ≤ s.length := by omega
  rw [pack, YthjiacmhhpfokaaGreat.val_snoc, ih (by omega), pack_length, ← pow_8]
  have e : s.take (8 * (m + 1)) = s.take (8 * m) ++ (s.drop (8 * m)).take 8 := by
   rw [show 8 * (m + 1) = 8 * m + 8 by omega, List.take_add]
  rw [e, val_append, lK, Nat.min_eq_left h8, B64_eq]
  rfl
theorem pack_all {n m : Nat} (hm : (dig n).length ≤ 8 * m) (h : m = 0 ∨ 8 * (m - 1) < (dig n).length) : pack (dig n) m = YthjiacmhhpfokaaGreat.dig n := by
 have hv : YthjiacmhhpfokaaGreat.val (pack (dig n) m) = n := by rw [pack_val _ _ (by omega), List.take_of_length_le hm, val_dig]
 have hd := pack_digs (dig_digs n) m
 have h1 := YthjiacmhhpfokaaGreat.dig_of_top hd (by
  cases m with
  | zero => simp [pack]
  | succ m =>
   rw [pack, List.getLast?_append]
   intro h0
   have h0 : chunk (dig n) (8 * m) 0 = 0 := by simpa using h0
   have h2 : 8 * m < (dig n).length := by omega
   have h3 := pow_le_of_dig h2
   have h4 : val ((dig n).take (8 * m)) = n := by
    have h5 := pack_val (dig n) m (by omega)
    rw [pack, YthjiacmhhpfokaaGreat.val_snoc, h0, Nat.mul_zero, Nat.add_zero, h5] at hv
    exact hv
   have h6 := val_lt ((dig_digs n).take (8 * m))
   rw [h4, lK, Nat.min_eq_left (by omega)] at h6
   omega)
 rw [hv] at h1
 exact h1.symm
theorem num_of_own64 {w : World} {base : Nat} {v : Value} {n : Nat} {xs : List Nat} (hd : YthjiacmhhpfokaaGreat.Digs xs) (h : w.ownsRow base 164 1 v n (xs.map dcellN)) :
  ∃ A c, v = .slice A xs.length c ∧ xs.length ≤ c ∧ YthjiacmhhpfokaaGreat.Num w A xs := by
 obtain ⟨hl, h⟩ := h
 rw [List.length_map] at hl
 have hn : n = xs.length := by omega
 subst hn
 rcases h with ⟨rfl, h0⟩ | ⟨g, cap, cur, rfl, hb, hg, hc, hm, hs, ht⟩
 ·exact ⟨none, 0, by rw [h0], by omega, by rw [List.length_eq_zero_iff.1 h0]; exact YthjiacmhhpfokaaGreat.Num.nil _ _⟩
 ·refine ⟨some ⟨g, 0, none⟩, cap, rfl, hc, hd, fun _ => ⟨g, 0, rfl, lt_of_block hg, fun i hi => ?_⟩⟩
  rw [Nat.zero_add, cell_of_row w g i _ _ _ hg]
  rw [Nat.mul_one] at ht
  have h2 : cur.toList[i]? = (xs.map dcellN)[i]? := by rw [← ht, List.getElem?_take_of_lt hi]
  rw [← Array.getElem?_toList, h2, gM, gE hi, YthjiacmhhpfokaaGreat.dg_of_lt hi]
  rfl
set_option maxRecDepth 100000 in
set_option maxHeartbeats 4000000 in
theorem large_any (w : World) (A : Option Addr) (c : Nat) (xs : List Nat) (ha : Num w A xs) (hn : xs.length ≤ 8000000) (hc : xs.length ≤ c) :
  Calls tz 207 #[.slice A xs.length c] w (YthjiacmhhpfokaaGreat.RetN w (val xs)) := by
 have HT := lh (trim_any w A c xs ha (by omega) hc)
 have hdl := dig_length_val ha.1
 obtain ⟨n, hnv⟩ : ∃ n, val xs = n := ⟨_, rfl⟩
 rw [hnv] at HT hdl
 rw [hnv]
 clear ha hnv
 obtain ⟨i0, hi0, hz0, hz1, hz2⟩ := info_parts YthjiacmhhpfokaaGreat.info_u64
 go_enter Tryz.func207, Tryz.ntmps207
 go_wp2_with fail
 refine HT.out.mono ?_
 rintro e w' ⟨A', c', rfl, hc', ha', rfl⟩
 have HA := lh ha'
 clear ha' HT
 go_wp2_with fail
 go_loopw [3, 4] (fun v i wr => ∃ m : Nat, (m = 0 ∨ 8 * (m - 1) < (dig n).length) ∧ i = .int .i64 ((8 * m : Nat) : Int) ∧ wr.ownsRow w.heap.size 164 1 v m ((pack (dig n) m).map dcellN) ∧ Below w.heap.size w wr) (fun _ i _ => (dig n).length - (intOf i).toNat)
 case atStart => exact ⟨0, .inl rfl, rfl, World.ownsRow_nil _ _ _ _, Below.refl _ _⟩
 case round =>
  obtain ⟨m, hm, rfl, hown, hbel⟩ := hrel
  by_cases hlt : 8 * m < (dig n).length
  ·have hlt' : ((8 * m : Nat) : Int) < ((dig n).length : Int) := by omega
   have HOWN := lh hown
   have HBEL := lh hbel
   obtain ⟨i, hi⟩ : ∃ i, 8 * m = i := ⟨_, rfl⟩
   rewrite [hi] at hlt hlt'
   rewrite [hi]
   have HI := lh hi
   clear hown hbel hi hm
   go_wp2_with fail
   go_loop [5, 6] (fun x k => ∃ j : Nat, j ≤ 8 ∧ x = .int .u64 ((chunk (dig n) i j : Nat) : Int) ∧ k = .int .i64 ((j : Int) - 1)) (fun _ k => (intOf k + 1).toNat)
   case atStart => exact ⟨8, lR _, by rw [chunk_end]; rfl, rfl⟩
   case round =>
    obtain ⟨j, hj, rfl, rfl⟩ := hrel
    cases j with
    | zero =>
     have hb := HBEL.out.size
     have hch := chunk_lt (dig_digs n) i 0 (by omega)
     have HSTEP : Hid ((pack (dig n) m).map dcellN ++ [.int .u64 ((chunk (dig n) i 0 : Nat) : Int)] = (pack (dig n) (m + 1)).map dcellN) := by
      show _ = _
      rw [pack, HI.out, List.map_append]
      rfl
     obtain ⟨X, hX⟩ : ∃ X, chunk (dig n) i 0 = X := ⟨_, rfl⟩
     rewrite [hX] at HSTEP
     rewrite [hX]
     have hm8 : m ≤ 1000000 := by have := HI.out; omega
     have hi8 : IntKind.i64.wrap ((i : Int) + 8) = ((i : Int) + 8) := IntWalk.i64_in _ (by omega)
     clear hch hX
     go_wp2_with ((at_builtin; refine wpList_append_own _ rfl (.tmp 36) (.tmp 38) 23 rfl w.heap.size 164 i0 (.int .u64 0) 1 8 YthjiacmhhpfokaaGreat.under_u64s hi0 hz0 hz1 hz2 rfl (by decide) _ _ _ rfl (HOWN.out.alloc _) ⟨wr.heap.size, 0, none⟩ 1 1 [.int .u64 ((X : Nat) : Int)] rfl rfl (app_cell _ _ _) (app_one _ _) (by unfold maxLen; omega) (by omega) (by simp; omega) ?_); intro v' w1 hown' hgrow hnil)
     have HOWN' := lh hown'
     rw [HSTEP.out] at HOWN'
     have HBEL' := lh (below_app HBEL.out hb (lR _) HOWN.out hgrow)
     clear hown' hgrow hnil
     go_wp2_with fail
     go_roundw
     case rel => exact ⟨m + 1, .inr (by have := HI.out; omega), by rw [← HI.out]; go_num, HOWN'.out, HBEL'.out⟩
     case measure => simp [intOf]; omega
    | succ q =>
     have hq8 : q < 8 := by omega
     have hcs := chunk_step (dig n) i q hq8
     have hc1 := chunk_lt (dig_digs n) i (q + 1) hj
     have hc0 := chunk_lt (dig_digs n) i q (by omega)
     have hp : 256 ^ (8 - q) ≤ 256 ^ 8 := Nat.pow_le_pow_right (by omega) (by omega)
     have hp8 : 256 ^ 8 = 18446744073709551616 := by decide
     rewrite [show (((q + 1 : Nat) : Int) - 1) = (q : Int) by omega]
     have HCS := lh hcs
     obtain ⟨R, hR⟩ : ∃ R, chunk (dig n) i (q + 1) = R := ⟨_, rfl⟩
     obtain ⟨R0, hR0⟩ : ∃ R0, chunk (dig n) i q = R0 := ⟨_, rfl⟩
     rewrite [hR] at HCS
     rewrite [hR0] at HCS hc0
     rewrite [hR]
     have hR64 : R0 < 18446744073709551616 := by rw [← hp8]; exact Nat.lt_of_lt_of_le hc0 hp
     have HR0 := lh hR0
     have e1 : IntKind.u64.wrap ((R : Int) * 256) = (R : Int) * 256 := by
      have := HCS.out
      rw [IntKind.wrap_u64]; omega
     have eiq : IntKind.i64.wrap ((i : Int) + (q : Int)) = ((i + q : Nat) : Int) := by
      have h := IntWalk.i64_in ((i : Int) + (q : Int)) (by omega)
      rw [h]; omega
     clear hcs hc1 hc0 hp hp8 hR hR0 hj
     by_cases hin : i + q < (dig n).length
     ·have hin' : ((i + q : Nat) : Int) < ((dig n).length : Int) := by omega
      obtain ⟨b1, o1, rfl, hb1, hcell⟩ := HA.out.at_ (by omega)
      have hx := (HBEL.out.cell (p := ⟨b1, o1 + (i + q), none⟩) hb1).trans (hcell (i + q) hin)
      have hdl2 := dg_lt (dig_digs n) (i + q)
      obtain ⟨d, hd⟩ : ∃ d, dg (dig n) (i + q) = d := ⟨_, rfl⟩
      rewrite [hd] at hx hdl2 HCS
      rw [B64_eq] at hdl2
      have e2 : IntKind.u64.wrap ((d : Nat) : Int) = (d : Int) := by rw [IntKind.wrap_u64]; omega
      have e3 : IntKind.u64.wrap ((R : Int) * 256 + (d : Int)) = (R : Int) * 256 + (d : Int) := by
       have := HCS.out
       rw [IntKind.wrap_u64]; omega
      clear hcell hd
      go_wp2_with fail
      go_round
      case rel => exact ⟨q, by omega, by rw [HR0.out, HCS.out]; congr 1; omega, rfl⟩
      case measure => simp [intOf] <;> omega
     ·have hin' : ¬ ((i + q : Nat) : Int) < ((dig n).length : Int) := by omega
      rewrite [dg_of_ge (by omega)] at HCS
      clear e1
      have e1 : IntKind.u64.wrap ((R : Int) * 256) = (R : Int) * 256 := by
       have := HCS.out
       rw [IntKind.wrap_u64]; omega
      go_wp2_with fail
      go_round
      case rel => exact ⟨q, by omega, by rw [HR0.out, HCS.out]; congr 1; omega, rfl⟩
      case measure => simp [intOf] <;> omega
  ·have hlt' : ¬ ((8 * m : Nat) : Int) < ((dig n).length : Int) := by omega
   have HPA := lh (pack_all (n := n) (m := m) (by omega) hm)
   rw [HPA.out] at hown
   have hml : m = (YthjiacmhhpfokaaGreat.dig n).length := by rw [← HPA.out, pack_length]
   obtain ⟨A2, c2, rfl, hc2, hnum⟩ := num_of_own64 (YthjiacmhhpfokaaGreat.dig_digs n) hown
   have HN2 := lh hnum
   have HBEL := lh hbel
   obtain ⟨i, hi⟩ : ∃ i, 8 * m = i := ⟨_, rfl⟩
   rewrite [hi] at hlt'
   rewrite [hi]
   clear hown hbel hnum hm hlt hml hi
   go_wp2_with fail
   go_ret
   exact ⟨A2, c2, rfl, hc2, HN2.out, HBEL.out⟩
end E

namespace E
open YthjiacmhhpfokaaGreat renaming val → valN
open Go.RowKit
set_option maxHeartbeats 4000000 in
theorem cmp_any (w : World) (A B : Option Addr) (c d a b : Nat) (ha : Num w A (dig a)) (hb : Num w B (dig b)) (hn : (dig a).length ≤ 16000000) (hm : (dig b).length ≤ 16000000) :
  Calls tz 213 #[.slice A (dig a).length c, .slice B (dig b).length d] w (RetQ w (cmpv a b)) := by
 have HA := lh ha
 have HB := lh hb
 have hm' := hm
 clear ha hb hm'
 by_cases hle : (dig a).length = (dig b).length
 ·have HL := lh hle
  have hbe : (((dig a).length : Int) != ((dig b).length : Int)) = false := by rw [hle]; simp
  clear hle
  go_enter Tryz.func213, Tryz.ntmps213
  go_wp2_with fail
  go_loopw [5] (fun i wr => ∃ k : Nat, k ≤ (dig a).length ∧ i = .int .i64 ((k : Int) - 1) ∧ (∃ q, wr = w.drewN q) ∧ Hid ((dig a).drop k = (dig b).drop k)) (fun i _ => (intOf i + 1).toNat)
  case atStart => exact ⟨(dig a).length, lR _, rfl, ⟨0, rfl⟩, by show _ = _; rw [List.drop_length, HL.out, List.drop_length]⟩
  case round =>
   obtain ⟨k, hk, rfl, ⟨q, rfl⟩, heq⟩ := hrel
   cases k with
   | zero =>
    have hv : Hid (a = b) := by
     show a = b
     have h := heq.out
     rw [List.drop_zero, List.drop_zero] at h
     exact dig_inj h
    clear heq
    go_wp2_with fail
    go_ret
    exact ⟨by rw [YthjiacmhhpfokaaGreat.cmpv_eq hv.out]; rfl, _, rfl⟩
   | succ k =>
    rewrite [show (((k + 1 : Nat) : Int) - 1) = (k : Int) by omega]
    obtain ⟨b1, o1, rfl, _, hc1⟩ := HA.out.at_ (by omega)
    obtain ⟨b2, o2, rfl, _, hc2⟩ := HB.out.at_ (by rw [← HL.out]; omega)
    have h1 := hc1 k (by omega)
    have h2 := hc2 k (by rw [← HL.out]; omega)
    have hl1 : (k : Int) < ((dig a).length : Int) := by omega
    have hl2 : (k : Int) < ((dig b).length : Int) := by rw [← HL.out]; omega
    obtain ⟨x, hx⟩ : ∃ x, dg (dig a) k = x := ⟨_, rfl⟩
    obtain ⟨y, hy⟩ : ∃ y, dg (dig b) k = y := ⟨_, rfl⟩
    rcases Nat.lt_trichotomy x y with hd | hd | hd
    ·have HV : Hid (a < b) := by
      have := val_lt_of_part (dig_digs a) HL.out (i := k) (by omega) heq.out (by rw [hx, hy]; exact hd)
      rwa [val_dig, val_dig] at this
     have g1 : (x : Int) < (y : Int) := by omega
     rewrite [hx] at h1
     rewrite [hy] at h2
     clear hc1 hc2 heq hx hy hd
     go_wp2_with fail
     go_quiet (fail)
     go_wp2_with fail
     go_ret
     exact ⟨by rw [YthjiacmhhpfokaaGreat.cmpv_lt HV.out]; rfl, _, by first | rfl | rw [World.drewN_drewN]⟩
    ·have HE : Hid ((dig a).drop k = (dig b).drop k) := by
      show _ = _
      rw [drop_pred (xs := dig a) (by omega), drop_pred (xs := dig b) (by rw [← HL.out]; omega), hx, hy, hd, heq.out]
     have g1 : ¬ (x : Int) < (y : Int) := by omega
     have g2 : ¬ (y : Int) < (x : Int) := by omega
     rewrite [hx] at h1
     rewrite [hy] at h2
     clear hc1 hc2 heq hx hy hd
     go_wp2_with fail
     go_quiet (fail)
     go_wp2_with fail
     go_quiet (fail)
     go_wp2_with fail
     go_roundw
     case rel => exact ⟨k, by omega, rfl, ⟨_, rfl⟩, HE⟩
     case measure => simp [intOf]
    ·have HV : Hid (b < a) := by
      have := val_lt_of_part (dig_digs b) HL.out.symm (i := k) (by rw [← HL.out]; omega) heq.out.symm (by rw [hx, hy]; exact hd)
      rwa [val_dig, val_dig] at this
     have g1 : ¬ (x : Int) < (y : Int) := by omega
     have g2 : (y : Int) < (x : Int) := by omega
     rewrite [hx] at h1
     rewrite [hy] at h2
     clear hc1 hc2 heq hx hy hd
     go_wp2_with fail
     go_quiet (fail)
     go_wp2_with fail
     go_quiet (fail)
     go_wp2_with fail
     go_ret
     exact ⟨by rw [YthjiacmhhpfokaaGreat.cmpv_gt HV.out]; rfl, _, by first | rfl | rw [World.drewN_drewN, World.drewN_drewN]⟩
 ·have hbe : (((dig a).length : Int) != ((dig b).length : Int)) = true := by rw [bne_iff_ne]; omega
  by_cases hlt : (dig a).length < (dig b).length
  ·have HV := lh (YthjiacmhhpfokaaGreat.cmpv_lt (lt_of_dig_length_lt hlt))
   have g1 : ((dig a).length : Int) < ((dig b).length : Int) := by omega
   clear hlt hle
   go_enter Tryz.func213, Tryz.ntmps213
   go_wp2_with fail
   go_ret
   exact ⟨by rw [HV.out]; rfl, 0, rfl⟩
  ·have HV := lh (YthjiacmhhpfokaaGreat.cmpv_gt (lt_of_dig_length_lt (show (dig b).length < (dig a).length by omega)))
   have g1 : ¬ ((dig a).length : Int) < ((dig b).length : Int) := by omega
   clear hlt hle
   go_enter Tryz.func213, Tryz.ntmps213
   go_wp2_with fail
   go_ret
   exact ⟨by rw [HV.out]; rfl, 0, rfl⟩
theorem Cmp_any (w : World) (A B : Option Addr) (c d : Nat) (xs ys : List Nat) (ha : YthjiacmhhpfokaaGreat.Num w A xs) (hb : YthjiacmhhpfokaaGreat.Num w B ys) (hn : xs.length ≤ 1000000) (hm : ys.length ≤ 1000000) :
  Calls tz 184 #[.slice A xs.length c, .slice B ys.length d] w (YthjiacmhhpfokaaGreat.RetI w (cmpv (valN xs) (valN ys))) := by
 have HB := lh hb
 have hl1 : (dig (valN xs)).length ≤ 8000000 := by
  have h := dig_length_val (small_digs xs); rw [small_val ha.1, small_length] at h; omega
 have hl2 : (dig (valN ys)).length ≤ 8000000 := by
  have h := dig_length_val (small_digs ys); rw [small_val hb.1, small_length] at h; omega
 have H1 := lh (small_any w A c xs ha hn)
 clear ha hb
 go_enter Tryz.func184, Tryz.ntmps184
 go_wp2_with fail
 refine H1.out.mono ?_
 rintro e w1 ⟨A1, c1, rfl, hc1, h1, hb1⟩
 have HN1 := lh h1
 have HB1 := lh hb1
 have H2 := lh (small_any w1 B d ys (HB.out.below hb1) hm)
 clear h1 hb1 H1
 go_wp2_with fail
 refine H2.out.mono ?_
 rintro e w2 ⟨A2, c2, rfl, hc2, h2, hb2⟩
 have H3 := lh (cmp_any w2 A1 A2 c1 c2 _ _ (HN1.out.below hb2) h2 (by omega) (by omega))
 have HB2 := lh (HB1.out.trans (hb2.mono HB1.out.size))
 clear h2 hb2 H2 HN1 HB1
 go_wp2_with fail
 refine H3.out.mono ?_
 rintro e w3 ⟨rfl, q, rfl⟩
 go_wp2_with fail
 go_ret
 exact ⟨rfl, below_drewN HB2.out q⟩
end E

namespace E
open Go.RowKit
theorem digs_sub {a b m r : Nat} {zs : List Nat} (hle : b ≤ a) (hz : Digs zs) (hl : zs.length = (dig a).length) (hr : r ≤ 1) (hm : m = (dig a).length) (h : val zs + val ((dig b).take m) = val ((dig a).take m) + B64 ^ m * r) : val zs = a - b := by
 subst hm
 rw [List.take_length, val_dig] at h
 have hlb := dig_length_mono hle
 rw [List.take_of_length_le hlb, val_dig] at h
 have h1 := val_lt hz
 rw [hl] at h1
 rcases Nat.eq_zero_or_pos r with h0 | h0
 ·rw [h0, Nat.mul_zero] at h; omega
 ·have : r = 1 := by omega
  rw [this, Nat.mul_one] at h
  omega
def RetF (w : World) (n : Nat) (e : Ending) (w' : World) : Prop :=
 ∃ A c, e = .returned (.slice A (dig n).length c) ∧ (dig n).length ≤ c ∧ Num w' A (dig n) ∧ Below w.heap.size w w' ∧ ∀ p, A = some p → w.heap.size ≤ p.block
set_option maxRecDepth 100000 in
set_option maxHeartbeats 4000000 in
theorem sub_new (w : World) (A B : Option Addr) (c d a b : Nat) (ha : Num w A (dig a)) (hb : Num w B (dig b)) (hle : b ≤ a) (hn : (dig a).length ≤ 16000000) (hm : (dig b).length ≤ 16000000) :
  Calls tz 214 #[.slice A (dig a).length c, .slice B (dig b).length d] w (RetF w (a - b)) := by
 have HA := lh ha
 have HB := lh hb
 have HLE := lh hle
 clear ha hb hle
 obtain ⟨i0, hi0, hz0, hz1, hz2⟩ := info_parts info_u64
 go_enter Tryz.func214, Tryz.ntmps214
 go_wp2_with fail
 go_loopw [5, 6, 7] (fun v br i wr => ∃ (k r : Nat) (zs : List Nat), k ≤ (dig a).length ∧ r ≤ 1 ∧ i = .int .i64 k ∧ br = .int .i64 r ∧ zs.length = k ∧ Digs zs ∧ Hid (val zs + val ((dig b).take k) = val ((dig a).take k) + B64 ^ k * r) ∧
   wr.ownsRow w.heap.size 3 1 v k (zs.map dcell) ∧ Below w.heap.size w wr) (fun _ _ i _ => (dig a).length - (intOf i).toNat)
 case atStart => exact ⟨0, 0, [], Nat.zero_le _, Nat.zero_le _, rfl, rfl, rfl, Digs.nil, by show _ = _; simp [val_nil], World.ownsRow_nil _ _ _ _, Below.refl _ _⟩
 case round =>
  obtain ⟨k, r, zs, hk, hr, rfl, rfl, hzl, hzd, hv, hown, hbel⟩ := hrel
  by_cases hlt : k < (dig a).length
  ·have hlt' : (k : Int) < ((dig a).length : Int) := by omega
   obtain ⟨b1, o1, rfl, hb1, hcell⟩ := HA.out.at_ (by omega)
   have hx := (hbel.cell (p := ⟨b1, o1 + k, none⟩) hb1).trans (hcell k hlt)
   have hxd := dg_lt (dig_digs a) k
   have hyd := dg_lt (dig_digs b) k
   have hva := val_take_dg (dig a) k
   have hvb := val_take_dg (dig b) k
   obtain ⟨x, hxe⟩ : ∃ x, dg (dig a) k = x := ⟨_, rfl⟩
   obtain ⟨y, hye⟩ : ∃ y, dg (dig b) k = y := ⟨_, rfl⟩
   rewrite [hxe] at hx hxd hva
   rewrite [hye] at hyd hvb
   rw [B64_eq] at hxd hyd
   obtain ⟨E1, hE1⟩ : ∃ E1 : Int, (x : Int) - (r : Int) = E1 := ⟨_, rfl⟩
   by_cases hy : k < (dig b).length
   ·have hy' : (k : Int) < ((dig b).length : Int) := by omega
    obtain ⟨b2, o2, rfl, hb2, hcell2⟩ := HB.out.at_ (by omega)
    obtain ⟨E2, hE2⟩ : ∃ E2 : Int, E1 - (y : Int) = E2 := ⟨_, rfl⟩
    by_cases hneg : E2 < 0
    ·have hx2 := (hbel.cell (p := ⟨b2, o2 + k, none⟩) hb2).trans (hcell2 k hy)
     rewrite [hye] at hx2
     obtain ⟨dd, hdd⟩ : ∃ dd, x + 256 - r - y = dd := ⟨_, rfl⟩
     have hv2 : Hid (val (zs ++ [dd]) + val ((dig b).take (k + 1)) = val ((dig a).take (k + 1)) + B64 ^ (k + 1) * 1) := by
      show _ = _
      have e := hv.out
      rw [hva, hvb, val_snoc, hzl, Nat.pow_succ, B64_eq] at *
      have e2 : 256 ^ k * dd + 256 ^ k * y + 256 ^ k * r = 256 ^ k * x + 256 ^ k * (256 * 1) := by
       rw [← mA, ← mA, ← mA]; congr 1; omega
      rw [mS]
      omega
     have hzd2 : Hid (Digs (zs ++ [dd])) := hzd.snoc (by rw [B64_eq]; omega)
     have HSTEP : Hid (zs.map dcell ++ [.int .i64 (dd : Int)] = (zs ++ [dd]).map dcell) := by
      show _ = _
      rw [List.map_append]
      rfl
     have HOWN := lh hown
     have HBEL := lh hbel
     have hsz := hbel.size
     have hzl2 : Hid ((zs ++ [dd]).length = k + 1) := by show _ = _; simp [hzl]
     have w1 : IntKind.i64.wrap ((x : Int) - (r : Int)) = E1 := by rw [← hE1]; exact IntWalk.i64_in _ (by omega)
     have w2 : IntKind.i64.wrap (E1 - (y : Int)) = E2 := by rw [← hE2, ← hE1]; exact IntWalk.i64_in _ (by omega)
     have w3 : IntKind.i64.wrap (E2 + 256) = (dd : Int) := by
      have h := IntWalk.i64_in (E2 + 256) (by omega)
      rw [h]; omega
     have hrr := lh hr
     clear hcell hown hbel hxe hye hva hvb hv hzd hyd hzl hxd hdd hr hE1 hcell2 hE2
     go_wp2_with ((at_builtin; refine wpList_append_own _ rfl (.tmp 35) (.tmp 37) 61 rfl w.heap.size 3 i0 (.int .i64 0) 1 8 under_u64s hi0 hz0 hz1 hz2 rfl (by decide) _ _ _ rfl (HOWN.out.alloc _) ⟨wr.heap.size, 0, none⟩ 1 1 [.int .i64 (dd : Int)] rfl rfl (app_cell _ _ _) (app_one _ _) (by unfold maxLen; omega) (by omega) (by simp; omega) ?_); intro v' w1 hown' hgrow hnil)
     have HOWN' := lh hown'
     rw [HSTEP.out] at HOWN'
     have HBEL' := lh (below_app HBEL.out hsz (lR _) HOWN.out hgrow)
     clear hown' hgrow hnil
     go_wp2_with fail
     go_roundw
     case rel => exact ⟨k + 1, 1, zs ++ [dd], by omega, by omega, by go_num, rfl, hzl2.out, hzd2.out, hv2.out, HOWN'.out, HBEL'.out⟩
     case measure => simp [intOf]; omega
    ·have hx2 := (hbel.cell (p := ⟨b2, o2 + k, none⟩) hb2).trans (hcell2 k hy)
     rewrite [hye] at hx2
     obtain ⟨dd, hdd⟩ : ∃ dd, x - r - y = dd := ⟨_, rfl⟩
     have hv2 : Hid (val (zs ++ [dd]) + val ((dig b).take (k + 1)) = val ((dig a).take (k + 1)) + B64 ^ (k + 1) * 0) := by
      show _ = _
      have e := hv.out
      rw [hva, hvb, val_snoc, hzl, Nat.pow_succ, B64_eq] at *
      have e2 : 256 ^ k * dd + 256 ^ k * y + 256 ^ k * r = 256 ^ k * x + 256 ^ k * (256 * 0) := by
       rw [← mA, ← mA, ← mA]; congr 1; omega
      rw [mS]
      omega
     have hzd2 : Hid (Digs (zs ++ [dd])) := hzd.snoc (by rw [B64_eq]; omega)
     have HSTEP : Hid (zs.map dcell ++ [.int .i64 (dd : Int)] = (zs ++ [dd]).map dcell) := by
      show _ = _
      rw [List.map_append]
      rfl
     have HOWN := lh hown
     have HBEL := lh hbel
     have hsz := hbel.size
     have hzl2 : Hid ((zs ++ [dd]).length = k + 1) := by show _ = _; simp [hzl]
     have w1 : IntKind.i64.wrap ((x : Int) - (r : Int)) = E1 := by rw [← hE1]; exact IntWalk.i64_in _ (by omega)
     have w2 : IntKind.i64.wrap (E1 - (y : Int)) = E2 := by rw [← hE2, ← hE1]; exact IntWalk.i64_in _ (by omega)
     have w3 : E2 = (dd : Int) := by omega
     have hrr := lh hr
     clear hcell hown hbel hxe hye hva hvb hv hzd hyd hzl hxd hdd hr hE1 hcell2 hE2
     subst w3
     go_wp2_with ((at_builtin; refine wpList_append_own _ rfl (.tmp 35) (.tmp 37) 61 rfl w.heap.size 3 i0 (.int .i64 0) 1 8 under_u64s hi0 hz0 hz1 hz2 rfl (by decide) _ _ _ rfl (HOWN.out.alloc _) ⟨wr.heap.size, 0, none⟩ 1 1 [.int .i64 (dd : Int)] rfl rfl (app_cell _ _ _) (app_one _ _) (by unfold maxLen; omega) (by omega) (by simp; omega) ?_); intro v' w1 hown' hgrow hnil)
     have HOWN' := lh hown'
     rw [HSTEP.out] at HOWN'
     have HBEL' := lh (below_app HBEL.out hsz (lR _) HOWN.out hgrow)
     clear hown' hgrow hnil
     go_wp2_with fail
     go_roundw
     case rel => exact ⟨k + 1, 0, zs ++ [dd], by omega, by omega, by go_num, rfl, hzl2.out, hzd2.out, hv2.out, HOWN'.out, HBEL'.out⟩
     case measure => simp [intOf]; omega
   ·have hy' : ¬ (k : Int) < ((dig b).length : Int) := by omega
    have hy0 : y = 0 := by rw [← hye]; exact dg_of_ge (by omega)
    subst hy0
    rw [Nat.mul_zero, Nat.add_zero] at hvb
    by_cases hneg : E1 < 0
    ·obtain ⟨dd, hdd⟩ : ∃ dd, x + 256 - r = dd := ⟨_, rfl⟩
     have hv2 : Hid (val (zs ++ [dd]) + val ((dig b).take (k + 1)) = val ((dig a).take (k + 1)) + B64 ^ (k + 1) * 1) := by
      show _ = _
      have e := hv.out
      rw [hva, hvb, val_snoc, hzl, Nat.pow_succ, B64_eq] at *
      have e2 : 256 ^ k * dd + 256 ^ k * r = 256 ^ k * x + 256 ^ k * (256 * 1) := by
       rw [← mA, ← mA]; congr 1; omega
      rw [mS]
      omega
     have hzd2 : Hid (Digs (zs ++ [dd])) := hzd.snoc (by rw [B64_eq]; omega)
     have HSTEP : Hid (zs.map dcell ++ [.int .i64 (dd : Int)] = (zs ++ [dd]).map dcell) := by
      show _ = _
      rw [List.map_append]
      rfl
     have HOWN := lh hown
     have HBEL := lh hbel
     have hsz := hbel.size
     have hzl2 : Hid ((zs ++ [dd]).length = k + 1) := by show _ = _; simp [hzl]
     have w1 : IntKind.i64.wrap ((x : Int) - (r : Int)) = E1 := by rw [← hE1]; exact IntWalk.i64_in _ (by omega)
     have w3 : IntKind.i64.wrap (E1 + 256) = (dd : Int) := by
      have h := IntWalk.i64_in (E1 + 256) (by omega)
      rw [h]; omega
     have hrr := lh hr
     clear hcell hown hbel hxe hye hva hvb hv hzd hyd hzl hxd hdd hr hE1 
     go_wp2_with ((at_builtin; refine wpList_append_own _ rfl (.tmp 35) (.tmp 37) 61 rfl w.heap.size 3 i0 (.int .i64 0) 1 8 under_u64s hi0 hz0 hz1 hz2 rfl (by decide) _ _ _ rfl (HOWN.out.alloc _) ⟨wr.heap.size, 0, none⟩ 1 1 [.int .i64 (dd : Int)] rfl rfl (app_cell _ _ _) (app_one _ _) (by unfold maxLen; omega) (by omega) (by simp; omega) ?_); intro v' w1 hown' hgrow hnil)
     have HOWN' := lh hown'
     rw [HSTEP.out] at HOWN'
     have HBEL' := lh (below_app HBEL.out hsz (lR _) HOWN.out hgrow)
     clear hown' hgrow hnil
     go_wp2_with fail
     go_roundw
     case rel => exact ⟨k + 1, 1, zs ++ [dd], by omega, by omega, by go_num, rfl, hzl2.out, hzd2.out, hv2.out, HOWN'.out, HBEL'.out⟩
     case measure => simp [intOf]; omega
    ·obtain ⟨dd, hdd⟩ : ∃ dd, x - r = dd := ⟨_, rfl⟩
     have hv2 : Hid (val (zs ++ [dd]) + val ((dig b).take (k + 1)) = val ((dig a).take (k + 1)) + B64 ^ (k + 1) * 0) := by
      show _ = _
      have e := hv.out
      rw [hva, hvb, val_snoc, hzl, Nat.pow_succ, B64_eq] at *
      have e2 : 256 ^ k * dd + 256 ^ k * r = 256 ^ k * x + 256 ^ k * (256 * 0) := by
       rw [← mA, ← mA]; congr 1; omega
      rw [mS]
      omega
     have hzd2 : Hid (Digs (zs ++ [dd])) := hzd.snoc (by rw [B64_eq]; omega)
     have HSTEP : Hid (zs.map dcell ++ [.int .i64 (dd : Int)] = (zs ++ [dd]).map dcell) := by
      show _ = _
      rw [List.map_append]
      rfl
     have HOWN := lh hown
     have HBEL := lh hbel
     have hsz := hbel.size
     have hzl2 : Hid ((zs ++ [dd]).length = k + 1) := by show _ = _; simp [hzl]
     have w1 : IntKind.i64.wrap ((x : Int) - (r : Int)) = E1 := by rw [← hE1]; exact IntWalk.i64_in _ (by omega)
     have w3 : E1 = (dd : Int) := by omega
     have hrr := lh hr
     clear hcell hown hbel hxe hye hva hvb hv hzd hyd hzl hxd hdd hr hE1 
     subst w3
     go_wp2_with ((at_builtin; refine wpList_append_own _ rfl (.tmp 35) (.tmp 37) 61 rfl w.heap.size 3 i0 (.int .i64 0) 1 8 under_u64s hi0 hz0 hz1 hz2 rfl (by decide) _ _ _ rfl (HOWN.out.alloc _) ⟨wr.heap.size, 0, none⟩ 1 1 [.int .i64 (dd : Int)] rfl rfl (app_cell _ _ _) (app_one _ _) (by unfold maxLen; omega) (by omega) (by simp; omega) ?_); intro v' w1 hown' hgrow hnil)
     have HOWN' := lh hown'
     rw [HSTEP.out] at HOWN'
     have HBEL' := lh (below_app HBEL.out hsz (lR _) HOWN.out hgrow)
     clear hown' hgrow hnil
     go_wp2_with fail
     go_roundw
     case rel => exact ⟨k + 1, 0, zs ++ [dd], by omega, by omega, by go_num, rfl, hzl2.out, hzd2.out, hv2.out, HOWN'.out, HBEL'.out⟩
     case measure => simp [intOf]; omega
  ·have hlt' : ¬ (k : Int) < ((dig a).length : Int) := by omega
   have hkl : k = (dig a).length := by omega
   have hval := digs_sub HLE.out hzd (by omega) hr hkl hv.out
   have hzl' : zs.length = k := hzl
   obtain ⟨A2, c2, rfl, hc2, hnum⟩ := num_of_own hzd hown
   have HF : Hid (∀ p, A2 = some p → w.heap.size ≤ p.block) := fun p hp => own_block hown p.block (by rw [hp]; rfl)
   have hT := trim_at wr A2 c2 zs hnum (by omega) hc2
   rw [hval] at hT
   have HT := lh hT
   have HBEL := lh hbel
   clear hown hbel hnum hval hv hzl' hT hkl hzl hlt
   go_wp2_with fail
   refine HT.out.mono ?_
   rintro e w4 ⟨c4, rfl, hc4, ha4, rfl⟩
   have HA4 := lh ha4
   clear ha4
   go_wp2_with fail
   go_ret
   exact ⟨A2, c4, rfl, hc4, HA4.out, HBEL.out, HF.out⟩
theorem sub_any (w : World) (A B : Option Addr) (c d a b : Nat) (ha : Num w A (dig a)) (hb : Num w B (dig b)) (hle : b ≤ a) (hn : (dig a).length ≤ 16000000) (hm : (dig b).length ≤ 16000000) :
  Calls tz 214 #[.slice A (dig a).length c, .slice B (dig b).length d] w (RetN w (a - b)) :=
 (sub_new w A B c d a b ha hb hle hn hm).mono fun _ _ ⟨A', c', h1, h2, h3, h4, _⟩ => ⟨A', c', h1, h2, h3, h4⟩
