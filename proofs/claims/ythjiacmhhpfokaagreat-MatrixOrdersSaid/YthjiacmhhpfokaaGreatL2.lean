/- Part 2 of the proof: Mem, Cut, Shelf, Leaf. -/
import Derived.Test.YthjiacmhhpfokaaGreatRows
import Derived.Test.YthjiacmhhpfokaaGreatL1
import Derived.WalkKit
import Derived.WalkSpells
import Derived.WalkLawsBesides
import Derived.Lib.Hide
import Derived.Deep.OwnRows
import Derived.Laws.CopyOwn
import Derived.Laws.Externs
import Derived.Shelf.Small.Bits
import Derived.Shelf.Strconv.Itoa0
import Derived.Shelf.Bits.Mul64
import Derived.Test.YthjiacmhhpfokaaGreatProg
import Derived.Shelf.Spec.BitsCarry
import Derived.IntWalk
import Derived.BigQuiet
import Derived.Deep.QuietTactic
namespace Go.Proofs.YthjiacmhhpfokaaGreat
open Go.RowKit
def Num (w : World) (A : Option Addr) (xs : List Nat) : Prop :=
 Digs xs ∧ (xs ≠ [] → ∃ b off, A = some ⟨b, off, none⟩ ∧ b < w.heap.size ∧ ∀ i, i < xs.length → w.cell? ⟨b, off + i, none⟩ = some (.int .u64 ((dg xs i : Nat) : Int)))
theorem Num.digs {w : World} {A : Option Addr} {xs : List Nat} (h : Num w A xs) : Digs xs := h.1
theorem Num.nil (w : World) (A : Option Addr) : Num w A [] := ⟨Digs.nil, fun h => absurd rfl h⟩
theorem Num.at_ {w : World} {A : Option Addr} {xs : List Nat} (h : Num w A xs) (hp : 0 < xs.length) :
  ∃ b off, A = some ⟨b, off, none⟩ ∧ b < w.heap.size ∧ ∀ i, i < xs.length → w.cell? ⟨b, off + i, none⟩ = some (.int .u64 ((dg xs i : Nat) : Int)) :=
 h.2 (by rintro rfl; simp at hp)
theorem Num.below {w w' : World} {A : Option Addr} {xs : List Nat} (h : Num w A xs) (hb : Below w.heap.size w w') : Num w' A xs :=
 ⟨h.1, fun hn => by
  obtain ⟨b, off, e, hlt, hc⟩ := h.2 hn
  exact ⟨b, off, e, Nat.lt_of_lt_of_le hlt hb.size, fun i hi => (hb.cell (p := ⟨b, off + i, none⟩) hlt).trans (hc i hi)⟩⟩
theorem Num.alloc {w : World} {A : Option Addr} {xs : List Nat} (h : Num w A xs) (o : Obj) : Num (w.alloc o) A xs :=
 h.below ((Below.refl _ _).alloc (Nat.le_refl _) o)
theorem Num.drew {w : World} {A : Option Addr} {xs : List Nat} (h : Num w A xs) : Num w.drew A xs := h
theorem Num.drewN {w : World} {A : Option Addr} {xs : List Nat} (h : Num w A xs) (n : Nat) : Num (w.drewN n) A xs := h
theorem Num.take {w : World} {A : Option Addr} {xs : List Nat} (h : Num w A xs) (k : Nat) : Num w A (xs.take k) :=
 ⟨h.1.take k, fun hn => by
  obtain ⟨b, off, e, hlt, hc⟩ := h.2 (by rintro rfl; simp at hn)
  refine ⟨b, off, e, hlt, fun i hi => ?_⟩
  rw [List.length_take] at hi
  rw [dg_take (by omega)]
  exact hc i (by omega)⟩
def RetN (w : World) (n : Nat) (e : Ending) (w' : World) : Prop :=
 ∃ A c, e = .returned (.slice A (dig n).length c) ∧ (dig n).length ≤ c ∧ Num w' A (dig n) ∧ Below w.heap.size w w'
def RetV (w : World) (n : Nat) (e : Ending) (w' : World) : Prop :=
 ∃ A c, e = .returned (.slice A (dig n).length c) ∧ (dig n).length ≤ c ∧ Num w A (dig n) ∧ w = w'
def RetI (w : World) (n : Int) (e : Ending) (w' : World) : Prop := e = .returned (.int .i64 n) ∧ Below w.heap.size w w'
def RetB (w : World) (b : Bool) (e : Ending) (w' : World) : Prop := e = .returned (.bool b) ∧ Below w.heap.size w w'
def dcell (x : Nat) : Value := .int .u64 (x : Int)
def Blk (w : World) (g : Nat) (xs : List Nat) : Prop := w.heap[g]? = some (.cells (xs.map dcell).toArray 164 (0, 0))
section
variable {w w' : World} {g : Nat} {xs : List Nat}
theorem Blk.lt (h : Blk w g xs) : g < w.heap.size := lt_of_block h
theorem Blk.cell (h : Blk w g xs) {i : Nat} (hi : i < xs.length) : w.cell? ⟨g, i, none⟩ = some (.int .u64 ((dg xs i : Nat) : Int)) := by
 unfold Blk at h
 rw [cell_of_row w g i _ _ _ h, List.getElem?_toArray, List.getElem?_map, List.getElem?_eq_getElem hi, dg_of_lt hi]; rfl
theorem Blk.frozen (h : Blk w g xs) (i : Nat) : w.frozen? ⟨g, i, none⟩ = false := frozen_of_row w g i _ _ h
theorem Blk.of_heap (h : Blk w g xs) (e : w'.heap[g]? = w.heap[g]?) : Blk w' g xs := e.trans h
theorem Blk.below {B : Nat} (h : Blk w g xs) (hb : Below B w w') (hg : g < B) : Blk w' g xs := (hb.block g hg).trans h
theorem Blk.alloc (h : Blk w g xs) (o : Obj) : Blk (w.alloc o) g xs := (Below.heap_alloc w o g h.lt).trans h
theorem Blk.drew (h : Blk w g xs) : Blk w.drew g xs := h
theorem Blk.drewN (h : Blk w g xs) (n : Nat) : Blk (w.drewN n) g xs := h
theorem Blk.set_ (h : Blk w g xs) (i x : Nat) : Blk (w.setCell ⟨g, i, none⟩ (.int .u64 (x : Int))) g (xs.set i x) := by
 unfold Blk at h ⊢
 simp only [World.setCell, Array.getElem?_modify, h]
 simp [dcell, List.map_set]
theorem Blk.far (h : Blk w g xs) {p : Addr} (hp : g ≠ p.block) (u : Value) : Blk (w.setCell p u) g xs := (Below.heap_setCell w p u g hp).trans h
theorem Blk.made (w : World) (n : Nat) : Blk (w.alloc (.cells (madeCells #[.int .u64 0] n) 164)) w.heap.size (List.replicate n 0) := by
 have h1 : madeCells #[.int .u64 0] n = ((List.replicate n 0).map dcell).toArray := by
  apply Array.ext'
  rw [toList_madeCells_one, List.map_replicate]; rfl
 unfold Blk
 rw [heap_alloc_new, h1]
theorem Blk.num (h : Blk w g xs) (hd : Digs xs) : Num w (some ⟨g, 0, none⟩) xs :=
 ⟨hd, fun _ => ⟨g, 0, rfl, h.lt, fun i hi => by rw [Nat.zero_add]; exact h.cell hi⟩⟩
theorem Blk.num_drop (h : Blk w g xs) (hd : Digs xs) (k : Nat) : Num w (some ⟨g, k, none⟩) (xs.drop k) :=
 ⟨hd.drop k, fun _ => ⟨g, k, rfl, h.lt, fun i hi => by
  rw [List.length_drop] at hi
  rw [dg_drop]
  exact h.cell (by omega)⟩⟩
end
theorem info_u64 : (Tryz.prog.info? 164).map (fun i => (i.zero, i.size, i.bytes)) = some (some (.int .u64 0), 1, 8) := by kernel_rfl
theorem under_u64s : Tryz.prog.underlying 23 = some (.slice 164) := by kernel_rfl
theorem run_make_u64 (n : Nat) (hn : n ≤ 35184372088832) (w : World) :
  (Instr.makeSlice 23 (.int .i64 (n : Int)) (.int .i64 (n : Int))).run Tryz.prog w = .ok (.slice (some ⟨w.heap.size, 0, none⟩) n n) (w.alloc (.cells (madeCells #[.int .u64 0] n) 164)) :=
 run_make_row' _ _ _ 8 under_u64s info_u64 rfl .i64 .i64 n (by omega) (by omega) w
theorem run_make_u64' (z : Int) (n : Nat) (hz : z = n) (hn : n ≤ 35184372088832) (w : World) :
  (Instr.makeSlice 23 (.int .i64 z) (.int .i64 z)).run Tryz.prog w = .ok (.slice (some ⟨w.heap.size, 0, none⟩) n n) (w.alloc (.cells (madeCells #[.int .u64 0] n) 164)) := by
 subst hz
 exact run_make_u64 n hn w
theorem Blk.made2 (w : World) (o : Obj) (n : Nat) : Blk ((w.alloc o).alloc (.cells (madeCells #[.int .u64 0] n) 164)) (w.heap.size + 1) (List.replicate n 0) := by
 have h := Blk.made (w.alloc o) n
 rwa [show (w.alloc o).heap.size = w.heap.size + 1 by simp] at h
theorem cell_made2 (w : World) (v : Value) (t : TypeId) {o : Obj} : ((w.alloc (.cells #[v] t)).alloc o).cell? ⟨w.heap.size, 0, none⟩ = some v :=
 cell_of_one (heap_alloc2_old w _ _)
structure Only (g : Nat) (w w' : World) : Prop where
 os : w'.os = w.os
 tape : w'.tape = w.tape
 output : w'.output = w.output
 size : w'.heap.size = w.heap.size
 block : ∀ i, i ≠ g → w'.heap[i]? = w.heap[i]?
theorem Only.refl (g : Nat) (w : World) : Only g w w := ⟨rfl, rfl, rfl, rfl, fun _ _ => rfl⟩
theorem Only.drewN {g : Nat} {w w' : World} (h : Only g w w') (n : Nat) : Only g w (w'.drewN n) := ⟨h.os, h.tape, h.output, h.size, h.block⟩
theorem Only.set {g : Nat} {w w' : World} (h : Only g w w') (i : Nat) (v : Value) : Only g w (w'.setCell ⟨g, i, none⟩ v) :=
 ⟨h.os, h.tape, h.output, by simpa [World.setCell] using h.size, fun j hj => (Below.heap_setCell w' _ v j hj).trans (h.block j hj)⟩
theorem Only.trans {g : Nat} {a b c : World} (h : Only g a b) (k : Only g b c) : Only g a c :=
 ⟨k.os.trans h.os, k.tape.trans h.tape, k.output.trans h.output, k.size.trans h.size, fun i hi => (k.block i hi).trans (h.block i hi)⟩
theorem Only.below {g B : Nat} {w w' : World} (h : Only g w w') (hB : B ≤ g) : Below B w w' :=
 ⟨h.os, h.tape, h.output, Nat.le_of_eq h.size.symm, fun i hi => h.block i (by omega)⟩
theorem Only.cell {g : Nat} {w w' : World} (h : Only g w w') {p : Addr} (hp : p.block ≠ g) : w'.cell? p = w.cell? p := World.cell?_of_block (h.block p.block hp)
theorem Only.blk {g g' : Nat} {w w' : World} (h : Only g w w') {xs : List Nat} (hb : Blk w g' xs) (hne : g' ≠ g) : Blk w' g' xs := (h.block g' hne).trans hb
end Go.Proofs.YthjiacmhhpfokaaGreat

namespace Go.Proofs.YthjiacmhhpfokaaGreat
set_option maxHeartbeats 400000
open Go.RowKit
theorem order_t (w : World) : Calls Tryz.prog 205 #[.bool true] w fun e w' => e = .returned (.int .i64 (-1)) ∧ w = w' := by
 go_enter Tryz.func205, Tryz.ntmps205
 go_wp2
 go_ret
 exact ⟨rfl, rfl⟩
theorem order_f (w : World) : Calls Tryz.prog 205 #[.bool false] w fun e w' => e = .returned (.int .i64 1) ∧ w = w' := by
 go_enter Tryz.func205, Tryz.ntmps205
 go_wp2
 go_ret
 exact ⟨rfl, rfl⟩
theorem cut_any (w : World) (A : Option Addr) (c : Nat) (xs : List Nat) (h : Num w A xs) (hn : xs.length ≤ 1099511627776) (hc : xs.length ≤ c) :
  Calls Tryz.prog 199 #[.slice A xs.length c] w (RetV w (val xs)) := by
 have hd := h.1
 have HX := Lib.hid h
 clear h
 go_enter Tryz.func199, Tryz.ntmps199
 go_wp2
 go_loop [3] (fun n => ∃ k : Nat, k ≤ xs.length ∧ n = .int .i64 k ∧ Hid (val (xs.take k) = val xs)) (fun n => (intOf n).toNat)
 case atStart => exact ⟨xs.length, Nat.le_refl _, rfl, by rw [List.take_length]; exact rfl⟩
 case round =>
  obtain ⟨k, hk, rfl, hv⟩ := hrel
  by_cases h0 : k = 0
  ·subst h0
   go_wp2
   go_ret
   have h1 := dig_take_of hd hk hv.out (.inl rfl)
   rw [List.take_zero] at h1
   refine ⟨none, 0, ?_, by rw [h1]; simp, by rw [h1]; exact Num.nil _ _, rfl⟩
   rw [h1]; rfl
  ·obtain ⟨b, off, rfl, hb, hcell⟩ := HX.out.at_ (by omega)
   have hck := hcell (k - 1) (by omega)
   clear hcell
   by_cases hz : dg xs (k - 1) = 0
   ·have hz' : (((dg xs (k - 1) : Nat) : Int) == 0) = true := by rw [hz]; rfl
    have HZ := Lib.hid hz
    clear hz
    go_wp2
    go_round
    case rel => exact ⟨k - 1, by omega, by congr 1; omega, (val_take_pred h0 HZ.out).trans hv.out⟩
    case measure => simp [intOf]; omega
   ·have hz' : (((dg xs (k - 1) : Nat) : Int) == 0) = false := by
     rw [beq_eq_false_iff_ne]; omega
    go_wp2
    go_ret
    have h1 := dig_take_of hd hk hv.out (.inr hz)
    have h2 : (dig (val xs)).length = k := by rw [h1, List.length_take]; omega
    refine ⟨some ⟨b, off, none⟩, c, ?_, by omega, by rw [h1]; exact HX.out.take k, rfl⟩
    rw [h2]; rfl
end Go.Proofs.YthjiacmhhpfokaaGreat

namespace Go.Proofs
open Go.Shelf
def Tryz.lays134_ren : Go.Shelf.Ren := ⟨fun | 134 => 249 | 129 => 217 | n => n, fun | 53 => 164 | 3 => 3 | 4 => 4 | 46 => 205 | 5 => 5 | 9 => 9 | n => n, fun | n => n⟩
theorem Tryz.lays134 : Go.Proofs.Lays.n134 Tryz.prog Tryz.lays134_ren := {
 mixed := by kernel_rfl
 f129 := Tryz.func217.trans (congrArg some (by kernel_rfl))
 f134 := Tryz.func249.trans (congrArg some (by kernel_rfl))
 t3 := Tryz.underlying3
 a3 := Tryz.isAgg3
 z3 := Tryz.sizeOf3
 v3 := Tryz.zeroValue3
 t4 := Tryz.underlying4
 a4 := Tryz.isAgg4
 z4 := Tryz.sizeOf4
 v4 := Tryz.zeroValue4
 t5 := Tryz.underlying5
 a5 := Tryz.isAgg5
 z5 := Tryz.sizeOf5
 v5 := Tryz.zeroValue5
 t9 := Tryz.underlying9
 a9 := Tryz.isAgg9
 z9 := Tryz.sizeOf9
 v9 := Tryz.zeroValue9
 t46 := Tryz.underlying205
 a46 := Tryz.isAgg205
 z46 := Tryz.sizeOf205
 v46 := Tryz.zeroValue205
 t53 := Tryz.underlying164
 a53 := Tryz.isAgg164
 z53 := Tryz.sizeOf164
 v53 := Tryz.zeroValue164 }
theorem Tryz.bits_LeadingZeros64 (x : Int) (w : World) (h0 : 0 ≤ x) (h1 : x ≤ 18446744073709551615) :
  Calls Tryz.prog 249 #[.int .u64 x] w fun e w' => e = .returned (.int .i64 (64 - (Lib.bitLen x.toNat : Int))) ∧ w' = w := Any.bits_LeadingZeros64 Tryz.lays134 x w h0 h1
def Tryz.lays129_ren : Go.Shelf.Ren := ⟨fun | 129 => 217 | n => n, fun | 53 => 164 | 3 => 3 | 4 => 4 | 46 => 205 | 5 => 5 | 9 => 9 | n => n, fun | n => n⟩
theorem Tryz.lays129 : Go.Proofs.Lays.n129 Tryz.prog Tryz.lays129_ren := {
 mixed := by kernel_rfl
 f129 := Tryz.func217.trans (congrArg some (by kernel_rfl))
 t3 := Tryz.underlying3
 a3 := Tryz.isAgg3
 z3 := Tryz.sizeOf3
 v3 := Tryz.zeroValue3
 t4 := Tryz.underlying4
 a4 := Tryz.isAgg4
 z4 := Tryz.sizeOf4
 v4 := Tryz.zeroValue4
 t5 := Tryz.underlying5
 a5 := Tryz.isAgg5
 z5 := Tryz.sizeOf5
 v5 := Tryz.zeroValue5
 t9 := Tryz.underlying9
 a9 := Tryz.isAgg9
 z9 := Tryz.sizeOf9
 v9 := Tryz.zeroValue9
 t46 := Tryz.underlying205
 a46 := Tryz.isAgg205
 z46 := Tryz.sizeOf205
 v46 := Tryz.zeroValue205
 t53 := Tryz.underlying164
 a53 := Tryz.isAgg164
 z53 := Tryz.sizeOf164
 v53 := Tryz.zeroValue164 }
theorem Tryz.bits_Len64 (x : Int) (w : World) (h0 : 0 ≤ x) (h1 : x ≤ 18446744073709551615) :
  Calls Tryz.prog 217 #[.int .u64 x] w fun e w' => e = .returned (.int .i64 (Lib.bitLen x.toNat)) ∧ w' = w := Any.bits_Len64 Tryz.lays129 x w h0 h1
def Tryz.lays264_ren : Go.Shelf.Ren := ⟨fun | 264 => 243 | n => n, fun | 53 => 164 | 46 => 205 | n => n, fun | n => n⟩
theorem Tryz.lays264 : Go.Proofs.Lays.n264 Tryz.prog Tryz.lays264_ren := {
 mixed := by kernel_rfl
 f264 := Tryz.func243.trans (congrArg some (by kernel_rfl))
 t46 := Tryz.underlying205
 a46 := Tryz.isAgg205
 z46 := Tryz.sizeOf205
 v46 := Tryz.zeroValue205
 t53 := Tryz.underlying164
 a53 := Tryz.isAgg164
 z53 := Tryz.sizeOf164
 v53 := Tryz.zeroValue164 }
open Go.RowKit Go.Lib in
theorem Tryz.bits_Mul64 (x y : Nat) (hx : x < 18446744073709551616) (hy : y < 18446744073709551616) (w : World) :
  Calls Tryz.prog 243 #[.int .u64 x, .int .u64 y] w fun e w' => e = .returned (.tuple #[.int .u64 ((x * y / 18446744073709551616 : Nat) : Int), .int .u64 ((x * y % 18446744073709551616 : Nat) : Int)]) ∧ w' = w := Any.bits_Mul64 Tryz.lays264 x y hx hy w
end Go.Proofs

namespace Go.Proofs.YthjiacmhhpfokaaGreat
open Go.RowKit
theorem run_add (x y c : Nat) (hc : c ≤ 1) (w : World) :
  (callFunc 204 #[.int .u64 x, .int .u64 y, .int .u64 c]).run Tryz.prog w =
   .ok (.value (.tuple #[.int .u64 ((lo (x + y + c) : Nat) : Int), .int .u64 ((hi (x + y + c) : Nat) : Int)])) w := by
 unfold lo hi
 rw [B64_eq, run_callFunc_extern Tryz.func204 (by kernel_rfl) (by kernel_rfl) (by kernel_rfl) (e := add64Entry) (by kernel_rfl), run_add64 x y c (by omega) (by omega) (by omega) (by omega)]
 simp only [Result.andThen]
 congr 5 <;> omega
theorem run_add0 (x y : Nat) (w : World) :
  (callFunc 204 #[.int .u64 x, .int .u64 y, .int .u64 0]).run Tryz.prog w =
   .ok (.value (.tuple #[.int .u64 ((lo (x + y) : Nat) : Int), .int .u64 ((hi (x + y) : Nat) : Int)])) w := run_add x y 0 (by omega) w
theorem run_sub (x y b : Nat) (hb : b ≤ 1) (w : World) :
  (callFunc 206 #[.int .u64 x, .int .u64 y, .int .u64 b]).run Tryz.prog w =
   .ok (.value (.tuple #[.int .u64 ((slo x y b : Nat) : Int), .int .u64 ((sbo x y b : Nat) : Int)])) w := by
 unfold slo sbo
 rw [B64_eq, run_callFunc_extern Tryz.func206 (by kernel_rfl) (by kernel_rfl) (by kernel_rfl) (e := sub64Entry) (by kernel_rfl), run_sub64 x y b hb]
 rfl
theorem run_sub0 (x y : Nat) (w : World) :
  (callFunc 206 #[.int .u64 x, .int .u64 y, .int .u64 0]).run Tryz.prog w =
   .ok (.value (.tuple #[.int .u64 ((slo x y 0 : Nat) : Int), .int .u64 ((sbo x y 0 : Nat) : Int)])) w := run_sub x y 0 (by omega) w
theorem mul64_any (x y : Nat) (hx : x < B64) (hy : y < B64) (w : World) :
  Calls Tryz.prog 243 #[.int .u64 x, .int .u64 y] w fun e w' => e = .returned (.tuple #[.int .u64 ((hi (x * y) : Nat) : Int), .int .u64 ((lo (x * y) : Nat) : Int)]) ∧ w = w' :=
 (Tryz.bits_Mul64 x y hx hy w).mono fun _ _ ⟨he, hw⟩ => ⟨he, hw.symm⟩
theorem u64_small {n : Nat} (h : n < B64) : IntKind.u64.wrap (n : Int) = (n : Int) := by
 rw [IntKind.wrap_u64]
 rw [B64_eq] at h
 omega
set_option maxHeartbeats 400000 in
theorem product_any (x y c : Nat) (hx : x < B64) (hy : y < B64) (hc : c < B64) (w : World) :
  Calls Tryz.prog 223 #[.int .u64 x, .int .u64 y, .int .u64 c] w fun e w' =>
   e = .returned (.tuple #[.int .u64 ((lo (x * y + c) : Nat) : Int), .int .u64 ((hi (x * y + c) : Nat) : Int)]) ∧ w = w' := by
 have ha := run_add0 (lo (x * y)) c
 have HU : Hid (IntKind.u64.wrap (((hi (x * y) : Nat) : Int) + ((hi (lo (x * y) + c) : Nat) : Int)) = ((hi (x * y + c) : Nat) : Int)) := by
  have h := u64_small (hi_prod_lt hx hy hc)
  rw [← hi_mul_add, Int.natCast_add] at h
  rw [← hi_mul_add, Int.natCast_add]
  exact h
 go_enter Tryz.func223, Tryz.ntmps223
 go_wp2_with (go_at_call 243; refine (mul64_any _ _ hx hy _).mono ?_; rintro e w' ⟨rfl, rfl⟩)
 go_outline
 go_ret2
 rw [HU.out, lo_mul_add]
 exact ⟨rfl, rfl⟩
