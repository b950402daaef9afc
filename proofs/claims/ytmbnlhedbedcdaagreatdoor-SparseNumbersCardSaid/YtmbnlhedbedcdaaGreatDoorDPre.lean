/- DPre: several texts in one. -/
import Derived.Test.YtmbnlhedbedcdaaGreatDoorLib
import Derived.Test.YtmbnlhedbedcdaaGreatDoorLaws
import Derived.Lib.ItoaMem
import Derived.Lib.ItoaWalk
import Derived.Lib.AppendIntMem
import Derived.Deep.AppendSrc
import Derived.Deep.DeepAppendWide
import Derived.Lib.AppendStr
import Derived.Deep.CutBlock
import Derived.Deep.DeepCutAuto
import Derived.Deep.LoopGhost
import Derived.Laws.OwnMore
/- strconv.FormatUint at base 10. -/
namespace Go.Proofs.YtmbnlhedbedcdaaGreatDoor.D
open Go.RowKit Go.Sort

/-- A text handed back: its bytes. -/
def RetS (w : World) (l : List UInt8) (e : Ending) (w' : World) : Prop := e = .returned (.string ⟨l.toArray⟩) ∧ Below w.heap.size w w'
/-- Go's table of the powers of ten. -/
def Tab (w : World) : Prop := Lib.TabIs Tryz.prog w "internal/strconv.uint64pow10" .u64 Lib.pow10Tab
theorem Tab.alloc {w : World} (h : Tab w) (o : Obj) : Tab (w.alloc o) := Lib.tabIs_alloc h o



theorem zeros_holds (w : World) (T : TypeId) (nd : Nat) (h : nd ≤ 24) : Holds (fun (b : UInt8) => Value.int .u8 (b.toNat : Int)) (w.alloc (.cells Lib.zeros24 T)) w.heap.size 0 (Array.replicate nd (0 : UInt8)) := by
  intro j hj
  have hj' : j < nd := by simpa using hj
  refine ⟨?_, World.frozen?_alloc_new _ _ _ _⟩
  rw [World.cell?_alloc_new, Nat.zero_add, Lib.zeros24_at _ (by omega), getElem!_pos _ j hj]
  simp
theorem put_below (w : World) (o : Obj) (dk : Array UInt8) (k off : Nat) : Below w.heap.size w ((putRow (fun (b : UInt8) => Value.int .u8 (b.toNat : Int)) (w.alloc o) w.heap.size off dk).drewN k) := by
  rw [alloc_eq_grow]
  obtain ⟨os, _, e⟩ := putRow_grow_new (fun (b : UInt8) => Value.int .u8 (b.toNat : Int)) w #[o] w.heap.size off dk (Nat.le_refl _)
  rw [e]
  exact Lib.below_grow w.heap.size w (Nat.le_refl _) k os

set_option maxRecDepth 100000 in
set_option maxHeartbeats 4000000 in
theorem fmt_in (w : World) (u : Nat) (hu : u < 18446744073709551616) (htab : Tab w) :
    Calls Tryz.prog 107 #[.int .u64 u, .int .i64 10] w (RetS w (Lib.decDigits u)) := by
  by_cases hs : u < 100
  · have hs' : (u : Int) < 100 := by omega
    have hw : IntKind.i64.wrap (u : Int) = (u : Int) := IntWalk.i64_in _ (by omega)
    have HSM := Lib.hid (Tryz.internal_strconv_small u hs w)
    clear htab
    go_enter Tryz.func107, Tryz.ntmps107
    go_wp2_with fail
    refine HSM.out.mono ?_
    rintro e w' ⟨rfl, rfl⟩
    go_wp2_with fail
    go_ret
    exact ⟨rfl, Below.refl _ _⟩
  · have hs' : ¬ (u : Int) < 100 := by omega
    have hu1 : 1 ≤ u := by omega
    have hnd : Lib.nDigits u ≤ 20 := by have := Lib.numDigits_eq u hu1 hu; split at this <;> omega
    have HND := Lib.hid (Tryz.internal_strconv_numDigits u hu1 hu (w.alloc (.cells Lib.zeros24 165)) (htab.alloc _))
    have hH0 := zeros_holds w 165 (Lib.nDigits u) (by omega)
    have hfmt := Tryz.internal_strconv_formatBase10 w.heap.size 0 24 u (Array.replicate (Lib.nDigits u) 0) (w.alloc (.cells Lib.zeros24 165)) hH0 (by rw [Array.size_replicate]; exact Lib.lt_pow_nDigits u) hu (by rw [Array.size_replicate]; omega)
    rw [Array.size_replicate] at hfmt
    have hal : Tryz.prog.arrayLen 165 = 24 := by simp [Program.arrayLen, Tryz.underlying165]
    obtain ⟨nd, hndd⟩ : ∃ n, Lib.nDigits u = n := ⟨_, rfl⟩
    have hsl : ∀ W, (Instr.sliceAt 165 (.pointer (some ⟨w.heap.size, 0, none⟩)) none (some (.int .i64 (nd : Int))) none).run Tryz.prog W = .ok (.slice (some ⟨w.heap.size, 0, none⟩) nd 24) W := fun W => by
      rw [run_sliceAt_array_h W 165 ⟨w.heap.size, 0, none⟩ (by simp [Program.arrayLen, Program.elem, Tryz.underlying165]) .i64 (nd : Int) (by omega) (by rw [hal]; omega)]
      go_simp
    have hcv : ∀ (k v' : Nat) (dk : Array UInt8), Lib.FmtInv (Lib.nDigits u) u 0 v' dk → (convert 66 9 (.slice (some ⟨w.heap.size, 0, none⟩) nd 24)).run Tryz.prog ((putRow (fun (b : UInt8) => Value.int .u8 (b.toNat : Int)) (w.alloc (.cells Lib.zeros24 165)) w.heap.size 0 dk).drewN k) = .ok (.string ⟨(Lib.decDigits u).toArray⟩) ((putRow (fun (b : UInt8) => Value.int .u8 (b.toNat : Int)) (w.alloc (.cells Lib.zeros24 165)) w.heap.size 0 dk).drewN k) := by
      intro k v' dk hF
      have h := run_convert_bytes_back (P := Tryz.prog) ((putRow (fun (b : UInt8) => Value.int .u8 (b.toNat : Int)) (w.alloc (.cells Lib.zeros24 165)) w.heap.size 0 dk).drewN k) 66 9 5 ⟨w.heap.size, 0, none⟩ 24 (Lib.decDigits u) Tryz.underlying66 Tryz.underlying5 Tryz.underlying9 (fun j hj => by
        rw [Lib.row_is_numeral hF j hj, Lib.add_plain, World.cell?_drewN]
        exact cell?_putRow (fun (b : UInt8) => Value.int .u8 (b.toNat : Int)) _ w.heap.size 0 _ dk hH0 (by rw [hF.size, Array.size_replicate]) j (by rw [hF.size]; rw [Lib.decDigits_length] at hj; exact hj))
      rw [Lib.decDigits_length, hndd] at h
      exact h
    have HCV := Lib.hid hcv
    have HFM := Lib.hid hfmt
    rw [hndd] at HND HFM hnd HCV
    clear hfmt hcv hH0 htab hndd hal
    go_enter Tryz.func107, Tryz.ntmps107
    go_wp2_with fail
    refine HND.out.mono ?_
    rintro e w' ⟨rfl, rfl⟩
    go_wp2_with fail
    refine HFM.out.mono ?_
    rintro e w' ⟨rfl, k, v', dk, rfl, hF⟩
    have hc2 := HCV.out k v' dk hF
    have HB := Lib.hid (put_below w (.cells Lib.zeros24 165) dk k 0)
    go_wp2_with fail
    go_ret
    exact ⟨rfl, HB.out⟩

theorem fmt_any (w : World) (u : Nat) (hu : u < 18446744073709551616) (htab : Tab w) :
    Calls Tryz.prog 91 #[.int .u64 u, .int .i64 10] w (RetS w (Lib.decDigits u)) := by
  have HF := Lib.hid (fmt_in w u hu htab)
  clear htab
  go_enter Tryz.func91, Tryz.ntmps91
  go_wp2_with fail
  refine HF.out.mono ?_
  rintro e w' ⟨rfl, hb⟩
  have HB := Lib.hid hb
  clear hb
  go_wp2_with fail
  go_ret
  exact ⟨rfl, HB.out⟩
end Go.Proofs.YtmbnlhedbedcdaaGreatDoor.D

/- A text's bytes put behind a row of bytes of the call's own: and where the row then lies. -/
namespace Go.Proofs.YtmbnlhedbedcdaaGreatDoor.D
open Go.RowKit

theorem info_u8 : (Tryz.prog.info? 5).map (fun i => (i.zero, i.size, i.bytes)) = some (some (.int .u8 0), 1, 1) := by kernel_rfl
theorem under_u8s : Tryz.prog.underlying 66 = some (.slice 5) := by kernel_rfl

/-- All cells of v's own row are bytes, its spare ones too. -/
def AllB (w : World) (v : Value) : Prop := ∀ g, v.ownBlock = some g → ∀ j u, w.cell? ⟨g, j, none⟩ = some u → ∃ z, u = .int .u8 z
/-- The bytes l, in a row of the call's own. -/
structure Own (w : World) (base : Nat) (v : Value) (l : List UInt8) : Prop where
  row : w.ownsRow base 5 1 v l.length (Lib.strCells ⟨l.toArray⟩)
  all : AllB w v
theorem str_u8 (l : List UInt8) : ∀ u ∈ Lib.strCells ⟨l.toArray⟩, ∃ z, u = .int .u8 z := by
  intro u hu
  obtain ⟨b, _, rfl⟩ := List.mem_map.1 hu
  exact ⟨_, rfl⟩
theorem zero_u8 (n : Nat) : ∀ u ∈ Builtin.zeroCells (Value.cells (.int .u8 0)) n, ∃ z, u = .int .u8 z := by
  intro u hu
  unfold Builtin.zeroCells at hu
  obtain ⟨i, _, rfl⟩ := Array.mem_map.1 hu
  refine ⟨0, ?_⟩
  have e : (Value.cells (.int .u8 0)) = #[.int .u8 0] := rfl
  rw [e, show i % (#[Value.int .u8 0] : Array Value).size = 0 from Nat.mod_one i]
  rfl
theorem new_u8 (w : World) (arr : Array Value) (t : TypeId) (h : ∀ u ∈ arr, ∃ z, u = .int .u8 z) (j : Nat) (u : Value) (hc : (w.alloc (.cells arr t)).cell? ⟨w.heap.size, j, none⟩ = some u) : ∃ z, u = .int .u8 z := by
  rw [World.cell?_alloc_new] at hc
  exact h u (Array.mem_of_getElem? hc)
theorem cells_app (l m : List UInt8) : Lib.strCells ⟨l.toArray⟩ ++ Lib.strCells ⟨m.toArray⟩ = Lib.strCells ⟨(l ++ m).toArray⟩ := by
  unfold Lib.strCells
  rw [← List.map_append]

/-- append(v, s...): just v's own row may have turned; the new row is it, or new. -/
theorem app_at (w : World) (base : Nat) (ty : TypeId) (v : Value) (l m : List UInt8) (hown : Own w base v l) (h : l.length + m.length ≤ 1000000000) (hbase : base ≤ w.heap.size) :
    ∃ v' w', (Builtin.append_ #[66, 9] ty #[v, .string ⟨m.toArray⟩]).run Tryz.prog w = .ok v' w' ∧ Own w' base v' (l ++ m) ∧ w.grownBy w' v.ownBlock ∧ (v'.ownBlock = v.ownBlock ∨ v'.ownBlock = some w.heap.size) := by
  obtain ⟨i, hi, hz, hs, hb⟩ := info_parts info_u8
  have hm : (⟨m.toArray⟩ : ByteArray).size = m.length := by show m.toArray.size = _; simp
  obtain ⟨hown, hall⟩ := hown
  obtain ⟨v', w', hr, ho, hg, hn⟩ := Lib.run_append_own_string (P := Tryz.prog) w base 66 9 ty 5 i under_u8s Tryz.underlying9 hi hz hs hb v l.length _ hown ⟨m.toArray⟩ (by rw [hm]; unfold maxLen; omega) (by rw [hm]; omega) hbase
  rw [hm, cells_app] at ho
  suffices hh : AllB w' v' ∧ (v'.ownBlock = v.ownBlock ∨ v'.ownBlock = some w.heap.size) from ⟨v', w', hr, ⟨by rw [List.length_append]; exact ho, hh.1⟩, hg, hh.2⟩
  have hS : _root_.Go.Src Tryz.prog i.size 9 (.string ⟨m.toArray⟩) (⟨m.toArray⟩ : ByteArray).size (Go.byteCells ⟨m.toArray⟩) w := by rw [hs]; exact _root_.Go.Src.ofString w Tryz.underlying9 _
  rcases hown.2 with ⟨rfl, h0⟩ | ⟨g, cap, cur, rfl, hbg, hgc, hnc, hcm, hcs, htake⟩
  · by_cases hm0 : m.length = 0
    · have := hn.2 ⟨rfl, by rw [hm]; exact hm0⟩
      rw [this]
      exact ⟨(fun g h => by cases h), .inl rfl⟩
    · have hr2 := run_append_grow_src (P := Tryz.prog) w 66 9 ty 5 i (.int .u8 0) under_u8s hi hz none 0 0 [] (by rw [hs]; exact run_firstCells_none w.drew 1 0 0 0) (.string ⟨m.toArray⟩) _ _ hS (by rw [hm]; omega) (by rw [hm]; omega)
        (growslice_fits_wide (by rw [hm]; omega) (by rw [hm, hb]; omega))
      obtain ⟨e1, e2⟩ := Result.ok.inj (hr.symm.trans hr2)
      refine ⟨?_, .inr (by rw [e1]; rfl)⟩
      intro g hg2 j u hu
      rw [e1] at hg2
      obtain rfl : w.heap.size = g := by injection hg2
      rw [e2] at hu
      refine new_u8 w.drew _ _ ?_ j u hu
      intro x hx
      rcases Array.mem_append.1 hx with hx | hx
      · have hx2 := List.mem_toArray.1 hx
        rw [List.nil_append] at hx2
        exact str_u8 m x hx2
      · exact zero_u8 _ x hx
  · by_cases hroom : l.length + m.length ≤ cap
    · have hcc : ∀ j, j < (Go.byteCells ⟨m.toArray⟩).length → (w.cell? ⟨g, 0 + l.length * i.size + j, none⟩).isSome = true := by
        intro j hj
        rw [byteCells_length, hm] at hj
        rw [hs, cell_of_row w g _ _ _ _ hgc, Array.getElem?_eq_getElem (by rw [hcs]; omega)]
        rfl
      have hr2 := run_append_room_src (P := Tryz.prog) w 66 9 ty 5 i under_u8s hi g 0 l.length cap (.string ⟨m.toArray⟩) _ _ hS (by rw [hm]; omega) hcc (fun j _ => frozen_of_row w g _ _ _ hgc)
      obtain ⟨e1, e2⟩ := Result.ok.inj (hr.symm.trans hr2)
      refine ⟨?_, .inl (by rw [e1]; rfl)⟩
      intro g' hg2 j u hu
      rw [e1] at hg2
      obtain rfl : g = g' := by injection hg2
      rw [e2] at hu
      by_cases hin : 0 + l.length * i.size ≤ j ∧ j < 0 + l.length * i.size + (Go.byteCells ⟨m.toArray⟩).length
      · obtain ⟨d, hd⟩ : ∃ d, j = 0 + l.length * i.size + d := ⟨j - (0 + l.length * i.size), by omega⟩
        have hdl : d < (Go.byteCells ⟨m.toArray⟩).length := by omega
        subst hd
        rw [World.cell?_setCells_in g _ _ w hcc d hdl] at hu
        injection hu with hu
        rw [← hu]
        exact str_u8 m _ (List.getElem_mem hdl)
      · rw [World.cell?_setCells_out g _ _ w ⟨g, j, none⟩ (fun _ _ => by show j < _ ∨ _ ≤ j; omega)] at hu
        exact hall g rfl j u hu
    · have hold : (Builtin.firstCells i.size l.length (.slice (some ⟨g, 0, none⟩) l.length cap)).run Tryz.prog w.drew = .ok (Lib.strCells ⟨l.toArray⟩).toArray w.drew := by
        rw [hs]
        refine run_firstCells_some w.drew 1 l.length ⟨g, 0, none⟩ l.length cap (Lib.strCells ⟨l.toArray⟩) hown.1 (fun j u hu => ?_)
        exact hown.cells (g := g) rfl j u hu
      have hr2 := run_append_grow_src (P := Tryz.prog) w 66 9 ty 5 i (.int .u8 0) under_u8s hi hz (some ⟨g, 0, none⟩) l.length cap _ hold (.string ⟨m.toArray⟩) _ _ hS (by rw [hm]; omega) (by rw [hm]; omega)
        (growslice_fits_wide (by rw [hm]; omega) (by rw [hm, hb]; omega))
      obtain ⟨e1, e2⟩ := Result.ok.inj (hr.symm.trans hr2)
      refine ⟨?_, .inr (by rw [e1]; rfl)⟩
      intro g' hg2 j u hu
      rw [e1] at hg2
      obtain rfl : w.heap.size = g' := by injection hg2
      rw [e2] at hu
      refine new_u8 w.drew _ _ ?_ j u hu
      intro x hx
      rcases Array.mem_append.1 hx with hx | hx
      · rcases List.mem_append.1 (List.mem_toArray.1 hx) with hx | hx
        · exact str_u8 l x hx
        · exact str_u8 m x hx
      · exact zero_u8 _ x hx

/-- The same at a step of a walk. -/
theorem wp_app {ops : Array Oper} {rest : List Oper} {o : Oper} {a : Act} {w : World} {Q : Exit → Act → World → Prop} (hgd : o.guard = none) (sl x : Operand)
    (ho : o.op = .call { callee := .builtin .append, args := #[sl, x], argTypes := #[66, 9] })
    (base : Nat) (v : Value) (l m : List UInt8) (hs : a.eval sl = v) (hx : a.eval x = .string ⟨m.toArray⟩) (hown : Own w base v l) (h : l.length + m.length ≤ 1000000000) (hbase : base ≤ w.heap.size)
    (hk : ∀ v' w', Own w' base v' (l ++ m) → w.grownBy w' v.ownBlock → (v'.ownBlock = v.ownBlock ∨ v'.ownBlock = some w.heap.size) → wpList Tryz.prog ops Q rest (a.put o.dst v') w') : wpList Tryz.prog ops Q (o :: rest) a w := by
  refine wpList_plain hgd fun K hK => ?_
  obtain ⟨v', w', hr, h1, h2, h3⟩ := app_at w base o.type v l m hown h hbase
  unfold Oper.wp
  simp [execOp, ho, resolve, invoke, builtin, hs, hx, hr, Result.andThen]
  exact hK _ _ (hk v' w' h1 h2 h3)
end Go.Proofs.YtmbnlhedbedcdaaGreatDoor.D

/- Numerals with noughts ahead; what a row of bytes of the call's own keeps. -/
namespace Go.Proofs.YtmbnlhedbedcdaaGreatDoor.D
open Go.RowKit

/-- v in k digits, with noughts ahead. -/
def pad (k v : Nat) : List UInt8 := (List.range k).map fun t => Lib.dg v (k - 1 - t)
theorem pad_length (k v : Nat) : (pad k v).length = k := by simp [pad]
theorem dg_zero_of {v j : Nat} (h : v < 10 ^ j) : Lib.dg v j = 48 := by
  unfold Lib.dg
  rw [Nat.div_eq_of_lt h]; rfl
theorem pow_ge {k j : Nat} (h : k ≤ j) : 10 ^ k ≤ 10 ^ j := Nat.pow_le_pow_right (by omega) h
theorem pad_nought (k : Nat) : pad k 0 = List.replicate k 48 := by
  unfold pad
  rw [List.eq_replicate_iff]
  refine ⟨by simp, fun b hb => ?_⟩
  obtain ⟨t, _, rfl⟩ := List.mem_map.1 hb
  exact dg_zero_of (Nat.pow_pos (by omega))
theorem pad_dec {k v : Nat} (h : Lib.nDigits v ≤ k) : pad k v = List.replicate (k - Lib.nDigits v) 48 ++ Lib.decDigits v := by
  rw [Lib.decDigits_eq]
  obtain ⟨n, hn⟩ : ∃ n, Lib.nDigits v = n := ⟨_, rfl⟩
  have hlt := Lib.lt_pow_nDigits v
  rw [hn] at h hlt ⊢
  unfold pad
  refine List.ext_getElem (by simp; omega) fun i h1 h2 => ?_
  simp only [List.length_map, List.length_range] at h1
  rw [List.getElem_map, List.getElem_range]
  by_cases hi : i < k - n
  · rw [List.getElem_append_left (by simpa using hi), List.getElem_replicate]
    exact dg_zero_of (Nat.lt_of_lt_of_le hlt (pow_ge (by omega)))
  · rw [List.getElem_append_right (by simp; omega), List.getElem_map, List.getElem_range, List.length_replicate]
    congr 1; omega
theorem dg_high (v m j : Nat) : Lib.dg v (m + j) = Lib.dg (v / 10 ^ m) j := by
  unfold Lib.dg
  rw [Nat.pow_add, Nat.div_div_eq_div_mul]
theorem dg_low {v m j : Nat} (h : j < m) : Lib.dg (v % 10 ^ m) j = Lib.dg v j := by
  unfold Lib.dg
  have e : 10 ^ m = 10 ^ j * 10 ^ (m - j) := by rw [← Nat.pow_add]; congr 1; omega
  have e2 : 10 ^ (m - j) = 10 * 10 ^ (m - j - 1) := by rw [← Nat.pow_succ']; congr 1; omega
  rw [e, Nat.mod_mul_right_div_self, e2, Nat.mod_mul_right_mod]
theorem pad_split (k m v : Nat) : pad (k + m) v = pad k (v / 10 ^ m) ++ pad m (v % 10 ^ m) := by
  unfold pad
  refine List.ext_getElem (by simp) fun i h1 h2 => ?_
  simp only [List.length_map, List.length_range] at h1
  rw [List.getElem_map, List.getElem_range]
  by_cases hi : i < k
  · rw [List.getElem_append_left (by simpa using hi), List.getElem_map, List.getElem_range, ← dg_high]
    congr 1; omega
  · rw [List.getElem_append_right (by simp; omega), List.getElem_map, List.getElem_range, dg_low (by simp; omega)]
    simp only [List.length_map, List.length_range]
    congr 1; omega

/-- What a row of the call's own that has grown keeps: v was it, v' is it. -/
structure Fr (w w' : World) (v v' : Value) : Prop where
  g : w.grownBy w' v.ownBlock
  at_ : v'.ownBlock = v.ownBlock ∨ ∃ k, w.heap.size ≤ k ∧ v'.ownBlock = some k
theorem Fr.refl (w : World) (v : Value) : Fr w w v v := ⟨⟨rfl, rfl, rfl, Nat.le_refl _, fun _ _ _ => rfl⟩, .inl rfl⟩
theorem Fr.trans {w w1 w2 : World} {v v1 v2 : Value} (h : Fr w w1 v v1) (k : Fr w1 w2 v1 v2) : Fr w w2 v v2 := by
  refine ⟨⟨k.g.os.trans h.g.os, k.g.tape.trans h.g.tape, k.g.output.trans h.g.output, Nat.le_trans h.g.size k.g.size, fun i hi hne => ?_⟩, ?_⟩
  · refine (k.g.block i (Nat.lt_of_lt_of_le hi h.g.size) ?_).trans (h.g.block i hi hne)
    rcases h.at_ with e | ⟨j, hj, e⟩
    · rw [e]; exact hne
    · rw [e]
      intro e2
      injection e2 with e2
      omega
  · rcases k.at_ with e | ⟨j, hj, e⟩
    · rw [e]; exact h.at_
    · exact .inr ⟨j, Nat.le_trans h.g.size hj, e⟩
theorem Fr.of_below {w w1 : World} (h : Below w.heap.size w w1) (v : Value) : Fr w w1 v v := ⟨⟨h.os, h.tape, h.output, h.size, fun i hi _ => h.block i hi⟩, .inl rfl⟩
theorem Fr.of_app {w w1 : World} {v v' : Value} (h : w.grownBy w1 v.ownBlock) (k : v'.ownBlock = v.ownBlock ∨ v'.ownBlock = some w.heap.size) : Fr w w1 v v' :=
  ⟨h, k.imp id fun e => ⟨_, Nat.le_refl _, e⟩⟩
theorem Own.below {w w1 : World} {base : Nat} {v : Value} {l : List UInt8} (h : Own w base v l) (hb : Below w.heap.size w w1) : Own w1 base v l := by
  refine ⟨⟨h.row.1, ?_⟩, ?_⟩
  · rcases h.row.2 with hn | ⟨g, cap, cur, hv, hbg, hg, rest⟩
    · exact .inl hn
    · exact .inr ⟨g, cap, cur, hv, hbg, (hb.block g (lt_of_block hg)).trans hg, rest⟩
  · intro g hg j u hu
    have hlt := (h.row.lt g hg).2
    exact h.all g hg j u ((hb.cell (p := ⟨g, j, none⟩) hlt).symm.trans hu)
theorem Own.nil (w : World) (base : Nat) : Own w base (.slice none 0 0) [] := ⟨World.ownsRow_nil _ _ _ _, (fun g h => by cases h)⟩
/-- What is no byte lies elsewhere. -/
theorem AllB.off {w : World} {v : Value} (h : AllB w v) {b o : Nat} {u : Value} (hc : w.cell? ⟨b, o, none⟩ = some u) (hu : ∀ z, u ≠ .int .u8 z) : some b ≠ v.ownBlock := by
  intro e
  obtain ⟨z, hz⟩ := h b e.symm o u hc
  exact hu z hz
theorem Fr.cell {w w1 : World} {v v1 : Value} (h : Fr w w1 v v1) (hb : AllB w v) {b o : Nat} {u : Value} (hc : w.cell? ⟨b, o, none⟩ = some u) (hu : ∀ z, u ≠ .int .u8 z) : w1.cell? ⟨b, o, none⟩ = some u :=
  (World.cell?_of_block (h.g.block b (block_lt_of_cell hc) (hb.off hc hu))).trans hc
/-- A number's digits are no bytes. -/
theorem Fr.num {w w1 : World} {v v1 : Value} (h : Fr w w1 v v1) (hb : AllB w v) {A : Option Addr} {xs : List Nat} (ha : Num w A xs) : Num w1 A xs :=
  ⟨ha.1, fun hn => by
    obtain ⟨b, off, e, hlt, hc⟩ := ha.2 hn
    exact ⟨b, off, e, Nat.lt_of_lt_of_le hlt h.g.size, fun i hi => h.cell hb (hc i hi) (fun z hz => by cases hz)⟩⟩
/-- The row's new place, and its bytes. -/
def RetA (w : World) (base : Nat) (v : Value) (l : List UInt8) (e : Ending) (w' : World) : Prop := ∃ v', e = .returned v' ∧ Own w' base v' l ∧ Fr w w' v v'
end Go.Proofs.YtmbnlhedbedcdaaGreatDoor.D

/- appendPiece. -/
namespace Go.Proofs.YtmbnlhedbedcdaaGreatDoor.D
open Go.RowKit

theorem repeat_nought (c : Nat) : Lib.repeatL [48] c = List.replicate c 48 := by
  induction c with
  | zero => rfl
  | succ c ih => rw [Lib.repeatL, ih, List.replicate_succ]; rfl
theorem rep_any (w : World) (c : Nat) (hc : c ≤ 1000000) : Calls Tryz.prog 92 #[.string ⟨#[48]⟩, .int .i64 (c : Int)] w (RetS w (List.replicate c 48)) := by
  have h := Tryz.strings_Repeat ⟨#[48]⟩ c w (by omega) (by show 1 * c ≤ _; omega)
  rw [show (⟨#[48]⟩ : ByteArray).data.toList = [48] from rfl, repeat_nought] at h
  exact h
theorem size_of (l : List UInt8) : (⟨l.toArray⟩ : ByteArray).size = l.length := by show l.toArray.size = _; simp
theorem pad_19 {s : Nat} (h0 : s ≠ 0) (hs : s < 10000000000000000000) : Lib.nDigits s ≤ 19 := by
  have h := Lib.numDigits_eq s (by omega) (by omega)
  rcases Nat.lt_or_ge 19 (Lib.nDigits s) with h1 | h1
  · exfalso
    obtain ⟨n, hn⟩ : ∃ n, Lib.nDigits s = n + 1 := ⟨Lib.nDigits s - 1, by omega⟩
    have h2 : ∀ (u k : Nat), k + 1 ≤ Lib.nDigits u → k ≠ 0 → 10 ^ k ≤ u := by
      intro u k
      induction k generalizing u with
      | zero => intro _ h; exact absurd rfl h
      | succ k ih =>
        intro hk _
        by_cases hu : u < 10
        · rw [Lib.nDigits_small hu] at hk; omega
        · rw [Lib.nDigits_big hu] at hk
          by_cases hk0 : k = 0
          · subst hk0; simp; omega
          · have := ih (u / 10) (by omega) hk0
            rw [Nat.pow_succ]; omega
    have h3 := h2 s 19 (by omega) (by omega)
    have e : (10 : Nat) ^ 19 = 10000000000000000000 := by decide
    rw [e] at h3
    omega
  · exact h1

set_option maxRecDepth 100000 in
set_option maxHeartbeats 4000000 in
theorem piece_any (w : World) (base : Nat) (v : Value) (l : List UInt8) (A : Option Addr) (c s : Nat) (hown : Own w base v l) (hbase : base ≤ w.heap.size) (ha : Num w A (dig s)) (hs : s < 10000000000000000000) (htab : Tab w) (hl : l.length ≤ 500000000) :
    Calls Tryz.prog 68 #[v, .slice A (dig s).length c] w (RetA w base v (l ++ pad 19 s)) := by
  by_cases h0 : s = 0
  · have hlp : ¬ (0 : Int) < ((dig s).length : Int) := by rw [h0]; simp [dig_zero]
    have HP : Hid (pad 19 s = List.replicate 19 48) := by show _ = _; rw [h0, pad_nought]
    have HR := Lib.hid (rep_any w 19 (by omega))
    have HOWN := Lib.hid hown
    clear h0 ha htab hown hs
    go_enter Tryz.func68, Tryz.ntmps68
    go_wp2_with fail
    refine HR.out.mono ?_
    rintro e w1 ⟨rfl, hb1⟩
    have HO1 := Lib.hid (HOWN.out.below hb1)
    have HF1 := Lib.hid (Fr.of_below hb1 v)
    have hs1 := hb1.size
    clear hb1
    go_upto_region 5 with ((at_builtin; refine wp_app rfl (.tmp 13) (.tmp 17) rfl base v l (List.replicate 19 48) rfl rfl HO1.out (by simp; omega) (by omega) ?_); intro v2 w2 ho2 hg2 hat2)
    have HO2 := Lib.hid ho2
    have HF2 := Lib.hid (HF1.out.trans (Fr.of_app hg2 hat2))
    have hs2 := hg2.size
    clear ho2 hg2 hat2
    go_wp2_with ((at_builtin; refine wp_app rfl (.tmp 19) (.tmp 20) rfl base v2 (l ++ List.replicate 19 48) [] rfl rfl HO2.out (by simp; omega) (by omega) ?_); intro v3 w3 ho3 hg3 hat3)
    have HO3 := Lib.hid ho3
    have HF3 := Lib.hid (HF2.out.trans (Fr.of_app hg3 hat3))
    clear ho3 hg3 hat3
    go_wp2_with fail
    go_ret
    refine ⟨v3, rfl, ?_, HF3.out⟩
    rw [HP.out]
    have h := HO3.out
    rw [List.append_nil] at h
    exact h
  · have hlp0 : 0 < (dig s).length := by
      rcases Nat.eq_zero_or_pos (dig s).length with h | h
      · exact absurd (dig_nil_iff.1 h) h0
      · exact h
    have hlp : (0 : Int) < ((dig s).length : Int) := by omega
    have hd1 : dig s = [s] := dig_one (Nat.pos_of_ne_zero h0) (by rw [B64_eq]; omega)
    have hnd := pad_19 h0 hs
    obtain ⟨b1, o1, rfl, hb1, hcell⟩ := ha.at_ hlp0
    have hx := hcell 0 hlp0
    rw [Nat.add_zero, show dg (dig s) 0 = s by rw [hd1]; rfl] at hx
    have HFM := Lib.hid (fmt_any w s (by omega) htab)
    obtain ⟨m, hm⟩ : ∃ m, Lib.decDigits s = m := ⟨_, rfl⟩
    have hml : m.length ≤ 19 := by rw [← hm, Lib.decDigits_length]; exact hnd
    have HP : Hid (pad 19 s = List.replicate (19 - m.length) 48 ++ m) := by
      show _ = _
      rw [pad_dec hnd, ← Lib.decDigits_length, hm]
    rw [hm] at HFM
    obtain ⟨S, hS⟩ : ∃ S : ByteArray, (⟨m.toArray⟩ : ByteArray) = S := ⟨_, rfl⟩
    have hSz : S.size = m.length := by rw [← hS, size_of]
    obtain ⟨k, hk⟩ : ∃ k, m.length = k := ⟨_, rfl⟩
    obtain ⟨r, hr⟩ : ∃ r, 19 - k = r := ⟨_, rfl⟩
    have HR := Lib.hid (fun W => rep_any W r (by omega))
    have hsz : ((S.size : Nat) : Int) = (k : Int) := by rw [hSz, hk]
    have hw1 : IntKind.i64.wrap (19 - (k : Int)) = (r : Int) := by
      have h := IntWalk.i64_in (19 - (k : Int)) (by omega)
      rw [h]; omega
    rw [hk, hr] at HP
    have HOWN := Lib.hid hown
    have HSS := Lib.hid hS
    have hrl : r ≤ 19 := by omega
    have hmk : m.length ≤ 19 := by omega
    have HMK := Lib.hid hmk
    clear hcell ha htab hown hs hd1 hnd hm hSz hk hr hml hmk h0 hlp0
    go_enter Tryz.func68, Tryz.ntmps68
    go_wp2_with fail
    refine HFM.out.mono ?_
    rintro e w0 ⟨rfl, hb0⟩
    have HO0 := Lib.hid (HOWN.out.below hb0)
    have HF0 := Lib.hid (Fr.of_below hb0 v)
    have hs0 := hb0.size
    clear hb0
    rw [hS]
    go_wp2_with fail
    refine (HR.out w0).mono ?_
    rintro e w1 ⟨rfl, hb1⟩
    have HO1 := Lib.hid (HO0.out.below hb1)
    have HF1 := Lib.hid (HF0.out.trans (Fr.of_below hb1 v))
    have hs1 := hb1.size
    clear hb1
    go_upto_region 5 with ((at_builtin; refine wp_app rfl (.tmp 13) (.tmp 17) rfl base v l (List.replicate r 48) rfl rfl HO1.out (by simp; omega) (by omega) ?_); intro v2 w2 ho2 hg2 hat2)
    have HO2 := Lib.hid ho2
    have HF2 := Lib.hid (HF1.out.trans (Fr.of_app hg2 hat2))
    have hs2 := hg2.size
    clear ho2 hg2 hat2
    go_wp2_with ((at_builtin; refine wp_app rfl (.tmp 19) (.tmp 20) rfl base v2 (l ++ List.replicate r 48) m rfl (by rw [HSS.out]; rfl) HO2.out (by simp; have := HMK.out; omega) (by omega) ?_); intro v3 w3 ho3 hg3 hat3)
    have HO3 := Lib.hid ho3
    have HF3 := Lib.hid (HF2.out.trans (Fr.of_app hg3 hat3))
    clear ho3 hg3 hat3
    go_wp2_with fail
    go_ret
    refine ⟨v3, rfl, ?_, HF3.out⟩
    rw [HP.out, ← List.append_assoc]
    exact HO3.out
end Go.Proofs.YtmbnlhedbedcdaaGreatDoor.D

/- powersFor: the powers of ten by which halves are parted. -/
namespace Go.Proofs.YtmbnlhedbedcdaaGreatDoor.D
open Go.RowKit

theorem info_sl : (Tryz.prog.info? 22).map (fun i => (i.zero, i.size, i.bytes)) = some (some (.slice none 0 0), 1, 24) := by kernel_rfl
theorem under_sl : Tryz.prog.underlying 68 = some (.slice 22) := by kernel_rfl

/-- All cells of v's own row are slices, its spare ones too. -/
def AllS (w : World) (v : Value) : Prop := ∀ g, v.ownBlock = some g → ∀ j u, w.cell? ⟨g, j, none⟩ = some u → ∃ A n c, u = .slice A n c
/-- A row of slices of the call's own. -/
structure OwnS (w : World) (base : Nat) (v : Value) (vs : List Value) : Prop where
  row : w.ownsRow base 22 1 v vs.length vs
  all : AllS w v
  pos : 0 < vs.length
theorem zero_sl (n : Nat) : ∀ u ∈ Builtin.zeroCells (Value.cells (.slice none 0 0)) n, ∃ A m c, u = Value.slice A m c := by
  intro u hu
  unfold Builtin.zeroCells at hu
  obtain ⟨i, _, rfl⟩ := Array.mem_map.1 hu
  refine ⟨none, 0, 0, ?_⟩
  have e : (Value.cells (.slice none 0 0)) = #[.slice none 0 0] := rfl
  rw [e, show i % (#[Value.slice none 0 0] : Array Value).size = 0 from Nat.mod_one i]
  rfl

/-- append(v, x), x a slice: just v's own row may have turned. -/
theorem appS_at (w : World) (base : Nat) (ty : TypeId) (v : Value) (vs : List Value) (B : Option Addr) (n c : Nat) (ad : Addr) (hown : OwnS w base v vs) (had : w.cell? ad = some (.slice B n c)) (h : vs.length ≤ 1000000) (hbase : base ≤ w.heap.size) :
    ∃ v' w', (Builtin.append_ #[68, 68] ty #[v, .slice (some ad) 1 1]).run Tryz.prog w = .ok v' w' ∧ OwnS w' base v' (vs ++ [.slice B n c]) ∧ w.grownBy w' v.ownBlock := by
  obtain ⟨i, hi, hz, hs, hb⟩ := info_parts info_sl
  obtain ⟨hown, hall, hpos⟩ := hown
  have hn1 : ∀ j u, [Value.slice B n c][j]? = some u → w.cell? (ad.add j) = some u := by
    intro j u hj
    match j, hj with
    | 0, hj =>
      simp only [List.getElem?_cons_zero, Option.some.injEq] at hj
      subst hj
      have e : ad.add 0 = ad := by simp [Addr.add]
      rw [e]; exact had
  have ho1 : ∀ u ∈ [Value.slice B n c], u.oneCell' = true := by intro u hu; simp only [List.mem_singleton] at hu; subst hu; rfl
  obtain ⟨v', w', hr, ho, hg, hnn⟩ := run_append_own (P := Tryz.prog) w base 68 ty 22 i (.slice none 0 0) 1 24 under_sl hi hz hs hb rfl (by decide) v vs.length vs hown ad 1 1 [.slice B n c] rfl hn1 ho1 (by unfold maxLen; omega) (by omega) hbase
  suffices hh : AllS w' v' from ⟨v', w', hr, ⟨by rw [List.length_append]; exact ho, hh, by simp⟩, hg⟩
  rcases hown.2 with ⟨rfl, h0⟩ | ⟨g, cap, cur, rfl, hbg, hgc, hnc, hcm, hcs, htake⟩
  · omega
  · have hcur : ∀ u ∈ cur.toList, ∃ A m c, u = Value.slice A m c := by
      intro u hu
      obtain ⟨j, hj, rfl⟩ := List.getElem_of_mem hu
      refine hall g rfl j _ ?_
      rw [cell_of_row w g j _ _ _ hgc]
      rw [Array.length_toList] at hj
      rw [Array.getElem?_eq_getElem hj]; rfl
    have hvs : ∀ u ∈ vs, ∃ A m c, u = Value.slice A m c := by
      intro u hu
      rw [← htake] at hu
      exact hcur u (List.mem_of_mem_take hu)
    by_cases hroom : vs.length + 1 ≤ cap
    · have hr2 := run_append_room (P := Tryz.prog) w 68 ty 22 i under_sl hi g vs.length cap cur hgc ad 1 1 [.slice B n c] (by rw [hs]; rfl) hn1 ho1 hroom (by rw [hs, hcs]; simp; omega)
      obtain ⟨e1, e2⟩ := Result.ok.inj (hr.symm.trans hr2)
      intro g' hg2 j u hu
      rw [e1] at hg2
      obtain rfl : g = g' := by injection hg2
      rw [e2, cell_of_row _ g j _ _ _ (setRow_heap w g cur _ _ _ hgc)] at hu
      have hm := Array.mem_of_getElem? hu
      rcases List.mem_append.1 (List.mem_toArray.1 hm) with hm | hm
      · rcases List.mem_append.1 hm with hm | hm
        · exact hcur u (List.mem_of_mem_take hm)
        · simp only [List.mem_singleton] at hm
          exact ⟨_, _, _, hm⟩
      · exact hcur u (List.mem_of_mem_drop hm)
    · have hr2 := run_append_grow (P := Tryz.prog) w 68 ty 22 i (.slice none 0 0) under_sl hi hz ⟨g, 0, none⟩ vs.length cap vs (by rw [hs]; exact hown.1) (fun j u hu => hown.cells (g := g) rfl j u hu) ad 1 1 [.slice B n c] (by rw [hs]; rfl) hn1 (by omega) (by omega)
        (growslice_fits_wide (by omega) (by rw [hb]; omega))
      obtain ⟨e1, e2⟩ := Result.ok.inj (hr.symm.trans hr2)
      intro g' hg2 j u hu
      rw [e1] at hg2
      obtain rfl : w.heap.size = g' := by injection hg2
      rw [e2] at hu
      have hu2 : (w.drew.alloc (.cells (vs.toArray ++ [Value.slice B n c].toArray ++ Builtin.zeroCells (Value.cells (.slice none 0 0)) (grownCap w (vs.length + 1) cap 22 - (vs.length + 1))) 22)).cell? ⟨w.drew.heap.size, j, none⟩ = some u := hu
      rw [World.cell?_alloc_new] at hu2
      rcases Array.mem_append.1 (Array.mem_of_getElem? hu2) with hx | hx
      · rcases Array.mem_append.1 hx with hx | hx
        · exact hvs u (List.mem_toArray.1 hx)
        · have hx2 := List.mem_toArray.1 hx
          simp only [List.mem_singleton] at hx2
          exact ⟨_, _, _, hx2⟩
      · exact zero_sl _ u hx

theorem wp_appS {ops : Array Oper} {rest : List Oper} {o : Oper} {a : Act} {w : World} {Q : Exit → Act → World → Prop} (hgd : o.guard = none) (sl x : Operand)
    (ho : o.op = .call { callee := .builtin .append, args := #[sl, x], argTypes := #[68, 68] })
    (base : Nat) (v : Value) (vs : List Value) (B : Option Addr) (n c : Nat) (ad : Addr) (hs : a.eval sl = v) (hx : a.eval x = .slice (some ad) 1 1) (hown : OwnS w base v vs) (had : w.cell? ad = some (.slice B n c)) (h : vs.length ≤ 1000000) (hbase : base ≤ w.heap.size)
    (hk : ∀ v' w', OwnS w' base v' (vs ++ [.slice B n c]) → w.grownBy w' v.ownBlock → wpList Tryz.prog ops Q rest (a.put o.dst v') w') : wpList Tryz.prog ops Q (o :: rest) a w := by
  refine wpList_plain hgd fun K hK => ?_
  obtain ⟨v', w', hr, h1, h2⟩ := appS_at w base o.type v vs B n c ad hown had h hbase
  unfold Oper.wp
  simp [execOp, ho, resolve, invoke, builtin, hs, hx, hr, Result.andThen]
  exact hK _ _ (hk v' w' h1 h2)

/-- The powers: 10^19, its square, and so on. -/
def PW (i : Nat) : Nat := 10 ^ (19 * 2 ^ i)
theorem PW_zero : PW 0 = 10000000000000000000 := by decide
theorem PW_succ (i : Nat) : PW (i + 1) = PW i * PW i := by unfold PW; rw [← Nat.pow_add]; congr 1; rw [Nat.pow_succ]; omega
theorem PW_pos (i : Nat) : 0 < PW i := Nat.pow_pos (by omega)
theorem PW_big (i : Nat) : 2 ^ (63 * 2 ^ i) ≤ PW i := by
  unfold PW
  rw [Nat.pow_mul 2, Nat.pow_mul 10]
  exact Nat.pow_le_pow_left (by decide) _
theorem blen_ge {n k : Nat} (h : 2 ^ k ≤ n) : k < blen n := by
  rcases Nat.lt_or_ge k (blen n) with h1 | h1
  · exact h1
  · have h2 := blen_lt n
    have h3 : 2 ^ blen n ≤ 2 ^ k := Nat.pow_le_pow_right (by omega) h1
    omega
theorem PW_blen (i : Nat) : 63 * 2 ^ i < blen (PW i) := blen_ge (PW_big i)
/-- Where the loop ends the size is below the last one's square. -/
theorem PW_end {n i : Nat} (h : blen n < 2 * blen (PW i) - 1) : n < PW (i + 1) := by
  have h1 := blen_lt n
  have hb := PW_blen i
  have h2 : 2 ^ (blen (PW i) - 1) ≤ PW i := blen_le (by omega)
  have h3 : 2 ^ blen n ≤ 2 ^ (blen (PW i) - 1 + (blen (PW i) - 1)) := Nat.pow_le_pow_right (by omega) (by omega)
  rw [Nat.pow_add] at h3
  have h4 := Nat.mul_le_mul h2 h2
  rw [PW_succ]
  omega
/-- What each power's slice is. -/
def PL (w : World) (vs : List Value) : Prop := ∀ i, i < vs.length → ∃ A c, vs[i]? = some (.slice A (dig (PW i)).length c) ∧ (dig (PW i)).length ≤ c ∧ Num w A (dig (PW i))
theorem PL.below {w w1 : World} {vs : List Value} (h : PL w vs) (hb : Below w.heap.size w w1) : PL w1 vs := fun i hi => by
  obtain ⟨A, c, h1, h2, h3⟩ := h i hi
  exact ⟨A, c, h1, h2, h3.below hb⟩
theorem AllS.num {w w1 : World} {v : Value} (h : AllS w v) (hg : w.grownBy w1 v.ownBlock) {A : Option Addr} {xs : List Nat} (ha : Num w A xs) : Num w1 A xs :=
  ⟨ha.1, fun hn => by
    obtain ⟨b, off, e, hlt, hc⟩ := ha.2 hn
    refine ⟨b, off, e, Nat.lt_of_lt_of_le hlt hg.size, fun i hi => ?_⟩
    refine (World.cell?_of_block (hg.block b hlt ?_)).trans (hc i hi)
    intro e2
    obtain ⟨_, _, _, hz⟩ := h b e2.symm _ _ (hc i hi)
    cases hz⟩
theorem PL.grown {w w1 : World} {vs : List Value} {v : Value} (h : PL w vs) (ha : AllS w v) (hg : w.grownBy w1 v.ownBlock) : PL w1 vs := fun i hi => by
  obtain ⟨A, c, h1, h2, h3⟩ := h i hi
  exact ⟨A, c, h1, h2, ha.num hg h3⟩
theorem PL.snoc {w : World} {vs : List Value} (h : PL w vs) {A : Option Addr} {c : Nat} (hc : (dig (PW vs.length)).length ≤ c) (hn : Num w A (dig (PW vs.length))) : PL w (vs ++ [.slice A (dig (PW vs.length)).length c]) := fun i hi => by
  by_cases h1 : i < vs.length
  · obtain ⟨A, c, k1, k2, k3⟩ := h i h1
    exact ⟨A, c, by rw [List.getElem?_append_left h1]; exact k1, k2, k3⟩
  · have e : i = vs.length := by simp at hi; omega
    subst e
    exact ⟨A, c, by simp, hc, hn⟩
end Go.Proofs.YtmbnlhedbedcdaaGreatDoor.D

/- powersFor, walked. -/
namespace Go.Proofs.YtmbnlhedbedcdaaGreatDoor.D
open Go.RowKit

/-- The powers, as many as the size wants. -/
def RetP (w : World) (n : Nat) (e : Ending) (w' : World) : Prop :=
  ∃ v vs, e = .returned v ∧ OwnS w' w.heap.size v vs ∧ PL w' vs ∧ n < PW vs.length ∧ 2 ^ vs.length ≤ 2100 ∧ Below w.heap.size w w'
theorem PW_dig0 : dig (PW 0) = [10000000000000000000] := by rw [PW_zero]; exact dig_one (by omega) (by rw [B64_eq]; omega)
theorem blen_sq {n : Nat} : blen (n * n) ≤ blen n + blen n := by
  apply blen_le_of_lt
  have h := blen_lt n
  rw [Nat.pow_add]
  exact Nat.mul_lt_mul'' h h
theorem two_pow_small {i e b : Nat} (h : 63 * 2 ^ i < e) (h2 : 2 * e - 1 ≤ b) (hb : b ≤ 64000) : 2 ^ (i + 1 + 1) ≤ 2100 ∧ i < 2100 := by
  have h1 : i < 2 ^ i := Nat.lt_two_pow_self
  rw [Nat.pow_succ, Nat.pow_succ]
  omega
theorem grown_below {w w1 w2 : World} {base : Nat} {v : Value} {vs : List Value} (h : Below base w w1) (hb : base ≤ w.heap.size) (ho : OwnS w1 base v vs) (hg : w1.grownBy w2 v.ownBlock) : Below base w w2 := h.grown hg (Nat.le_trans hb h.size) (fun k hk => (ho.row.lt k hk).1)
theorem dig_len_k {n k : Nat} (h : blen n ≤ 64 * k) : (dig n).length ≤ k := by
  have h1 := blen_lt n
  have h2 : 2 ^ blen n ≤ 2 ^ (64 * k) := Nat.pow_le_pow_right (by omega) h
  refine dig_length_le (Nat.lt_of_lt_of_le h1 ?_)
  rw [B64_pow, ← Nat.pow_mul]
  exact h2
theorem dig_len_blen {n : Nat} (h : blen n ≤ 64100) : (dig n).length ≤ 1002 := dig_len_k (Nat.le_trans h (by omega))
theorem OwnS.below {w w1 : World} {base : Nat} {v : Value} {vs : List Value} (h : OwnS w base v vs) (hb : Below w.heap.size w w1) : OwnS w1 base v vs := by
  refine ⟨⟨h.row.1, ?_⟩, ?_, h.pos⟩
  · rcases h.row.2 with hn | ⟨g, cap, cur, hv, hbg, hg, rest⟩
    · exact .inl hn
    · exact .inr ⟨g, cap, cur, hv, hbg, (hb.block g (lt_of_block hg)).trans hg, rest⟩
  · intro g hg j u hu
    have hlt := (h.row.lt g hg).2
    exact h.all g hg j u ((hb.cell (p := ⟨g, j, none⟩) hlt).symm.trans hu)
theorem blen_len {n k : Nat} (h : (dig n).length ≤ k) : blen n ≤ 64 * k := by
  apply blen_le_of_lt
  have h1 := val_lt (dig_digs n)
  rw [val_dig, B64_pow, ← Nat.pow_mul] at h1
  exact Nat.lt_of_lt_of_le h1 (Nat.pow_le_pow_right (by omega) (by omega))

set_option maxRecDepth 100000 in
set_option maxHeartbeats 4000000 in
theorem powers_any (w : World) (A : Option Addr) (c : Nat) (xs : List Nat) (ha : Num w A xs) (hn : xs.length ≤ 1000) (hc : xs.length ≤ c) :
    Calls Tryz.prog 44 #[.slice A xs.length c] w (RetP w (val xs)) := by
  have hbs : blen (val xs) ≤ 64 * 1000 := blen_len (Nat.le_trans (dig_length_val ha.1) hn)
  have HBS := Lib.hid (fun W (h : Below w.heap.size w W) => bits_v W A c xs (val xs) (ha.below h) rfl (by omega) hc)
  obtain ⟨n, hnv⟩ : ∃ n, val xs = n := ⟨_, rfl⟩
  rw [hnv] at hbs HBS ⊢
  have h0 : Num ((w.alloc (.cells #[.int .u64 10000000000000000000] 36)).alloc (.cells #[.slice (some ⟨w.heap.size, 0, none⟩) 1 1] 22)) (some ⟨w.heap.size, 0, none⟩) (dig (PW 0)) := by
    rw [PW_dig0]
    exact ((Blk.lit w [10000000000000000000]).num (Digs.cons (by rw [B64_eq]; omega) Digs.nil)).alloc _
  have hS0 : OwnS ((w.alloc (.cells #[.int .u64 10000000000000000000] 36)).alloc (.cells #[.slice (some ⟨w.heap.size, 0, none⟩) 1 1] 22)) w.heap.size (.slice (some ⟨w.heap.size + 1, 0, none⟩) 1 1) [.slice (some ⟨w.heap.size, 0, none⟩) 1 1] := by
    have h := World.ownsRow_lit (base := w.heap.size) (e := 22) (size := 1) (w.alloc (.cells #[.int .u64 10000000000000000000] 36)) #[.slice (some ⟨w.heap.size, 0, none⟩) 1 1] 1 (by simp) (by unfold maxLen; omega) rfl
    rw [show (w.alloc (.cells #[.int .u64 10000000000000000000] 36)).heap.size = w.heap.size + 1 by simp] at h
    refine ⟨h, ?_, by simp⟩
    intro g hg j u hu
    obtain rfl : w.heap.size + 1 = g := by injection hg
    have e : (w.alloc (.cells #[.int .u64 10000000000000000000] 36)).heap.size = w.heap.size + 1 := by simp
    rw [← e, World.cell?_alloc_new] at hu
    have hm := Array.mem_of_getElem? hu
    have hm2 := List.mem_toArray.1 hm
    simp only [List.mem_singleton] at hm2
    exact ⟨_, _, _, hm2⟩
  have hP0 : PL ((w.alloc (.cells #[.int .u64 10000000000000000000] 36)).alloc (.cells #[.slice (some ⟨w.heap.size, 0, none⟩) 1 1] 22)) [.slice (some ⟨w.heap.size, 0, none⟩) 1 1] := by
    intro i hi
    obtain rfl : i = 0 := by simpa using hi
    exact ⟨some ⟨w.heap.size, 0, none⟩, 1, by rw [PW_dig0]; rfl, by rw [PW_dig0]; exact Nat.le_refl _, h0⟩
  have hW0 : Below w.heap.size w ((w.alloc (.cells #[.int .u64 10000000000000000000] 36)).alloc (.cells #[.slice (some ⟨w.heap.size, 0, none⟩) 1 1] 22)) := ((Below.refl _ _).alloc (Nat.le_refl _) _).alloc (by simp) _
  have hb64 : blen (PW 0) ≤ 64 := by rw [PW_zero]; exact blen_le_of_lt (by decide)
  have H0 := Lib.hid h0
  have HS0 := Lib.hid hS0
  have HP0 := Lib.hid hP0
  have HW0 := Lib.hid hW0
  have HD0 := Lib.hid PW_dig0
  clear ha h0 hS0 hP0 hW0 hnv
  go_enter Tryz.func44, Tryz.ntmps44
  go_wp2_with fail
  go_loopg [3, 4] 64199 (fun G lv pv wr => ∃ (vs : List Value) (i : Nat) (Al : Option Addr) (cl : Nat), vs.length = i + 1 ∧ i + G = 64199 ∧ lv = .slice Al (dig (PW i)).length cl ∧ (dig (PW i)).length ≤ cl ∧ blen (PW i) ≤ 64100 ∧ 2 ^ (i + 1) ≤ 2100 ∧ Hid (Num wr Al (dig (PW i))) ∧ Hid (OwnS wr w.heap.size pv vs) ∧ Hid (PL wr vs) ∧ Hid (Below w.heap.size w wr))
  case atStart => exact ⟨[.slice (some ⟨w.heap.size, 0, none⟩) 1 1], 0, some ⟨w.heap.size, 0, none⟩, 1, rfl, rfl, by rw [HD0.out]; rfl, by rw [HD0.out]; exact Nat.le_refl _, by omega, by decide, H0, HS0, HP0, HW0⟩
  case round =>
    obtain ⟨vs, i, Al, cl, hvl, hig, rfl, hcl, hbl, hpw, HN, HS, HP, HW⟩ := hrel
    have hdl : (dig (PW i)).length ≤ 1002 := dig_len_blen hbl
    have HB1 := Lib.hid (fun W (h : Num W Al (dig (PW i))) => bits_v W Al cl (dig (PW i)) (PW i) h (val_dig _) (by omega) hcl)
    have HM1 : Hid (∀ W, Num W Al (dig (PW i)) → Calls Tryz.prog 71 #[.slice Al (dig (PW i)).length cl, .slice Al (dig (PW i)).length cl] W (RetN W (PW (i + 1)))) := by
      intro W h
      rw [PW_succ]
      exact mul_v W Al Al cl cl (dig (PW i)) (dig (PW i)) (PW i) (PW i) h h (val_dig _) (val_dig _) (by omega) (by omega) hcl hcl
    have HPB := Lib.hid (PW_blen i)
    have HSQ : Hid (blen (PW (i + 1)) ≤ blen (PW i) + blen (PW i)) := by show _ ≤ _; rw [PW_succ]; exact blen_sq
    obtain ⟨e0, he0⟩ : ∃ e0, blen (PW i) = e0 := ⟨_, rfl⟩
    obtain ⟨b0, hb0⟩ : ∃ b0, blen n = b0 := ⟨_, rfl⟩
    have HE0 := Lib.hid he0
    have HB0 := Lib.hid hb0
    rw [he0] at hbl HB1 HPB
    rw [hb0] at hbs HBS
    have hp0 : 0 < e0 := by have := HPB.out; omega
    have t1 : IntKind.i64.wrap (2 * (e0 : Int)) = 2 * (e0 : Int) := IntWalk.i64_in _ (by omega)
    have t2 : IntKind.i64.wrap (2 * (e0 : Int) - 1) = 2 * (e0 : Int) - 1 := IntWalk.i64_in _ (by omega)
    clear he0 hb0
    by_cases hg : 2 * e0 - 1 ≤ b0
    · have hgd : 2 * (e0 : Int) - 1 ≤ (b0 : Int) := by omega
      have hsm : 2 ^ (i + 1 + 1) ≤ 2100 ∧ i < 2100 := two_pow_small HPB.out hg (by omega)
      have HI := Lib.hid hsm
      have HE1 : Hid (2 * e0 ≤ 64001) := by show _ ≤ _; omega
      clear hsm
      go_wp2_with fail
      refine (HB1.out wr HN.out).mono ?_
      rintro e w1 ⟨rfl, hb1⟩
      have HN1 := Lib.hid (HN.out.below hb1)
      have HP1 := Lib.hid (HP.out.below hb1)
      have HW1 := Lib.hid (HW.out.trans (hb1.mono HW.out.size))
      have HS1 := Lib.hid (HS.out.below hb1)
      clear hb1 HN HP HW HS
      go_wp2_with fail
      refine (HBS.out w1 HW1.out).mono ?_
      rintro e w2 ⟨rfl, hb2⟩
      have HN2 := Lib.hid (HN1.out.below hb2)
      have HP2 := Lib.hid (HP1.out.below hb2)
      have HW2 := Lib.hid (HW1.out.trans (hb2.mono HW1.out.size))
      have HS2 := Lib.hid (HS1.out.below hb2)
      clear hb2 HN1 HP1 HW1 HS1
      go_wp2_with fail
      refine (HM1.out w2 HN2.out).mono ?_
      rintro e w3 ⟨A3, c3, rfl, hc3, h3, hb3⟩
      have HP3 := Lib.hid (HP2.out.below hb3)
      have HW3 := Lib.hid (HW2.out.trans (hb3.mono HW2.out.size))
      have HS3 := Lib.hid (HS2.out.below hb3)
      have HBN : Hid (Below w3.heap.size w3 (w3.alloc (.cells #[.slice A3 (dig (PW (i + 1))).length c3] 22))) := (Below.refl _ _).alloc (Nat.le_refl _) _
      have HN4 : Hid (Num (w3.alloc (.cells #[.slice A3 (dig (PW (i + 1))).length c3] 22)) A3 (dig (PW (i + 1)))) := h3.alloc _
      have HP4 := Lib.hid (HP3.out.below HBN.out)
      have HW4 := Lib.hid (HW3.out.trans (HBN.out.mono HW3.out.size))
      have HS4 := Lib.hid (HS3.out.below HBN.out)
      have HAD : Hid ((w3.alloc (.cells #[.slice A3 (dig (PW (i + 1))).length c3] 22)).cell? ⟨w3.heap.size, 0, none⟩ = some (.slice A3 (dig (PW (i + 1))).length c3)) := by
        show _ = _
        rw [World.cell?_alloc_new]; rfl
      have hsz : w.heap.size ≤ w3.heap.size := HW3.out.size
      clear h3 hb3 HP2 HW2 HS2 HP3 HS3 HN2
      go_wp2_with ((at_builtin; refine wp_appS rfl (.tmp 18) (.tmp 20) rfl w.heap.size u4 vs A3 (dig (PW (i + 1))).length c3 ⟨w3.heap.size, 0, none⟩ rfl rfl HS4.out HAD.out (by have := HI.out; omega) (by simp; omega) ?_); intro v5 w5 ho5 hg5)
      have HS5 := Lib.hid ho5
      have HP5 := Lib.hid (HP4.out.grown HS4.out.all hg5)
      have HN5 := Lib.hid (HS4.out.all.num hg5 HN4.out)
      have HW5 := Lib.hid (grown_below HW4.out (Nat.le_refl _) HS4.out hg5)
      clear ho5 hg5 HP4 HS4 HN4 HW4 HAD
      go_wp2_with fail
      go_roundg (gk - 1)
      case measure => have := HI.out; omega
      case rel =>
        have hpl := HP5.out.snoc (A := A3) (c := c3) (by rw [hvl]; exact hc3) (by rw [hvl]; exact HN5.out)
        rw [hvl] at hpl
        exact ⟨_, i + 1, A3, c3, by simp [hvl], by have := HI.out; omega, rfl, hc3, by have := HSQ.out; have := HE1.out; have := HE0.out; omega, HI.out.1, HN5, HS5, hpl, HW5⟩
    · have hgd : ¬ 2 * (e0 : Int) - 1 ≤ (b0 : Int) := by omega
      go_wp2_with fail
      refine (HB1.out wr HN.out).mono ?_
      rintro e w1 ⟨rfl, hb1⟩
      have HP1 := Lib.hid (HP.out.below hb1)
      have HW1 := Lib.hid (HW.out.trans (hb1.mono HW.out.size))
      have HS1 := Lib.hid (HS.out.below hb1)
      clear hb1 HN HP HW HS
      go_wp2_with fail
      refine (HBS.out w1 HW1.out).mono ?_
      rintro e w2 ⟨rfl, hb2⟩
      have HP2 := Lib.hid (HP1.out.below hb2)
      have HW2 := Lib.hid (HW1.out.trans (hb2.mono HW1.out.size))
      have HS2 := Lib.hid (HS1.out.below hb2)
      clear hb2 HP1 HW1 HS1
      go_wp2_with fail
      go_ret
      refine ⟨u4, vs, rfl, HS2.out, HP2.out, ?_, ?_, HW2.out⟩
      · rw [hvl]
        refine PW_end ?_
        rw [HB0.out, HE0.out]
        omega
      · rw [hvl]; exact hpw
end Go.Proofs.YtmbnlhedbedcdaaGreatDoor.D

/- appendDigits, walked. -/
namespace Go.Proofs.YtmbnlhedbedcdaaGreatDoor.D
open Go.RowKit

theorem Tab.parts {w : World} (h : Tab w) : ∃ g t fr, Tryz.prog.globalNamed "internal/strconv.uint64pow10" = some g ∧ w.heap[g]? = some (.cells (Lib.pow10Tab.map fun z => Value.int .u64 z).toArray t fr) := by
  unfold Tab Lib.TabIs World.var? at h
  cases hg : Tryz.prog.globalNamed "internal/strconv.uint64pow10" with
  | none => simp [hg] at h
  | some g =>
    simp only [hg, Option.bind_some] at h
    split at h
    · rename_i cs t fr e
      injection h with h
      subst h
      exact ⟨g, t, fr, rfl, e⟩
    · cases h
theorem Tab.of_parts {w : World} {g : Nat} {t : TypeId} {fr : Nat × Nat} (h1 : Tryz.prog.globalNamed "internal/strconv.uint64pow10" = some g) (h2 : w.heap[g]? = some (.cells (Lib.pow10Tab.map fun z => Value.int .u64 z).toArray t fr)) : Tab w := by
  unfold Tab Lib.TabIs World.var?
  rw [h1, Option.bind_some, h2]
theorem Tab.below {w w1 : World} (h : Tab w) (hb : Below w.heap.size w w1) : Tab w1 := by
  obtain ⟨g, t, fr, h1, h2⟩ := h.parts
  exact Tab.of_parts h1 ((hb.block g (lt_of_block h2)).trans h2)
theorem Tab.fr {w w1 : World} {v v1 : Value} (h : Tab w) (hf : Fr w w1 v v1) (ha : AllB w v) : Tab w1 := by
  obtain ⟨g, t, fr, h1, h2⟩ := h.parts
  refine Tab.of_parts h1 ((hf.g.block g (lt_of_block h2) ?_).trans h2)
  refine ha.off (o := 0) (u := .int .u64 1) ?_ (fun z hz => by cases hz)
  rw [cell_of_row w g 0 _ _ _ h2]
  rfl
/-- Powers laid from a block's start. -/
def PwS (w : World) (g k : Nat) : Prop := ∀ i, i < k → ∃ A c, w.cell? ⟨g, i, none⟩ = some (.slice A (dig (PW i)).length c) ∧ (dig (PW i)).length ≤ c ∧ Num w A (dig (PW i))
theorem PwS.below {w w1 : World} {g k : Nat} (h : PwS w g k) (hb : Below w.heap.size w w1) : PwS w1 g k := fun i hi => by
  obtain ⟨A, c, h1, h2, h3⟩ := h i hi
  exact ⟨A, c, (hb.cell (p := ⟨g, i, none⟩) (block_lt_of_cell h1)).trans h1, h2, h3.below hb⟩
theorem PwS.fr {w w1 : World} {g k : Nat} {v v1 : Value} (h : PwS w g k) (hf : Fr w w1 v v1) (ha : AllB w v) : PwS w1 g k := fun i hi => by
  obtain ⟨A, c, h1, h2, h3⟩ := h i hi
  exact ⟨A, c, hf.cell ha h1 (fun z hz => by cases hz), h2, hf.num ha h3⟩
theorem PwS.less {w : World} {g k m : Nat} (h : PwS w g k) (hm : m ≤ k) : PwS w g m := fun i hi => h i (Nat.lt_of_lt_of_le hi hm)
theorem pow_tab {a b n m : Nat} (h : n ≤ m) (h1 : a < b) (h2 : n ≠ 0) : a ^ n < b ^ m := Nat.lt_of_lt_of_le (Nat.pow_lt_pow_left h1 h2) (Nat.pow_le_pow_right (by omega) h)
theorem PW_len_k {i K : Nat} (h : 2 ^ i ≤ K) : (dig (PW i)).length ≤ K := by
  refine dig_length_le ?_
  have e : PW i = (10 ^ 19) ^ 2 ^ i := by unfold PW; rw [Nat.pow_mul]
  rw [e]
  exact pow_tab h (by rw [B64_eq]; decide) (by have := Nat.two_pow_pos i; omega)

theorem PW_len {i : Nat} (h : 2 ^ i ≤ 2100) : (dig (PW i)).length ≤ 2100 := PW_len_k h

/-- appendDigits with k powers. -/
def AD (k : Nat) : Prop := 2 ^ k ≤ 2100 → ∀ (w : World) (base : Nat) (v : Value) (l : List UInt8) (A : Option Addr) (c s g cp : Nat), Own w base v l → base ≤ w.heap.size → Num w A (dig s) → s < PW k → (dig s).length ≤ c → PwS w g k → k ≤ cp → Tab w → l.length + 19 * 2 ^ k ≤ 100000000 →
    Calls Tryz.prog 43 #[v, .slice A (dig s).length c, .slice (some ⟨g, 0, none⟩) k cp] w (RetA w base v (l ++ pad (19 * 2 ^ k) s))
set_option maxRecDepth 100000 in
set_option maxHeartbeats 4000000 in
theorem adig_zero : AD 0 := by
  intro hk w base v l A c s g cp hown hbase ha hs hc hp hcp htab hl
  have H := Lib.hid (piece_any w base v l A c s hown hbase ha (by rw [PW_zero] at hs; exact hs) htab (by omega))
  clear ha hs htab hown hp
  go_enter Tryz.func43, Tryz.ntmps43
  go_wp2_with fail
  refine H.out.mono ?_
  rintro e w1 ⟨v1, rfl, h1, h2⟩
  go_wp2_with fail
  go_ret
  exact ⟨v1, rfl, h1, h2⟩
set_option maxRecDepth 100000 in
set_option maxHeartbeats 4000000 in
theorem adig_step {k : Nat} (ih : AD k) (hk : 2 ^ (k + 1) ≤ 2100) (w : World) (base : Nat) (v : Value) (l : List UInt8) (A : Option Addr) (c s g cp : Nat) (xs : List Nat) (hxs : val xs = s) (hxl : xs.length ≤ 100000) (hown : Own w base v l) (hbase : base ≤ w.heap.size) (ha : Num w A xs) (hs : s < PW (k + 1)) (hc : xs.length ≤ c) (hp : PwS w g (k + 1)) (hcp : k + 1 ≤ cp) (htab : Tab w) (hl : l.length + 19 * 2 ^ (k + 1) ≤ 100000000) :
    Calls Tryz.prog 43 #[v, .slice A xs.length c, .slice (some ⟨g, 0, none⟩) (k + 1) cp] w (RetA w base v (l ++ pad (19 * 2 ^ (k + 1)) s)) := by
  have hp2 : 2 ^ (k + 1) = 2 ^ k + 2 ^ k := by rw [Nat.pow_succ]; omega
  obtain ⟨m, hm⟩ : ∃ m, k + 1 = m := ⟨_, rfl⟩
  obtain ⟨B, d, hcell, hd, hB⟩ := hp k (by omega)
  have hk2 : 2 ^ k ≤ 2100 := by omega
  have hkk : k < 2 ^ k := Nat.lt_two_pow_self
  have hdm := dm_v w A B c d xs (dig (PW k)) s (PW k) ha hB hxs (val_dig _) (by omega) (Nat.le_trans (PW_len hk2) (by omega)) hc hd
  have hq : dmq s (PW k) < PW k := by
    unfold dmq
    rw [PW_succ] at hs
    exact (Nat.div_lt_iff_lt_mul (PW_pos k)).2 hs
  have hr : dmr s (PW k) < PW k := by unfold dmr; rw [if_neg (Nat.pos_iff_ne_zero.1 (PW_pos k))]; exact Nat.mod_lt _ (PW_pos k)
  have hpad : l ++ pad (19 * 2 ^ k) (dmq s (PW k)) ++ pad (19 * 2 ^ k) (dmr s (PW k)) = l ++ pad (19 * 2 ^ (k + 1)) s := by
    rw [show 19 * 2 ^ (k + 1) = 19 * 2 ^ k + 19 * 2 ^ k by omega, pad_split, List.append_assoc]
    unfold dmq dmr
    rw [if_neg (Nat.pos_iff_ne_zero.1 (PW_pos k))]
    rfl
  have HDM := Lib.hid hdm
  obtain ⟨q, hqe⟩ : ∃ q, dmq s (PW k) = q := ⟨_, rfl⟩
  obtain ⟨r, hre⟩ : ∃ r, dmr s (PW k) = r := ⟨_, rfl⟩
  rw [hqe, hre] at hpad HDM
  rw [hm] at hpad
  rw [hqe] at hq
  rw [hre] at hr
  have HPAD := Lib.hid hpad
  have HQ := Lib.hid hq
  have HR := Lib.hid hr
  have HL : Hid (l.length + 19 * 2 ^ k + 19 * 2 ^ k ≤ 100000000) := by show _ ≤ _; omega
  have t1 : IntKind.i64.wrap ((m : Int) - 1) = (k : Int) := by
    have h := IntWalk.i64_in ((m : Int) - 1) (by omega)
    rw [h]; omega
  have HOWN := Lib.hid hown
  have HP := Lib.hid (hp.less (Nat.le_succ k))
  have HTAB := Lib.hid htab
  have HIH := Lib.hid ih
  have hkm : k ≤ m := by omega
  have hmc : m ≤ cp := by omega
  have hkm1 : k < m := by omega
  have hkc : k ≤ cp := by omega
  have hm0 : ¬ (m : Int) = 0 := by omega
  have HPWS := Lib.hid (by show (PwS w g k); exact HP.out)
  rw [hm]
  obtain ⟨n, hn⟩ : ∃ n, (dig (PW k)).length = n := ⟨_, rfl⟩
  rw [hn] at hcell HDM
  clear hown hp htab ih hdm hpad hq hr hqe hre ha hs hB hn hm hl hxs
  go_enter Tryz.func43, Tryz.ntmps43
  go_wp2_with fail
  refine HDM.out.mono ?_
  rintro e w1 ⟨A1, c1, B1, d1, rfl, hc1, hd1, h1, h2, hb1⟩
  have HO1 := Lib.hid (HOWN.out.below hb1)
  have HP1 := Lib.hid (HP.out.below hb1)
  have HT1 := Lib.hid (HTAB.out.below hb1)
  have HF1 := Lib.hid (Fr.of_below hb1 v)
  have HA1 := Lib.hid h1
  have HB1 := Lib.hid h2
  have hs1 : base ≤ w1.heap.size := Nat.le_trans hbase hb1.size
  clear h1 h2 hb1 HOWN HP HTAB HPWS HDM hcell
  go_wp2_with fail
  refine (HIH.out hk2 w1 base v l A1 c1 q g cp HO1.out hs1 HA1.out HQ.out hc1 HP1.out hkc HT1.out (by have := HL.out; omega)).mono ?_
  rintro e w2 ⟨v2, rfl, h1, h2⟩
  have HO2 := Lib.hid h1
  have HP2 := Lib.hid (HP1.out.fr h2 HO1.out.all)
  have HT2 := Lib.hid (HT1.out.fr h2 HO1.out.all)
  have HB2 := Lib.hid (h2.num HO1.out.all HB1.out)
  have HF2 := Lib.hid (HF1.out.trans h2)
  have hs2 : base ≤ w2.heap.size := Nat.le_trans hs1 h2.g.size
  have HL2 : Hid ((l ++ pad (19 * 2 ^ k) q).length + 19 * 2 ^ k ≤ 100000000) := by show _ ≤ _; have := HL.out; rw [List.length_append, pad_length]; omega
  clear h1 h2 HO1 HP1 HT1 HB1 HF1 HA1
  go_wp2_with fail
  refine (HIH.out hk2 w2 base v2 (l ++ pad (19 * 2 ^ k) q) B1 d1 r g cp HO2.out hs2 HB2.out HR.out hd1 HP2.out hkc HT2.out HL2.out).mono ?_
  rintro e w3 ⟨v3, rfl, h1, h2⟩
  have HO3 := Lib.hid h1
  have HF3 := Lib.hid (HF2.out.trans h2)
  clear h1 h2
  go_wp2_with fail
  go_ret
  refine ⟨v3, rfl, ?_, HF3.out⟩
  have h := HO3.out
  rw [HPAD.out] at h
  exact h
theorem adig_any : ∀ k, AD k
  | 0 => adig_zero
  | k + 1 => fun hk w base v l A c s g cp hown hbase ha hs hc hp hcp htab hl =>
    adig_step (adig_any k) hk w base v l A c s g cp (dig s) (val_dig _) (Nat.le_trans (dig_length_mono (Nat.le_of_lt hs)) (Nat.le_trans (PW_len hk) (by omega))) hown hbase ha hs hc hp hcp htab hl
end Go.Proofs.YtmbnlhedbedcdaaGreatDoor.D
