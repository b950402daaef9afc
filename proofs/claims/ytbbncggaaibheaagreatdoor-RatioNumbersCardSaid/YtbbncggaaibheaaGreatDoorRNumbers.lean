/- ratio's law RatioNumbers, walked. -/
import Derived.Test.YtbbncggaaibheaaGreatDoorRAwake
import Derived.Test.YtbbncggaaibheaaGreatDoorROrdMath
import Derived.Test.YtbbncggaaibheaaGreatDoorRThree
import Derived.Test.YtbbncggaaibheaaGreatDoorLib
namespace Go.Proofs.YtbbncggaaibheaaGreatDoor.Q
open Go.RowKit
open Go.Proofs.YtbbncggaaibheaaGreatDoor.D (textOf parseV Tab RetS text_parse)
theorem ql_zero0 : ql 0 ≤ 1 := by
  have h := ql_int 0 1 (zl_small (by omega) (by omega)) (by omega)
  exact h

structure N4 (w wx : World) (g1 g2 g3 g4 : Nat) (sf : Bool) (Af : Option Addr) (nf cf : Nat) (se : Bool) (Ae : Option Addr) (ne ce : Nat) (sz : Bool) (Az : Option Addr) (nz cz : Nat) (tz : Bool) (Bz : Option Addr) (mz dz : Nat) (su : Bool) (Au : Option Addr) (nu cu : Nat) (tu : Bool) (Bu : Option Addr) (mu du : Nat) (y2 y1 : Int) (z0 q32 : Rat) : Prop where
  bel : Below w.heap.size w wx
  i1 : Ibx wx g1 sf Af nf cf
  i2 : Ibx wx g2 se Ae ne ce
  i3 : Qbx wx g3 sz Az nz cz tz Bz mz dz
  i4 : Qbx wx g4 su Au nu cu tu Bu mu du
  f : OneZ wx sf Af nf cf y2
  e : OneZ wx se Ae ne ce y1
  z : IsQ wx sz Az nz cz tz Bz mz dz z0 3
  o : IsQ wx su Au nu cu tu Bu mu du q32 3
section
variable {w wx wy : World} {g1 g2 g3 g4 : Nat} {sf : Bool} {Af : Option Addr} {nf cf : Nat} {se : Bool} {Ae : Option Addr} {ne ce : Nat} {sz : Bool} {Az : Option Addr} {nz cz : Nat} {tz : Bool} {Bz : Option Addr} {mz dz : Nat} {su : Bool} {Au : Option Addr} {nu cu : Nat} {tu : Bool} {Bu : Option Addr} {mu du : Nat} {y2 y1 : Int} {z0 q32 : Rat}
theorem N4.below (h : N4 w wx g1 g2 g3 g4 sf Af nf cf se Ae ne ce sz Az nz cz tz Bz mz dz su Au nu cu tu Bu mu du y2 y1 z0 q32) (hb : Below wx.heap.size wx wy) : N4 w wy g1 g2 g3 g4 sf Af nf cf se Ae ne ce sz Az nz cz tz Bz mz dz su Au nu cu tu Bu mu du y2 y1 z0 q32 :=
  ⟨below_on h.bel hb, h.i1.below hb, h.i2.below hb, h.i3.below hb, h.i4.below hb, h.f.below hb, h.e.below hb, h.z.below hb, h.o.below hb⟩
theorem N4.drew (h : N4 w wx g1 g2 g3 g4 sf Af nf cf se Ae ne ce sz Az nz cz tz Bz mz dz su Au nu cu tu Bu mu du y2 y1 z0 q32) : N4 w wx.drew g1 g2 g3 g4 sf Af nf cf se Ae ne ce sz Az nz cz tz Bz mz dz su Au nu cu tu Bu mu du y2 y1 z0 q32 := h.below ((Below.refl _ _).drew)
theorem N4.keep (h : N4 w wx g1 g2 g3 g4 sf Af nf cf se Ae ne ce sz Az nz cz tz Bz mz dz su Au nu cu tu Bu mu du y2 y1 z0 q32) : wx.cell? ⟨g1, 0, none⟩ = some (.bool sf) ∧ wx.cell? ⟨g1, 1, none⟩ = some (.slice Af nf cf) ∧ wx.cell? ⟨g2, 0, none⟩ = some (.bool se) ∧ wx.cell? ⟨g2, 1, none⟩ = some (.slice Ae ne ce) ∧ wx.cell? ⟨g3, 0, none⟩ = some (.bool sz) ∧ wx.cell? ⟨g3, 1, none⟩ = some (.slice Az nz cz) ∧ wx.cell? ⟨g3, 2, none⟩ = some (.bool tz) ∧ wx.cell? ⟨g3, 3, none⟩ = some (.slice Bz mz dz) ∧ wx.cell? ⟨g4, 0, none⟩ = some (.bool su) ∧ wx.cell? ⟨g4, 1, none⟩ = some (.slice Au nu cu) ∧ wx.cell? ⟨g4, 2, none⟩ = some (.bool tu) ∧ wx.cell? ⟨g4, 3, none⟩ = some (.slice Bu mu du) :=
  ⟨h.i1.c0, h.i1.c1, h.i2.c0, h.i2.c1, h.i3.c0, h.i3.c1, h.i3.c2, h.i3.c3, h.i4.c0, h.i4.c1, h.i4.c2, h.i4.c3⟩
end

theorem isz_none (w : World) (k : Nat) : IsZ w false none 0 0 0 k := ⟨⟨[], rfl, Num.nil _ _, rfl⟩, Nat.zero_le _, Nat.zero_le _⟩
theorem of_y (w : World) (n r : Int) (hr : n = r) (h1 : -9223372036854775808 ≤ r) (h2 : r ≤ 9223372036854775807) : Calls Tryz.prog 9 #[.int .i64 n] w (RetJ w r) := (of_z w n r hr h1 h2).mono fun _ _ => retj_of
theorem numb_five {w w5 : World} {g1 g2 : Nat} {sf : Bool} {Af : Option Addr} {nf cf : Nat} {se : Bool} {Ae : Option Addr} {ne ce : Nat} {s0 : Bool} {A0 : Option Addr} {n0 c0 : Nat} {y2 y1 : Int} {z0 q32 : Rat} (hb : Below w.heap.size w w5) (i1 : Ibx w5 g1 sf Af nf cf) (i2 : Ibx w5 g2 se Ae ne ce) (f : OneZ w5 sf Af nf cf y2) (e : OneZ w5 se Ae ne ce y1) (hi : OneZ w5 s0 A0 n0 c0 5) (hz : (0 : Rat) = z0) (hq : Rat.divInt 3 2 = q32) :
    N4 w (((((w5.alloc (.cells #[.int .u64 0] 30)).alloc (.cells #[.bool s0, .slice A0 n0 c0, .bool false, .slice (some ⟨w5.heap.size, 0, none⟩) 1 1] 28)).alloc (.cells #[.int .u64 6, .int .u64 0] 30)).alloc (.cells #[.int .u64 4, .int .u64 0, .int .u64 0] 30)).alloc (.cells #[.bool true, .slice (some ⟨w5.heap.size + 1 + 1, 0, none⟩) 2 2, .bool true, .slice (some ⟨w5.heap.size + 1 + 1 + 1, 0, none⟩) 3 3] 28)) g1 g2 (w5.heap.size + 1) (w5.heap.size + 1 + 1 + 1 + 1) sf Af nf cf se Ae ne ce s0 A0 n0 c0 false (some ⟨w5.heap.size, 0, none⟩) 1 1 true (some ⟨w5.heap.size + 1 + 1, 0, none⟩) 2 2 true (some ⟨w5.heap.size + 1 + 1 + 1, 0, none⟩) 3 3 y2 y1 z0 q32 := by
  have r0 : Num (w5.alloc (.cells #[.int .u64 0] 30)) (some ⟨w5.heap.size, 0, none⟩) [0] := Num.lit w5 [0] (by intro d hd; simp at hd; subst hd; rw [B64_eq]; omega)
  have r6 : Num (((w5.alloc (.cells #[.int .u64 0] 30)).alloc (.cells #[.bool s0, .slice A0 n0 c0, .bool false, .slice (some ⟨w5.heap.size, 0, none⟩) 1 1] 28)).alloc (.cells #[.int .u64 6, .int .u64 0] 30)) (some ⟨w5.heap.size + 1 + 1, 0, none⟩) [6, 0] := by
    have h := Num.lit ((w5.alloc (.cells #[.int .u64 0] 30)).alloc (.cells #[.bool s0, .slice A0 n0 c0, .bool false, .slice (some ⟨w5.heap.size, 0, none⟩) 1 1] 28)) [6, 0] (by intro d hd; simp at hd; rw [B64_eq]; omega)
    have e : ((w5.alloc (.cells #[.int .u64 0] 30)).alloc (.cells #[.bool s0, .slice A0 n0 c0, .bool false, .slice (some ⟨w5.heap.size, 0, none⟩) 1 1] 28)).heap.size = w5.heap.size + 1 + 1 := by simp
    rw [e] at h
    exact h
  have r4 : Num ((((w5.alloc (.cells #[.int .u64 0] 30)).alloc (.cells #[.bool s0, .slice A0 n0 c0, .bool false, .slice (some ⟨w5.heap.size, 0, none⟩) 1 1] 28)).alloc (.cells #[.int .u64 6, .int .u64 0] 30)).alloc (.cells #[.int .u64 4, .int .u64 0, .int .u64 0] 30)) (some ⟨w5.heap.size + 1 + 1 + 1, 0, none⟩) [4, 0, 0] := by
    have h := Num.lit (((w5.alloc (.cells #[.int .u64 0] 30)).alloc (.cells #[.bool s0, .slice A0 n0 c0, .bool false, .slice (some ⟨w5.heap.size, 0, none⟩) 1 1] 28)).alloc (.cells #[.int .u64 6, .int .u64 0] 30)) [4, 0, 0] (by intro d hd; simp at hd; rw [B64_eq]; omega)
    have e : (((w5.alloc (.cells #[.int .u64 0] 30)).alloc (.cells #[.bool s0, .slice A0 n0 c0, .bool false, .slice (some ⟨w5.heap.size, 0, none⟩) 1 1] 28)).alloc (.cells #[.int .u64 6, .int .u64 0] 30)).heap.size = w5.heap.size + 1 + 1 + 1 := by simp
    rw [e] at h
    exact h
  have b1 : Below w.heap.size w (w5.alloc (.cells #[.int .u64 0] 30)) := hb.alloc hb.size _
  have b2 := b1.alloc b1.size (.cells #[.bool s0, .slice A0 n0 c0, .bool false, .slice (some ⟨w5.heap.size, 0, none⟩) 1 1] 28)
  have b3 := b2.alloc b2.size (.cells #[.int .u64 6, .int .u64 0] 30)
  have b4 := b3.alloc b3.size (.cells #[.int .u64 4, .int .u64 0, .int .u64 0] 30)
  refine ⟨b4.alloc b4.size _, ((((i1.alloc _).alloc _).alloc _).alloc _).alloc _, ((((i2.alloc _).alloc _).alloc _).alloc _).alloc _, ?_, Qbx.new _ _ (by simp), ((((f.alloc _).alloc _).alloc _).alloc _).alloc _, ((((e.alloc _).alloc _).alloc _).alloc _).alloc _, ?_, ?_⟩
  · have h : Qbx ((w5.alloc (.cells #[.int .u64 0] 30)).alloc (.cells #[.bool s0, .slice A0 n0 c0, .bool false, .slice (some ⟨w5.heap.size, 0, none⟩) 1 1] 28)) (w5.heap.size + 1) s0 A0 n0 c0 false (some ⟨w5.heap.size, 0, none⟩) 1 1 := Qbx.new _ _ (by simp)
    exact ((h.alloc _).alloc _).alloc _
  · refine ⟨⟨_, [0], hi.en, rfl, ((((hi.num.alloc _).alloc _).alloc _).alloc _).alloc _, (((r0.alloc _).alloc _).alloc _).alloc _, ?_⟩, ?_, by omega, hi.cap, by omega⟩
    · rw [← hz]; show Rat.divInt _ (zv false 0) = 0; exact Rat.divInt_zero _
    · rw [hi.en]; exact Nat.le_trans (zl_small (by omega) (by omega)) (by omega)
  · refine ⟨⟨[6, 0], [4, 0, 0], rfl, rfl, (r6.alloc _).alloc _, r4.alloc _, ?_⟩, by omega, by omega, by omega, by omega⟩
    rw [← hq]; kernel_rfl

/-- The list of what is no fraction. -/
def Strs (W : World) (g : Nat) : Prop := W.heap[g]? = some (.cells #[Value.string ⟨#[]⟩, Value.string ⟨#[47]⟩, Value.string ⟨#[49, 47]⟩, Value.string ⟨#[47, 50]⟩, Value.string ⟨#[49, 47, 45, 50]⟩, Value.string ⟨#[49, 47, 48, 50]⟩, Value.string ⟨#[49, 47, 47, 50]⟩, Value.string ⟨#[49, 47, 50, 47, 51]⟩, Value.string ⟨#[45, 47, 50]⟩, Value.string ⟨#[49, 32, 47, 50]⟩, Value.string ⟨#[49, 47, 43, 50]⟩, Value.string ⟨#[48, 46, 53]⟩, Value.string ⟨#[45, 48, 47, 49]⟩, Value.string ⟨#[49, 47, 45, 48]⟩] 9 (0, 0))
theorem Strs.below {W W' : World} {g : Nat} (h : Strs W g) (hb : Below W.heap.size W W') : Strs W' g := (hb.block g (lt_of_block h)).trans h
theorem Strs.at_ {W : World} {g : Nat} (h : Strs W g) (i : Nat) (hi : i < 14) : ∃ l : List UInt8, W.cell? ⟨g, i, none⟩ = some (.string ⟨l.toArray⟩) ∧ qparse l = (0, 11) ∧ l.length ≤ 100000 := by
  unfold Strs at h
  rw [cell_of_row W g i _ _ _ h]
  rcases i with _ | _ | _ | _ | _ | _ | _ | _ | _ | _ | _ | _ | _ | _ | i
  · exact ⟨[], rfl, by kernel_rfl, by decide⟩
  · exact ⟨[47], rfl, by kernel_rfl, by decide⟩
  · exact ⟨[49, 47], rfl, by kernel_rfl, by decide⟩
  · exact ⟨[47, 50], rfl, by kernel_rfl, by decide⟩
  · exact ⟨[49, 47, 45, 50], rfl, by kernel_rfl, by decide⟩
  · exact ⟨[49, 47, 48, 50], rfl, by kernel_rfl, by decide⟩
  · exact ⟨[49, 47, 47, 50], rfl, by kernel_rfl, by decide⟩
  · exact ⟨[49, 47, 50, 47, 51], rfl, by kernel_rfl, by decide⟩
  · exact ⟨[45, 47, 50], rfl, by kernel_rfl, by decide⟩
  · exact ⟨[49, 32, 47, 50], rfl, by kernel_rfl, by decide⟩
  · exact ⟨[49, 47, 43, 50], rfl, by kernel_rfl, by decide⟩
  · exact ⟨[48, 46, 53], rfl, by kernel_rfl, by decide⟩
  · exact ⟨[45, 48, 47, 49], rfl, by kernel_rfl, by decide⟩
  · exact ⟨[49, 47, 45, 48], rfl, by kernel_rfl, by decide⟩
  · omega
theorem rep_seven (W : World) : Calls Tryz.prog 27 #[.string ⟨#[55]⟩, .int .i64 601] W (fun e w' => e = .returned (.string ⟨(Lib.repeatL ([55] : List UInt8) 601).toArray⟩) ∧ Below W.heap.size W w') :=
  Tryz.strings_Repeat ⟨#[55]⟩ 601 W (by decide) (by decide)

set_option maxRecDepth 100000 in
set_option maxHeartbeats 4000000 in
theorem numbers_walk (w : World) (htab : Tab w) : Calls Tryz.prog 3 #[] w (RetB w true) := by
  obtain ⟨qm32, he_qm32⟩ : ∃ v : Rat, Rat.divInt (-3) (2) = v := ⟨_, rfl⟩
  have HE_qm32 := Lib.hid he_qm32
  have HL_qm32 : Hid (ql qm32 ≤ 1) := by
    show _ ≤ _
    have h := ql_of (n := -3) (d := 2) (by omega) (by omega) (by omega) (by omega)
    rw [he_qm32] at h
    omega
  obtain ⟨q32, he_q32⟩ : ∃ v : Rat, Rat.divInt (3) (2) = v := ⟨_, rfl⟩
  have HE_q32 := Lib.hid he_q32
  have HL_q32 : Hid (ql q32 ≤ 1) := by
    show _ ≤ _
    have h := ql_of (n := 3) (d := 2) (by omega) (by omega) (by omega) (by omega)
    rw [he_q32] at h
    omega
  obtain ⟨q12, he_q12⟩ : ∃ v : Rat, Rat.divInt (1) (2) = v := ⟨_, rfl⟩
  have HE_q12 := Lib.hid he_q12
  have HL_q12 : Hid (ql q12 ≤ 1) := by
    show _ ≤ _
    have h := ql_of (n := 1) (d := 2) (by omega) (by omega) (by omega) (by omega)
    rw [he_q12] at h
    omega
  obtain ⟨q13, he_q13⟩ : ∃ v : Rat, Rat.divInt (1) (3) = v := ⟨_, rfl⟩
  have HE_q13 := Lib.hid he_q13
  have HL_q13 : Hid (ql q13 ≤ 1) := by
    show _ ≤ _
    have h := ql_of (n := 1) (d := 3) (by omega) (by omega) (by omega) (by omega)
    rw [he_q13] at h
    omega
  obtain ⟨qm13, he_qm13⟩ : ∃ v : Rat, Rat.divInt (-1) (3) = v := ⟨_, rfl⟩
  have HE_qm13 := Lib.hid he_qm13
  have HL_qm13 : Hid (ql qm13 ≤ 1) := by
    show _ ≤ _
    have h := ql_of (n := -1) (d := 3) (by omega) (by omega) (by omega) (by omega)
    rw [he_qm13] at h
    omega
  obtain ⟨qm12, he_qm12⟩ : ∃ v : Rat, Rat.divInt (-1) (2) = v := ⟨_, rfl⟩
  have HE_qm12 := Lib.hid he_qm12
  have HL_qm12 : Hid (ql qm12 ≤ 1) := by
    show _ ≤ _
    have h := ql_of (n := -1) (d := 2) (by omega) (by omega) (by omega) (by omega)
    rw [he_qm12] at h
    omega
  obtain ⟨q84, he_q84⟩ : ∃ v : Rat, Rat.divInt (8) (4) = v := ⟨_, rfl⟩
  have HE_q84 := Lib.hid he_q84
  have HL_q84 : Hid (ql q84 ≤ 1) := by
    show _ ≤ _
    have h := ql_of (n := 8) (d := 4) (by omega) (by omega) (by omega) (by omega)
    rw [he_q84] at h
    omega
  obtain ⟨qmm, he_qmm⟩ : ∃ v : Rat, Rat.divInt (-9223372036854775808) (-9223372036854775808) = v := ⟨_, rfl⟩
  have HE_qmm := Lib.hid he_qmm
  have HL_qmm : Hid (ql qmm ≤ 1) := by
    show _ ≤ _
    have h := ql_of (n := -9223372036854775808) (d := -9223372036854775808) (by omega) (by omega) (by omega) (by omega)
    rw [he_qmm] at h
    omega
  obtain ⟨qm1, he_qm1⟩ : ∃ v : Rat, Rat.divInt (-9223372036854775808) (1) = v := ⟨_, rfl⟩
  have HE_qm1 := Lib.hid he_qm1
  have HL_qm1 : Hid (ql qm1 ≤ 1) := by
    show _ ≤ _
    have h := ql_of (n := -9223372036854775808) (d := 1) (by omega) (by omega) (by omega) (by omega)
    rw [he_qm1] at h
    omega
  obtain ⟨z0, he_z0⟩ : ∃ v : Rat, (0 : Rat) = v := ⟨_, rfl⟩
  have HE_z0 := Lib.hid he_z0
  have HL_z0 : Hid (ql z0 ≤ 1) := by
    show _ ≤ _
    have h := ql_zero0
    rw [he_z0] at h
    omega
  obtain ⟨qz, he_qz⟩ : ∃ v : Rat, q12 / z0 = v := ⟨_, rfl⟩
  have HE_qz := Lib.hid he_qz
  have HL_qz : Hid (ql qz ≤ 2) := by
    show _ ≤ _
    have h := (Nat.le_trans (ql_quo q12 z0) (by have := HL_q12.out; have := HL_z0.out; omega) : ql (q12 / z0) ≤ 2)
    rw [he_qz] at h
    omega
  obtain ⟨qa, he_qa⟩ : ∃ v : Rat, z0 + q13 = v := ⟨_, rfl⟩
  have HE_qa := Lib.hid he_qa
  have HL_qa : Hid (ql qa ≤ 5) := by
    show _ ≤ _
    have h := (Nat.le_trans (ql_add z0 q13) (by have := HL_z0.out; have := HL_q13.out; omega) : ql (z0 + q13) ≤ 5)
    rw [he_qa] at h
    omega
  obtain ⟨qm, he_qm⟩ : ∃ v : Rat, z0 * q32 = v := ⟨_, rfl⟩
  have HE_qm := Lib.hid he_qm
  have HL_qm : Hid (ql qm ≤ 2) := by
    show _ ≤ _
    have h := (Nat.le_trans (ql_mul z0 q32) (by have := HL_z0.out; have := HL_q32.out; omega) : ql (z0 * q32) ≤ 2)
    rw [he_qm] at h
    omega
  obtain ⟨qn, he_qn⟩ : ∃ v : Rat, -q32 = v := ⟨_, rfl⟩
  have HE_qn := Lib.hid he_qn
  have HL_qn : Hid (ql qn ≤ 1) := by
    show _ ≤ _
    have h := (Nat.le_trans (Nat.le_of_eq (ql_neg q32)) HL_q32.out : ql (-q32) ≤ 1)
    rw [he_qn] at h
    omega
  have hl13 : ql qm13 ≤ 1 := HL_qm13.out
  have hl13n : ql (-qm13) ≤ 1 := Nat.le_trans (Nat.le_of_eq (ql_neg qm13)) HL_qm13.out
  have hlp13 : ql q13 ≤ 1 := HL_q13.out
  have hl32 : ql q32 ≤ 1 := HL_q32.out
  have hlm12 : ql qm12 ≤ 1 := HL_qm12.out
  obtain ⟨qab, he_qab⟩ : ∃ v : Rat, (if qm13 < 0 then -qm13 else qm13) = v := ⟨_, rfl⟩
  have HE_qab := Lib.hid he_qab
  have HL_qab : Hid (ql qab ≤ 1) := by
    show _ ≤ _
    have h := (by split <;> assumption : ql (if qm13 < 0 then -qm13 else qm13) ≤ 1)
    rw [he_qab] at h
    omega
  obtain ⟨qmx, he_qmx⟩ : ∃ v : Rat, (if q13 < q32 then q32 else q13) = v := ⟨_, rfl⟩
  have HE_qmx := Lib.hid he_qmx
  have HL_qmx : Hid (ql qmx ≤ 1) := by
    show _ ≤ _
    have h := (by split <;> assumption : ql (if q13 < q32 then q32 else q13) ≤ 1)
    rw [he_qmx] at h
    omega
  obtain ⟨qmn, he_qmn⟩ : ∃ v : Rat, (if qm12 < qm13 then qm12 else qm13) = v := ⟨_, rfl⟩
  have HE_qmn := Lib.hid he_qmn
  have HL_qmn : Hid (ql qmn ≤ 1) := by
    show _ ≤ _
    have h := (by split <;> assumption : ql (if qm12 < qm13 then qm12 else qm13) ≤ 1)
    rw [he_qmn] at h
    omega
  clear hl13 hl13n hlp13 hl32 hlm12
  obtain ⟨y2, he_y2⟩ : ∃ y : Int, (-2 : Int) = y := ⟨_, rfl⟩
  have HE_y2 := Lib.hid he_y2
  have HZ_y2 : Hid (zl y2 ≤ 1) := by show _ ≤ _; rw [← he_y2]; exact zl_small (by omega) (by omega)
  have HB_y2 : Hid (-9223372036854775808 ≤ y2 ∧ y2 ≤ 9223372036854775807) := by show _ ∧ _; omega
  obtain ⟨y1, he_y1⟩ : ∃ y : Int, (-1 : Int) = y := ⟨_, rfl⟩
  have HE_y1 := Lib.hid he_y1
  have HZ_y1 : Hid (zl y1 ≤ 1) := by show _ ≤ _; rw [← he_y1]; exact zl_small (by omega) (by omega)
  have HB_y1 : Hid (-9223372036854775808 ≤ y1 ∧ y1 ≤ 9223372036854775807) := by show _ ∧ _; omega
  obtain ⟨y3, he_y3⟩ : ∃ y : Int, (3 : Int) = y := ⟨_, rfl⟩
  have HE_y3 := Lib.hid he_y3
  have HZ_y3 : Hid (zl y3 ≤ 1) := by show _ ≤ _; rw [← he_y3]; exact zl_small (by omega) (by omega)
  have HB_y3 : Hid (-9223372036854775808 ≤ y3 ∧ y3 ≤ 9223372036854775807) := by show _ ∧ _; omega
  obtain ⟨y7, he_y7⟩ : ∃ y : Int, (-7 : Int) = y := ⟨_, rfl⟩
  have HE_y7 := Lib.hid he_y7
  have HZ_y7 : Hid (zl y7 ≤ 1) := by show _ ≤ _; rw [← he_y7]; exact zl_small (by omega) (by omega)
  have HB_y7 : Hid (-9223372036854775808 ≤ y7 ∧ y7 ≤ 9223372036854775807) := by show _ ∧ _; omega
  obtain ⟨y5, he_y5⟩ : ∃ y : Int, (5 : Int) = y := ⟨_, rfl⟩
  have HE_y5 := Lib.hid he_y5
  have HZ_y5 : Hid (zl y5 ≤ 1) := by show _ ≤ _; rw [← he_y5]; exact zl_small (by omega) (by omega)
  have HB_y5 : Hid (-9223372036854775808 ≤ y5 ∧ y5 ≤ 9223372036854775807) := by show _ ∧ _; omega
  obtain ⟨q7, he_q7⟩ : ∃ v : Rat, (y7 : Rat) = v := ⟨_, rfl⟩
  have HE_q7 := Lib.hid he_q7
  have HL_q7 : Hid (ql q7 ≤ 1) := by
    show _ ≤ _
    have h := ql_int y7 1 HZ_y7.out (by omega)
    rw [he_q7] at h
    omega
  obtain ⟨qk, he_qk⟩ : ∃ v : Rat, Rat.divInt y3 0 = v := ⟨_, rfl⟩
  have HE_qk := Lib.hid he_qk
  have HL_qk : Hid (ql qk ≤ 1) := by
    show _ ≤ _
    have h := (by rw [Rat.divInt_zero]; exact ql_zero0 : ql (Rat.divInt y3 0) ≤ 1)
    rw [he_qk] at h
    omega
  have TX_z0 : Hid (qtext z0 = [48]) := by
    show _ = _
    exact tx_whole (0) [48] (by rw [← he_z0]; kernel_rfl) (by rw [← he_z0]; kernel_rfl) (by kernel_rfl)
  have TX_32 : Hid (qtext q32 = [51, 47, 50]) := by
    show _ = _
    exact tx_part (3) 2 [51] [50] (by rw [← he_q32]; kernel_rfl) (by decide) (by rw [← he_q32]; kernel_rfl) (by kernel_rfl) (by kernel_rfl)
  have TX_z : Hid (qtext qz = [48]) := by
    show _ = _
    exact tx_whole (0) [48] (by rw [← he_qz, ← he_q12, ← he_z0]; kernel_rfl) (by rw [← he_qz, ← he_q12, ← he_z0]; kernel_rfl) (by kernel_rfl)
  have TX_a : Hid (qtext qa = [49, 47, 51]) := by
    show _ = _
    exact tx_part (1) 3 [49] [51] (by rw [← he_qa, ← he_z0, ← he_q13]; kernel_rfl) (by decide) (by rw [← he_qa, ← he_z0, ← he_q13]; kernel_rfl) (by kernel_rfl) (by kernel_rfl)
  have TX_m : Hid (qtext qm = [48]) := by
    show _ = _
    exact tx_whole (0) [48] (by rw [← he_qm, ← he_z0, ← he_q32]; kernel_rfl) (by rw [← he_qm, ← he_z0, ← he_q32]; kernel_rfl) (by kernel_rfl)
  have TX_n : Hid (qtext qn = [45, 51, 47, 50]) := by
    show _ = _
    exact tx_part (-3) 2 [45, 51] [50] (by rw [← he_qn, ← he_q32]; kernel_rfl) (by decide) (by rw [← he_qn, ← he_q32]; kernel_rfl) (by kernel_rfl) (by kernel_rfl)
  have TX_ab : Hid (qtext qab = [49, 47, 51]) := by
    show _ = _
    exact tx_part (1) 3 [49] [51] (by rw [← he_qab, ← he_qm13]; kernel_rfl) (by decide) (by rw [← he_qab, ← he_qm13]; kernel_rfl) (by kernel_rfl) (by kernel_rfl)
  have TX_k : Hid (qtext qk = [48]) := by
    show _ = _
    exact tx_whole (0) [48] (by rw [← he_qk, ]; kernel_rfl) (by rw [← he_qk, ]; kernel_rfl) (by kernel_rfl)
  have TX_mx : Hid (qtext qmx = [51, 47, 50]) := by
    show _ = _
    exact tx_part (3) 2 [51] [50] (by rw [← he_qmx, ← he_q13, ← he_q32]; kernel_rfl) (by decide) (by rw [← he_qmx, ← he_q13, ← he_q32]; kernel_rfl) (by kernel_rfl) (by kernel_rfl)
  have TX_mn : Hid (qtext qmn = [45, 49, 47, 50]) := by
    show _ = _
    exact tx_part (-1) 2 [45, 49] [50] (by rw [← he_qmn, ← he_qm12, ← he_qm13]; kernel_rfl) (by decide) (by rw [← he_qmn, ← he_qm12, ← he_qm13]; kernel_rfl) (by kernel_rfl) (by kernel_rfl)
  have TX_mm : Hid (qtext qmm = [49]) := by
    show _ = _
    exact tx_whole (1) [49] (by rw [← he_qmm]; kernel_rfl) (by rw [← he_qmm]; kernel_rfl) (by kernel_rfl)
  have TX_m1 : Hid (qtext qm1 = [45, 57, 50, 50, 51, 51, 55, 50, 48, 51, 54, 56, 53, 52, 55, 55, 53, 56, 48, 56]) := by
    show _ = _
    exact tx_whole (-9223372036854775808) [45, 57, 50, 50, 51, 51, 55, 50, 48, 51, 54, 56, 53, 52, 55, 55, 53, 56, 48, 56] (by rw [← he_qm1]; kernel_rfl) (by rw [← he_qm1]; kernel_rfl) (by kernel_rfl)
  have TX_7 : Hid (qtext q7 = [45, 55]) := by
    show _ = _
    exact tx_whole (-7) [45, 55] (by rw [← he_q7, ← he_y7]; kernel_rfl) (by rw [← he_q7, ← he_y7]; kernel_rfl) (by kernel_rfl)
  have HFL : Hid (qm32.floor = y2) := by show _ = _; rw [← he_qm32, ← he_y2]; kernel_rfl
  have HCE : Hid (qm32.ceil = y1) := by show _ = _; rw [← he_qm32, ← he_y1]; kernel_rfl
  have HS0 : Hid (qsign z0 = 0) := by show _ = _; rw [← he_z0]; rfl
  have HW84 : Hid (decide (q84.den = 1) = true) := by show _ = _; rw [← he_q84]; kernel_rfl
  have HW12 : Hid (decide (q12.den = 1) = false) := by show _ = _; rw [← he_q12]; kernel_rfl
  have HC : Hid (qcmp q13 q12 = -1) := by show _ = _; rw [← he_q13, ← he_q12]; kernel_rfl
  clear he_qm32 he_q32 he_q12 he_q13 he_qm13 he_qm12 he_q84 he_qmm he_qm1 he_z0 he_qz he_qa he_qm he_qn he_qab he_qmx he_qmn he_y2 he_y1 he_y3 he_y7 he_y5 he_q7 he_qk
  have HT := Lib.hid htab
  have HB : Hid (Below w.heap.size w w) := Below.refl _ _
  clear htab
  go_enter Tryz.func3, Tryz.ntmps3
  go_wp2_with fail
  refine (of_q _ (-3) (2) (by omega) (by omega) (by omega) (by omega) qm32 HE_qm32.out).mono ?_
  rintro e w1 ⟨s_x1, A_x1, n_x1, c_x1, t_x1, B_x1, m_x1, d_x1, rfl, h_x1, hbx⟩
  replace HB := Lib.hid (below_on HB.out hbx)
  have H_x1 := Lib.hid h_x1
  clear hbx
  go_wp2_with fail
  refine (floor_q (H_x1.out.isq (k := 700) (Nat.le_trans HL_qm32.out (by omega))) (by omega) (by omega) y2 HFL.out).mono ?_
  rintro e w2 ⟨s_fl, A_fl, n_fl, c_fl, rfl, h_fl, hbx⟩
  replace HB := Lib.hid (below_on HB.out hbx)
  replace H_x1 := Lib.hid (H_x1.out.below hbx)
  have H_fl := Lib.hid h_fl
  clear h_fl
  clear hbx
  go_wp2_with fail
  clear H_x1
  refine (of_q _ (-3) (2) (by omega) (by omega) (by omega) (by omega) qm32 HE_qm32.out).mono ?_
  rintro e w3 ⟨s_x2, A_x2, n_x2, c_x2, t_x2, B_x2, m_x2, d_x2, rfl, h_x2, hbx⟩
  replace HB := Lib.hid (below_on HB.out hbx)
  replace H_fl := Lib.hid (H_fl.out.below hbx)
  have H_x2 := Lib.hid h_x2
  clear hbx
  go_wp2_with fail
  refine (ceil_q (H_x2.out.isq (k := 700) (Nat.le_trans HL_qm32.out (by omega))) (by omega) (by omega) y1 HCE.out).mono ?_
  rintro e w4 ⟨s_ce, A_ce, n_ce, c_ce, rfl, h_ce, hbx⟩
  replace HB := Lib.hid (below_on HB.out hbx)
  replace H_fl := Lib.hid (H_fl.out.below hbx)
  replace H_x2 := Lib.hid (H_x2.out.below hbx)
  have H_ce := Lib.hid h_ce
  clear hbx
  clear h_ce
  clear H_x2
  obtain ⟨V4, hV4⟩ : ∃ V, (w4.alloc (Obj.cells #[.bool s_fl, .slice A_fl n_fl c_fl] 25)).alloc (Obj.cells #[.bool s_ce, .slice A_ce n_ce c_ce] 25) = V := ⟨_, rfl⟩
  have HI1 : Hid (Ibx V4 w4.heap.size s_fl A_fl n_fl c_fl) := by rw [← hV4]; exact (Ibx.new' _ _ _ _ _ _ rfl).alloc _
  have HI2 : Hid (Ibx V4 (w4.heap.size + 1) s_ce A_ce n_ce c_ce) := by rw [← hV4]; exact Ibx.new' _ _ _ _ _ _ (by simp)
  replace H_fl : Hid (OneZ V4 s_fl A_fl n_fl c_fl y2) := by rw [← hV4]; exact (H_fl.out.alloc _).alloc _
  replace H_ce : Hid (OneZ V4 s_ce A_ce n_ce c_ce y1) := by rw [← hV4]; exact (H_ce.out.alloc _).alloc _
  replace HB : Hid (Below w.heap.size w V4) := by rw [← hV4]; exact (HB.out.alloc HB.out.size _).alloc (HB.out.alloc HB.out.size _).size _
  go_wp2_with fail
  refine (of_j _ 5 (by omega) (by omega)).mono ?_
  rintro e w5 ⟨s_fi, A_fi, n_fi, c_fi, rfl, h_fi, hbx⟩
  replace HB := Lib.hid (below_on HB.out hbx)
  replace H_fl := Lib.hid (H_fl.out.below hbx)
  replace H_ce := Lib.hid (H_ce.out.below hbx)
  replace HI1 := Lib.hid (HI1.out.below hbx)
  replace HI2 := Lib.hid (HI2.out.below hbx)
  have H_fi := Lib.hid h_fi
  clear h_fi
  clear hV4
  clear hbx
  go_upto_region 5 with fail
  obtain ⟨V5, hV5⟩ : ∃ V, ((((w5.alloc (.cells #[.int .u64 0] 30)).alloc (.cells #[.bool s_fi, .slice A_fi n_fi c_fi, .bool false, .slice (some ⟨w5.heap.size, 0, none⟩) 1 1] 28)).alloc (.cells #[.int .u64 6, .int .u64 0] 30)).alloc (.cells #[.int .u64 4, .int .u64 0, .int .u64 0] 30)).alloc (.cells #[.bool true, .slice (some ⟨w5.heap.size + 1 + 1, 0, none⟩) 2 2, .bool true, .slice (some ⟨w5.heap.size + 1 + 1 + 1, 0, none⟩) 3 3] 28) = V := ⟨_, rfl⟩
  have HX : Hid (N4 w V5 w4.heap.size (w4.heap.size + 1) (w5.heap.size + 1) (w5.heap.size + 1 + 1 + 1 + 1) s_fl A_fl n_fl c_fl s_ce A_ce n_ce c_ce s_fi A_fi n_fi c_fi false (some ⟨w5.heap.size, 0, none⟩) 1 1 true (some ⟨w5.heap.size + 1 + 1, 0, none⟩) 2 2 true (some ⟨w5.heap.size + 1 + 1 + 1, 0, none⟩) 3 3 y2 y1 z0 q32) := by rw [← hV5]; exact numb_five HB.out HI1.out HI2.out H_fl.out H_ce.out H_fi.out HE_z0.out HE_q32.out
  rw [show ((((w5.alloc (.cells #[.int .u64 0] 30)).alloc (.cells #[.bool s_fi, .slice A_fi n_fi c_fi, .bool false, .slice (some ⟨w5.heap.size, 0, none⟩) 1 1] 28)).alloc (.cells #[.int .u64 6, .int .u64 0] 30)).alloc (.cells #[.int .u64 4, .int .u64 0, .int .u64 0] 30)).alloc (.cells #[.bool true, .slice (some ⟨w5.heap.size + 1 + 1, 0, none⟩) 2 2, .bool true, .slice (some ⟨w5.heap.size + 1 + 1 + 1, 0, none⟩) 3 3] 28) = V5 from hV5]
  clear hV5 HB HI1 HI2 H_fl H_ce H_fi
  go_upto_region 5 with fail
  go_cut [6] from 36 to 95 (fun s6 wx => s6 = .bool true ∧ Hid (N4 w wx w4.heap.size (w4.heap.size + 1) (w5.heap.size + 1) (w5.heap.size + 1 + 1 + 1 + 1) s_fl A_fl n_fl c_fl s_ce A_ce n_ce c_ce s_fi A_fi n_fi c_fi false (some ⟨w5.heap.size, 0, none⟩) 1 1 true (some ⟨w5.heap.size + 1 + 1, 0, none⟩) 2 2 true (some ⟨w5.heap.size + 1 + 1 + 1, 0, none⟩) 3 3 y2 y1 z0 q32))
  case first =>
    as_aux_lemma =>
      replace HX := Lib.hid HX.out.drew
      refine wp_region_held_drew (S := (fun V => V.cell? ⟨w4.heap.size, 0, none⟩ = some (.bool s_fl) ∧ V.cell? ⟨w4.heap.size, 1, none⟩ = some (.slice A_fl n_fl c_fl) ∧ V.cell? ⟨w4.heap.size + 1, 0, none⟩ = some (.bool s_ce) ∧ V.cell? ⟨w4.heap.size + 1, 1, none⟩ = some (.slice A_ce n_ce c_ce) ∧ V.cell? ⟨w5.heap.size + 1, 0, none⟩ = some (.bool s_fi) ∧ V.cell? ⟨w5.heap.size + 1, 1, none⟩ = some (.slice A_fi n_fi c_fi) ∧ V.cell? ⟨w5.heap.size + 1, 2, none⟩ = some (.bool false) ∧ V.cell? ⟨w5.heap.size + 1, 3, none⟩ = some (.slice (some ⟨w5.heap.size, 0, none⟩) 1 1) ∧ V.cell? ⟨w5.heap.size + 1 + 1 + 1 + 1, 0, none⟩ = some (.bool true) ∧ V.cell? ⟨w5.heap.size + 1 + 1 + 1 + 1, 1, none⟩ = some (.slice (some ⟨w5.heap.size + 1 + 1, 0, none⟩) 2 2) ∧ V.cell? ⟨w5.heap.size + 1 + 1 + 1 + 1, 2, none⟩ = some (.bool true) ∧ V.cell? ⟨w5.heap.size + 1 + 1 + 1 + 1, 3, none⟩ = some (.slice (some ⟨w5.heap.size + 1 + 1 + 1, 0, none⟩) 3 3))) (by kernel_rfl) (by with_reducible exact HX.out.keep) (fun hHeld => ?_)
      refine' wpAnyH_take (i := 0) (v := _) rfl (by kernel_rfl) (by kernel_rfl) (by kernel_rfl) (fun _ _ _ h => h) (Or.inl ⟨by rfl, ?hy1⟩) (by assumption) ?rest1
      case hy1 => (intro w hSw; (try dsimp only at hSw); try simp only [List.getElem_toArray, List.getElem_cons_zero]; go_simp; (try with_reducible rfl))
      try simp only [List.getElem_toArray, List.getElem_cons_zero]
      try simp only [Act.put, List.setIfInBounds_toArray, List.set_cons_zero, List.set_cons_succ]
      refine wpAnyH_ready (rs := [1]) (by kernel_rfl) (by simp) ?_
      refine AllReadyH.cons rfl (fun K hK => ?_) AllReadyH.nil
      try simp only [List.getElem_toArray, List.getElem_cons_zero, List.getElem_cons_succ]
      go_simp
      with_reducible refine (of_y _ (-2) y2 HE_y2.out HB_y2.out.1 HB_y2.out.2).mono ?_
      rintro e w6 ⟨s_m2, A_m2, n_m2, c_m2, rfl, h_m2, hbx⟩
      replace HX := Lib.hid (HX.out.below hbx)
      have H_m2 := Lib.hid h_m2
      clear h_m2
      clear hbx
      refine hK.out _ _ (by with_reducible exact HX.out.keep) (fun hHeld => ?_)
      clear hK K
      try simp only [Act.put, List.setIfInBounds_toArray, List.set_cons_zero, List.set_cons_succ]
      refine wpAnyH_ready (rs := [2]) (by kernel_rfl) (by simp) ?_
      refine AllReadyH.cons rfl (fun K hK => ?_) AllReadyH.nil
      try simp only [List.getElem_toArray, List.getElem_cons_zero, List.getElem_cons_succ]
      go_simp
      with_reducible refine (int_j HX.out.f H_m2.out (Nat.le_trans HZ_y2.out (by omega)) true (decide_eq_true rfl)).mono ?_
      rintro e w7 ⟨rfl, hbx⟩
      replace HX := Lib.hid (HX.out.below hbx)
      replace H_m2 := Lib.hid (H_m2.out.below hbx)
      clear hbx
      refine hK.out _ _ (by with_reducible exact HX.out.keep) (fun hHeld => ?_)
      clear hK K
      try simp only [Act.put, List.setIfInBounds_toArray, List.set_cons_zero, List.set_cons_succ]
      clear H_m2
      refine' wpAnyH_take (i := 3) (v := _) rfl (by kernel_rfl) (by kernel_rfl) (by kernel_rfl) (fun _ _ _ h => h) (Or.inl ⟨by rfl, ?hy2⟩) (by assumption) ?rest2
      case hy2 => (intro w hSw; (try dsimp only at hSw); try simp only [List.getElem_toArray, List.getElem_cons_zero, List.getElem_cons_succ]; go_simp; (try with_reducible rfl))
      try simp only [List.getElem_toArray, List.getElem_cons_zero, List.getElem_cons_succ]
      try simp only [Act.put, List.setIfInBounds_toArray, List.set_cons_zero, List.set_cons_succ]
      refine' wpAnyH_take (i := 4) (v := _) rfl (by kernel_rfl) (by kernel_rfl) (by kernel_rfl) (fun _ _ _ h => h) (Or.inl ⟨by rfl, ?hy3⟩) (by assumption) ?rest3
      case hy3 => (intro w hSw; (try dsimp only at hSw); try simp only [List.getElem_toArray, List.getElem_cons_zero, List.getElem_cons_succ]; go_simp; (try with_reducible rfl))
      try simp only [List.getElem_toArray, List.getElem_cons_zero, List.getElem_cons_succ]
      try simp only [Act.put, List.setIfInBounds_toArray, List.set_cons_zero, List.set_cons_succ]
      refine wpAnyH_ready (rs := [5]) (by kernel_rfl) (by simp) ?_
      refine AllReadyH.cons rfl (fun K hK => ?_) AllReadyH.nil
      try simp only [List.getElem_toArray, List.getElem_cons_zero, List.getElem_cons_succ]
      go_simp
      with_reducible refine (of_y _ (-1) y1 HE_y1.out HB_y1.out.1 HB_y1.out.2).mono ?_
      rintro e w8 ⟨s_m1, A_m1, n_m1, c_m1, rfl, h_m1, hbx⟩
      replace HX := Lib.hid (HX.out.below hbx)
      have H_m1 := Lib.hid h_m1
      clear h_m1
      clear hbx
      refine hK.out _ _ (by with_reducible exact HX.out.keep) (fun hHeld => ?_)
      clear hK K
      try simp only [Act.put, List.setIfInBounds_toArray, List.set_cons_zero, List.set_cons_succ]
      refine wpAnyH_ready (rs := [6]) (by kernel_rfl) (by simp) ?_
      refine AllReadyH.cons rfl (fun K hK => ?_) AllReadyH.nil
      try simp only [List.getElem_toArray, List.getElem_cons_zero, List.getElem_cons_succ]
      go_simp
      with_reducible refine (int_j HX.out.e H_m1.out (Nat.le_trans HZ_y1.out (by omega)) true (decide_eq_true rfl)).mono ?_
      rintro e w9 ⟨rfl, hbx⟩
      replace HX := Lib.hid (HX.out.below hbx)
      replace H_m1 := Lib.hid (H_m1.out.below hbx)
      clear hbx
      refine hK.out _ _ (by with_reducible exact HX.out.keep) (fun hHeld => ?_)
      clear hK K
      try simp only [Act.put, List.setIfInBounds_toArray, List.set_cons_zero, List.set_cons_succ]
      clear H_m1
      refine' wpAnyH_take (i := 7) (v := _) rfl (by kernel_rfl) (by kernel_rfl) (by kernel_rfl) (fun _ _ _ h => h) (Or.inl ⟨by rfl, ?hy4⟩) (by assumption) ?rest4
      case hy4 => (intro w hSw; (try dsimp only at hSw); try simp only [List.getElem_toArray, List.getElem_cons_zero, List.getElem_cons_succ]; go_simp; (try with_reducible rfl))
      try simp only [List.getElem_toArray, List.getElem_cons_zero, List.getElem_cons_succ]
      try simp only [Act.put, List.setIfInBounds_toArray, List.set_cons_zero, List.set_cons_succ]
      refine' wpAnyH_take (i := 8) (v := _) rfl (by kernel_rfl) (by kernel_rfl) (by kernel_rfl) (fun _ _ _ h => h) (Or.inl ⟨by rfl, ?hy5⟩) (by assumption) ?rest5
      case hy5 => (intro w hSw; (try dsimp only at hSw); try simp only [List.getElem_toArray, List.getElem_cons_zero, List.getElem_cons_succ]; go_simp; (try with_reducible rfl))
      try simp only [List.getElem_toArray, List.getElem_cons_zero, List.getElem_cons_succ]
      try simp only [Act.put, List.setIfInBounds_toArray, List.set_cons_zero, List.set_cons_succ]
      refine' wpAnyH_take (i := 9) (v := _) rfl (by kernel_rfl) (by kernel_rfl) (by kernel_rfl) (fun _ _ _ h => h) (Or.inl ⟨by rfl, ?hy6⟩) (by assumption) ?rest6
      case hy6 => (intro w hSw; (try dsimp only at hSw); try simp only [List.getElem_toArray, List.getElem_cons_zero, List.getElem_cons_succ]; go_simp; (try with_reducible rfl))
      try simp only [List.getElem_toArray, List.getElem_cons_zero, List.getElem_cons_succ]
      try simp only [Act.put, List.setIfInBounds_toArray, List.set_cons_zero, List.set_cons_succ]
      refine wpAnyH_ready (rs := [10]) (by kernel_rfl) (by simp) ?_
      refine AllReadyH.cons rfl (fun K hK => ?_) AllReadyH.nil
      try simp only [List.getElem_toArray, List.getElem_cons_zero, List.getElem_cons_succ]
      go_simp
      with_reducible refine (sign_q (HX.out.z.mono (l := 700) (by omega)) (by omega) (0) HS0.out).mono ?_
      rintro e w10 ⟨rfl, hbx⟩
      replace HX := Lib.hid (HX.out.below hbx)
      clear hbx
      refine hK.out _ _ (by with_reducible exact HX.out.keep) (fun hHeld => ?_)
      clear hK K
      try simp only [Act.put, List.setIfInBounds_toArray, List.set_cons_zero, List.set_cons_succ]
      refine' wpAnyH_take (i := 11) (v := _) rfl (by kernel_rfl) (by kernel_rfl) (by kernel_rfl) (fun _ _ _ h => h) (Or.inl ⟨by rfl, ?hy7⟩) (by assumption) ?rest7
      case hy7 => (intro w hSw; (try dsimp only at hSw); try simp only [List.getElem_toArray, List.getElem_cons_zero, List.getElem_cons_succ]; go_simp; (try with_reducible rfl))
      try simp only [List.getElem_toArray, List.getElem_cons_zero, List.getElem_cons_succ]
      try simp only [Act.put, List.setIfInBounds_toArray, List.set_cons_zero, List.set_cons_succ]
      refine' wpAnyH_take (i := 12) (v := _) rfl (by kernel_rfl) (by kernel_rfl) (by kernel_rfl) (fun _ _ _ h => h) (Or.inl ⟨by rfl, ?hy8⟩) (by assumption) ?rest8
      case hy8 => (intro w hSw; (try dsimp only at hSw); try simp only [List.getElem_toArray, List.getElem_cons_zero, List.getElem_cons_succ]; go_simp; (try with_reducible rfl))
      try simp only [List.getElem_toArray, List.getElem_cons_zero, List.getElem_cons_succ]
      try simp only [Act.put, List.setIfInBounds_toArray, List.set_cons_zero, List.set_cons_succ]
      refine' wpAnyH_take (i := 13) (v := _) rfl (by kernel_rfl) (by kernel_rfl) (by kernel_rfl) (fun _ _ _ h => h) (Or.inl ⟨by rfl, ?hy9⟩) (by assumption) ?rest9
      case hy9 => (intro w hSw; (try dsimp only at hSw); try simp only [List.getElem_toArray, List.getElem_cons_zero, List.getElem_cons_succ]; go_simp; (try with_reducible rfl))
      try simp only [List.getElem_toArray, List.getElem_cons_zero, List.getElem_cons_succ]
      try simp only [Act.put, List.setIfInBounds_toArray, List.set_cons_zero, List.set_cons_succ]
      refine' wpAnyH_take (i := 14) (v := _) rfl (by kernel_rfl) (by kernel_rfl) (by kernel_rfl) (fun _ _ _ h => h) (Or.inl ⟨by rfl, ?hy10⟩) (by assumption) ?rest10
      case hy10 => (intro w hSw; (try dsimp only at hSw); try simp only [List.getElem_toArray, List.getElem_cons_zero, List.getElem_cons_succ]; go_simp; (try with_reducible rfl))
      try simp only [List.getElem_toArray, List.getElem_cons_zero, List.getElem_cons_succ]
      try simp only [Act.put, List.setIfInBounds_toArray, List.set_cons_zero, List.set_cons_succ]
      refine wpAnyH_ready (rs := [15]) (by kernel_rfl) (by simp) ?_
      refine AllReadyH.cons rfl (fun K hK => ?_) AllReadyH.nil
      try simp only [List.getElem_toArray, List.getElem_cons_zero, List.getElem_cons_succ]
      go_simp
      with_reducible refine (norm_q (HX.out.z.mono (l := 700) (by omega)) (by omega) (by omega)).mono ?_
      rintro e w11 ⟨s_a1, A_a1, n_a1, c_a1, t_a1, B_a1, m_a1, d_a1, rfl, h_a1, hbx⟩
      replace HX := Lib.hid (HX.out.below hbx)
      have H_a1 := Lib.hid h_a1
      clear hbx
      refine hK.out _ _ (by with_reducible exact HX.out.keep) (fun hHeld => ?_)
      clear hK K
      try simp only [Act.put, List.setIfInBounds_toArray, List.set_cons_zero, List.set_cons_succ]
      refine wpAnyH_ready (rs := [16]) (by kernel_rfl) (by simp) ?_
      refine AllReadyH.cons rfl (fun K hK => ?_) AllReadyH.nil
      try simp only [List.getElem_toArray, List.getElem_cons_zero, List.getElem_cons_succ]
      go_simp
      with_reducible refine (is_q H_a1.out (Nat.le_trans HL_z0.out (by omega)) (HT.out.below HX.out.bel) _ TX_z0.out).mono ?_
      rintro e w12 ⟨rfl, hbx⟩
      replace HX := Lib.hid (HX.out.below hbx)
      replace H_a1 := Lib.hid (H_a1.out.below hbx)
      clear hbx
      refine hK.out _ _ (by with_reducible exact HX.out.keep) (fun hHeld => ?_)
      clear hK K
      try simp only [Act.put, List.setIfInBounds_toArray, List.set_cons_zero, List.set_cons_succ]
      clear H_a1
      refine' wpAnyH_take (i := 17) (v := _) rfl (by kernel_rfl) (by kernel_rfl) (by kernel_rfl) (fun _ _ _ h => h) (Or.inl ⟨by rfl, ?hy11⟩) (by assumption) ?rest11
      case hy11 => (intro w hSw; (try dsimp only at hSw); try simp only [List.getElem_toArray, List.getElem_cons_zero, List.getElem_cons_succ]; go_simp; (try with_reducible rfl))
      try simp only [List.getElem_toArray, List.getElem_cons_zero, List.getElem_cons_succ]
      try simp only [Act.put, List.setIfInBounds_toArray, List.set_cons_zero, List.set_cons_succ]
      refine' wpAnyH_take (i := 18) (v := _) rfl (by kernel_rfl) (by kernel_rfl) (by kernel_rfl) (fun _ _ _ h => h) (Or.inl ⟨by rfl, ?hy12⟩) (by assumption) ?rest12
      case hy12 => (intro w hSw; (try dsimp only at hSw); try simp only [List.getElem_toArray, List.getElem_cons_zero, List.getElem_cons_succ]; go_simp; (try with_reducible rfl))
      try simp only [List.getElem_toArray, List.getElem_cons_zero, List.getElem_cons_succ]
      try simp only [Act.put, List.setIfInBounds_toArray, List.set_cons_zero, List.set_cons_succ]
      refine' wpAnyH_take (i := 19) (v := _) rfl (by kernel_rfl) (by kernel_rfl) (by kernel_rfl) (fun _ _ _ h => h) (Or.inl ⟨by rfl, ?hy13⟩) (by assumption) ?rest13
      case hy13 => (intro w hSw; (try dsimp only at hSw); try simp only [List.getElem_toArray, List.getElem_cons_zero, List.getElem_cons_succ]; go_simp; (try with_reducible rfl))
      try simp only [List.getElem_toArray, List.getElem_cons_zero, List.getElem_cons_succ]
      try simp only [Act.put, List.setIfInBounds_toArray, List.set_cons_zero, List.set_cons_succ]
      refine wpAnyH_ready (rs := [20]) (by kernel_rfl) (by simp) ?_
      refine AllReadyH.cons rfl (fun K hK => ?_) AllReadyH.nil
      try simp only [List.getElem_toArray, List.getElem_cons_zero, List.getElem_cons_succ]
      go_simp
      with_reducible refine (norm_q (HX.out.o.mono (l := 700) (by omega)) (by omega) (by omega)).mono ?_
      rintro e w13 ⟨s_a2, A_a2, n_a2, c_a2, t_a2, B_a2, m_a2, d_a2, rfl, h_a2, hbx⟩
      replace HX := Lib.hid (HX.out.below hbx)
      have H_a2 := Lib.hid h_a2
      clear hbx
      refine hK.out _ _ (by with_reducible exact HX.out.keep) (fun hHeld => ?_)
      clear hK K
      try simp only [Act.put, List.setIfInBounds_toArray, List.set_cons_zero, List.set_cons_succ]
      refine wpAnyH_ready (rs := [21]) (by kernel_rfl) (by simp) ?_
      refine AllReadyH.cons rfl (fun K hK => ?_) AllReadyH.nil
      try simp only [List.getElem_toArray, List.getElem_cons_zero, List.getElem_cons_succ]
      go_simp
      with_reducible refine (is_q H_a2.out (Nat.le_trans HL_q32.out (by omega)) (HT.out.below HX.out.bel) _ TX_32.out).mono ?_
      rintro e w14 ⟨rfl, hbx⟩
      replace HX := Lib.hid (HX.out.below hbx)
      replace H_a2 := Lib.hid (H_a2.out.below hbx)
      clear hbx
      refine hK.out _ _ (by with_reducible exact HX.out.keep) (fun hHeld => ?_)
      clear hK K
      try simp only [Act.put, List.setIfInBounds_toArray, List.set_cons_zero, List.set_cons_succ]
      clear H_a2
      refine' wpAnyH_take (i := 22) (v := _) rfl (by kernel_rfl) (by kernel_rfl) (by kernel_rfl) (fun _ _ _ h => h) (Or.inl ⟨by rfl, ?hy14⟩) (by assumption) ?rest14
      case hy14 => (intro w hSw; (try dsimp only at hSw); try simp only [List.getElem_toArray, List.getElem_cons_zero, List.getElem_cons_succ]; go_simp; (try with_reducible rfl))
      try simp only [List.getElem_toArray, List.getElem_cons_zero, List.getElem_cons_succ]
      try simp only [Act.put, List.setIfInBounds_toArray, List.set_cons_zero, List.set_cons_succ]
      refine' wpAnyH_take (i := 23) (v := _) rfl (by kernel_rfl) (by kernel_rfl) (by kernel_rfl) (fun _ _ _ h => h) (Or.inl ⟨by rfl, ?hy15⟩) (by assumption) ?rest15
      case hy15 => (intro w hSw; (try dsimp only at hSw); try simp only [List.getElem_toArray, List.getElem_cons_zero, List.getElem_cons_succ]; go_simp; (try with_reducible rfl))
      try simp only [List.getElem_toArray, List.getElem_cons_zero, List.getElem_cons_succ]
      try simp only [Act.put, List.setIfInBounds_toArray, List.set_cons_zero, List.set_cons_succ]
      refine' wpAnyH_take (i := 24) (v := _) rfl (by kernel_rfl) (by kernel_rfl) (by kernel_rfl) (fun _ _ _ h => h) (Or.inl ⟨by rfl, ?hy16⟩) (by assumption) ?rest16
      case hy16 => (intro w hSw; (try dsimp only at hSw); try simp only [List.getElem_toArray, List.getElem_cons_zero, List.getElem_cons_succ]; go_simp; (try with_reducible rfl))
      try simp only [List.getElem_toArray, List.getElem_cons_zero, List.getElem_cons_succ]
      try simp only [Act.put, List.setIfInBounds_toArray, List.set_cons_zero, List.set_cons_succ]
      refine' wpAnyH_take (i := 25) (v := _) rfl (by kernel_rfl) (by kernel_rfl) (by kernel_rfl) (fun _ _ _ h => h) (Or.inl ⟨by rfl, ?hy17⟩) (by assumption) ?rest17
      case hy17 => (intro w hSw; (try dsimp only at hSw); try simp only [List.getElem_toArray, List.getElem_cons_zero, List.getElem_cons_succ]; go_simp; (try with_reducible rfl))
      try simp only [List.getElem_toArray, List.getElem_cons_zero, List.getElem_cons_succ]
      try simp only [Act.put, List.setIfInBounds_toArray, List.set_cons_zero, List.set_cons_succ]
      refine wpAnyH_ready (rs := [26]) (by kernel_rfl) (by simp) ?_
      refine AllReadyH.cons rfl (fun K hK => ?_) AllReadyH.nil
      try simp only [List.getElem_toArray, List.getElem_cons_zero, List.getElem_cons_succ]
      go_simp
      with_reducible refine (of_q _ (3) (2) (by omega) (by omega) (by omega) (by omega) q32 HE_q32.out).mono ?_
      rintro e w15 ⟨s_a3, A_a3, n_a3, c_a3, t_a3, B_a3, m_a3, d_a3, rfl, h_a3, hbx⟩
      replace HX := Lib.hid (HX.out.below hbx)
      have H_a3 := Lib.hid h_a3
      clear hbx
      refine hK.out _ _ (by with_reducible exact HX.out.keep) (fun hHeld => ?_)
      clear hK K
      try simp only [Act.put, List.setIfInBounds_toArray, List.set_cons_zero, List.set_cons_succ]
      refine wpAnyH_ready (rs := [27]) (by kernel_rfl) (by simp) ?_
      refine AllReadyH.cons rfl (fun K hK => ?_) AllReadyH.nil
      try simp only [List.getElem_toArray, List.getElem_cons_zero, List.getElem_cons_succ]
      go_simp
      with_reducible refine (same_q (HX.out.o.mono (l := 700) (by omega)) (H_a3.out.isq (k := 700) (Nat.le_trans HL_q32.out (by omega))) (by omega) (by omega) (true) (decide_eq_true rfl)).mono ?_
      rintro e w16 ⟨rfl, hbx⟩
      replace HX := Lib.hid (HX.out.below hbx)
      replace H_a3 := Lib.hid (H_a3.out.below hbx)
      clear hbx
      refine hK.out _ _ (by with_reducible exact HX.out.keep) (fun hHeld => ?_)
      clear hK K
      try simp only [Act.put, List.setIfInBounds_toArray, List.set_cons_zero, List.set_cons_succ]
      clear H_a3
      refine' wpAnyH_take (i := 28) (v := _) rfl (by kernel_rfl) (by kernel_rfl) (by kernel_rfl) (fun _ _ _ h => h) (Or.inl ⟨by rfl, ?hy18⟩) (by assumption) ?rest18
      case hy18 => (intro w hSw; (try dsimp only at hSw); try simp only [List.getElem_toArray, List.getElem_cons_zero, List.getElem_cons_succ]; go_simp; (try with_reducible rfl))
      try simp only [List.getElem_toArray, List.getElem_cons_zero, List.getElem_cons_succ]
      try simp only [Act.put, List.setIfInBounds_toArray, List.set_cons_zero, List.set_cons_succ]
      refine' wpAnyH_take (i := 29) (v := _) rfl (by kernel_rfl) (by kernel_rfl) (by kernel_rfl) (fun _ _ _ h => h) (Or.inl ⟨by rfl, ?hy19⟩) (by assumption) ?rest19
      case hy19 => (intro w hSw; (try dsimp only at hSw); try simp only [List.getElem_toArray, List.getElem_cons_zero, List.getElem_cons_succ]; go_simp; (try with_reducible rfl))
      try simp only [List.getElem_toArray, List.getElem_cons_zero, List.getElem_cons_succ]
      try simp only [Act.put, List.setIfInBounds_toArray, List.set_cons_zero, List.set_cons_succ]
      refine' wpAnyH_take (i := 30) (v := _) rfl (by kernel_rfl) (by kernel_rfl) (by kernel_rfl) (fun _ _ _ h => h) (Or.inl ⟨by rfl, ?hy20⟩) (by assumption) ?rest20
      case hy20 => (intro w hSw; (try dsimp only at hSw); try simp only [List.getElem_toArray, List.getElem_cons_zero, List.getElem_cons_succ]; go_simp; (try with_reducible rfl))
      try simp only [List.getElem_toArray, List.getElem_cons_zero, List.getElem_cons_succ]
      try simp only [Act.put, List.setIfInBounds_toArray, List.set_cons_zero, List.set_cons_succ]
      refine' wpAnyH_take (i := 32) (v := _) rfl (by kernel_rfl) (by kernel_rfl) (by kernel_rfl) (fun _ _ _ h => h) (Or.inl ⟨by rfl, ?hy21⟩) (by assumption) ?rest21
      case hy21 => (intro w hSw; (try dsimp only at hSw); try simp only [List.getElem_toArray, List.getElem_cons_zero, List.getElem_cons_succ]; go_simp; (try with_reducible rfl))
      try simp only [List.getElem_toArray, List.getElem_cons_zero, List.getElem_cons_succ]
      try simp only [Act.put, List.setIfInBounds_toArray, List.set_cons_zero, List.set_cons_succ]
      refine wpAnyH_ready (rs := [31]) (by kernel_rfl) (by simp) ?_
      refine AllReadyH.cons rfl (fun K hK => ?_) AllReadyH.nil
      try simp only [List.getElem_toArray, List.getElem_cons_zero, List.getElem_cons_succ]
      go_simp
      with_reducible refine (of_q _ (1) (2) (by omega) (by omega) (by omega) (by omega) q12 HE_q12.out).mono ?_
      rintro e w17 ⟨s_a4, A_a4, n_a4, c_a4, t_a4, B_a4, m_a4, d_a4, rfl, h_a4, hbx⟩
      replace HX := Lib.hid (HX.out.below hbx)
      have H_a4 := Lib.hid h_a4
      clear hbx
      refine hK.out _ _ (by with_reducible exact HX.out.keep) (fun hHeld => ?_)
      clear hK K
      try simp only [Act.put, List.setIfInBounds_toArray, List.set_cons_zero, List.set_cons_succ]
      refine wpAnyH_ready (rs := [33]) (by kernel_rfl) (by simp) ?_
      refine AllReadyH.cons rfl (fun K hK => ?_) AllReadyH.nil
      try simp only [List.getElem_toArray, List.getElem_cons_zero, List.getElem_cons_succ]
      go_simp
      with_reducible refine (quo_q (H_a4.out.isq (k := 700) (Nat.le_trans HL_q12.out (by omega))) (HX.out.z.mono (l := 700) (by omega)) (by omega) (by omega) qz HE_qz.out).mono ?_
      rintro e w18 ⟨s_a5, A_a5, n_a5, c_a5, t_a5, B_a5, m_a5, d_a5, rfl, h_a5, hbx⟩
      replace HX := Lib.hid (HX.out.below hbx)
      replace H_a4 := Lib.hid (H_a4.out.below hbx)
      have H_a5 := Lib.hid h_a5
      clear hbx
      refine hK.out _ _ (by with_reducible exact HX.out.keep) (fun hHeld => ?_)
      clear hK K
      try simp only [Act.put, List.setIfInBounds_toArray, List.set_cons_zero, List.set_cons_succ]
      clear H_a4
      refine wpAnyH_ready (rs := [34]) (by kernel_rfl) (by simp) ?_
      refine AllReadyH.cons rfl (fun K hK => ?_) AllReadyH.nil
      try simp only [List.getElem_toArray, List.getElem_cons_zero, List.getElem_cons_succ]
      go_simp
      with_reducible refine (is_q H_a5.out (Nat.le_trans HL_qz.out (by omega)) (HT.out.below HX.out.bel) _ TX_z.out).mono ?_
      rintro e w19 ⟨rfl, hbx⟩
      replace HX := Lib.hid (HX.out.below hbx)
      replace H_a5 := Lib.hid (H_a5.out.below hbx)
      clear hbx
      refine hK.out _ _ (by with_reducible exact HX.out.keep) (fun hHeld => ?_)
      clear hK K
      try simp only [Act.put, List.setIfInBounds_toArray, List.set_cons_zero, List.set_cons_succ]
      clear H_a5
      refine' wpAnyH_take (i := 35) (v := _) rfl (by kernel_rfl) (by kernel_rfl) (by kernel_rfl) (fun _ _ _ h => h) (Or.inl ⟨by rfl, ?hy22⟩) (by assumption) ?rest22
      case hy22 => (intro w hSw; (try dsimp only at hSw); try simp only [List.getElem_toArray, List.getElem_cons_zero, List.getElem_cons_succ]; go_simp; (try with_reducible rfl))
      try simp only [List.getElem_toArray, List.getElem_cons_zero, List.getElem_cons_succ]
      try simp only [Act.put, List.setIfInBounds_toArray, List.set_cons_zero, List.set_cons_succ]
      refine' wpAnyH_take (i := 36) (v := _) rfl (by kernel_rfl) (by kernel_rfl) (by kernel_rfl) (fun _ _ _ h => h) (Or.inl ⟨by rfl, ?hy23⟩) (by assumption) ?rest23
      case hy23 => (intro w hSw; (try dsimp only at hSw); try simp only [List.getElem_toArray, List.getElem_cons_zero, List.getElem_cons_succ]; go_simp; (try with_reducible rfl))
      try simp only [List.getElem_toArray, List.getElem_cons_zero, List.getElem_cons_succ]
      try simp only [Act.put, List.setIfInBounds_toArray, List.set_cons_zero, List.set_cons_succ]
      refine' wpAnyH_take (i := 37) (v := _) rfl (by kernel_rfl) (by kernel_rfl) (by kernel_rfl) (fun _ _ _ h => h) (Or.inl ⟨by rfl, ?hy24⟩) (by assumption) ?rest24
      case hy24 => (intro w hSw; (try dsimp only at hSw); try simp only [List.getElem_toArray, List.getElem_cons_zero, List.getElem_cons_succ]; go_simp; (try with_reducible rfl))
      try simp only [List.getElem_toArray, List.getElem_cons_zero, List.getElem_cons_succ]
      try simp only [Act.put, List.setIfInBounds_toArray, List.set_cons_zero, List.set_cons_succ]
      refine' wpAnyH_take (i := 38) (v := _) rfl (by kernel_rfl) (by kernel_rfl) (by kernel_rfl) (fun _ _ _ h => h) (Or.inl ⟨by rfl, ?hy25⟩) (by assumption) ?rest25
      case hy25 => (intro w hSw; (try dsimp only at hSw); try simp only [List.getElem_toArray, List.getElem_cons_zero, List.getElem_cons_succ]; go_simp; (try with_reducible rfl))
      try simp only [List.getElem_toArray, List.getElem_cons_zero, List.getElem_cons_succ]
      try simp only [Act.put, List.setIfInBounds_toArray, List.set_cons_zero, List.set_cons_succ]
      refine wpAnyH_ready (rs := [39]) (by kernel_rfl) (by simp) ?_
      refine AllReadyH.cons rfl (fun K hK => ?_) AllReadyH.nil
      try simp only [List.getElem_toArray, List.getElem_cons_zero, List.getElem_cons_succ]
      go_simp
      with_reducible refine (of_q _ (1) (3) (by omega) (by omega) (by omega) (by omega) q13 HE_q13.out).mono ?_
      rintro e w20 ⟨s_a6, A_a6, n_a6, c_a6, t_a6, B_a6, m_a6, d_a6, rfl, h_a6, hbx⟩
      replace HX := Lib.hid (HX.out.below hbx)
      have H_a6 := Lib.hid h_a6
      clear hbx
      refine hK.out _ _ (by with_reducible exact HX.out.keep) (fun hHeld => ?_)
      clear hK K
      try simp only [Act.put, List.setIfInBounds_toArray, List.set_cons_zero, List.set_cons_succ]
      refine wpAnyH_ready (rs := [40]) (by kernel_rfl) (by simp) ?_
      refine AllReadyH.cons rfl (fun K hK => ?_) AllReadyH.nil
      try simp only [List.getElem_toArray, List.getElem_cons_zero, List.getElem_cons_succ]
      go_simp
      with_reducible refine (add_q (HX.out.z.mono (l := 700) (by omega)) (H_a6.out.isq (k := 700) (Nat.le_trans HL_q13.out (by omega))) (by omega) (by omega) qa HE_qa.out).mono ?_
      rintro e w21 ⟨s_a7, A_a7, n_a7, c_a7, t_a7, B_a7, m_a7, d_a7, rfl, h_a7, hbx⟩
      replace HX := Lib.hid (HX.out.below hbx)
      replace H_a6 := Lib.hid (H_a6.out.below hbx)
      have H_a7 := Lib.hid h_a7
      clear hbx
      refine hK.out _ _ (by with_reducible exact HX.out.keep) (fun hHeld => ?_)
      clear hK K
      try simp only [Act.put, List.setIfInBounds_toArray, List.set_cons_zero, List.set_cons_succ]
      clear H_a6
      refine wpAnyH_ready (rs := [41]) (by kernel_rfl) (by simp) ?_
      refine AllReadyH.cons rfl (fun K hK => ?_) AllReadyH.nil
      try simp only [List.getElem_toArray, List.getElem_cons_zero, List.getElem_cons_succ]
      go_simp
      with_reducible refine (is_q H_a7.out (Nat.le_trans HL_qa.out (by omega)) (HT.out.below HX.out.bel) _ TX_a.out).mono ?_
      rintro e w22 ⟨rfl, hbx⟩
      replace HX := Lib.hid (HX.out.below hbx)
      replace H_a7 := Lib.hid (H_a7.out.below hbx)
      clear hbx
      refine hK.out _ _ (by with_reducible exact HX.out.keep) (fun hHeld => ?_)
      clear hK K
      try simp only [Act.put, List.setIfInBounds_toArray, List.set_cons_zero, List.set_cons_succ]
      clear H_a7
      refine' wpAnyH_take (i := 42) (v := _) rfl (by kernel_rfl) (by kernel_rfl) (by kernel_rfl) (fun _ _ _ h => h) (Or.inl ⟨by rfl, ?hy26⟩) (by assumption) ?rest26
      case hy26 => (intro w hSw; (try dsimp only at hSw); try simp only [List.getElem_toArray, List.getElem_cons_zero, List.getElem_cons_succ]; go_simp; (try with_reducible rfl))
      try simp only [List.getElem_toArray, List.getElem_cons_zero, List.getElem_cons_succ]
      try simp only [Act.put, List.setIfInBounds_toArray, List.set_cons_zero, List.set_cons_succ]
      refine' wpAnyH_take (i := 43) (v := _) rfl (by kernel_rfl) (by kernel_rfl) (by kernel_rfl) (fun _ _ _ h => h) (Or.inl ⟨by rfl, ?hy27⟩) (by assumption) ?rest27
      case hy27 => (intro w hSw; (try dsimp only at hSw); try simp only [List.getElem_toArray, List.getElem_cons_zero, List.getElem_cons_succ]; go_simp; (try with_reducible rfl))
      try simp only [List.getElem_toArray, List.getElem_cons_zero, List.getElem_cons_succ]
      try simp only [Act.put, List.setIfInBounds_toArray, List.set_cons_zero, List.set_cons_succ]
      refine' wpAnyH_take (i := 44) (v := _) rfl (by kernel_rfl) (by kernel_rfl) (by kernel_rfl) (fun _ _ _ h => h) (Or.inl ⟨by rfl, ?hy28⟩) (by assumption) ?rest28
      case hy28 => (intro w hSw; (try dsimp only at hSw); try simp only [List.getElem_toArray, List.getElem_cons_zero, List.getElem_cons_succ]; go_simp; (try with_reducible rfl))
      try simp only [List.getElem_toArray, List.getElem_cons_zero, List.getElem_cons_succ]
      try simp only [Act.put, List.setIfInBounds_toArray, List.set_cons_zero, List.set_cons_succ]
      refine' wpAnyH_take (i := 45) (v := _) rfl (by kernel_rfl) (by kernel_rfl) (by kernel_rfl) (fun _ _ _ h => h) (Or.inl ⟨by rfl, ?hy29⟩) (by assumption) ?rest29
      case hy29 => (intro w hSw; (try dsimp only at hSw); try simp only [List.getElem_toArray, List.getElem_cons_zero, List.getElem_cons_succ]; go_simp; (try with_reducible rfl))
      try simp only [List.getElem_toArray, List.getElem_cons_zero, List.getElem_cons_succ]
      try simp only [Act.put, List.setIfInBounds_toArray, List.set_cons_zero, List.set_cons_succ]
      refine wpAnyH_ready (rs := [46]) (by kernel_rfl) (by simp) ?_
      refine AllReadyH.cons rfl (fun K hK => ?_) AllReadyH.nil
      try simp only [List.getElem_toArray, List.getElem_cons_zero, List.getElem_cons_succ]
      go_simp
      with_reducible refine (mul_q (HX.out.z.mono (l := 700) (by omega)) (HX.out.o.mono (l := 700) (by omega)) (by omega) (by omega) qm HE_qm.out).mono ?_
      rintro e w23 ⟨s_a8, A_a8, n_a8, c_a8, t_a8, B_a8, m_a8, d_a8, rfl, h_a8, hbx⟩
      replace HX := Lib.hid (HX.out.below hbx)
      have H_a8 := Lib.hid h_a8
      clear hbx
      refine hK.out _ _ (by with_reducible exact HX.out.keep) (fun hHeld => ?_)
      clear hK K
      try simp only [Act.put, List.setIfInBounds_toArray, List.set_cons_zero, List.set_cons_succ]
      refine wpAnyH_ready (rs := [47]) (by kernel_rfl) (by simp) ?_
      refine AllReadyH.cons rfl (fun K hK => ?_) AllReadyH.nil
      try simp only [List.getElem_toArray, List.getElem_cons_zero, List.getElem_cons_succ]
      go_simp
      with_reducible refine (is_q H_a8.out (Nat.le_trans HL_qm.out (by omega)) (HT.out.below HX.out.bel) _ TX_m.out).mono ?_
      rintro e w24 ⟨rfl, hbx⟩
      replace HX := Lib.hid (HX.out.below hbx)
      replace H_a8 := Lib.hid (H_a8.out.below hbx)
      clear hbx
      refine hK.out _ _ (by with_reducible exact HX.out.keep) (fun hHeld => ?_)
      clear hK K
      try simp only [Act.put, List.setIfInBounds_toArray, List.set_cons_zero, List.set_cons_succ]
      clear H_a8
      refine' wpAnyH_take (i := 48) (v := _) rfl (by kernel_rfl) (by kernel_rfl) (by kernel_rfl) (fun _ _ _ h => h) (Or.inl ⟨by rfl, ?hy30⟩) (by assumption) ?rest30
      case hy30 => (intro w hSw; (try dsimp only at hSw); try simp only [List.getElem_toArray, List.getElem_cons_zero, List.getElem_cons_succ]; go_simp; (try with_reducible rfl))
      try simp only [List.getElem_toArray, List.getElem_cons_zero, List.getElem_cons_succ]
      try simp only [Act.put, List.setIfInBounds_toArray, List.set_cons_zero, List.set_cons_succ]
      refine' wpAnyH_take (i := 49) (v := _) rfl (by kernel_rfl) (by kernel_rfl) (by kernel_rfl) (fun _ _ _ h => h) (Or.inl ⟨by rfl, ?hy31⟩) (by assumption) ?rest31
      case hy31 => (intro w hSw; (try dsimp only at hSw); try simp only [List.getElem_toArray, List.getElem_cons_zero, List.getElem_cons_succ]; go_simp; (try with_reducible rfl))
      try simp only [List.getElem_toArray, List.getElem_cons_zero, List.getElem_cons_succ]
      try simp only [Act.put, List.setIfInBounds_toArray, List.set_cons_zero, List.set_cons_succ]
      refine' wpAnyH_take (i := 50) (v := _) rfl (by kernel_rfl) (by kernel_rfl) (by kernel_rfl) (fun _ _ _ h => h) (Or.inl ⟨by rfl, ?hy32⟩) (by assumption) ?rest32
      case hy32 => (intro w hSw; (try dsimp only at hSw); try simp only [List.getElem_toArray, List.getElem_cons_zero, List.getElem_cons_succ]; go_simp; (try with_reducible rfl))
      try simp only [List.getElem_toArray, List.getElem_cons_zero, List.getElem_cons_succ]
      try simp only [Act.put, List.setIfInBounds_toArray, List.set_cons_zero, List.set_cons_succ]
      refine wpAnyH_ready (rs := [51]) (by kernel_rfl) (by simp) ?_
      refine AllReadyH.cons rfl (fun K hK => ?_) AllReadyH.nil
      try simp only [List.getElem_toArray, List.getElem_cons_zero, List.getElem_cons_succ]
      go_simp
      with_reducible refine (neg_q (HX.out.o.mono (l := 700) (by omega)) (by omega) (by omega) qn HE_qn.out).mono ?_
      rintro e w25 ⟨s_a9, A_a9, n_a9, c_a9, t_a9, B_a9, m_a9, d_a9, rfl, h_a9, hbx⟩
      replace HX := Lib.hid (HX.out.below hbx)
      have H_a9 := Lib.hid h_a9
      clear hbx
      refine hK.out _ _ (by with_reducible exact HX.out.keep) (fun hHeld => ?_)
      clear hK K
      try simp only [Act.put, List.setIfInBounds_toArray, List.set_cons_zero, List.set_cons_succ]
      refine wpAnyH_ready (rs := [52]) (by kernel_rfl) (by simp) ?_
      refine AllReadyH.cons rfl (fun K hK => ?_) AllReadyH.nil
      try simp only [List.getElem_toArray, List.getElem_cons_zero, List.getElem_cons_succ]
      go_simp
      with_reducible refine (is_q H_a9.out (Nat.le_trans HL_qn.out (by omega)) (HT.out.below HX.out.bel) _ TX_n.out).mono ?_
      rintro e w26 ⟨rfl, hbx⟩
      replace HX := Lib.hid (HX.out.below hbx)
      replace H_a9 := Lib.hid (H_a9.out.below hbx)
      clear hbx
      refine hK.out _ _ (by with_reducible exact HX.out.keep) (fun hHeld => ?_)
      clear hK K
      try simp only [Act.put, List.setIfInBounds_toArray, List.set_cons_zero, List.set_cons_succ]
      clear H_a9
      refine' wpAnyH_take (i := 53) (v := _) rfl (by kernel_rfl) (by kernel_rfl) (by kernel_rfl) (fun _ _ _ h => h) (Or.inl ⟨by rfl, ?hy33⟩) (by assumption) ?rest33
      case hy33 => (intro w hSw; (try dsimp only at hSw); try simp only [List.getElem_toArray, List.getElem_cons_zero, List.getElem_cons_succ]; go_simp; (try with_reducible rfl))
      try simp only [List.getElem_toArray, List.getElem_cons_zero, List.getElem_cons_succ]
      try simp only [Act.put, List.setIfInBounds_toArray, List.set_cons_zero, List.set_cons_succ]
      refine' wpAnyH_take (i := 54) (v := _) rfl (by kernel_rfl) (by kernel_rfl) (by kernel_rfl) (fun _ _ _ h => h) (Or.inl ⟨by rfl, ?hy34⟩) (by assumption) ?rest34
      case hy34 => (intro w hSw; (try dsimp only at hSw); try simp only [List.getElem_toArray, List.getElem_cons_zero, List.getElem_cons_succ]; go_simp; (try with_reducible rfl))
      try simp only [List.getElem_toArray, List.getElem_cons_zero, List.getElem_cons_succ]
      try simp only [Act.put, List.setIfInBounds_toArray, List.set_cons_zero, List.set_cons_succ]
      refine' wpAnyH_take (i := 55) (v := _) rfl (by kernel_rfl) (by kernel_rfl) (by kernel_rfl) (fun _ _ _ h => h) (Or.inl ⟨by rfl, ?hy35⟩) (by assumption) ?rest35
      case hy35 => (intro w hSw; (try dsimp only at hSw); try simp only [List.getElem_toArray, List.getElem_cons_zero, List.getElem_cons_succ]; go_simp; (try with_reducible rfl))
      try simp only [List.getElem_toArray, List.getElem_cons_zero, List.getElem_cons_succ]
      try simp only [Act.put, List.setIfInBounds_toArray, List.set_cons_zero, List.set_cons_succ]
      refine wpAnyH_ready (rs := [56]) (by kernel_rfl) (by simp) ?_
      refine AllReadyH.cons rfl (fun K hK => ?_) AllReadyH.nil
      try simp only [List.getElem_toArray, List.getElem_cons_zero, List.getElem_cons_succ]
      go_simp
      with_reducible refine (of_q _ (-1) (3) (by omega) (by omega) (by omega) (by omega) qm13 HE_qm13.out).mono ?_
      rintro e w27 ⟨s_b1, A_b1, n_b1, c_b1, t_b1, B_b1, m_b1, d_b1, rfl, h_b1, hbx⟩
      replace HX := Lib.hid (HX.out.below hbx)
      have H_b1 := Lib.hid h_b1
      clear hbx
      refine hK.out _ _ (by with_reducible exact HX.out.keep) (fun hHeld => ?_)
      clear hK K
      try simp only [Act.put, List.setIfInBounds_toArray, List.set_cons_zero, List.set_cons_succ]
      refine wpAnyH_ready (rs := [57]) (by kernel_rfl) (by simp) ?_
      refine AllReadyH.cons rfl (fun K hK => ?_) AllReadyH.nil
      try simp only [List.getElem_toArray, List.getElem_cons_zero, List.getElem_cons_succ]
      go_simp
      with_reducible refine (abs_q (H_b1.out.isq (k := 700) (Nat.le_trans HL_qm13.out (by omega))) (by omega) (by omega) qab HE_qab.out).mono ?_
      rintro e w28 ⟨s_b2, A_b2, n_b2, c_b2, t_b2, B_b2, m_b2, d_b2, rfl, h_b2, hbx⟩
      replace HX := Lib.hid (HX.out.below hbx)
      replace H_b1 := Lib.hid (H_b1.out.below hbx)
      have H_b2 := Lib.hid h_b2
      clear hbx
      refine hK.out _ _ (by with_reducible exact HX.out.keep) (fun hHeld => ?_)
      clear hK K
      try simp only [Act.put, List.setIfInBounds_toArray, List.set_cons_zero, List.set_cons_succ]
      clear H_b1
      refine wpAnyH_ready (rs := [58]) (by kernel_rfl) (by simp) ?_
      refine AllReadyH.cons rfl (fun K hK => ?_) AllReadyH.nil
      try simp only [List.getElem_toArray, List.getElem_cons_zero, List.getElem_cons_succ]
      go_simp
      with_reducible refine (is_q H_b2.out (Nat.le_trans HL_qab.out (by omega)) (HT.out.below HX.out.bel) _ TX_ab.out).mono ?_
      rintro e w29 ⟨rfl, hbx⟩
      replace HX := Lib.hid (HX.out.below hbx)
      replace H_b2 := Lib.hid (H_b2.out.below hbx)
      clear hbx
      refine hK.out _ _ (by with_reducible exact HX.out.keep) (fun hHeld => ?_)
      clear hK K
      try simp only [Act.put, List.setIfInBounds_toArray, List.set_cons_zero, List.set_cons_succ]
      clear H_b2
      refine' wpAnyH_take (i := 59) (v := _) rfl (by kernel_rfl) (by kernel_rfl) (by kernel_rfl) (fun _ _ _ h => h) (Or.inl ⟨by rfl, ?hy36⟩) (by assumption) ?rest36
      case hy36 => (intro w hSw; (try dsimp only at hSw); try simp only [List.getElem_toArray, List.getElem_cons_zero, List.getElem_cons_succ]; go_simp; (try with_reducible rfl))
      try simp only [List.getElem_toArray, List.getElem_cons_zero, List.getElem_cons_succ]
      try simp only [Act.put, List.setIfInBounds_toArray, List.set_cons_zero, List.set_cons_succ]
      refine' wpAnyH_take (i := 60) (v := _) rfl (by kernel_rfl) (by kernel_rfl) (by kernel_rfl) (fun _ _ _ h => h) (Or.inl ⟨by rfl, ?hy37⟩) (by assumption) ?rest37
      case hy37 => (intro w hSw; (try dsimp only at hSw); try simp only [List.getElem_toArray, List.getElem_cons_zero, List.getElem_cons_succ]; go_simp; (try with_reducible rfl))
      try simp only [List.getElem_toArray, List.getElem_cons_zero, List.getElem_cons_succ]
      try simp only [Act.put, List.setIfInBounds_toArray, List.set_cons_zero, List.set_cons_succ]
      refine wpAnyH_done (by kernel_rfl) ?_ _
      go_wp2_with fail
      go_meet
      exact ⟨rfl, HX.out⟩
  case rest =>
    clear HX
    obtain ⟨rfl, HX⟩ := hcut
    go_upto_region 6 with fail
    go_cut [7] from 96 to 146 (fun s7 wx => s7 = .bool true ∧ Hid (N4 w wx w4.heap.size (w4.heap.size + 1) (w5.heap.size + 1) (w5.heap.size + 1 + 1 + 1 + 1) s_fl A_fl n_fl c_fl s_ce A_ce n_ce c_ce s_fi A_fi n_fi c_fi false (some ⟨w5.heap.size, 0, none⟩) 1 1 true (some ⟨w5.heap.size + 1 + 1, 0, none⟩) 2 2 true (some ⟨w5.heap.size + 1 + 1 + 1, 0, none⟩) 3 3 y2 y1 z0 q32))
    case first =>
      as_aux_lemma =>
        replace HX := Lib.hid HX.out.drew
        refine wp_region_held_drew (S := (fun V => V.cell? ⟨w4.heap.size, 0, none⟩ = some (.bool s_fl) ∧ V.cell? ⟨w4.heap.size, 1, none⟩ = some (.slice A_fl n_fl c_fl) ∧ V.cell? ⟨w4.heap.size + 1, 0, none⟩ = some (.bool s_ce) ∧ V.cell? ⟨w4.heap.size + 1, 1, none⟩ = some (.slice A_ce n_ce c_ce) ∧ V.cell? ⟨w5.heap.size + 1, 0, none⟩ = some (.bool s_fi) ∧ V.cell? ⟨w5.heap.size + 1, 1, none⟩ = some (.slice A_fi n_fi c_fi) ∧ V.cell? ⟨w5.heap.size + 1, 2, none⟩ = some (.bool false) ∧ V.cell? ⟨w5.heap.size + 1, 3, none⟩ = some (.slice (some ⟨w5.heap.size, 0, none⟩) 1 1) ∧ V.cell? ⟨w5.heap.size + 1 + 1 + 1 + 1, 0, none⟩ = some (.bool true) ∧ V.cell? ⟨w5.heap.size + 1 + 1 + 1 + 1, 1, none⟩ = some (.slice (some ⟨w5.heap.size + 1 + 1, 0, none⟩) 2 2) ∧ V.cell? ⟨w5.heap.size + 1 + 1 + 1 + 1, 2, none⟩ = some (.bool true) ∧ V.cell? ⟨w5.heap.size + 1 + 1 + 1 + 1, 3, none⟩ = some (.slice (some ⟨w5.heap.size + 1 + 1 + 1, 0, none⟩) 3 3))) (by kernel_rfl) (by with_reducible exact HX.out.keep) (fun hHeld => ?_)
        refine' wpAnyH_take (i := 1) (v := _) rfl (by kernel_rfl) (by kernel_rfl) (by kernel_rfl) (fun _ _ _ h => h) (Or.inl ⟨by rfl, ?hy38⟩) (by assumption) ?rest38
        case hy38 => (intro w hSw; (try dsimp only at hSw); try simp only [List.getElem_toArray, List.getElem_cons_zero, List.getElem_cons_succ]; go_simp; (try with_reducible rfl))
        try simp only [List.getElem_toArray, List.getElem_cons_zero, List.getElem_cons_succ]
        try simp only [Act.put, List.setIfInBounds_toArray, List.set_cons_zero, List.set_cons_succ]
        refine wpAnyH_ready (rs := [0]) (by kernel_rfl) (by simp) ?_
        refine AllReadyH.cons rfl (fun K hK => ?_) AllReadyH.nil
        try simp only [List.getElem_toArray, List.getElem_cons_zero]
        go_simp
        with_reducible refine (of_y _ (3) y3 HE_y3.out HB_y3.out.1 HB_y3.out.2).mono ?_
        rintro e w30 ⟨s_c1, A_c1, n_c1, c_c1, rfl, h_c1, hbx⟩
        replace HX := Lib.hid (HX.out.below hbx)
        have H_c1 := Lib.hid h_c1
        clear h_c1
        clear hbx
        refine hK.out _ _ (by with_reducible exact HX.out.keep) (fun hHeld => ?_)
        clear hK K
        try simp only [Act.put, List.setIfInBounds_toArray, List.set_cons_zero, List.set_cons_succ]
        refine wpAnyH_ready (rs := [2]) (by kernel_rfl) (by simp) ?_
        refine AllReadyH.cons rfl (fun K hK => ?_) AllReadyH.nil
        try simp only [List.getElem_toArray, List.getElem_cons_zero, List.getElem_cons_succ]
        go_simp
        with_reducible refine (make_q (H_c1.out.isz HZ_y3.out) (isz_none _ 1) (by omega) (by omega) qk HE_qk.out).mono ?_
        rintro e w31 ⟨s_c2, A_c2, n_c2, c_c2, t_c2, B_c2, m_c2, d_c2, rfl, h_c2, hbx⟩
        replace HX := Lib.hid (HX.out.below hbx)
        replace H_c1 := Lib.hid (H_c1.out.below hbx)
        have H_c2 := Lib.hid h_c2
        clear hbx
        refine hK.out _ _ (by with_reducible exact HX.out.keep) (fun hHeld => ?_)
        clear hK K
        try simp only [Act.put, List.setIfInBounds_toArray, List.set_cons_zero, List.set_cons_succ]
        clear H_c1
        refine wpAnyH_ready (rs := [3]) (by kernel_rfl) (by simp) ?_
        refine AllReadyH.cons rfl (fun K hK => ?_) AllReadyH.nil
        try simp only [List.getElem_toArray, List.getElem_cons_zero, List.getElem_cons_succ]
        go_simp
        with_reducible refine (is_q H_c2.out (Nat.le_trans HL_qk.out (by omega)) (HT.out.below HX.out.bel) _ TX_k.out).mono ?_
        rintro e w32 ⟨rfl, hbx⟩
        replace HX := Lib.hid (HX.out.below hbx)
        replace H_c2 := Lib.hid (H_c2.out.below hbx)
        clear hbx
        refine hK.out _ _ (by with_reducible exact HX.out.keep) (fun hHeld => ?_)
        clear hK K
        try simp only [Act.put, List.setIfInBounds_toArray, List.set_cons_zero, List.set_cons_succ]
        clear H_c2
        refine' wpAnyH_take (i := 4) (v := _) rfl (by kernel_rfl) (by kernel_rfl) (by kernel_rfl) (fun _ _ _ h => h) (Or.inl ⟨by rfl, ?hy39⟩) (by assumption) ?rest39
        case hy39 => (intro w hSw; (try dsimp only at hSw); try simp only [List.getElem_toArray, List.getElem_cons_zero, List.getElem_cons_succ]; go_simp; (try with_reducible rfl))
        try simp only [List.getElem_toArray, List.getElem_cons_zero, List.getElem_cons_succ]
        try simp only [Act.put, List.setIfInBounds_toArray, List.set_cons_zero, List.set_cons_succ]
        refine' wpAnyH_take (i := 5) (v := _) rfl (by kernel_rfl) (by kernel_rfl) (by kernel_rfl) (fun _ _ _ h => h) (Or.inl ⟨by rfl, ?hy40⟩) (by assumption) ?rest40
        case hy40 => (intro w hSw; (try dsimp only at hSw); try simp only [List.getElem_toArray, List.getElem_cons_zero, List.getElem_cons_succ]; go_simp; (try with_reducible rfl))
        try simp only [List.getElem_toArray, List.getElem_cons_zero, List.getElem_cons_succ]
        try simp only [Act.put, List.setIfInBounds_toArray, List.set_cons_zero, List.set_cons_succ]
        refine' wpAnyH_take (i := 7) (v := _) rfl (by kernel_rfl) (by kernel_rfl) (by kernel_rfl) (fun _ _ _ h => h) (Or.inl ⟨by rfl, ?hy41⟩) (by assumption) ?rest41
        case hy41 => (intro w hSw; (try dsimp only at hSw); try simp only [List.getElem_toArray, List.getElem_cons_zero, List.getElem_cons_succ]; go_simp; (try with_reducible rfl))
        try simp only [List.getElem_toArray, List.getElem_cons_zero, List.getElem_cons_succ]
        try simp only [Act.put, List.setIfInBounds_toArray, List.set_cons_zero, List.set_cons_succ]
        refine wpAnyH_ready (rs := [6]) (by kernel_rfl) (by simp) ?_
        refine AllReadyH.cons rfl (fun K hK => ?_) AllReadyH.nil
        try simp only [List.getElem_toArray, List.getElem_cons_zero, List.getElem_cons_succ]
        go_simp
        with_reducible refine (of_q _ (1) (3) (by omega) (by omega) (by omega) (by omega) q13 HE_q13.out).mono ?_
        rintro e w33 ⟨s_c3, A_c3, n_c3, c_c3, t_c3, B_c3, m_c3, d_c3, rfl, h_c3, hbx⟩
        replace HX := Lib.hid (HX.out.below hbx)
        have H_c3 := Lib.hid h_c3
        clear hbx
        refine hK.out _ _ (by with_reducible exact HX.out.keep) (fun hHeld => ?_)
        clear hK K
        try simp only [Act.put, List.setIfInBounds_toArray, List.set_cons_zero, List.set_cons_succ]
        refine wpAnyH_ready (rs := [8]) (by kernel_rfl) (by simp) ?_
        refine AllReadyH.cons rfl (fun K hK => ?_) AllReadyH.nil
        try simp only [List.getElem_toArray, List.getElem_cons_zero, List.getElem_cons_succ]
        go_simp
        with_reducible refine (max_q (H_c3.out.isq (k := 700) (Nat.le_trans HL_q13.out (by omega))) (HX.out.o.mono (l := 700) (by omega)) (by omega) (by omega) qmx HE_qmx.out).mono ?_
        rintro e w34 ⟨s_c4, A_c4, n_c4, c_c4, t_c4, B_c4, m_c4, d_c4, rfl, h_c4, hbx⟩
        replace HX := Lib.hid (HX.out.below hbx)
        replace H_c3 := Lib.hid (H_c3.out.below hbx)
        have H_c4 := Lib.hid h_c4
        clear hbx
        refine hK.out _ _ (by with_reducible exact HX.out.keep) (fun hHeld => ?_)
        clear hK K
        try simp only [Act.put, List.setIfInBounds_toArray, List.set_cons_zero, List.set_cons_succ]
        clear H_c3
        refine wpAnyH_ready (rs := [9]) (by kernel_rfl) (by simp) ?_
        refine AllReadyH.cons rfl (fun K hK => ?_) AllReadyH.nil
        try simp only [List.getElem_toArray, List.getElem_cons_zero, List.getElem_cons_succ]
        go_simp
        with_reducible refine (is_q H_c4.out (Nat.le_trans HL_qmx.out (by omega)) (HT.out.below HX.out.bel) _ TX_mx.out).mono ?_
        rintro e w35 ⟨rfl, hbx⟩
        replace HX := Lib.hid (HX.out.below hbx)
        replace H_c4 := Lib.hid (H_c4.out.below hbx)
        clear hbx
        refine hK.out _ _ (by with_reducible exact HX.out.keep) (fun hHeld => ?_)
        clear hK K
        try simp only [Act.put, List.setIfInBounds_toArray, List.set_cons_zero, List.set_cons_succ]
        clear H_c4
        refine' wpAnyH_take (i := 10) (v := _) rfl (by kernel_rfl) (by kernel_rfl) (by kernel_rfl) (fun _ _ _ h => h) (Or.inl ⟨by rfl, ?hy42⟩) (by assumption) ?rest42
        case hy42 => (intro w hSw; (try dsimp only at hSw); try simp only [List.getElem_toArray, List.getElem_cons_zero, List.getElem_cons_succ]; go_simp; (try with_reducible rfl))
        try simp only [List.getElem_toArray, List.getElem_cons_zero, List.getElem_cons_succ]
        try simp only [Act.put, List.setIfInBounds_toArray, List.set_cons_zero, List.set_cons_succ]
        refine' wpAnyH_take (i := 11) (v := _) rfl (by kernel_rfl) (by kernel_rfl) (by kernel_rfl) (fun _ _ _ h => h) (Or.inl ⟨by rfl, ?hy43⟩) (by assumption) ?rest43
        case hy43 => (intro w hSw; (try dsimp only at hSw); try simp only [List.getElem_toArray, List.getElem_cons_zero, List.getElem_cons_succ]; go_simp; (try with_reducible rfl))
        try simp only [List.getElem_toArray, List.getElem_cons_zero, List.getElem_cons_succ]
        try simp only [Act.put, List.setIfInBounds_toArray, List.set_cons_zero, List.set_cons_succ]
        refine' wpAnyH_take (i := 12) (v := _) rfl (by kernel_rfl) (by kernel_rfl) (by kernel_rfl) (fun _ _ _ h => h) (Or.inl ⟨by rfl, ?hy44⟩) (by assumption) ?rest44
        case hy44 => (intro w hSw; (try dsimp only at hSw); try simp only [List.getElem_toArray, List.getElem_cons_zero, List.getElem_cons_succ]; go_simp; (try with_reducible rfl))
        try simp only [List.getElem_toArray, List.getElem_cons_zero, List.getElem_cons_succ]
        try simp only [Act.put, List.setIfInBounds_toArray, List.set_cons_zero, List.set_cons_succ]
        refine' wpAnyH_take (i := 14) (v := _) rfl (by kernel_rfl) (by kernel_rfl) (by kernel_rfl) (fun _ _ _ h => h) (Or.inl ⟨by rfl, ?hy45⟩) (by assumption) ?rest45
        case hy45 => (intro w hSw; (try dsimp only at hSw); try simp only [List.getElem_toArray, List.getElem_cons_zero, List.getElem_cons_succ]; go_simp; (try with_reducible rfl))
        try simp only [List.getElem_toArray, List.getElem_cons_zero, List.getElem_cons_succ]
        try simp only [Act.put, List.setIfInBounds_toArray, List.set_cons_zero, List.set_cons_succ]
        refine wpAnyH_ready (rs := [13]) (by kernel_rfl) (by simp) ?_
        refine AllReadyH.cons rfl (fun K hK => ?_) AllReadyH.nil
        try simp only [List.getElem_toArray, List.getElem_cons_zero, List.getElem_cons_succ]
        go_simp
        with_reducible refine (of_q _ (-1) (3) (by omega) (by omega) (by omega) (by omega) qm13 HE_qm13.out).mono ?_
        rintro e w36 ⟨s_c5, A_c5, n_c5, c_c5, t_c5, B_c5, m_c5, d_c5, rfl, h_c5, hbx⟩
        replace HX := Lib.hid (HX.out.below hbx)
        have H_c5 := Lib.hid h_c5
        clear hbx
        refine hK.out _ _ (by with_reducible exact HX.out.keep) (fun hHeld => ?_)
        clear hK K
        try simp only [Act.put, List.setIfInBounds_toArray, List.set_cons_zero, List.set_cons_succ]
        refine wpAnyH_ready (rs := [15]) (by kernel_rfl) (by simp) ?_
        refine AllReadyH.cons rfl (fun K hK => ?_) AllReadyH.nil
        try simp only [List.getElem_toArray, List.getElem_cons_zero, List.getElem_cons_succ]
        go_simp
        with_reducible refine (of_q _ (-1) (2) (by omega) (by omega) (by omega) (by omega) qm12 HE_qm12.out).mono ?_
        rintro e w37 ⟨s_c6, A_c6, n_c6, c_c6, t_c6, B_c6, m_c6, d_c6, rfl, h_c6, hbx⟩
        replace HX := Lib.hid (HX.out.below hbx)
        replace H_c5 := Lib.hid (H_c5.out.below hbx)
        have H_c6 := Lib.hid h_c6
        clear hbx
        refine hK.out _ _ (by with_reducible exact HX.out.keep) (fun hHeld => ?_)
        clear hK K
        try simp only [Act.put, List.setIfInBounds_toArray, List.set_cons_zero, List.set_cons_succ]
        refine wpAnyH_ready (rs := [16]) (by kernel_rfl) (by simp) ?_
        refine AllReadyH.cons rfl (fun K hK => ?_) AllReadyH.nil
        try simp only [List.getElem_toArray, List.getElem_cons_zero, List.getElem_cons_succ]
        go_simp
        with_reducible refine (min_q (H_c5.out.isq (k := 700) (Nat.le_trans HL_qm13.out (by omega))) (H_c6.out.isq (k := 700) (Nat.le_trans HL_qm12.out (by omega))) (by omega) (by omega) qmn HE_qmn.out).mono ?_
        rintro e w38 ⟨s_c7, A_c7, n_c7, c_c7, t_c7, B_c7, m_c7, d_c7, rfl, h_c7, hbx⟩
        replace HX := Lib.hid (HX.out.below hbx)
        replace H_c5 := Lib.hid (H_c5.out.below hbx)
        replace H_c6 := Lib.hid (H_c6.out.below hbx)
        have H_c7 := Lib.hid h_c7
        clear hbx
        refine hK.out _ _ (by with_reducible exact HX.out.keep) (fun hHeld => ?_)
        clear hK K
        try simp only [Act.put, List.setIfInBounds_toArray, List.set_cons_zero, List.set_cons_succ]
        clear H_c5 H_c6
        refine wpAnyH_ready (rs := [17]) (by kernel_rfl) (by simp) ?_
        refine AllReadyH.cons rfl (fun K hK => ?_) AllReadyH.nil
        try simp only [List.getElem_toArray, List.getElem_cons_zero, List.getElem_cons_succ]
        go_simp
        with_reducible refine (is_q H_c7.out (Nat.le_trans HL_qmn.out (by omega)) (HT.out.below HX.out.bel) _ TX_mn.out).mono ?_
        rintro e w39 ⟨rfl, hbx⟩
        replace HX := Lib.hid (HX.out.below hbx)
        replace H_c7 := Lib.hid (H_c7.out.below hbx)
        clear hbx
        refine hK.out _ _ (by with_reducible exact HX.out.keep) (fun hHeld => ?_)
        clear hK K
        try simp only [Act.put, List.setIfInBounds_toArray, List.set_cons_zero, List.set_cons_succ]
        clear H_c7
        refine' wpAnyH_take (i := 18) (v := _) rfl (by kernel_rfl) (by kernel_rfl) (by kernel_rfl) (fun _ _ _ h => h) (Or.inl ⟨by rfl, ?hy46⟩) (by assumption) ?rest46
        case hy46 => (intro w hSw; (try dsimp only at hSw); try simp only [List.getElem_toArray, List.getElem_cons_zero, List.getElem_cons_succ]; go_simp; (try with_reducible rfl))
        try simp only [List.getElem_toArray, List.getElem_cons_zero, List.getElem_cons_succ]
        try simp only [Act.put, List.setIfInBounds_toArray, List.set_cons_zero, List.set_cons_succ]
        refine' wpAnyH_take (i := 19) (v := _) rfl (by kernel_rfl) (by kernel_rfl) (by kernel_rfl) (fun _ _ _ h => h) (Or.inl ⟨by rfl, ?hy47⟩) (by assumption) ?rest47
        case hy47 => (intro w hSw; (try dsimp only at hSw); try simp only [List.getElem_toArray, List.getElem_cons_zero, List.getElem_cons_succ]; go_simp; (try with_reducible rfl))
        try simp only [List.getElem_toArray, List.getElem_cons_zero, List.getElem_cons_succ]
        try simp only [Act.put, List.setIfInBounds_toArray, List.set_cons_zero, List.set_cons_succ]
        refine' wpAnyH_take (i := 20) (v := _) rfl (by kernel_rfl) (by kernel_rfl) (by kernel_rfl) (fun _ _ _ h => h) (Or.inl ⟨by rfl, ?hy48⟩) (by assumption) ?rest48
        case hy48 => (intro w hSw; (try dsimp only at hSw); try simp only [List.getElem_toArray, List.getElem_cons_zero, List.getElem_cons_succ]; go_simp; (try with_reducible rfl))
        try simp only [List.getElem_toArray, List.getElem_cons_zero, List.getElem_cons_succ]
        try simp only [Act.put, List.setIfInBounds_toArray, List.set_cons_zero, List.set_cons_succ]
        refine wpAnyH_ready (rs := [21]) (by kernel_rfl) (by simp) ?_
        refine AllReadyH.cons rfl (fun K hK => ?_) AllReadyH.nil
        try simp only [List.getElem_toArray, List.getElem_cons_zero, List.getElem_cons_succ]
        go_simp
        with_reducible refine (of_q _ (8) (4) (by omega) (by omega) (by omega) (by omega) q84 HE_q84.out).mono ?_
        rintro e w40 ⟨s_c8, A_c8, n_c8, c_c8, t_c8, B_c8, m_c8, d_c8, rfl, h_c8, hbx⟩
        replace HX := Lib.hid (HX.out.below hbx)
        have H_c8 := Lib.hid h_c8
        clear hbx
        refine hK.out _ _ (by with_reducible exact HX.out.keep) (fun hHeld => ?_)
        clear hK K
        try simp only [Act.put, List.setIfInBounds_toArray, List.set_cons_zero, List.set_cons_succ]
        refine wpAnyH_ready (rs := [22]) (by kernel_rfl) (by simp) ?_
        refine AllReadyH.cons rfl (fun K hK => ?_) AllReadyH.nil
        try simp only [List.getElem_toArray, List.getElem_cons_zero, List.getElem_cons_succ]
        go_simp
        with_reducible refine (iswhole_q (H_c8.out.isq (k := 700) (Nat.le_trans HL_q84.out (by omega))) (by omega) (by omega) true HW84.out).mono ?_
        rintro e w41 ⟨rfl, hbx⟩
        replace HX := Lib.hid (HX.out.below hbx)
        replace H_c8 := Lib.hid (H_c8.out.below hbx)
        clear hbx
        refine hK.out _ _ (by with_reducible exact HX.out.keep) (fun hHeld => ?_)
        clear hK K
        try simp only [Act.put, List.setIfInBounds_toArray, List.set_cons_zero, List.set_cons_succ]
        clear H_c8
        refine' wpAnyH_take (i := 23) (v := _) rfl (by kernel_rfl) (by kernel_rfl) (by kernel_rfl) (fun _ _ _ h => h) (Or.inl ⟨by rfl, ?hy49⟩) (by assumption) ?rest49
        case hy49 => (intro w hSw; (try dsimp only at hSw); try simp only [List.getElem_toArray, List.getElem_cons_zero, List.getElem_cons_succ]; go_simp; (try with_reducible rfl))
        try simp only [List.getElem_toArray, List.getElem_cons_zero, List.getElem_cons_succ]
        try simp only [Act.put, List.setIfInBounds_toArray, List.set_cons_zero, List.set_cons_succ]
        refine' wpAnyH_take (i := 24) (v := _) rfl (by kernel_rfl) (by kernel_rfl) (by kernel_rfl) (fun _ _ _ h => h) (Or.inl ⟨by rfl, ?hy50⟩) (by assumption) ?rest50
        case hy50 => (intro w hSw; (try dsimp only at hSw); try simp only [List.getElem_toArray, List.getElem_cons_zero, List.getElem_cons_succ]; go_simp; (try with_reducible rfl))
        try simp only [List.getElem_toArray, List.getElem_cons_zero, List.getElem_cons_succ]
        try simp only [Act.put, List.setIfInBounds_toArray, List.set_cons_zero, List.set_cons_succ]
        refine' wpAnyH_take (i := 25) (v := _) rfl (by kernel_rfl) (by kernel_rfl) (by kernel_rfl) (fun _ _ _ h => h) (Or.inl ⟨by rfl, ?hy51⟩) (by assumption) ?rest51
        case hy51 => (intro w hSw; (try dsimp only at hSw); try simp only [List.getElem_toArray, List.getElem_cons_zero, List.getElem_cons_succ]; go_simp; (try with_reducible rfl))
        try simp only [List.getElem_toArray, List.getElem_cons_zero, List.getElem_cons_succ]
        try simp only [Act.put, List.setIfInBounds_toArray, List.set_cons_zero, List.set_cons_succ]
        refine wpAnyH_ready (rs := [26]) (by kernel_rfl) (by simp) ?_
        refine AllReadyH.cons rfl (fun K hK => ?_) AllReadyH.nil
        try simp only [List.getElem_toArray, List.getElem_cons_zero, List.getElem_cons_succ]
        go_simp
        with_reducible refine (of_q _ (1) (2) (by omega) (by omega) (by omega) (by omega) q12 HE_q12.out).mono ?_
        rintro e w42 ⟨s_c9, A_c9, n_c9, c_c9, t_c9, B_c9, m_c9, d_c9, rfl, h_c9, hbx⟩
        replace HX := Lib.hid (HX.out.below hbx)
        have H_c9 := Lib.hid h_c9
        clear hbx
        refine hK.out _ _ (by with_reducible exact HX.out.keep) (fun hHeld => ?_)
        clear hK K
        try simp only [Act.put, List.setIfInBounds_toArray, List.set_cons_zero, List.set_cons_succ]
        refine wpAnyH_ready (rs := [27]) (by kernel_rfl) (by simp) ?_
        refine AllReadyH.cons rfl (fun K hK => ?_) AllReadyH.nil
        try simp only [List.getElem_toArray, List.getElem_cons_zero, List.getElem_cons_succ]
        go_simp
        with_reducible refine (iswhole_q (H_c9.out.isq (k := 700) (Nat.le_trans HL_q12.out (by omega))) (by omega) (by omega) false HW12.out).mono ?_
        rintro e w43 ⟨rfl, hbx⟩
        replace HX := Lib.hid (HX.out.below hbx)
        replace H_c9 := Lib.hid (H_c9.out.below hbx)
        clear hbx
        refine hK.out _ _ (by with_reducible exact HX.out.keep) (fun hHeld => ?_)
        clear hK K
        try simp only [Act.put, List.setIfInBounds_toArray, List.set_cons_zero, List.set_cons_succ]
        clear H_c9
        refine' wpAnyH_take (i := 28) (v := _) rfl (by kernel_rfl) (by kernel_rfl) (by kernel_rfl) (fun _ _ _ h => h) (Or.inl ⟨by rfl, ?hy52⟩) (by assumption) ?rest52
        case hy52 => (intro w hSw; (try dsimp only at hSw); try simp only [List.getElem_toArray, List.getElem_cons_zero, List.getElem_cons_succ]; go_simp; (try with_reducible rfl))
        try simp only [List.getElem_toArray, List.getElem_cons_zero, List.getElem_cons_succ]
        try simp only [Act.put, List.setIfInBounds_toArray, List.set_cons_zero, List.set_cons_succ]
        refine' wpAnyH_take (i := 29) (v := _) rfl (by kernel_rfl) (by kernel_rfl) (by kernel_rfl) (fun _ _ _ h => h) (Or.inl ⟨by rfl, ?hy53⟩) (by assumption) ?rest53
        case hy53 => (intro w hSw; (try dsimp only at hSw); try simp only [List.getElem_toArray, List.getElem_cons_zero, List.getElem_cons_succ]; go_simp; (try with_reducible rfl))
        try simp only [List.getElem_toArray, List.getElem_cons_zero, List.getElem_cons_succ]
        try simp only [Act.put, List.setIfInBounds_toArray, List.set_cons_zero, List.set_cons_succ]
        refine' wpAnyH_take (i := 30) (v := _) rfl (by kernel_rfl) (by kernel_rfl) (by kernel_rfl) (fun _ _ _ h => h) (Or.inl ⟨by rfl, ?hy54⟩) (by assumption) ?rest54
        case hy54 => (intro w hSw; (try dsimp only at hSw); try simp only [List.getElem_toArray, List.getElem_cons_zero, List.getElem_cons_succ]; go_simp; (try with_reducible rfl))
        try simp only [List.getElem_toArray, List.getElem_cons_zero, List.getElem_cons_succ]
        try simp only [Act.put, List.setIfInBounds_toArray, List.set_cons_zero, List.set_cons_succ]
        refine wpAnyH_ready (rs := [31]) (by kernel_rfl) (by simp) ?_
        refine AllReadyH.cons rfl (fun K hK => ?_) AllReadyH.nil
        try simp only [List.getElem_toArray, List.getElem_cons_zero, List.getElem_cons_succ]
        go_simp
        with_reducible refine (of_q _ (-9223372036854775808) (-9223372036854775808) (by omega) (by omega) (by omega) (by omega) qmm HE_qmm.out).mono ?_
        rintro e w44 ⟨s_e1, A_e1, n_e1, c_e1, t_e1, B_e1, m_e1, d_e1, rfl, h_e1, hbx⟩
        replace HX := Lib.hid (HX.out.below hbx)
        have H_e1 := Lib.hid h_e1
        clear hbx
        refine hK.out _ _ (by with_reducible exact HX.out.keep) (fun hHeld => ?_)
        clear hK K
        try simp only [Act.put, List.setIfInBounds_toArray, List.set_cons_zero, List.set_cons_succ]
        refine wpAnyH_ready (rs := [32]) (by kernel_rfl) (by simp) ?_
        refine AllReadyH.cons rfl (fun K hK => ?_) AllReadyH.nil
        try simp only [List.getElem_toArray, List.getElem_cons_zero, List.getElem_cons_succ]
        go_simp
        with_reducible refine (is_q H_e1.out (Nat.le_trans HL_qmm.out (by omega)) (HT.out.below HX.out.bel) _ TX_mm.out).mono ?_
        rintro e w45 ⟨rfl, hbx⟩
        replace HX := Lib.hid (HX.out.below hbx)
        replace H_e1 := Lib.hid (H_e1.out.below hbx)
        clear hbx
        refine hK.out _ _ (by with_reducible exact HX.out.keep) (fun hHeld => ?_)
        clear hK K
        try simp only [Act.put, List.setIfInBounds_toArray, List.set_cons_zero, List.set_cons_succ]
        clear H_e1
        refine' wpAnyH_take (i := 33) (v := _) rfl (by kernel_rfl) (by kernel_rfl) (by kernel_rfl) (fun _ _ _ h => h) (Or.inl ⟨by rfl, ?hy55⟩) (by assumption) ?rest55
        case hy55 => (intro w hSw; (try dsimp only at hSw); try simp only [List.getElem_toArray, List.getElem_cons_zero, List.getElem_cons_succ]; go_simp; (try with_reducible rfl))
        try simp only [List.getElem_toArray, List.getElem_cons_zero, List.getElem_cons_succ]
        try simp only [Act.put, List.setIfInBounds_toArray, List.set_cons_zero, List.set_cons_succ]
        refine' wpAnyH_take (i := 34) (v := _) rfl (by kernel_rfl) (by kernel_rfl) (by kernel_rfl) (fun _ _ _ h => h) (Or.inl ⟨by rfl, ?hy56⟩) (by assumption) ?rest56
        case hy56 => (intro w hSw; (try dsimp only at hSw); try simp only [List.getElem_toArray, List.getElem_cons_zero, List.getElem_cons_succ]; go_simp; (try with_reducible rfl))
        try simp only [List.getElem_toArray, List.getElem_cons_zero, List.getElem_cons_succ]
        try simp only [Act.put, List.setIfInBounds_toArray, List.set_cons_zero, List.set_cons_succ]
        refine wpAnyH_ready (rs := [35]) (by kernel_rfl) (by simp) ?_
        refine AllReadyH.cons rfl (fun K hK => ?_) AllReadyH.nil
        try simp only [List.getElem_toArray, List.getElem_cons_zero, List.getElem_cons_succ]
        go_simp
        with_reducible refine (of_q _ (-9223372036854775808) (1) (by omega) (by omega) (by omega) (by omega) qm1 HE_qm1.out).mono ?_
        rintro e w46 ⟨s_e2, A_e2, n_e2, c_e2, t_e2, B_e2, m_e2, d_e2, rfl, h_e2, hbx⟩
        replace HX := Lib.hid (HX.out.below hbx)
        have H_e2 := Lib.hid h_e2
        clear hbx
        refine hK.out _ _ (by with_reducible exact HX.out.keep) (fun hHeld => ?_)
        clear hK K
        try simp only [Act.put, List.setIfInBounds_toArray, List.set_cons_zero, List.set_cons_succ]
        refine wpAnyH_ready (rs := [36]) (by kernel_rfl) (by simp) ?_
        refine AllReadyH.cons rfl (fun K hK => ?_) AllReadyH.nil
        try simp only [List.getElem_toArray, List.getElem_cons_zero, List.getElem_cons_succ]
        go_simp
        with_reducible refine (is_q H_e2.out (Nat.le_trans HL_qm1.out (by omega)) (HT.out.below HX.out.bel) _ TX_m1.out).mono ?_
        rintro e w47 ⟨rfl, hbx⟩
        replace HX := Lib.hid (HX.out.below hbx)
        replace H_e2 := Lib.hid (H_e2.out.below hbx)
        clear hbx
        refine hK.out _ _ (by with_reducible exact HX.out.keep) (fun hHeld => ?_)
        clear hK K
        try simp only [Act.put, List.setIfInBounds_toArray, List.set_cons_zero, List.set_cons_succ]
        clear H_e2
        refine' wpAnyH_take (i := 37) (v := _) rfl (by kernel_rfl) (by kernel_rfl) (by kernel_rfl) (fun _ _ _ h => h) (Or.inl ⟨by rfl, ?hy57⟩) (by assumption) ?rest57
        case hy57 => (intro w hSw; (try dsimp only at hSw); try simp only [List.getElem_toArray, List.getElem_cons_zero, List.getElem_cons_succ]; go_simp; (try with_reducible rfl))
        try simp only [List.getElem_toArray, List.getElem_cons_zero, List.getElem_cons_succ]
        try simp only [Act.put, List.setIfInBounds_toArray, List.set_cons_zero, List.set_cons_succ]
        refine' wpAnyH_take (i := 38) (v := _) rfl (by kernel_rfl) (by kernel_rfl) (by kernel_rfl) (fun _ _ _ h => h) (Or.inl ⟨by rfl, ?hy58⟩) (by assumption) ?rest58
        case hy58 => (intro w hSw; (try dsimp only at hSw); try simp only [List.getElem_toArray, List.getElem_cons_zero, List.getElem_cons_succ]; go_simp; (try with_reducible rfl))
        try simp only [List.getElem_toArray, List.getElem_cons_zero, List.getElem_cons_succ]
        try simp only [Act.put, List.setIfInBounds_toArray, List.set_cons_zero, List.set_cons_succ]
        refine' wpAnyH_take (i := 39) (v := _) rfl (by kernel_rfl) (by kernel_rfl) (by kernel_rfl) (fun _ _ _ h => h) (Or.inl ⟨by rfl, ?hy59⟩) (by assumption) ?rest59
        case hy59 => (intro w hSw; (try dsimp only at hSw); try simp only [List.getElem_toArray, List.getElem_cons_zero, List.getElem_cons_succ]; go_simp; (try with_reducible rfl))
        try simp only [List.getElem_toArray, List.getElem_cons_zero, List.getElem_cons_succ]
        try simp only [Act.put, List.setIfInBounds_toArray, List.set_cons_zero, List.set_cons_succ]
        refine' wpAnyH_take (i := 41) (v := _) rfl (by kernel_rfl) (by kernel_rfl) (by kernel_rfl) (fun _ _ _ h => h) (Or.inl ⟨by rfl, ?hy60⟩) (by assumption) ?rest60
        case hy60 => (intro w hSw; (try dsimp only at hSw); try simp only [List.getElem_toArray, List.getElem_cons_zero, List.getElem_cons_succ]; go_simp; (try with_reducible rfl))
        try simp only [List.getElem_toArray, List.getElem_cons_zero, List.getElem_cons_succ]
        try simp only [Act.put, List.setIfInBounds_toArray, List.set_cons_zero, List.set_cons_succ]
        refine wpAnyH_ready (rs := [40]) (by kernel_rfl) (by simp) ?_
        refine AllReadyH.cons rfl (fun K hK => ?_) AllReadyH.nil
        try simp only [List.getElem_toArray, List.getElem_cons_zero, List.getElem_cons_succ]
        go_simp
        with_reducible refine (of_q _ (1) (3) (by omega) (by omega) (by omega) (by omega) q13 HE_q13.out).mono ?_
        rintro e w48 ⟨s_e3, A_e3, n_e3, c_e3, t_e3, B_e3, m_e3, d_e3, rfl, h_e3, hbx⟩
        replace HX := Lib.hid (HX.out.below hbx)
        have H_e3 := Lib.hid h_e3
        clear hbx
        refine hK.out _ _ (by with_reducible exact HX.out.keep) (fun hHeld => ?_)
        clear hK K
        try simp only [Act.put, List.setIfInBounds_toArray, List.set_cons_zero, List.set_cons_succ]
        refine wpAnyH_ready (rs := [42]) (by kernel_rfl) (by simp) ?_
        refine AllReadyH.cons rfl (fun K hK => ?_) AllReadyH.nil
        try simp only [List.getElem_toArray, List.getElem_cons_zero, List.getElem_cons_succ]
        go_simp
        with_reducible refine (of_q _ (1) (2) (by omega) (by omega) (by omega) (by omega) q12 HE_q12.out).mono ?_
        rintro e w49 ⟨s_e4, A_e4, n_e4, c_e4, t_e4, B_e4, m_e4, d_e4, rfl, h_e4, hbx⟩
        replace HX := Lib.hid (HX.out.below hbx)
        replace H_e3 := Lib.hid (H_e3.out.below hbx)
        have H_e4 := Lib.hid h_e4
        clear hbx
        refine hK.out _ _ (by with_reducible exact HX.out.keep) (fun hHeld => ?_)
        clear hK K
        try simp only [Act.put, List.setIfInBounds_toArray, List.set_cons_zero, List.set_cons_succ]
        refine wpAnyH_ready (rs := [43]) (by kernel_rfl) (by simp) ?_
        refine AllReadyH.cons rfl (fun K hK => ?_) AllReadyH.nil
        try simp only [List.getElem_toArray, List.getElem_cons_zero, List.getElem_cons_succ]
        go_simp
        with_reducible refine (cmp_q (H_e3.out.isq (k := 700) (Nat.le_trans HL_q13.out (by omega))) (H_e4.out.isq (k := 700) (Nat.le_trans HL_q12.out (by omega))) (by omega) (by omega) (-1) HC.out).mono ?_
        rintro e w50 ⟨rfl, hbx⟩
        replace HX := Lib.hid (HX.out.below hbx)
        replace H_e3 := Lib.hid (H_e3.out.below hbx)
        replace H_e4 := Lib.hid (H_e4.out.below hbx)
        clear hbx
        refine hK.out _ _ (by with_reducible exact HX.out.keep) (fun hHeld => ?_)
        clear hK K
        try simp only [Act.put, List.setIfInBounds_toArray, List.set_cons_zero, List.set_cons_succ]
        clear H_e3 H_e4
        refine' wpAnyH_take (i := 44) (v := _) rfl (by kernel_rfl) (by kernel_rfl) (by kernel_rfl) (fun _ _ _ h => h) (Or.inl ⟨by rfl, ?hy61⟩) (by assumption) ?rest61
        case hy61 => (intro w hSw; (try dsimp only at hSw); try simp only [List.getElem_toArray, List.getElem_cons_zero, List.getElem_cons_succ]; go_simp; (try with_reducible rfl))
        try simp only [List.getElem_toArray, List.getElem_cons_zero, List.getElem_cons_succ]
        try simp only [Act.put, List.setIfInBounds_toArray, List.set_cons_zero, List.set_cons_succ]
        refine' wpAnyH_take (i := 45) (v := _) rfl (by kernel_rfl) (by kernel_rfl) (by kernel_rfl) (fun _ _ _ h => h) (Or.inl ⟨by rfl, ?hy62⟩) (by assumption) ?rest62
        case hy62 => (intro w hSw; (try dsimp only at hSw); try simp only [List.getElem_toArray, List.getElem_cons_zero, List.getElem_cons_succ]; go_simp; (try with_reducible rfl))
        try simp only [List.getElem_toArray, List.getElem_cons_zero, List.getElem_cons_succ]
        try simp only [Act.put, List.setIfInBounds_toArray, List.set_cons_zero, List.set_cons_succ]
        refine' wpAnyH_take (i := 46) (v := _) rfl (by kernel_rfl) (by kernel_rfl) (by kernel_rfl) (fun _ _ _ h => h) (Or.inl ⟨by rfl, ?hy63⟩) (by assumption) ?rest63
        case hy63 => (intro w hSw; (try dsimp only at hSw); try simp only [List.getElem_toArray, List.getElem_cons_zero, List.getElem_cons_succ]; go_simp; (try with_reducible rfl))
        try simp only [List.getElem_toArray, List.getElem_cons_zero, List.getElem_cons_succ]
        try simp only [Act.put, List.setIfInBounds_toArray, List.set_cons_zero, List.set_cons_succ]
        refine wpAnyH_ready (rs := [47]) (by kernel_rfl) (by simp) ?_
        refine AllReadyH.cons rfl (fun K hK => ?_) AllReadyH.nil
        try simp only [List.getElem_toArray, List.getElem_cons_zero, List.getElem_cons_succ]
        go_simp
        with_reducible refine (of_y _ (-7) y7 HE_y7.out HB_y7.out.1 HB_y7.out.2).mono ?_
        rintro e w51 ⟨s_e5, A_e5, n_e5, c_e5, rfl, h_e5, hbx⟩
        replace HX := Lib.hid (HX.out.below hbx)
        have H_e5 := Lib.hid h_e5
        clear h_e5
        clear hbx
        refine hK.out _ _ (by with_reducible exact HX.out.keep) (fun hHeld => ?_)
        clear hK K
        try simp only [Act.put, List.setIfInBounds_toArray, List.set_cons_zero, List.set_cons_succ]
        refine wpAnyH_ready (rs := [48]) (by kernel_rfl) (by simp) ?_
        refine AllReadyH.cons rfl (fun K hK => ?_) AllReadyH.nil
        try simp only [List.getElem_toArray, List.getElem_cons_zero, List.getElem_cons_succ]
        go_simp
        with_reducible refine (whole_q (H_e5.out.isz HZ_y7.out) (by omega) q7 HE_q7.out).mono ?_
        rintro e w52 ⟨s_e6, A_e6, n_e6, c_e6, t_e6, B_e6, m_e6, d_e6, rfl, h_e6, hbx⟩
        replace HX := Lib.hid (HX.out.below hbx)
        replace H_e5 := Lib.hid (H_e5.out.below hbx)
        have H_e6 := Lib.hid h_e6
        clear hbx
        refine hK.out _ _ (by with_reducible exact HX.out.keep) (fun hHeld => ?_)
        clear hK K
        try simp only [Act.put, List.setIfInBounds_toArray, List.set_cons_zero, List.set_cons_succ]
        clear H_e5
        refine wpAnyH_ready (rs := [49]) (by kernel_rfl) (by simp) ?_
        refine AllReadyH.cons rfl (fun K hK => ?_) AllReadyH.nil
        try simp only [List.getElem_toArray, List.getElem_cons_zero, List.getElem_cons_succ]
        go_simp
        with_reducible refine (is_q H_e6.out (Nat.le_trans HL_q7.out (by omega)) (HT.out.below HX.out.bel) _ TX_7.out).mono ?_
        rintro e w53 ⟨rfl, hbx⟩
        replace HX := Lib.hid (HX.out.below hbx)
        replace H_e6 := Lib.hid (H_e6.out.below hbx)
        clear hbx
        refine hK.out _ _ (by with_reducible exact HX.out.keep) (fun hHeld => ?_)
        clear hK K
        try simp only [Act.put, List.setIfInBounds_toArray, List.set_cons_zero, List.set_cons_succ]
        clear H_e6
        refine' wpAnyH_take (i := 50) (v := _) rfl (by kernel_rfl) (by kernel_rfl) (by kernel_rfl) (fun _ _ _ h => h) (Or.inl ⟨by rfl, ?hy64⟩) (by assumption) ?rest64
        case hy64 => (intro w hSw; (try dsimp only at hSw); try simp only [List.getElem_toArray, List.getElem_cons_zero, List.getElem_cons_succ]; go_simp; (try with_reducible rfl))
        try simp only [List.getElem_toArray, List.getElem_cons_zero, List.getElem_cons_succ]
        try simp only [Act.put, List.setIfInBounds_toArray, List.set_cons_zero, List.set_cons_succ]
        refine' wpAnyH_take (i := 51) (v := _) rfl (by kernel_rfl) (by kernel_rfl) (by kernel_rfl) (fun _ _ _ h => h) (Or.inl ⟨by rfl, ?hy65⟩) (by assumption) ?rest65
        case hy65 => (intro w hSw; (try dsimp only at hSw); try simp only [List.getElem_toArray, List.getElem_cons_zero, List.getElem_cons_succ]; go_simp; (try with_reducible rfl))
        try simp only [List.getElem_toArray, List.getElem_cons_zero, List.getElem_cons_succ]
        try simp only [Act.put, List.setIfInBounds_toArray, List.set_cons_zero, List.set_cons_succ]
        refine wpAnyH_done (by kernel_rfl) ?_ _
        go_wp2_with fail
        go_meet
        exact ⟨rfl, HX.out⟩
    case rest =>
      clear HX
      obtain ⟨rfl, HX⟩ := hcut
      go_wp2_with fail
      obtain ⟨V7, hV7⟩ : ∃ V, wc.alloc (Obj.cells #[Value.string ⟨#[]⟩, Value.string ⟨#[47]⟩, Value.string ⟨#[49, 47]⟩, Value.string ⟨#[47, 50]⟩, Value.string ⟨#[49, 47, 45, 50]⟩, Value.string ⟨#[49, 47, 48, 50]⟩, Value.string ⟨#[49, 47, 47, 50]⟩, Value.string ⟨#[49, 47, 50, 47, 51]⟩, Value.string ⟨#[45, 47, 50]⟩, Value.string ⟨#[49, 32, 47, 50]⟩, Value.string ⟨#[49, 47, 43, 50]⟩, Value.string ⟨#[48, 46, 53]⟩, Value.string ⟨#[45, 48, 47, 49]⟩, Value.string ⟨#[49, 47, 45, 48]⟩] 9) = V := ⟨_, rfl⟩
      rw [hV7]
      have HST : Hid (Strs V7 wc.heap.size) := by rw [← hV7]; exact heap_alloc_new wc _
      replace HX := Lib.hid (HX.out.below ((Below.refl wc.heap.size wc).alloc (Nat.le_refl _) (Obj.cells #[Value.string ⟨#[]⟩, Value.string ⟨#[47]⟩, Value.string ⟨#[49, 47]⟩, Value.string ⟨#[47, 50]⟩, Value.string ⟨#[49, 47, 45, 50]⟩, Value.string ⟨#[49, 47, 48, 50]⟩, Value.string ⟨#[49, 47, 47, 50]⟩, Value.string ⟨#[49, 47, 50, 47, 51]⟩, Value.string ⟨#[45, 47, 50]⟩, Value.string ⟨#[49, 32, 47, 50]⟩, Value.string ⟨#[49, 47, 43, 50]⟩, Value.string ⟨#[48, 46, 53]⟩, Value.string ⟨#[45, 48, 47, 49]⟩, Value.string ⟨#[49, 47, 45, 48]⟩] 9)))
      rw [hV7] at HX
      clear hV7
      go_loopw [149] (fun iv wx => ∃ i : Nat, i ≤ 14 ∧ iv = .int .i64 (i : Int) ∧ Hid (N4 w wx w4.heap.size (w4.heap.size + 1) (w5.heap.size + 1) (w5.heap.size + 1 + 1 + 1 + 1) s_fl A_fl n_fl c_fl s_ce A_ce n_ce c_ce s_fi A_fi n_fi c_fi false (some ⟨w5.heap.size, 0, none⟩) 1 1 true (some ⟨w5.heap.size + 1 + 1, 0, none⟩) 2 2 true (some ⟨w5.heap.size + 1 + 1 + 1, 0, none⟩) 3 3 y2 y1 z0 q32) ∧ Hid (Strs wx wc.heap.size)) (fun iv _ => 14 - (intOf iv).toNat)
      case atStart => exact ⟨0, Nat.zero_le _, rfl, HX, HST⟩
      case round =>
        clear HX HST
        obtain ⟨i, hi, rfl, HX, HST⟩ := hrel
        by_cases hlt : i < 14
        · obtain ⟨l, hcl, hql, hll⟩ := HST.out.at_ i hlt
          have HQL := Lib.hid hql
          have HLL := Lib.hid hll
          clear hql hll
          have hlt1 : (i : Int) < 14 := by omega
          have hlt2 : (0 : Int) ≤ (i : Int) := by omega
          go_wp2_with fail
          refine (parse_q _ l 0 11 HQL.out HLL.out).mono ?_
          rintro e wp1 ⟨s_p1, A_p1, n_p1, c_p1, t_p1, B_p1, m_p1, d_p1, rfl, h_p1, hbx⟩
          replace HX := Lib.hid (HX.out.below hbx)
          replace HST := Lib.hid (HST.out.below hbx)
          obtain ⟨Vp1, hVp1⟩ : ∃ V, wp1.alloc (.cells #[.bool s_p1, .slice A_p1 n_p1 c_p1, .bool t_p1, .slice B_p1 m_p1 d_p1] 28) = V := ⟨_, rfl⟩
          have HVp1 : Hid (Below wp1.heap.size wp1 Vp1) := by rw [← hVp1]; exact (Below.refl _ _).alloc (Nat.le_refl _) _
          have HIp1 : Hid (Qbx Vp1 wp1.heap.size s_p1 A_p1 n_p1 c_p1 t_p1 B_p1 m_p1 d_p1) := by rw [← hVp1]; exact Qbx.new _ _ rfl
          have H_p1 := Lib.hid (h_p1.below HVp1.out)
          replace HX := Lib.hid (HX.out.below HVp1.out)
          replace HST := Lib.hid (HST.out.below HVp1.out)
          clear hbx h_p1 HVp1
          have k0 := HIp1.out.c0
          have k1 := HIp1.out.c1
          have k2 := HIp1.out.c2
          have k3 := HIp1.out.c3
          go_wp2_with fail
          refine (sign_q (H_p1.out.isq (k := 700) (Nat.le_trans ql_zero0 (by omega))) (by omega) 0 rfl).mono ?_
          rintro e wp2 ⟨rfl, hbx⟩
          clear hVp1 k0 k1 k2 k3
          replace HX := Lib.hid (HX.out.below hbx)
          replace HST := Lib.hid (HST.out.below hbx)
          clear hbx
          go_wp2_with fail
          go_roundw
          case rel => exact ⟨i + 1, by omega, by go_num, HX, HST⟩
          case measure => simp [intOf]; omega
        · obtain rfl : i = 14 := by omega
          clear hlt hi HST
          obtain ⟨L7, hL7⟩ : ∃ L, Lib.repeatL ([55] : List UInt8) 601 = L := ⟨_, rfl⟩
          have HRP : Hid (∀ W : World, Calls Tryz.prog 27 #[.string ⟨#[55]⟩, .int .i64 601] W (fun e w' => e = .returned (.string ⟨L7.toArray⟩) ∧ Below W.heap.size W w')) := by rw [← hL7]; exact rep_seven
          have hlen : L7.length = 601 := by rw [← hL7]; kernel_rfl
          obtain ⟨U1, hU1⟩ : ∃ U, L7 ++ [47, 48] = U := ⟨_, rfl⟩
          obtain ⟨U2, hU2⟩ : ∃ U, [49, 47] ++ L7 = U := ⟨_, rfl⟩
          have HU1 : Hid (qparse U1 = (0, 3)) := by show _ = _; rw [← hU1, ← hL7]; kernel_rfl
          have HU2 : Hid (qparse U2 = (0, 3)) := by show _ = _; rw [← hU2, ← hL7]; kernel_rfl
          have HUL : Hid (U1.length ≤ 100000 ∧ U2.length ≤ 100000) := by show _ ∧ _; rw [← hU1, ← hU2, List.length_append, List.length_append, hlen]; exact ⟨by decide, by decide⟩
          have c1 := cat_any hU1
          have c2 := cat_any hU2
          have b1 : ¬ (9223372036854775807 < L7.length + 2) := by omega
          have b2 : ¬ (9223372036854775807 < 2 + L7.length) := by omega
          clear hL7 hlen hU1 hU2
          have HP1 : Hid (qparse [49, 47, 48] = (0, 10)) := by show _ = _; kernel_rfl
          have HP4 : Hid (qparse [48, 47, 53] = (0, 0)) := by show _ = _; kernel_rfl
          go_wp2_with fail
          refine (HRP.out _).mono ?_
          rintro e wr1 ⟨rfl, hbx⟩
          replace HX := Lib.hid (HX.out.below hbx)
          clear hbx HRP
          go_wp2_with fail
          refine (parse_q _ [49, 47, 48] 0 10 HP1.out (by simp)).mono ?_
          rintro e wr1 ⟨s_r1, A_r1, n_r1, c_r1, t_r1, B_r1, m_r1, d_r1, rfl, h_r1, hbx⟩
          replace HX := Lib.hid (HX.out.below hbx)
          obtain ⟨Vr1, hVr1⟩ : ∃ V, wr1.alloc (.cells #[.bool s_r1, .slice A_r1 n_r1 c_r1, .bool t_r1, .slice B_r1 m_r1 d_r1] 28) = V := ⟨_, rfl⟩
          have HVr1 : Hid (Below wr1.heap.size wr1 Vr1) := by rw [← hVr1]; exact (Below.refl _ _).alloc (Nat.le_refl _) _
          have HIr1 : Hid (Qbx Vr1 wr1.heap.size s_r1 A_r1 n_r1 c_r1 t_r1 B_r1 m_r1 d_r1) := by rw [← hVr1]; exact Qbx.new _ _ rfl
          have H_r1 := Lib.hid (h_r1.below HVr1.out)
          replace HX := Lib.hid (HX.out.below HVr1.out)
          clear hbx h_r1 HVr1
          clear H_r1 HIr1
          go_wp2_with fail
          refine (parse_q _ U1 0 3 HU1.out HUL.out.1).mono ?_
          rintro e wr2 ⟨s_r2, A_r2, n_r2, c_r2, t_r2, B_r2, m_r2, d_r2, rfl, h_r2, hbx⟩
          replace HX := Lib.hid (HX.out.below hbx)
          clear hVr1
          obtain ⟨Vr2, hVr2⟩ : ∃ V, wr2.alloc (.cells #[.bool s_r2, .slice A_r2 n_r2 c_r2, .bool t_r2, .slice B_r2 m_r2 d_r2] 28) = V := ⟨_, rfl⟩
          have HVr2 : Hid (Below wr2.heap.size wr2 Vr2) := by rw [← hVr2]; exact (Below.refl _ _).alloc (Nat.le_refl _) _
          have HIr2 : Hid (Qbx Vr2 wr2.heap.size s_r2 A_r2 n_r2 c_r2 t_r2 B_r2 m_r2 d_r2) := by rw [← hVr2]; exact Qbx.new _ _ rfl
          have H_r2 := Lib.hid (h_r2.below HVr2.out)
          replace HX := Lib.hid (HX.out.below HVr2.out)
          clear hbx h_r2 HVr2
          clear H_r2 HIr2
          go_wp2_with fail
          refine (parse_q _ U2 0 3 HU2.out HUL.out.2).mono ?_
          rintro e wr3 ⟨s_r3, A_r3, n_r3, c_r3, t_r3, B_r3, m_r3, d_r3, rfl, h_r3, hbx⟩
          replace HX := Lib.hid (HX.out.below hbx)
          clear hVr2
          obtain ⟨Vr3, hVr3⟩ : ∃ V, wr3.alloc (.cells #[.bool s_r3, .slice A_r3 n_r3 c_r3, .bool t_r3, .slice B_r3 m_r3 d_r3] 28) = V := ⟨_, rfl⟩
          have HVr3 : Hid (Below wr3.heap.size wr3 Vr3) := by rw [← hVr3]; exact (Below.refl _ _).alloc (Nat.le_refl _) _
          have HIr3 : Hid (Qbx Vr3 wr3.heap.size s_r3 A_r3 n_r3 c_r3 t_r3 B_r3 m_r3 d_r3) := by rw [← hVr3]; exact Qbx.new _ _ rfl
          have H_r3 := Lib.hid (h_r3.below HVr3.out)
          replace HX := Lib.hid (HX.out.below HVr3.out)
          clear hbx h_r3 HVr3
          clear H_r3 HIr3
          go_wp2_with fail
          refine (parse_q _ [48, 47, 53] 0 0 HP4.out (by simp)).mono ?_
          rintro e wr4 ⟨s_r4, A_r4, n_r4, c_r4, t_r4, B_r4, m_r4, d_r4, rfl, h_r4, hbx⟩
          replace HX := Lib.hid (HX.out.below hbx)
          clear hVr3
          obtain ⟨Vr4, hVr4⟩ : ∃ V, wr4.alloc (.cells #[.bool s_r4, .slice A_r4 n_r4 c_r4, .bool t_r4, .slice B_r4 m_r4 d_r4] 28) = V := ⟨_, rfl⟩
          have HVr4 : Hid (Below wr4.heap.size wr4 Vr4) := by rw [← hVr4]; exact (Below.refl _ _).alloc (Nat.le_refl _) _
          have HIr4 : Hid (Qbx Vr4 wr4.heap.size s_r4 A_r4 n_r4 c_r4 t_r4 B_r4 m_r4 d_r4) := by rw [← hVr4]; exact Qbx.new _ _ rfl
          have H_r4 := Lib.hid (h_r4.below HVr4.out)
          replace HX := Lib.hid (HX.out.below HVr4.out)
          clear hbx h_r4 HVr4
          have HTZ : Hid (qtext 0 = [48]) := by show _ = _; exact tx_whole 0 [48] rfl rfl (by kernel_rfl)
          have k0 := HIr4.out.c0
          have k1 := HIr4.out.c1
          have k2 := HIr4.out.c2
          have k3 := HIr4.out.c3
          go_wp2_with fail
          refine (is_q H_r4.out (Nat.le_trans ql_zero0 (by omega)) (HT.out.below HX.out.bel) [48] HTZ.out).mono ?_
          rintro e wr5 ⟨rfl, hbx⟩
          clear hVr4 k0 k1 k2 k3
          replace HX := Lib.hid (HX.out.below hbx)
          clear hbx
          go_wp2_with fail
          refine (awake_q _ (HT.out.below HX.out.bel)).mono ?_
          rintro e wr6 ⟨rfl, hbx⟩
          replace HX := Lib.hid (HX.out.below hbx)
          clear hbx
          go_wp2_with fail
          go_ret
          exact ⟨rfl, HX.out.bel⟩
end Go.Proofs.YtbbncggaaibheaaGreatDoor.Q