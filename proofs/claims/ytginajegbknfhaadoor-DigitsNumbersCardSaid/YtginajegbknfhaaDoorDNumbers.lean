/- DigitsNumbers, walked. -/
import Derived.Test.YtginajegbknfhaaDoorDAwake
namespace Go.Proofs.YtginajegbknfhaaDoor.D
open Go.RowKit

/-- No numerals. -/
def badL : List (List UInt8) := [[], [45], [45, 48], [48, 48, 55], [43, 53], [49, 32, 50], [48, 120, 49], [49, 46, 53], [45, 45, 49], [49, 45], [32, 49], [48, 48], [45, 48, 49], [49, 195, 169]]
theorem bad_all : ∀ l ∈ badL, parseV l = (0, 11) ∧ l.length ≤ 10 := by
  have h : badL.all (fun l => decide (parseV l = (0, 11)) && decide (l.length ≤ 10)) = true := by kernel_rfl
  intro l hl
  have := List.all_eq_true.1 h l hl
  simpa using this
/-- Numerals. -/
def goodL : List (List UInt8) := [[49] ++ List.replicate 18 48, [49] ++ List.replicate 17 48, [45, 53] ++ List.replicate 36 48 ++ [55], [57] ++ List.replicate 17 57, [48], [45, 49], [49] ++ List.replicate 54 48]
theorem good_all : ∀ l ∈ goodL, ∃ z, parseV l = (z, 0) ∧ (dig z.natAbs).length ≤ 1000 ∧ l.length ≤ 1000 := by
  have h : goodL.all (fun l => decide ((parseV l).2 = 0) && decide ((parseV l).1.natAbs < 10 ^ 60) && decide (l.length ≤ 1000)) = true := by kernel_rfl
  intro l hl
  have := List.all_eq_true.1 h l hl
  simp only [Bool.and_eq_true, decide_eq_true_eq] at this
  exact ⟨(parseV l).1, Prod.ext rfl this.1.1, Nat.le_trans (dig_len10 this.1.2) (by omega), this.2⟩
theorem rep_ch (w : World) (ch : UInt8) (c : Nat) (l : List UInt8) (hc : c ≤ 1000000) (hl : List.replicate c ch = l) : Calls Tryd.prog 7 #[.string ⟨#[ch]⟩, .int .i64 (c : Int)] w (RetS w l) := by
  have h := Tryd.strings_Repeat ⟨#[ch]⟩ c w (by omega) (by show 1 * c ≤ _; omega)
  have e : Lib.repeatL [ch] c = List.replicate c ch := by
    clear hc hl h
    induction c with
    | zero => rfl
    | succ c ih => rw [Lib.repeatL, ih, List.replicate_succ]; rfl
  rw [show (⟨#[ch]⟩ : ByteArray).data.toList = [ch] from rfl, e, hl] at h
  exact h
theorem cat_eq {a b q : List UInt8} (h : a ++ b = q) : (⟨a.toArray⟩ ++ ⟨b.toArray⟩ : ByteArray) = ⟨q.toArray⟩ := by
  subst h
  apply ByteArray.ext
  simp
/-- What goes on to hold: the first number's struct, its digits, Go's table. -/
structure Inv (w : World) (b : Nat) (z : Int) (A : Option Addr) (c : Nat) (W : World) : Prop where
  below : Below w.heap.size w W
  k : C2 b (.bool (zneg z)) (.slice A (dig z.natAbs).length c) W
  num : Num W A (dig z.natAbs)
  tab : Tab W
theorem Inv.step {w W W' : World} {b : Nat} {z : Int} {A : Option Addr} {c : Nat} (h : Inv w b z A c W) (hb : Below W.heap.size W W') : Inv w b z A c W' :=
  ⟨h.below.trans (hb.mono h.below.size), C2.below hb h.k, h.num.below hb, h.tab.below hb⟩
theorem Inv.alloc {w W : World} {b : Nat} {z : Int} {A : Option Addr} {c : Nat} (h : Inv w b z A c W) (o : Obj) : Inv w b z A c (W.alloc o) := h.step ((Below.refl _ _).alloc (Nat.le_refl _) _)
theorem dig_zlen : (dig ((0 : Int).natAbs)).length = 0 := by rw [show (0 : Int).natAbs = 0 from rfl, dig_zero]; rfl
set_option maxRecDepth 100000 in
set_option maxHeartbeats 8000000 in
theorem numbers_walk (w : World) (htab : Tab w) : Calls Tryd.prog 3 #[] w fun e w' => e = .returned (.bool true) ∧ Below w.heap.size w w' := by
  have HTAB := Lib.hid htab
  clear htab
  obtain ⟨w0, hw0⟩ : ∃ w0, w.alloc (.cells (badL.map fun l => Value.string ⟨l.toArray⟩).toArray 9) = w0 := ⟨_, rfl⟩
  have HB0 : Hid (Below w.heap.size w w0) := by rw [← hw0]; exact (Below.refl _ _).alloc (Nat.le_refl _) _
  have HC0 : Hid (∀ (i : Nat) (l : List UInt8), badL[i]? = some l → w0.cell? ⟨w.heap.size, i, none⟩ = some (.string ⟨l.toArray⟩)) := by
    intro i l h
    rw [← hw0, World.cell?_alloc_new]
    simp only [List.getElem?_toArray, List.getElem?_map, h, Option.map_some]
  have hW0 : w.alloc (.cells #[.string ⟨#[]⟩, .string ⟨#[45]⟩, .string ⟨#[45, 48]⟩, .string ⟨#[48, 48, 55]⟩, .string ⟨#[43, 53]⟩, .string ⟨#[49, 32, 50]⟩, .string ⟨#[48, 120, 49]⟩, .string ⟨#[49, 46, 53]⟩, .string ⟨#[45, 45, 49]⟩, .string ⟨#[49, 45]⟩, .string ⟨#[32, 49]⟩, .string ⟨#[48, 48]⟩, .string ⟨#[45, 48, 49]⟩, .string ⟨#[49, 195, 169]⟩] 9) = w0 := hw0
  clear hw0
  go_enter Tryd.func3, Tryd.ntmps3
  go_wp2_with fail
  go_loopg [18] 14 (fun G iv wr => ∃ i : Nat, i + G = 14 ∧ iv = .int .i64 (i : Int) ∧ Hid (Below w0.heap.size w0 wr))
  case atStart => exact ⟨0, rfl, rfl, Below.refl _ _⟩
  case round =>
    obtain ⟨i, hig, rfl, HB⟩ := hrel
    cases gk with
    | succ g =>
      have hi : (i : Int) < 14 := by omega
      have hi0 : (0 : Int) ≤ (i : Int) := by omega
      obtain ⟨l, hl⟩ : ∃ l, badL[i]? = some l := ⟨badL[i]'(by show i < 14; omega), List.getElem?_eq_getElem (by show i < 14; omega)⟩
      have hpl := bad_all l (List.mem_of_getElem? hl)
      have HPL : Hid (parseV l = (0, 11)) := hpl.1
      have HLL : Hid (l.length ≤ 10) := hpl.2
      have hcell : wr.cell? ⟨w.heap.size, i, none⟩ = some (.string ⟨l.toArray⟩) := by
        have h := HC0.out i l hl
        exact (HB.out.cell (p := ⟨w.heap.size, i, none⟩) (block_lt_of_cell h)).trans h
      have hig2 : i + 1 + g = 14 := by omega
      have t1 : IntKind.i64.wrap ((i : Int) + 1) = ((i + 1 : Nat) : Int) := by
        have h := IntWalk.i64_in ((i : Int) + 1) (by omega)
        rw [h]; omega
      obtain ⟨z, hz⟩ : ∃ z : Int, z = 0 := ⟨_, rfl⟩
      rw [← hz] at HPL
      have hzn : zneg z = false := by rw [hz]; rfl
      have hzl : (dig z.natAbs).length = 0 := by rw [hz]; exact dig_zlen
      clear hl hpl hz
      go_wp2_with fail
      refine (parse_at _ l z 11 HPL.out (Nat.le_trans HLL.out (by omega))).mono ?_
      rintro e w1 ⟨A1, c1, rfl, hc1, h1, hb1⟩
      rw [hzn, hzl]
      have HB1 := Lib.hid (HB.out.trans (hb1.mono HB.out.size))
      have HB2 : Hid (Below w0.heap.size w0 (w1.alloc (.cells #[.bool false, .slice A1 0 c1] 25))) := HB1.out.alloc HB1.out.size _
      clear h1 hb1 hzn hzl hc1
      go_wp2_with fail
      go_roundg g
      case measure => omega
      case rel => exact ⟨i + 1, hig2, rfl, HB2⟩
    | zero =>
      obtain rfl : i = 14 := by omega
      go_wp2_with fail
      have HB1 := Lib.hid (HB0.out.trans (HB.out.mono HB0.out.size))
      clear HB hW0 HC0 HB0
      obtain ⟨R, hR⟩ : ∃ R : List UInt8, List.replicate 600 49 = R := ⟨_, rfl⟩
      have HR := Lib.hid hR
      obtain ⟨z1, hz1⟩ : ∃ z, zv false (dnum R) = z := ⟨_, rfl⟩
      have hRl : R.length = 600 := by rw [← hR]; exact List.length_replicate
      have P1 : Hid (parseV R = (z1, 0)) := by show _ = _; rw [← hz1, ← hR]; kernel_rfl
      have L1 : Hid ((dig z1.natAbs).length ≤ 1000) := by
        show _ ≤ _
        rw [← hz1, zv_natAbs]
        exact Nat.le_trans (dig_len10 (dnum_lt 600 R hRl (by rw [← hR]; kernel_rfl))) (by omega)
      obtain ⟨z0, hz0⟩ : ∃ z : Int, z = 0 := ⟨_, rfl⟩
      obtain ⟨Q1, hQ1⟩ : ∃ Q, R ++ [49] = Q := ⟨_, rfl⟩
      obtain ⟨Q2, hQ2⟩ : ∃ Q, [45] ++ R = Q := ⟨_, rfl⟩
      obtain ⟨Q3, hQ3⟩ : ∃ Q, Q2 ++ [120] = Q := ⟨_, rfl⟩
      have P2 : Hid (parseV Q1 = (z0, 3)) := by show _ = _; rw [hz0, ← hQ1, ← hR]; kernel_rfl
      have P3 : Hid (parseV Q3 = (z0, 11)) := by show _ = _; rw [hz0, ← hQ3, ← hQ2, ← hR]; kernel_rfl
      have hQ1l : Q1.length = 601 := by rw [← hQ1, List.length_append, hRl]; rfl
      have hQ2l : Q2.length = 601 := by rw [← hQ2, List.length_append, hRl]; rfl
      have hQ3l : Q3.length = 602 := by rw [← hQ3, List.length_append, hQ2l]; rfl
      have e1 := cat_eq hQ1
      have e2 := cat_eq hQ2
      have e3 := cat_eq hQ3
      obtain ⟨X18, hX18⟩ : ∃ X : List UInt8, List.replicate 18 48 = X := ⟨_, rfl⟩
      obtain ⟨X17, hX17⟩ : ∃ X : List UInt8, List.replicate 17 48 = X := ⟨_, rfl⟩
      obtain ⟨X36, hX36⟩ : ∃ X : List UInt8, List.replicate 36 48 = X := ⟨_, rfl⟩
      obtain ⟨N17, hN17⟩ : ∃ X : List UInt8, List.replicate 17 57 = X := ⟨_, rfl⟩
      obtain ⟨X54, hX54⟩ : ∃ X : List UInt8, List.replicate 54 48 = X := ⟨_, rfl⟩
      obtain ⟨S0, hS0⟩ : ∃ S, [49] ++ X18 = S := ⟨_, rfl⟩
      obtain ⟨S1, hS1⟩ : ∃ S, [49] ++ X17 = S := ⟨_, rfl⟩
      obtain ⟨T2, hT2⟩ : ∃ S, [45, 53] ++ X36 = S := ⟨_, rfl⟩
      obtain ⟨S2, hS2⟩ : ∃ S, T2 ++ [55] = S := ⟨_, rfl⟩
      obtain ⟨S3, hS3⟩ : ∃ S, [57] ++ N17 = S := ⟨_, rfl⟩
      obtain ⟨S6, hS6⟩ : ∃ S, [49] ++ X54 = S := ⟨_, rfl⟩
      have f0 := cat_eq hS0
      have f1 := cat_eq hS1
      have f2 := cat_eq hT2
      have f3 := cat_eq hS2
      have f4 := cat_eq hS3
      have f6 := cat_eq hS6
      have G0 : ¬ (9223372036854775807 < 1 + X18.length) := by rw [← hX18, List.length_replicate]; decide
      have G1 : ¬ (9223372036854775807 < 1 + X17.length) := by rw [← hX17, List.length_replicate]; decide
      have G2 : ¬ (9223372036854775807 < 2 + X36.length) := by rw [← hX36, List.length_replicate]; decide
      have G3 : ¬ (9223372036854775807 < T2.length + 1) := by rw [← hT2, ← hX36, List.length_append, List.length_replicate]; decide
      have G4 : ¬ (9223372036854775807 < 1 + N17.length) := by rw [← hN17, List.length_replicate]; decide
      have G6 : ¬ (9223372036854775807 < 1 + X54.length) := by rw [← hX54, List.length_replicate]; decide
      have HALL : Hid (∀ l ∈ [S0, S1, S2, S3, [48], [45, 49], S6], ∃ z, parseV l = (z, 0) ∧ (dig z.natAbs).length ≤ 1000 ∧ l.length ≤ 1000) := by
        have e : [S0, S1, S2, S3, [48], [45, 49], S6] = goodL := by rw [← hS0, ← hS1, ← hS2, ← hT2, ← hS3, ← hS6, ← hX18, ← hX17, ← hX36, ← hN17, ← hX54]; rfl
        rw [e]
        exact good_all
      have R1 : ¬ (9223372036854775807 < R.length + 1) := by omega
      have R2 : ¬ (9223372036854775807 < 1 + R.length) := by omega
      have R3 : ¬ (9223372036854775807 < Q2.length + 1) := by omega
      have HRL := Lib.hid hRl
      have HQ1L := Lib.hid hQ1l
      have HQ3L := Lib.hid hQ3l
      have HX18 := Lib.hid hX18
      have HX17 := Lib.hid hX17
      have HX36 := Lib.hid hX36
      have HN17 := Lib.hid hN17
      have HX54 := Lib.hid hX54
      clear hR hz1 hz0 hRl hQ1 hQ2 hQ3 hQ1l hQ2l hQ3l hX18 hX17 hX36 hN17 hX54 hS0 hS1 hT2 hS2 hS3 hS6
      refine (rep_ch _ 49 600 R (by omega) HR.out).mono ?_
      rintro e w2 ⟨rfl, hb2⟩
      have HB2 := Lib.hid (HB1.out.trans (hb2.mono HB1.out.size))
      clear hb2 HB1
      go_wp2_with fail
      refine (parse_at _ R z1 0 P1.out (by rw [HRL.out]; omega)).mono ?_
      rintro e w3 ⟨A3, c3, rfl, hc3, h3, hb3⟩
      have HB3 := Lib.hid (HB2.out.trans (hb3.mono HB2.out.size))
      have HI3 : Hid (Inv w w3.heap.size z1 A3 c3 (w3.alloc (.cells #[.bool (zneg z1), .slice A3 (dig z1.natAbs).length c3] 25))) := ⟨HB3.out.alloc HB3.out.size _, C2.base _ _ _ _, h3.alloc _, (HTAB.out.below HB3.out).alloc _⟩
      clear hb3 h3 HB2 HB3
      go_wp2_with fail
      refine (parse_at _ Q1 z0 3 P2.out (by rw [HQ1L.out]; omega)).mono ?_
      rintro e w4 ⟨A4, c4, rfl, hc4, h4, hb4⟩
      have HI4 := Lib.hid ((HI3.out.step hb4).alloc (.cells #[.bool (zneg z0), .slice A4 (dig z0.natAbs).length c4] 25))
      clear hb4 h4 HI3
      go_wp2_with fail
      refine (parse_at _ Q3 z0 11 P3.out (by rw [HQ3L.out]; omega)).mono ?_
      rintro e w5 ⟨A5, c5, rfl, hc5, h5, hb5⟩
      have HI5 := Lib.hid ((HI4.out.step hb5).alloc (.cells #[.bool (zneg z0), .slice A5 (dig z0.natAbs).length c5] 25))
      clear hb5 h5 HI4
      go_wp2_with fail
      refine (rep_ch _ 48 18 X18 (by omega) HX18.out).mono ?_
      rintro e w6 ⟨rfl, hb6⟩
      have HI6 := Lib.hid (HI5.out.step hb6)
      clear hb6 HI5
      go_wp2_with fail
      refine (rep_ch _ 48 17 X17 (by omega) HX17.out).mono ?_
      rintro e w7 ⟨rfl, hb7⟩
      have HI7 := Lib.hid (HI6.out.step hb7)
      clear hb7 HI6
      go_wp2_with fail
      refine (rep_ch _ 48 36 X36 (by omega) HX36.out).mono ?_
      rintro e w8 ⟨rfl, hb8⟩
      have HI8 := Lib.hid (HI7.out.step hb8)
      clear hb8 HI7
      go_wp2_with fail
      refine (rep_ch _ 57 17 N17 (by omega) HN17.out).mono ?_
      rintro e w9 ⟨rfl, hb9⟩
      have HI9 := Lib.hid (HI8.out.step hb9)
      clear hb9 HI8
      go_wp2_with fail
      refine (rep_ch _ 48 54 X54 (by omega) HX54.out).mono ?_
      rintro e wa ⟨rfl, hba⟩
      have HIa := Lib.hid (HI9.out.step hba)
      clear hba HI9
      obtain ⟨wb, hwb⟩ : ∃ wb, wa.alloc (.cells #[.string ⟨S0.toArray⟩, .string ⟨S1.toArray⟩, .string ⟨S2.toArray⟩, .string ⟨S3.toArray⟩, .string ⟨#[48]⟩, .string ⟨#[45, 49]⟩, .string ⟨S6.toArray⟩] 9) = wb := ⟨_, rfl⟩
      have HIb : Hid (Inv w w3.heap.size z1 A3 c3 wb) := by rw [← hwb]; exact HIa.out.alloc _
      have HCb : Hid (∀ (i : Nat) (l : List UInt8), [S0, S1, S2, S3, [48], [45, 49], S6][i]? = some l → wb.cell? ⟨wa.heap.size, i, none⟩ = some (.string ⟨l.toArray⟩)) := by
        intro i l h
        rw [← hwb, World.cell?_alloc_new]
        have e : (#[.string ⟨S0.toArray⟩, .string ⟨S1.toArray⟩, .string ⟨S2.toArray⟩, .string ⟨S3.toArray⟩, .string ⟨#[48]⟩, .string ⟨#[45, 49]⟩, .string ⟨S6.toArray⟩] : Array Value) = ([S0, S1, S2, S3, [48], [45, 49], S6].map fun l => Value.string ⟨l.toArray⟩).toArray := rfl
        rw [e]
        simp only [List.getElem?_toArray, List.getElem?_map, h, Option.map_some]
      obtain ⟨GL, hGL⟩ : ∃ GL, [S0, S1, S2, S3, [48], [45, 49], S6] = GL := ⟨_, rfl⟩
      have hGLl : GL.length = 7 := by rw [← hGL]; rfl
      have HGLL := Lib.hid hGLl
      rw [hGL] at HCb HALL
      clear hGL hGLl HIa
      go_wp2_with fail
      clear e1 e2 e3 f0 f1 f2 f3 f4 f6 G0 G1 G2 G3 G4 G6 hwb
      go_loopg [72] 7 (fun G iv wr => ∃ i : Nat, i + G = 7 ∧ iv = .int .i64 (i : Int) ∧ Hid (Below wb.heap.size wb wr))
      case atStart => exact ⟨0, rfl, rfl, Below.refl _ _⟩
      case round =>
        obtain ⟨i, hig, rfl, HB⟩ := hrel
        cases gk with
        | succ g =>
          have hi : (i : Int) < 7 := by omega
          have hi0 : (0 : Int) ≤ (i : Int) := by omega
          obtain ⟨l, hl⟩ : ∃ l, GL[i]? = some l := ⟨GL[i]'(by rw [HGLL.out]; omega), List.getElem?_eq_getElem (by rw [HGLL.out]; omega)⟩
          obtain ⟨z, hpl⟩ := HALL.out l (List.mem_of_getElem? hl)
          have HPL : Hid (parseV l = (z, 0)) := hpl.1
          have HZL : Hid ((dig z.natAbs).length ≤ 1000) := hpl.2.1
          have HLL : Hid (l.length ≤ 1000) := hpl.2.2
          have hcell : wr.cell? ⟨wa.heap.size, i, none⟩ = some (.string ⟨l.toArray⟩) := by
            have h := HCb.out i l hl
            exact (HB.out.cell (p := ⟨wa.heap.size, i, none⟩) (block_lt_of_cell h)).trans h
          have hig2 : i + 1 + g = 7 := by omega
          have t1 : IntKind.i64.wrap ((i : Int) + 1) = ((i + 1 : Nat) : Int) := by
            have h := IntWalk.i64_in ((i : Int) + 1) (by omega)
            rw [h]; omega
          clear hl hpl
          go_wp2_with fail
          refine (parse_at _ l z 0 HPL.out (Nat.le_trans HLL.out (by omega))).mono ?_
          rintro e w1 ⟨A1, c1, rfl, hc1, h1, hb1⟩
          have HB1 := Lib.hid (HB.out.trans (hb1.mono HB.out.size))
          have HB2 : Hid (Below wb.heap.size wb (w1.alloc (.cells #[.bool (zneg z), .slice A1 (dig z.natAbs).length c1] 25))) := HB1.out.alloc HB1.out.size _
          have HTX := Lib.hid (text_at (w1.alloc (.cells #[.bool (zneg z), .slice A1 (dig z.natAbs).length c1] 25)) (zneg z) A1 c1 (dig z.natAbs) z l (h1.alloc _) (zv_dig z) (text_parse HPL.out) HZL.out hc1 (HIb.out.tab.below HB2.out))
          clear h1 hb1 hc1
          go_wp2_with fail
          refine HTX.out.mono ?_
          rintro e w2 ⟨rfl, hb2⟩
          have HB3 := Lib.hid (HB2.out.trans (hb2.mono HB2.out.size))
          clear hb2
          go_wp2_with fail
          go_roundg g
          case measure => omega
          case rel => exact ⟨i + 1, hig2, rfl, HB3⟩
        | zero =>
          obtain rfl : i = 7 := by omega
          have HIc := Lib.hid (HIb.out.step HB.out)
          have k0 := HIc.out.k.1
          have k1 := HIc.out.k.2
          clear HB HCb HALL HGLL HIb
          go_wp2_with fail
          refine (text_at _ (zneg z1) A3 c3 (dig z1.natAbs) z1 R HIc.out.num (zv_dig z1) (text_parse P1.out) L1.out hc3 HIc.out.tab).mono ?_
          rintro e wd ⟨rfl, hbd⟩
          have HId := Lib.hid (HIc.out.step hbd)
          clear hbd k0 k1 HIc
          go_wp2_with fail
          refine (text_at _ true (some ⟨wd.heap.size, 0, none⟩) 2 [0, 0] 0 [48] (Num.lit wd [0, 0] (Digs.cons (by rw [B64_eq]; decide) (Digs.cons (by rw [B64_eq]; decide) Digs.nil))) rfl rfl (by simp) (by simp) (HId.out.tab.alloc _)).mono ?_
          rintro e we ⟨rfl, hbe⟩
          have HIe := Lib.hid ((HId.out.alloc _).step hbe)
          clear hbe HId
          go_wp2_with fail
          refine (awake_any _ HIe.out.tab).mono ?_
          rintro e wf ⟨rfl, hbf⟩
          have HIf := Lib.hid (HIe.out.step hbf)
          clear hbf
          go_wp2_with fail
          go_ret
          exact ⟨rfl, HIf.out.below⟩
end Go.Proofs.YtginajegbknfhaaDoor.D
