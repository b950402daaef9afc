/- isNumeral, walked. -/
import Derived.Test.YtginajegbknfhaaDoorDText
import Derived.Laws.RangeString
import Derived.Laws.RangeAny
import Derived.Lib.OthersKept
import Derived.Deep.LoopGhost
namespace Go.Proofs.YtginajegbknfhaaDoor.D
open Go.RowKit

/-- A decimal digit. -/
def isDig (c : UInt8) : Bool := 48 ≤ c.toNat && c.toNat ≤ 57
/-- Digits and nothing else, with no 0 ahead of another one, nor behind a sign. -/
def isNumB (l : List UInt8) (b : Bool) : Bool :=
  match l with
  | [] => false
  | x :: r => !(x == 48 && (b || !r.isEmpty)) && (x :: r).all isDig
theorem isNumB_nil (b : Bool) : isNumB [] b = false := rfl

set_option maxHeartbeats 4000000 in
theorem isnum_nil (w : World) (b : Bool) : Calls Tryd.prog 23 #[.string ⟨#[]⟩, .bool b] w (RetB w false) := by
  go_enter Tryd.func23, Tryd.ntmps23
  go_wp2_with fail
  go_ret
  exact ⟨rfl, Below.refl _ _⟩
theorem dig_snoc {l : List UInt8} {i : Nat} {y : UInt8} (h : ∀ j, j < i → ∃ c, l[j]? = some c ∧ isDig c = true) (hy : l[i]? = some y) (hd : isDig y = true) : Hid (∀ j, j < i + 1 → ∃ c, l[j]? = some c ∧ isDig c = true) := by
  intro j hj
  by_cases e : j < i
  · exact h j e
  · obtain rfl : j = i := by omega
    exact ⟨y, hy, hd⟩
theorem all_of {l : List UInt8} {i : Nat} (h : ∀ j, j < i → ∃ c, l[j]? = some c ∧ isDig c = true) (hi : i = l.length) : l.all isDig = true := by
  rw [List.all_eq_true]
  intro x hx
  obtain ⟨j, hj, rfl⟩ := List.getElem_of_mem hx
  obtain ⟨c, e, hc⟩ := h j (by omega)
  rw [List.getElem?_eq_getElem hj] at e
  injection e with e
  rw [e]; exact hc
theorem not_all {l : List UInt8} {i : Nat} {y : UInt8} (hy : l[i]? = some y) (hd : isDig y = false) : l.all isDig = false := by
  rw [List.all_eq_false]
  exact ⟨y, List.mem_of_getElem? hy, by rw [hd]; decide⟩
set_option maxHeartbeats 4000000 in
theorem isnum_lead (w : World) (r : List UInt8) : Calls Tryd.prog 23 #[.string ⟨(48 :: r).toArray⟩, .bool true] w (RetB w false) := by
  have hx0 (h) : ((⟨((48 : UInt8) :: r).toArray⟩ : ByteArray)[0]'h) = 48 := rfl
  go_enter Tryd.func23, Tryd.ntmps23
  go_wp2_with fail
  go_ret
  exact ⟨rfl, Below.refl _ _⟩
set_option maxHeartbeats 4000000 in
theorem isnum_zeros (w : World) (y : UInt8) (r : List UInt8) : Calls Tryd.prog 23 #[.string ⟨(48 :: y :: r).toArray⟩, .bool false] w (RetB w false) := by
  have hx0 (h) : ((⟨((48 : UInt8) :: y :: r).toArray⟩ : ByteArray)[0]'h) = 48 := rfl
  have hl1 : (1 : Int) < ((r.length + 1 + 1 : Nat) : Int) := by omega
  go_enter Tryd.func23, Tryd.ntmps23
  go_wp2_with fail
  go_ret
  exact ⟨rfl, Below.refl _ _⟩
set_option maxRecDepth 100000 in
set_option maxHeartbeats 4000000 in
theorem isnum_zero (w : World) (x : UInt8) (r : List UInt8) (hx : x = 48) (hr : r.length = 0) : Calls Tryd.prog 23 #[.string ⟨(x :: r).toArray⟩, .bool false] w (RetB w ((x :: r).all isDig)) := by
  obtain ⟨a, ha⟩ : ∃ a, (x :: r).all isDig = a := ⟨_, rfl⟩
  rw [ha]
  have HFIN : Hid ((x :: r).all isDig = true → a = true) := fun h => ha.symm.trans h
  have HNO : Hid ((x :: r).all isDig = false → a = false) := fun h => ha.symm.trans h
  have hx0 (h) : ((⟨(x :: r).toArray⟩ : ByteArray)[0]'h) = x := rfl
  have hx48 : ((x.toNat : Int) == 48) = true := by rw [hx]; rfl
  have hlen1 : ¬ (1 : Int) < ((r.length + 1 : Nat) : Int) := by omega
  have hlen2 : ¬ (1 : Int) < (r.length : Int) + 1 := by omega
  clear ha hx hr
  go_enter Tryd.func23, Tryd.ntmps23
  go_wp2_with fail
  go_loopg [] (x :: r).length (fun g wx => ∃ i : Nat, i + g = (x :: r).length ∧ wx = w.iter ⟨(x :: r).toArray⟩ i ∧ Hid (∀ j, j < i → ∃ c, (x :: r)[j]? = some c ∧ isDig c = true))
  case atStart => exact ⟨0, by omega, rfl, fun j hj => by omega⟩
  case round =>
    obtain ⟨i, hig, rfl, HD⟩ := hrel
    cases gk with
    | zero =>
      have hnx := run_next_end (P := Tryd.prog) w ⟨(x :: r).toArray⟩ i (h := by show ¬ i < (x :: r).toArray.size; rw [List.size_toArray]; omega)
      go_wp2_with fail
      go_ret
      refine ⟨?_, (Below.refl _ _).alloc (Nat.le_refl _) _⟩
      rw [HFIN.out (all_of HD.out (by omega))]; rfl
    | succ g =>
      have hi : i < (⟨(x :: r).toArray⟩ : ByteArray).size := by show i < (x :: r).toArray.size; rw [List.size_toArray]; omega
      obtain ⟨y, hy⟩ : ∃ y : UInt8, (⟨(x :: r).toArray⟩ : ByteArray)[i]'hi = y := ⟨_, rfl⟩
      have hyl : (x :: r)[i]? = some y := by rw [← hy]; exact Lib.data_getElem? _ i hi
      have HY := Lib.hid hyl
      by_cases h128 : y.toNat < 128
      · have hnx := fun ty => run_next_ascii (P := Tryd.prog) w ⟨(x :: r).toArray⟩ i ty hi (by rw [hy]; exact h128)
        rw [hy] at hnx
        obtain ⟨Y, hY⟩ : ∃ Y, y.toNat = Y := ⟨_, rfl⟩
        have HYY := Lib.hid hY
        rw [hY] at hnx h128
        clear hyl hy hi hY
        by_cases h1 : Y < 48
        · have d1 : (Y : Int) < 48 := by omega
          have HBAD : Hid (isDig y = false) := by show _ = _; unfold isDig; rw [HYY.out]; simp; omega
          go_wp2_with fail
          go_ret
          exact ⟨by rw [HNO.out (not_all HY.out HBAD.out)]; rfl, (Below.refl _ _).alloc (Nat.le_refl _) _⟩
        · have d1 : ¬ (Y : Int) < 48 := by omega
          by_cases h2 : Y ≤ 57
          · have d2 : ¬ (57 : Int) < (Y : Int) := by omega
            have HOK : Hid (isDig y = true) := by show _ = _; unfold isDig; rw [HYY.out]; simp; omega
            go_wp2_with fail
            go_roundg g
            case measure => omega
            case rel => exact ⟨i + 1, by omega, rfl, dig_snoc HD.out HY.out HOK.out⟩
          · have d2 : (57 : Int) < (Y : Int) := by omega
            have HBAD : Hid (isDig y = false) := by show _ = _; unfold isDig; rw [HYY.out]; simp; omega
            go_wp2_with fail
            go_ret
            exact ⟨by rw [HNO.out (not_all HY.out HBAD.out)]; rfl, (Below.refl _ _).alloc (Nat.le_refl _) _⟩
      · have hnx : ∀ ty, (Instr.next (.pointer (some ⟨w.heap.size, 0, none⟩)) true ty).run Tryd.prog (w.iter ⟨(x :: r).toArray⟩ i) = _ := fun ty => run_next_any w ⟨(x :: r).toArray⟩ i ty hi
        have hr := (decode_high ⟨(x :: r).toArray⟩ i hi (by rw [hy]; omega)).1
        have HBAD : Hid (isDig y = false) := by show _ = _; unfold isDig; simp; omega
        obtain ⟨R, hR⟩ : ∃ R, (Utf8.decode ⟨(x :: r).toArray⟩ i).1 = R := ⟨_, rfl⟩
        obtain ⟨K, hK⟩ : ∃ K, i + (Utf8.decode ⟨(x :: r).toArray⟩ i).2 = K := ⟨_, rfl⟩
        rw [hR, hK] at hnx
        rw [hR] at hr
        have d1 : ¬ (R : Int) < 48 := by omega
        have d2 : (57 : Int) < (R : Int) := by omega
        clear hyl hy hi hR hK hr
        go_wp2_with fail
        go_ret
        exact ⟨by rw [HNO.out (not_all HY.out HBAD.out)]; rfl, (Below.refl _ _).alloc (Nat.le_refl _) _⟩

set_option maxRecDepth 100000 in
set_option maxHeartbeats 4000000 in
theorem isnum_go (w : World) (x : UInt8) (r : List UInt8) (b : Bool) (hx : x ≠ 48) : Calls Tryd.prog 23 #[.string ⟨(x :: r).toArray⟩, .bool b] w (RetB w ((x :: r).all isDig)) := by
  obtain ⟨a, ha⟩ : ∃ a, (x :: r).all isDig = a := ⟨_, rfl⟩
  rw [ha]
  have HFIN : Hid ((x :: r).all isDig = true → a = true) := fun h => ha.symm.trans h
  have HNO : Hid ((x :: r).all isDig = false → a = false) := fun h => ha.symm.trans h
  have hx0 (h) : ((⟨(x :: r).toArray⟩ : ByteArray)[0]'h) = x := rfl
  have hx48 : ((x.toNat : Int) == 48) = false := by
    rw [beq_eq_false_iff_ne]
    intro e
    apply hx
    apply UInt8.toNat_inj.1
    show x.toNat = 48
    omega
  clear ha hx
  go_enter Tryd.func23, Tryd.ntmps23
  go_wp2_with fail
  go_loopg [] (x :: r).length (fun g wx => ∃ i : Nat, i + g = (x :: r).length ∧ wx = w.iter ⟨(x :: r).toArray⟩ i ∧ Hid (∀ j, j < i → ∃ c, (x :: r)[j]? = some c ∧ isDig c = true))
  case atStart => exact ⟨0, by omega, rfl, fun j hj => by omega⟩
  case round =>
    obtain ⟨i, hig, rfl, HD⟩ := hrel
    cases gk with
    | zero =>
      have hnx := run_next_end (P := Tryd.prog) w ⟨(x :: r).toArray⟩ i (h := by show ¬ i < (x :: r).toArray.size; rw [List.size_toArray]; omega)
      go_wp2_with fail
      go_ret
      refine ⟨?_, (Below.refl _ _).alloc (Nat.le_refl _) _⟩
      rw [HFIN.out (all_of HD.out (by omega))]; rfl
    | succ g =>
      have hi : i < (⟨(x :: r).toArray⟩ : ByteArray).size := by show i < (x :: r).toArray.size; rw [List.size_toArray]; omega
      obtain ⟨y, hy⟩ : ∃ y : UInt8, (⟨(x :: r).toArray⟩ : ByteArray)[i]'hi = y := ⟨_, rfl⟩
      have hyl : (x :: r)[i]? = some y := by rw [← hy]; exact Lib.data_getElem? _ i hi
      have HY := Lib.hid hyl
      by_cases h128 : y.toNat < 128
      · have hnx := fun ty => run_next_ascii (P := Tryd.prog) w ⟨(x :: r).toArray⟩ i ty hi (by rw [hy]; exact h128)
        rw [hy] at hnx
        obtain ⟨Y, hY⟩ : ∃ Y, y.toNat = Y := ⟨_, rfl⟩
        have HYY := Lib.hid hY
        rw [hY] at hnx h128
        clear hyl hy hi hY
        by_cases h1 : Y < 48
        · have d1 : (Y : Int) < 48 := by omega
          have HBAD : Hid (isDig y = false) := by show _ = _; unfold isDig; rw [HYY.out]; simp; omega
          go_wp2_with fail
          go_ret
          exact ⟨by rw [HNO.out (not_all HY.out HBAD.out)]; rfl, (Below.refl _ _).alloc (Nat.le_refl _) _⟩
        · have d1 : ¬ (Y : Int) < 48 := by omega
          by_cases h2 : Y ≤ 57
          · have d2 : ¬ (57 : Int) < (Y : Int) := by omega
            have HOK : Hid (isDig y = true) := by show _ = _; unfold isDig; rw [HYY.out]; simp; omega
            go_wp2_with fail
            go_roundg g
            case measure => omega
            case rel => exact ⟨i + 1, by omega, rfl, dig_snoc HD.out HY.out HOK.out⟩
          · have d2 : (57 : Int) < (Y : Int) := by omega
            have HBAD : Hid (isDig y = false) := by show _ = _; unfold isDig; rw [HYY.out]; simp; omega
            go_wp2_with fail
            go_ret
            exact ⟨by rw [HNO.out (not_all HY.out HBAD.out)]; rfl, (Below.refl _ _).alloc (Nat.le_refl _) _⟩
      · have hnx : ∀ ty, (Instr.next (.pointer (some ⟨w.heap.size, 0, none⟩)) true ty).run Tryd.prog (w.iter ⟨(x :: r).toArray⟩ i) = _ := fun ty => run_next_any w ⟨(x :: r).toArray⟩ i ty hi
        have hr := (decode_high ⟨(x :: r).toArray⟩ i hi (by rw [hy]; omega)).1
        have HBAD : Hid (isDig y = false) := by show _ = _; unfold isDig; simp; omega
        obtain ⟨R, hR⟩ : ∃ R, (Utf8.decode ⟨(x :: r).toArray⟩ i).1 = R := ⟨_, rfl⟩
        obtain ⟨K, hK⟩ : ∃ K, i + (Utf8.decode ⟨(x :: r).toArray⟩ i).2 = K := ⟨_, rfl⟩
        rw [hR, hK] at hnx
        rw [hR] at hr
        have d1 : ¬ (R : Int) < 48 := by omega
        have d2 : (57 : Int) < (R : Int) := by omega
        clear hyl hy hi hR hK hr
        go_wp2_with fail
        go_ret
        exact ⟨by rw [HNO.out (not_all HY.out HBAD.out)]; rfl, (Below.refl _ _).alloc (Nat.le_refl _) _⟩

theorem isnum_any (w : World) (l : List UInt8) (b : Bool) : Calls Tryd.prog 23 #[.string ⟨l.toArray⟩, .bool b] w (RetB w (isNumB l b)) := by
  match l with
  | [] => exact isnum_nil w b
  | x :: r =>
    by_cases hx : x = 48
    · subst hx
      cases b with
      | true => exact isnum_lead w r
      | false =>
        match r with
        | [] => 
          have e : isNumB [48] false = ([48] : List UInt8).all isDig := by unfold isNumB; rfl
          rw [e]
          exact isnum_zero w 48 [] rfl rfl
        | y :: r => exact isnum_zeros w y r
    · have e : isNumB (x :: r) b = (x :: r).all isDig := by
        unfold isNumB
        have : (x == 48) = false := by rw [beq_eq_false_iff_ne]; exact hx
        simp [this]
      rw [e]
      exact isnum_go w x r b hx
end Go.Proofs.YtginajegbknfhaaDoor.D
