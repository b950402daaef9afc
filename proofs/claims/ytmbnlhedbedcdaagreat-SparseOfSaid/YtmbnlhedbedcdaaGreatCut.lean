/- Calls of limbs that only read. -/
import Derived.Test.YtmbnlhedbedcdaaGreatMem
namespace Go.Proofs.YtmbnlhedbedcdaaGreat
open Go.RowKit

set_option maxHeartbeats 400000 in
theorem order_t (w : World) : Calls Tryz.prog 158 #[.bool true] w fun e w' => e = .returned (.int .i64 (-1)) ∧ w = w' := by
  go_enter Tryz.func158, Tryz.ntmps158
  go_wp2
  go_ret
  exact ⟨rfl, rfl⟩
set_option maxHeartbeats 400000 in
theorem order_f (w : World) : Calls Tryz.prog 158 #[.bool false] w fun e w' => e = .returned (.int .i64 1) ∧ w = w' := by
  go_enter Tryz.func158, Tryz.ntmps158
  go_wp2
  go_ret
  exact ⟨rfl, rfl⟩

set_option maxHeartbeats 400000 in
theorem cut_any (w : World) (A : Option Addr) (c : Nat) (xs : List Nat) (h : Num w A xs) (hn : xs.length ≤ 1099511627776) (hc : xs.length ≤ c) :
    Calls Tryz.prog 155 #[.slice A xs.length c] w (RetV w (val xs)) := by
  have hd := h.1
  have HX := Lib.hid h
  clear h
  go_enter Tryz.func155, Tryz.ntmps155
  go_wp2
  go_loop [3] (fun n => ∃ k : Nat, k ≤ xs.length ∧ n = .int .i64 k ∧ Hid (val (xs.take k) = val xs)) (fun n => (intOf n).toNat)
  case atStart => exact ⟨xs.length, Nat.le_refl _, rfl, by rw [List.take_length]; exact rfl⟩
  case round =>
    obtain ⟨k, hk, rfl, hv⟩ := hrel
    by_cases h0 : k = 0
    · subst h0
      go_wp2
      go_ret
      have h1 := dig_take_of hd hk hv.out (.inl rfl)
      rw [List.take_zero] at h1
      refine ⟨none, 0, ?_, by rw [h1]; simp, by rw [h1]; exact Num.nil _ _, rfl⟩
      rw [h1]; rfl
    · obtain ⟨b, off, rfl, hb, hcell⟩ := HX.out.at_ (by omega)
      have hck := hcell (k - 1) (by omega)
      clear hcell
      by_cases hz : dg xs (k - 1) = 0
      · have hz' : (((dg xs (k - 1) : Nat) : Int) == 0) = true := by rw [hz]; rfl
        have HZ := Lib.hid hz
        clear hz
        go_wp2
        go_round
        case rel => exact ⟨k - 1, by omega, by congr 1; omega, (val_take_pred h0 HZ.out).trans hv.out⟩
        case measure => simp [intOf]; omega
      · have hz' : (((dg xs (k - 1) : Nat) : Int) == 0) = false := by
          rw [beq_eq_false_iff_ne]; omega
        go_wp2
        go_ret
        have h1 := dig_take_of hd hk hv.out (.inr hz)
        have h2 : (dig (val xs)).length = k := by rw [h1, List.length_take]; omega
        refine ⟨some ⟨b, off, none⟩, c, ?_, by omega, by rw [h1]; exact HX.out.take k, rfl⟩
        rw [h2]; rfl

end Go.Proofs.YtmbnlhedbedcdaaGreat
