/- Long division, whole. -/
import Derived.Test.YtbbncggaaibheaaGreatDoorDivC
namespace Go.Proofs.YtbbncggaaibheaaGreatDoor
open Go.RowKit

/-- cut hands back a view of what it was handed, unless nothing is left. -/
def RetC (w : World) (A : Option Addr) (c n : Nat) (e : Ending) (w' : World) : Prop :=
  ∃ A' c', e = .returned (.slice A' (dig n).length c') ∧ (dig n).length ≤ c' ∧ Num w A' (dig n) ∧ w = w' ∧ (0 < (dig n).length → A' = A ∧ c' = c)

set_option maxHeartbeats 400000 in
theorem cut_at (w : World) (A : Option Addr) (c : Nat) (xs : List Nat) (h : Num w A xs) (hn : xs.length ≤ 1099511627776) (hc : xs.length ≤ c) :
    Calls Tryz.prog 120 #[.slice A xs.length c] w (RetC w A c (val xs)) := by
  have hd := h.1
  have HX := Lib.hid h
  clear h
  go_enter Tryz.func120, Tryz.ntmps120
  go_wp2
  go_loop [3] (fun n => ∃ k : Nat, k ≤ xs.length ∧ n = .int .i64 k ∧ Hid (val (xs.take k) = val xs)) (fun n => (intOf n).toNat)
  case atStart => exact ⟨xs.length, Nat.le_refl _, rfl, by rw [List.take_length]; exact rfl⟩
  case round =>
    obtain ⟨k, hk, rfl, hv⟩ := hrel
    by_cases h0 : k = 0
    · subst h0
      go_wp2
      go_ret
      have h1 := dig_take_of hd hk hv.out (.inl rfl)
      rw [List.take_zero] at h1
      refine ⟨none, 0, ?_, by rw [h1]; simp, by rw [h1]; exact Num.nil _ _, rfl, by rw [h1]; intro h; simp at h⟩
      rw [h1]; rfl
    · obtain ⟨b, off, rfl, hb, hcell⟩ := HX.out.at_ (by omega)
      have hck := hcell (k - 1) (by omega)
      clear hcell
      by_cases hz : dg xs (k - 1) = 0
      · have hz' : (((dg xs (k - 1) : Nat) : Int) == 0) = true := by rw [hz]; rfl
        have HZ := Lib.hid hz
        clear hz
        go_wp2
        go_round
        case rel => exact ⟨k - 1, by omega, by congr 1; omega, (val_take_pred h0 HZ.out).trans hv.out⟩
        case measure => simp [intOf]; omega
      · have hz' : (((dg xs (k - 1) : Nat) : Int) == 0) = false := by
          rw [beq_eq_false_iff_ne]; omega
        go_wp2
        go_ret
        have h1 := dig_take_of hd hk hv.out (.inr hz)
        have h2 : (dig (val xs)).length = k := by rw [h1, List.length_take]; omega
        refine ⟨some ⟨b, off, none⟩, c, ?_, by omega, by rw [h1]; exact HX.out.take k, rfl, fun _ => ⟨rfl, rfl⟩⟩
        rw [h2]; rfl

theorem mid_all {cs zs : List Nat} (h : zs.length = cs.length) : mid cs 0 zs = zs := by
  unfold mid
  rw [List.take_zero, List.nil_append, Nat.zero_add, List.drop_of_length_le (by omega), List.append_nil]

structure LongRel (w wr : World) (g0 g1 g2 n m : Nat) (Z0 Z1 : List Nat) (i : Value) : Prop where
  ex : ∃ (k : Nat) (qs cs : List Nat), k ≤ m ∧ i = .int .i64 k ∧ cs.length = m + n ∧ Digs cs ∧ qs.length = k ∧ Digs qs ∧ cs.take (m - k) = Z0.take (m - k) ∧
    val (Z0.drop (m - k)) = val qs * val Z1 + val (cs.drop (m - k)) ∧ val (cs.drop (m - k)) < val Z1 ∧ Blk wr g0 cs ∧ Blk wr g2 (List.replicate (m - k) 0 ++ qs)
  div : Blk wr g1 Z1
  below : Below w.heap.size w wr

theorem long_part {cs Z1 : List Nat} {m n k j : Nat} (hcs : Digs cs) (hcl : cs.length = m + n) (hZ : Digs Z1) (hZl : Z1.length = n) (hj : j + k + 1 = m) (hlt : val (cs.drop (m - k)) < val Z1) :
    val ((cs.drop j).take (Z1.length + 1)) = dg cs j + B64 * val (cs.drop (m - k)) ∧ val (cs.drop j) = dg cs j + B64 * val (cs.drop (m - k)) := by
  have h1 : val (cs.drop j) = dg cs j + B64 * val (cs.drop (m - k)) := by rw [drop_pred (by omega), val_cons, show j + 1 = m - k by omega]
  refine ⟨?_, h1⟩
  rw [← h1]
  have h2 := val_lt hZ
  have h3 := dg_lt hcs j
  have h4 : val (cs.drop j) < B64 ^ (Z1.length + 1) := by
    rw [h1, Nat.pow_succ]
    have h5 : B64 * (val (cs.drop (m - k)) + 1) ≤ B64 * B64 ^ Z1.length := Nat.mul_le_mul_left _ (by omega)
    rw [Nat.mul_add, Nat.mul_one] at h5
    rw [Nat.mul_comm (B64 ^ Z1.length)]
    omega
  exact val_take_of_le (Nat.le_refl _) h4

theorem long_step {w wr w1 : World} {g0 g1 g2 n m k j : Nat} {Z0 Z1 qs cs zs : List Nat} (hk : k < m) (hj : j + k + 1 = m) (hg02 : g0 ≠ g2) (hg12 : g1 ≠ g2) (hg01 : g0 ≠ g1) (hw0 : w.heap.size ≤ g0) (hw2 : w.heap.size ≤ g2) (hcl : cs.length = m + n) (hcs : Digs cs) (hql : qs.length = k) (hqd : Digs qs)
    (hZ1 : Digs Z1) (hZl : Z1.length = n) (hZ0l : Z0.length = m + n)
    (ht : cs.take (m - k) = Z0.take (m - k)) (hv : val (Z0.drop (m - k)) = val qs * val Z1 + val (cs.drop (m - k))) (hlt : val (cs.drop (m - k)) < val Z1) (hq : Blk wr g2 (List.replicate (m - k) 0 ++ qs))
    (hdiv : Blk wr g1 Z1) (hbw : Below w.heap.size w wr)
    (hzl : zs.length = Z1.length + 1) (hzd : Digs zs) (hz : val zs = val ((cs.drop j).take (Z1.length + 1)) % val Z1) (hblk : Blk w1 g0 (mid cs j zs)) (hown : wr.grownBy w1 (some g0)) :
    LongRel w (w1.setCell ⟨g2, j, none⟩ (.int .u64 ((val ((cs.drop j).take (Z1.length + 1)) / val Z1 : Nat) : Int))) g0 g1 g2 n m Z0 Z1 (.int .i64 ((k : Int) + 1)) := by
  obtain ⟨hp1, hp2⟩ := long_part hcs hcl hZ1 hZl hj hlt
  have hq1 : Blk w1 g2 (List.replicate (m - k) 0 ++ qs) := hq.of_heap (hown.block g2 hq.lt (by intro e; injection e with e; exact hg02 e.symm))
  have hd1 : Blk w1 g1 Z1 := hdiv.of_heap (hown.block g1 hdiv.lt (by intro e; injection e with e; exact hg01 e.symm))
  have hmm : m - (k + 1) = j := by omega
  have hD : 0 < val Z1 := by omega
  have hzs : val ((mid cs j zs).drop j) = val zs := by
    unfold mid
    have h1 : (cs.take j).length = j := by rw [List.length_take]; omega
    rw [List.drop_append, h1, List.drop_of_length_le (by omega), List.nil_append, Nat.sub_self, List.drop_zero, val_append]
    have h2 : val (cs.drop (j + zs.length)) = 0 := by
      have h3 := val_take_add (cs.drop j) zs.length
      rw [List.drop_drop, hzl, hp1, hp2] at h3
      rcases Nat.eq_zero_or_pos (val (cs.drop (j + (Z1.length + 1)))) with h4 | h4
      · rw [hzl]; exact h4
      · have : 0 < B64 ^ min (Z1.length + 1) (cs.drop j).length * val (cs.drop (j + (Z1.length + 1))) := Nat.mul_pos (pow_pos' _) h4
        omega
    rw [h2, Nat.mul_zero, Nat.add_zero]
  refine ⟨⟨k + 1, (val ((cs.drop j).take (Z1.length + 1)) / val Z1) :: qs, mid cs j zs, by omega, by simp, ?_, hcs.mid hzd j, by simp [hql], Digs.cons ?_ hqd, ?_, ?_, ?_, ?_, ?_⟩, ?_, ?_⟩
  · rw [mid_length (by omega), hcl]
  · rw [hp1, Nat.add_comm, Nat.mul_comm]
    exact div_digit_lt hlt (dg_lt hcs j)
  · rw [hmm]
    unfold mid
    rw [List.take_append_of_le_length (by rw [List.length_take]; omega), List.take_take, Nat.min_self]
    have h5 : (cs.take (m - k)).take j = (Z0.take (m - k)).take j := by rw [ht]
    rw [List.take_take, List.take_take, Nat.min_eq_left (by omega)] at h5
    exact h5
  · rw [hmm, hzs, hz, val_cons, drop_pred (xs := Z0) (by omega), val_cons, show j + 1 = m - k by omega, hv]
    have h6 : dg Z0 j = dg cs j := by
      have h7 : dg (Z0.take (m - k)) j = dg (cs.take (m - k)) j := by rw [ht]
      rwa [dg_take (by omega), dg_take (by omega)] at h7
    rw [h6, hp1]
    have h8 := Nat.div_add_mod' (dg cs j + B64 * val (cs.drop (m - k))) (val Z1)
    rw [Nat.mul_add, Nat.add_mul, Nat.mul_assoc]
    omega
  · rw [hmm, hzs, hz]
    exact Nat.mod_lt _ hD
  · exact hblk.far hg02 _
  · rw [hmm]
    have h := hq1.set_ j (val ((cs.drop j).take (Z1.length + 1)) / val Z1)
    have e := rep_set (n := m) (k := k) (q := val ((cs.drop j).take (Z1.length + 1)) / val Z1) (qs := qs) hk
    rw [show m - 1 - k = j by omega, hmm] at e
    rwa [e] at h
  · exact hd1.far hg12 _
  · exact (hbw.grown hown (by have := hbw.size; omega) (by intro i hi; injection hi with hi; omega)).setCell hw2 _

/-- A quotient and a rest, the rest in memory of the call's own. -/
def RetQR (w : World) (q r : Nat) (e : Ending) (w' : World) : Prop :=
  ∃ A c B d g zs, e = .returned (.tuple #[.slice A (dig q).length c, .slice B (dig r).length d]) ∧ (dig q).length ≤ c ∧ (dig r).length ≤ d ∧ Num w' A (dig q) ∧ Num w' B (dig r) ∧ Below w.heap.size w w' ∧
    w.heap.size ≤ g ∧ Blk w' g zs ∧ Digs zs ∧ (dig r).length ≤ zs.length ∧ zs.take (dig r).length = dig r ∧ (0 < (dig r).length → B = some ⟨g, 0, none⟩ ∧ d = zs.length)
end Go.Proofs.YtbbncggaaibheaaGreatDoor
