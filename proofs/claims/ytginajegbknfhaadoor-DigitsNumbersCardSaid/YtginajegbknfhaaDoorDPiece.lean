/- appendPiece. -/
import Derived.Test.YtginajegbknfhaaDoorDPad
import Derived.Deep.CutBlock
import Derived.Deep.DeepCutAuto
namespace Go.Proofs.YtginajegbknfhaaDoor.D
open Go.RowKit

theorem repeat_nought (c : Nat) : Lib.repeatL [48] c = List.replicate c 48 := by
  induction c with
  | zero => rfl
  | succ c ih => rw [Lib.repeatL, ih, List.replicate_succ]; rfl
theorem rep_any (w : World) (c : Nat) (hc : c ≤ 1000000) : Calls Tryd.prog 7 #[.string ⟨#[48]⟩, .int .i64 (c : Int)] w (RetS w (List.replicate c 48)) := by
  have h := Tryd.strings_Repeat ⟨#[48]⟩ c w (by omega) (by show 1 * c ≤ _; omega)
  rw [show (⟨#[48]⟩ : ByteArray).data.toList = [48] from rfl, repeat_nought] at h
  exact h
theorem size_of (l : List UInt8) : (⟨l.toArray⟩ : ByteArray).size = l.length := by show l.toArray.size = _; simp
theorem pad_19 {s : Nat} (h0 : s ≠ 0) (hs : s < 10000000000000000000) : Lib.nDigits s ≤ 19 := by
  have h := Lib.numDigits_eq s (by omega) (by omega)
  rcases Nat.lt_or_ge 19 (Lib.nDigits s) with h1 | h1
  · exfalso
    obtain ⟨n, hn⟩ : ∃ n, Lib.nDigits s = n + 1 := ⟨Lib.nDigits s - 1, by omega⟩
    have h2 : ∀ (u k : Nat), k + 1 ≤ Lib.nDigits u → k ≠ 0 → 10 ^ k ≤ u := by
      intro u k
      induction k generalizing u with
      | zero => intro _ h; exact absurd rfl h
      | succ k ih =>
        intro hk _
        by_cases hu : u < 10
        · rw [Lib.nDigits_small hu] at hk; omega
        · rw [Lib.nDigits_big hu] at hk
          by_cases hk0 : k = 0
          · subst hk0; simp; omega
          · have := ih (u / 10) (by omega) hk0
            rw [Nat.pow_succ]; omega
    have h3 := h2 s 19 (by omega) (by omega)
    have e : (10 : Nat) ^ 19 = 10000000000000000000 := by decide
    rw [e] at h3
    omega
  · exact h1

set_option maxRecDepth 100000 in
set_option maxHeartbeats 4000000 in
theorem piece_any (w : World) (base : Nat) (v : Value) (l : List UInt8) (A : Option Addr) (c s : Nat) (hown : Own w base v l) (hbase : base ≤ w.heap.size) (ha : Num w A (dig s)) (hs : s < 10000000000000000000) (htab : Tab w) (hl : l.length ≤ 500000000) :
    Calls Tryd.prog 57 #[v, .slice A (dig s).length c] w (RetA w base v (l ++ pad 19 s)) := by
  by_cases h0 : s = 0
  · have hlp : ¬ (0 : Int) < ((dig s).length : Int) := by rw [h0]; simp [dig_zero]
    have HP : Hid (pad 19 s = List.replicate 19 48) := by show _ = _; rw [h0, pad_nought]
    have HR := Lib.hid (rep_any w 19 (by omega))
    have HOWN := Lib.hid hown
    clear h0 ha htab hown hs
    go_enter Tryd.func57, Tryd.ntmps57
    go_wp2_with fail
    refine HR.out.mono ?_
    rintro e w1 ⟨rfl, hb1⟩
    have HO1 := Lib.hid (HOWN.out.below hb1)
    have HF1 := Lib.hid (Fr.of_below hb1 v)
    have hs1 := hb1.size
    clear hb1
    go_upto_region 5 with ((at_builtin; refine wp_app rfl (.tmp 13) (.tmp 17) rfl base v l (List.replicate 19 48) rfl rfl HO1.out (by simp; omega) (by omega) ?_); intro v2 w2 ho2 hg2 hat2)
    have HO2 := Lib.hid ho2
    have HF2 := Lib.hid (HF1.out.trans (Fr.of_app hg2 hat2))
    have hs2 := hg2.size
    clear ho2 hg2 hat2
    go_wp2_with ((at_builtin; refine wp_app rfl (.tmp 19) (.tmp 20) rfl base v2 (l ++ List.replicate 19 48) [] rfl rfl HO2.out (by simp; omega) (by omega) ?_); intro v3 w3 ho3 hg3 hat3)
    have HO3 := Lib.hid ho3
    have HF3 := Lib.hid (HF2.out.trans (Fr.of_app hg3 hat3))
    clear ho3 hg3 hat3
    go_wp2_with fail
    go_ret
    refine ⟨v3, rfl, ?_, HF3.out⟩
    rw [HP.out]
    have h := HO3.out
    rw [List.append_nil] at h
    exact h
  · have hlp0 : 0 < (dig s).length := by
      rcases Nat.eq_zero_or_pos (dig s).length with h | h
      · exact absurd (dig_nil_iff.1 h) h0
      · exact h
    have hlp : (0 : Int) < ((dig s).length : Int) := by omega
    have hd1 : dig s = [s] := dig_one (Nat.pos_of_ne_zero h0) (by rw [B64_eq]; omega)
    have hnd := pad_19 h0 hs
    obtain ⟨b1, o1, rfl, hb1, hcell⟩ := ha.at_ hlp0
    have hx := hcell 0 hlp0
    rw [Nat.add_zero, show dg (dig s) 0 = s by rw [hd1]; rfl] at hx
    have HFM := Lib.hid (fmt_any w s (by omega) htab)
    obtain ⟨m, hm⟩ : ∃ m, Lib.decDigits s = m := ⟨_, rfl⟩
    have hml : m.length ≤ 19 := by rw [← hm, Lib.decDigits_length]; exact hnd
    have HP : Hid (pad 19 s = List.replicate (19 - m.length) 48 ++ m) := by
      show _ = _
      rw [pad_dec hnd, ← Lib.decDigits_length, hm]
    rw [hm] at HFM
    obtain ⟨S, hS⟩ : ∃ S : ByteArray, (⟨m.toArray⟩ : ByteArray) = S := ⟨_, rfl⟩
    have hSz : S.size = m.length := by rw [← hS, size_of]
    obtain ⟨k, hk⟩ : ∃ k, m.length = k := ⟨_, rfl⟩
    obtain ⟨r, hr⟩ : ∃ r, 19 - k = r := ⟨_, rfl⟩
    have HR := Lib.hid (fun W => rep_any W r (by omega))
    have hsz : ((S.size : Nat) : Int) = (k : Int) := by rw [hSz, hk]
    have hw1 : IntKind.i64.wrap (19 - (k : Int)) = (r : Int) := by
      have h := IntWalk.i64_in (19 - (k : Int)) (by omega)
      rw [h]; omega
    rw [hk, hr] at HP
    have HOWN := Lib.hid hown
    have HSS := Lib.hid hS
    have hrl : r ≤ 19 := by omega
    have hmk : m.length ≤ 19 := by omega
    have HMK := Lib.hid hmk
    clear hcell ha htab hown hs hd1 hnd hm hSz hk hr hml hmk h0 hlp0
    go_enter Tryd.func57, Tryd.ntmps57
    go_wp2_with fail
    refine HFM.out.mono ?_
    rintro e w0 ⟨rfl, hb0⟩
    have HO0 := Lib.hid (HOWN.out.below hb0)
    have HF0 := Lib.hid (Fr.of_below hb0 v)
    have hs0 := hb0.size
    clear hb0
    rw [hS]
    go_wp2_with fail
    refine (HR.out w0).mono ?_
    rintro e w1 ⟨rfl, hb1⟩
    have HO1 := Lib.hid (HO0.out.below hb1)
    have HF1 := Lib.hid (HF0.out.trans (Fr.of_below hb1 v))
    have hs1 := hb1.size
    clear hb1
    go_upto_region 5 with ((at_builtin; refine wp_app rfl (.tmp 13) (.tmp 17) rfl base v l (List.replicate r 48) rfl rfl HO1.out (by simp; omega) (by omega) ?_); intro v2 w2 ho2 hg2 hat2)
    have HO2 := Lib.hid ho2
    have HF2 := Lib.hid (HF1.out.trans (Fr.of_app hg2 hat2))
    have hs2 := hg2.size
    clear ho2 hg2 hat2
    go_wp2_with ((at_builtin; refine wp_app rfl (.tmp 19) (.tmp 20) rfl base v2 (l ++ List.replicate r 48) m rfl (by rw [HSS.out]; rfl) HO2.out (by simp; have := HMK.out; omega) (by omega) ?_); intro v3 w3 ho3 hg3 hat3)
    have HO3 := Lib.hid ho3
    have HF3 := Lib.hid (HF2.out.trans (Fr.of_app hg3 hat3))
    clear ho3 hg3 hat3
    go_wp2_with fail
    go_ret
    refine ⟨v3, rfl, ?_, HF3.out⟩
    rw [HP.out, ← List.append_assoc]
    exact HO3.out
end Go.Proofs.YtginajegbknfhaaDoor.D
