/- powersFor, walked. -/
import Derived.Test.YtginajegbknfhaaDoorDPow
import Derived.Deep.LoopGhost
import Derived.Laws.OwnMore
namespace Go.Proofs.YtginajegbknfhaaDoor.D
open Go.RowKit

/-- The powers, as many as the size wants. -/
def RetP (w : World) (n : Nat) (e : Ending) (w' : World) : Prop :=
  ∃ v vs, e = .returned v ∧ OwnS w' w.heap.size v vs ∧ PL w' vs ∧ n < PW vs.length ∧ 2 ^ vs.length ≤ 2100 ∧ Below w.heap.size w w'
theorem PW_dig0 : dig (PW 0) = [10000000000000000000] := by rw [PW_zero]; exact dig_one (by omega) (by rw [B64_eq]; omega)
theorem blen_sq {n : Nat} : blen (n * n) ≤ blen n + blen n := by
  apply blen_le_of_lt
  have h := blen_lt n
  rw [Nat.pow_add]
  exact Nat.mul_lt_mul'' h h
theorem two_pow_small {i e b : Nat} (h : 63 * 2 ^ i < e) (h2 : 2 * e - 1 ≤ b) (hb : b ≤ 64000) : 2 ^ (i + 1 + 1) ≤ 2100 ∧ i < 2100 := by
  have h1 : i < 2 ^ i := Nat.lt_two_pow_self
  rw [Nat.pow_succ, Nat.pow_succ]
  omega
theorem grown_below {w w1 w2 : World} {base : Nat} {v : Value} {vs : List Value} (h : Below base w w1) (hb : base ≤ w.heap.size) (ho : OwnS w1 base v vs) (hg : w1.grownBy w2 v.ownBlock) : Below base w w2 := h.grown hg (Nat.le_trans hb h.size) (fun k hk => (ho.row.lt k hk).1)
theorem dig_len_k {n k : Nat} (h : blen n ≤ 64 * k) : (dig n).length ≤ k := by
  have h1 := blen_lt n
  have h2 : 2 ^ blen n ≤ 2 ^ (64 * k) := Nat.pow_le_pow_right (by omega) h
  refine dig_length_le (Nat.lt_of_lt_of_le h1 ?_)
  rw [B64_pow, ← Nat.pow_mul]
  exact h2
theorem dig_len_blen {n : Nat} (h : blen n ≤ 64100) : (dig n).length ≤ 1002 := dig_len_k (Nat.le_trans h (by omega))
theorem OwnS.below {w w1 : World} {base : Nat} {v : Value} {vs : List Value} (h : OwnS w base v vs) (hb : Below w.heap.size w w1) : OwnS w1 base v vs := by
  refine ⟨⟨h.row.1, ?_⟩, ?_, h.pos⟩
  · rcases h.row.2 with hn | ⟨g, cap, cur, hv, hbg, hg, rest⟩
    · exact .inl hn
    · exact .inr ⟨g, cap, cur, hv, hbg, (hb.block g (lt_of_block hg)).trans hg, rest⟩
  · intro g hg j u hu
    have hlt := (h.row.lt g hg).2
    exact h.all g hg j u ((hb.cell (p := ⟨g, j, none⟩) hlt).symm.trans hu)
theorem blen_len {n k : Nat} (h : (dig n).length ≤ k) : blen n ≤ 64 * k := by
  apply blen_le_of_lt
  have h1 := val_lt (dig_digs n)
  rw [val_dig, B64_pow, ← Nat.pow_mul] at h1
  exact Nat.lt_of_lt_of_le h1 (Nat.pow_le_pow_right (by omega) (by omega))

set_option maxRecDepth 100000 in
set_option maxHeartbeats 4000000 in
theorem powers_any (w : World) (A : Option Addr) (c : Nat) (xs : List Nat) (ha : Num w A xs) (hn : xs.length ≤ 1000) (hc : xs.length ≤ c) :
    Calls Tryd.prog 33 #[.slice A xs.length c] w (RetP w (val xs)) := by
  have hbs : blen (val xs) ≤ 64 * 1000 := blen_len (Nat.le_trans (dig_length_val ha.1) hn)
  have HBS := Lib.hid (fun W (h : Below w.heap.size w W) => bits_v W A c xs (val xs) (ha.below h) rfl (by omega) hc)
  obtain ⟨n, hnv⟩ : ∃ n, val xs = n := ⟨_, rfl⟩
  rw [hnv] at hbs HBS ⊢
  have h0 : Num ((w.alloc (.cells #[.int .u64 10000000000000000000] 31)).alloc (.cells #[.slice (some ⟨w.heap.size, 0, none⟩) 1 1] 23)) (some ⟨w.heap.size, 0, none⟩) (dig (PW 0)) := by
    rw [PW_dig0]
    exact ((Blk.lit w [10000000000000000000]).num (Digs.cons (by rw [B64_eq]; omega) Digs.nil)).alloc _
  have hS0 : OwnS ((w.alloc (.cells #[.int .u64 10000000000000000000] 31)).alloc (.cells #[.slice (some ⟨w.heap.size, 0, none⟩) 1 1] 23)) w.heap.size (.slice (some ⟨w.heap.size + 1, 0, none⟩) 1 1) [.slice (some ⟨w.heap.size, 0, none⟩) 1 1] := by
    have h := World.ownsRow_lit (base := w.heap.size) (e := 23) (size := 1) (w.alloc (.cells #[.int .u64 10000000000000000000] 31)) #[.slice (some ⟨w.heap.size, 0, none⟩) 1 1] 1 (by simp) (by unfold maxLen; omega) rfl
    rw [show (w.alloc (.cells #[.int .u64 10000000000000000000] 31)).heap.size = w.heap.size + 1 by simp] at h
    refine ⟨h, ?_, by simp⟩
    intro g hg j u hu
    obtain rfl : w.heap.size + 1 = g := by injection hg
    have e : (w.alloc (.cells #[.int .u64 10000000000000000000] 31)).heap.size = w.heap.size + 1 := by simp
    rw [← e, World.cell?_alloc_new] at hu
    have hm := Array.mem_of_getElem? hu
    have hm2 := List.mem_toArray.1 hm
    simp only [List.mem_singleton] at hm2
    exact ⟨_, _, _, hm2⟩
  have hP0 : PL ((w.alloc (.cells #[.int .u64 10000000000000000000] 31)).alloc (.cells #[.slice (some ⟨w.heap.size, 0, none⟩) 1 1] 23)) [.slice (some ⟨w.heap.size, 0, none⟩) 1 1] := by
    intro i hi
    obtain rfl : i = 0 := by simpa using hi
    exact ⟨some ⟨w.heap.size, 0, none⟩, 1, by rw [PW_dig0]; rfl, by rw [PW_dig0]; exact Nat.le_refl _, h0⟩
  have hW0 : Below w.heap.size w ((w.alloc (.cells #[.int .u64 10000000000000000000] 31)).alloc (.cells #[.slice (some ⟨w.heap.size, 0, none⟩) 1 1] 23)) := ((Below.refl _ _).alloc (Nat.le_refl _) _).alloc (by simp) _
  have hb64 : blen (PW 0) ≤ 64 := by rw [PW_zero]; exact blen_le_of_lt (by decide)
  have H0 := Lib.hid h0
  have HS0 := Lib.hid hS0
  have HP0 := Lib.hid hP0
  have HW0 := Lib.hid hW0
  have HD0 := Lib.hid PW_dig0
  clear ha h0 hS0 hP0 hW0 hnv
  go_enter Tryd.func33, Tryd.ntmps33
  go_wp2_with fail
  go_loopg [3, 4] 64199 (fun G lv pv wr => ∃ (vs : List Value) (i : Nat) (Al : Option Addr) (cl : Nat), vs.length = i + 1 ∧ i + G = 64199 ∧ lv = .slice Al (dig (PW i)).length cl ∧ (dig (PW i)).length ≤ cl ∧ blen (PW i) ≤ 64100 ∧ 2 ^ (i + 1) ≤ 2100 ∧ Hid (Num wr Al (dig (PW i))) ∧ Hid (OwnS wr w.heap.size pv vs) ∧ Hid (PL wr vs) ∧ Hid (Below w.heap.size w wr))
  case atStart => exact ⟨[.slice (some ⟨w.heap.size, 0, none⟩) 1 1], 0, some ⟨w.heap.size, 0, none⟩, 1, rfl, rfl, by rw [HD0.out]; rfl, by rw [HD0.out]; exact Nat.le_refl _, by omega, by decide, H0, HS0, HP0, HW0⟩
  case round =>
    obtain ⟨vs, i, Al, cl, hvl, hig, rfl, hcl, hbl, hpw, HN, HS, HP, HW⟩ := hrel
    have hdl : (dig (PW i)).length ≤ 1002 := dig_len_blen hbl
    have HB1 := Lib.hid (fun W (h : Num W Al (dig (PW i))) => bits_v W Al cl (dig (PW i)) (PW i) h (val_dig _) (by omega) hcl)
    have HM1 : Hid (∀ W, Num W Al (dig (PW i)) → Calls Tryd.prog 45 #[.slice Al (dig (PW i)).length cl, .slice Al (dig (PW i)).length cl] W (RetN W (PW (i + 1)))) := by
      intro W h
      rw [PW_succ]
      exact mul_v W Al Al cl cl (dig (PW i)) (dig (PW i)) (PW i) (PW i) h h (val_dig _) (val_dig _) (by omega) (by omega) hcl hcl
    have HPB := Lib.hid (PW_blen i)
    have HSQ : Hid (blen (PW (i + 1)) ≤ blen (PW i) + blen (PW i)) := by show _ ≤ _; rw [PW_succ]; exact blen_sq
    obtain ⟨e0, he0⟩ : ∃ e0, blen (PW i) = e0 := ⟨_, rfl⟩
    obtain ⟨b0, hb0⟩ : ∃ b0, blen n = b0 := ⟨_, rfl⟩
    have HE0 := Lib.hid he0
    have HB0 := Lib.hid hb0
    rw [he0] at hbl HB1 HPB
    rw [hb0] at hbs HBS
    have hp0 : 0 < e0 := by have := HPB.out; omega
    have t1 : IntKind.i64.wrap (2 * (e0 : Int)) = 2 * (e0 : Int) := IntWalk.i64_in _ (by omega)
    have t2 : IntKind.i64.wrap (2 * (e0 : Int) - 1) = 2 * (e0 : Int) - 1 := IntWalk.i64_in _ (by omega)
    clear he0 hb0
    by_cases hg : 2 * e0 - 1 ≤ b0
    · have hgd : 2 * (e0 : Int) - 1 ≤ (b0 : Int) := by omega
      have hsm : 2 ^ (i + 1 + 1) ≤ 2100 ∧ i < 2100 := two_pow_small HPB.out hg (by omega)
      have HI := Lib.hid hsm
      have HE1 : Hid (2 * e0 ≤ 64001) := by show _ ≤ _; omega
      clear hsm
      go_wp2_with fail
      refine (HB1.out wr HN.out).mono ?_
      rintro e w1 ⟨rfl, hb1⟩
      have HN1 := Lib.hid (HN.out.below hb1)
      have HP1 := Lib.hid (HP.out.below hb1)
      have HW1 := Lib.hid (HW.out.trans (hb1.mono HW.out.size))
      have HS1 := Lib.hid (HS.out.below hb1)
      clear hb1 HN HP HW HS
      go_wp2_with fail
      refine (HBS.out w1 HW1.out).mono ?_
      rintro e w2 ⟨rfl, hb2⟩
      have HN2 := Lib.hid (HN1.out.below hb2)
      have HP2 := Lib.hid (HP1.out.below hb2)
      have HW2 := Lib.hid (HW1.out.trans (hb2.mono HW1.out.size))
      have HS2 := Lib.hid (HS1.out.below hb2)
      clear hb2 HN1 HP1 HW1 HS1
      go_wp2_with fail
      refine (HM1.out w2 HN2.out).mono ?_
      rintro e w3 ⟨A3, c3, rfl, hc3, h3, hb3⟩
      have HP3 := Lib.hid (HP2.out.below hb3)
      have HW3 := Lib.hid (HW2.out.trans (hb3.mono HW2.out.size))
      have HS3 := Lib.hid (HS2.out.below hb3)
      have HBN : Hid (Below w3.heap.size w3 (w3.alloc (.cells #[.slice A3 (dig (PW (i + 1))).length c3] 23))) := (Below.refl _ _).alloc (Nat.le_refl _) _
      have HN4 : Hid (Num (w3.alloc (.cells #[.slice A3 (dig (PW (i + 1))).length c3] 23)) A3 (dig (PW (i + 1)))) := h3.alloc _
      have HP4 := Lib.hid (HP3.out.below HBN.out)
      have HW4 := Lib.hid (HW3.out.trans (HBN.out.mono HW3.out.size))
      have HS4 := Lib.hid (HS3.out.below HBN.out)
      have HAD : Hid ((w3.alloc (.cells #[.slice A3 (dig (PW (i + 1))).length c3] 23)).cell? ⟨w3.heap.size, 0, none⟩ = some (.slice A3 (dig (PW (i + 1))).length c3)) := by
        show _ = _
        rw [World.cell?_alloc_new]; rfl
      have hsz : w.heap.size ≤ w3.heap.size := HW3.out.size
      clear h3 hb3 HP2 HW2 HS2 HP3 HS3 HN2
      go_wp2_with ((at_builtin; refine wp_appS rfl (.tmp 18) (.tmp 20) rfl w.heap.size u4 vs A3 (dig (PW (i + 1))).length c3 ⟨w3.heap.size, 0, none⟩ rfl rfl HS4.out HAD.out (by have := HI.out; omega) (by simp; omega) ?_); intro v5 w5 ho5 hg5)
      have HS5 := Lib.hid ho5
      have HP5 := Lib.hid (HP4.out.grown HS4.out.all hg5)
      have HN5 := Lib.hid (HS4.out.all.num hg5 HN4.out)
      have HW5 := Lib.hid (grown_below HW4.out (Nat.le_refl _) HS4.out hg5)
      clear ho5 hg5 HP4 HS4 HN4 HW4 HAD
      go_wp2_with fail
      go_roundg (gk - 1)
      case measure => have := HI.out; omega
      case rel =>
        have hpl := HP5.out.snoc (A := A3) (c := c3) (by rw [hvl]; exact hc3) (by rw [hvl]; exact HN5.out)
        rw [hvl] at hpl
        exact ⟨_, i + 1, A3, c3, by simp [hvl], by have := HI.out; omega, rfl, hc3, by have := HSQ.out; have := HE1.out; have := HE0.out; omega, HI.out.1, HN5, HS5, hpl, HW5⟩
    · have hgd : ¬ 2 * (e0 : Int) - 1 ≤ (b0 : Int) := by omega
      go_wp2_with fail
      refine (HB1.out wr HN.out).mono ?_
      rintro e w1 ⟨rfl, hb1⟩
      have HP1 := Lib.hid (HP.out.below hb1)
      have HW1 := Lib.hid (HW.out.trans (hb1.mono HW.out.size))
      have HS1 := Lib.hid (HS.out.below hb1)
      clear hb1 HN HP HW HS
      go_wp2_with fail
      refine (HBS.out w1 HW1.out).mono ?_
      rintro e w2 ⟨rfl, hb2⟩
      have HP2 := Lib.hid (HP1.out.below hb2)
      have HW2 := Lib.hid (HW1.out.trans (hb2.mono HW1.out.size))
      have HS2 := Lib.hid (HS1.out.below hb2)
      clear hb2 HP1 HW1 HS1
      go_wp2_with fail
      go_ret
      refine ⟨u4, vs, rfl, HS2.out, HP2.out, ?_, ?_, HW2.out⟩
      · rw [hvl]
        refine PW_end ?_
        rw [HB0.out, HE0.out]
        omega
      · rw [hvl]; exact hpw
end Go.Proofs.YtginajegbknfhaaDoor.D
