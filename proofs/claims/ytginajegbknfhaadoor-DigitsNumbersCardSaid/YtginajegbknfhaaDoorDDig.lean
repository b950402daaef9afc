/- appendDigits, walked. -/
import Derived.Test.YtginajegbknfhaaDoorDPowers
namespace Go.Proofs.YtginajegbknfhaaDoor.D
open Go.RowKit

theorem Tab.parts {w : World} (h : Tab w) : ∃ g t fr, Tryd.prog.globalNamed "internal/strconv.uint64pow10" = some g ∧ w.heap[g]? = some (.cells (Lib.pow10Tab.map fun z => Value.int .u64 z).toArray t fr) := by
  unfold Tab Lib.TabIs World.var? at h
  cases hg : Tryd.prog.globalNamed "internal/strconv.uint64pow10" with
  | none => simp [hg] at h
  | some g =>
    simp only [hg, Option.bind_some] at h
    split at h
    · rename_i cs t fr e
      injection h with h
      subst h
      exact ⟨g, t, fr, rfl, e⟩
    · cases h
theorem Tab.of_parts {w : World} {g : Nat} {t : TypeId} {fr : Nat × Nat} (h1 : Tryd.prog.globalNamed "internal/strconv.uint64pow10" = some g) (h2 : w.heap[g]? = some (.cells (Lib.pow10Tab.map fun z => Value.int .u64 z).toArray t fr)) : Tab w := by
  unfold Tab Lib.TabIs World.var?
  rw [h1, Option.bind_some, h2]
theorem Tab.below {w w1 : World} (h : Tab w) (hb : Below w.heap.size w w1) : Tab w1 := by
  obtain ⟨g, t, fr, h1, h2⟩ := h.parts
  exact Tab.of_parts h1 ((hb.block g (lt_of_block h2)).trans h2)
theorem Tab.fr {w w1 : World} {v v1 : Value} (h : Tab w) (hf : Fr w w1 v v1) (ha : AllB w v) : Tab w1 := by
  obtain ⟨g, t, fr, h1, h2⟩ := h.parts
  refine Tab.of_parts h1 ((hf.g.block g (lt_of_block h2) ?_).trans h2)
  refine ha.off (o := 0) (u := .int .u64 1) ?_ (fun z hz => by cases hz)
  rw [cell_of_row w g 0 _ _ _ h2]
  rfl
/-- Powers laid from a block's start. -/
def PwS (w : World) (g k : Nat) : Prop := ∀ i, i < k → ∃ A c, w.cell? ⟨g, i, none⟩ = some (.slice A (dig (PW i)).length c) ∧ (dig (PW i)).length ≤ c ∧ Num w A (dig (PW i))
theorem PwS.below {w w1 : World} {g k : Nat} (h : PwS w g k) (hb : Below w.heap.size w w1) : PwS w1 g k := fun i hi => by
  obtain ⟨A, c, h1, h2, h3⟩ := h i hi
  exact ⟨A, c, (hb.cell (p := ⟨g, i, none⟩) (block_lt_of_cell h1)).trans h1, h2, h3.below hb⟩
theorem PwS.fr {w w1 : World} {g k : Nat} {v v1 : Value} (h : PwS w g k) (hf : Fr w w1 v v1) (ha : AllB w v) : PwS w1 g k := fun i hi => by
  obtain ⟨A, c, h1, h2, h3⟩ := h i hi
  exact ⟨A, c, hf.cell ha h1 (fun z hz => by cases hz), h2, hf.num ha h3⟩
theorem PwS.less {w : World} {g k m : Nat} (h : PwS w g k) (hm : m ≤ k) : PwS w g m := fun i hi => h i (Nat.lt_of_lt_of_le hi hm)
theorem pow_tab {a b n m : Nat} (h : n ≤ m) (h1 : a < b) (h2 : n ≠ 0) : a ^ n < b ^ m := Nat.lt_of_lt_of_le (Nat.pow_lt_pow_left h1 h2) (Nat.pow_le_pow_right (by omega) h)
theorem PW_len_k {i K : Nat} (h : 2 ^ i ≤ K) : (dig (PW i)).length ≤ K := by
  refine dig_length_le ?_
  have e : PW i = (10 ^ 19) ^ 2 ^ i := by unfold PW; rw [Nat.pow_mul]
  rw [e]
  exact pow_tab h (by rw [B64_eq]; decide) (by have := Nat.two_pow_pos i; omega)

theorem PW_len {i : Nat} (h : 2 ^ i ≤ 2100) : (dig (PW i)).length ≤ 2100 := PW_len_k h

/-- appendDigits with k powers. -/
def AD (k : Nat) : Prop := 2 ^ k ≤ 2100 → ∀ (w : World) (base : Nat) (v : Value) (l : List UInt8) (A : Option Addr) (c s g cp : Nat), Own w base v l → base ≤ w.heap.size → Num w A (dig s) → s < PW k → (dig s).length ≤ c → PwS w g k → k ≤ cp → Tab w → l.length + 19 * 2 ^ k ≤ 100000000 →
    Calls Tryd.prog 32 #[v, .slice A (dig s).length c, .slice (some ⟨g, 0, none⟩) k cp] w (RetA w base v (l ++ pad (19 * 2 ^ k) s))
set_option maxRecDepth 100000 in
set_option maxHeartbeats 4000000 in
theorem adig_zero : AD 0 := by
  intro hk w base v l A c s g cp hown hbase ha hs hc hp hcp htab hl
  have H := Lib.hid (piece_any w base v l A c s hown hbase ha (by rw [PW_zero] at hs; exact hs) htab (by omega))
  clear ha hs htab hown hp
  go_enter Tryd.func32, Tryd.ntmps32
  go_wp2_with fail
  refine H.out.mono ?_
  rintro e w1 ⟨v1, rfl, h1, h2⟩
  go_wp2_with fail
  go_ret
  exact ⟨v1, rfl, h1, h2⟩
set_option maxRecDepth 100000 in
set_option maxHeartbeats 4000000 in
theorem adig_step {k : Nat} (ih : AD k) (hk : 2 ^ (k + 1) ≤ 2100) (w : World) (base : Nat) (v : Value) (l : List UInt8) (A : Option Addr) (c s g cp : Nat) (xs : List Nat) (hxs : val xs = s) (hxl : xs.length ≤ 100000) (hown : Own w base v l) (hbase : base ≤ w.heap.size) (ha : Num w A xs) (hs : s < PW (k + 1)) (hc : xs.length ≤ c) (hp : PwS w g (k + 1)) (hcp : k + 1 ≤ cp) (htab : Tab w) (hl : l.length + 19 * 2 ^ (k + 1) ≤ 100000000) :
    Calls Tryd.prog 32 #[v, .slice A xs.length c, .slice (some ⟨g, 0, none⟩) (k + 1) cp] w (RetA w base v (l ++ pad (19 * 2 ^ (k + 1)) s)) := by
  have hp2 : 2 ^ (k + 1) = 2 ^ k + 2 ^ k := by rw [Nat.pow_succ]; omega
  obtain ⟨m, hm⟩ : ∃ m, k + 1 = m := ⟨_, rfl⟩
  obtain ⟨B, d, hcell, hd, hB⟩ := hp k (by omega)
  have hk2 : 2 ^ k ≤ 2100 := by omega
  have hkk : k < 2 ^ k := Nat.lt_two_pow_self
  have hdm := dm_v w A B c d xs (dig (PW k)) s (PW k) ha hB hxs (val_dig _) (by omega) (Nat.le_trans (PW_len hk2) (by omega)) hc hd
  have hq : dmq s (PW k) < PW k := by
    unfold dmq
    rw [PW_succ] at hs
    exact (Nat.div_lt_iff_lt_mul (PW_pos k)).2 hs
  have hr : dmr s (PW k) < PW k := by unfold dmr; rw [if_neg (Nat.pos_iff_ne_zero.1 (PW_pos k))]; exact Nat.mod_lt _ (PW_pos k)
  have hpad : l ++ pad (19 * 2 ^ k) (dmq s (PW k)) ++ pad (19 * 2 ^ k) (dmr s (PW k)) = l ++ pad (19 * 2 ^ (k + 1)) s := by
    rw [show 19 * 2 ^ (k + 1) = 19 * 2 ^ k + 19 * 2 ^ k by omega, pad_split, List.append_assoc]
    unfold dmq dmr
    rw [if_neg (Nat.pos_iff_ne_zero.1 (PW_pos k))]
    rfl
  have HDM := Lib.hid hdm
  obtain ⟨q, hqe⟩ : ∃ q, dmq s (PW k) = q := ⟨_, rfl⟩
  obtain ⟨r, hre⟩ : ∃ r, dmr s (PW k) = r := ⟨_, rfl⟩
  rw [hqe, hre] at hpad HDM
  rw [hm] at hpad
  rw [hqe] at hq
  rw [hre] at hr
  have HPAD := Lib.hid hpad
  have HQ := Lib.hid hq
  have HR := Lib.hid hr
  have HL : Hid (l.length + 19 * 2 ^ k + 19 * 2 ^ k ≤ 100000000) := by show _ ≤ _; omega
  have t1 : IntKind.i64.wrap ((m : Int) - 1) = (k : Int) := by
    have h := IntWalk.i64_in ((m : Int) - 1) (by omega)
    rw [h]; omega
  have HOWN := Lib.hid hown
  have HP := Lib.hid (hp.less (Nat.le_succ k))
  have HTAB := Lib.hid htab
  have HIH := Lib.hid ih
  have hkm : k ≤ m := by omega
  have hmc : m ≤ cp := by omega
  have hkm1 : k < m := by omega
  have hkc : k ≤ cp := by omega
  have hm0 : ¬ (m : Int) = 0 := by omega
  have HPWS := Lib.hid (by show (PwS w g k); exact HP.out)
  rw [hm]
  obtain ⟨n, hn⟩ : ∃ n, (dig (PW k)).length = n := ⟨_, rfl⟩
  rw [hn] at hcell HDM
  clear hown hp htab ih hdm hpad hq hr hqe hre ha hs hB hn hm hl hxs
  go_enter Tryd.func32, Tryd.ntmps32
  go_wp2_with fail
  refine HDM.out.mono ?_
  rintro e w1 ⟨A1, c1, B1, d1, rfl, hc1, hd1, h1, h2, hb1⟩
  have HO1 := Lib.hid (HOWN.out.below hb1)
  have HP1 := Lib.hid (HP.out.below hb1)
  have HT1 := Lib.hid (HTAB.out.below hb1)
  have HF1 := Lib.hid (Fr.of_below hb1 v)
  have HA1 := Lib.hid h1
  have HB1 := Lib.hid h2
  have hs1 : base ≤ w1.heap.size := Nat.le_trans hbase hb1.size
  clear h1 h2 hb1 HOWN HP HTAB HPWS HDM hcell
  go_wp2_with fail
  refine (HIH.out hk2 w1 base v l A1 c1 q g cp HO1.out hs1 HA1.out HQ.out hc1 HP1.out hkc HT1.out (by have := HL.out; omega)).mono ?_
  rintro e w2 ⟨v2, rfl, h1, h2⟩
  have HO2 := Lib.hid h1
  have HP2 := Lib.hid (HP1.out.fr h2 HO1.out.all)
  have HT2 := Lib.hid (HT1.out.fr h2 HO1.out.all)
  have HB2 := Lib.hid (h2.num HO1.out.all HB1.out)
  have HF2 := Lib.hid (HF1.out.trans h2)
  have hs2 : base ≤ w2.heap.size := Nat.le_trans hs1 h2.g.size
  have HL2 : Hid ((l ++ pad (19 * 2 ^ k) q).length + 19 * 2 ^ k ≤ 100000000) := by show _ ≤ _; have := HL.out; rw [List.length_append, pad_length]; omega
  clear h1 h2 HO1 HP1 HT1 HB1 HF1 HA1
  go_wp2_with fail
  refine (HIH.out hk2 w2 base v2 (l ++ pad (19 * 2 ^ k) q) B1 d1 r g cp HO2.out hs2 HB2.out HR.out hd1 HP2.out hkc HT2.out HL2.out).mono ?_
  rintro e w3 ⟨v3, rfl, h1, h2⟩
  have HO3 := Lib.hid h1
  have HF3 := Lib.hid (HF2.out.trans h2)
  clear h1 h2
  go_wp2_with fail
  go_ret
  refine ⟨v3, rfl, ?_, HF3.out⟩
  have h := HO3.out
  rw [HPAD.out] at h
  exact h
theorem adig_any : ∀ k, AD k
  | 0 => adig_zero
  | k + 1 => fun hk w base v l A c s g cp hown hbase ha hs hc hp hcp htab hl =>
    adig_step (adig_any k) hk w base v l A c s g cp (dig s) (val_dig _) (Nat.le_trans (dig_length_mono (Nat.le_of_lt hs)) (Nat.le_trans (PW_len hk) (by omega))) hown hbase ha hs hc hp hcp htab hl
end Go.Proofs.YtginajegbknfhaaDoor.D
