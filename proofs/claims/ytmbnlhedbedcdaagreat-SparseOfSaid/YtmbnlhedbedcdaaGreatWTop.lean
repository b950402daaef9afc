/- WTop: several texts in one. -/
import Derived.Test.YtmbnlhedbedcdaaGreatLaws
import Derived.Test.YtmbnlhedbedcdaaGreatGAll
import Derived.Test.YtmbnlhedbedcdaaGreatEAll
import Derived.Laws.AppendOwnNone
import Derived.Test.YtmbnlhedbedcdaaGreatETop
import Derived.Test.YtmbnlhedbedcdaaGreatWAll
/- Contracts of limbs, the answer by a letter. -/
namespace Go.Proofs.YtmbnlhedbedcdaaGreat
open Go.RowKit
section
variable (w : World) (A B : Option Addr) (c d : Nat) (xs ys : List Nat) (m n : Nat) (ha : Num w A xs) (hb : Num w B ys) (hx : val xs = m) (hy : val ys = n) (hn : xs.length ≤ 1000000) (hm : ys.length ≤ 1000000) (hc : xs.length ≤ c) (hd : ys.length ≤ d)
include ha hb hx hy hn hm hc hd
theorem add_n (r : Nat) (hr : m + n = r) : Calls Tryz.prog 129 #[.slice A xs.length c, .slice B ys.length d] w (RetN w r) := by subst hr; exact add_v w A B c d xs ys m n ha hb hx hy hn hm hc hd
theorem sub_n (r : Nat) (hr : m - n = r) : Calls Tryz.prog 131 #[.slice A xs.length c, .slice B ys.length d] w (RetN w r) := by subst hr; exact sub_v w A B c d xs ys m n ha hb hx hy hn hm hc hd
theorem mul_n (r : Nat) (hr : m * n = r) : Calls Tryz.prog 132 #[.slice A xs.length c, .slice B ys.length d] w (RetN w r) := by subst hr; exact mul_v w A B c d xs ys m n ha hb hx hy hn hm hc hd
theorem gcd_n (r : Nat) (hr : Nat.gcd m n = r) : Calls Tryz.prog 150 #[.slice A xs.length c, .slice B ys.length d] w (RetN w r) := by subst hr; subst hx; subst hy; exact gcd_any w A B c d xs ys ha hb (by omega) (by omega) hc hd
theorem dm_n (q r : Nat) (hq : dmq m n = q) (hr : dmr m n = r) : Calls Tryz.prog 174 #[.slice A xs.length c, .slice B ys.length d] w (RetDM w q r) := by subst hq; subst hr; exact dm_v w A B c d xs ys m n ha hb hx hy hn hm hc hd
end
theorem trim_n (w : World) (A : Option Addr) (c : Nat) (xs : List Nat) (m : Nat) (ha : Num w A xs) (hx : val xs = m) (hn : xs.length ≤ 1000000) (hc : xs.length ≤ c) (r : Nat) (hr : m = r) : Calls Tryz.prog 128 #[.slice A xs.length c] w (RetN w r) := by subst hr; exact trim_v w A c xs m ha hx hn hc
theorem same_one (w : World) (A : Option Addr) (c u : Nat) (hu : u = 1) (ha : Num w A (dig u)) :
    Calls Tryz.prog 116 #[.slice A (dig u).length c, .slice (some ⟨w.heap.size, 0, none⟩) 1 1] (w.alloc (.cells #[.int .u64 1] 127)) (RetB w true) := by
  subst hu
  have e : dig 1 = [1] := dig_one (by omega) (by rw [B64_eq]; omega)
  rw [e] at ha ⊢
  have h1 : Num (w.alloc (.cells #[.int .u64 1] 127)) (some ⟨w.heap.size, 0, none⟩) [1] := (Blk.lit w [1]).num (digs_lit (by decide +kernel))
  exact (same_yes _ A _ c 1 [1] (ha.alloc _) h1 (by simp)).mono fun _ _ h => ⟨h.1, below_alloc1 h.2⟩
theorem dl_gcd (a b : Nat) : (dig (Nat.gcd a b)).length ≤ max (dig a).length (dig b).length := by
  rcases Nat.eq_zero_or_pos a with h | h
  · rw [h, Nat.gcd_zero_left]; exact Nat.le_max_right _ _
  · exact Nat.le_trans (dl_le (Nat.gcd_le_left b h)) (Nat.le_max_left _ _)
theorem dl_dmq (a b : Nat) : (dig (dmq a b)).length ≤ (dig a).length := dl_le (Nat.div_le_self a b)
theorem dl_dmr (a b : Nat) : (dig (dmr a b)).length ≤ (dig a).length := dl_le (by unfold dmr; split; exact Nat.zero_le _; exact Nat.mod_le _ _)
end Go.Proofs.YtmbnlhedbedcdaaGreat

/- CopyWords of tripwirelow. -/
namespace Go.Proofs.YtmbnlhedbedcdaaGreat
open Go.RowKit

theorem num_of_own64 {w : World} {base : Nat} {v : Value} {n : Nat} {xs : List Nat} (hd : Digs xs) (h : w.ownsRow base 127 1 v n (xs.map dcell)) :
    ∃ A c, v = .slice A xs.length c ∧ xs.length ≤ c ∧ Num w A xs := by
  obtain ⟨hl, h⟩ := h
  rw [List.length_map] at hl
  have hn : n = xs.length := by omega
  subst hn
  rcases h with ⟨rfl, h0⟩ | ⟨g, cap, cur, rfl, hb, hg, hc, hm, hs, ht⟩
  · exact ⟨none, 0, by rw [h0], by omega, by rw [List.length_eq_zero_iff.1 h0]; exact Num.nil _ _⟩
  · refine ⟨some ⟨g, 0, none⟩, cap, rfl, hc, hd, fun _ => ⟨g, 0, rfl, lt_of_block hg, fun i hi => ?_⟩⟩
    rw [Nat.zero_add, cell_of_row w g i _ _ _ hg]
    rw [Nat.mul_one] at ht
    have h2 : cur.toList[i]? = (xs.map dcell)[i]? := by rw [← ht, List.getElem?_take_of_lt hi]
    rw [← Array.getElem?_toList, h2, List.getElem?_map, List.getElem?_eq_getElem hi, dg_of_lt hi]
    rfl
theorem Num.news64 {w : World} {ad : Addr} {xs : List Nat} (h : Num w (some ad) xs) : ∀ (j : Nat) (u : Value), (xs.map dcell)[j]? = some u → w.cell? (ad.add j) = some u := by
  intro j u hj
  rw [List.getElem?_map] at hj
  rcases Nat.lt_or_ge j xs.length with hlt | hge
  · obtain ⟨b, off, e, _, hc⟩ := h.at_ (by omega)
    injection e with e
    subst e
    rw [List.getElem?_eq_getElem hlt] at hj
    rw [addr_add, hc j hlt, dg_of_lt hlt]
    exact hj
  · rw [List.getElem?_eq_none hge] at hj
    cases hj
theorem dcells64_one (xs : List Nat) : ∀ u ∈ xs.map dcell, u.oneCell' = true := by
  intro u hu
  obtain ⟨x, _, rfl⟩ := List.mem_map.1 hu
  rfl
/-- A copy: the digits as they stand. -/
def RetCW (w : World) (xs : List Nat) (e : Ending) (w' : World) : Prop :=
  ∃ A c, e = .returned (.slice A xs.length c) ∧ xs.length ≤ c ∧ Num w' A xs ∧ Below w.heap.size w w'

set_option maxHeartbeats 1000000 in
theorem copyw_any (w : World) (A : Option Addr) (c : Nat) (xs : List Nat) (ha : Num w A xs) (hA : A = none → c = 0) (hn : xs.length ≤ 1000000) :
    Calls Tryz.prog 106 #[.slice A xs.length c] w (RetCW w xs) := by
  obtain ⟨i0, hi0, hz0, hz1, hz2⟩ := info_parts info_u64
  cases A with
  | none =>
    have hc : c = 0 := hA rfl
    have hx : xs = [] := by
      rcases xs with _ | ⟨x, r⟩
      · rfl
      · obtain ⟨_, _, e, _⟩ := ha.at_ (by simp)
        cases e
    subst hx
    subst hc
    clear ha hA hn
    go_enter Tryz.func106, Tryz.ntmps106
    go_wp2_with ((at_builtin; refine wpList_append_own_none rfl (.tmp 4) (.tmp 5) 23 rfl w.heap.size 127 i0 1 under_u64s hi0 (.slice none 0 0) 0 [] rfl (World.ownsRow_nil _ _ _ _) rfl ?_))
    go_ret
    exact ⟨none, 0, rfl, Nat.le_refl _, Num.nil _ _, Below.refl _ _⟩
  | some ad =>
    have hnum := ha.news64
    have HD := ha.1
    have HNW := Lib.hid hnum
    have HL : Hid ((xs.map dcell).length = xs.length * 1) := by show _ = _; simp
    clear hnum ha hA
    go_enter Tryz.func106, Tryz.ntmps106
    go_wp2_with ((at_builtin; refine wpList_append_own w rfl (.tmp 4) (.tmp 5) 23 rfl w.heap.size 127 i0 (.int .u64 0) 1 8 under_u64s hi0 hz0 hz1 hz2 rfl (by decide) (.slice none 0 0) 0 [] rfl (World.ownsRow_nil _ _ _ _) ad xs.length c (xs.map dcell) rfl HL.out HNW.out (dcells64_one _) (by unfold maxLen; omega) (by omega) (Nat.le_refl _) ?_); intro v' w3 hown' hgrow hnil)
    rw [List.nil_append, Nat.zero_add] at hown'
    obtain ⟨A3, c3, rfl, hc3, hnum⟩ := num_of_own64 HD hown'
    have HN3 := Lib.hid hnum
    have HB3 := Lib.hid ((Below.refl w.heap.size w).grown hgrow (Nat.le_refl _) (fun k hk => by cases hk))
    clear hown' hgrow hnil hnum
    go_wp2_with fail
    go_ret
    exact ⟨A3, c3, rfl, hc3, HN3.out, HB3.out⟩
end Go.Proofs.YtmbnlhedbedcdaaGreat

/- Contracts of the document's answer for limbs, by letters. -/
namespace Go.Proofs.YtmbnlhedbedcdaaGreat
open Go.RowKit
section
variable (w : World) (A B : Option Addr) (c d : Nat) (xs ys : List Nat) (m n : Nat) (ha : Num w A xs) (hb : Num w B ys) (hx : val xs = m) (hy : val ys = n) (hn : xs.length ≤ 8000) (hm : ys.length ≤ 8000) (hc : xs.length ≤ c) (hd : ys.length ≤ d)
include ha hb hx hy hn hm hc hd
theorem eadd_n (r : Nat) (hr : m + n = r) : Calls Tryz.prog 142 #[.slice A xs.length c, .slice B ys.length d] w (RetN w r) := by subst hr; subst hx; subst hy; exact (fun _ _ => E.Add_any w A B c d xs ys ha hb (by omega) (by omega)) hc hd
theorem esub_n (r : Nat) (hr : m - n = r) : Calls Tryz.prog 144 #[.slice A xs.length c, .slice B ys.length d] w (RetN w r) := by subst hr; subst hx; subst hy; exact (fun _ _ => E.Sub_any w A B c d xs ys ha hb (by omega) (by omega)) hc hd
theorem emul_n (r : Nat) (hr : m * n = r) : Calls Tryz.prog 145 #[.slice A xs.length c, .slice B ys.length d] w (RetN w r) := by subst hr; subst hx; subst hy; exact (fun _ _ => E.Mul_any w A B c d xs ys ha hb (by omega) (by omega)) hc hd
theorem egcd_n (r : Nat) (hr : Nat.gcd m n = r) : Calls Tryz.prog 165 #[.slice A xs.length c, .slice B ys.length d] w (RetN w r) := by subst hr; subst hx; subst hy; exact (fun _ _ => E.Gcd_any w A B c d xs ys ha hb (by omega) (by omega)) hc hd
theorem edm_n (q r : Nat) (hq : dmq m n = q) (hr : dmr m n = r) : Calls Tryz.prog 166 #[.slice A xs.length c, .slice B ys.length d] w (RetDM w q r) := by subst hq; subst hr; subst hx; subst hy; exact (fun _ _ => E.DivMod_any w A B c d xs ys ha hb (by omega) (by omega)) hc hd
theorem ecmp_n (k : Int) (hk : cmpv m n = k) : Calls Tryz.prog 143 #[.slice A xs.length c, .slice B ys.length d] w (RetI w k) := by subst hk; subst hx; subst hy; exact (fun _ _ => E.Cmp_any w A B c d xs ys ha hb (by omega) (by omega)) hc hd
theorem cmp_n (k : Int) (hk : cmpv m n = k) : Calls Tryz.prog 130 #[.slice A xs.length c, .slice B ys.length d] w (RetI w k) := by subst hk; exact cmp_v w A B c d xs ys m n ha hb hx hy (by omega) (by omega) hc hd
end
section
variable (w : World) (A : Option Addr) (c : Nat) (xs : List Nat) (m : Nat) (ha : Num w A xs) (hx : val xs = m) (hn : xs.length ≤ 8000) (hc : xs.length ≤ c)
include ha hx hn hc
theorem bits_n (k : Nat) (hk : blen m = k) : Calls Tryz.prog 154 #[.slice A xs.length c] w (RetI w (k : Int)) := by subst hk; exact bits_v w A c xs m ha hx (by omega) hc
theorem ebits_n (k : Nat) (hk : blen m = k) : Calls Tryz.prog 162 #[.slice A xs.length c] w (RetI w (k : Int)) := by subst hk; subst hx; exact (fun _ => E.Bits_any w A c xs ha (by omega)) hc
theorem eshl_n (z : Int) (r : Nat) (hr : shlv m z = r) : Calls Tryz.prog 180 #[.slice A xs.length c, .int .i64 z] w (RetN w r) := by subst hr; subst hx; exact (fun _ => E.Shl_any w A c xs z ha (by omega)) hc
theorem eshr_n (z : Int) (_ : z ≤ 9223372036854775807) (r : Nat) (hr : shrv m z = r) : Calls Tryz.prog 179 #[.slice A xs.length c, .int .i64 z] w (RetN w r) := by
  have h : r = val xs / 2 ^ z.toNat := by
    rw [← hr, ← hx]
    unfold shrv
    split
    · rw [show z.toNat = 0 by omega, Nat.pow_zero, Nat.div_one]
    · rfl
  rw [h]
  exact (fun _ => E.Shr_any w A c xs z ha (by omega)) hc
theorem esmall_n (r : Nat) (hr : m = r) : Calls Tryz.prog 164 #[.slice A xs.length c] w (E.RetN w r) := by subst hr; subst hx; exact (fun _ => E.small_any w A c xs ha (by omega)) hc
end
theorem elarge_n (w : World) (A : Option Addr) (c m : Nat) (ha : E.Num w A (E.dig m)) (hc : (E.dig m).length ≤ c) (hl : (dig m).length ≤ 8000) : Calls Tryz.prog 163 #[.slice A (E.dig m).length c] w (RetN w m) := by
  have h := E.large_any w A c (E.dig m) ha (by
    have h1 := E.dl_small (dig_digs m)
    rw [val_dig] at h1
    omega) hc
  rw [E.val_dig] at h
  exact h
theorem pow_lt_B64 {z k : Nat} (h : z < 64 * k) : 2 ^ z < B64 ^ k := by
  rw [show B64 = 2 ^ 64 by rw [B64_eq], ← Nat.pow_mul]
  exact Nat.pow_lt_pow_right (by omega) h
theorem dl_blen_shl (m : Nat) (z : Int) (hz : z ≤ 600 ∨ 1048576 < z) : (dig (shlv m z)).length ≤ (dig m).length + 10 := by
  unfold shlv
  split
  · omega
  · split
    · rw [dig_zero]; exact Nat.zero_le _
    · refine dig_length_le ?_
      have h1 := val_lt (dig_digs m)
      rw [val_dig] at h1
      rw [Nat.pow_add]
      have h2 : 2 ^ z.toNat < B64 ^ 10 := pow_lt_B64 (by omega)
      exact Nat.mul_lt_mul'' h1 h2
theorem dl_shr (m : Nat) (z : Int) : (dig (shrv m z)).length ≤ (dig m).length := dl_le (by unfold shrv; split; exact Nat.le_refl _; exact Nat.div_le_self _ _)
/-- Two lists that are the same, as they stand. -/
theorem same_l (w : World) (A B : Option Addr) (c d : Nat) (xs : List Nat) (ha : Num w A xs) (hb : Num w B xs) (hn : xs.length ≤ 1000000) :
    Calls Tryz.prog 116 #[.slice A xs.length c, .slice B xs.length d] w (RetB w true) := same_yes w A B c d xs ha hb (by omega)
end Go.Proofs.YtmbnlhedbedcdaaGreat

/- The document's answer for whole: Make. -/
namespace Go.Proofs.YtmbnlhedbedcdaaGreat.W
open Go.RowKit

theorem zneg_zv {s : Bool} {m : Nat} (h : m ≠ 0) : zneg (zv s m) = s := by
  apply zneg_of
  cases s <;> simp [zv] <;> omega

set_option maxHeartbeats 2000000 in
theorem make_any (w : World) (s : Bool) (A : Option Addr) (c : Nat) (xs : List Nat) (z : Int) (ha : Num w A xs) (hx : zv s (val xs) = z) (hn : xs.length ≤ 100000) :
    Calls Tryz.prog 137 #[.bool s, .slice A xs.length c] w (RetZ w z) := by
  have hl1 := E.dl_small ha.1
  have H1 := Lib.hid (fun o => E.small_any (w.alloc o) A c xs (ha.alloc o) (by omega))
  obtain ⟨m, hva⟩ : ∃ m, val xs = m := ⟨_, rfl⟩
  rw [hva] at hl1 H1 hx
  clear ha hva
  have HX := Lib.hid hx
  have HL := Lib.hid (fun W A' c' (h : E.Num W A' (E.dig m)) (hc : (E.dig m).length ≤ c') => E.large_any W A' c' (E.dig m) h (by omega) hc)
  rw [E.val_dig] at HL
  have HW : Hid (Below w.heap.size w (w.alloc (.cells #[.bool false, .slice none 0 0] 25))) := (Below.refl _ _).alloc (Nat.le_refl _) _
  have HI : Hid (Ibx (w.alloc (.cells #[.bool false, .slice none 0 0] 25)) w.heap.size false none 0 0) := Ibx.new' _ _ _ _ _ _ rfl
  clear hx
  by_cases h0 : m = 0
  · have hz : (((dig m).length : Int) == 0) = true := by rw [h0, dig_zero]; rfl
    have HS : Hid (zneg (zv s m) = false) := by show _ = _; rw [h0, zv_zero]; rfl
    clear h0
    go_enter Tryz.func137, Tryz.ntmps137
    go_wp2_with fail
    refine (H1.out _).mono ?_
    rintro e w1 ⟨A1, c1, rfl, hc1, h1, hb1⟩
    have HN1 := Lib.hid h1
    have HW1 := Lib.hid (HW.out.trans (hb1.mono HW.out.size))
    have HI1 := Lib.hid (HI.out.below hb1)
    clear h1 hb1 H1 HW HI
    go_wp2_with fail
    refine (HL.out w1 A1 c1 HN1.out hc1).mono ?_
    rintro e w2 ⟨A2, c2, rfl, hc2, h2, hb2⟩
    have HN2 := Lib.hid h2
    have HW2 := Lib.hid (HW1.out.trans (hb2.mono HW1.out.size))
    have I2 := HI1.out.below hb2
    have HI2 := Lib.hid I2
    have c0 := I2.c0
    have c1' := I2.c1
    have f0 := I2.f 0
    have f1 := I2.f 1
    clear h2 hb2 HN1 HW1 HI1 HL I2
    go_wp2_with fail
    refine bodyPost_ret (v := .agg #[.bool false, .slice A2 (dig m).length c2]) (by simp [results, Tryz.results137, go_sem, c0, c1']) rfl ?_
    have h := retz_of HX.out hc2 HN2.out HI2.out (Nat.le_refl _) HW2.out (.bool false) (.slice A2 (dig m).length c2) rfl
    rw [HS.out] at h
    exact h
  · have hz : (((dig m).length : Int) == 0) = false := by
      rw [beq_eq_false_iff_ne]
      intro h
      exact h0 (dig_nil_iff.1 (by omega))
    have HS : Hid (zneg (zv s m) = s) := zneg_zv h0
    clear h0
    go_enter Tryz.func137, Tryz.ntmps137
    go_wp2_with fail
    refine (H1.out _).mono ?_
    rintro e w1 ⟨A1, c1, rfl, hc1, h1, hb1⟩
    have HN1 := Lib.hid h1
    have HW1 := Lib.hid (HW.out.trans (hb1.mono HW.out.size))
    have HI1 := Lib.hid (HI.out.below hb1)
    clear h1 hb1 H1 HW HI
    go_wp2_with fail
    refine (HL.out w1 A1 c1 HN1.out hc1).mono ?_
    rintro e w2 ⟨A2, c2, rfl, hc2, h2, hb2⟩
    have HN2 := Lib.hid h2
    have HW2 := Lib.hid (HW1.out.trans (hb2.mono HW1.out.size))
    have I2 := HI1.out.below hb2
    have HI2 := Lib.hid I2
    have c0 := I2.c0
    have c1' := I2.c1
    have f0 := I2.f 0
    have f1 := I2.f 1
    clear h2 hb2 HN1 HW1 HI1 HL I2
    go_wp2_with fail
    refine bodyPost_ret (v := .agg #[.bool s, .slice A2 (dig m).length c2]) (by simp [results, Tryz.results137, go_sem, c0, c1']) rfl ?_
    have h := retz_of HX.out hc2 HN2.out HI2.out (Nat.le_refl _) HW2.out (.bool s) (.slice A2 (dig m).length c2) rfl
    rw [HS.out] at h
    exact h
end Go.Proofs.YtmbnlhedbedcdaaGreat.W

/- The document's answer for whole: Norm, Neg, Abs, Sign. -/
namespace Go.Proofs.YtmbnlhedbedcdaaGreat.W
open Go.RowKit

set_option maxHeartbeats 2000000 in
theorem norm_any (w : World) (s : Bool) (A : Option Addr) (c : Nat) (xs : List Nat) (z : Int) (ha : Num w A xs) (hx : zv s (val xs) = z) (hn : xs.length ≤ 100000) (r : Int) (hr : z = r) :
    Calls Tryz.prog 138 #[.agg #[.bool s, .slice A xs.length c]] w (RetZ w r) := by
  have hz : zv s (val xs) = r := by
    rw [← hr]
    exact hx
  have HM := Lib.hid (fun o1 o2 => make_any ((w.alloc o1).alloc o2) s A c xs _ ((ha.alloc o1).alloc o2) hz hn)
  have HW : Hid (Below w.heap.size w ((w.alloc (.cells #[.bool s, .slice A xs.length c] 25)).alloc (.cells #[.bool false, .slice none 0 0] 25))) := ((Below.refl _ _).alloc (Nat.le_refl _) _).alloc (by simp) _
  have HI : Hid (Ibx ((w.alloc (.cells #[.bool s, .slice A xs.length c] 25)).alloc (.cells #[.bool false, .slice none 0 0] 25)) (w.heap.size + 1) false none 0 0) := Ibx.new' _ _ _ _ _ _ (by simp)
  clear ha hx hz hr
  go_enter Tryz.func138, Tryz.ntmps138
  go_wp2_with fail
  refine (HM.out _ _).mono ?_
  rintro e w4 ⟨A3, c3, rfl, hc3, h3, hb3⟩
  have I4 := HI.out.below hb3
  have c0 := I4.c0
  have c1 := I4.c1
  have f0 := I4.f 0
  have f1 := I4.f 1
  have J4 := Lib.hid I4
  have N4 := Lib.hid h3
  have B4 := Lib.hid (HW.out.trans (hb3.mono HW.out.size))
  clear I4 h3 hb3 HI HW HM
  go_wp2_with fail
  refine bodyPost_ret (v := .agg #[.bool (zneg (r)), .slice A3 (dig (r).natAbs).length c3]) (by simp [results, Tryz.results138, go_sem, c0, c1]) rfl ?_
  have h := retz_of (s := zneg (r)) (m := (r).natAbs) (zv_zneg _) hc3 N4.out J4.out (by omega) B4.out (.bool (zneg (r))) (.slice A3 (dig (r).natAbs).length c3) rfl
  rw [zv_zneg] at h
  exact h

set_option maxHeartbeats 2000000 in
theorem neg_any (w : World) (s : Bool) (A : Option Addr) (c : Nat) (xs : List Nat) (z : Int) (ha : Num w A xs) (hx : zv s (val xs) = z) (hn : xs.length ≤ 100000) (r : Int) (hr : -z = r) :
    Calls Tryz.prog 136 #[.agg #[.bool s, .slice A xs.length c]] w (RetZ w r) := by
  have hz : zv (!s) (val xs) = r := by
    rw [← hr]
    rw [← hx]; cases s <;> simp [zv]
  have HM := Lib.hid (fun o1 o2 => make_any ((w.alloc o1).alloc o2) (!s) A c xs _ ((ha.alloc o1).alloc o2) hz hn)
  have HW : Hid (Below w.heap.size w ((w.alloc (.cells #[.bool s, .slice A xs.length c] 25)).alloc (.cells #[.bool false, .slice none 0 0] 25))) := ((Below.refl _ _).alloc (Nat.le_refl _) _).alloc (by simp) _
  have HI : Hid (Ibx ((w.alloc (.cells #[.bool s, .slice A xs.length c] 25)).alloc (.cells #[.bool false, .slice none 0 0] 25)) (w.heap.size + 1) false none 0 0) := Ibx.new' _ _ _ _ _ _ (by simp)
  clear ha hx hz hr
  go_enter Tryz.func136, Tryz.ntmps136
  go_wp2_with fail
  refine (HM.out _ _).mono ?_
  rintro e w4 ⟨A3, c3, rfl, hc3, h3, hb3⟩
  have I4 := HI.out.below hb3
  have c0 := I4.c0
  have c1 := I4.c1
  have f0 := I4.f 0
  have f1 := I4.f 1
  have J4 := Lib.hid I4
  have N4 := Lib.hid h3
  have B4 := Lib.hid (HW.out.trans (hb3.mono HW.out.size))
  clear I4 h3 hb3 HI HW HM
  go_wp2_with fail
  refine bodyPost_ret (v := .agg #[.bool (zneg (r)), .slice A3 (dig (r).natAbs).length c3]) (by simp [results, Tryz.results136, go_sem, c0, c1]) rfl ?_
  have h := retz_of (s := zneg (r)) (m := (r).natAbs) (zv_zneg _) hc3 N4.out J4.out (by omega) B4.out (.bool (zneg (r))) (.slice A3 (dig (r).natAbs).length c3) rfl
  rw [zv_zneg] at h
  exact h

theorem sign_zv {s : Bool} {m : Nat} (h : m ≠ 0) : Int.sign (zv s m) = if s then -1 else 1 := by
  cases s with
  | false => simp only [zv, Bool.false_eq_true, if_false]; exact Int.sign_eq_one_of_pos (by omega)
  | true => simp only [zv, if_true]; exact Int.sign_eq_neg_one_of_neg (by omega)

set_option maxHeartbeats 2000000 in
theorem sign_any (w : World) (s : Bool) (A : Option Addr) (c : Nat) (xs : List Nat) (z : Int) (ha : Num w A xs) (hx : zv s (val xs) = z) (hn : xs.length ≤ 100000) :
    Calls Tryz.prog 135 #[.agg #[.bool s, .slice A xs.length c]] w (RetI w z.sign) := by
  have HB := Lib.hid (fun o => E.Bits_any (w.alloc o) A c xs (ha.alloc o) (by omega))
  have HW : Hid (Below w.heap.size w (w.alloc (.cells #[.bool s, .slice A xs.length c] 25))) := (Below.refl _ _).alloc (Nat.le_refl _) _
  have HC : Hid ((w.alloc (.cells #[.bool s, .slice A xs.length c] 25)).cell? ⟨w.heap.size, 0, none⟩ = some (.bool s)) := (C2.base w _ _ _).1
  obtain ⟨m, hm⟩ : ∃ m, val xs = m := ⟨_, rfl⟩
  rw [hm] at hx HB
  clear ha hm
  by_cases h0 : m = 0
  · have hz : (((blen m : Nat) : Int) == 0) = true := by rw [h0, blen_zero]; rfl
    have HZ : Hid (z.sign = 0) := by show _ = _; rw [← hx, h0, zv_zero]; rfl
    clear hx h0
    go_enter Tryz.func135, Tryz.ntmps135
    go_wp2_with fail
    refine (HB.out _).mono ?_
    rintro e w' ⟨rfl, hb⟩
    have HB2 := Lib.hid (HW.out.trans (hb.mono HW.out.size))
    clear hb
    go_wp2_with fail
    go_ret
    rw [HZ.out]
    exact ⟨rfl, HB2.out⟩
  · have hz : (((blen m : Nat) : Int) == 0) = false := by rw [beq_eq_false_iff_ne]; have := blen_pos h0; omega
    have hsz := sign_zv (s := s) h0
    rw [hx] at hsz
    clear hx h0
    cases s with
    | true =>
      have HZ : Hid (z.sign = -1) := hsz
      clear hsz
      go_enter Tryz.func135, Tryz.ntmps135
      go_wp2_with fail
      refine (HB.out _).mono ?_
      rintro e w' ⟨rfl, hb⟩
      have c0 := (hb.cell (block_lt_of_cell HC.out)).trans HC.out
      have HB2 := Lib.hid (HW.out.trans (hb.mono HW.out.size))
      clear hb
      go_wp2_with fail
      go_ret
      rw [HZ.out]
      exact ⟨rfl, HB2.out⟩
    | false =>
      have HZ : Hid (z.sign = 1) := hsz
      clear hsz
      go_enter Tryz.func135, Tryz.ntmps135
      go_wp2_with fail
      refine (HB.out _).mono ?_
      rintro e w' ⟨rfl, hb⟩
      have c0 := (hb.cell (block_lt_of_cell HC.out)).trans HC.out
      have HB2 := Lib.hid (HW.out.trans (hb.mono HW.out.size))
      clear hb
      go_wp2_with fail
      go_ret
      rw [HZ.out]
      exact ⟨rfl, HB2.out⟩
end Go.Proofs.YtmbnlhedbedcdaaGreat.W

/- The document's answer for whole: Of. -/
namespace Go.Proofs.YtmbnlhedbedcdaaGreat.W
open Go.RowKit

theorem of_wrap1 {n : Int} (h1 : -9223372036854775808 ≤ n) (h2 : n < 0) : IntKind.u64.wrap (IntKind.u64.wrap (IntKind.i64.wrap (-(IntKind.i64.wrap (n + 1)))) + 1) = ((n.natAbs : Nat) : Int) := by
  rw [IntWalk.i64_in (n + 1) (by omega), IntWalk.i64_in (-(n + 1)) (by omega), IntKind.wrap_u64, IntKind.wrap_u64]; omega

set_option maxHeartbeats 2000000 in
theorem of_any (w : World) (z : Int) (h1 : -9223372036854775808 ≤ z) (h2 : z ≤ 9223372036854775807) :
    Calls Tryz.prog 109 #[.int .i64 z] w (RetZ w z) := by
  have HD : Digs [z.natAbs] := Digs.cons (by rw [B64_eq]; omega) Digs.nil
  by_cases hs : 0 ≤ z
  · have hw1 := u64_wrap_nonneg h2 hs
    have HM := Lib.hid (fun o1 => make_any ((w.alloc o1).alloc (.cells #[.int .u64 ((z.natAbs : Nat) : Int)] 127)) false (some ⟨(w.alloc o1).heap.size, 0, none⟩) 1 [z.natAbs] z ((Blk.lit1' (w.alloc o1) z.natAbs).num HD) (by rw [val_cons, val_nil]; simp only [zv, Bool.false_eq_true, if_false]; omega) (by simp))
    have HM2 := Lib.hid (HM.out (.cells #[.bool false, .slice none 0 0] 25))
    rw [show (w.alloc (.cells #[.bool false, .slice none 0 0] 25)).heap.size = w.heap.size + 1 by simp] at HM2
    have HW : Hid (Below w.heap.size w ((w.alloc (.cells #[.bool false, .slice none 0 0] 25)).alloc (.cells #[.int .u64 ((z.natAbs : Nat) : Int)] 127))) := ((Below.refl _ _).alloc (Nat.le_refl _) _).alloc (by simp) _
    have HI : Hid (Ibx ((w.alloc (.cells #[.bool false, .slice none 0 0] 25)).alloc (.cells #[.int .u64 ((z.natAbs : Nat) : Int)] 127)) w.heap.size false none 0 0) := (Ibx.new' _ _ _ _ _ _ rfl).alloc _
    clear HM HD
    go_enter Tryz.func109, Tryz.ntmps109
    go_wp2_with fail
    refine HM2.out.mono ?_
    rintro e w4 ⟨A3, c3, rfl, hc3, h3, hb3⟩
    have I4 := HI.out.below hb3
    have c0 := I4.c0
    have c1 := I4.c1
    have f0 := I4.f 0
    have f1 := I4.f 1
    have J4 := Lib.hid I4
    have N4 := Lib.hid h3
    have B4 := Lib.hid (HW.out.trans (hb3.mono HW.out.size))
    clear I4 h3 hb3 HI HW HM2
    go_wp2_with fail
    refine bodyPost_ret (v := .agg #[.bool (zneg (z)), .slice A3 (dig (z).natAbs).length c3]) (by simp [results, Tryz.results109, go_sem, c0, c1]) rfl ?_
    have h := retz_of (s := zneg (z)) (m := (z).natAbs) (zv_zneg _) hc3 N4.out J4.out (by omega) B4.out (.bool (zneg (z))) (.slice A3 (dig (z).natAbs).length c3) rfl
    rw [zv_zneg] at h
    exact h
  · obtain ⟨z1, hz1⟩ : ∃ z1, z + 1 = z1 := ⟨_, rfl⟩
    have hw0 : IntKind.i64.wrap (z + 1) = z1 := by rw [IntWalk.i64_in (z + 1) (by omega)]; exact hz1
    obtain ⟨z2, hz2⟩ : ∃ z2, -z1 = z2 := ⟨_, rfl⟩
    have hw1 : IntKind.i64.wrap (-z1) = z2 := by rw [IntWalk.i64_in (-z1) (by omega)]; exact hz2
    have hw2 : IntKind.u64.wrap z2 = z2 := by rw [IntKind.wrap_u64]; omega
    have hw3 : IntKind.u64.wrap (z2 + 1) = ((z.natAbs : Nat) : Int) := by rw [IntKind.wrap_u64]; omega
    have HH1 := Lib.hid h1
    have HH2 := Lib.hid h2
    have HM := Lib.hid (fun o1 => make_any ((w.alloc o1).alloc (.cells #[.int .u64 ((z.natAbs : Nat) : Int)] 127)) true (some ⟨(w.alloc o1).heap.size, 0, none⟩) 1 [z.natAbs] z ((Blk.lit1' (w.alloc o1) z.natAbs).num HD) (by have := HH1.out; rw [val_cons, val_nil]; simp only [zv, if_true]; omega) (by simp))
    have HM2 := Lib.hid (HM.out (.cells #[.bool false, .slice none 0 0] 25))
    rw [show (w.alloc (.cells #[.bool false, .slice none 0 0] 25)).heap.size = w.heap.size + 1 by simp] at HM2
    have HW : Hid (Below w.heap.size w ((w.alloc (.cells #[.bool false, .slice none 0 0] 25)).alloc (.cells #[.int .u64 ((z.natAbs : Nat) : Int)] 127))) := ((Below.refl _ _).alloc (Nat.le_refl _) _).alloc (by simp) _
    have HI : Hid (Ibx ((w.alloc (.cells #[.bool false, .slice none 0 0] 25)).alloc (.cells #[.int .u64 ((z.natAbs : Nat) : Int)] 127)) w.heap.size false none 0 0) := (Ibx.new' _ _ _ _ _ _ rfl).alloc _
    clear HM HD hz1 hz2 h1 h2
    go_enter Tryz.func109, Tryz.ntmps109
    go_wp2_with fail
    refine HM2.out.mono ?_
    rintro e w4 ⟨A3, c3, rfl, hc3, h3, hb3⟩
    have I4 := HI.out.below hb3
    have c0 := I4.c0
    have c1 := I4.c1
    have f0 := I4.f 0
    have f1 := I4.f 1
    have J4 := Lib.hid I4
    have N4 := Lib.hid h3
    have B4 := Lib.hid (HW.out.trans (hb3.mono HW.out.size))
    clear I4 h3 hb3 HI HW HM2
    go_wp2_with fail
    refine bodyPost_ret (v := .agg #[.bool (zneg (z)), .slice A3 (dig (z).natAbs).length c3]) (by simp [results, Tryz.results109, go_sem, c0, c1]) rfl ?_
    have h := retz_of (s := zneg (z)) (m := (z).natAbs) (zv_zneg _) hc3 N4.out J4.out (by omega) B4.out (.bool (zneg (z))) (.slice A3 (dig (z).natAbs).length c3) rfl
    rw [zv_zneg] at h
    exact h
end Go.Proofs.YtmbnlhedbedcdaaGreat.W

/- The document's answer for whole: Add. -/
namespace Go.Proofs.YtmbnlhedbedcdaaGreat.W
open Go.RowKit

/-- A call that tells a whole number behind others; the result's struct stood before. -/
theorem retz_at {P : Program} {f : FuncId} {args : Array Value} {w W1 w3 : World} {g : Nat} {r : Int} (h : Calls P f args w3 (RetZ w3 r)) (hI : Ibx W1 g false none 0 0) (hW : Below w.heap.size w W1) (hb3 : Below W1.heap.size W1 w3) :
    Calls P f args w3 fun e w4 => ∃ A4 c4, e = .returned (.agg #[.bool (zneg r), .slice A4 (dig r.natAbs).length c4]) ∧ (dig r.natAbs).length ≤ c4 ∧ Num w4 A4 (dig r.natAbs) ∧ Ibx w4 g false none 0 0 ∧ Below w.heap.size w w4 ∧ Below w3.heap.size w3 w4 := by
  refine h.mono ?_
  rintro e w4 ⟨A4, c4, rfl, hc4, h4, hb4⟩
  have h3 := hW.trans (hb3.mono hW.size)
  exact ⟨A4, c4, rfl, hc4, h4, (hI.below hb3).below hb4, h3.trans (hb4.mono h3.size), hb4⟩

set_option maxHeartbeats 8000000 in
theorem add_any (w : World) (s t : Bool) (A B : Option Addr) (c d : Nat) (xs ys : List Nat) (y z : Int) (ha : Num w A xs) (hb : Num w B ys) (hx : zv s (val xs) = y) (hy : zv t (val ys) = z) (hn : xs.length ≤ 7000) (hm : ys.length ≤ 7000) (r : Int) (hr : y + z = r) :
    Calls Tryz.prog 114 #[.agg #[.bool s, .slice A xs.length c], .agg #[.bool t, .slice B ys.length d]] w (RetZ w r) := by
  have hl1 : (dig y.natAbs).length ≤ 7000 := by
    rw [← hx, zv_natAbs]; exact Nat.le_trans (dig_length_val ha.1) hn
  have hl2 : (dig z.natAbs).length ≤ 7000 := by
    rw [← hy, zv_natAbs]; exact Nat.le_trans (dig_length_val hb.1) hm
  have HR := Lib.hid hr
  have HA := Lib.hid ha
  have HB := Lib.hid hb
  have HNM := Lib.hid (fun W h => norm_any W s A c xs y h hx (by omega) y rfl)
  have HNM2 := Lib.hid (fun W h => norm_any W t B d ys z h hy (by omega) z rfl)
  have HC0 := Lib.hid ((C4.base w (.bool s) (.slice A xs.length c) (.bool t) (.slice B ys.length d) 25 25).alloc (.cells #[.bool false, .slice none 0 0] 25))
  have HIa := Lib.hid (show Ibx (((w.alloc (.cells #[.bool s, .slice A xs.length c] 25)).alloc (.cells #[.bool t, .slice B ys.length d] 25)).alloc (.cells #[.bool false, .slice none 0 0] 25)) w.heap.size s A xs.length c from ((Ibx.new' _ _ _ _ _ _ rfl).alloc _).alloc _)
  have HIb := Lib.hid (show Ibx (((w.alloc (.cells #[.bool s, .slice A xs.length c] 25)).alloc (.cells #[.bool t, .slice B ys.length d] 25)).alloc (.cells #[.bool false, .slice none 0 0] 25)) (w.heap.size + 1) t B ys.length d from (Ibx.new' _ _ _ _ _ _ (by simp)).alloc _)
  have HIr := Lib.hid (show Ibx (((w.alloc (.cells #[.bool s, .slice A xs.length c] 25)).alloc (.cells #[.bool t, .slice B ys.length d] 25)).alloc (.cells #[.bool false, .slice none 0 0] 25)) (w.heap.size + 1 + 1) false none 0 0 from Ibx.new' _ _ _ _ _ _ (by simp))
  have HW := Lib.hid (show Below w.heap.size w (((w.alloc (.cells #[.bool s, .slice A xs.length c] 25)).alloc (.cells #[.bool t, .slice B ys.length d] 25)).alloc (.cells #[.bool false, .slice none 0 0] 25)) from (((Below.refl _ _).alloc (Nat.le_refl _) _).alloc (by simp) _).alloc (by simp; omega) _)
  have HNa := Lib.hid (show Num (((w.alloc (.cells #[.bool s, .slice A xs.length c] 25)).alloc (.cells #[.bool t, .slice B ys.length d] 25)).alloc (.cells #[.bool false, .slice none 0 0] 25)) A xs from ((ha.alloc _).alloc _).alloc _)
  have HNb := Lib.hid (show Num (((w.alloc (.cells #[.bool s, .slice A xs.length c] 25)).alloc (.cells #[.bool t, .slice B ys.length d] 25)).alloc (.cells #[.bool false, .slice none 0 0] 25)) B ys from ((hb.alloc _).alloc _).alloc _)
  obtain ⟨k0, k1, k2, k3⟩ := HC0.out
  have fa0 := HIa.out.f 0
  have fa1 := HIa.out.f 1
  clear ha hb hx hy hr
  go_enter Tryz.func114, Tryz.ntmps114
  go_upto_region 1 with fail
  go_cut [4] (fun s4 wx => s4 = .pointer (some ⟨w.heap.size + 1 + 1, 0, none⟩) ∧ ∃ (A1 : Option Addr) (c1 : Nat), (dig y.natAbs).length ≤ c1 ∧ Num wx A1 (dig y.natAbs) ∧ Num wx B ys ∧ Ibx wx w.heap.size (zneg y) A1 (dig y.natAbs).length c1 ∧ Ibx wx (w.heap.size + 1) t B ys.length d ∧ Ibx wx (w.heap.size + 1 + 1) false none 0 0 ∧ Below w.heap.size w wx)
  case first =>
    go_wp2_with fail
    refine (HNM.out _ HNa.out).mono ?_
    rintro e w4 ⟨A1, c1, rfl, hc1, h4, hb4⟩
    have Ia := HIa.out.below hb4
    have Ib := HIb.out.below hb4
    have Ir := HIr.out.below hb4
    have Nb := HNb.out.below hb4
    have W4 := HW.out.trans (hb4.mono HW.out.size)
    have f0 := Ia.f 0
    have f1 := Ia.f 1
    have g0 := Ia.c0
    have g1 := Ia.c1
    have HH : Hid ((dig y.natAbs).length ≤ c1 ∧ Num ((w4.setCell ⟨w.heap.size, 0, none⟩ (.bool (zneg y))).setCell ⟨w.heap.size, 1, none⟩ (.slice A1 (dig y.natAbs).length c1)) A1 (dig y.natAbs) ∧ Num ((w4.setCell ⟨w.heap.size, 0, none⟩ (.bool (zneg y))).setCell ⟨w.heap.size, 1, none⟩ (.slice A1 (dig y.natAbs).length c1)) B ys ∧ Ibx ((w4.setCell ⟨w.heap.size, 0, none⟩ (.bool (zneg y))).setCell ⟨w.heap.size, 1, none⟩ (.slice A1 (dig y.natAbs).length c1)) w.heap.size (zneg y) A1 (dig y.natAbs).length c1 ∧ Ibx ((w4.setCell ⟨w.heap.size, 0, none⟩ (.bool (zneg y))).setCell ⟨w.heap.size, 1, none⟩ (.slice A1 (dig y.natAbs).length c1)) (w.heap.size + 1) t B ys.length d ∧ Ibx ((w4.setCell ⟨w.heap.size, 0, none⟩ (.bool (zneg y))).setCell ⟨w.heap.size, 1, none⟩ (.slice A1 (dig y.natAbs).length c1)) (w.heap.size + 1 + 1) false none 0 0 ∧ Below w.heap.size w ((w4.setCell ⟨w.heap.size, 0, none⟩ (.bool (zneg y))).setCell ⟨w.heap.size, 1, none⟩ (.slice A1 (dig y.natAbs).length c1))) := ⟨hc1, h4.two Ia _ _, Nb.two Ia _ _, Ia.two _ _ _ _, (Ib.far (by simp) _).far (by simp) _, (Ir.far (by simp; omega) _).far (by simp; omega) _, (W4.setCell (Nat.le_refl _) _).setCell (Nat.le_refl _) _⟩
    clear Ia Ib Ir Nb W4 h4 hb4
    go_wp2_with fail
    go_meet
    exact ⟨rfl, A1, c1, HH.out⟩
  case rest =>
    obtain ⟨rfl, A1, c1, hc1, hN1, hNb, hIa, hIb, hIr, hW⟩ := hcut
    have HN1 := Lib.hid hN1
    have HNb' := Lib.hid hNb
    have HIa' := Lib.hid hIa
    have HIb' := Lib.hid hIb
    have HIr' := Lib.hid hIr
    have HW' := Lib.hid hW
    have e2 := hIb.c0
    have e3 := hIb.c1
    have fb0 := hIb.f 0
    have fb1 := hIb.f 1
    clear hN1 hNb hIa hIb hIr hW k0 k1 k2 k3 fa0 fa1 HIa HIb HIr HW HNa HNb HC0 HA HB HNM
    go_upto_region 2 with fail
    go_cut [4] (fun s4 wx => s4 = .pointer (some ⟨w.heap.size + 1 + 1, 0, none⟩) ∧ ∃ (A2 : Option Addr) (c2 : Nat), (dig z.natAbs).length ≤ c2 ∧ Num wx A1 (dig y.natAbs) ∧ Num wx A2 (dig z.natAbs) ∧ Ibx wx w.heap.size (zneg y) A1 (dig y.natAbs).length c1 ∧ Ibx wx (w.heap.size + 1) (zneg z) A2 (dig z.natAbs).length c2 ∧ Ibx wx (w.heap.size + 1 + 1) false none 0 0 ∧ Below w.heap.size w wx)
    case first =>
      go_wp2_with fail
      refine (HNM2.out _ HNb'.out).mono ?_
      rintro e w4 ⟨A2, c2, rfl, hc2, h4, hb4⟩
      have Ia := HIa'.out.below hb4
      have Ib := HIb'.out.below hb4
      have Ir := HIr'.out.below hb4
      have N1 := HN1.out.below hb4
      have W4 := HW'.out.trans (hb4.mono HW'.out.size)
      have f0 := Ib.f 0
      have f1 := Ib.f 1
      have g0 := Ib.c0
      have g1 := Ib.c1
      have HH : Hid ((dig z.natAbs).length ≤ c2 ∧ Num ((w4.setCell ⟨w.heap.size + 1, 0, none⟩ (.bool (zneg z))).setCell ⟨w.heap.size + 1, 1, none⟩ (.slice A2 (dig z.natAbs).length c2)) A1 (dig y.natAbs) ∧ Num ((w4.setCell ⟨w.heap.size + 1, 0, none⟩ (.bool (zneg z))).setCell ⟨w.heap.size + 1, 1, none⟩ (.slice A2 (dig z.natAbs).length c2)) A2 (dig z.natAbs) ∧ Ibx ((w4.setCell ⟨w.heap.size + 1, 0, none⟩ (.bool (zneg z))).setCell ⟨w.heap.size + 1, 1, none⟩ (.slice A2 (dig z.natAbs).length c2)) w.heap.size (zneg y) A1 (dig y.natAbs).length c1 ∧ Ibx ((w4.setCell ⟨w.heap.size + 1, 0, none⟩ (.bool (zneg z))).setCell ⟨w.heap.size + 1, 1, none⟩ (.slice A2 (dig z.natAbs).length c2)) (w.heap.size + 1) (zneg z) A2 (dig z.natAbs).length c2 ∧ Ibx ((w4.setCell ⟨w.heap.size + 1, 0, none⟩ (.bool (zneg z))).setCell ⟨w.heap.size + 1, 1, none⟩ (.slice A2 (dig z.natAbs).length c2)) (w.heap.size + 1 + 1) false none 0 0 ∧ Below w.heap.size w ((w4.setCell ⟨w.heap.size + 1, 0, none⟩ (.bool (zneg z))).setCell ⟨w.heap.size + 1, 1, none⟩ (.slice A2 (dig z.natAbs).length c2))) := ⟨hc2, N1.two Ib _ _, h4.two Ib _ _, (Ia.far (by simp) _).far (by simp) _, Ib.two _ _ _ _, (Ir.far (by simp) _).far (by simp) _, (W4.setCell (by simp) _).setCell (by simp) _⟩
      clear Ia Ib Ir N1 W4 h4 hb4
      go_wp2_with fail
      go_meet
      exact ⟨rfl, A2, c2, HH.out⟩
    case rest =>
      obtain ⟨rfl, A2, c2, hc2, hN1, hN2, hIa, hIb, hIr, hW⟩ := hcut
      clear HN1 HNb' HIa' HIb' HIr' HW' e2 e3 fb0 fb1 HNM2
      have HY := Lib.hid (zv_zneg y)
      have HZ := Lib.hid (zv_zneg z)
      obtain ⟨a, hya⟩ : ∃ a, y.natAbs = a := ⟨_, rfl⟩
      obtain ⟨b, hzb⟩ : ∃ b, z.natAbs = b := ⟨_, rfl⟩
      obtain ⟨sy, hsy⟩ : ∃ sy, zneg y = sy := ⟨_, rfl⟩
      obtain ⟨sz, hsz⟩ : ∃ sz, zneg z = sz := ⟨_, rfl⟩
      rw [hya] at hN1 hIa hc1 HY hl1
      rw [hzb] at hN2 hIb hc2 HZ hl2
      rw [hsy] at hIa HY
      rw [hsz] at hIb HZ
      have HN1 := Lib.hid hN1
      have HN2 := Lib.hid hN2
      have HI3 := Lib.hid hIr
      have HW3 := Lib.hid hW
      have HC4 : Hid (C4 w.heap.size (.bool sy) (.slice A1 (dig a).length c1) (.bool sz) (.slice A2 (dig b).length c2) wc) := C4.of ⟨hIa.c0, hIa.c1⟩ ⟨hIb.c0, hIb.c1⟩
      clear hN1 hN2 hIa hIb hIr hW hya hzb hsy hsz
      obtain ⟨k0, k1, k2, k3⟩ := HC4.out
      by_cases hss : sy = sz
      · subst hss
        have hse : (sy == sy) = true := by simp
        obtain ⟨m, hmm⟩ : ∃ m, a + b = m := ⟨_, rfl⟩
        have hdm : (dig m).length ≤ 100000 := by
          rw [← hmm]; have := dl_add a b; omega
        have HX : Hid (zv sy m = r) := by
          show _ = _
          rw [← hmm, ← HR.out, ← HY.out, ← HZ.out]
          exact zadd_same
        have HMM := Lib.hid hmm
        have HMK := Lib.hid (fun W A c h => make_any W sy A c (dig m) r h (by rw [val_dig]; exact HX.out) (by omega))
        clear hmm
        go_wp2_with fail
        go_region_held3 (fun W => W.cell? ⟨w.heap.size, 0, none⟩ = some (.bool sy) ∧ W.cell? ⟨w.heap.size, 1, none⟩ = some (.slice A1 (dig a).length c1) ∧ W.cell? ⟨w.heap.size + 1, 0, none⟩ = some (.bool sy) ∧ W.cell? ⟨w.heap.size + 1, 1, none⟩ = some (.slice A2 (dig b).length c2))
         (first | exact C4.alloc (by assumption) _ | exact C4.below hb34 (by assumption) | exact C4.below hb3 (by assumption) | exact C4.drew HC4.out | exact C4.drew ((C4.base _ _ _ _ _ _ _).alloc _) | exact C4.far (C4.far (by assumption) (by first | (simp; done) | (simp; omega)) (by first | (simp; done) | (simp; omega)) _) (by first | (simp; done) | (simp; omega)) (by first | (simp; done) | (simp; omega)) _)
         (first
          | (go_at_call 142; (refine (eadd_n _ A1 A2 c1 c2 (dig a) (dig b) a b HN1.out.drew HN2.out.drew (val_dig _) (val_dig _) (by omega) (by omega) hc1 hc2 m HMM.out).mono ?_); rintro e w3 ⟨A3, c3, rfl, hc3, ha3, hb3⟩)
          | (go_at_call 137; refine (retz_at (w := w) (g := w.heap.size + 1 + 1) (HMK.out w3 A3 c3 ha3) ?_ ?_ hb3).mono ?_; (repeat (first | exact HI3.out | (with_reducible refine Ibx.drew ?_))); (repeat (first | exact HW3.out | (with_reducible refine Below.drew ?_))); rintro e w4 ⟨A4, c4, rfl, hc4, n4, I4, hb4, hb34⟩; have c0 := I4.c0; have c1 := I4.c1; have f0 := I4.f 0; have f1 := I4.f 1))
        all_goals
          go_wp2_with fail
          refine bodyPost_ret (v := .agg #[.bool (zneg r), .slice A4 (dig r.natAbs).length c4]) (by simp [results, Tryz.results114, go_sem, c0, c1]) rfl ?_
          have h := retz_of (s := zneg r) (m := r.natAbs) (zv_zneg _) hc4 n4 I4 (by omega) hb4 (.bool (zneg r)) (.slice A4 (dig r.natAbs).length c4) rfl
          rw [zv_zneg] at h
          exact h
      · have hse : (sy == sz) = false := by simp [hss]
        have HNE := Lib.hid hss
        clear hss
        by_cases hab : b ≤ a
        · obtain ⟨k, hk⟩ : ∃ k, cmpv a b = k := ⟨_, rfl⟩
          have hk0 : (0 : Int) ≤ k := by rw [← hk]; unfold cmpv; rw [if_neg (by omega)]; split <;> omega
          have dk0 : decide ((0 : Int) ≤ k) = true := decide_eq_true hk0
          have HCM := Lib.hid (ecmp_n wc A1 A2 c1 c2 (dig a) (dig b) a b HN1.out HN2.out (val_dig _) (val_dig _) (by omega) (by omega) hc1 hc2 k hk)
          clear hk
          go_wp2_with fail
          refine HCM.out.mono ?_
          rintro e w5 ⟨rfl, hb5⟩
          have HN1' := Lib.hid (HN1.out.below hb5)
          have HN2' := Lib.hid (HN2.out.below hb5)
          have HI3' := Lib.hid (HI3.out.below hb5)
          have HW3' := Lib.hid (HW3.out.trans (hb5.mono HW3.out.size))
          have HC4' := Lib.hid (HC4.out.below hb5)
          obtain ⟨k0, k1, k2, k3⟩ := HC4'.out
          clear hb5 HN1 HN2 HI3 HW3 HC4
          have HN1 := Lib.hid HN1'.out
          have HN2 := Lib.hid HN2'.out
          have HI3 := Lib.hid HI3'.out
          have HW3 := Lib.hid HW3'.out
          have HC4 := Lib.hid HC4'.out
          clear HN1' HN2' HI3' HW3' HC4'
          obtain ⟨m, hmm⟩ : ∃ m, a - b = m := ⟨_, rfl⟩
          have hdm : (dig m).length ≤ 100000 := by
            rw [← hmm]; have := dl_le (Nat.sub_le a b); omega
          have HX : Hid (zv sy m = r) := by
            show _ = _
            rw [← hmm, ← HR.out, ← HY.out, ← HZ.out]
            exact zadd_more HNE.out hab
          have HMM := Lib.hid hmm
          have HMK := Lib.hid (fun W A c h => make_any W sy A c (dig m) r h (by rw [val_dig]; exact HX.out) (by omega))
          clear hmm
          go_wp2_with fail
          go_region_held3 (fun W => W.cell? ⟨w.heap.size, 0, none⟩ = some (.bool sy) ∧ W.cell? ⟨w.heap.size, 1, none⟩ = some (.slice A1 (dig a).length c1) ∧ W.cell? ⟨w.heap.size + 1, 0, none⟩ = some (.bool sz) ∧ W.cell? ⟨w.heap.size + 1, 1, none⟩ = some (.slice A2 (dig b).length c2))
           (first | exact C4.alloc (by assumption) _ | exact C4.below hb34 (by assumption) | exact C4.below hb3 (by assumption) | exact C4.drew HC4.out | exact C4.drew ((C4.base _ _ _ _ _ _ _).alloc _) | exact C4.far (C4.far (by assumption) (by first | (simp; done) | (simp; omega)) (by first | (simp; done) | (simp; omega)) _) (by first | (simp; done) | (simp; omega)) (by first | (simp; done) | (simp; omega)) _)
           (first
            | (go_at_call 144; (refine (esub_n _ A1 A2 c1 c2 (dig a) (dig b) a b HN1.out.drew HN2.out.drew (val_dig _) (val_dig _) (by omega) (by omega) hc1 hc2 m HMM.out).mono ?_); rintro e w3 ⟨A3, c3, rfl, hc3, ha3, hb3⟩)
            | (go_at_call 137; refine (retz_at (w := w) (g := w.heap.size + 1 + 1) (HMK.out w3 A3 c3 ha3) ?_ ?_ hb3).mono ?_; (repeat (first | exact HI3.out | (with_reducible refine Ibx.drew ?_))); (repeat (first | exact HW3.out | (with_reducible refine Below.drew ?_))); rintro e w4 ⟨A4, c4, rfl, hc4, n4, I4, hb4, hb34⟩; have c0 := I4.c0; have c1 := I4.c1; have f0 := I4.f 0; have f1 := I4.f 1))
          all_goals
            go_wp2_with fail
            refine bodyPost_ret (v := .agg #[.bool (zneg r), .slice A4 (dig r.natAbs).length c4]) (by simp [results, Tryz.results114, go_sem, c0, c1]) rfl ?_
            have h := retz_of (s := zneg r) (m := r.natAbs) (zv_zneg _) hc4 n4 I4 (by omega) hb4 (.bool (zneg r)) (.slice A4 (dig r.natAbs).length c4) rfl
            rw [zv_zneg] at h
            exact h
        · have hab' : a ≤ b := by omega
          obtain ⟨k, hk⟩ : ∃ k, cmpv a b = k := ⟨_, rfl⟩
          have hk0 : ¬ (0 : Int) ≤ k := by rw [← hk, cmpv_lt (by omega)]; omega
          have dk0 : decide ((0 : Int) ≤ k) = false := decide_eq_false hk0
          have HCM := Lib.hid (ecmp_n wc A1 A2 c1 c2 (dig a) (dig b) a b HN1.out HN2.out (val_dig _) (val_dig _) (by omega) (by omega) hc1 hc2 k hk)
          clear hk
          go_wp2_with fail
          refine HCM.out.mono ?_
          rintro e w5 ⟨rfl, hb5⟩
          have HN1' := Lib.hid (HN1.out.below hb5)
          have HN2' := Lib.hid (HN2.out.below hb5)
          have HI3' := Lib.hid (HI3.out.below hb5)
          have HW3' := Lib.hid (HW3.out.trans (hb5.mono HW3.out.size))
          have HC4' := Lib.hid (HC4.out.below hb5)
          obtain ⟨k0, k1, k2, k3⟩ := HC4'.out
          clear hb5 HN1 HN2 HI3 HW3 HC4
          have HN1 := Lib.hid HN1'.out
          have HN2 := Lib.hid HN2'.out
          have HI3 := Lib.hid HI3'.out
          have HW3 := Lib.hid HW3'.out
          have HC4 := Lib.hid HC4'.out
          clear HN1' HN2' HI3' HW3' HC4'
          obtain ⟨m, hmm⟩ : ∃ m, b - a = m := ⟨_, rfl⟩
          have hdm : (dig m).length ≤ 100000 := by
            rw [← hmm]; have := dl_le (Nat.sub_le b a); omega
          have HX : Hid (zv sz m = r) := by
            show _ = _
            rw [← hmm, ← HR.out, ← HY.out, ← HZ.out]
            exact zadd_less HNE.out hab'
          have HMM := Lib.hid hmm
          have HMK := Lib.hid (fun W A c h => make_any W sz A c (dig m) r h (by rw [val_dig]; exact HX.out) (by omega))
          clear hmm
          go_wp2_with fail
          go_region_held3 (fun W => W.cell? ⟨w.heap.size, 0, none⟩ = some (.bool sy) ∧ W.cell? ⟨w.heap.size, 1, none⟩ = some (.slice A1 (dig a).length c1) ∧ W.cell? ⟨w.heap.size + 1, 0, none⟩ = some (.bool sz) ∧ W.cell? ⟨w.heap.size + 1, 1, none⟩ = some (.slice A2 (dig b).length c2))
           (first | exact C4.alloc (by assumption) _ | exact C4.below hb34 (by assumption) | exact C4.below hb3 (by assumption) | exact C4.drew HC4.out | exact C4.drew ((C4.base _ _ _ _ _ _ _).alloc _) | exact C4.far (C4.far (by assumption) (by first | (simp; done) | (simp; omega)) (by first | (simp; done) | (simp; omega)) _) (by first | (simp; done) | (simp; omega)) (by first | (simp; done) | (simp; omega)) _)
           (first
            | (go_at_call 144; (refine (esub_n _ A2 A1 c2 c1 (dig b) (dig a) b a HN2.out.drew HN1.out.drew (val_dig _) (val_dig _) (by omega) (by omega) hc2 hc1 m HMM.out).mono ?_); rintro e w3 ⟨A3, c3, rfl, hc3, ha3, hb3⟩)
            | (go_at_call 137; refine (retz_at (w := w) (g := w.heap.size + 1 + 1) (HMK.out w3 A3 c3 ha3) ?_ ?_ hb3).mono ?_; (repeat (first | exact HI3.out | (with_reducible refine Ibx.drew ?_))); (repeat (first | exact HW3.out | (with_reducible refine Below.drew ?_))); rintro e w4 ⟨A4, c4, rfl, hc4, n4, I4, hb4, hb34⟩; have c0 := I4.c0; have c1 := I4.c1; have f0 := I4.f 0; have f1 := I4.f 1))
          all_goals
            go_wp2_with fail
            refine bodyPost_ret (v := .agg #[.bool (zneg r), .slice A4 (dig r.natAbs).length c4]) (by simp [results, Tryz.results114, go_sem, c0, c1]) rfl ?_
            have h := retz_of (s := zneg r) (m := r.natAbs) (zv_zneg _) hc4 n4 I4 (by omega) hb4 (.bool (zneg r)) (.slice A4 (dig r.natAbs).length c4) rfl
            rw [zv_zneg] at h
            exact h
end Go.Proofs.YtmbnlhedbedcdaaGreat.W

/- The document's answer for whole: Mul, Gcd, Sub, Cmp. -/
namespace Go.Proofs.YtmbnlhedbedcdaaGreat.W
open Go.RowKit

set_option maxHeartbeats 4000000 in
theorem mul_any (w : World) (s t : Bool) (A B : Option Addr) (c d : Nat) (xs ys : List Nat) (y z : Int) (ha : Num w A xs) (hb : Num w B ys) (hx : zv s (val xs) = y) (hy : zv t (val ys) = z) (hn : xs.length ≤ 7000) (hm : ys.length ≤ 7000) (hc : xs.length ≤ c) (hd : ys.length ≤ d) (r : Int) (hr : y * z = r) :
    Calls Tryz.prog 115 #[.agg #[.bool s, .slice A xs.length c], .agg #[.bool t, .slice B ys.length d]] w (RetZ w r) := by
  have hd1 := dig_length_val ha.1
  have hd2 := dig_length_val hb.1
  have HA := Lib.hid ha
  have HB := Lib.hid hb
  obtain ⟨a, hva⟩ : ∃ a, val xs = a := ⟨_, rfl⟩
  obtain ⟨b, hvb⟩ : ∃ b, val ys = b := ⟨_, rfl⟩
  rw [hva] at hd1 hx
  rw [hvb] at hd2 hy
  have HVA := Lib.hid hva
  have HVB := Lib.hid hvb
  obtain ⟨m, hmm⟩ : ∃ m, a * b = m := ⟨_, rfl⟩
  have hdm : (dig m).length ≤ 100000 := by
    rw [← hmm]; have := dl_mul a b; omega
  have HX : Hid (zv (s != t) m = r) := by
    show _ = _
    rw [← hmm, ← hr, ← hx, ← hy]
    cases s <;> cases t <;> simp [zv, Int.neg_mul, Int.mul_neg]
  have HMM := Lib.hid hmm
  have HMK := Lib.hid (fun W A c h => make_any W (s != t) A c (dig m) r h (by rw [val_dig]; exact HX.out) (by omega))
  clear ha hb hx hy hva hvb hmm hr
  go_enter Tryz.func115, Tryz.ntmps115
  go_wp2_with fail
  go_region_held3 (fun W => W.cell? ⟨w.heap.size, 0, none⟩ = some (.bool s) ∧ W.cell? ⟨w.heap.size, 1, none⟩ = some (.slice A xs.length c) ∧ W.cell? ⟨w.heap.size + 1, 0, none⟩ = some (.bool t) ∧ W.cell? ⟨w.heap.size + 1, 1, none⟩ = some (.slice B ys.length d))
   (first | exact C4.alloc (by assumption) _ | exact C4.below hb34 (by assumption) | exact C4.below hb3 (by assumption) | exact C4.drew ((C4.base _ _ _ _ _ _ _).alloc _) | exact C4.far (C4.far (by assumption) (by first | (simp; done) | (simp; omega)) (by first | (simp; done) | (simp; omega)) _) (by first | (simp; done) | (simp; omega)) (by first | (simp; done) | (simp; omega)) _)
   (first
  | (go_at_call 145; (refine (emul_n _ A B c d xs ys a b ?_ ?_ HVA.out HVB.out (by omega) (by omega) hc hd m HMM.out).mono ?_); (repeat (first | exact HA.out | (with_reducible refine Num.drew ?_) | (with_reducible refine Num.alloc ?_ _))); (repeat (first | exact HB.out | (with_reducible refine Num.drew ?_) | (with_reducible refine Num.alloc ?_ _))); rintro e w3 ⟨A3, c3, rfl, hc3, ha3, hb3⟩)
  | (go_at_call 137; refine (retz_at (w := w) (g := w.heap.size + 1 + 1) (HMK.out w3 A3 c3 ha3) ?_ ?_ hb3).mono ?_; (repeat (first | exact Ibx.new' _ _ _ _ _ _ (by simp) | (with_reducible refine Ibx.drew ?_) | (with_reducible refine Ibx.alloc ?_ _))); (repeat (first | exact Below.refl _ _ | (with_reducible refine Below.drew ?_) | (with_reducible refine Below.alloc ?_ (by first | exact Nat.le_refl _ | (simp; done) | (simp; omega)) _))); rintro e w4 ⟨A4, c4, rfl, hc4, n4, I4, hb4, hb34⟩; have c0 := I4.c0; have c1 := I4.c1; have f0 := I4.f 0; have f1 := I4.f 1))
  all_goals
    go_wp2_with fail
    refine bodyPost_ret (v := .agg #[.bool (zneg r), .slice A4 (dig r.natAbs).length c4]) (by simp [results, Tryz.results115, go_sem, c0, c1]) rfl ?_
    have h := retz_of (s := zneg r) (m := r.natAbs) (zv_zneg _) hc4 n4 I4 (by omega) hb4 (.bool (zneg r)) (.slice A4 (dig r.natAbs).length c4) rfl
    rw [zv_zneg] at h
    exact h

set_option maxHeartbeats 4000000 in
theorem gcd_any (w : World) (s t : Bool) (A B : Option Addr) (c d : Nat) (xs ys : List Nat) (y z : Int) (ha : Num w A xs) (hb : Num w B ys) (hx : zv s (val xs) = y) (hy : zv t (val ys) = z) (hn : xs.length ≤ 7000) (hm : ys.length ≤ 7000) (hc : xs.length ≤ c) (hd : ys.length ≤ d) (r : Int) (hr : ((Nat.gcd y.natAbs z.natAbs : Nat) : Int) = r) :
    Calls Tryz.prog 139 #[.agg #[.bool s, .slice A xs.length c], .agg #[.bool t, .slice B ys.length d]] w (RetZ w r) := by
  have hd1 := dig_length_val ha.1
  have hd2 := dig_length_val hb.1
  have HA := Lib.hid ha
  have HB := Lib.hid hb
  obtain ⟨a, hva⟩ : ∃ a, val xs = a := ⟨_, rfl⟩
  obtain ⟨b, hvb⟩ : ∃ b, val ys = b := ⟨_, rfl⟩
  rw [hva] at hd1 hx
  rw [hvb] at hd2 hy
  have HVA := Lib.hid hva
  have HVB := Lib.hid hvb
  obtain ⟨m, hmm⟩ : ∃ m, Nat.gcd a b = m := ⟨_, rfl⟩
  have hdm : (dig m).length ≤ 100000 := by
    rw [← hmm]; have := dl_gcd a b; omega
  have HX : Hid (zv false m = r) := by
    show _ = _
    rw [← hr, ← hx, ← hy, zv_natAbs, zv_natAbs, hmm]
    simp [zv]
  have HMM := Lib.hid hmm
  have HI := Lib.hid (show Ibx (((w.alloc (.cells #[.bool s, .slice A xs.length c] 25)).alloc (.cells #[.bool t, .slice B ys.length d] 25)).alloc (.cells #[.bool false, .slice none 0 0] 25)) (w.heap.size + 1 + 1) false none 0 0 from Ibx.new' _ _ _ _ _ _ (by simp))
  have HW := Lib.hid (show Below w.heap.size w (((w.alloc (.cells #[.bool s, .slice A xs.length c] 25)).alloc (.cells #[.bool t, .slice B ys.length d] 25)).alloc (.cells #[.bool false, .slice none 0 0] 25)) from (((Below.refl _ _).alloc (Nat.le_refl _) _).alloc (by simp) _).alloc (by simp; omega) _)
  have HC4 := Lib.hid ((C4.base w (.bool s) (.slice A xs.length c) (.bool t) (.slice B ys.length d) 25 25).alloc (.cells #[.bool false, .slice none 0 0] 25))
  have HG := Lib.hid (fun o1 o2 o3 => egcd_n (((w.alloc o1).alloc o2).alloc o3) A B c d xs ys a b (((HA.out.alloc o1).alloc o2).alloc o3) (((HB.out.alloc o1).alloc o2).alloc o3) HVA.out HVB.out (by omega) (by omega) hc hd m HMM.out)
  obtain ⟨k0, k1, k2, k3⟩ := HC4.out
  clear ha hb hx hy hva hvb hmm hr
  go_enter Tryz.func139, Tryz.ntmps139
  go_wp2_with fail
  refine (HG.out _ _ _).mono ?_
  rintro e w3 ⟨A3, c3, rfl, hc3, ha3, hb3⟩
  have HMK := Lib.hid (retz_at (w := w) (g := w.heap.size + 1 + 1) (make_any w3 false A3 c3 (dig m) r ha3 (by rw [val_dig]; exact HX.out) (by omega)) HI.out HW.out hb3)
  clear ha3 hb3 HG HI HW HC4 k0 k1 k2 k3
  go_wp2_with fail
  refine HMK.out.mono ?_
  rintro e w4 ⟨A4, c4, rfl, hc4, n4, I4, hb4, hb34⟩
  have c0 := I4.c0
  have c1 := I4.c1
  have f0 := I4.f 0
  have f1 := I4.f 1
  go_wp2_with fail
  refine bodyPost_ret (v := .agg #[.bool (zneg r), .slice A4 (dig r.natAbs).length c4]) (by simp [results, Tryz.results139, go_sem, c0, c1]) rfl ?_
  have h := retz_of (s := zneg r) (m := r.natAbs) (zv_zneg _) hc4 n4 I4 (by omega) hb4 (.bool (zneg r)) (.slice A4 (dig r.natAbs).length c4) rfl
  rw [zv_zneg] at h
  exact h

set_option maxHeartbeats 4000000 in
theorem sub_any (w : World) (s t : Bool) (A B : Option Addr) (c d : Nat) (xs ys : List Nat) (y z : Int) (ha : Num w A xs) (hb : Num w B ys) (hx : zv s (val xs) = y) (hy : zv t (val ys) = z) (hn : xs.length ≤ 7000) (hm : ys.length ≤ 7000) (r : Int) (hr : y - z = r) :
    Calls Tryz.prog 167 #[.agg #[.bool s, .slice A xs.length c], .agg #[.bool t, .slice B ys.length d]] w (RetZ w r) := by
  have hl2 : (dig z.natAbs).length ≤ 7000 := by
    rw [← hy, zv_natAbs]; exact Nat.le_trans (dig_length_val hb.1) hm
  obtain ⟨q, hq⟩ : ∃ q, -z = q := ⟨_, rfl⟩
  have HNG := Lib.hid (fun W h => neg_any W t B d ys z h hy (by omega) q hq)
  have hlq : (dig q.natAbs).length ≤ 7000 := by rw [← hq, Int.natAbs_neg]; exact hl2
  have HAD := Lib.hid (fun W A3 c3 h1 h2 => add_any W s (zneg q) A A3 c c3 xs (dig q.natAbs) y q h1 h2 hx (by rw [val_dig]; exact zv_zneg q) hn hlq r (by rw [← hq, ← hr]; omega))
  have HA := Lib.hid ha
  have HB := Lib.hid hb
  clear ha hb hx hy hr hq
  go_enter Tryz.func167, Tryz.ntmps167
  go_wp2_with fail
  go_region_held3 (fun W => W.cell? ⟨w.heap.size, 0, none⟩ = some (.bool s) ∧ W.cell? ⟨w.heap.size, 1, none⟩ = some (.slice A xs.length c) ∧ W.cell? ⟨w.heap.size + 1, 0, none⟩ = some (.bool t) ∧ W.cell? ⟨w.heap.size + 1, 1, none⟩ = some (.slice B ys.length d))
   (first | exact C4.alloc (by assumption) _ | exact C4.below hb34 (by assumption) | exact C4.below hb3 (by assumption) | exact C4.drew ((C4.base _ _ _ _ _ _ _).alloc _) | exact C4.far (C4.far (by assumption) (by first | (simp; done) | (simp; omega)) (by first | (simp; done) | (simp; omega)) _) (by first | (simp; done) | (simp; omega)) (by first | (simp; done) | (simp; omega)) _)
   (first
    | (go_at_call 136; (refine (HNG.out _ ?_).mono ?_); (repeat (first | exact HB.out | (with_reducible refine Num.drew ?_) | (with_reducible refine Num.alloc ?_ _))); rintro e w3 ⟨A3, c3, rfl, hc3, ha3, hb3⟩)
    | (go_at_call 114; refine (retz_at (w := w) (g := w.heap.size + 1 + 1) (HAD.out w3 A3 c3 (Num.below ?_ hb3) ha3) ?_ ?_ hb3).mono ?_; (repeat (first | exact HA.out | (with_reducible refine Num.drew ?_) | (with_reducible refine Num.alloc ?_ _))); (repeat (first | exact Ibx.new' _ _ _ _ _ _ (by simp) | (with_reducible refine Ibx.drew ?_) | (with_reducible refine Ibx.alloc ?_ _))); (repeat (first | exact Below.refl _ _ | (with_reducible refine Below.drew ?_) | (with_reducible refine Below.alloc ?_ (by first | exact Nat.le_refl _ | (simp; done) | (simp; omega)) _))); rintro e w4 ⟨A4, c4, rfl, hc4, n4, I4, hb4, hb34⟩; have c0 := I4.c0; have c1 := I4.c1; have f0 := I4.f 0; have f1 := I4.f 1))
  all_goals
    go_wp2_with fail
    refine bodyPost_ret (v := .agg #[.bool (zneg r), .slice A4 (dig r.natAbs).length c4]) (by simp [results, Tryz.results167, go_sem, c0, c1]) rfl ?_
    have h := retz_of (s := zneg r) (m := r.natAbs) (zv_zneg _) hc4 n4 I4 (by omega) hb4 (.bool (zneg r)) (.slice A4 (dig r.natAbs).length c4) rfl
    rw [zv_zneg] at h
    exact h

theorem cmp_any (w : World) (s t : Bool) (A B : Option Addr) (c d : Nat) (xs ys : List Nat) (y z : Int) (ha : Num w A xs) (hb : Num w B ys) (hx : zv s (val xs) = y) (hy : zv t (val ys) = z) (hn : xs.length ≤ 7000) (hm : ys.length ≤ 7000) (r : Int) (hr : zcmp y z = r) :
    Calls Tryz.prog 141 #[.agg #[.bool s, .slice A xs.length c], .agg #[.bool t, .slice B ys.length d]] w (RetI w r) := by
  obtain ⟨q, hq⟩ : ∃ q, y - z = q := ⟨_, rfl⟩
  have hlq : (dig q.natAbs).length ≤ 15000 := by
    have h1 : (dig y.natAbs).length ≤ 7000 := by rw [← hx, zv_natAbs]; exact Nat.le_trans (dig_length_val ha.1) hn
    have h2 : (dig z.natAbs).length ≤ 7000 := by rw [← hy, zv_natAbs]; exact Nat.le_trans (dig_length_val hb.1) hm
    have h3 := dl_add y.natAbs z.natAbs
    have h4 : (dig q.natAbs).length ≤ (dig (y.natAbs + z.natAbs)).length := dl_le (by omega)
    omega
  have HSB := Lib.hid (fun o1 o2 => sub_any ((w.alloc o1).alloc o2) s t A B c d xs ys y z ((ha.alloc o1).alloc o2) ((hb.alloc o1).alloc o2) hx hy hn hm q hq)
  have HSG := Lib.hid (fun W A3 c3 h => sign_any W (zneg q) A3 c3 (dig q.natAbs) q h (by rw [val_dig]; exact zv_zneg q) (by omega))
  have HR : Hid (q.sign = r) := by
    show _ = _
    rw [← hr, ← hq]
    rcases Int.lt_trichotomy y z with h | h | h
    · rw [zcmp_lt h]; exact Int.sign_eq_neg_one_of_neg (by omega)
    · rw [h, zcmp_eq, Int.sub_self]; rfl
    · rw [zcmp_gt h]; exact Int.sign_eq_one_of_pos (by omega)
  rw [HR.out] at HSG
  have HW := Lib.hid (show Below w.heap.size w ((w.alloc (.cells #[.bool s, .slice A xs.length c] 25)).alloc (.cells #[.bool t, .slice B ys.length d] 25)) from ((Below.refl _ _).alloc (Nat.le_refl _) _).alloc (by simp) _)
  clear ha hb hx hy hr hq
  go_enter Tryz.func141, Tryz.ntmps141
  go_wp2_with fail
  refine (HSB.out _ _).mono ?_
  rintro e w4 ⟨A3, c3, rfl, hc3, h3, hb3⟩
  have N4 := Lib.hid h3
  have B4 := Lib.hid (HW.out.trans (hb3.mono HW.out.size))
  clear h3 hb3 HW
  go_wp2_with fail
  refine (HSG.out w4 A3 c3 N4.out).mono ?_
  rintro e w5 ⟨rfl, hb5⟩
  have B5 := Lib.hid (B4.out.trans (hb5.mono B4.out.size))
  clear hb5
  go_wp2_with fail
  go_ret
  exact ⟨rfl, B5.out⟩
end Go.Proofs.YtmbnlhedbedcdaaGreat.W

/- whole's law: by, awake. -/
namespace Go.Proofs.YtmbnlhedbedcdaaGreat
open Go.RowKit

end Go.Proofs.YtmbnlhedbedcdaaGreat

/- WholeOrder, plain. -/
namespace Go.Proofs.YtmbnlhedbedcdaaGreat
open Go.RowKit

/-- An operation, behind a name: what is not wanted need not be tried. -/
def hideP (o : Op) : Op := o
theorem zcmp_sub (y z : Int) : zcmp y z = (y - z).sign := by
  rcases Int.lt_trichotomy y z with h | h | h
  · rw [zcmp_lt h, Int.sign_eq_neg_one_of_neg (by omega)]
  · rw [h, zcmp_eq, Int.sub_self]; rfl
  · rw [zcmp_gt h, Int.sign_eq_one_of_pos (by omega)]
theorem zcmp_swap (y z : Int) : zcmp z y = - zcmp y z := by
  rw [zcmp_sub, zcmp_sub, ← Int.sign_neg]; congr 1; omega
theorem zcmp_pos {y z : Int} : 0 < zcmp y z ↔ z < y := by unfold zcmp; split <;> (try split) <;> omega
theorem zcmp_trans {a b c : Int} (h1 : ¬ 0 < zcmp a b) (h2 : ¬ 0 < zcmp b c) : zcmp a c ≤ 0 := by
  rw [zcmp_pos] at h1 h2
  have : ¬ 0 < zcmp a c := by rw [zcmp_pos]; omega
  omega
theorem zdm_back {a b : Int} (h : b ≠ 0) : a / b * b + zrem a b = a := by unfold zrem; rw [if_neg h]; have := Int.mul_ediv_add_emod a b; rw [Int.mul_comm] at this; exact this
theorem zrem_range {a b : Int} (h : b ≠ 0) : 0 ≤ zrem a b ∧ zrem a b < ((b.natAbs : Nat) : Int) := by
  unfold zrem; rw [if_neg h]
  exact ⟨Int.emod_nonneg a h, Int.emod_lt a h⟩
end Go.Proofs.YtmbnlhedbedcdaaGreat

/- The document's answer for whole: Small. -/
namespace Go.Proofs.YtmbnlhedbedcdaaGreat.W
open Go.RowKit

theorem wrap_min : IntKind.i64.wrap 9223372036854775808 = -9223372036854775808 := by rw [IntKind.wrap_i64]; rfl
theorem neg_wrap {m : Nat} {z : Int} (hm : z.natAbs = m) (hs : z < 0) (h : -9223372036854775808 ≤ z) : IntKind.i64.wrap (-(IntKind.i64.wrap (m : Int))) = z := by
  by_cases h2 : (m : Int) ≤ 9223372036854775807
  · rw [IntWalk.i64_in (m : Int) (by omega), IntWalk.i64_in (-(m : Int)) (by omega)]; omega
  · have e : (m : Int) = 9223372036854775808 := by omega
    rw [e, wrap_min, Int.neg_neg, wrap_min]; omega

end Go.Proofs.YtmbnlhedbedcdaaGreat.W

/- The document's answer for whole: DivMod, by 0. -/
namespace Go.Proofs.YtmbnlhedbedcdaaGreat.W
open Go.RowKit

/-- The struct variables of DivMod. -/
structure Dm (w wx : World) (s t : Bool) (A B : Option Addr) (n m c d : Nat) : Prop where
  c4 : C4 w.heap.size (.bool s) (.slice A n c) (.bool t) (.slice B m d) wx
  i1 : Ibx wx (w.heap.size + 1 + 1) false none 0 0
  i2 : Ibx wx (w.heap.size + 1 + 1 + 1) false none 0 0
  bel : Below w.heap.size w wx
  sz : w.heap.size + 1 + 1 + 1 < wx.heap.size
theorem bdrew {W w3 : World} (h : Below W.drew.heap.size W.drew w3) : Below W.heap.size W w3 := ⟨h.os, h.tape, h.output, h.size, h.block⟩
theorem below_al {W w3 : World} {o : Obj} (h : Below (W.alloc o).heap.size (W.alloc o) w3) : Below W.heap.size W w3 := ((Below.refl _ _).alloc (Nat.le_refl _) o).trans (h.mono (by simp))
theorem below_ad {W w3 : World} {o : Obj} (h : Below (W.alloc o).drew.heap.size (W.alloc o).drew w3) : Below W.heap.size W w3 := below_al (bdrew h)
theorem below_on {W w3 w4 : World} (h3 : Below W.heap.size W w3) (h : Below w3.heap.size w3 w4) : Below W.heap.size W w4 := h3.trans (h.mono h3.size)
section
variable {w wx wy : World} {s t : Bool} {A B : Option Addr} {n m c d : Nat}
theorem Dm.below (h : Dm w wx s t A B n m c d) (hb : Below wx.heap.size wx wy) : Dm w wy s t A B n m c d :=
  ⟨h.c4.below hb, h.i1.below hb, h.i2.below hb, h.bel.trans (hb.mono h.bel.size), Nat.lt_of_lt_of_le h.sz hb.size⟩
theorem Dm.set2 (h : Dm w wx s t A B n m c d) {g : Nat} (hg : w.heap.size + 1 + 1 + 1 < g) (v0 v1 : Value) : Dm w ((wx.setCell ⟨g, 0, none⟩ v0).setCell ⟨g, 1, none⟩ v1) s t A B n m c d := by
  have e1 : w.heap.size ≠ g := by omega
  have e2 : w.heap.size + 1 ≠ g := by omega
  exact ⟨(h.c4.far e1 e2 v0).far e1 e2 v1, (h.i1.far (by show _ ≠ g; omega) v0).far (by show _ ≠ g; omega) v1, (h.i2.far (by show _ ≠ g; omega) v0).far (by show _ ≠ g; omega) v1, (h.bel.setCell (by show _ ≤ g; omega) v0).setCell (by show _ ≤ g; omega) v1, by simpa [World.setCell] using h.sz⟩
theorem Dm.alloc (h : Dm w wx s t A B n m c d) (o : Obj) : Dm w (wx.alloc o) s t A B n m c d := h.below ((Below.refl _ _).alloc (Nat.le_refl _) o)
theorem Dm.drew (h : Dm w wx s t A B n m c d) : Dm w wx.drew s t A B n m c d := h.below ((Below.refl _ _).drew)
end
/-- A whole number in a struct variable. -/
structure Bz (wx : World) (g : Nat) (z : Int) (A : Option Addr) (c : Nat) : Prop where
  i : Ibx wx g (zneg z) A (dig z.natAbs).length c
  n : Num wx A (dig z.natAbs)
  l : (dig z.natAbs).length ≤ c
section
variable {wx wy : World} {g : Nat} {z : Int} {A : Option Addr} {c : Nat}
theorem Bz.below (h : Bz wx g z A c) (hb : Below wx.heap.size wx wy) : Bz wy g z A c := ⟨h.i.below hb, h.n.below hb, h.l⟩
theorem Bz.drew (h : Bz wx g z A c) : Bz wx.drew g z A c := h.below ((Below.refl _ _).drew)
theorem Bz.alloc (h : Bz wx g z A c) (o : Obj) : Bz (wx.alloc o) g z A c := h.below ((Below.refl _ _).alloc (Nat.le_refl _) o)
theorem Bz.other (h : Bz wx g z A c) {g' : Nat} {s0 : Bool} {A0 : Option Addr} {n0 c0 : Nat} (hI : Ibx wx g' s0 A0 n0 c0) (hne : g ≠ g') (v0 v1 : Value) : Bz ((wx.setCell ⟨g', 0, none⟩ v0).setCell ⟨g', 1, none⟩ v1) g z A c :=
  ⟨(h.i.far hne v0).far hne v1, h.n.two hI v0 v1, h.l⟩
theorem Bz.put {s0 : Bool} {A0 : Option Addr} {n0 c0 : Nat} (hI : Ibx wx g s0 A0 n0 c0) (hN : Num wx A (dig z.natAbs)) (hl : (dig z.natAbs).length ≤ c) : Bz ((wx.setCell ⟨g, 0, none⟩ (.bool (zneg z))).setCell ⟨g, 1, none⟩ (.slice A (dig z.natAbs).length c)) g z A c :=
  ⟨hI.two _ _ _ _, hN.two hI _ _, hl⟩
end
theorem K3.far {p q r : Nat} {v1 v2 v3 v4 v5 v6 : Value} {W : World} (h : K3 p q r v1 v2 v3 v4 v5 v6 W) {a : Addr} (h1 : p ≠ a.block) (h2 : q ≠ a.block) (h3 : r ≠ a.block) (v : Value) : K3 p q r v1 v2 v3 v4 v5 v6 (W.setCell a v) :=
  K3.of (h.a.far h1 v) (h.b.far h2 v) (h.c.far h3 v)
section
variable {p q r : Nat} {v1 v2 v3 v4 v5 v6 : Value} {W : World}
theorem s6_of (h : K3 p q r v1 v2 v3 v4 v5 v6 W) : W.cell? ⟨p, 0, none⟩ = some v1 ∧ W.cell? ⟨p, 1, none⟩ = some v2 ∧ W.cell? ⟨q, 0, none⟩ = some v3 ∧ W.cell? ⟨q, 1, none⟩ = some v4 ∧ W.cell? ⟨r, 0, none⟩ = some v5 ∧ W.cell? ⟨r, 1, none⟩ = some v6 := h
theorem s6_drew (h : W.cell? ⟨p, 0, none⟩ = some v1 ∧ W.cell? ⟨p, 1, none⟩ = some v2 ∧ W.cell? ⟨q, 0, none⟩ = some v3 ∧ W.cell? ⟨q, 1, none⟩ = some v4 ∧ W.cell? ⟨r, 0, none⟩ = some v5 ∧ W.cell? ⟨r, 1, none⟩ = some v6) : W.drew.cell? ⟨p, 0, none⟩ = some v1 ∧ W.drew.cell? ⟨p, 1, none⟩ = some v2 ∧ W.drew.cell? ⟨q, 0, none⟩ = some v3 ∧ W.drew.cell? ⟨q, 1, none⟩ = some v4 ∧ W.drew.cell? ⟨r, 0, none⟩ = some v5 ∧ W.drew.cell? ⟨r, 1, none⟩ = some v6 := h
theorem s6_alloc (h : W.cell? ⟨p, 0, none⟩ = some v1 ∧ W.cell? ⟨p, 1, none⟩ = some v2 ∧ W.cell? ⟨q, 0, none⟩ = some v3 ∧ W.cell? ⟨q, 1, none⟩ = some v4 ∧ W.cell? ⟨r, 0, none⟩ = some v5 ∧ W.cell? ⟨r, 1, none⟩ = some v6) (o : Obj) : (W.alloc o).cell? ⟨p, 0, none⟩ = some v1 ∧ (W.alloc o).cell? ⟨p, 1, none⟩ = some v2 ∧ (W.alloc o).cell? ⟨q, 0, none⟩ = some v3 ∧ (W.alloc o).cell? ⟨q, 1, none⟩ = some v4 ∧ (W.alloc o).cell? ⟨r, 0, none⟩ = some v5 ∧ (W.alloc o).cell? ⟨r, 1, none⟩ = some v6 := K3.alloc h o
theorem s6_far {g i : Nat} (h1 : p ≠ g) (h2 : q ≠ g) (h3 : r ≠ g) (v : Value) (h : W.cell? ⟨p, 0, none⟩ = some v1 ∧ W.cell? ⟨p, 1, none⟩ = some v2 ∧ W.cell? ⟨q, 0, none⟩ = some v3 ∧ W.cell? ⟨q, 1, none⟩ = some v4 ∧ W.cell? ⟨r, 0, none⟩ = some v5 ∧ W.cell? ⟨r, 1, none⟩ = some v6) : (W.setCell ⟨g, i, none⟩ v).cell? ⟨p, 0, none⟩ = some v1 ∧ (W.setCell ⟨g, i, none⟩ v).cell? ⟨p, 1, none⟩ = some v2 ∧ (W.setCell ⟨g, i, none⟩ v).cell? ⟨q, 0, none⟩ = some v3 ∧ (W.setCell ⟨g, i, none⟩ v).cell? ⟨q, 1, none⟩ = some v4 ∧ (W.setCell ⟨g, i, none⟩ v).cell? ⟨r, 0, none⟩ = some v5 ∧ (W.setCell ⟨g, i, none⟩ v).cell? ⟨r, 1, none⟩ = some v6 := K3.far h h1 h2 h3 v
end
/-- Signs and sizes. -/
theorem dm_first (s t : Bool) (a b : Nat) (hb : b ≠ 0) : (zv s a - zv (s != t) (a / b) * zv t b).natAbs < b := by
  have h1 := Nat.mod_add_div a b
  have h2 := Nat.mod_lt a (Nat.pos_of_ne_zero hb)
  have h3 : (a : Int) = ((a % b : Nat) : Int) + (b : Int) * ((a / b : Nat) : Int) := by rw [← Int.natCast_mul, ← Int.natCast_add, h1]
  obtain ⟨m, hm⟩ : ∃ m, a % b = m := ⟨_, rfl⟩
  obtain ⟨q, hq⟩ : ∃ q, a / b = q := ⟨_, rfl⟩
  rw [hm, hq] at h3
  rw [hm] at h2
  rw [hq]
  have e : zv s a - zv (s != t) q * zv t b = zv s m := by
    have e2 : (b : Int) * (q : Int) = (q : Int) * (b : Int) := Int.mul_comm _ _
    cases s <;> cases t <;> simp [zv, Int.neg_mul, Int.mul_neg] <;> omega
  rw [e, zv_natAbs]; exact h2
theorem dm_round {y z q r q' r' : Int} (hr : r = y - q * z) (hneg : r < 0) (hlt : r.natAbs < z.natAbs) (hq : q' = if 0 < z then q - 1 else q + 1) (hr' : r' = y - q' * z) : 0 ≤ r' ∧ r'.natAbs < z.natAbs := by
  subst hq
  split at hr'
  · rw [Int.sub_mul, Int.one_mul] at hr'; omega
  · rw [Int.add_mul, Int.one_mul] at hr'; omega
theorem dm_end {y z q r : Int} (hz : z ≠ 0) (hr : r = y - q * z) (h0 : 0 ≤ r) (hlt : r.natAbs < z.natAbs) : q = y / z ∧ r = zrem y z := by
  have hk : y / z = q ∧ y % z = r := by
    rcases Int.lt_or_le 0 z with h | h
    · have e : z = ((z.natAbs : Nat) : Int) := by omega
      have hm := Int.mul_comm z q
      have h1 := zdm_uniq (y := y) (q := q) (r := r) (b := z.natAbs) (by omega) (by rw [← e]; omega) h0 (by omega)
      rw [← e] at h1; exact h1
    · have e : z = -((z.natAbs : Nat) : Int) := by omega
      have h1 := zdm_uniq (y := y) (q := -q) (r := r) (b := z.natAbs) (by omega) (by
        have e2 : ((z.natAbs : Nat) : Int) * -q = q * z := by
          rw [e, Int.natAbs_neg, Int.natAbs_natCast, Int.mul_neg, Int.mul_neg, Int.mul_comm]
        omega) h0 (by omega)
      rw [e, Int.ediv_neg, Int.emod_neg, h1.1, h1.2, Int.neg_neg]
      exact ⟨rfl, rfl⟩
  unfold zrem
  rw [if_neg hz]
  exact ⟨hk.1.symm, hk.2.symm⟩
theorem dl_int {a b : Int} {k : Nat} (h : a.natAbs ≤ b.natAbs) (hb : (dig b.natAbs).length ≤ k) : (dig a.natAbs).length ≤ k := Nat.le_trans (dl_le h) hb

set_option maxHeartbeats 2000000 in
theorem divmod_zero (w : World) (s t : Bool) (A B : Option Addr) (c d : Nat) (xs ys : List Nat) (z : Int) (hb : Num w B ys) (hy : zv t (val ys) = z) (hm : ys.length ≤ 3000) (hz : z = 0) :
    Calls Tryz.prog 140 #[.agg #[.bool s, .slice A xs.length c], .agg #[.bool t, .slice B ys.length d]] w (RetZZ w 0 0) := by
  have HSG := Lib.hid (fun W h => sign_any W t B d ys z h hy (by omega))
  rw [hz, show Int.sign 0 = 0 from rfl] at HSG
  have HDM : Hid (Dm w ((((w.alloc (.cells #[.bool s, .slice A xs.length c] 25)).alloc (.cells #[.bool t, .slice B ys.length d] 25)).alloc (.cells #[.bool false, .slice none 0 0] 25)).alloc (.cells #[.bool false, .slice none 0 0] 25)) s t A B xs.length ys.length c d) := ⟨((C4.base w _ _ _ _ _ _).alloc _).alloc _, (Ibx.new' _ _ _ _ _ _ (by simp)).alloc _, Ibx.new' _ _ _ _ _ _ (by simp), ((((Below.refl _ _).alloc (Nat.le_refl _) _).alloc (by simp) _).alloc (by simp; omega) _).alloc (by simp; omega) _, by simp⟩
  have HNb := Lib.hid (show Num ((((w.alloc (.cells #[.bool s, .slice A xs.length c] 25)).alloc (.cells #[.bool t, .slice B ys.length d] 25)).alloc (.cells #[.bool false, .slice none 0 0] 25)).alloc (.cells #[.bool false, .slice none 0 0] 25)) B ys from (((hb.alloc _).alloc _).alloc _).alloc _)
  have h4 := HDM.out.c4
  obtain ⟨k0, k1, k2, k3⟩ := h4
  clear hb hy hz
  go_enter Tryz.func140, Tryz.ntmps140
  go_wp2_with fail
  refine (HSG.out _ HNb.out).mono ?_
  rintro e w1 ⟨rfl, hb1⟩
  have hD := HDM.out.below hb1
  have c0 := hD.i1.c0
  have c1 := hD.i1.c1
  have f0 := hD.i1.f 0
  have f1 := hD.i1.f 1
  have d0 := hD.i2.c0
  have d1 := hD.i2.c1
  have e0 := hD.i2.f 0
  have e1 := hD.i2.f 1
  have HD := Lib.hid hD
  clear hD hb1 HDM HNb
  go_wp2_with fail
  refine bodyPost_ret (v := .tuple #[.agg #[.bool (zneg 0), .slice none (dig (0 : Int).natAbs).length 0], .agg #[.bool (zneg 0), .slice none (dig (0 : Int).natAbs).length 0]]) (by simp [results, Tryz.results140, go_sem, c0, c1, d0, d1, dig_zero, zneg]) rfl ?_
  exact ⟨none, 0, none, 0, rfl, by simp [dig_zero], by simp [dig_zero], by simp [dig_zero, Num.nil], by simp [dig_zero, Num.nil], (((HD.out.bel.setCell (by simp; omega) _).setCell (by simp; omega) _).setCell (by simp; omega) _).setCell (by simp; omega) _⟩
end Go.Proofs.YtmbnlhedbedcdaaGreat.W

/- The document's answer for whole: DivMod. -/
namespace Go.Proofs.YtmbnlhedbedcdaaGreat.W
open Go.RowKit

theorem dm_len {y z q r : Int} (hr : r = y - q * z) (hlt : r.natAbs < z.natAbs) (h1 : (dig y.natAbs).length ≤ 3000) (h2 : (dig z.natAbs).length ≤ 3000) :
    (dig (q * z).natAbs).length ≤ 6001 ∧ (dig q.natAbs).length ≤ 6001 ∧ (dig r.natAbs).length ≤ 3000 := by
  have h3 : (dig (y.natAbs + z.natAbs)).length ≤ 6001 := by have := dl_add y.natAbs z.natAbs; omega
  have h4 : (q * z).natAbs ≤ y.natAbs + z.natAbs := by omega
  have h5 : q.natAbs ≤ (q * z).natAbs := by
    rw [Int.natAbs_mul]
    exact Nat.le_mul_of_pos_right _ (by omega)
  exact ⟨Nat.le_trans (dl_le h4) h3, Nat.le_trans (dl_le (Nat.le_trans h5 h4)) h3, Nat.le_trans (dl_le (Nat.le_of_lt hlt)) h2⟩
/-- y less q z, as the code reckons it. -/
theorem mul_at (w : World) (t : Bool) (B Aq : Option Addr) (d cq : Nat) (ys : List Nat) (z q p : Int) (hy : zv t (val ys) = z) (hm : ys.length ≤ 3000) (hd : ys.length ≤ d) (hl : (dig q.natAbs).length ≤ 6001) (hcq : (dig q.natAbs).length ≤ cq) (hp : q * z = p) (h1 : Num w Aq (dig q.natAbs)) (h2 : Num w B ys) :
    Calls Tryz.prog 115 #[.agg #[.bool (zneg q), .slice Aq (dig q.natAbs).length cq], .agg #[.bool t, .slice B ys.length d]] w (RetZ w p) :=
  mul_any w (zneg q) t Aq B cq d (dig q.natAbs) ys q z h1 h2 (by rw [val_dig]; exact zv_zneg q) hy (by omega) (by omega) hcq hd p hp
theorem sub_at (w : World) (s : Bool) (A A3 : Option Addr) (c c3 : Nat) (xs : List Nat) (y p r : Int) (hx : zv s (val xs) = y) (hn : xs.length ≤ 3000) (hl : (dig p.natAbs).length ≤ 6001) (hr : y - p = r) (h1 : Num w A xs) (h2 : Num w A3 (dig p.natAbs)) :
    Calls Tryz.prog 167 #[.agg #[.bool s, .slice A xs.length c], .agg #[.bool (zneg p), .slice A3 (dig p.natAbs).length c3]] w (RetZ w r) :=
  sub_any w s (zneg p) A A3 c c3 xs (dig p.natAbs) y p h1 h2 hx (by rw [val_dig]; exact zv_zneg p) (by omega) (by omega) r hr

set_option maxRecDepth 100000 in
set_option maxHeartbeats 16000000 in
theorem divmod_pos (w : World) (s t : Bool) (A B : Option Addr) (c d : Nat) (xs ys : List Nat) (y z : Int) (ha : Num w A xs) (hb : Num w B ys) (hx : zv s (val xs) = y) (hy : zv t (val ys) = z) (hn : xs.length ≤ 3000) (hm : ys.length ≤ 3000) (hc : xs.length ≤ c) (hd : ys.length ≤ d) (hz : z ≠ 0) :
    Calls Tryz.prog 140 #[.agg #[.bool s, .slice A xs.length c], .agg #[.bool t, .slice B ys.length d]] w (RetZZ w (y / z) (zrem y z)) := by
  obtain ⟨sg, hsg⟩ : ∃ k, z.sign = k := ⟨_, rfl⟩
  have HSG := Lib.hid (fun W h => sign_any W t B d ys z h hy (by omega))
  rw [hsg] at HSG
  have hsg0 : (sg == 0) = false := by
    rw [beq_eq_false_iff_ne, ← hsg]; exact fun h => hz (Int.sign_eq_zero_iff_zero.1 h)
  obtain ⟨a, hva⟩ : ∃ a, val xs = a := ⟨_, rfl⟩
  obtain ⟨b, hvb⟩ : ∃ b, val ys = b := ⟨_, rfl⟩
  have hza : z.natAbs = b := by rw [← hy, zv_natAbs, hvb]
  have hb0 : b ≠ 0 := by omega
  have hly : (dig y.natAbs).length ≤ 3000 := by rw [← hx, zv_natAbs]; exact Nat.le_trans (dig_length_val ha.1) hn
  have hlz : (dig z.natAbs).length ≤ 3000 := by rw [← hy, zv_natAbs]; exact Nat.le_trans (dig_length_val hb.1) hm
  obtain ⟨x0, hx0⟩ : ∃ x, dmq a b = x := ⟨_, rfl⟩
  obtain ⟨x1, hx1⟩ : ∃ x, dmr a b = x := ⟨_, rfl⟩
  have hlx : (dig x0).length ≤ 3000 := by
    rw [← hx0]
    have h1 := dl_dmq a b
    have h2 := dig_length_val ha.1
    rw [hva] at h2
    omega
  have HDV := Lib.hid (fun W h1 h2 => edm_n W A B c d xs ys a b h1 h2 hva hvb (by omega) (by omega) hc hd x0 x1 hx0 hx1)
  obtain ⟨q0, hq0⟩ : ∃ q, zv (s != t) x0 = q := ⟨_, rfl⟩
  have HMK := Lib.hid (fun W A3 c3 h => make_any W (s != t) A3 c3 (dig x0) q0 h (by rw [val_dig]; exact hq0) (by omega))
  obtain ⟨r0, hr0⟩ : ∃ r, r = y - q0 * z := ⟨_, rfl⟩
  have hlt0 : r0.natAbs < z.natAbs := by
    have h := dm_first s t a b hb0
    rw [hr0, hza, ← hq0, ← hx0, ← hx, ← hy, hva, hvb]
    exact h
  obtain ⟨hlp0, hlq0, hlr0⟩ := dm_len hr0 hlt0 hly hlz
  have HR0 := Lib.hid hr0
  have HLT0 := Lib.hid hlt0
  have HX := Lib.hid hx
  have HY := Lib.hid hy
  have HA := Lib.hid ha
  have HB := Lib.hid hb
  have HZ := Lib.hid hz
  have HLY := Lib.hid hly
  have HLZ := Lib.hid hlz
  have HSGN := Lib.hid hsg
  have HDM : Hid (Dm w ((((w.alloc (.cells #[.bool s, .slice A xs.length c] 25)).alloc (.cells #[.bool t, .slice B ys.length d] 25)).alloc (.cells #[.bool false, .slice none 0 0] 25)).alloc (.cells #[.bool false, .slice none 0 0] 25)) s t A B xs.length ys.length c d) := ⟨((C4.base w _ _ _ _ _ _).alloc _).alloc _, (Ibx.new' _ _ _ _ _ _ (by simp)).alloc _, Ibx.new' _ _ _ _ _ _ (by simp), ((((Below.refl _ _).alloc (Nat.le_refl _) _).alloc (by simp) _).alloc (by simp; omega) _).alloc (by simp; omega) _, by simp⟩
  obtain ⟨k0, k1, k2, k3⟩ := HDM.out.c4
  clear ha hb hx hy hz hr0 hlt0 hly hlz hq0 hx0 hx1 hza hb0 hsg hva hvb hlr0
  go_enter Tryz.func140, Tryz.ntmps140
  go_wp2_with fail
  refine (HSG.out _ (HB.out.below HDM.out.bel)).mono ?_
  rintro e w1 ⟨rfl, hb1⟩
  have HD1 := Lib.hid (HDM.out.below hb1)
  clear hb1 HDM k0 k1 k2 k3
  obtain ⟨k0, k1, k2, k3⟩ := HD1.out.c4
  go_wp2_with fail
  refine (HDV.out w1 (HA.out.below HD1.out.bel) (HB.out.below HD1.out.bel)).mono ?_
  rintro e w2 ⟨Ax, cx, Ax2, cx2, rfl, hcx, hcx2, hnx, -, hb2⟩
  have HD2 := Lib.hid (HD1.out.below hb2)
  have HNX := Lib.hid hnx
  clear hb2 HD1 k0 k1 k2 k3 hnx
  obtain ⟨k0, k1, k2, k3⟩ := HD2.out.c4
  go_upto_region 4 with fail
  go_cut [8] (fun s8 wx => ∃ (gq : Nat) (Aq : Option Addr) (cq : Nat), s8 = .pointer (some ⟨gq, 0, none⟩) ∧ w.heap.size + 1 + 1 + 1 < gq ∧ Dm w wx s t A B xs.length ys.length c d ∧ Bz wx gq q0 Aq cq)
  case first =>
    go_wp2_with fail
    refine (HMK.out w2 Ax cx HNX.out).mono ?_
    rintro e w5 ⟨Aq, cq, rfl, hcq, nq, hb5⟩
    have HD5 := Lib.hid (HD2.out.below hb5)
    have HNQ := Lib.hid nq
    clear hb5 nq
    go_wp2_with fail
    go_meet
    exact ⟨w5.heap.size, Aq, cq, rfl, HD5.out.sz, HD5.out.alloc _, ⟨Ibx.new' _ _ _ _ _ _ rfl, HNQ.out.alloc _, hcq⟩⟩
  case rest =>
    obtain ⟨gq, Aq, cq, rfl, hgq, hD, hQ⟩ := hcut
    clear HD2 HNX k0 k1 k2 k3 HDV HMK HSG
    have HD := Lib.hid hD
    have HBq := Lib.hid hQ
    have HK0 : Hid (K3 w.heap.size (w.heap.size + 1) gq (.bool s) (.slice A xs.length c) (.bool t) (.slice B ys.length d) (.bool (zneg q0)) (.slice Aq (dig q0.natAbs).length cq) wc) := K3.of ⟨hD.c4.1, hD.c4.2.1⟩ ⟨hD.c4.2.2.1, hD.c4.2.2.2⟩ ⟨hQ.i.c0, hQ.i.c1⟩
    have HKx := Lib.hid HK0.out
    have HNq := Lib.hid hQ.n
    have HNa := Lib.hid (HA.out.below hD.bel)
    have HNb := Lib.hid (HB.out.below hD.bel)
    have hgw := hQ.i.lt
    have hcq := hQ.l
    obtain ⟨p0, hp0⟩ : ∃ p, q0 * z = p := ⟨_, rfl⟩
    rw [hp0] at hlp0
    have HMUL := Lib.hid (fun W h1 h2 => mul_at W t B Aq d cq ys z q0 p0 HY.out hm hd hlq0 hcq hp0 h1 h2)
    have HSUB := Lib.hid (fun W A3 c3 h1 h2 => sub_at W s A A3 c c3 xs y p0 r0 HX.out hn hlp0 (by rw [HR0.out, hp0]) h1 h2)
    clear hD hQ hp0 hlp0 hlq0
    go_upto_region 5 with fail
    go_cut [9] (fun s9 wx => ∃ (gr : Nat) (Ar : Option Addr) (cr : Nat), s9 = .pointer (some ⟨gr, 0, none⟩) ∧ w.heap.size + 1 + 1 + 1 < gr ∧ gr ≠ gq ∧ Dm w wx s t A B xs.length ys.length c d ∧ Bz wx gq q0 Aq cq ∧ Bz wx gr r0 Ar cr)
    case first =>
      go_region_held3 (fun W => W.cell? ⟨w.heap.size, 0, none⟩ = some (.bool s) ∧ W.cell? ⟨w.heap.size, 1, none⟩ = some (.slice A xs.length c) ∧ W.cell? ⟨w.heap.size + 1, 0, none⟩ = some (.bool t) ∧ W.cell? ⟨w.heap.size + 1, 1, none⟩ = some (.slice B ys.length d) ∧ W.cell? ⟨gq, 0, none⟩ = some (.bool (zneg q0)) ∧ W.cell? ⟨gq, 1, none⟩ = some (.slice Aq (dig (q0).natAbs).length cq))
       (repeat (first | (with_reducible exact s6_of HKx.out) | (with_reducible refine s6_drew ?_) | (with_reducible refine s6_alloc ?_ _) | (with_reducible refine s6_far (by omega) (by omega) (by omega) _ ?_)))
       (first
        | (go_at_call 167; refine (HSUB.out _ A3 c3 ?_ ?_).mono ?_; (repeat (first | exact HNa3.out | exact HN3.out | (with_reducible refine Num.drew ?_) | (with_reducible refine Num.alloc ?_ _))); rintro e w4 ⟨A4, c4, rfl, hc4, nn4, hb4⟩; have HT4 : Hid (Below wc.heap.size wc w4) := (by first | exact below_on HT3.out hb4 | exact below_on HT3.out (below_al hb4)); have HKx := Lib.hid (K3.below HT4.out HK0.out); have hs4 : wc.heap.size ≤ w4.heap.size := HT4.out.size; (first | (have I4 : Ibx w4 wc.heap.size false none 0 0 := I3.below hb4; have c0 := I4.c0; have c1' := I4.c1; have f0 := I4.f 0; have f1 := I4.f 1) | (have I4 : Ibx w4 w3.heap.size false none 0 0 := (Ibx.new' w3 false none 0 0 _ rfl).below hb4; have c0 := I4.c0; have c1' := I4.c1; have f0 := I4.f 0; have f1 := I4.f 1) | skip))
        | (go_at_call 115; refine (HMUL.out _ ?_ ?_).mono ?_; (repeat (first | exact HNq.out | exact HNb.out | (with_reducible refine Num.drew ?_) | (with_reducible refine Num.alloc ?_ _))); rintro e w3 ⟨A3, c3, rfl, hc3, nn3, hb3⟩; have HT3 : Hid (Below wc.heap.size wc w3) := (by first | exact bdrew hb3 | exact below_ad hb3); have HKx := Lib.hid (K3.below HT3.out HK0.out); have HN3 := Lib.hid nn3; have HNa3 := Lib.hid (HNa.out.below HT3.out); have hs3 := HT3.out.size; have hs3' : wc.heap.size ≤ w3.heap.size := hs3; try (have I3 : Ibx w3 wc.heap.size false none 0 0 := (Ibx.new' wc false none 0 0 _ rfl).drew.below hb3)))
      all_goals
        go_wp2_with fail
        go_meet
        first
          | exact ⟨wc.heap.size, A4, c4, rfl, HD.out.sz, by omega, (HD.out.below HT4.out).set2 HD.out.sz _ _, (HBq.out.below HT4.out).other I4 (by omega) _ _, Bz.put I4 nn4 hc4⟩
          | exact ⟨w3.heap.size, A4, c4, rfl, by have := HD.out.sz; omega, by omega, (HD.out.below HT4.out).set2 (by have := HD.out.sz; omega) _ _, (HBq.out.below HT4.out).other I4 (by omega) _ _, Bz.put I4 nn4 hc4⟩
          | exact ⟨w4.heap.size, A4, c4, rfl, by have := HD.out.sz; omega, by omega, (HD.out.below HT4.out).alloc _, (HBq.out.below HT4.out).alloc _, ⟨Ibx.new' _ _ _ _ _ _ rfl, nn4.alloc _, hc4⟩⟩
          | exact ⟨w4.heap.size, A4, c4, rfl, by have := HD.out.sz; omega, by omega, ((HD.out.below HT4.out).alloc _).set2 (by have := HD.out.sz; omega) _ _, ((HBq.out.below HT4.out).alloc _).other (Ibx.new' w4 false none 0 0 _ rfl) (by omega) _ _, Bz.put (Ibx.new' w4 false none 0 0 _ rfl) (nn4.alloc _) hc4⟩
    case rest =>
      obtain ⟨gr, Ar, cr, rfl, hgr, hne, hD, hQ, hR⟩ := hcut
      clear HD HBq HK0 HKx HNq HNa HNb hgw hcq HMUL HSUB
      have HD := Lib.hid hD
      have HBq := Lib.hid hQ
      have HBr := Lib.hid hR
      clear hD hQ hR
      obtain ⟨one, hone⟩ : ∃ k : Int, (1 : Int) = k := ⟨_, rfl⟩
      have HO1 : Hid (∀ W, Calls Tryz.prog 109 #[.int .i64 1] W (RetZ W one)) := by intro W; rw [← hone]; exact of_any W 1 (by omega) (by omega)
      have hl1 : (dig one.natAbs).length ≤ 7000 := Nat.le_trans (dig_length_le (k := 1) (by rw [B64_eq]; omega)) (by omega)
      have HONE := Lib.hid hone
      clear hone
      go_upto_block 0 with fail
      go_cut [8] (fun s8 wx => ∃ (q r : Int) (Aq : Option Addr) (cq : Nat) (Ar : Option Addr) (cr : Nat), s8 = .pointer (some ⟨gq, 0, none⟩) ∧ Hid (r = y - q * z) ∧ Hid (r.natAbs < z.natAbs) ∧ Hid (0 ≤ r) ∧ Hid (Dm w wx s t A B xs.length ys.length c d) ∧ Hid (Bz wx gq q Aq cq) ∧ Hid (Bz wx gr r Ar cr))
      case first =>
        go_wp2_with fail
        go_loopg [] 1 (fun G wx => ∃ (q r : Int) (Aq : Option Addr) (cq : Nat) (Ar : Option Addr) (cr : Nat), Hid (r = y - q * z) ∧ Hid (r.natAbs < z.natAbs) ∧ Hid (0 ≤ r ∨ G = 1) ∧ Hid (Dm w wx s t A B xs.length ys.length c d) ∧ Hid (Bz wx gq q Aq cq) ∧ Hid (Bz wx gr r Ar cr))
        case atStart => exact ⟨q0, r0, Aq, cq, Ar, cr, HR0.out, HLT0.out, .inr rfl, HD.out, HBq.out, HBr.out⟩
        case round =>
          clear HD HBq HBr
          obtain ⟨q, r, Aq, cq, Ar, cr, hr, hlt, h01, HD, HBq, HBr⟩ := hrel
          obtain ⟨hlp, hlq, hlr⟩ := dm_len hr.out hlt.out HLY.out HLZ.out
          have HSR := Lib.hid (sign_any wr (zneg r) Ar cr (dig r.natAbs) r HBr.out.n (by rw [val_dig]; exact zv_zneg r) (by omega))
          obtain ⟨k, hk⟩ : ∃ k, r.sign = k := ⟨_, rfl⟩
          rw [hk] at HSR
          have e0 := HBr.out.i.c0
          have e1 := HBr.out.i.c1
          by_cases hneg : r < 0
          · have hk0 : k < 0 := by rw [← hk]; exact Int.sign_neg_iff.2 hneg
            have dk0 : decide (k < 0) = true := decide_eq_true hk0
            have HG : Hid (0 < gk) := by
              show _ < _
              rcases h01.out with h | h
              · omega
              · omega
            have HNEG := Lib.hid hneg
            clear hk hneg h01
            go_wp2_with fail
            refine HSR.out.mono ?_
            rintro e w6 ⟨rfl, hb6⟩
            have HD6 := Lib.hid (HD.out.below hb6)
            have HQ6 := Lib.hid (HBq.out.below hb6)
            have HR6 := Lib.hid (HBr.out.below hb6)
            clear hb6 HD HBq HBr e0 e1
            obtain ⟨k0, k1, k2, k3⟩ := HD6.out.c4
            have HSB := Lib.hid (sign_any w6 t B d ys z (HB.out.below HD6.out.bel) HY.out (by omega))
            rw [HSGN.out] at HSB
            go_wp2_with fail
            refine HSB.out.mono ?_
            rintro e w7 ⟨rfl, hb7⟩
            have HD7 := Lib.hid (HD6.out.below hb7)
            have HQ7 := Lib.hid (HQ6.out.below hb7)
            have HR7 := Lib.hid (HR6.out.below hb7)
            clear hb7 HD6 HQ6 HR6 k0 k1 k2 k3
            have e0 := HQ7.out.i.c0
            have e1 := HQ7.out.i.c1
            have HNQ7 := Lib.hid HQ7.out.n
            go_upto_if 40 with fail
            go_cut [8] (fun s8 wx => ∃ (q' : Int) (Aq' : Option Addr) (cq' : Nat), s8 = .pointer (some ⟨gq, 0, none⟩) ∧ Hid (q' = if 0 < z then q - 1 else q + 1) ∧ Hid (Dm w wx s t A B xs.length ys.length c d) ∧ Hid (Bz wx gq q' Aq' cq') ∧ Hid (Bz wx gr r Ar cr))
            case first =>
              by_cases hzp : 0 < z
              · have hsp : 0 < sg := by rw [← HSGN.out]; exact Int.sign_pos_iff.2 hzp
                have dsp : decide (0 < sg) = true := decide_eq_true hsp
                obtain ⟨q', hq'⟩ : ∃ q', q - one = q' := ⟨_, rfl⟩
                have HQE : Hid (q' = if 0 < z then q - 1 else q + 1) := by show _ = _; rw [if_pos hzp, ← hq', ← HONE.out]
                have HST := Lib.hid (fun W A1 c1 h1 h2 => sub_any W (zneg q) (zneg one) Aq A1 cq c1 (dig q.natAbs) (dig one.natAbs) q one h1 h2 (by rw [val_dig]; exact zv_zneg q) (by rw [val_dig]; exact zv_zneg one) (by omega) (by omega) q' hq')
                clear hzp hq'
                go_wp2_with fail
                go_region_with (first
                  | (go_at_call 109; refine (HO1.out _).mono ?_; rintro e w8 ⟨A1, c1, rfl, hc1, nn1, hb8⟩; have HT8 := Lib.hid (bdrew hb8); have HN1 := Lib.hid nn1; have HQ8 := Lib.hid (HQ7.out.below HT8.out); have u0 := HQ8.out.i.c0; have u1 := HQ8.out.i.c1)
                  | (go_at_call 167; refine (HST.out w8 A1 c1 HQ8.out.n HN1.out).mono ?_; rintro e w9 ⟨A2, c2, rfl, hc2, nn2, hb9⟩; have HT9 := Lib.hid (below_on HT8.out hb9); have I9 := (HQ7.out.below HT9.out).i; have v0 := I9.c0; have v1 := I9.c1; have f0 := I9.f 0; have f1 := I9.f 1))
                all_goals
                  go_wp2_with fail
                  go_meet
                  exact ⟨q', A2, c2, rfl, HQE, (HD7.out.below HT9.out).set2 hgq _ _, Bz.put I9 nn2 hc2, (HR7.out.below HT9.out).other I9 hne _ _⟩
              · have hsp : ¬ 0 < sg := by rw [← HSGN.out]; exact fun h => hzp (Int.sign_pos_iff.1 h)
                have dsp : decide (0 < sg) = false := decide_eq_false hsp
                obtain ⟨q', hq'⟩ : ∃ q', q + one = q' := ⟨_, rfl⟩
                have HQE : Hid (q' = if 0 < z then q - 1 else q + 1) := by show _ = _; rw [if_neg hzp, ← hq', ← HONE.out]
                have HST := Lib.hid (fun W A1 c1 h1 h2 => add_any W (zneg q) (zneg one) Aq A1 cq c1 (dig q.natAbs) (dig one.natAbs) q one h1 h2 (by rw [val_dig]; exact zv_zneg q) (by rw [val_dig]; exact zv_zneg one) (by omega) (by omega) q' hq')
                clear hzp hq'
                go_wp2_with fail
                go_region_with (first
                  | (go_at_call 109; refine (HO1.out _).mono ?_; rintro e w8 ⟨A1, c1, rfl, hc1, nn1, hb8⟩; have HT8 := Lib.hid (bdrew hb8); have HN1 := Lib.hid nn1; have HQ8 := Lib.hid (HQ7.out.below HT8.out); have u0 := HQ8.out.i.c0; have u1 := HQ8.out.i.c1)
                  | (go_at_call 114; refine (HST.out w8 A1 c1 HQ8.out.n HN1.out).mono ?_; rintro e w9 ⟨A2, c2, rfl, hc2, nn2, hb9⟩; have HT9 := Lib.hid (below_on HT8.out hb9); have I9 := (HQ7.out.below HT9.out).i; have v0 := I9.c0; have v1 := I9.c1; have f0 := I9.f 0; have f1 := I9.f 1))
                all_goals
                  go_wp2_with fail
                  go_meet
                  exact ⟨q', A2, c2, rfl, HQE, (HD7.out.below HT9.out).set2 hgq _ _, Bz.put I9 nn2 hc2, (HR7.out.below HT9.out).other I9 hne _ _⟩
            case rest =>
              obtain ⟨q', Aq', cq', rfl, hqe, HD, HBq, HBr⟩ := hcut
              clear HD7 HQ7 HR7 e0 e1 HNQ7
              obtain ⟨r', hr'⟩ : ∃ r', r' = y - q' * z := ⟨_, rfl⟩
              obtain ⟨h0', hlt'⟩ := dm_round hr.out HNEG.out hlt.out hqe.out hr'
              have hlens := dm_len hr' hlt' HLY.out HLZ.out
              have HK0 : Hid (K3 w.heap.size (w.heap.size + 1) gq (.bool s) (.slice A xs.length c) (.bool t) (.slice B ys.length d) (.bool (zneg q')) (.slice Aq' (dig q'.natAbs).length cq') wc) := K3.of ⟨HD.out.c4.1, HD.out.c4.2.1⟩ ⟨HD.out.c4.2.2.1, HD.out.c4.2.2.2⟩ ⟨HBq.out.i.c0, HBq.out.i.c1⟩
              have HKx := Lib.hid HK0.out
              have HNq := Lib.hid HBq.out.n
              have HNa := Lib.hid (HA.out.below HD.out.bel)
              have HNb := Lib.hid (HB.out.below HD.out.bel)
              have hcq := HBq.out.l
              obtain ⟨p0, hp0⟩ : ∃ p, q' * z = p := ⟨_, rfl⟩
              rw [hp0] at hlens
              have HMUL := Lib.hid (fun W h1 h2 => mul_at W t B Aq' d cq' ys z q' p0 HY.out hm hd hlens.2.1 hcq hp0 h1 h2)
              have HSUB := Lib.hid (fun W A3 c3 h1 h2 => sub_at W s A A3 c c3 xs y p0 r' HX.out hn hlens.1 (by rw [hr', hp0]) h1 h2)
              have HR' := Lib.hid hr'
              have HLT' := Lib.hid hlt'
              have H0' := Lib.hid h0'
              have hgqr : gq ≠ gr := fun h => hne h.symm
              have hq1 : w.heap.size ≠ gr := by omega
              have hq2 : w.heap.size + 1 ≠ gr := by omega
              clear hp0 hlens hr' hlt' h0' hlp hlq hlr
              go_wp2_with fail
              go_region_held3 (fun W => W.cell? ⟨w.heap.size, 0, none⟩ = some (.bool s) ∧ W.cell? ⟨w.heap.size, 1, none⟩ = some (.slice A xs.length c) ∧ W.cell? ⟨w.heap.size + 1, 0, none⟩ = some (.bool t) ∧ W.cell? ⟨w.heap.size + 1, 1, none⟩ = some (.slice B ys.length d) ∧ W.cell? ⟨gq, 0, none⟩ = some (.bool (zneg q')) ∧ W.cell? ⟨gq, 1, none⟩ = some (.slice Aq' (dig (q').natAbs).length cq'))
               (repeat (first | (with_reducible exact s6_of HKx.out) | (with_reducible refine s6_drew ?_) | (with_reducible refine s6_alloc ?_ _) | (with_reducible refine s6_far (by omega) (by omega) (by omega) _ ?_)))
               (first
                | (go_at_call 167; refine (HSUB.out _ A3 c3 ?_ ?_).mono ?_; (repeat (first | exact HNa3.out | exact HN3.out | (with_reducible refine Num.drew ?_) | (with_reducible refine Num.alloc ?_ _))); rintro e w4 ⟨A4, c4, rfl, hc4, nn4, hb4⟩; have HT4 : Hid (Below wc.heap.size wc w4) := (by first | exact below_on HT3.out hb4 | exact below_on HT3.out (below_al hb4)); have HKx := Lib.hid (K3.below HT4.out HK0.out); have hs4 : wc.heap.size ≤ w4.heap.size := HT4.out.size; have I4 := (HBr.out.below HT4.out).i; have c0 := I4.c0; have c1' := I4.c1; have f0 := I4.f 0; have f1 := I4.f 1)
                | (go_at_call 115; refine (HMUL.out _ ?_ ?_).mono ?_; (repeat (first | exact HNq.out | exact HNb.out | (with_reducible refine Num.drew ?_) | (with_reducible refine Num.alloc ?_ _))); rintro e w3 ⟨A3, c3, rfl, hc3, nn3, hb3⟩; have HT3 : Hid (Below wc.heap.size wc w3) := (by first | exact bdrew hb3 | exact below_ad hb3); have HKx := Lib.hid (K3.below HT3.out HK0.out); have HN3 := Lib.hid nn3; have HNa3 := Lib.hid (HNa.out.below HT3.out); have hs3 := HT3.out.size; have hs3' : wc.heap.size ≤ w3.heap.size := hs3; try (have I3 : Ibx w3 wc.heap.size false none 0 0 := (Ibx.new' wc false none 0 0 _ rfl).drew.below hb3)))
              all_goals
                go_wp2_with fail
                go_roundg 0
                case measure => exact HG.out
                case rel => exact ⟨q', r', Aq', cq', A4, c4, HR'.out, HLT'.out, .inl H0'.out, (HD.out.below HT4.out).set2 hgr _ _, (HBq.out.below HT4.out).other I4 hgqr _ _, Bz.put I4 nn4 hc4⟩
          · have hk0 : ¬ k < 0 := by rw [← hk]; exact fun h => hneg (Int.sign_neg_iff.1 h)
            have dk0 : decide (k < 0) = false := decide_eq_false hk0
            have H0 : Hid (0 ≤ r) := by show _ ≤ _; omega
            clear hk hneg h01
            go_wp2_with fail
            refine HSR.out.mono ?_
            rintro e w6 ⟨rfl, hb6⟩
            have HD6 := Lib.hid (HD.out.below hb6)
            have HQ6 := Lib.hid (HBq.out.below hb6)
            have HR6 := Lib.hid (HBr.out.below hb6)
            clear hb6 HD HBq HBr e0 e1
            go_wp2_with fail
            go_meet
            exact ⟨q, r, Aq, cq, Ar, cr, rfl, hr, hlt, H0, HD6.out, HQ6.out, HR6.out⟩
      case rest =>
        clear HD HBq HBr
        obtain ⟨q, r, Aq, cq, Ar, cr, rfl, hr, hlt, h0, HD, HBq, HBr⟩ := hcut
        have HE := Lib.hid (dm_end HZ.out hr.out h0.out hlt.out)
        have e0 := HBq.out.i.c0
        have e1 := HBq.out.i.c1
        have e2 := HBr.out.i.c0
        have e3 := HBr.out.i.c1
        have c0 := HD.out.i1.c0
        have c1' := HD.out.i1.c1
        have f0 := HD.out.i1.f 0
        have f1 := HD.out.i1.f 1
        have d0 := HD.out.i2.c0
        have d1 := HD.out.i2.c1
        have g0 := HD.out.i2.f 0
        have g1 := HD.out.i2.f 1
        have n1 : gr ≠ w.heap.size + 1 + 1 := by omega
        have n2 : gq ≠ w.heap.size + 1 + 1 := by omega
        go_wp2_with fail
        go_region
        all_goals
          go_wp2_with fail
          have hi2 : Ibx ((wc.setCell ⟨w.heap.size + 1 + 1, 0, none⟩ (.bool (zneg q))).setCell ⟨w.heap.size + 1 + 1, 1, none⟩ (.slice Aq (dig q.natAbs).length cq)) (w.heap.size + 1 + 1 + 1) false none 0 0 := (HD.out.i2.far (show w.heap.size + 1 + 1 + 1 ≠ w.heap.size + 1 + 1 by omega) _).far (show w.heap.size + 1 + 1 + 1 ≠ w.heap.size + 1 + 1 by omega) _
          refine bodyPost_ret (v := .tuple #[.agg #[.bool (zneg q), .slice Aq (dig q.natAbs).length cq], .agg #[.bool (zneg r), .slice Ar (dig r.natAbs).length cr]]) (by simp [results, Tryz.results140, go_sem, c0, c1', d0, d1]) rfl ?_
          rw [← HE.out.1, ← HE.out.2]
          exact ⟨Aq, cq, Ar, cr, rfl, HBq.out.l, HBr.out.l, ((HBq.out.n.two HD.out.i1 _ _).two hi2 _ _).drew, ((HBr.out.n.two HD.out.i1 _ _).two hi2 _ _).drew, ((((HD.out.bel.setCell (show w.heap.size ≤ w.heap.size + 1 + 1 by omega) _).setCell (show w.heap.size ≤ w.heap.size + 1 + 1 by omega) _).setCell (show w.heap.size ≤ w.heap.size + 1 + 1 + 1 by omega) _).setCell (show w.heap.size ≤ w.heap.size + 1 + 1 + 1 by omega) _).drew⟩
end Go.Proofs.YtmbnlhedbedcdaaGreat.W

/- Contracts of the document's answer for whole, in the form in which a law's row of calls meets them. -/
namespace Go.Proofs.YtmbnlhedbedcdaaGreat
open Go.RowKit

section
variable (w : World) (s t : Bool) (A B : Option Addr) (c d : Nat) (xs ys : List Nat) (y z : Int) (ha : Num w A xs) (hb : Num w B ys) (hx : zv s (val xs) = y) (hy : zv t (val ys) = z) (hn : xs.length ≤ 3000) (hm : ys.length ≤ 3000) (hc : xs.length ≤ c) (hd : ys.length ≤ d)
include ha hb hx hy hn hm hc hd
theorem wadd_z (r : Int) (hr : y + z = r) : Calls Tryz.prog 114 #[.agg #[.bool s, .slice A xs.length c], .agg #[.bool t, .slice B ys.length d]] w (RetZ w r) := (fun _ _ => W.add_any w s t A B c d xs ys y z ha hb hx hy (by omega) (by omega) r hr) hc hd
theorem wsub_z (r : Int) (hr : y - z = r) : Calls Tryz.prog 167 #[.agg #[.bool s, .slice A xs.length c], .agg #[.bool t, .slice B ys.length d]] w (RetZ w r) := (fun _ _ => W.sub_any w s t A B c d xs ys y z ha hb hx hy (by omega) (by omega) r hr) hc hd
theorem wmul_z (r : Int) (hr : y * z = r) : Calls Tryz.prog 115 #[.agg #[.bool s, .slice A xs.length c], .agg #[.bool t, .slice B ys.length d]] w (RetZ w r) := W.mul_any w s t A B c d xs ys y z ha hb hx hy (by omega) (by omega) hc hd r hr
theorem wgcd_z (r : Int) (hr : ((Nat.gcd y.natAbs z.natAbs : Nat) : Int) = r) : Calls Tryz.prog 139 #[.agg #[.bool s, .slice A xs.length c], .agg #[.bool t, .slice B ys.length d]] w (RetZ w r) := W.gcd_any w s t A B c d xs ys y z ha hb hx hy (by omega) (by omega) hc hd r hr
theorem wcmp_z (r : Int) (hr : zcmp y z = r) : Calls Tryz.prog 141 #[.agg #[.bool s, .slice A xs.length c], .agg #[.bool t, .slice B ys.length d]] w (RetI w r) := (fun _ _ => W.cmp_any w s t A B c d xs ys y z ha hb hx hy (by omega) (by omega) r hr) hc hd
theorem wdivmod_z (q r : Int) (hq : y / z = q) (hr : zrem y z = r) : Calls Tryz.prog 140 #[.agg #[.bool s, .slice A xs.length c], .agg #[.bool t, .slice B ys.length d]] w (RetZZ w q r) := by
  subst hq
  subst hr
  by_cases h0 : z = 0
  · have h := W.divmod_zero w s t A B c d xs ys z hb hy hm h0
    rw [h0, Int.ediv_zero, show zrem y 0 = 0 from if_pos rfl]
    exact h
  · exact W.divmod_pos w s t A B c d xs ys y z ha hb hx hy hn hm hc hd h0
theorem gcdg_z (r : Int) (hr : ((Nat.gcd y.natAbs z.natAbs : Nat) : Int) = r) : Calls Tryz.prog 123 #[.agg #[.bool s, .slice A xs.length c], .agg #[.bool t, .slice B ys.length d]] w (RetZ w r) := by
  subst hr
  exact zgcd_any w s t A B c d xs ys y z ha hb hx hy (by omega) (by omega) hc hd (fun W h1 h2 => gcd_any W A B c d xs ys h1 h2 (by omega) (by omega) hc hd)
end
section
variable (w : World) (s : Bool) (A : Option Addr) (c : Nat) (xs : List Nat) (z : Int) (ha : Num w A xs) (hx : zv s (val xs) = z) (hn : xs.length ≤ 3000) (hc : xs.length ≤ c)
include ha hx hn hc
theorem wnorm_z (r : Int) (hr : z = r) : Calls Tryz.prog 138 #[.agg #[.bool s, .slice A xs.length c]] w (RetZ w r) := (fun _ => W.norm_any w s A c xs z ha hx (by omega) r hr) hc
theorem wneg_z (r : Int) (hr : -z = r) : Calls Tryz.prog 136 #[.agg #[.bool s, .slice A xs.length c]] w (RetZ w r) := (fun _ => W.neg_any w s A c xs z ha hx (by omega) r hr) hc
theorem wsign_z (r : Int) (hr : z.sign = r) : Calls Tryz.prog 135 #[.agg #[.bool s, .slice A xs.length c]] w (RetI w r) := by subst hr; exact (fun _ => W.sign_any w s A c xs z ha hx (by omega)) hc
theorem small_z (k : Int) (b : Bool) (hk : smallv z = k) (hb : smallb z = b) : Calls Tryz.prog 152 #[.agg #[.bool s, .slice A xs.length c]] w (fun e w' => e = .returned (.tuple #[.int .i64 k, .bool b]) ∧ Below w.heap.size w w') := by subst hk; subst hb; exact small_any w s A c xs z ha hx (by omega) hc
end
theorem wof_z (w : World) (n r : Int) (hr : n = r) (h1 : -9223372036854775808 ≤ r) (h2 : r ≤ 9223372036854775807) : Calls Tryz.prog 109 #[.int .i64 n] w (RetZ w r) := by subst hr; exact W.of_any w n h1 h2

/-- Six struct variables' cells. -/
def K6 (p q r o m n : Nat) (v1 v2 v3 v4 v5 v6 u1 u2 u3 u4 u5 u6 : Value) (W : World) : Prop := W.cell? ⟨p, 0, none⟩ = some v1 ∧ W.cell? ⟨p, 1, none⟩ = some v2 ∧ W.cell? ⟨q, 0, none⟩ = some v3 ∧ W.cell? ⟨q, 1, none⟩ = some v4 ∧ W.cell? ⟨r, 0, none⟩ = some v5 ∧ W.cell? ⟨r, 1, none⟩ = some v6 ∧ W.cell? ⟨o, 0, none⟩ = some u1 ∧ W.cell? ⟨o, 1, none⟩ = some u2 ∧ W.cell? ⟨m, 0, none⟩ = some u3 ∧ W.cell? ⟨m, 1, none⟩ = some u4 ∧ W.cell? ⟨n, 0, none⟩ = some u5 ∧ W.cell? ⟨n, 1, none⟩ = some u6
section
variable {p q r o m n : Nat} {v1 v2 v3 v4 v5 v6 u1 u2 u3 u4 u5 u6 : Value} {W W' : World}
theorem K6.of (h : K3 p q r v1 v2 v3 v4 v5 v6 W) (k : K3 o m n u1 u2 u3 u4 u5 u6 W) : K6 p q r o m n v1 v2 v3 v4 v5 v6 u1 u2 u3 u4 u5 u6 W := ⟨h.1, h.2.1, h.2.2.1, h.2.2.2.1, h.2.2.2.2.1, h.2.2.2.2.2, k.1, k.2.1, k.2.2.1, k.2.2.2.1, k.2.2.2.2.1, k.2.2.2.2.2⟩
theorem K6.fst3 (h : K6 p q r o m n v1 v2 v3 v4 v5 v6 u1 u2 u3 u4 u5 u6 W) : K3 p q r v1 v2 v3 v4 v5 v6 W := ⟨h.1, h.2.1, h.2.2.1, h.2.2.2.1, h.2.2.2.2.1, h.2.2.2.2.2.1⟩
theorem K6.snd3 (h : K6 p q r o m n v1 v2 v3 v4 v5 v6 u1 u2 u3 u4 u5 u6 W) : K3 o m n u1 u2 u3 u4 u5 u6 W := ⟨h.2.2.2.2.2.2.1, h.2.2.2.2.2.2.2.1, h.2.2.2.2.2.2.2.2.1, h.2.2.2.2.2.2.2.2.2.1, h.2.2.2.2.2.2.2.2.2.2.1, h.2.2.2.2.2.2.2.2.2.2.2⟩
theorem K6.below (hb : Below W.heap.size W W') (h : K6 p q r o m n v1 v2 v3 v4 v5 v6 u1 u2 u3 u4 u5 u6 W) : K6 p q r o m n v1 v2 v3 v4 v5 v6 u1 u2 u3 u4 u5 u6 W' := K6.of (K3.below hb h.fst3) (K3.below hb h.snd3)
theorem K6.drew (h : K6 p q r o m n v1 v2 v3 v4 v5 v6 u1 u2 u3 u4 u5 u6 W) : K6 p q r o m n v1 v2 v3 v4 v5 v6 u1 u2 u3 u4 u5 u6 W.drew := h
theorem K4.a (h : K4 p q r o v1 v2 v3 v4 v5 v6 u1 u2 W) : C2 p v1 v2 W := ⟨h.1, h.2.1⟩
theorem K4.b (h : K4 p q r o v1 v2 v3 v4 v5 v6 u1 u2 W) : C2 q v3 v4 W := ⟨h.2.2.1, h.2.2.2.1⟩
theorem K4.c (h : K4 p q r o v1 v2 v3 v4 v5 v6 u1 u2 W) : C2 r v5 v6 W := ⟨h.2.2.2.2.1, h.2.2.2.2.2.1⟩
theorem K4.d (h : K4 p q r o v1 v2 v3 v4 v5 v6 u1 u2 W) : C2 o u1 u2 W := ⟨h.2.2.2.2.2.2.1, h.2.2.2.2.2.2.2⟩
end
end Go.Proofs.YtmbnlhedbedcdaaGreat
