/- The law's helpers: whether numbers are the same, short. -/
import Derived.Test.YtmbnlhedbedcdaaGreatDoorRText
import Derived.Test.YtmbnlhedbedcdaaGreatDoorROrd
namespace Go.Proofs.YtmbnlhedbedcdaaGreatDoor.Q
open Go.RowKit
open Go.Proofs.YtmbnlhedbedcdaaGreatDoor.D (textOf parseV Tab RetS)

set_option maxHeartbeats 800000 in
theorem same_no (w : World) (A B : Option Addr) (c d : Nat) (xs ys : List Nat) (ha : Num w A xs) (hb : Num w B ys) (hn : xs.length ≤ 1099511627776) (hl : xs.length = ys.length) (hne : xs ≠ ys) :
    Calls Tryz.prog 84 #[.slice A xs.length c, .slice B xs.length d] w (RetB w false) := by
  have HA := Lib.hid ha
  have HB := Lib.hid hb
  have HL := Lib.hid hl
  have HN := Lib.hid hne
  clear ha hb hl hne
  go_enter Tryz.func84, Tryz.ntmps84
  go_wp2
  go_loopw [5] (fun i wr => ∃ k : Nat, k ≤ xs.length ∧ i = .int .i64 k ∧ Below w.heap.size w wr ∧ Hid (∀ j, j < k → dg xs j = dg ys j)) (fun i _ => xs.length - (intOf i).toNat)
  case atStart => exact ⟨0, Nat.zero_le _, rfl, Below.refl _ _, fun j hj => absurd hj (Nat.not_lt_zero j)⟩
  case round =>
    obtain ⟨k, hk, rfl, hbw, HK⟩ := hrel
    by_cases hlt : k < xs.length
    · obtain ⟨b, off, rfl, hbl, hc1⟩ := HA.out.at_ (by omega)
      obtain ⟨b', off', rfl, hbl', hc2⟩ := HB.out.at_ (by have := HL.out; omega)
      have h1 := (hbw.cell (p := ⟨b, off + k, none⟩) hbl).trans (hc1 k hlt)
      have h2 := (hbw.cell (p := ⟨b', off' + k, none⟩) hbl').trans (hc2 k (by have := HL.out; omega))
      have hlt' : (k : Int) < (xs.length : Int) := by omega
      clear hc1 hc2
      have HBW := Lib.hid hbw
      clear hbw
      obtain ⟨x, hx⟩ : ∃ x : Int, ((dg xs k : Nat) : Int) = x := ⟨_, rfl⟩
      obtain ⟨y, hy⟩ : ∃ y : Int, ((dg ys k : Nat) : Int) = y := ⟨_, rfl⟩
      rw [hx] at h1
      rw [hy] at h2
      by_cases hxy : x = y
      · have HE : Hid (dg xs k = dg ys k) := by show _ = _; omega
        have b1 : (x == y) = true := beq_iff_eq.2 hxy
        have b2 : (x != y) = false := by rw [hxy]; exact bne_self_eq_false _
        clear hx hy hxy
        go_wp2
        go_quiet (fail)
        go_wp2
        go_roundw
        case rel =>
          refine ⟨k + 1, by omega, by go_num, below_drewN HBW.out _, fun j hj => ?_⟩
          rcases Nat.lt_or_ge j k with h | h
          · exact HK.out j h
          · rw [show j = k by omega]; exact HE.out
        case measure => simp [intOf]; omega
      · have b1 : (x == y) = false := beq_eq_false_iff_ne.2 hxy
        have b2 : (x != y) = true := bne_iff_ne.2 hxy
        clear hx hy hxy
        go_wp2
        go_quiet (fail)
        go_wp2
        go_ret
        exact ⟨rfl, below_drewN HBW.out _⟩
    · exact absurd (ext_dg HL.out (fun j hj => HK.out j (by omega))) HN.out
set_option maxHeartbeats 800000 in
theorem same_len (w : World) (A B : Option Addr) (n c m d : Nat) (hl : n ≠ m) :
    Calls Tryz.prog 84 #[.slice A n c, .slice B m d] w (RetB w false) := by
  have b1 : ((n : Int) == (m : Int)) = false := beq_eq_false_iff_ne.2 (by omega)
  have b2 : ((n : Int) != (m : Int)) = true := bne_iff_ne.2 (by omega)
  clear hl
  go_enter Tryz.func84, Tryz.ntmps84
  go_wp2
  go_ret
  exact ⟨rfl, Below.refl _ _⟩
theorem words_j {w : World} {A B : Option Addr} {n c m d : Nat} {a b : Nat} (ha : Num w A (dig a)) (hb : Num w B (dig b)) (hn : n = (dig a).length) (hm : m = (dig b).length) (hl : n ≤ 1000000) (v : Bool) (hv : decide (a = b) = v) :
    Calls Tryz.prog 84 #[.slice A n c, .slice B m d] w (RetB w v) := by
  subst hn hm hv
  by_cases h : a = b
  · subst h
    rw [decide_eq_true rfl]
    exact same_yes w A B c d (dig a) ha hb (by omega)
  · rw [decide_eq_false h]
    by_cases h2 : (dig a).length = (dig b).length
    · have h3 := same_no w A B c d (dig a) (dig b) ha hb (by omega) h2 (fun e => h (dig_inj e))
      rw [h2] at h3 ⊢
      exact h3
    · exact same_len w A B _ c _ d h2
/-- Two structs that came in. -/
structure PI (w wx : World) (s : Bool) (A : Option Addr) (n c : Nat) (t : Bool) (B : Option Addr) (m d : Nat) : Prop where
  bel : Below w.heap.size w wx
  i1 : Ibx wx w.heap.size s A n c
  i2 : Ibx wx (w.heap.size + 1) t B m d
theorem PI.start (w : World) (s : Bool) (A : Option Addr) (n c : Nat) (t : Bool) (B : Option Addr) (m d : Nat) : PI w ((w.alloc (.cells #[.bool s, .slice A n c] 24)).alloc (.cells #[.bool t, .slice B m d] 24)) s A n c t B m d :=
  ⟨((Below.refl _ _).alloc (Nat.le_refl _) _).alloc (by simp) _, (Ibx.new' _ _ _ _ _ _ rfl).alloc _, Ibx.new' _ _ _ _ _ _ (by simp)⟩

set_option maxRecDepth 100000 in
set_option maxHeartbeats 2000000 in
theorem int_j {w : World} {s t : Bool} {A B : Option Addr} {n c m d : Nat} {y z : Int} (h1 : OneZ w s A n c y) (h2 : OneZ w t B m d z) (hl : zl y ≤ 100000) (v : Bool) (hv : decide (y = z) = v) :
    Calls Tryz.prog 60 #[.agg #[.bool s, .slice A n c], .agg #[.bool t, .slice B m d]] w (RetB w v) := by
  have HP := Lib.hid (PI.start w s A n c t B m d)
  obtain ⟨u, hu⟩ : ∃ u, decide (y.natAbs = z.natAbs) = u := ⟨_, rfl⟩
  have HC := Lib.hid (words_j (c := c) (d := d) ((h1.num.alloc (.cells #[.bool s, .slice A n c] 24)).alloc (.cells #[.bool t, .slice B m d] 24)) ((h2.num.alloc (.cells #[.bool s, .slice A n c] 24)).alloc (.cells #[.bool t, .slice B m d] 24)) h1.en h2.en (by rw [h1.en]; omega) u hu)
  by_cases hst : s = t
  · have HV : Hid (u = v) := by
      show _ = _
      rw [← hu, ← hv]
      have e1 := h1.es
      have e2 := h2.es
      rw [hst, e2] at e1
      have h3 := zv_zneg y
      have h4 := zv_zneg z
      by_cases h : y.natAbs = z.natAbs
      · rw [decide_eq_true h, decide_eq_true]; rw [← h3, ← h4, e1, h]
      · rw [decide_eq_false h, decide_eq_false]; intro h5; exact h (by rw [h5])
    have b1 : (s == t) = true := by rw [hst]; cases t <;> rfl
    clear h1 h2 hu hv hst
    go_enter Tryz.func60, Tryz.ntmps60
    go_wp2_with fail
    refine HC.out.mono ?_
    rintro e w1 ⟨rfl, hb1⟩
    have HB := Lib.hid (below_on HP.out.bel hb1)
    clear hb1
    go_wp2_with fail
    go_ret
    rw [HV.out]
    exact ⟨rfl, HB.out⟩
  · have HV : Hid (false = v) := by
      show _ = _
      rw [← hv, decide_eq_false]
      intro h5
      exact hst (by rw [h1.es, h2.es, h5])
    have b1 : (s == t) = false := by cases s <;> cases t <;> first | rfl | exact absurd rfl hst
    clear h1 h2 hu hv hst HC
    go_enter Tryz.func60, Tryz.ntmps60
    go_wp2_with fail
    go_ret
    rw [← HV.out]
    exact ⟨rfl, HP.out.bel⟩

/-- What stands below the line: 0, where nothing stands. -/
def dval (q : Rat) : Int := if q.den = 1 then 0 else (q.den : Int)
theorem OneQ.bot {w : World} {s t : Bool} {A B : Option Addr} {n c m d : Nat} {q : Rat} (h : OneQ w s A n c t B m d q) : OneZ w t B m d (dval q) := by
  have e := h.em
  have h5 := h.den
  unfold dden at e h5
  unfold dval
  by_cases hd : q.den = 1
  · rw [if_pos hd] at e h5 ⊢
    exact ⟨by rw [h.et]; rfl, by rw [e]; show 0 = (dig 0).length; rw [dig_zero]; rfl, by show Num w B (dig 0); rw [dig_zero]; exact h5, h.cap2⟩
  · rw [if_neg hd] at e h5 ⊢
    exact ⟨by rw [h.et]; unfold zneg; exact (decide_eq_false (by omega)).symm, by rw [e, den_zl], by rw [Int.natAbs_natCast]; exact h5, h.cap2⟩
theorem rat_eq (p r : Rat) : (p = r) ↔ (p.num = r.num ∧ dval p = dval r) := by
  constructor
  · rintro rfl; exact ⟨rfl, rfl⟩
  · rintro ⟨h1, h2⟩
    refine Rat.ext h1 ?_
    unfold dval at h2
    have := p.den_nz
    have := r.den_nz
    split at h2 <;> split at h2 <;> omega
theorem dval_le (q : Rat) : zl (dval q) ≤ ql q := by
  unfold dval
  split
  · show (dig 0).length ≤ _; rw [dig_zero]; exact Nat.zero_le _
  · rw [den_zl]; exact den_le q

set_option maxRecDepth 100000 in
set_option maxHeartbeats 2000000 in
theorem rat_j {w : World} {s t s' t' : Bool} {A B A' B' : Option Addr} {n c m d n' c' m' d' : Nat} {p r : Rat} (h1 : OneQ w s A n c t B m d p) (h2 : OneQ w s' A' n' c' t' B' m' d' r) (hl : ql p ≤ 100000) (v : Bool) (hv : decide (p = r) = v) :
    Calls Tryz.prog 38 #[.agg #[.bool s, .slice A n c, .bool t, .slice B m d], .agg #[.bool s', .slice A' n' c', .bool t', .slice B' m' d']] w (RetB w v) := by
  have HP := Lib.hid (P2.start w s A n c t B m d s' A' n' c' t' B' m' d')
  have HT := Lib.hid ((h1.top.alloc (.cells #[.bool s, .slice A n c, .bool t, .slice B m d] 26)).alloc (.cells #[.bool s', .slice A' n' c', .bool t', .slice B' m' d'] 26))
  have HT2 := Lib.hid ((h2.top.alloc (.cells #[.bool s, .slice A n c, .bool t, .slice B m d] 26)).alloc (.cells #[.bool s', .slice A' n' c', .bool t', .slice B' m' d'] 26))
  have HB := Lib.hid ((h1.bot.alloc (.cells #[.bool s, .slice A n c, .bool t, .slice B m d] 26)).alloc (.cells #[.bool s', .slice A' n' c', .bool t', .slice B' m' d'] 26))
  have HB2 := Lib.hid ((h2.bot.alloc (.cells #[.bool s, .slice A n c, .bool t, .slice B m d] 26)).alloc (.cells #[.bool s', .slice A' n' c', .bool t', .slice B' m' d'] 26))
  have HL1 : Hid (zl p.num ≤ 100000) := Nat.le_trans (num_le p) hl
  have HL2 : Hid (zl (dval p) ≤ 100000) := Nat.le_trans (dval_le p) hl
  clear h1 h2 hl
  by_cases hn : p.num = r.num
  · have HN : Hid (decide (p.num = r.num) = true) := decide_eq_true hn
    have HV : Hid (decide (dval p = dval r) = v) := by
      show _ = _
      rw [← hv]
      by_cases hd : dval p = dval r
      · rw [decide_eq_true hd, decide_eq_true ((rat_eq p r).2 ⟨hn, hd⟩)]
      · rw [decide_eq_false hd, decide_eq_false (fun h => hd ((rat_eq p r).1 h).2)]
    clear hn hv
    go_enter Tryz.func38, Tryz.ntmps38
    go_wp2_with fail
    refine (int_j HT.out HT2.out HL1.out true HN.out).mono ?_
    rintro e w1 ⟨rfl, hb1⟩
    have HP1 := Lib.hid (HP.out.below hb1)
    have HB1 := Lib.hid (HB.out.below hb1)
    have HB3 := Lib.hid (HB2.out.below hb1)
    clear hb1
    have k2 := HP1.out.i1.c2
    have k3 := HP1.out.i1.c3
    have j2 := HP1.out.i2.c2
    have j3 := HP1.out.i2.c3
    go_wp2_with fail
    refine (int_j HB1.out HB3.out HL2.out v HV.out).mono ?_
    rintro e w2 ⟨rfl, hb2⟩
    have HW := Lib.hid (below_on HP1.out.bel hb2)
    clear hb2
    go_wp2_with fail
    go_ret
    exact ⟨rfl, HW.out⟩
  · have HN : Hid (decide (p.num = r.num) = false) := decide_eq_false hn
    have HV : Hid (false = v) := by show _ = _; rw [← hv, decide_eq_false (fun h => hn ((rat_eq p r).1 h).1)]
    clear hn hv
    go_enter Tryz.func38, Tryz.ntmps38
    go_wp2_with fail
    refine (int_j HT.out HT2.out HL1.out false HN.out).mono ?_
    rintro e w1 ⟨rfl, hb1⟩
    have HP1 := Lib.hid (HP.out.below hb1)
    clear hb1
    go_wp2_with fail
    go_ret
    rw [← HV.out]
    exact ⟨rfl, HP1.out.bel⟩

theorem rat_t {w : World} {s t s' t' : Bool} {A B A' B' : Option Addr} {n c m d n' c' m' d' : Nat} {p r : Rat} (h1 : OneQ w s A n c t B m d p) (h2 : OneQ w s' A' n' c' t' B' m' d' r) (hl : ql p ≤ 100000) (e : p = r) :
    Calls Tryz.prog 38 #[.agg #[.bool s, .slice A n c, .bool t, .slice B m d], .agg #[.bool s', .slice A' n' c', .bool t', .slice B' m' d']] w (RetB w true) := rat_j h1 h2 hl true (decide_eq_true e)

end Go.Proofs.YtmbnlhedbedcdaaGreatDoor.Q