/- DivMod. -/
import Derived.Test.YtbbncggaaibheaaGreatDoorDivE
namespace Go.Proofs.YtbbncggaaibheaaGreatDoor
open Go.RowKit

def RetDM (w : World) (q r : Nat) (e : Ending) (w' : World) : Prop :=
  ∃ A c B d, e = .returned (.tuple #[.slice A (dig q).length c, .slice B (dig r).length d]) ∧ (dig q).length ≤ c ∧ (dig r).length ≤ d ∧ Num w' A (dig q) ∧ Num w' B (dig r) ∧ Below w.heap.size w w'
theorem RetQR.dm {w : World} {q r : Nat} {e : Ending} {w' : World} (h : RetQR w q r e w') : RetDM w q r e w' := by
  obtain ⟨A, c, B, d, g, zs, h1, h2, h3, h4, h5, h6, _⟩ := h
  exact ⟨A, c, B, d, h1, h2, h3, h4, h5, h6⟩

theorem Blk.lit (w : World) (xs : List Nat) : Blk (w.alloc (.cells (xs.map dcell).toArray 30)) w.heap.size xs := heap_alloc_new w _
theorem Blk.lit1 (w : World) (x : Nat) : Blk (w.alloc (.cells #[.int .u64 (x : Int)] 30)) w.heap.size [x] := Blk.lit w [x]

/-- What DivMod tells of a and b. -/
def dmq (a b : Nat) : Nat := a / b
def dmr (a b : Nat) : Nat := if b = 0 then 0 else a % b

set_option maxHeartbeats 2000000 in
theorem divmod_any (w : World) (A B : Option Addr) (c d : Nat) (xs ys : List Nat) (ha : Num w A xs) (hb : Num w B ys) (hn : xs.length ≤ 8589934592) (hm : ys.length ≤ 8589934592)
    (hc : xs.length ≤ c) (hd : ys.length ≤ d) :
    Calls Tryz.prog 115 #[.slice A xs.length c, .slice B ys.length d] w (RetDM w (dmq (val xs) (val ys)) (dmr (val xs) (val ys))) := by
  have C1 := Lib.hid (cut_any w A c xs ha (by omega) hc)
  have C2 := Lib.hid (cut_any w B d ys hb (by omega) hd)
  have hl1 := dig_length_val ha.1
  have hl2 := dig_length_val hb.1
  clear ha hb
  generalize val xs = a at *
  generalize val ys = b at *
  by_cases hb0 : b = 0
  · have hq : Hid (dmq a b = 0 ∧ dmr a b = 0) := by subst hb0; exact ⟨Nat.div_zero a, rfl⟩
    have hbl : (((dig b).length : Int) == 0) = true := by rw [hb0, dig_zero]; rfl
    clear hb0
    go_enter Tryz.func115, Tryz.ntmps115
    go_wp2_with fail
    refine C1.out.mono ?_
    rintro e w' ⟨A', c', rfl, hc', ha', rfl⟩
    go_wp2_with fail
    refine C2.out.mono ?_
    rintro e w' ⟨B', d', rfl, hd', hb', rfl⟩
    clear ha' hb' C1 C2
    go_wp2_with fail
    go_ret2
    obtain ⟨e1, e2⟩ := hq.out
    rw [e1, e2]
    exact ⟨none, 0, none, 0, by rw [dig_zero]; rfl, by rw [dig_zero]; simp, by rw [dig_zero]; simp, by rw [dig_zero]; exact Num.nil _ _, by rw [dig_zero]; exact Num.nil _ _, Below.refl _ _⟩
  · have hdr : dmr a b = a % b := by unfold dmr; rw [if_neg hb0]
    have hlb0 : (dig b).length ≠ 0 := fun h => hb0 (dig_nil_iff.1 h)
    have hbl : (((dig b).length : Int) == 0) = false := by rw [beq_eq_false_iff_ne]; omega
    rcases Nat.lt_or_ge a b with hab | hab
    · have hq : Hid (dmq a b = 0 ∧ dmr a b = a) := ⟨Nat.div_eq_of_lt hab, by rw [hdr, Nat.mod_eq_of_lt hab]⟩
      have HCM : Hid (cmpv a b = -1) := cmpv_lt hab
      clear hdr hab
      go_enter Tryz.func115, Tryz.ntmps115
      go_wp2_with fail
      refine C1.out.mono ?_
      rintro e w' ⟨A', c', rfl, hc', ha', rfl⟩
      go_wp2_with fail
      refine C2.out.mono ?_
      rintro e w' ⟨B', d', rfl, hd', hb', rfl⟩
      have HCMP := cmp_any w A' B' c' d' (dig a) (dig b) ha' hb' (by omega) (by omega) hc' hd'
      rw [val_dig, val_dig, HCM.out] at HCMP
      have HC := Lib.hid HCMP
      have HA := Lib.hid ha'
      clear ha' hb' C1 C2 HCMP
      go_wp2_with fail
      refine HC.out.mono ?_
      rintro e w' ⟨rfl, q, rfl⟩
      have HT := trim_any (w.drewN q) A' c' (dig a) (HA.out.drewN q) (by omega) hc'
      rw [val_dig] at HT
      have HTT := Lib.hid HT
      clear HT
      go_wp2_with fail
      refine HTT.out.mono ?_
      rintro e w2 ⟨A2, c2, rfl, hc2, ha2, hb2⟩
      have HA2 := Lib.hid ha2
      have HB2 : Hid (Below w.heap.size w w2) := (below_drewN (Below.refl _ _) q).trans hb2
      clear ha2 hb2
      go_wp2_with fail
      go_ret2
      obtain ⟨e1, e2⟩ := hq.out
      rw [e1, e2]
      exact ⟨none, 0, A2, c2, by rw [dig_zero]; rfl, by rw [dig_zero]; simp, hc2, by rw [dig_zero]; exact Num.nil _ _, HA2.out, HB2.out⟩
    · have hz : ∃ z : Int, cmpv a b = z ∧ ¬ z < 0 := by
        rcases Nat.lt_or_ge b a with h | h
        · exact ⟨1, cmpv_gt h, by omega⟩
        · exact ⟨0, cmpv_eq (by omega), by omega⟩
      obtain ⟨z, hz1, hz2⟩ := hz
      have HCM := Lib.hid hz1
      have HDR : Hid (dmr a b = a % b) := hdr
      have hlab := dig_length_mono hab
      have hbpos : 0 < b := by omega
      clear hz1 hdr hab
      by_cases hone : (dig b).length = 1
      · have hone' : (((dig b).length : Int) == 1) = true := by rw [hone]; rfl
        have HONE := Lib.hid hone
        have hlt0 : (0 : Int) < ((dig b).length : Int) := by omega
        have hmk := run_make_u64 (dig a).length (by omega)
        have HBV : Hid (b = dg (dig b) 0) := by
          have h := val_take_dg (dig b) 0
          rw [List.take_of_length_le (by omega), val_dig, List.take_zero, val_nil, Nat.pow_zero, Nat.one_mul, Nat.zero_add] at h
          exact h
        clear hone
        go_enter Tryz.func115, Tryz.ntmps115
        go_wp2_with fail
        refine C1.out.mono ?_
        rintro e w' ⟨A', c', rfl, hc', ha', rfl⟩
        go_wp2_with fail
        refine C2.out.mono ?_
        rintro e w' ⟨B', d', rfl, hd', hb', rfl⟩
        have HCMP := cmp_any w A' B' c' d' (dig a) (dig b) ha' hb' (by omega) (by omega) hc' hd'
        rw [val_dig, val_dig, HCM.out] at HCMP
        have HC := Lib.hid HCMP
        have HA := Lib.hid ha'
        obtain ⟨b1, o1, rfl, hb1, hcell⟩ := hb'.at_ (by omega)
        have hx := hcell 0 (by omega)
        rw [← HBV.out, Nat.add_zero] at hx
        have hb64 : b < B64 := by
          have := dg_lt (dig_digs b) 0
          rwa [← HBV.out] at this
        have HB64 := Lib.hid hb64
        clear ha' hb' C1 C2 HCMP hcell hb64
        go_wp2_with fail
        refine HC.out.mono ?_
        rintro e w' ⟨rfl, q, rfl⟩
        have hx2 : ((w.drewN q).alloc (.cells (madeCells #[.int .u64 0] (dig a).length) 30)).cell? ⟨b1, o1, none⟩ = some (.int .u64 (b : Int)) := (World.cell?_alloc_lt (w.drewN q) _ _ hb1).trans hx
        go_wp2_with fail
        have hD := divd_any ((w.drewN q).alloc (.cells (madeCells #[.int .u64 0] (dig a).length) 30)) w.heap.size (dig a).length c' b (dig a) A' (Blk.made (w.drewN q) _) ((HA.out.drewN q).alloc _) (HA.out.ne (Nat.le_refl _)) hbpos HB64.out (by omega)
        have HD := Lib.hid hD
        clear hD
        refine HD.out.mono ?_
        rintro e w2 ⟨he, ⟨qs, hql, hqd, hqv, hblk⟩, hown⟩
        rw [val_dig] at hqv he
        obtain ⟨r, hr⟩ : ∃ r, r = a % b := ⟨_, rfl⟩
        rw [← hr] at he
        subst he
        have HR := Lib.hid hr
        have hrb : r < b := by rw [hr]; exact Nat.mod_lt _ hbpos
        clear hr
        have hB2 : Below w.heap.size w w2 := ((below_drewN (Below.refl _ _) q).alloc (Nat.le_refl _) _).grown hown (by simp [World.drewN]) (by intro k hk; injection hk with hk; exact Nat.le_of_eq hk)
        have hcut := cut_any w2 _ (dig a).length qs (hblk.num hqd) (by omega) (by omega)
        rw [hql, hqv] at hcut
        have HCUT := Lib.hid hcut
        have HB2 := Lib.hid hB2
        clear hcut hblk hown hB2 hqv hql
        go_wp2_with fail
        refine HCUT.out.mono ?_
        rintro e w3 ⟨A2, c2, rfl, hc2, ha2, rfl⟩
        have HA2 := Lib.hid ha2
        clear ha2 HCUT
        go_wp2_with fail
        have hlit := Blk.lit1 w2 r
        have hcut := cut_any _ _ 1 [r] (hlit.num (Digs.cons (Nat.lt_trans hrb HB64.out) Digs.nil)) (by simp) (by simp)
        rw [val_cons, val_nil, Nat.mul_zero, Nat.add_zero, List.length_singleton] at hcut
        have HCUT := Lib.hid hcut
        clear hcut hlit
        refine HCUT.out.mono ?_
        rintro e w3 ⟨A3, c3, rfl, hc3, ha3, rfl⟩
        have HA3 := Lib.hid ha3
        clear ha3 HCUT
        go_wp2_with fail
        go_ret2
        rw [HDR.out, ← HR.out]
        exact ⟨A2, c2, A3, c3, rfl, hc2, hc3, HA2.out.alloc _, HA3.out, HB2.out.alloc HB2.out.size _⟩
      · have hone' : (((dig b).length : Int) == 1) = false := by rw [beq_eq_false_iff_ne]; omega
        have htop : dg (dig b) ((dig b).length - 1) ≠ 0 := by
          intro h
          have h1 := dig_top b
          rw [List.getLast?_eq_getElem?, List.getElem?_eq_getElem (by omega)] at h1
          rw [dg_of_lt (by omega)] at h
          exact h1 (by rw [h])
        have hbl64 := blen_digit (dg_lt (dig_digs b) ((dig b).length - 1))
        obtain ⟨s, hs⟩ : ∃ s, s + blen (dg (dig b) ((dig b).length - 1)) = 64 := ⟨64 - blen (dg (dig b) ((dig b).length - 1)), by omega⟩
        have HTOP := Lib.hid htop
        have HS := Lib.hid hs
        clear htop hs hbl64
        go_enter Tryz.func115, Tryz.ntmps115
        go_wp2_with fail
        refine C1.out.mono ?_
        rintro e w' ⟨A', c', rfl, hc', ha', rfl⟩
        go_wp2_with fail
        refine C2.out.mono ?_
        rintro e w' ⟨B', d', rfl, hd', hb', rfl⟩
        have HCMP := cmp_any w A' B' c' d' (dig a) (dig b) ha' hb' (by omega) (by omega) hc' hd'
        rw [val_dig, val_dig, HCM.out] at HCMP
        have HC := Lib.hid HCMP
        have hL : ∀ q, Calls Tryz.prog 160 #[.slice A' (dig a).length c', .slice B' (dig b).length d'] (w.drewN q) (RetQR (w.drewN q) (a / b) (a % b)) := by
          intro q
          have h := long_any (w.drewN q) A' B' c' d' (dig b).length s ((dig a).length - (dig b).length + 1) (dig a) (dig b) (ha'.drewN q) (hb'.drewN q) (by omega) rfl (by omega) hlab HS.out HTOP.out (by omega)
          rw [val_dig, val_dig] at h
          exact h
        have HL := Lib.hid hL
        clear ha' hb' C1 C2 HCMP hL
        go_wp2_with fail
        refine HC.out.mono ?_
        rintro e w' ⟨rfl, q, rfl⟩
        go_wp2_with fail
        refine (HL.out q).mono ?_
        rintro e w2 h2
        obtain ⟨A2, c2, A3, c3, rfl, hc2, hc3, ha2, ha3, hb2⟩ := h2.dm
        have HA2 := Lib.hid ha2
        have HA3 := Lib.hid ha3
        have HB2 : Hid (Below w.heap.size w w2) := (below_drewN (Below.refl _ _) q).trans hb2
        clear ha2 ha3 hb2 h2
        go_wp2_with fail
        go_ret2
        rw [HDR.out]
        exact ⟨A2, c2, A3, c3, rfl, hc2, hc3, HA2.out, HA3.out, HB2.out⟩
end Go.Proofs.YtbbncggaaibheaaGreatDoor
