/- ETop: several texts in one. -/
import Derived.Test.YtmbnlhedbedcdaaGreatEAll
import Derived.Laws.OwnMore
import Derived.Deep.LoopGhost
import Derived.Deep.CutBlock
import Derived.Deep.DeepCutAuto
import Derived.Test.YtmbnlhedbedcdaaGreatDivAll
/- The document's answer: Mul. -/
namespace Go.Proofs.YtmbnlhedbedcdaaGreat.E
open Go.RowKit

theorem below_drewN {B : Nat} {w w' : World} (h : Below B w w') (n : Nat) : Below B w (w'.drewN n) := ⟨h.os, h.tape, h.output, h.size, h.block⟩
theorem mul_part_le {xs : List Nat} (k : Nat) : val (xs.take k) ≤ val xs := by
  have h := val_take_add xs k
  omega
theorem mul_top {a b i T k : Nat} (hi : i < (dig a).length) (hT : T = val ((dig a).take i) * b + 256 ^ i * dg (dig a) i * val ((dig b).take k)) : T < 256 ^ (i + 1 + (dig b).length) := by
  have h1 := val_lt ((dig_digs a).take (i + 1))
  rw [List.length_take, Nat.min_eq_left (by omega), val_take_dg, B64_eq] at h1
  have h2 := val_lt (dig_digs b)
  rw [val_dig, B64_eq] at h2
  have h3 : val ((dig b).take k) ≤ b := by
    have h := mul_part_le (xs := dig b) k
    rwa [val_dig] at h
  have h4 : 256 ^ i * dg (dig a) i * val ((dig b).take k) ≤ 256 ^ i * dg (dig a) i * b := Nat.mul_le_mul_left _ h3
  have h5 : T ≤ (val ((dig a).take i) + 256 ^ i * dg (dig a) i) * b := by rw [hT, Nat.add_mul]; omega
  rw [Nat.pow_add]
  exact Nat.lt_of_le_of_lt h5 (Nat.mul_lt_mul'' h1 h2)
theorem mul_next (V b p x t q y : Nat) : V * b + p * x * t + p * q * (x * y) = V * b + p * x * (t + q * y) := by
  have e : p * q * (x * y) = p * x * (q * y) := by simp only [Nat.mul_left_comm, Nat.mul_assoc]
  rw [e, Nat.mul_add]; omega

set_option maxRecDepth 100000 in
set_option maxHeartbeats 8000000 in
theorem Mul_any (w : World) (A B : Option Addr) (c d : Nat) (xs ys : List Nat) (ha : Go.Proofs.YtmbnlhedbedcdaaGreat.Num w A xs) (hb : Go.Proofs.YtmbnlhedbedcdaaGreat.Num w B ys) (hn : xs.length ≤ 400000) (hm : ys.length ≤ 400000) :
    Calls Tryz.prog 145 #[.slice A xs.length c, .slice B ys.length d] w (Go.Proofs.YtmbnlhedbedcdaaGreat.RetN w (Go.Proofs.YtmbnlhedbedcdaaGreat.val xs * Go.Proofs.YtmbnlhedbedcdaaGreat.val ys)) := by
  have HB := Lib.hid hb
  have hl1 := dl_small ha.1
  have hl2 := dl_small hb.1
  have H1 := Lib.hid (small_any w A c xs ha (by omega))
  have HS2 := Lib.hid (fun w1 (h : Below w.heap.size w w1) => small_any w1 B d ys (HB.out.below h) (by omega))
  obtain ⟨a, hva⟩ : ∃ a, Go.Proofs.YtmbnlhedbedcdaaGreat.val xs = a := ⟨_, rfl⟩
  obtain ⟨b, hvb⟩ : ∃ b, Go.Proofs.YtmbnlhedbedcdaaGreat.val ys = b := ⟨_, rfl⟩
  rw [hva] at hl1 H1
  rw [hvb] at hl2 HS2
  rw [hva, hvb]
  clear ha hb hva hvb
  obtain ⟨L, hL⟩ : ∃ L, (dig a).length + (dig b).length + 1 = L := ⟨_, rfl⟩
  have hmk := run_make_u64' (((dig a).length : Int) + ((dig b).length : Int) + 1) L (by omega) (by omega)
  go_enter Tryz.func145, Tryz.ntmps145
  go_wp2_with fail
  refine H1.out.mono ?_
  rintro e w1 ⟨A1, c1, rfl, hc1, h1, hb1⟩
  have HN1 := Lib.hid h1
  have HB1 := Lib.hid hb1
  clear h1 hb1 H1
  go_wp2_with fail
  refine (HS2.out w1 HB1.out).mono ?_
  rintro e w2 ⟨A2, c2, rfl, hc2, h2, hb2⟩
  have HA := Lib.hid (HN1.out.below hb2)
  have HBB := Lib.hid h2
  have HB2 := Lib.hid (HB1.out.trans (hb2.mono HB1.out.size))
  clear h2 hb2 HN1 HS2 HB1 HB
  go_wp2_with fail
  clear hmk
  go_loopw [8] (fun i wr => ∃ (k : Nat) (os : List Nat), k ≤ (dig a).length ∧ i = .int .i64 k ∧ os.length = L ∧ Digs os ∧ Hid (val os = val ((dig a).take k) * b) ∧ Blk wr w2.heap.size os ∧ Below w2.heap.size w2 wr) (fun i _ => (dig a).length - (intOf i).toNat)
  case atStart => exact ⟨0, List.replicate L 0, Nat.zero_le _, rfl, by simp, Digs.rep _, by show _ = _; simp [val_rep, val_nil], Blk.made w2 L, (Below.refl _ _).alloc (Nat.le_refl _) _⟩
  case round =>
    obtain ⟨i, os, hi, rfl, hol, hod, hv, hblk, hbel⟩ := hrel
    by_cases hlt : i < (dig a).length
    · have hlt' : (i : Int) < ((dig a).length : Int) := by omega
      have HV := Lib.hid hv.out
      have HBLK := Lib.hid hblk
      have HBEL := Lib.hid hbel
      have HOL := Lib.hid hol
      have HOD := Lib.hid hod
      have HX := Lib.hid (dg_lt (dig_digs a) i)
      clear hv hblk hbel hol hod
      go_wp2_with fail
      go_loopw [9, 10] (fun cy j wr => ∃ (k r : Nat) (os : List Nat), k ≤ (dig b).length + 1 ∧ r < 256 ∧ cy = .int .i64 r ∧ j = .int .i64 k ∧ os.length = L ∧ Digs os ∧ Hid (val os + 256 ^ (i + k) * r = val ((dig a).take i) * b + 256 ^ i * dg (dig a) i * val ((dig b).take k)) ∧ Blk wr w2.heap.size os ∧ Below w2.heap.size w2 wr) (fun _ j _ => (dig b).length + 2 - (intOf j).toNat)
      case atStart => exact ⟨0, 0, os, Nat.zero_le _, by omega, rfl, rfl, HOL.out, HOD.out, by show _ = _; rw [HV.out]; simp [val_nil], HBLK.out, HBEL.out⟩
      case round =>
        obtain ⟨k, r, zs, hk, hr, rfl, rfl, hzl, hzd, hzv, hblk, hbel⟩ := hrel
        by_cases hlb : k < (dig b).length
        · have hlb' : (k : Int) < ((dig b).length : Int) := by omega
          have db1 : decide ((k : Int) < ((dig b).length : Int)) = true := decide_eq_true hlb'
          obtain ⟨b1, o1, rfl, hb1, hcell⟩ := HA.out.at_ (by omega)
          have hx := (hbel.cell (p := ⟨b1, o1 + i, none⟩) hb1).trans (hcell i hlt)
          obtain ⟨b2, o2, rfl, hb2, hcell2⟩ := HBB.out.at_ (by omega)
          have hy := (hbel.cell (p := ⟨b2, o2 + k, none⟩) hb2).trans (hcell2 k hlb)
          have hxd := HX.out
          have hyd := dg_lt (dig_digs b) k
          have hvb := val_take_dg (dig b) k
          obtain ⟨j, hj⟩ : ∃ j, i + k = j := ⟨_, rfl⟩
          have hjL : j < zs.length := by omega
          have hjL' : (j : Int) < (L : Int) := by omega
          have ho := hblk.cell hjL
          have hf := hblk.frozen j
          have hod := dg_lt hzd j
          obtain ⟨x, hxe⟩ : ∃ x, dg (dig a) i = x := ⟨_, rfl⟩
          obtain ⟨y, hye⟩ : ∃ y, dg (dig b) k = y := ⟨_, rfl⟩
          obtain ⟨o, hoe⟩ : ∃ o, dg zs j = o := ⟨_, rfl⟩
          have hzv' := hzv.out
          rewrite [hxe] at hx hxd hzv'
          rewrite [hye] at hy hyd hvb
          rewrite [hoe] at ho hod
          rw [B64_eq] at hxd hyd hod hvb
          obtain ⟨m, hm'⟩ : ∃ m, x * y = m := ⟨_, rfl⟩
          have hmb : m ≤ 255 * 255 := by rw [← hm']; exact Nat.mul_le_mul (by omega) (by omega)
          obtain ⟨s1, hs1⟩ : ∃ s1, o + r = s1 := ⟨_, rfl⟩
          obtain ⟨s, hs⟩ : ∃ s, s1 + m = s := ⟨_, rfl⟩
          have ww0 : IntKind.i64.wrap ((i : Int) + (k : Int)) = (j : Int) := by
            have h := IntWalk.i64_in ((i : Int) + (k : Int)) (by omega)
            rw [h]; omega
          have ww1 : IntKind.i64.wrap ((o : Int) + (r : Int)) = (s1 : Int) := by
            have h := IntWalk.i64_in ((o : Int) + (r : Int)) (by omega)
            rw [h]; omega
          have hxy : (x : Int) * (y : Int) = (m : Int) := by rw [← hm']; exact (Int.natCast_mul x y).symm
          have ww2 : IntKind.i64.wrap ((x : Int) * (y : Int)) = (m : Int) := by
            rw [hxy]; exact IntWalk.i64_in _ (by omega)
          have ww3 : IntKind.i64.wrap ((s1 : Int) + (m : Int)) = (s : Int) := by
            have h := IntWalk.i64_in ((s1 : Int) + (m : Int)) (by omega)
            rw [h]; omega
          have hsb : s ≤ 65535 := by omega
          have HV2 : Hid (val (zs.set j (s % 256)) + 256 ^ (i + (k + 1)) * (s / 256) = val ((dig a).take i) * b + 256 ^ i * dg (dig a) i * val ((dig b).take (k + 1))) := by
            show _ = _
            have h1 := val_set (s % 256) hjL
            rw [hoe] at h1
            have h2 := mul_digit (x := x) (y := y) (s := s) hzv' (show s = o + r + x * y by rw [hm']; omega) (by rw [hj]; exact h1)
            rw [hxe, hvb, ← mul_next, show i + (k + 1) = i + k + 1 by omega, Nat.pow_succ, h2, Nat.pow_add]
          have HZD2 : Hid (Digs (zs.set j (s % 256))) := hzd.set_ j _ (Nat.mod_lt _ (by omega))
          have HZL2 : Hid ((zs.set j (s % 256)).length = L) := by show _ = _; rw [List.length_set]; exact hzl
          have HBLK2 : Hid (Blk (wr.setCell ⟨w2.heap.size, j, none⟩ (.int .i64 ((s : Int) % 256))) w2.heap.size (zs.set j (s % 256))) := hblk.set_ j (s % 256)
          have HBEL2 : Hid (∀ nq, Below w2.heap.size w2 ((wr.drewN nq).setCell ⟨w2.heap.size, j, none⟩ (.int .i64 ((s : Int) % 256)))) := fun nq => (below_drewN hbel nq).setCell (Nat.le_refl _) _
          have HR2 : Hid (s / 256 < 256) := by show _ < _; omega
          have hrr := Lib.hid hr
          clear hcell hcell2 hvb hzv hzv' hzd hzl hxe hye hoe hm' hs1 hs hj hmb hxd hyd hod hjL hblk hbel hr hxy
          go_wp2_with fail
          go_quiet (fail)
          go_wp2_with fail
          go_roundw
          case rel => exact ⟨k + 1, s / 256, zs.set j (s % 256), by omega, HR2.out, by go_num, by go_num, HZL2.out, HZD2.out, HV2.out, HBLK2.out, HBEL2.out _⟩
          case measure => simp [intOf]; omega
        · have hlb' : ¬ (k : Int) < ((dig b).length : Int) := by omega
          have db1 : decide ((k : Int) < ((dig b).length : Int)) = false := decide_eq_false hlb'
          by_cases hr0 : 0 < r
          · have hr0' : (0 : Int) < (r : Int) := by omega
            have dr1 : decide ((0 : Int) < (r : Int)) = true := decide_eq_true hr0'
            have hkb := mul_carry (N := (dig b).length) rfl hzv.out (mul_top hlt rfl) hr0 rfl
            have hvb := val_take_dg (dig b) k
            rw [dg_of_ge (xs := dig b) (by omega), Nat.mul_zero, Nat.add_zero] at hvb
            obtain ⟨j, hj⟩ : ∃ j, i + k = j := ⟨_, rfl⟩
            have hjL : j < zs.length := by omega
            have hjL' : (j : Int) < (L : Int) := by omega
            have ho := hblk.cell hjL
            have hf := hblk.frozen j
            have hod := dg_lt hzd j
            obtain ⟨o, hoe⟩ : ∃ o, dg zs j = o := ⟨_, rfl⟩
            have hzv' := hzv.out
            rewrite [hoe] at ho hod
            rw [B64_eq] at hod
            obtain ⟨s, hs⟩ : ∃ s, o + r = s := ⟨_, rfl⟩
            have ww0 : IntKind.i64.wrap ((i : Int) + (k : Int)) = (j : Int) := by
              have h := IntWalk.i64_in ((i : Int) + (k : Int)) (by omega)
              rw [h]; omega
            have ww1 : IntKind.i64.wrap ((o : Int) + (r : Int)) = (s : Int) := by
              have h := IntWalk.i64_in ((o : Int) + (r : Int)) (by omega)
              rw [h]; omega
            have hsb : s ≤ 65535 := by omega
            have HV2 : Hid (val (zs.set j (s % 256)) + 256 ^ (i + (k + 1)) * (s / 256) = val ((dig a).take i) * b + 256 ^ i * dg (dig a) i * val ((dig b).take (k + 1))) := by
              show _ = _
              have h1 := val_set (s % 256) hjL
              rw [hoe] at h1
              have h2 := mul_digit (x := 0) (y := 0) (s := s) hzv' (show s = o + r + 0 * 0 by omega) (by rw [hj]; exact h1)
              rw [hvb, show i + (k + 1) = i + k + 1 by omega, Nat.pow_succ, h2]
              simp
            have HZD2 : Hid (Digs (zs.set j (s % 256))) := hzd.set_ j _ (Nat.mod_lt _ (by omega))
            have HZL2 : Hid ((zs.set j (s % 256)).length = L) := by show _ = _; rw [List.length_set]; exact hzl
            have HBLK2 : Hid (Blk (wr.setCell ⟨w2.heap.size, j, none⟩ (.int .i64 ((s : Int) % 256))) w2.heap.size (zs.set j (s % 256))) := hblk.set_ j (s % 256)
            have HBEL2 : Hid (Below w2.heap.size w2 (wr.setCell ⟨w2.heap.size, j, none⟩ (.int .i64 ((s : Int) % 256)))) := hbel.setCell (Nat.le_refl _) _
            have HR2 : Hid (s / 256 < 256) := by show _ < _; omega
            have hrr := Lib.hid hr
            clear hvb hzv hzv' hzd hzl hoe hs hj hod hjL hblk hbel hr
            go_wp2_with fail
            go_roundw
            case rel => exact ⟨k + 1, s / 256, zs.set j (s % 256), by omega, HR2.out, by go_num, by go_num, HZL2.out, HZD2.out, HV2.out, HBLK2.out, HBEL2.out⟩
            case measure => simp [intOf]; omega
          · have hr00 : r = 0 := by omega
            subst hr00
            have HV2 : Hid (val zs = val ((dig a).take (i + 1)) * b) := by
              show _ = _
              have h := hzv.out
              rw [Nat.mul_zero, Nat.add_zero, show (dig b).take k = dig b from List.take_of_length_le (by omega), val_dig] at h
              rw [h, val_take_dg, Nat.add_mul, B64_eq]
            have HBLK2 := Lib.hid hblk
            have HBEL2 := Lib.hid hbel
            have HZD2 := Lib.hid hzd
            have HZL2 := Lib.hid hzl
            clear hzv hblk hbel hzd hzl hr
            go_wp2_with fail
            go_roundw
            case rel => exact ⟨i + 1, zs, by omega, by go_num, HZL2.out, HZD2.out, HV2.out, HBLK2.out, HBEL2.out⟩
            case measure => simp [intOf]; omega
    · have hlt' : ¬ (i : Int) < ((dig a).length : Int) := by omega
      have hval : val os = a * b := by rw [hv.out, List.take_of_length_le (by omega), val_dig]
      have hT := large_any wr (some ⟨w2.heap.size, 0, none⟩) L os (hblk.num hod) (by omega) (by omega)
      rw [hval, hol] at hT
      have HT := Lib.hid hT
      have HBEL := Lib.hid (HB2.out.trans (hbel.mono HB2.out.size))
      clear hT hval hv hblk hbel hol hod
      go_wp2_with fail
      refine HT.out.mono ?_
      rintro e w4 ⟨A4, c4, rfl, hc4, ha4, hb4⟩
      have HA4 := Lib.hid ha4
      have HB4 := Lib.hid (HBEL.out.trans (hb4.mono HBEL.out.size))
      clear ha4 hb4
      go_wp2_with fail
      go_ret
      exact ⟨A4, c4, rfl, hc4, HA4.out, HB4.out⟩
end Go.Proofs.YtmbnlhedbedcdaaGreat.E

/- The document's answer: Shl. -/
namespace Go.Proofs.YtmbnlhedbedcdaaGreat.E
open Go.RowKit

theorem Num.news {w : World} {ad : Addr} {xs : List Nat} (h : Num w (some ad) xs) : ∀ (j : Nat) (u : Value), (xs.map dcell)[j]? = some u → w.cell? (ad.add j) = some u := by
  intro j u hj
  rw [List.getElem?_map] at hj
  rcases Nat.lt_or_ge j xs.length with hlt | hge
  · obtain ⟨b, off, e, _, hc⟩ := h.at_ (by omega)
    injection e with e
    subst e
    rw [List.getElem?_eq_getElem hlt] at hj
    rw [Go.Proofs.YtmbnlhedbedcdaaGreat.addr_add, hc j hlt, dg_of_lt hlt]
    exact hj
  · rw [List.getElem?_eq_none hge] at hj
    cases hj
theorem below_new {B : Nat} {w wr w1 : World} {o : Obj} {n c : Nat} (hb : Below B w wr) (hB : B ≤ wr.heap.size) (hg : (wr.alloc o).grownBy w1 (Value.ownBlock (.slice (some ⟨wr.heap.size, 0, none⟩) n c))) : Below B w w1 :=
  (hb.alloc hB o).grown hg (by simp; omega) (fun k hk => by
    have hk : wr.heap.size = k := by simpa [Value.ownBlock] using hk
    omega)
theorem dcells_one (xs : List Nat) : ∀ u ∈ xs.map dcell, u.oneCell' = true := by
  intro u hu
  obtain ⟨x, _, rfl⟩ := List.mem_map.1 hu
  rfl

set_option maxRecDepth 100000 in
set_option maxHeartbeats 8000000 in
theorem Shl_any (w : World) (A : Option Addr) (c : Nat) (xs : List Nat) (n : Int) (ha : Go.Proofs.YtmbnlhedbedcdaaGreat.Num w A xs) (hn : xs.length ≤ 400000) :
    Calls Tryz.prog 180 #[.slice A xs.length c, .int .i64 n] w (Go.Proofs.YtmbnlhedbedcdaaGreat.RetN w (Go.Proofs.YtmbnlhedbedcdaaGreat.shlv (Go.Proofs.YtmbnlhedbedcdaaGreat.val xs) n)) := by
  have hl1 := dl_small ha.1
  have H1 := Lib.hid (small_any w A c xs ha (by omega))
  obtain ⟨a, hva⟩ : ∃ a, Go.Proofs.YtmbnlhedbedcdaaGreat.val xs = a := ⟨_, rfl⟩
  rw [hva] at hl1 H1
  rw [hva]
  clear ha hva
  by_cases hbig : 1048576 < n
  · have HV : Hid (Go.Proofs.YtmbnlhedbedcdaaGreat.shlv a n = 0) := by
      show _ = _
      unfold Go.Proofs.YtmbnlhedbedcdaaGreat.shlv
      rw [if_neg (by omega), if_pos hbig]
    clear H1
    go_enter Tryz.func180, Tryz.ntmps180
    go_wp2_with fail
    go_ret
    rw [HV.out]
    exact ⟨none, 0, by rw [Go.Proofs.YtmbnlhedbedcdaaGreat.dig_zero]; rfl, by rw [Go.Proofs.YtmbnlhedbedcdaaGreat.dig_zero]; exact Nat.le_refl _, by rw [Go.Proofs.YtmbnlhedbedcdaaGreat.dig_zero]; exact Go.Proofs.YtmbnlhedbedcdaaGreat.Num.nil _ _, Below.refl _ _⟩
  · obtain ⟨T, hT⟩ : ∃ T, Go.Proofs.YtmbnlhedbedcdaaGreat.shlv a n = T := ⟨_, rfl⟩
    have HT0 : Hid (a * 2 ^ n.toNat = T) := by
      show _ = _
      rw [← hT]
      unfold Go.Proofs.YtmbnlhedbedcdaaGreat.shlv
      split
      · rw [show n.toNat = 0 by omega, Nat.pow_zero, Nat.mul_one]
      · first | rfl | rw [if_neg hbig]
    have hTl : (dig T).length ≤ 3500000 := by
      rw [← HT0.out]
      have := shl_top (v := a) (n := n.toNat)
      omega
    rw [hT]
    clear hT
    obtain ⟨i0, hi0, hz0, hz1, hz2⟩ := info_parts info_u64
    have hb0 : n ≤ 1048576 := by omega
    go_enter Tryz.func180, Tryz.ntmps180
    go_wp2_with fail
    refine H1.out.mono ?_
    rintro e w1 ⟨A1, c1, rfl, hc1, h1, hb1⟩
    have HN1 := Lib.hid h1
    have HB1 := Lib.hid hb1
    clear h1 hb1 H1
    go_wp2_with fail
    go_loopw [1, 5] (fun nv xv wr => ∃ (z : Int) (v : Nat) (A' : Option Addr) (c' : Nat), nv = .int .i64 z ∧ xv = .slice A' (dig v).length c' ∧ z ≤ 1048576 ∧ (dig v).length ≤ c' ∧ Hid (v * 2 ^ z.toNat = T) ∧ Hid (Num wr A' (dig v)) ∧ Hid (Below w1.heap.size w1 wr)) (fun nv _ _ => (intOf nv).toNat)
    case atStart => exact ⟨n, a, A1, c1, rfl, rfl, hb0, hc1, HT0, HN1, Below.refl _ _⟩
    case round =>
      obtain ⟨z, v, A', c', rfl, rfl, hz, hc', hv, HN, HBL⟩ := hrel
      have hvl : (dig v).length ≤ 3500000 := Nat.le_trans (shl_len hv.out) hTl
      by_cases hgo : 8 ≤ z ∧ (dig v).length ≠ 0
      · obtain ⟨h8, hl0⟩ := hgo
        have d8 : decide ((8 : Int) ≤ z) = true := decide_eq_true h8
        have hlp : (0 : Int) < ((dig v).length : Int) := by omega
        have dlp : decide ((0 : Int) < ((dig v).length : Int)) = true := decide_eq_true hlp
        obtain ⟨b1, o1, rfl, hb1, _⟩ := HN.out.at_ (by omega)
        obtain ⟨u, hu⟩ : ∃ u, 256 * v = u := ⟨_, rfl⟩
        have hdu : Hid (0 :: dig v = dig u) := by
          show _ = _
          rw [← hu, dig_nought (dig_ne hl0)]
        have HV2 : Hid (u * 2 ^ (z - 8).toNat = T) := by
          show _ = _
          rw [← hu, show (z - 8).toNat = z.toNat - 8 by omega]
          exact shl_eight hv.out (by omega)
        have hlu : Hid (1 + (dig v).length = (dig u).length) := by
          show _ = _
          rw [← hdu.out, List.length_cons]; omega
        have HSTEP : Hid ([.int .i64 0] ++ (dig v).map dcell = (dig u).map dcell) := by
          show _ = _
          rw [← hdu.out]; rfl
        have HL : Hid (((dig v).map dcell).length = (dig v).length * 1) := by show _ = _; simp
        have hsz := HBL.out.size
        have HNW := Lib.hid (HN.out.alloc (.cells #[.int .i64 0] 3)).news
        clear hu hv HN
        go_wp2_with ((at_builtin; refine wpList_append_own _ rfl (.tmp 17) (.tmp 18) 68 rfl w1.heap.size 3 i0 (.int .i64 0) 1 8 under_u64s hi0 hz0 hz1 hz2 rfl (by decide) _ _ _ rfl (World.ownsRow_lit wr #[.int .i64 0] 1 hsz (by unfold maxLen; omega) rfl) ⟨b1, o1, none⟩ (dig v).length c' ((dig v).map dcell) rfl HL.out HNW.out (dcells_one _) (by unfold maxLen; omega) (by omega) (by simp; omega) ?_); intro v' w3 hown' hgrow hnil)
        rw [show (#[Value.int .i64 0]).toList = [.int .i64 0] from rfl, HSTEP.out, hlu.out] at hown'
        obtain ⟨A3, c3, rfl, hc3, hnum⟩ := num_of_own (dig_digs u) hown'
        have HN3 := Lib.hid hnum
        have HBL3 := Lib.hid (below_new HBL.out hsz hgrow)
        clear hown' hgrow hnil hnum
        go_wp2_with fail
        go_roundw
        case rel => exact ⟨z - 8, u, A3, c3, by go_num, rfl, by omega, hc3, HV2, HN3, HBL3⟩
        case measure => simp [intOf]; omega
      · have HNX : Hid (∃ (z' : Int) (v' : Nat) (A'' : Option Addr) (c'' : Nat), Value.int .i64 z = .int .i64 z' ∧ Value.slice A' (dig v).length c' = .slice A'' (dig v').length c'' ∧ z' ≤ 1048576 ∧ (dig v').length ≤ c'' ∧ Hid (v' * 2 ^ z'.toNat = T) ∧ Hid (Num wr A'' (dig v')) ∧ Hid (Below w1.heap.size w1 wr)) := ⟨z, v, A', c', rfl, rfl, hz, hc', hv, HN, HBL⟩
        clear hv HN HBL hc'
        by_cases h8 : 8 ≤ z
        · have d8 : decide ((8 : Int) ≤ z) = true := decide_eq_true h8
          have hl0 : (dig v).length = 0 := by omega
          have hlp : ¬ (0 : Int) < ((dig v).length : Int) := by omega
          have dlp : decide ((0 : Int) < ((dig v).length : Int)) = false := decide_eq_false hlp
          clear hgo hl0
          go_wp2_with fail
          go_loopw [1, 5] (fun nv xv wr => ∃ (z : Int) (v : Nat) (A' : Option Addr) (c' : Nat), nv = .int .i64 z ∧ xv = .slice A' (dig v).length c' ∧ z ≤ 1048576 ∧ (dig v).length ≤ c' ∧ Hid (v * 2 ^ z.toNat = T) ∧ Hid (Num wr A' (dig v)) ∧ Hid (Below w1.heap.size w1 wr)) (fun nv _ _ => (intOf nv).toNat)
          case atStart => exact HNX.out
          case round =>
            obtain ⟨z, v, A', c', rfl, rfl, hz, hc', hv, HN, HBL⟩ := hrel
            have hvl : (dig v).length ≤ 3500000 := Nat.le_trans (shl_len hv.out) hTl
            by_cases hgo : 0 < z ∧ (dig v).length ≠ 0
            · obtain ⟨h8, hl0⟩ := hgo
              have d8 : decide ((0 : Int) < z) = true := decide_eq_true h8
              have hlp : (0 : Int) < ((dig v).length : Int) := by omega
              have dlp : decide ((0 : Int) < ((dig v).length : Int)) = true := decide_eq_true hlp
              have HT2 : Calls Tryz.prog 181 #[.slice A' (dig v).length c', .int .i64 0] wr (RetN wr (2 * v + 0)) := twice_any wr A' c' v 0 HN.out (Nat.zero_le _) (by omega)
              obtain ⟨u, hu⟩ : ∃ u, 2 * v + 0 = u := ⟨_, rfl⟩
              rw [hu] at HT2
              have HTW := Lib.hid HT2
              have HV2 : Hid (u * 2 ^ (z - 1).toNat = T) := by
                show _ = _
                rw [← hu, show (z - 1).toNat = z.toNat - 1 by omega]
                exact shl_one hv.out (by omega)
              clear hu hv HT2
              go_wp2_with fail
              refine HTW.out.mono ?_
              rintro e w4 ⟨A4, c4, rfl, hc4, ha4, hb4⟩
              have HA4 := Lib.hid ha4
              have HB4 := Lib.hid (HBL.out.trans (hb4.mono HBL.out.size))
              clear ha4 hb4
              go_wp2_with fail
              go_roundw
              case rel => exact ⟨z - 1, u, A4, c4, by go_num, rfl, by omega, hc4, HV2, HA4, HB4⟩
              case measure => simp [intOf]; omega
            · have hvT : v = T := shl_none hv.out (by
                rcases Int.lt_or_le 0 z with h | h
                · exact .inr (dig_nil_iff.1 (by omega))
                · exact .inl (by omega))
              have HL0 := large_any wr A' c' (dig v) HN.out (by omega) hc'
              rw [val_dig] at HL0
              subst hvT
              have HL := Lib.hid HL0
              clear hv HN HL0 HNX hc'
              by_cases h8 : 0 < z
              · have d8 : decide ((0 : Int) < z) = true := decide_eq_true h8
                have hl0 : (dig v).length = 0 := by omega
                have hlp : ¬ (0 : Int) < ((dig v).length : Int) := by omega
                have dlp : decide ((0 : Int) < ((dig v).length : Int)) = false := decide_eq_false hlp
                clear hgo hl0
                go_wp2_with fail
                refine HL.out.mono ?_
                rintro e w4 ⟨A4, c4, rfl, hc4, ha4, hb4⟩
                have HA4 := Lib.hid ha4
                have HB4 := Lib.hid ((HB1.out.trans (HBL.out.mono HB1.out.size)).trans (hb4.mono (HB1.out.trans (HBL.out.mono HB1.out.size)).size))
                clear ha4 hb4
                go_wp2_with fail
                go_ret
                exact ⟨A4, c4, rfl, hc4, HA4.out, HB4.out⟩
              · have d8 : decide ((0 : Int) < z) = false := decide_eq_false h8
                clear hgo
                go_wp2_with fail
                refine HL.out.mono ?_
                rintro e w4 ⟨A4, c4, rfl, hc4, ha4, hb4⟩
                have HA4 := Lib.hid ha4
                have HB4 := Lib.hid ((HB1.out.trans (HBL.out.mono HB1.out.size)).trans (hb4.mono (HB1.out.trans (HBL.out.mono HB1.out.size)).size))
                clear ha4 hb4
                go_wp2_with fail
                go_ret
                exact ⟨A4, c4, rfl, hc4, HA4.out, HB4.out⟩
        · have d8 : decide ((8 : Int) ≤ z) = false := decide_eq_false h8
          clear hgo
          go_wp2_with fail
          go_loopw [1, 5] (fun nv xv wr => ∃ (z : Int) (v : Nat) (A' : Option Addr) (c' : Nat), nv = .int .i64 z ∧ xv = .slice A' (dig v).length c' ∧ z ≤ 1048576 ∧ (dig v).length ≤ c' ∧ Hid (v * 2 ^ z.toNat = T) ∧ Hid (Num wr A' (dig v)) ∧ Hid (Below w1.heap.size w1 wr)) (fun nv _ _ => (intOf nv).toNat)
          case atStart => exact HNX.out
          case round =>
            obtain ⟨z, v, A', c', rfl, rfl, hz, hc', hv, HN, HBL⟩ := hrel
            have hvl : (dig v).length ≤ 3500000 := Nat.le_trans (shl_len hv.out) hTl
            by_cases hgo : 0 < z ∧ (dig v).length ≠ 0
            · obtain ⟨h8, hl0⟩ := hgo
              have d8 : decide ((0 : Int) < z) = true := decide_eq_true h8
              have hlp : (0 : Int) < ((dig v).length : Int) := by omega
              have dlp : decide ((0 : Int) < ((dig v).length : Int)) = true := decide_eq_true hlp
              have HT2 : Calls Tryz.prog 181 #[.slice A' (dig v).length c', .int .i64 0] wr (RetN wr (2 * v + 0)) := twice_any wr A' c' v 0 HN.out (Nat.zero_le _) (by omega)
              obtain ⟨u, hu⟩ : ∃ u, 2 * v + 0 = u := ⟨_, rfl⟩
              rw [hu] at HT2
              have HTW := Lib.hid HT2
              have HV2 : Hid (u * 2 ^ (z - 1).toNat = T) := by
                show _ = _
                rw [← hu, show (z - 1).toNat = z.toNat - 1 by omega]
                exact shl_one hv.out (by omega)
              clear hu hv HT2
              go_wp2_with fail
              refine HTW.out.mono ?_
              rintro e w4 ⟨A4, c4, rfl, hc4, ha4, hb4⟩
              have HA4 := Lib.hid ha4
              have HB4 := Lib.hid (HBL.out.trans (hb4.mono HBL.out.size))
              clear ha4 hb4
              go_wp2_with fail
              go_roundw
              case rel => exact ⟨z - 1, u, A4, c4, by go_num, rfl, by omega, hc4, HV2, HA4, HB4⟩
              case measure => simp [intOf]; omega
            · have hvT : v = T := shl_none hv.out (by
                rcases Int.lt_or_le 0 z with h | h
                · exact .inr (dig_nil_iff.1 (by omega))
                · exact .inl (by omega))
              have HL0 := large_any wr A' c' (dig v) HN.out (by omega) hc'
              rw [val_dig] at HL0
              subst hvT
              have HL := Lib.hid HL0
              clear hv HN HL0 HNX hc'
              by_cases h8 : 0 < z
              · have d8 : decide ((0 : Int) < z) = true := decide_eq_true h8
                have hl0 : (dig v).length = 0 := by omega
                have hlp : ¬ (0 : Int) < ((dig v).length : Int) := by omega
                have dlp : decide ((0 : Int) < ((dig v).length : Int)) = false := decide_eq_false hlp
                clear hgo hl0
                go_wp2_with fail
                refine HL.out.mono ?_
                rintro e w4 ⟨A4, c4, rfl, hc4, ha4, hb4⟩
                have HA4 := Lib.hid ha4
                have HB4 := Lib.hid ((HB1.out.trans (HBL.out.mono HB1.out.size)).trans (hb4.mono (HB1.out.trans (HBL.out.mono HB1.out.size)).size))
                clear ha4 hb4
                go_wp2_with fail
                go_ret
                exact ⟨A4, c4, rfl, hc4, HA4.out, HB4.out⟩
              · have d8 : decide ((0 : Int) < z) = false := decide_eq_false h8
                clear hgo
                go_wp2_with fail
                refine HL.out.mono ?_
                rintro e w4 ⟨A4, c4, rfl, hc4, ha4, hb4⟩
                have HA4 := Lib.hid ha4
                have HB4 := Lib.hid ((HB1.out.trans (HBL.out.mono HB1.out.size)).trans (hb4.mono (HB1.out.trans (HBL.out.mono HB1.out.size)).size))
                clear ha4 hb4
                go_wp2_with fail
                go_ret
                exact ⟨A4, c4, rfl, hc4, HA4.out, HB4.out⟩
end Go.Proofs.YtmbnlhedbedcdaaGreat.E

/- The document's answer: Gcd. -/
namespace Go.Proofs.YtmbnlhedbedcdaaGreat.E
open Go.RowKit

theorem halve (w : World) (A : Option Addr) (c p : Nat) (h : Go.Proofs.YtmbnlhedbedcdaaGreat.Num w A (Go.Proofs.YtmbnlhedbedcdaaGreat.dig p)) (hn : (Go.Proofs.YtmbnlhedbedcdaaGreat.dig p).length ≤ 16001) :
    Calls Tryz.prog 179 #[.slice A (Go.Proofs.YtmbnlhedbedcdaaGreat.dig p).length c, .int .i64 1] w (Go.Proofs.YtmbnlhedbedcdaaGreat.RetN w (p / 2)) := by
  have h1 := Shr_any w A c (Go.Proofs.YtmbnlhedbedcdaaGreat.dig p) 1 h (by omega)
  rw [Go.Proofs.YtmbnlhedbedcdaaGreat.val_dig] at h1
  exact h1
theorem len_half (p : Nat) : (Go.Proofs.YtmbnlhedbedcdaaGreat.dig (p / 2)).length ≤ (Go.Proofs.YtmbnlhedbedcdaaGreat.dig p).length := Go.Proofs.YtmbnlhedbedcdaaGreat.dig_length_mono (by omega)
theorem gcd_pow {t p q g0 : Nat} (hp : p % 2 = 0) (hq : q % 2 = 0) (h : 2 ^ t * Nat.gcd p q = g0) : 2 ^ (t + 1) * Nat.gcd (p / 2) (q / 2) = g0 := by
  rw [← h, gcd_both hp hq, Nat.pow_succ, Nat.mul_assoc]
theorem pow_small {t g K x : Nat} (h : 2 ^ t * x = g) (hx : 0 < x) (hg : g < 2 ^ K) : t < K := by
  rcases Nat.lt_or_ge t K with h1 | h1
  · exact h1
  · have h2 : 2 ^ K ≤ 2 ^ t := Nat.pow_le_pow_right (by omega) h1
    have h3 : 2 ^ t * 1 ≤ 2 ^ t * x := Nat.mul_le_mul_left _ hx
    omega
theorem dl_gcd8 (a b : Nat) : (Go.Proofs.YtmbnlhedbedcdaaGreat.dig (Nat.gcd a b)).length ≤ max (Go.Proofs.YtmbnlhedbedcdaaGreat.dig a).length (Go.Proofs.YtmbnlhedbedcdaaGreat.dig b).length := by
  rcases Nat.eq_zero_or_pos a with h | h
  · rw [h, Nat.gcd_zero_left]; exact Nat.le_max_right _ _
  · exact Nat.le_trans (Go.Proofs.YtmbnlhedbedcdaaGreat.dig_length_mono (Nat.gcd_le_left b h)) (Nat.le_max_left _ _)
theorem gcd_lt_pow {a b : Nat} (ha : (Go.Proofs.YtmbnlhedbedcdaaGreat.dig a).length ≤ 8000) (hb : (Go.Proofs.YtmbnlhedbedcdaaGreat.dig b).length ≤ 8000) : ∃ K, K ≤ 1024000 ∧ Nat.gcd a b < 2 ^ K := by
  have h1 := Go.Proofs.YtmbnlhedbedcdaaGreat.val_lt (Go.Proofs.YtmbnlhedbedcdaaGreat.dig_digs (Nat.gcd a b))
  have h2 := dl_gcd8 a b
  rw [Go.Proofs.YtmbnlhedbedcdaaGreat.val_dig, show Go.Proofs.YtmbnlhedbedcdaaGreat.B64 = 2 ^ 64 by rw [Go.Proofs.YtmbnlhedbedcdaaGreat.B64_eq], ← Nat.pow_mul] at h1
  exact ⟨64 * (Go.Proofs.YtmbnlhedbedcdaaGreat.dig (Nat.gcd a b)).length, by omega, h1⟩

set_option maxRecDepth 100000 in
set_option maxHeartbeats 16000000 in
theorem Gcd_any (w : World) (A B : Option Addr) (c d : Nat) (xs ys : List Nat) (ha : Go.Proofs.YtmbnlhedbedcdaaGreat.Num w A xs) (hb : Go.Proofs.YtmbnlhedbedcdaaGreat.Num w B ys) (hn : xs.length ≤ 8000) (hm : ys.length ≤ 8000) :
    Calls Tryz.prog 165 #[.slice A xs.length c, .slice B ys.length d] w (Go.Proofs.YtmbnlhedbedcdaaGreat.RetN w (Nat.gcd (Go.Proofs.YtmbnlhedbedcdaaGreat.val xs) (Go.Proofs.YtmbnlhedbedcdaaGreat.val ys))) := by
  have HB := Lib.hid hb
  have hl1 := dl_small ha.1
  have hl2 := dl_small hb.1
  have k1 := Go.Proofs.YtmbnlhedbedcdaaGreat.dig_length_val ha.1
  have k2 := Go.Proofs.YtmbnlhedbedcdaaGreat.dig_length_val hb.1
  have H1 := Lib.hid (small_any w A c xs ha (by omega))
  have HS2 := Lib.hid (fun w1 (h : Below w.heap.size w w1) => small_any w1 B d ys (HB.out.below h) (by omega))
  obtain ⟨a, hva⟩ : ∃ a, Go.Proofs.YtmbnlhedbedcdaaGreat.val xs = a := ⟨_, rfl⟩
  obtain ⟨b, hvb⟩ : ∃ b, Go.Proofs.YtmbnlhedbedcdaaGreat.val ys = b := ⟨_, rfl⟩
  rw [hva] at hl1 H1 k1
  rw [hvb] at hl2 HS2 k2
  rw [hva, hvb]
  clear ha hb hva hvb
  have HLA := Lib.hid (fun W A' c' (h : Num W A' (dig a)) (hc : (dig a).length ≤ c') => large_any W A' c' (dig a) h (by omega) hc)
  have HLB := Lib.hid (fun W A' c' (h : Num W A' (dig b)) (hc : (dig b).length ≤ c') => large_any W A' c' (dig b) h (by omega) hc)
  rw [val_dig] at HLA HLB
  obtain ⟨K, hK, hgk⟩ := gcd_lt_pow (a := a) (b := b) (by omega) (by omega)
  have HGK := Lib.hid hgk
  clear hgk
  obtain ⟨g0, hg0⟩ : ∃ g, Nat.gcd a b = g := ⟨_, rfl⟩
  rw [hg0] at HGK ⊢
  have HG0 := Lib.hid hg0
  clear hg0
  go_enter Tryz.func165, Tryz.ntmps165
  go_wp2_with fail
  refine H1.out.mono ?_
  rintro e w1 ⟨A1, c1, rfl, hc1, h1, hb1⟩
  have HN1 := Lib.hid h1
  have HB1 := Lib.hid hb1
  clear h1 hb1 H1
  go_wp2_with fail
  refine (HLA.out w1 A1 c1 HN1.out hc1).mono ?_
  rintro e w2 ⟨A2, c2, rfl, hc2, h2, hb2⟩
  have HN2 := Lib.hid h2
  have HB2 := Lib.hid (HB1.out.trans (hb2.mono HB1.out.size))
  clear h2 hb2 HN1 HB1 HLA
  go_wp2_with fail
  refine (HS2.out w2 HB2.out).mono ?_
  rintro e w3 ⟨A3, c3, rfl, hc3, h3, hb3⟩
  have HN3 := Lib.hid h3
  have HM2 := Lib.hid (HN2.out.below hb3)
  have HB3 := Lib.hid (HB2.out.trans (hb3.mono HB2.out.size))
  clear h3 hb3 HN2 HB2 HS2
  go_wp2_with fail
  refine (HLB.out w3 A3 c3 HN3.out hc3).mono ?_
  rintro e w4 ⟨A4, c4, rfl, hc4, h4, hb4⟩
  have HN4 := Lib.hid h4
  have HM4 := Lib.hid (HM2.out.below hb4)
  have HB4 := Lib.hid (HB3.out.trans (hb4.mono HB3.out.size))
  clear h4 hb4 HN3 HB3 HM2 HLB HB
  go_upto_block 0 with fail
  go_cut [5, 6, 7] (fun xv yv tv wr => ∃ (p q t : Nat) (A1 A2 : Option Addr) (c1 c2 : Nat), xv = .slice A1 (Go.Proofs.YtmbnlhedbedcdaaGreat.dig p).length c1 ∧ yv = .slice A2 (Go.Proofs.YtmbnlhedbedcdaaGreat.dig q).length c2 ∧ tv = .int .i64 t ∧ t ≤ 1024000 ∧ (Go.Proofs.YtmbnlhedbedcdaaGreat.dig p).length ≤ 16001 ∧ (Go.Proofs.YtmbnlhedbedcdaaGreat.dig q).length ≤ 16001 ∧ (Go.Proofs.YtmbnlhedbedcdaaGreat.dig p).length ≤ c1 ∧ (Go.Proofs.YtmbnlhedbedcdaaGreat.dig q).length ≤ c2 ∧ Hid (p % 2 = 1 ∨ q % 2 = 1 ∨ p = 0 ∨ q = 0) ∧ Hid (2 ^ t * Nat.gcd p q = g0) ∧ Hid (Go.Proofs.YtmbnlhedbedcdaaGreat.Num wr A1 (Go.Proofs.YtmbnlhedbedcdaaGreat.dig p)) ∧ Hid (Go.Proofs.YtmbnlhedbedcdaaGreat.Num wr A2 (Go.Proofs.YtmbnlhedbedcdaaGreat.dig q)) ∧ Hid (Below w.heap.size w wr))
  case first =>
    go_wp2_with fail
    go_loopg [5, 6, 7] (a + b) (fun G xv yv tv wr => ∃ (p q t : Nat) (A1 A2 : Option Addr) (c1 c2 : Nat), xv = .slice A1 (Go.Proofs.YtmbnlhedbedcdaaGreat.dig p).length c1 ∧ yv = .slice A2 (Go.Proofs.YtmbnlhedbedcdaaGreat.dig q).length c2 ∧ tv = .int .i64 t ∧ t ≤ 1024000 ∧ (Go.Proofs.YtmbnlhedbedcdaaGreat.dig p).length ≤ 16001 ∧ (Go.Proofs.YtmbnlhedbedcdaaGreat.dig q).length ≤ 16001 ∧ (Go.Proofs.YtmbnlhedbedcdaaGreat.dig p).length ≤ c1 ∧ (Go.Proofs.YtmbnlhedbedcdaaGreat.dig q).length ≤ c2 ∧ Hid (p + q = G) ∧ Hid (2 ^ t * Nat.gcd p q = g0) ∧ Hid (Go.Proofs.YtmbnlhedbedcdaaGreat.Num wr A1 (Go.Proofs.YtmbnlhedbedcdaaGreat.dig p)) ∧ Hid (Go.Proofs.YtmbnlhedbedcdaaGreat.Num wr A2 (Go.Proofs.YtmbnlhedbedcdaaGreat.dig q)) ∧ Hid (Below w.heap.size w wr))
    case atStart => exact ⟨a, b, 0, A2, A4, c2, c4, rfl, rfl, rfl, by omega, by omega, by omega, hc2, hc4, rfl, by show _ = _; rw [HG0.out]; omega, HM4, HN4, HB4⟩
    case round =>
      obtain ⟨p, q, t, A1, A2, c1, c2, rfl, rfl, rfl, ht, lp, lq, hc1, hc2, hG, hg, HN1, HN2, HBL⟩ := hrel
      have HX : Hid ((p % 2 = 1 ∨ q % 2 = 1 ∨ p = 0 ∨ q = 0) → ∀ xv yv tv, xv = Value.slice A1 (Go.Proofs.YtmbnlhedbedcdaaGreat.dig p).length c1 → yv = Value.slice A2 (Go.Proofs.YtmbnlhedbedcdaaGreat.dig q).length c2 → tv = Value.int .i64 (t : Int) → ∃ (p q t : Nat) (A1 A2 : Option Addr) (c1 c2 : Nat), xv = .slice A1 (Go.Proofs.YtmbnlhedbedcdaaGreat.dig p).length c1 ∧ yv = .slice A2 (Go.Proofs.YtmbnlhedbedcdaaGreat.dig q).length c2 ∧ tv = .int .i64 t ∧ t ≤ 1024000 ∧ (Go.Proofs.YtmbnlhedbedcdaaGreat.dig p).length ≤ 16001 ∧ (Go.Proofs.YtmbnlhedbedcdaaGreat.dig q).length ≤ 16001 ∧ (Go.Proofs.YtmbnlhedbedcdaaGreat.dig p).length ≤ c1 ∧ (Go.Proofs.YtmbnlhedbedcdaaGreat.dig q).length ≤ c2 ∧ Hid (p % 2 = 1 ∨ q % 2 = 1 ∨ p = 0 ∨ q = 0) ∧ Hid (2 ^ t * Nat.gcd p q = g0) ∧ Hid (Go.Proofs.YtmbnlhedbedcdaaGreat.Num wr A1 (Go.Proofs.YtmbnlhedbedcdaaGreat.dig p)) ∧ Hid (Go.Proofs.YtmbnlhedbedcdaaGreat.Num wr A2 (Go.Proofs.YtmbnlhedbedcdaaGreat.dig q)) ∧ Hid (Below w.heap.size w wr)) := fun ho _ _ _ e1 e2 e3 => ⟨p, q, t, A1, A2, c1, c2, e1, e2, e3, ht, lp, lq, hc1, hc2, ho, hg, HN1, HN2, HBL⟩
      by_cases hp0 : p = 0
      · have hlp : ¬ (0 : Int) < ((Go.Proofs.YtmbnlhedbedcdaaGreat.dig p).length : Int) := by
          have := Go.Proofs.YtmbnlhedbedcdaaGreat.dig_nil_iff.2 hp0
          omega
        have dlp : decide ((0 : Int) < ((Go.Proofs.YtmbnlhedbedcdaaGreat.dig p).length : Int)) = false := decide_eq_false hlp
        have HXO := Lib.hid (HX.out (.inr (.inr (.inl hp0))))
        clear HX hp0
        go_wp2_with fail
        go_meet
        exact HXO.out _ _ _ rfl rfl rfl
      · have hlp : (0 : Int) < ((Go.Proofs.YtmbnlhedbedcdaaGreat.dig p).length : Int) := by
          have : (Go.Proofs.YtmbnlhedbedcdaaGreat.dig p).length ≠ 0 := fun h => hp0 (Go.Proofs.YtmbnlhedbedcdaaGreat.dig_nil_iff.1 h)
          omega
        have dlp : decide ((0 : Int) < ((Go.Proofs.YtmbnlhedbedcdaaGreat.dig p).length : Int)) = true := decide_eq_true hlp
        obtain ⟨b1, o1, rfl, hb1, hcell1⟩ := HN1.out.at_ (by omega)
        have hx := hcell1 0 (by omega)
        rw [Nat.add_zero] at hx
        have hxe := dig64_even p
        obtain ⟨x, hxd⟩ : ∃ x, Go.Proofs.YtmbnlhedbedcdaaGreat.dg (Go.Proofs.YtmbnlhedbedcdaaGreat.dig p) 0 = x := ⟨_, rfl⟩
        rw [hxd] at hx hxe
        clear hcell1 hxd
        by_cases hq0 : q = 0
        · have hlq : ¬ (0 : Int) < ((Go.Proofs.YtmbnlhedbedcdaaGreat.dig q).length : Int) := by
            have := Go.Proofs.YtmbnlhedbedcdaaGreat.dig_nil_iff.2 hq0
            omega
          have dlq : decide ((0 : Int) < ((Go.Proofs.YtmbnlhedbedcdaaGreat.dig q).length : Int)) = false := decide_eq_false hlq
          have HXO := Lib.hid (HX.out (.inr (.inr (.inr hq0))))
          clear HX hq0 hp0 hxe
          go_wp2_with fail
          go_meet
          exact HXO.out _ _ _ rfl rfl rfl
        · have hlq : (0 : Int) < ((Go.Proofs.YtmbnlhedbedcdaaGreat.dig q).length : Int) := by
            have : (Go.Proofs.YtmbnlhedbedcdaaGreat.dig q).length ≠ 0 := fun h => hq0 (Go.Proofs.YtmbnlhedbedcdaaGreat.dig_nil_iff.1 h)
            omega
          have dlq : decide ((0 : Int) < ((Go.Proofs.YtmbnlhedbedcdaaGreat.dig q).length : Int)) = true := decide_eq_true hlq
          obtain ⟨b2, o2, rfl, hb2, hcell2⟩ := HN2.out.at_ (by omega)
          have hy := hcell2 0 (by omega)
          rw [Nat.add_zero] at hy
          have hye := dig64_even q
          obtain ⟨y, hyd⟩ : ∃ y, Go.Proofs.YtmbnlhedbedcdaaGreat.dg (Go.Proofs.YtmbnlhedbedcdaaGreat.dig q) 0 = y := ⟨_, rfl⟩
          rw [hyd] at hy hye
          clear hcell2 hyd
          by_cases hpe : p % 2 = 0
          · have hmx : ((((x : Nat) : Int) % 2) == 0) = true := by
              rw [beq_iff_eq]; omega
            by_cases hqe : q % 2 = 0
            · have hmy : ((((y : Nat) : Int) % 2) == 0) = true := by
                rw [beq_iff_eq]; omega
              have H2 := Lib.hid (gcd_pow hpe hqe hg.out)
              have hpp : 0 < p / 2 := by omega
              have ht2 : t + 1 ≤ 1024000 := by
                have := pow_small H2.out (Nat.gcd_pos_of_pos_left _ hpp) HGK.out
                omega
              have lp' := len_half p
              have lq' := len_half q
              have HS1 := Lib.hid (halve wr _ c1 p HN1.out lp)
              have HS2 := Lib.hid (fun W (h : Go.Proofs.YtmbnlhedbedcdaaGreat.Num W (some ⟨b2, o2, none⟩) (Go.Proofs.YtmbnlhedbedcdaaGreat.dig q)) => halve W (some ⟨b2, o2, none⟩) c2 q h lq)
              have HGK2 : Hid (p / 2 + q / 2 < gk) := by show _ < _; have := hG.out; omega
              obtain ⟨u, hu⟩ : ∃ u, p / 2 = u := ⟨_, rfl⟩
              obtain ⟨v, hv⟩ : ∃ v, q / 2 = v := ⟨_, rfl⟩
              rw [hu] at HS1 H2 HGK2 lp'
              rw [hv] at HS2 H2 HGK2 lq'
              clear hu hv hpe hqe hp0 hq0 hpp hg hG HX hxe hye
              go_wp2_with fail
              refine HS1.out.mono ?_
              rintro e w5 ⟨A5, c5, rfl, hc5, h5, hb5⟩
              have HN5 := Lib.hid h5
              have HN2' := Lib.hid (HN2.out.below hb5)
              have HB5 := Lib.hid (HBL.out.trans (hb5.mono HBL.out.size))
              clear h5 hb5
              go_wp2_with fail
              refine (HS2.out w5 HN2'.out).mono ?_
              rintro e w6 ⟨A6, c6, rfl, hc6, h6, hb6⟩
              have HN6 := Lib.hid h6
              have HN5' := Lib.hid (HN5.out.below hb6)
              have HB6 := Lib.hid (HB5.out.trans (hb6.mono HB5.out.size))
              clear h6 hb6
              go_wp2_with fail
              go_roundg (u + v)
              case measure => exact HGK2.out
              case rel => exact ⟨u, v, t + 1, A5, A6, c5, c6, rfl, rfl, by go_num, ht2, by omega, by omega, hc5, hc6, rfl, H2, HN5', HN6, HB6⟩
            · have hmy : ((((y : Nat) : Int) % 2) == 0) = false := by
                rw [beq_eq_false_iff_ne]; omega
              have HXO := Lib.hid (HX.out (.inr (.inl (by omega))))
              clear HX hqe hpe hq0 hp0 hxe hye
              go_wp2_with fail
              go_meet
              exact HXO.out _ _ _ rfl rfl rfl
          · have hmx : ((((x : Nat) : Int) % 2) == 0) = false := by
              rw [beq_eq_false_iff_ne]; omega
            have HXO := Lib.hid (HX.out (.inl (by omega)))
            clear HX hpe hq0 hp0 hxe hye
            go_wp2_with fail
            go_meet
            exact HXO.out _ _ _ rfl rfl rfl
  case rest =>
    obtain ⟨p0, q0, t, A1, A2, c1, c2, rfl, rfl, rfl, ht, lp0, lq0, hc1, hc2, ho, hg, HN1, HN2, HBL⟩ := hcut
    have HT := Lib.hid ht
    go_upto_block 2 with fail
    go_cut [5, 6] (fun xv yv wr => ∃ (p q  : Nat) (A1 A2 : Option Addr) (c1 c2 : Nat), xv = .slice A1 (Go.Proofs.YtmbnlhedbedcdaaGreat.dig p).length c1 ∧ yv = .slice A2 (Go.Proofs.YtmbnlhedbedcdaaGreat.dig q).length c2 ∧ (Go.Proofs.YtmbnlhedbedcdaaGreat.dig p).length ≤ 16001 ∧ (Go.Proofs.YtmbnlhedbedcdaaGreat.dig q).length ≤ 16001 ∧ (Go.Proofs.YtmbnlhedbedcdaaGreat.dig p).length ≤ c1 ∧ (Go.Proofs.YtmbnlhedbedcdaaGreat.dig q).length ≤ c2 ∧ Hid (p = 0 ∨ q = 0) ∧ Hid (2 ^ t * Nat.gcd p q = g0) ∧ Hid (Go.Proofs.YtmbnlhedbedcdaaGreat.Num wr A1 (Go.Proofs.YtmbnlhedbedcdaaGreat.dig p)) ∧ Hid (Go.Proofs.YtmbnlhedbedcdaaGreat.Num wr A2 (Go.Proofs.YtmbnlhedbedcdaaGreat.dig q)) ∧ Hid (Below w.heap.size w wr))
    case first =>
      go_wp2_with fail
      go_loopg [5, 6] (p0 + q0) (fun G xv yv wr => ∃ (p q  : Nat) (A1 A2 : Option Addr) (c1 c2 : Nat), xv = .slice A1 (Go.Proofs.YtmbnlhedbedcdaaGreat.dig p).length c1 ∧ yv = .slice A2 (Go.Proofs.YtmbnlhedbedcdaaGreat.dig q).length c2 ∧ (Go.Proofs.YtmbnlhedbedcdaaGreat.dig p).length ≤ 16001 ∧ (Go.Proofs.YtmbnlhedbedcdaaGreat.dig q).length ≤ 16001 ∧ (Go.Proofs.YtmbnlhedbedcdaaGreat.dig p).length ≤ c1 ∧ (Go.Proofs.YtmbnlhedbedcdaaGreat.dig q).length ≤ c2 ∧ Hid (p + q = G) ∧ Hid (p % 2 = 1 ∨ q % 2 = 1 ∨ p = 0 ∨ q = 0) ∧ Hid (2 ^ t * Nat.gcd p q = g0) ∧ Hid (Go.Proofs.YtmbnlhedbedcdaaGreat.Num wr A1 (Go.Proofs.YtmbnlhedbedcdaaGreat.dig p)) ∧ Hid (Go.Proofs.YtmbnlhedbedcdaaGreat.Num wr A2 (Go.Proofs.YtmbnlhedbedcdaaGreat.dig q)) ∧ Hid (Below w.heap.size w wr))
      case atStart => exact ⟨p0, q0, A1, A2, c1, c2, rfl, rfl, lp0, lq0, hc1, hc2, rfl, ho, hg, HN1, HN2, HBL⟩
      case round =>
        clear HN1 HN2 HBL hg ho lp0 lq0 hc1 hc2
        obtain ⟨p, q, A1, A2, c1, c2, rfl, rfl, lp, lq, hc1, hc2, hG, ho, hg, HN1, HN2, HBL⟩ := hrel
        by_cases hp0 : p = 0
        · have hlp : ¬ (0 : Int) < ((Go.Proofs.YtmbnlhedbedcdaaGreat.dig p).length : Int) := by
            have := Go.Proofs.YtmbnlhedbedcdaaGreat.dig_nil_iff.2 hp0
            omega
          have dlp : decide ((0 : Int) < ((Go.Proofs.YtmbnlhedbedcdaaGreat.dig p).length : Int)) = false := decide_eq_false hlp
          have HXE : Hid (p = 0 ∨ q = 0) := .inl hp0
          clear ho hp0
          go_wp2_with fail
          go_meet
          exact ⟨p, q, A1, A2, c1, c2, rfl, rfl, lp, lq, hc1, hc2, HXE, hg, HN1, HN2, HBL⟩
        · have hlp : (0 : Int) < ((Go.Proofs.YtmbnlhedbedcdaaGreat.dig p).length : Int) := by
            have : (Go.Proofs.YtmbnlhedbedcdaaGreat.dig p).length ≠ 0 := fun h => hp0 (Go.Proofs.YtmbnlhedbedcdaaGreat.dig_nil_iff.1 h)
            omega
          have dlp : decide ((0 : Int) < ((Go.Proofs.YtmbnlhedbedcdaaGreat.dig p).length : Int)) = true := decide_eq_true hlp
          obtain ⟨b1, o1, rfl, hb1, hcell1⟩ := HN1.out.at_ (by omega)
          have hx := hcell1 0 (by omega)
          rw [Nat.add_zero] at hx
          have hxe := dig64_even p
          obtain ⟨x, hxd⟩ : ∃ x, Go.Proofs.YtmbnlhedbedcdaaGreat.dg (Go.Proofs.YtmbnlhedbedcdaaGreat.dig p) 0 = x := ⟨_, rfl⟩
          rw [hxd] at hx hxe
          clear hcell1 hxd
          by_cases hq0 : q = 0
          · have hlq : ¬ (0 : Int) < ((Go.Proofs.YtmbnlhedbedcdaaGreat.dig q).length : Int) := by
              have := Go.Proofs.YtmbnlhedbedcdaaGreat.dig_nil_iff.2 hq0
              omega
            have dlq : decide ((0 : Int) < ((Go.Proofs.YtmbnlhedbedcdaaGreat.dig q).length : Int)) = false := decide_eq_false hlq
            have HXE : Hid (p = 0 ∨ q = 0) := .inr hq0
            clear ho hq0 hp0 hxe
            go_wp2_with fail
            go_meet
            exact ⟨p, q, _, A2, c1, c2, rfl, rfl, lp, lq, hc1, hc2, HXE, hg, HN1, HN2, HBL⟩
          · have hlq : (0 : Int) < ((Go.Proofs.YtmbnlhedbedcdaaGreat.dig q).length : Int) := by
              have : (Go.Proofs.YtmbnlhedbedcdaaGreat.dig q).length ≠ 0 := fun h => hq0 (Go.Proofs.YtmbnlhedbedcdaaGreat.dig_nil_iff.1 h)
              omega
            have dlq : decide ((0 : Int) < ((Go.Proofs.YtmbnlhedbedcdaaGreat.dig q).length : Int)) = true := decide_eq_true hlq
            obtain ⟨b2, o2, rfl, hb2, hcell2⟩ := HN2.out.at_ (by omega)
            have hy := hcell2 0 (by omega)
            rw [Nat.add_zero] at hy
            have hye := dig64_even q
            obtain ⟨y, hyd⟩ : ∃ y, Go.Proofs.YtmbnlhedbedcdaaGreat.dg (Go.Proofs.YtmbnlhedbedcdaaGreat.dig q) 0 = y := ⟨_, rfl⟩
            rw [hyd] at hy hye
            clear hcell2 hyd
            by_cases hpe : p % 2 = 0
            · have hmx : ((((x : Nat) : Int) % 2) == 0) = true := by
                rw [beq_iff_eq]; omega
              have hodd : q % 2 = 1 := by have := ho.out; omega
              have H2 : Hid (2 ^ t * Nat.gcd (p / 2) q = g0) := by
                show _ = _
                rw [gcd_left hpe hodd]; exact hg.out
              have HGK2 : Hid ((p / 2) + q < gk) := by show _ < _; have := hG.out; omega
              have lu : (Go.Proofs.YtmbnlhedbedcdaaGreat.dig (p / 2)).length ≤ (Go.Proofs.YtmbnlhedbedcdaaGreat.dig p).length := Go.Proofs.YtmbnlhedbedcdaaGreat.dig_length_mono (by omega)
              have HS1 := Lib.hid (halve wr _ c1 p HN1.out lp)
              have HO2 : Hid ((p / 2) % 2 = 1 ∨ q % 2 = 1 ∨ (p / 2) = 0 ∨ q = 0) := by show _ ∨ _; omega
              obtain ⟨u, hu⟩ : ∃ u, p / 2 = u := ⟨_, rfl⟩
              rw [hu] at HS1 H2 HGK2 lu HO2
              clear ho hu hp0 hq0 hpe hodd hg hG hxe hye
              go_wp2_with fail
              refine HS1.out.mono ?_
              rintro e w5 ⟨A5, c5, rfl, hc5, h5, hb5⟩
              have HN5 := Lib.hid h5
              have HK := Lib.hid (HN2.out.below hb5)
              have HB5 := Lib.hid (HBL.out.trans (hb5.mono HBL.out.size))
              clear h5 hb5
              go_wp2_with fail
              go_roundg (u + q)
              case measure => exact HGK2.out
              case rel => exact ⟨u, q, A5, _, c5, c2, rfl, rfl, by omega, lq, hc5, hc2, rfl, HO2, H2, HN5, HK, HB5⟩
            · have hmx : ((((x : Nat) : Int) % 2) == 0) = false := by
                rw [beq_eq_false_iff_ne]; omega
              by_cases hqe : q % 2 = 0
              · have hmy : ((((y : Nat) : Int) % 2) == 0) = true := by
                  rw [beq_iff_eq]; omega
                have hodd : p % 2 = 1 := by omega
                have H2 : Hid (2 ^ t * Nat.gcd p (q / 2) = g0) := by
                  show _ = _
                  rw [gcd_right hodd hqe]; exact hg.out
                have HGK2 : Hid (p + (q / 2) < gk) := by show _ < _; have := hG.out; omega
                have lu : (Go.Proofs.YtmbnlhedbedcdaaGreat.dig (q / 2)).length ≤ (Go.Proofs.YtmbnlhedbedcdaaGreat.dig q).length := Go.Proofs.YtmbnlhedbedcdaaGreat.dig_length_mono (by omega)
                have HS1 := Lib.hid (halve wr _ c2 q HN2.out lq)
                have HO2 : Hid (p % 2 = 1 ∨ (q / 2) % 2 = 1 ∨ p = 0 ∨ (q / 2) = 0) := by show _ ∨ _; omega
                obtain ⟨u, hu⟩ : ∃ u, q / 2 = u := ⟨_, rfl⟩
                rw [hu] at HS1 H2 HGK2 lu HO2
                clear ho hu hp0 hq0 hqe hodd hpe hg hG hxe hye
                go_wp2_with fail
                refine HS1.out.mono ?_
                rintro e w5 ⟨A5, c5, rfl, hc5, h5, hb5⟩
                have HN5 := Lib.hid h5
                have HK := Lib.hid (HN1.out.below hb5)
                have HB5 := Lib.hid (HBL.out.trans (hb5.mono HBL.out.size))
                clear h5 hb5
                go_wp2_with fail
                go_roundg (p + u)
                case measure => exact HGK2.out
                case rel => exact ⟨p, u, _, A5, c1, c5, rfl, rfl, lp, by omega, hc1, hc5, rfl, HO2, H2, HK, HN5, HB5⟩
              · have hmy : ((((y : Nat) : Int) % 2) == 0) = false := by
                  rw [beq_eq_false_iff_ne]; omega
                by_cases hle : q ≤ p
                · have HC0 := Cmp_any wr (some ⟨b1, o1, none⟩) (some ⟨b2, o2, none⟩) c1 c2 (Go.Proofs.YtmbnlhedbedcdaaGreat.dig p) (Go.Proofs.YtmbnlhedbedcdaaGreat.dig q) HN1.out HN2.out (by omega) (by omega)
                  rw [Go.Proofs.YtmbnlhedbedcdaaGreat.val_dig, Go.Proofs.YtmbnlhedbedcdaaGreat.val_dig] at HC0
                  obtain ⟨k, hk⟩ : ∃ k, Go.Proofs.YtmbnlhedbedcdaaGreat.cmpv p q = k := ⟨_, rfl⟩
                  rw [hk] at HC0
                  have HCM := Lib.hid HC0
                  have hk0 : (0 : Int) ≤ k := by
                    rw [← hk]; unfold Go.Proofs.YtmbnlhedbedcdaaGreat.cmpv; rw [if_neg (by omega)]; split <;> omega
                  have dk0 : decide ((0 : Int) ≤ k) = true := decide_eq_true hk0
                  have HD0 := fun W (h1 : Go.Proofs.YtmbnlhedbedcdaaGreat.Num W (some ⟨b1, o1, none⟩) (Go.Proofs.YtmbnlhedbedcdaaGreat.dig p)) (h2 : Go.Proofs.YtmbnlhedbedcdaaGreat.Num W (some ⟨b2, o2, none⟩) (Go.Proofs.YtmbnlhedbedcdaaGreat.dig q)) => Sub_any W (some ⟨b1, o1, none⟩) (some ⟨b2, o2, none⟩) c1 c2 (Go.Proofs.YtmbnlhedbedcdaaGreat.dig p) (Go.Proofs.YtmbnlhedbedcdaaGreat.dig q) h1 h2 (by omega) (by omega)
                  simp only [Go.Proofs.YtmbnlhedbedcdaaGreat.val_dig] at HD0
                  have H2 : Hid (2 ^ t * Nat.gcd (p - q) q = g0) := by
                    show _ = _
                    rw [gcd_less hle]; exact hg.out
                  have HGK2 : Hid ((p - q) + q < gk) := by show _ < _; have := hG.out; omega
                  have lu : (Go.Proofs.YtmbnlhedbedcdaaGreat.dig (p - q)).length ≤ (Go.Proofs.YtmbnlhedbedcdaaGreat.dig p).length := Go.Proofs.YtmbnlhedbedcdaaGreat.dig_length_mono (by omega)
                  have HS1 := Lib.hid HD0
                  have HO2 : Hid ((p - q) % 2 = 1 ∨ q % 2 = 1 ∨ (p - q) = 0 ∨ q = 0) := by show _ ∨ _; omega
                  obtain ⟨u, hu⟩ : ∃ u, p - q = u := ⟨_, rfl⟩
                  rw [hu] at HS1 H2 HGK2 lu HO2
                  clear ho hu HD0 HC0 hk hp0 hq0 hpe hqe hg hG hxe hye hle
                  go_wp2_with fail
                  refine HCM.out.mono ?_
                  rintro e w4 ⟨rfl, hb4⟩
                  have HN1' := Lib.hid (HN1.out.below hb4)
                  have HN2' := Lib.hid (HN2.out.below hb4)
                  have HBL' := Lib.hid (HBL.out.trans (hb4.mono HBL.out.size))
                  clear hb4
                  go_wp2_with fail
                  refine (HS1.out w4 HN1'.out HN2'.out).mono ?_
                  rintro e w5 ⟨A5, c5, rfl, hc5, h5, hb5⟩
                  have HN5 := Lib.hid h5
                  have HK := Lib.hid (HN2'.out.below hb5)
                  have HB5 := Lib.hid (HBL'.out.trans (hb5.mono HBL'.out.size))
                  clear h5 hb5
                  go_wp2_with fail
                  go_roundg (u + q)
                  case measure => exact HGK2.out
                  case rel => exact ⟨u, q, A5, _, c5, c2, rfl, rfl, by omega, lq, hc5, hc2, rfl, HO2, H2, HN5, HK, HB5⟩
                · have hlt : p < q := by omega
                  clear hle
                  have HC0 := Cmp_any wr (some ⟨b1, o1, none⟩) (some ⟨b2, o2, none⟩) c1 c2 (Go.Proofs.YtmbnlhedbedcdaaGreat.dig p) (Go.Proofs.YtmbnlhedbedcdaaGreat.dig q) HN1.out HN2.out (by omega) (by omega)
                  rw [Go.Proofs.YtmbnlhedbedcdaaGreat.val_dig, Go.Proofs.YtmbnlhedbedcdaaGreat.val_dig] at HC0
                  obtain ⟨k, hk⟩ : ∃ k, Go.Proofs.YtmbnlhedbedcdaaGreat.cmpv p q = k := ⟨_, rfl⟩
                  rw [hk] at HC0
                  have HCM := Lib.hid HC0
                  have hk0 : ¬ (0 : Int) ≤ k := by
                    rw [← hk, Go.Proofs.YtmbnlhedbedcdaaGreat.cmpv_lt hlt]; omega
                  have dk0 : decide ((0 : Int) ≤ k) = false := decide_eq_false hk0
                  have HD0 := fun W (h1 : Go.Proofs.YtmbnlhedbedcdaaGreat.Num W (some ⟨b1, o1, none⟩) (Go.Proofs.YtmbnlhedbedcdaaGreat.dig p)) (h2 : Go.Proofs.YtmbnlhedbedcdaaGreat.Num W (some ⟨b2, o2, none⟩) (Go.Proofs.YtmbnlhedbedcdaaGreat.dig q)) => Sub_any W (some ⟨b2, o2, none⟩) (some ⟨b1, o1, none⟩) c2 c1 (Go.Proofs.YtmbnlhedbedcdaaGreat.dig q) (Go.Proofs.YtmbnlhedbedcdaaGreat.dig p) h2 h1 (by omega) (by omega)
                  simp only [Go.Proofs.YtmbnlhedbedcdaaGreat.val_dig] at HD0
                  have H2 : Hid (2 ^ t * Nat.gcd p (q - p) = g0) := by
                    show _ = _
                    rw [gcd_more (Nat.le_of_lt hlt)]; exact hg.out
                  have HGK2 : Hid (p + (q - p) < gk) := by show _ < _; have := hG.out; omega
                  have lu : (Go.Proofs.YtmbnlhedbedcdaaGreat.dig (q - p)).length ≤ (Go.Proofs.YtmbnlhedbedcdaaGreat.dig q).length := Go.Proofs.YtmbnlhedbedcdaaGreat.dig_length_mono (by omega)
                  have HS1 := Lib.hid HD0
                  have HO2 : Hid (p % 2 = 1 ∨ (q - p) % 2 = 1 ∨ p = 0 ∨ (q - p) = 0) := by show _ ∨ _; omega
                  obtain ⟨u, hu⟩ : ∃ u, q - p = u := ⟨_, rfl⟩
                  rw [hu] at HS1 H2 HGK2 lu HO2
                  clear ho hu HD0 HC0 hk hp0 hq0 hpe hqe hg hG hxe hye hlt
                  go_wp2_with fail
                  refine HCM.out.mono ?_
                  rintro e w4 ⟨rfl, hb4⟩
                  have HN1' := Lib.hid (HN1.out.below hb4)
                  have HN2' := Lib.hid (HN2.out.below hb4)
                  have HBL' := Lib.hid (HBL.out.trans (hb4.mono HBL.out.size))
                  clear hb4
                  go_wp2_with fail
                  refine (HS1.out w4 HN1'.out HN2'.out).mono ?_
                  rintro e w5 ⟨A5, c5, rfl, hc5, h5, hb5⟩
                  have HN5 := Lib.hid h5
                  have HK := Lib.hid (HN1'.out.below hb5)
                  have HB5 := Lib.hid (HBL'.out.trans (hb5.mono HBL'.out.size))
                  clear h5 hb5
                  go_wp2_with fail
                  go_roundg (p + u)
                  case measure => exact HGK2.out
                  case rel => exact ⟨p, u, _, A5, c1, c5, rfl, rfl, lp, by omega, hc1, hc5, rfl, HO2, H2, HK, HN5, HB5⟩
    case rest =>
      clear HN1 HN2 HBL hg ho lp0 lq0 hc1 hc2
      obtain ⟨p, q, A1, A2, c1, c2, rfl, rfl, lp, lq, hc1, hc2, hz, hg, HN1, HN2, HBL⟩ := hcut
      have HA0 := Add_any wc A1 A2 c1 c2 (Go.Proofs.YtmbnlhedbedcdaaGreat.dig p) (Go.Proofs.YtmbnlhedbedcdaaGreat.dig q) HN1.out HN2.out (by omega) (by omega)
      rw [Go.Proofs.YtmbnlhedbedcdaaGreat.val_dig, Go.Proofs.YtmbnlhedbedcdaaGreat.val_dig, gcd_end hz.out] at HA0
      obtain ⟨g1, hg1⟩ : ∃ g1, Nat.gcd p q = g1 := ⟨_, rfl⟩
      rw [hg1] at HA0 hg
      have hgl : (Go.Proofs.YtmbnlhedbedcdaaGreat.dig g1).length ≤ 16001 := by
        rw [← hg1]; have := dl_gcd8 p q; omega
      have HAD := Lib.hid HA0
      have HS := Lib.hid (fun W A' c' (h : Go.Proofs.YtmbnlhedbedcdaaGreat.Num W A' (Go.Proofs.YtmbnlhedbedcdaaGreat.dig g1)) => Shl_any W A' c' (Go.Proofs.YtmbnlhedbedcdaaGreat.dig g1) (t : Int) h (by omega))
      have hv : Go.Proofs.YtmbnlhedbedcdaaGreat.shlv (Go.Proofs.YtmbnlhedbedcdaaGreat.val (Go.Proofs.YtmbnlhedbedcdaaGreat.dig g1)) (t : Int) = g0 := by
        rw [Go.Proofs.YtmbnlhedbedcdaaGreat.val_dig, ← hg.out]
        unfold Go.Proofs.YtmbnlhedbedcdaaGreat.shlv
        split
        · have : t = 0 := by omega
          subst this; simp
        · rw [if_neg (by omega), Int.toNat_natCast, Nat.mul_comm]
      rw [hv] at HS
      clear hv HA0 hg1 hg hz HN1 HN2
      go_wp2_with fail
      refine HAD.out.mono ?_
      rintro e w5 ⟨A5, c5, rfl, hc5, h5, hb5⟩
      have HN5 := Lib.hid h5
      have HB5 := Lib.hid (HBL.out.trans (hb5.mono HBL.out.size))
      clear h5 hb5
      go_wp2_with fail
      refine (HS.out w5 A5 c5 HN5.out).mono ?_
      rintro e w6 ⟨A6, c6, rfl, hc6, h6, hb6⟩
      have HN6 := Lib.hid h6
      have HB6 := Lib.hid (HB5.out.trans (hb6.mono HB5.out.size))
      clear h6 hb6
      go_wp2_with fail
      go_ret
      exact ⟨A6, c6, rfl, hc6, HN6.out, HB6.out⟩
end Go.Proofs.YtmbnlhedbedcdaaGreat.E

/- The document's answer: DivMod, bit by bit. -/
namespace Go.Proofs.YtmbnlhedbedcdaaGreat.E
open Go.RowKit

theorem dg_of_val {os : List Nat} (h : Digs os) (i : Nat) : dg os i = val os / 256 ^ i % 256 := by
  have h2 := dg_lt h i
  rw [B64_eq] at h2
  rw [val_div_pow h, val_drop_dg]
  omega
theorem bit_step {x k : Nat} : x / 2 ^ k = 2 * (x / 2 ^ (k + 1)) + x / 2 ^ k % 2 := by
  rw [Nat.pow_succ, ← Nat.div_div_eq_div_mul]; omega
/-- The number's highest places, down to a bit. -/
theorem dm_high {X x k : Nat} (hk : k < 8) : X * 2 ^ (8 - k) + x / 2 ^ k = 2 * (X * 2 ^ (8 - (k + 1)) + x / 2 ^ (k + 1)) + x / 2 ^ k % 2 := by
  rw [show 8 - k = (8 - (k + 1)) + 1 by omega, Nat.pow_succ, ← Nat.mul_assoc]
  have := bit_step (x := x) (k := k)
  omega
theorem dm_yes {Y b r t u : Nat} (hr : r = Y % b) (hb : 0 < b) (ht : t ≤ 1) (hu : 2 * r + t = u) (hge : b ≤ u) : (2 * Y + t) % b = u - b ∧ (2 * Y + t) / b = 2 * (Y / b) + 1 := by
  have h1 := Nat.mod_add_div Y b
  have h2 := Nat.mod_lt Y hb
  have h3 : 2 * Y + t = (u - b) + b * (2 * (Y / b) + 1) := by
    rw [Nat.mul_add, Nat.mul_left_comm]; omega
  rw [h3, Nat.add_mul_mod_self_left, Nat.add_mul_div_left _ _ hb, Nat.mod_eq_of_lt (by omega), Nat.div_eq_of_lt (by omega)]
  omega
theorem dm_no {Y b r t u : Nat} (hr : r = Y % b) (hb : 0 < b) (hu : 2 * r + t = u) (hlt : u < b) : (2 * Y + t) % b = u ∧ (2 * Y + t) / b = 2 * (Y / b) := by
  have h1 := Nat.mod_add_div Y b
  have h3 : 2 * Y + t = u + b * (2 * (Y / b)) := by
    rw [Nat.mul_left_comm]; omega
  rw [h3, Nat.add_mul_mod_self_left, Nat.add_mul_div_left _ _ hb, Nat.mod_eq_of_lt (by omega), Nat.div_eq_of_lt (by omega)]
  omega
/-- A bit that is put into a digit fits in. -/
theorem dm_room {Q d k : Nat} (hk : k < 8) (hd : d = 2 ^ (k + 1) * Q % 256) : d + 2 ^ k < 256 := by
  have h : k = 0 ∨ k = 1 ∨ k = 2 ∨ k = 3 ∨ k = 4 ∨ k = 5 ∨ k = 6 ∨ k = 7 := by omega
  rcases h with h | h | h | h | h | h | h | h <;> subst h <;> simp only [Nat.reducePow, Nat.reduceAdd] at * <;> omega
theorem dm_digit {os : List Nat} {i k Q : Nat} (h : Digs os) (hv : val os = 256 ^ i * (2 ^ (k + 1) * Q)) : dg os i = 2 ^ (k + 1) * Q % 256 := by
  rw [dg_of_val h, hv, Nat.mul_div_cancel_left _ (Nat.pow_pos (by omega))]
theorem dm_set {os : List Nat} {i k Q d : Nat} (hi : i < os.length) (hv : val os = 256 ^ i * (2 ^ (k + 1) * Q)) (hd : dg os i = d) : val (os.set i (d + 2 ^ k)) = 256 ^ i * (2 ^ k * (2 * Q + 1)) := by
  have h1 := val_set (d + 2 ^ k) hi
  rw [hd, hv, Nat.mul_add] at h1
  have h2 : 2 ^ k * (2 * Q + 1) = 2 ^ (k + 1) * Q + 2 ^ k := by
    rw [Nat.mul_add, Nat.mul_one, Nat.pow_succ, Nat.mul_assoc]
  rw [h2, Nat.mul_add]
  omega
theorem dl_double {r b t : Nat} (h : r < b) (ht : t ≤ 1) : (dig (2 * r + t)).length ≤ (dig b).length + 1 := by
  apply dig_length_le
  have h1 := val_lt (dig_digs b)
  rw [val_dig, B64_eq] at h1
  rw [B64_eq, Nat.pow_succ]
  omega

theorem num_setCell_off {w : World} {A : Option Addr} {xs : List Nat} {g i : Nat} {v : Value} (h : Num w A xs) (hne : ∀ p, A = some p → p.block ≠ g) : Num (w.setCell ⟨g, i, none⟩ v) A xs :=
  ((Only.refl g w).set i v).num h hne
theorem and_i64_one (a : Nat) (ha : a < 256) : bits .and .i64 (a : Int) 1 = ((a % 2 : Nat) : Int) := by
  have h1 : (BitVec.ofInt 64 (a : Int)).toNat = a := by
    rw [BitVec.ofInt_natCast, BitVec.toNat_ofNat]; exact Nat.mod_eq_of_lt (by omega)
  show IntKind.i64.wrap ((BitVec.ofInt 64 (a : Int) &&& BitVec.ofInt 64 ((1 : Nat) : Int)).toNat : Int) = _
  have h2 : (BitVec.ofInt 64 ((1 : Nat) : Int)).toNat = 1 := by decide
  rw [BitVec.toNat_and, h1, h2, Nat.and_one_is_mod]
  exact IntWalk.i64_in _ (by omega)
theorem bit_i64 (x k t : Nat) (hx : x < 256) (ht : x / 2 ^ k % 2 = t) : bits .and .i64 ((x : Int) / 2 ^ k) 1 = (t : Int) := by
  have h : (x : Int) / 2 ^ k = ((x / 2 ^ k : Nat) : Int) := by norm_cast
  rw [h, and_i64_one _ (Nat.lt_of_le_of_lt (Nat.div_le_self _ _) hx), ht]

set_option maxRecDepth 100000 in
set_option maxHeartbeats 16000000 in
theorem DivMod_any (w : World) (A B : Option Addr) (c d : Nat) (xs ys : List Nat) (ha : Go.Proofs.YtmbnlhedbedcdaaGreat.Num w A xs) (hb : Go.Proofs.YtmbnlhedbedcdaaGreat.Num w B ys) (hn : xs.length ≤ 400000) (hm : ys.length ≤ 400000) :
    Calls Tryz.prog 166 #[.slice A xs.length c, .slice B ys.length d] w (Go.Proofs.YtmbnlhedbedcdaaGreat.RetDM w (Go.Proofs.YtmbnlhedbedcdaaGreat.dmq (Go.Proofs.YtmbnlhedbedcdaaGreat.val xs) (Go.Proofs.YtmbnlhedbedcdaaGreat.val ys)) (Go.Proofs.YtmbnlhedbedcdaaGreat.dmr (Go.Proofs.YtmbnlhedbedcdaaGreat.val xs) (Go.Proofs.YtmbnlhedbedcdaaGreat.val ys))) := by
  have HB := Lib.hid hb
  have hl1 := dl_small ha.1
  have hl2 := dl_small hb.1
  have H1 := Lib.hid (small_any w A c xs ha (by omega))
  have HS2 := Lib.hid (fun w1 (h : Below w.heap.size w w1) => small_any w1 B d ys (HB.out.below h) (by omega))
  obtain ⟨a, hva⟩ : ∃ a, Go.Proofs.YtmbnlhedbedcdaaGreat.val xs = a := ⟨_, rfl⟩
  obtain ⟨b, hvb⟩ : ∃ b, Go.Proofs.YtmbnlhedbedcdaaGreat.val ys = b := ⟨_, rfl⟩
  rw [hva] at hl1 H1
  rw [hvb] at hl2 HS2
  rw [hva, hvb]
  clear ha hb hva hvb
  by_cases hb0 : b = 0
  · have hz : (((dig b).length : Int) == 0) = true := by rw [hb0, dig_zero]; rfl
    have HQ : Hid (Go.Proofs.YtmbnlhedbedcdaaGreat.dmq a b = 0 ∧ Go.Proofs.YtmbnlhedbedcdaaGreat.dmr a b = 0) := by
      show _ ∧ _
      unfold Go.Proofs.YtmbnlhedbedcdaaGreat.dmq Go.Proofs.YtmbnlhedbedcdaaGreat.dmr
      rw [hb0, Nat.div_zero, if_pos rfl]
      exact ⟨rfl, rfl⟩
    clear hb0
    go_enter Tryz.func166, Tryz.ntmps166
    go_wp2_with fail
    refine H1.out.mono ?_
    rintro e w1 ⟨A1, c1, rfl, hc1, h1, hb1⟩
    have HB1 := Lib.hid hb1
    clear h1 hb1 H1
    go_wp2_with fail
    refine (HS2.out w1 HB1.out).mono ?_
    rintro e w2 ⟨A2, c2, rfl, hc2, h2, hb2⟩
    have HB2 := Lib.hid (HB1.out.trans (hb2.mono HB1.out.size))
    clear h2 hb2 HS2 HB1 HB
    go_wp2_with fail
    go_ret2
    rw [HQ.out.1, HQ.out.2]
    refine ⟨none, 0, none, 0, ?_, ?_, ?_, ?_, ?_, HB2.out⟩
    all_goals rw [Go.Proofs.YtmbnlhedbedcdaaGreat.dig_zero]
    · rfl
    · exact Nat.le_refl _
    · exact Nat.le_refl _
    · exact Go.Proofs.YtmbnlhedbedcdaaGreat.Num.nil _ _
    · exact Go.Proofs.YtmbnlhedbedcdaaGreat.Num.nil _ _
  · have hz : (((dig b).length : Int) == 0) = false := by
      rw [beq_eq_false_iff_ne]
      intro h
      exact hb0 (dig_nil_iff.1 (by omega))
    have hmk := run_make_u64' ((dig a).length : Int) (dig a).length rfl (by omega)
    have HBP : Hid (0 < b) := Nat.pos_of_ne_zero hb0
    clear hb0
    go_enter Tryz.func166, Tryz.ntmps166
    go_wp2_with fail
    refine H1.out.mono ?_
    rintro e w1 ⟨A1, c1, rfl, hc1, h1, hb1⟩
    have HN1 := Lib.hid h1
    have HB1 := Lib.hid hb1
    clear h1 hb1 H1
    go_wp2_with fail
    refine (HS2.out w1 HB1.out).mono ?_
    rintro e w2 ⟨A2, c2, rfl, hc2, h2, hb2⟩
    have HA := Lib.hid (HN1.out.below hb2)
    have HBB := Lib.hid h2
    have HB2 := Lib.hid (HB1.out.trans (hb2.mono HB1.out.size))
    clear h2 hb2 HN1 HS2 HB1 HB
    go_wp2_with fail
    clear hmk
    go_loopw [9, 10] (fun rv iv wr => ∃ (m r : Nat) (os : List Nat) (A' : Option Addr) (c' : Nat), m ≤ (dig a).length ∧ iv = .int .i64 ((m : Int) - 1) ∧ rv = .slice A' (dig r).length c' ∧ (dig r).length ≤ c' ∧ os.length = (dig a).length ∧ Digs os ∧ Hid (r = val ((dig a).drop m) % b) ∧ Hid (val os = 256 ^ m * (val ((dig a).drop m) / b)) ∧ Hid (Num wr A' (dig r)) ∧ Blk wr w2.heap.size os ∧ Below w2.heap.size w2 wr) (fun _ iv _ => (intOf iv + 1).toNat)
    case atStart => exact ⟨(dig a).length, 0, List.replicate (dig a).length 0, none, 0, Nat.le_refl _, by go_num, by rw [dig_zero]; rfl, by rw [dig_zero]; exact Nat.le_refl _, by simp, Digs.rep _, by show _ = _; simp [val_nil], by show _ = _; simp [val_rep, val_nil], by rw [dig_zero]; exact Num.nil _ _, Blk.made w2 _, (Below.refl _ _).alloc (Nat.le_refl _) _⟩
    case round =>
      obtain ⟨m, r, os, A', c', hm, rfl, rfl, hc', hol, hod, hr, hv, HNR, hblk, hbel⟩ := hrel
      cases m with
      | zero =>
        have hq0 : val os = Go.Proofs.YtmbnlhedbedcdaaGreat.dmq a b := by
          rw [hv.out, Nat.pow_zero, Nat.one_mul, List.drop_zero, val_dig]; rfl
        have hr0 : r = Go.Proofs.YtmbnlhedbedcdaaGreat.dmr a b := by
          have h := hr.out
          rw [List.drop_zero, val_dig] at h
          unfold Go.Proofs.YtmbnlhedbedcdaaGreat.dmr
          rw [if_neg (Nat.pos_iff_ne_zero.1 HBP.out)]; exact h
        have hrl : (dig r).length ≤ 3200000 := by
          have h1 : r < b := by rw [hr.out]; exact Nat.mod_lt _ HBP.out
          have := dig_length_mono (Nat.le_of_lt h1)
          omega
        have hTQ := large_any wr (some ⟨w2.heap.size, 0, none⟩) (dig a).length os (hblk.num hod) (by omega) (by omega)
        rw [hq0, hol] at hTQ
        have HTQ := Lib.hid hTQ
        have HTR := Lib.hid (fun W (h : Num W A' (dig r)) => large_any W A' c' (dig r) h (by omega) hc')
        rw [val_dig] at HTR
        have HBEL := Lib.hid (HB2.out.trans (hbel.mono HB2.out.size))
        have HR0 := Lib.hid hr0
        clear hTQ hq0 hr0 hv hr hblk hbel hol hod
        go_wp2_with fail
        refine HTQ.out.mono ?_
        rintro e w4 ⟨A4, c4, rfl, hc4, ha4, hb4⟩
        have HA4 := Lib.hid ha4
        have HNR4 := Lib.hid (HNR.out.below hb4)
        have HB4 := Lib.hid (HBEL.out.trans (hb4.mono HBEL.out.size))
        clear ha4 hb4
        go_wp2_with fail
        refine (HTR.out w4 HNR4.out).mono ?_
        rintro e w5 ⟨A5, c5, rfl, hc5, ha5, hb5⟩
        have HA5 := Lib.hid ha5
        have HA45 := Lib.hid (HA4.out.below hb5)
        have HB5 := Lib.hid (HB4.out.trans (hb5.mono HB4.out.size))
        clear ha5 hb5
        go_wp2_with fail
        go_ret2
        rw [← HR0.out]
        exact ⟨A4, c4, A5, c5, rfl, hc4, hc5, HA45.out, HA5.out, HB5.out⟩
      | succ i =>
        rewrite [show (((i + 1 : Nat) : Int) - 1) = (i : Int) by omega]
        have hi : i < (dig a).length := by omega
        have hi' : (i : Int) < ((dig a).length : Int) := by omega
        have hi0 : (0 : Int) ≤ (i : Int) := by omega
        obtain ⟨X, hX⟩ : ∃ X, val ((dig a).drop (i + 1)) = X := ⟨_, rfl⟩
        obtain ⟨x, hx⟩ : ∃ x, dg (dig a) i = x := ⟨_, rfl⟩
        have HX0 : Hid (val ((dig a).drop i) = X * 256 + x) := by
          show _ = _
          rw [val_drop_dg, hX, hx]; omega
        have hxd := dg_lt (dig_digs a) i
        rw [hx, B64_eq] at hxd
        rw [hX] at hr hv
        obtain ⟨b1, o1, rfl, hb1, hcell⟩ := HA.out.at_ (by omega)
        have hcx := hcell i hi
        rw [hx] at hcx
        have HCX := Lib.hid hcx
        have HBLK := Lib.hid hblk
        have HBEL := Lib.hid hbel
        have HOL := Lib.hid hol
        have HOD := Lib.hid hod
        clear hcell hcx hx hX hblk hbel hol hod
        go_wp2_with fail
        go_loopw [9, 11] (fun rv kv wr => ∃ (j r : Nat) (os : List Nat) (A' : Option Addr) (c' : Nat), j ≤ 8 ∧ kv = .int .i64 ((j : Int) - 1) ∧ rv = .slice A' (dig r).length c' ∧ (dig r).length ≤ c' ∧ os.length = (dig a).length ∧ Digs os ∧ Hid (r = (X * 2 ^ (8 - j) + x / 2 ^ j) % b) ∧ Hid (val os = 256 ^ i * (2 ^ j * ((X * 2 ^ (8 - j) + x / 2 ^ j) / b))) ∧ Hid (Num wr A' (dig r)) ∧ Blk wr w2.heap.size os ∧ Below w2.heap.size w2 wr) (fun _ kv _ => (intOf kv + 1).toNat)
        case atStart =>
          have e8 : X * 2 ^ (8 - 8) + x / 2 ^ 8 = X := by
            simp only [Nat.reducePow, Nat.sub_self]; omega
          refine ⟨8, r, os, A', c', by omega, rfl, rfl, hc', HOL.out, HOD.out, by show _ = _; rw [e8]; exact hr.out, ?_, HNR, HBLK.out, HBEL.out⟩
          show _ = _
          rw [e8, hv.out, Nat.pow_succ, Nat.mul_assoc]
        case round =>
          clear hr hv HNR hc'
          obtain ⟨j, r, os, A', c', hj, rfl, rfl, hc', hol, hod, hr, hv, HNR, hblk, hbel⟩ := hrel
          cases j with
          | zero =>
            have HR2 : Hid (r = val ((dig a).drop i) % b) := by
              show _ = _
              have h := hr.out
              rw [Nat.pow_zero, Nat.div_one, Nat.sub_zero] at h
              rw [HX0.out, h]
            have HQ2 : Hid (val os = 256 ^ i * (val ((dig a).drop i) / b)) := by
              show _ = _
              have h := hv.out
              rw [Nat.pow_zero, Nat.div_one, Nat.sub_zero, Nat.one_mul] at h
              rw [HX0.out, h]
            have HBLK2 := Lib.hid hblk
            have HBEL2 := Lib.hid hbel
            have HOD2 := Lib.hid hod
            have HOL2 := Lib.hid hol
            clear hr hv hblk hbel hod hol
            go_wp2_with fail
            go_roundw
            case rel => exact ⟨i, r, os, A', c', by omega, by go_num, rfl, hc', HOL2.out, HOD2.out, HR2, HQ2, HNR, HBLK2.out, HBEL2.out⟩
            case measure => first | (simp [intOf]; done) | (simp [intOf]; omega)
          | succ k =>
            rewrite [show (((k + 1 : Nat) : Int) - 1) = (k : Int) by omega]
            have hk0 : (0 : Int) ≤ (k : Int) := by omega
            have hk8 : (k : Int) < 8 := by omega
            have hx1 := (hbel.cell (p := ⟨b1, o1 + i, none⟩) hb1).trans HCX.out
            obtain ⟨t, ht⟩ : ∃ t, x / 2 ^ k % 2 = t := ⟨_, rfl⟩
            have hbit := bit_i64 x k t hxd ht
            have ht1 : t ≤ 1 := by omega
            obtain ⟨Y, hY⟩ : ∃ Y, X * 2 ^ (8 - (k + 1)) + x / 2 ^ (k + 1) = Y := ⟨_, rfl⟩
            have HY : Hid (X * 2 ^ (8 - k) + x / 2 ^ k = 2 * Y + t) := by
              show _ = _
              rw [dm_high (by omega), hY, ht]
            rw [hY] at hr hv
            have hrb : r < b := by rw [hr.out]; exact Nat.mod_lt _ HBP.out
            have hrl := dig_length_mono (Nat.le_of_lt hrb)
            have hul := dl_double hrb ht1
            have HT2 := twice_any wr A' c' r t HNR.out ht1 (by omega)
            obtain ⟨u, hu⟩ : ∃ u, 2 * r + t = u := ⟨_, rfl⟩
            rw [hu] at HT2 hul
            have HTW := Lib.hid HT2
            have HCM := Lib.hid (fun W A3 c3 (h1 : Num W A3 (dig u)) (h2 : Num W A2 (dig b)) => cmp_any W A3 A2 c3 c2 u b h1 h2 (by omega) (by omega))
            by_cases hge : b ≤ u
            · have hY2 := dm_yes hr.out HBP.out ht1 hu hge
              have HR2 : Hid (u - b = (X * 2 ^ (8 - k) + x / 2 ^ k) % b) := by show _ = _; rw [HY.out, hY2.1]
              have HQ2 : Hid ((X * 2 ^ (8 - k) + x / 2 ^ k) / b = 2 * (Y / b) + 1) := by show _ = _; rw [HY.out, hY2.2]
              have HSB := Lib.hid (fun W A3 c3 (h1 : Num W A3 (dig u)) (h2 : Num W A2 (dig b)) => sub_new W A3 A2 c3 c2 u b h1 h2 hge (by omega) (by omega))
              obtain ⟨v, hv2⟩ : ∃ v, u - b = v := ⟨_, rfl⟩
              rw [hv2] at HSB HR2
              obtain ⟨kc, hkc⟩ : ∃ kc, Go.Proofs.YtmbnlhedbedcdaaGreat.cmpv u b = kc := ⟨_, rfl⟩
              have hk0' : (0 : Int) ≤ kc := by
                rw [← hkc]; unfold Go.Proofs.YtmbnlhedbedcdaaGreat.cmpv; rw [if_neg (by omega)]; split <;> omega
              have dk0 : decide ((0 : Int) ≤ kc) = true := decide_eq_true hk0'
              rw [hkc] at HCM
              have hil : i < os.length := by omega
              have ho := hblk.cell hil
              have hf := hblk.frozen i
              have hdg := dm_digit hod hv.out
              obtain ⟨dd, hdd⟩ : ∃ dd, dg os i = dd := ⟨_, rfl⟩
              rw [hdd] at ho hdg
              have HOS0 : val (os.set i (dd + 2 ^ k)) = 256 ^ i * (2 ^ k * (2 * (Y / b) + 1)) := by
                exact dm_set hil hv.out hdd
              have hroom := dm_room (by omega) hdg
              obtain ⟨pw, hpw⟩ : ∃ pw, 2 ^ k = pw := ⟨_, rfl⟩
              have HPW := Lib.hid hpw
              rw [hpw] at hroom
              obtain ⟨E2, hE2⟩ : ∃ E2, dd + pw = E2 := ⟨_, rfl⟩
              rw [hE2] at hroom
              rw [hpw, hE2] at HOS0
              have HOSX : Hid (val (os.set i E2) = 256 ^ i * (2 ^ k * ((X * 2 ^ (8 - k) + x / 2 ^ k) / b))) := by
                show _ = _
                rw [HQ2.out, HPW.out]; exact HOS0
              have hw1 : wrap64 ((2 : Int) ^ k) = (pw : Int) := by
                have h : (2 : Int) ^ k = ((2 ^ k : Nat) : Int) := by norm_cast
                rw [h, hpw, IntWalk.wrap64_in _ (by omega)]
              have hw2 : wrap64 ((dd : Int) + (pw : Int)) = (E2 : Int) := by
                rw [IntWalk.wrap64_in _ (by omega)]; omega
              have HDD := Lib.hid hdd
              have HOD2 : Hid (Digs (os.set i E2)) := hod.set_ i _ hroom
              have HOL2 : Hid ((os.set i E2).length = (dig a).length) := by show _ = _; rw [List.length_set]; exact hol
              clear HOS0 hpw hE2 hroom hdg hdd hil hkc hv2 hge hY2 hu ht hY hr hv hul hrl hrb HT2
              go_wp2_with fail
              refine HTW.out.mono ?_
              rintro e w3 ⟨A3, c3, rfl, hc3, h3, hb3⟩
              have HN3 := Lib.hid h3
              have HB3 := Lib.hid hb3
              have HNB3 := Lib.hid ((HBB.out.below hbel).below hb3)
              clear h3 hb3
              go_wp2_with fail
              refine (HCM.out w3 A3 c3 HN3.out HNB3.out).mono ?_
              rintro e w4 ⟨rfl, q, rfl⟩
              go_wp2_with fail
              refine (HSB.out (w3.drewN q) A3 c3 (HN3.out.drewN q) (HNB3.out.drewN q)).mono ?_
              rintro e w5 ⟨A5, c5, rfl, hc5, h5, hb5, hf5'⟩
              have hb45 : Below wr.heap.size wr w5 := HB3.out.trans (Below.mono (show Below w3.heap.size w3 w5 from ⟨hb5.os, hb5.tape, hb5.output, hb5.size, hb5.block⟩) HB3.out.size)
              have hg : w2.heap.size < wr.heap.size := hblk.lt
              have hblk5 := hblk.below hb45 hg
              have ho5 := hblk5.cell (i := i) (by rw [hol]; exact hi)
              rw [HDD.out] at ho5
              have hf5 := hblk5.frozen i
              have HBLK2 : Hid (Blk (w5.setCell ⟨w2.heap.size, i, none⟩ (.int .i64 (E2 : Int))) w2.heap.size (os.set i E2)) := hblk5.set_ i E2
              have HBEL2 : Hid (Below w2.heap.size w2 (w5.setCell ⟨w2.heap.size, i, none⟩ (.int .i64 (E2 : Int)))) := (hbel.trans (hb45.mono hbel.size)).setCell (Nat.le_refl _) _
              have HNS5 : Hid (Num (w5.setCell ⟨w2.heap.size, i, none⟩ (.int .i64 (E2 : Int))) A5 (dig v)) := num_setCell_off h5 (fun p hp => by have h1 := hf5' p hp; have h2 : wr.heap.size ≤ w3.heap.size := HB3.out.size; have h3 : (w3.drewN q).heap.size = w3.heap.size := rfl; show p.block ≠ w2.heap.size; omega)
              clear hblk5 h5 hb5 hf5' hb45 hblk hbel hol hod
              go_wp2_with fail
              go_roundw
              case rel => exact ⟨k, v, os.set i E2, A5, c5, by omega, by go_num, rfl, hc5, HOL2.out, HOD2.out, HR2, HOSX, HNS5, HBLK2.out, HBEL2.out⟩
              case measure => first | (simp [intOf]; done) | (simp [intOf]; omega)
            · have hlt : u < b := by omega
              have hY2 := dm_no hr.out HBP.out hu hlt
              have HR2 : Hid (u = (X * 2 ^ (8 - k) + x / 2 ^ k) % b) := by show _ = _; rw [HY.out, hY2.1]
              have HOS : Hid (val os = 256 ^ i * (2 ^ k * ((X * 2 ^ (8 - k) + x / 2 ^ k) / b))) := by
                show _ = _
                rw [HY.out, hY2.2, hv.out, Nat.pow_succ, Nat.mul_assoc (2 ^ k) 2]
              obtain ⟨kc, hkc⟩ : ∃ kc, Go.Proofs.YtmbnlhedbedcdaaGreat.cmpv u b = kc := ⟨_, rfl⟩
              have hk0' : ¬ (0 : Int) ≤ kc := by
                rw [← hkc, Go.Proofs.YtmbnlhedbedcdaaGreat.cmpv_lt hlt]; omega
              have dk0 : decide ((0 : Int) ≤ kc) = false := decide_eq_false hk0'
              rw [hkc] at HCM
              have HOD2 := Lib.hid hod
              have HOL2 := Lib.hid hol
              clear hkc hge hlt hY2 hu ht hY hr hv hul hrl hrb HT2 hod hol
              go_wp2_with fail
              refine HTW.out.mono ?_
              rintro e w3 ⟨A3, c3, rfl, hc3, h3, hb3⟩
              have HN3 := Lib.hid h3
              have HNB3 := Lib.hid ((HBB.out.below hbel).below hb3)
              have HBLK2 := Lib.hid (hblk.below hb3 hblk.lt)
              have HBEL2 := Lib.hid (hbel.trans (hb3.mono hbel.size))
              clear h3 hb3 hblk hbel
              go_wp2_with fail
              refine (HCM.out w3 A3 c3 HN3.out HNB3.out).mono ?_
              rintro e w4 ⟨rfl, q, rfl⟩
              go_wp2_with fail
              go_roundw
              case rel => exact ⟨k, u, os, A3, c3, by omega, by go_num, rfl, hc3, HOL2.out, HOD2.out, HR2, HOS, HN3.out.drewN q, HBLK2.out.drewN q, below_drewN HBEL2.out q⟩
              case measure => first | (simp [intOf]; done) | (simp [intOf]; omega)
end Go.Proofs.YtmbnlhedbedcdaaGreat.E
