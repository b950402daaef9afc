/- PAll: several texts in one. -/
import Derived.Test.YtmbnlhedbedcdaaGreatWTop
import Derived.Test.YtmbnlhedbedcdaaGreatQLow
/- The document's answer for ratio: whole's calls over letters; Lowest, Make, Of, walked. -/
namespace Go.Proofs.YtmbnlhedbedcdaaGreat.Q.P
open Go.RowKit


section
variable {w : World} {s t : Bool} {A B : Option Addr} {n c m d k : Nat} {y z : Int}

theorem add_j (h1 : IsZ w s A n c y k) (h2 : IsZ w t B m d z k) (hk : k ≤ 3000) (r : Int) (hr : y + z = r) : Calls Tryz.prog 114 #[.agg #[.bool s, .slice A n c], .agg #[.bool t, .slice B m d]] w (RetJ w r) := by
  obtain ⟨xs, rfl, ha, hx⟩ := h1.ex
  obtain ⟨ys, rfl, hb, hy⟩ := h2.ex
  exact (wadd_z w s t A B c d xs ys y z ha hb hx hy (by have := h1.le; omega) (by have := h2.le; omega) h1.cap h2.cap r hr).mono fun _ _ => retj_of
theorem mul_j (h1 : IsZ w s A n c y k) (h2 : IsZ w t B m d z k) (hk : k ≤ 3000) (r : Int) (hr : y * z = r) : Calls Tryz.prog 115 #[.agg #[.bool s, .slice A n c], .agg #[.bool t, .slice B m d]] w (RetJ w r) := by
  obtain ⟨xs, rfl, ha, hx⟩ := h1.ex
  obtain ⟨ys, rfl, hb, hy⟩ := h2.ex
  exact (wmul_z w s t A B c d xs ys y z ha hb hx hy (by have := h1.le; omega) (by have := h2.le; omega) h1.cap h2.cap r hr).mono fun _ _ => retj_of
theorem gcd_j (h1 : IsZ w s A n c y k) (h2 : IsZ w t B m d z k) (hk : k ≤ 3000) (r : Int) (hr : ((Nat.gcd y.natAbs z.natAbs : Nat) : Int) = r) : Calls Tryz.prog 139 #[.agg #[.bool s, .slice A n c], .agg #[.bool t, .slice B m d]] w (RetJ w r) := by
  obtain ⟨xs, rfl, ha, hx⟩ := h1.ex
  obtain ⟨ys, rfl, hb, hy⟩ := h2.ex
  exact (wgcd_z w s t A B c d xs ys y z ha hb hx hy (by have := h1.le; omega) (by have := h2.le; omega) h1.cap h2.cap r hr).mono fun _ _ => retj_of
theorem cmp_j (h1 : IsZ w s A n c y k) (h2 : IsZ w t B m d z k) (hk : k ≤ 3000) (r : Int) (hr : zcmp y z = r) : Calls Tryz.prog 141 #[.agg #[.bool s, .slice A n c], .agg #[.bool t, .slice B m d]] w (RetI w r) := by
  obtain ⟨xs, rfl, ha, hx⟩ := h1.ex
  obtain ⟨ys, rfl, hb, hy⟩ := h2.ex
  exact wcmp_z w s t A B c d xs ys y z ha hb hx hy (by have := h1.le; omega) (by have := h2.le; omega) h1.cap h2.cap r hr
theorem divmod_j (h1 : IsZ w s A n c y k) (h2 : IsZ w t B m d z k) (hk : k ≤ 3000) (q r : Int) (hq : y / z = q) (hr : zrem y z = r) : Calls Tryz.prog 140 #[.agg #[.bool s, .slice A n c], .agg #[.bool t, .slice B m d]] w (RetJJ w q r) := by
  obtain ⟨xs, rfl, ha, hx⟩ := h1.ex
  obtain ⟨ys, rfl, hb, hy⟩ := h2.ex
  refine (wdivmod_z w s t A B c d xs ys y z ha hb hx hy (by have := h1.le; omega) (by have := h2.le; omega) h1.cap h2.cap q r hq hr).mono ?_
  rintro e w' ⟨A1, c1, B1, d1, rfl, hc, hd, h3, h4, h5⟩
  exact ⟨_, _, _, _, _, _, _, _, rfl, ⟨rfl, rfl, h3, hc⟩, ⟨rfl, rfl, h4, hd⟩, h5⟩
theorem norm_j (h1 : IsZ w s A n c y k) (hk : k ≤ 3000) : Calls Tryz.prog 138 #[.agg #[.bool s, .slice A n c]] w (RetJ w y) := by
  obtain ⟨xs, rfl, ha, hx⟩ := h1.ex
  exact (wnorm_z w s A c xs y ha hx (by have := h1.le; omega) h1.cap _ rfl).mono fun _ _ => retj_of
theorem neg_j (h1 : IsZ w s A n c y k) (hk : k ≤ 3000) (r : Int) (hr : -y = r) : Calls Tryz.prog 136 #[.agg #[.bool s, .slice A n c]] w (RetJ w r) := by
  obtain ⟨xs, rfl, ha, hx⟩ := h1.ex
  exact (wneg_z w s A c xs y ha hx (by have := h1.le; omega) h1.cap r hr).mono fun _ _ => retj_of
theorem sign_j (h1 : IsZ w s A n c y k) (hk : k ≤ 3000) (r : Int) (hr : y.sign = r) : Calls Tryz.prog 135 #[.agg #[.bool s, .slice A n c]] w (RetI w r) := by
  obtain ⟨xs, rfl, ha, hx⟩ := h1.ex
  exact wsign_z w s A c xs y ha hx (by have := h1.le; omega) h1.cap _ hr
end
theorem of_j (w : World) (z r : Int) (hr : z = r) (h1 : -9223372036854775808 ≤ r) (h2 : r ≤ 9223372036854775807) : Calls Tryz.prog 109 #[.int .i64 z] w (RetJ w r) := (wof_z w z r hr h1 h2).mono fun _ _ => retj_of

set_option maxRecDepth 100000 in
set_option maxHeartbeats 2000000 in
theorem lowest_q {w : World} {s t : Bool} {A B : Option Addr} {n c m d k : Nat} {y z : Int} {q : Rat} (h1 : IsZ w s A n c y k) (h2 : IsZ w t B m d z k) (hk : 1 ≤ k) (hk2 : k ≤ 3000) (hzp : 0 < z) (hq : Rat.divInt y z = q) :
    Calls Tryz.prog 113 #[.agg #[.bool s, .slice A n c], .agg #[.bool t, .slice B m d]] w (RetQ w q) := by
  have HS := Lib.hid (SQ.start w s A n c t B m d)
  have HA := Lib.hid (((h1.alloc (.cells #[.bool s, .slice A n c] 25)).alloc (.cells #[.bool t, .slice B m d] 25)).alloc (.cells #[.bool false, .slice none 0 0, .bool false, .slice none 0 0] 27))
  have HB := Lib.hid (((h2.alloc (.cells #[.bool s, .slice A n c] 25)).alloc (.cells #[.bool t, .slice B m d] 25)).alloc (.cells #[.bool false, .slice none 0 0, .bool false, .slice none 0 0] 27))
  have hly := h1.zl
  have hlz := h2.zl
  have hlow := low (n := y) hzp
  have hgl : zl (((Nat.gcd y.natAbs z.natAbs : Nat) : Int)) ≤ k := by
    refine Nat.le_trans ?_ hlz
    unfold zl
    rw [Int.natAbs_natCast]
    exact dl_le (Nat.gcd_le_right _ (by omega))
  obtain ⟨g, hg⟩ : ∃ g : Int, ((Nat.gcd y.natAbs z.natAbs : Nat) : Int) = g := ⟨_, rfl⟩
  rw [hq, hg] at hlow
  rw [hg] at hgl
  have hle := low_le (n := y) hzp
  rw [hq] at hle
  have HDL : Hid (zl (q.den : Int) ≤ k) := by show _ ≤ _; rw [den_zl]; exact Nat.le_trans (dl_le hle.2) hlz
  obtain ⟨one, hone⟩ : ∃ one : Int, (1 : Int) = one := ⟨_, rfl⟩
  have HOB : Hid (one = 1) := hone.symm
  have HOL : Hid (zl one ≤ k) := by show _ ≤ _; rw [← hone]; exact Nat.le_trans (zl_small (by omega) (by omega)) hk
  have HONE := Lib.hid hone
  have HG := Lib.hid hg
  have HGL := Lib.hid hgl
  have HN := Lib.hid hlow.1
  have HD := Lib.hid hlow.2
  clear h1 h2 hly hlz hlow hgl hg hle hq hone
  go_enter Tryz.func113, Tryz.ntmps113
  go_wp2_with fail
  refine (gcd_j HA.out HB.out hk2 g HG.out).mono ?_
  rintro e w1 ⟨sg, Ag, ng, cg, rfl, h1, hb1⟩
  have HS1 := Lib.hid (HS.out.below hb1)
  have HA1 := Lib.hid (HA.out.below hb1)
  have HB1 := Lib.hid (HB.out.below hb1)
  have H1 := Lib.hid (h1.isz HGL.out)
  have HLW : Hid (w.heap.size + 1 + 1 < w1.heap.size) := HS1.out.o.lt
  clear h1 hb1 HS HA HB
  obtain ⟨W, hW⟩ : ∃ W, w1.alloc (.cells #[.bool sg, .slice Ag ng cg] 25) = W := ⟨_, rfl⟩
  have HG2 : Hid (Ibx W w1.heap.size sg Ag ng cg) := by rw [← hW]; exact Ibx.new' _ _ _ _ _ _ rfl
  have HS2 : Hid (SQ w W s A n c t B m d) := by rw [← hW]; exact HS1.out.alloc _
  have HA2 : Hid (IsZ W s A n c y k) := by rw [← hW]; exact HA1.out.alloc _
  have HB2 : Hid (IsZ W t B m d z k) := by rw [← hW]; exact HB1.out.alloc _
  have HO2 : Hid (IsZ W sg Ag ng cg g k) := by rw [← hW]; exact H1.out.alloc _
  clear HS1 HA1 HB1 H1
  have k0 := HS2.out.i1.c0
  have k1 := HS2.out.i1.c1
  have g0 := HG2.out.c0
  have g1 := HG2.out.c1
  go_wp2_with fail
  refine (divmod_j HA2.out HO2.out hk2 q.num _ HN.out rfl).mono ?_
  rintro e w3 ⟨s3, A3, n3, c3, sr, Ar, nr, cr, rfl, h3, hr3, hb3⟩
  clear hW k0 k1 g0 g1
  have HS3 := Lib.hid (HS2.out.below hb3)
  have HG3 := Lib.hid (HG2.out.below hb3)
  have HB3 := Lib.hid (HB2.out.below hb3)
  have HO3 := Lib.hid (HO2.out.below hb3)
  have HN3 := Lib.hid h3
  clear h3 hr3 hb3 HS2 HG2 HA2 HB2 HO2
  obtain ⟨V, hV⟩ : ∃ V, (w3.setCell ⟨w.heap.size, 0, none⟩ (.bool s3)).setCell ⟨w.heap.size, 1, none⟩ (.slice A3 n3 c3) = V := ⟨_, rfl⟩
  have HS4 : Hid (SQ w V s3 A3 n3 c3 t B m d) := by rw [← hV]; exact HS3.out.fst
  have HG4 : Hid (Ibx V w1.heap.size sg Ag ng cg) := by rw [← hV]; exact HG3.out.put_far (by have := HLW.out; omega)
  have HB4 : Hid (IsZ V t B m d z k) := by rw [← hV]; exact HB3.out.on2 HS3.out.i1.bx
  have HO4 : Hid (IsZ V sg Ag ng cg g k) := by rw [← hV]; exact HO3.out.on2 HS3.out.i1.bx
  have HN4 : Hid (OneZ V s3 A3 n3 c3 q.num) := by rw [← hV]; exact HN3.out.on2 HS3.out.i1.bx
  have j0 := HS3.out.i1.c0
  have j1 := HS3.out.i1.c1
  have f0 := HS3.out.i1.f 0
  have f1 := HS3.out.i1.f 1
  have k0 := HS4.out.i2.c0
  have k1 := HS4.out.i2.c1
  have g0 := HG4.out.c0
  have g1 := HG4.out.c1
  go_wp2_with fail
  refine (divmod_j HB4.out HO4.out hk2 (q.den : Int) _ HD.out rfl).mono ?_
  rintro e w5 ⟨s5, A5, n5, c5, sr, Ar, nr, cr, rfl, h5, hr5, hb5⟩
  clear hV j0 j1 f0 f1 k0 k1 g0 g1
  have HS5 := Lib.hid (HS4.out.below hb5)
  have HN5 := Lib.hid (HN4.out.below hb5)
  have HD5 := Lib.hid h5
  clear h5 hr5 hb5 HS3 HG3 HB3 HO3 HN3 HS4 HG4 HB4 HO4 HN4
  obtain ⟨U, hU⟩ : ∃ U, (w5.setCell ⟨w.heap.size + 1, 0, none⟩ (.bool s5)).setCell ⟨w.heap.size + 1, 1, none⟩ (.slice A5 n5 c5) = U := ⟨_, rfl⟩
  have HS6 : Hid (SQ w U s3 A3 n3 c3 s5 A5 n5 c5) := by rw [← hU]; exact HS5.out.snd
  have HN6 : Hid (OneZ U s3 A3 n3 c3 q.num) := by rw [← hU]; exact HN5.out.on2 HS5.out.i2.bx
  have HD6 : Hid (OneZ U s5 A5 n5 c5 (q.den : Int)) := by rw [← hU]; exact HD5.out.on2 HS5.out.i2.bx
  have j0 := HS5.out.i2.c0
  have j1 := HS5.out.i2.c1
  have f0 := HS5.out.i2.f 0
  have f1 := HS5.out.i2.f 1
  obtain ⟨kc, hkc⟩ : ∃ kc, zcmp (q.den : Int) one = kc := ⟨_, rfl⟩
  have HKC := Lib.hid hkc
  go_upto_region 4 with fail
  clear hU HS5 HN5 HD5 j0 j1 f0 f1
  have hdn := q.den_nz
  by_cases hd1 : q.den = 1
  · have b1 : (kc == 0) = true := by rw [← hkc, hd1, HOB.out]; rfl
    clear hkc hdn
    go_region_held3 (fun V => V.cell? ⟨w.heap.size + 1, 0, none⟩ = some (.bool s5) ∧ V.cell? ⟨w.heap.size + 1, 1, none⟩ = some (.slice A5 n5 c5))
     (first | (with_reducible exact ⟨HS8.out.i2.c0, HS8.out.i2.c1⟩) | (with_reducible exact ⟨HS7.out.i2.c0, HS7.out.i2.c1⟩) | (with_reducible exact ⟨HS6.out.drew.i2.c0, HS6.out.drew.i2.c1⟩))
     (first
      | (go_at_call 141; (with_reducible refine (cmp_j (HD7.out.isz HDL.out) (HO7.out.isz HOL.out) hk2 kc HKC.out).mono ?_); rintro e w8 ⟨rfl, hb8⟩; have HS8 := Lib.hid (HS7.out.below hb8); have HN8 := Lib.hid (HN7.out.below hb8); have HD8 := Lib.hid (HD7.out.below hb8))
      | (go_at_call 109; (with_reducible refine (of_j _ 1 one HONE.out (by have := HOB.out; omega) (by have := HOB.out; omega)).mono ?_); rintro e w7 ⟨s7, A7, n7, c7, rfl, h7, hb7⟩; have HS7 := Lib.hid (HS6.out.drew.below hb7); have HN7 := Lib.hid (HN6.out.drew.below hb7); have HD7 := Lib.hid (HD6.out.drew.below hb7); have HO7 := Lib.hid h7))
    all_goals
      have k0 := HS8.out.i1.c0
      have k1 := HS8.out.i1.c1
      have k2 := HS8.out.i2.c0
      have k3 := HS8.out.i2.c1
      have f0 := HS8.out.i2.f 0
      have f1 := HS8.out.i2.f 1
      have o0 := HS8.out.o.c0
      have o1 := HS8.out.o.c1
      have o2 := HS8.out.o.c2
      have o3 := HS8.out.o.c3
      have p0 := HS8.out.o.f 0
      have p1 := HS8.out.o.f 1
      have p2 := HS8.out.o.f 2
      have p3 := HS8.out.o.f 3
      go_wp2_with fail
      refine bodyPost_ret (v := .agg #[.bool s3, .slice A3 n3 c3, .bool false, .slice none 0 0]) (by simp [results, Tryz.results113, go_sem, o0, o1, o2, o3]) rfl ?_
      exact retq_put (oneq_one (HN8.out.on2 HS8.out.i2.bx) hd1 0) HS8.out.snd.o (by omega) HS8.out.snd.bel
  · have b1 : (kc == 0) = false := by
      rw [beq_eq_false_iff_ne, ← hkc, HOB.out]
      unfold zcmp
      split
      · omega
      · split <;> omega
    clear hkc hdn
    go_region_held3 (fun V => V.cell? ⟨w.heap.size + 1, 0, none⟩ = some (.bool s5) ∧ V.cell? ⟨w.heap.size + 1, 1, none⟩ = some (.slice A5 n5 c5))
     (first | (with_reducible exact ⟨HS8.out.i2.c0, HS8.out.i2.c1⟩) | (with_reducible exact ⟨HS7.out.i2.c0, HS7.out.i2.c1⟩) | (with_reducible exact ⟨HS6.out.drew.i2.c0, HS6.out.drew.i2.c1⟩))
     (first
      | (go_at_call 141; (with_reducible refine (cmp_j (HD7.out.isz HDL.out) (HO7.out.isz HOL.out) hk2 kc HKC.out).mono ?_); rintro e w8 ⟨rfl, hb8⟩; have HS8 := Lib.hid (HS7.out.below hb8); have HN8 := Lib.hid (HN7.out.below hb8); have HD8 := Lib.hid (HD7.out.below hb8))
      | (go_at_call 109; (with_reducible refine (of_j _ 1 one HONE.out (by have := HOB.out; omega) (by have := HOB.out; omega)).mono ?_); rintro e w7 ⟨s7, A7, n7, c7, rfl, h7, hb7⟩; have HS7 := Lib.hid (HS6.out.drew.below hb7); have HN7 := Lib.hid (HN6.out.drew.below hb7); have HD7 := Lib.hid (HD6.out.drew.below hb7); have HO7 := Lib.hid h7))
    all_goals
      have k0 := HS8.out.i1.c0
      have k1 := HS8.out.i1.c1
      have k2 := HS8.out.i2.c0
      have k3 := HS8.out.i2.c1
      have o0 := HS8.out.o.c0
      have o1 := HS8.out.o.c1
      have o2 := HS8.out.o.c2
      have o3 := HS8.out.o.c3
      have p0 := HS8.out.o.f 0
      have p1 := HS8.out.o.f 1
      have p2 := HS8.out.o.f 2
      have p3 := HS8.out.o.f 3
      go_wp2_with fail
      refine bodyPost_ret (v := .agg #[.bool s3, .slice A3 n3 c3, .bool s5, .slice A5 n5 c5]) (by simp [results, Tryz.results113, go_sem, o0, o1, o2, o3]) rfl ?_
      exact retq_put (oneq_of HN8.out HD8.out hd1) HS8.out.o (by omega) HS8.out.bel

end Go.Proofs.YtmbnlhedbedcdaaGreat.Q.P

/- The document's answer for ratio: Make, Of, walked. -/
namespace Go.Proofs.YtmbnlhedbedcdaaGreat.Q.P
open Go.RowKit

set_option maxRecDepth 100000 in
set_option maxHeartbeats 2000000 in
theorem make_q {w : World} {s t : Bool} {A B : Option Addr} {n c m d k : Nat} {y z : Int} (h1 : IsZ w s A n c y k) (h2 : IsZ w t B m d z k) (hk : 1 ≤ k) (hk2 : k ≤ 3000) (q : Rat) (hq : Rat.divInt y z = q) :
    Calls Tryz.prog 108 #[.agg #[.bool s, .slice A n c], .agg #[.bool t, .slice B m d]] w (RetQ w q) := by
  have HS := Lib.hid (SQ.start w s A n c t B m d)
  have HA := Lib.hid (((h1.alloc (.cells #[.bool s, .slice A n c] 25)).alloc (.cells #[.bool t, .slice B m d] 25)).alloc (.cells #[.bool false, .slice none 0 0, .bool false, .slice none 0 0] 27))
  have HB := Lib.hid (((h2.alloc (.cells #[.bool s, .slice A n c] 25)).alloc (.cells #[.bool t, .slice B m d] 25)).alloc (.cells #[.bool false, .slice none 0 0, .bool false, .slice none 0 0] 27))
  obtain ⟨sg, hsg⟩ : ∃ sg, z.sign = sg := ⟨_, rfl⟩
  have HSG := Lib.hid hsg
  rcases Int.lt_trichotomy z 0 with hz | hz | hz
  · have hs1 : (sg == 0) = false := by rw [← hsg, Int.sign_eq_neg_one_of_neg hz]; rfl
    have hs2 : sg < 0 := by rw [← hsg, Int.sign_eq_neg_one_of_neg hz]; omega
    obtain ⟨y', hy'⟩ : ∃ y', -y = y' := ⟨_, rfl⟩
    obtain ⟨z', hz'⟩ : ∃ z', -z = z' := ⟨_, rfl⟩
    have hzp : 0 < z' := by omega
    have HQ : Hid (Rat.divInt y' z' = q) := by show _ = _; rw [← hq, ← hy', ← hz', Rat.neg_divInt_neg]
    have HYL : Hid (zl y' ≤ k) := by show _ ≤ _; rw [← hy', zl_neg]; exact h1.zl
    have HZL : Hid (zl z' ≤ k) := by show _ ≤ _; rw [← hz', zl_neg]; exact h2.zl
    have HY := Lib.hid hy'
    have HZ := Lib.hid hz'
    clear h1 h2 hq hsg hz hy' hz'
    go_enter Tryz.func108, Tryz.ntmps108
    go_wp2_with fail
    refine (sign_j HB.out hk2 sg HSG.out).mono ?_
    rintro e w1 ⟨rfl, hb1⟩
    have HS1 := Lib.hid (HS.out.below hb1)
    have HA1 := Lib.hid (HA.out.below hb1)
    have HB1 := Lib.hid (HB.out.below hb1)
    clear hb1
    have k0 := HS1.out.i1.c0
    have k1 := HS1.out.i1.c1
    go_wp2_with fail
    refine (neg_j HA1.out hk2 y' HY.out).mono ?_
    rintro e w2 ⟨s2, A2, n2, c2, rfl, h2, hb2⟩
    have HS2 := Lib.hid (HS1.out.below hb2)
    have HB2 := Lib.hid (HB1.out.below hb2)
    have HN2 := Lib.hid (h2.isz HYL.out)
    clear h2 hb2 k0 k1
    obtain ⟨V, hV⟩ : ∃ V, (w2.setCell ⟨w.heap.size, 0, none⟩ (.bool s2)).setCell ⟨w.heap.size, 1, none⟩ (.slice A2 n2 c2) = V := ⟨_, rfl⟩
    have HS3 : Hid (SQ w V s2 A2 n2 c2 t B m d) := by rw [← hV]; exact HS2.out.fst
    have HB3 : Hid (IsZ V t B m d z k) := by rw [← hV]; exact HB2.out.on2 HS2.out.i1.bx
    have HN3 : Hid (IsZ V s2 A2 n2 c2 y' k) := by rw [← hV]; exact HN2.out.on2 HS2.out.i1.bx
    have j0 := HS2.out.i1.c0
    have j1 := HS2.out.i1.c1
    have f0 := HS2.out.i1.f 0
    have f1 := HS2.out.i1.f 1
    have k0 := HS3.out.i2.c0
    have k1 := HS3.out.i2.c1
    go_wp2_with fail
    refine (neg_j HB3.out hk2 z' HZ.out).mono ?_
    rintro e w4 ⟨s4, A4, n4, c4, rfl, h4, hb4⟩
    clear hV j0 j1 f0 f1 k0 k1
    have HS4 := Lib.hid (HS3.out.below hb4)
    have HN4 := Lib.hid (HN3.out.below hb4)
    have HD4 := Lib.hid (h4.isz HZL.out)
    clear h4 hb4
    obtain ⟨U, hU⟩ : ∃ U, (w4.setCell ⟨w.heap.size + 1, 0, none⟩ (.bool s4)).setCell ⟨w.heap.size + 1, 1, none⟩ (.slice A4 n4 c4) = U := ⟨_, rfl⟩
    have HS5 : Hid (SQ w U s2 A2 n2 c2 s4 A4 n4 c4) := by rw [← hU]; exact HS4.out.snd
    have HN5 : Hid (IsZ U s2 A2 n2 c2 y' k) := by rw [← hU]; exact HN4.out.on2 HS4.out.i2.bx
    have HD5 : Hid (IsZ U s4 A4 n4 c4 z' k) := by rw [← hU]; exact HD4.out.on2 HS4.out.i2.bx
    have j0 := HS4.out.i2.c0
    have j1 := HS4.out.i2.c1
    have f0 := HS4.out.i2.f 0
    have f1 := HS4.out.i2.f 1
    have k0 := HS5.out.i1.c0
    have k1 := HS5.out.i1.c1
    have k2 := HS5.out.i2.c0
    have k3 := HS5.out.i2.c1
    go_wp2_with fail
    refine (lowest_q HN5.out HD5.out hk hk2 hzp HQ.out).mono ?_
    rintro e w8 ⟨s8, A8, n8, c8, t8, B8, m8, d8, rfl, h8, hb8⟩
    clear hU j0 j1 f0 f1 k0 k1 k2 k3
    have HS8 := Lib.hid (HS5.out.below hb8)
    have HR8 := Lib.hid h8
    clear h8 hb8
    have o0 := HS8.out.o.c0
    have o1 := HS8.out.o.c1
    have o2 := HS8.out.o.c2
    have o3 := HS8.out.o.c3
    have f0 := HS8.out.o.f 0
    have f1 := HS8.out.o.f 1
    have f2 := HS8.out.o.f 2
    have f3 := HS8.out.o.f 3
    go_wp2_with fail
    refine bodyPost_ret (v := .agg #[.bool s8, .slice A8 n8 c8, .bool t8, .slice B8 m8 d8]) (by simp [results, Tryz.results108, go_sem, o0, o1, o2, o3]) rfl ?_
    exact retq_put HR8.out HS8.out.o (by omega) HS8.out.bel
  · have hs1 : (sg == 0) = true := by rw [← hsg, hz]; rfl
    have HQ : Hid (q = 0) := by show _ = _; rw [← hq, hz, Rat.divInt_zero]
    clear h1 h2 hq hsg hz
    go_enter Tryz.func108, Tryz.ntmps108
    go_wp2_with fail
    refine (sign_j HB.out hk2 sg HSG.out).mono ?_
    rintro e w1 ⟨rfl, hb1⟩
    have HS1 := Lib.hid (HS.out.below hb1)
    clear hb1
    have o0 := HS1.out.o.c0
    have o1 := HS1.out.o.c1
    have o2 := HS1.out.o.c2
    have o3 := HS1.out.o.c3
    have f0 := HS1.out.o.f 0
    have f1 := HS1.out.o.f 1
    have f2 := HS1.out.o.f 2
    have f3 := HS1.out.o.f 3
    go_wp2_with fail
    refine bodyPost_ret (v := .agg #[.bool false, .slice none 0 0, .bool false, .slice none 0 0]) (by simp [results, Tryz.results108, go_sem, o0, o1, o2, o3]) rfl ?_
    exact (by rw [HQ.out]; exact retq_put (oneq_zero _ 0 0) HS1.out.o (by omega) HS1.out.bel)
  · have hs1 : (sg == 0) = false := by rw [← hsg, Int.sign_eq_one_of_pos hz]; rfl
    have hs2 : ¬ sg < 0 := by rw [← hsg, Int.sign_eq_one_of_pos hz]; omega
    have HQ := Lib.hid hq
    clear h1 h2 hq hsg
    go_enter Tryz.func108, Tryz.ntmps108
    go_wp2_with fail
    refine (sign_j HB.out hk2 sg HSG.out).mono ?_
    rintro e w1 ⟨rfl, hb1⟩
    have HS1 := Lib.hid (HS.out.below hb1)
    have HA1 := Lib.hid (HA.out.below hb1)
    have HB1 := Lib.hid (HB.out.below hb1)
    clear hb1
    have k0 := HS1.out.i1.c0
    have k1 := HS1.out.i1.c1
    have k2 := HS1.out.i2.c0
    have k3 := HS1.out.i2.c1
    go_wp2_with fail
    refine (lowest_q HA1.out HB1.out hk hk2 hz HQ.out).mono ?_
    rintro e w8 ⟨s8, A8, n8, c8, t8, B8, m8, d8, rfl, h8, hb8⟩
    have HS8 := Lib.hid (HS1.out.below hb8)
    have HR8 := Lib.hid h8
    clear h8 hb8 k0 k1 k2 k3
    have o0 := HS8.out.o.c0
    have o1 := HS8.out.o.c1
    have o2 := HS8.out.o.c2
    have o3 := HS8.out.o.c3
    have f0 := HS8.out.o.f 0
    have f1 := HS8.out.o.f 1
    have f2 := HS8.out.o.f 2
    have f3 := HS8.out.o.f 3
    go_wp2_with fail
    refine bodyPost_ret (v := .agg #[.bool s8, .slice A8 n8 c8, .bool t8, .slice B8 m8 d8]) (by simp [results, Tryz.results108, go_sem, o0, o1, o2, o3]) rfl ?_
    exact retq_put HR8.out HS8.out.o (by omega) HS8.out.bel

set_option maxRecDepth 100000 in
set_option maxHeartbeats 2000000 in
theorem of_q (w : World) (y z : Int) (h1 : -9223372036854775808 ≤ y) (h2 : y ≤ 9223372036854775807) (h3 : -9223372036854775808 ≤ z) (h4 : z ≤ 9223372036854775807) (q : Rat) (hq : Rat.divInt y z = q) :
    Calls Tryz.prog 72 #[.int .i64 y, .int .i64 z] w (RetQ w q) := by
  have HS := Lib.hid (S0.start w)
  have HY : Hid (zl y ≤ 1) := zl_small h1 h2
  have HZ : Hid (zl z ≤ 1) := zl_small h3 h4
  have HO1 := Lib.hid (fun W => of_j W y y rfl h1 h2)
  have HO2 := Lib.hid (fun W => of_j W z z rfl h3 h4)
  have HQ := Lib.hid hq
  clear h1 h2 h3 h4 hq
  go_enter Tryz.func72, Tryz.ntmps72
  go_wp2_with fail
  refine (HO1.out _).mono ?_
  rintro e w1 ⟨s1, A1, n1, c1, rfl, h1, hb1⟩
  have HS1 := Lib.hid (HS.out.below hb1)
  have HN1 := Lib.hid h1
  clear h1 hb1
  go_wp2_with fail
  refine (HO2.out _).mono ?_
  rintro e w2 ⟨s2, A2, n2, c2, rfl, h2, hb2⟩
  have HS2 := Lib.hid (HS1.out.below hb2)
  have HN2 := Lib.hid (HN1.out.below hb2)
  have HD2 := Lib.hid h2
  clear h2 hb2
  go_wp2_with fail
  refine (make_q (HN2.out.isz HY.out) (HD2.out.isz HZ.out) (by omega) (by omega) q HQ.out).mono ?_
  rintro e w8 ⟨s8, A8, n8, c8, t8, B8, m8, d8, rfl, h8, hb8⟩
  have HS8 := Lib.hid (HS2.out.below hb8)
  have HR8 := Lib.hid h8
  clear h8 hb8
  have o0 := HS8.out.o.c0
  have o1 := HS8.out.o.c1
  have o2 := HS8.out.o.c2
  have o3 := HS8.out.o.c3
  have f0 := HS8.out.o.f 0
  have f1 := HS8.out.o.f 1
  have f2 := HS8.out.o.f 2
  have f3 := HS8.out.o.f 3
  go_wp2_with fail
  refine bodyPost_ret (v := .agg #[.bool s8, .slice A8 n8 c8, .bool t8, .slice B8 m8 d8]) (by simp [results, Tryz.results72, go_sem, o0, o1, o2, o3]) rfl ?_
  exact retq_put HR8.out HS8.out.o (by omega) HS8.out.bel

end Go.Proofs.YtmbnlhedbedcdaaGreat.Q.P

/- The document's answer for ratio: Parts, walked. -/
namespace Go.Proofs.YtmbnlhedbedcdaaGreat.Q.P
open Go.RowKit

/-- The fraction that came in, and the places for what is told. -/
structure PA (w wx : World) (s : Bool) (A : Option Addr) (n c : Nat) (t : Bool) (B : Option Addr) (m d : Nat) : Prop where
  bel : Below w.heap.size w wx
  a : Qbx wx w.heap.size s A n c t B m d
  o1 : Ibx wx (w.heap.size + 1) false none 0 0
  o2 : Ibx wx (w.heap.size + 1 + 1) false none 0 0
theorem PA.start (w : World) (s : Bool) (A : Option Addr) (n c : Nat) (t : Bool) (B : Option Addr) (m d : Nat) : PA w (((w.alloc (.cells #[.bool s, .slice A n c, .bool t, .slice B m d] 27)).alloc (.cells #[.bool false, .slice none 0 0] 25)).alloc (.cells #[.bool false, .slice none 0 0] 25)) s A n c t B m d :=
  ⟨(((Below.refl _ _).alloc (Nat.le_refl _) _).alloc (by simp) _).alloc (by simp; omega) _, ((Qbx.new _ _ rfl).alloc _).alloc _, (Ibx.new' _ _ _ _ _ _ (by simp)).alloc _, Ibx.new' _ _ _ _ _ _ (by simp)⟩
theorem PA.below {w wx wy : World} {s t : Bool} {A B : Option Addr} {n c m d : Nat} (h : PA w wx s A n c t B m d) (hb : Below wx.heap.size wx wy) : PA w wy s A n c t B m d :=
  ⟨below_on h.bel hb, h.a.below hb, h.o1.below hb, h.o2.below hb⟩

set_option maxRecDepth 100000 in
set_option maxHeartbeats 4000000 in
theorem parts_any {w : World} {s t : Bool} {A B : Option Addr} {n c m d k : Nat} {q : Rat} (h : IsQ w s A n c t B m d q k) (hk : 1 ≤ k) (hk2 : k ≤ 3000) :
    Calls Tryz.prog 112 #[.agg #[.bool s, .slice A n c, .bool t, .slice B m d]] w (RetP w q k) := by
  obtain ⟨y, z, hy, hz, hq⟩ := h.two
  have HS := Lib.hid (PA.start w s A n c t B m d)
  have HY := Lib.hid (((hy.alloc (.cells #[.bool s, .slice A n c, .bool t, .slice B m d] 27)).alloc (.cells #[.bool false, .slice none 0 0] 25)).alloc (.cells #[.bool false, .slice none 0 0] 25))
  have HZ := Lib.hid (((hz.alloc (.cells #[.bool s, .slice A n c, .bool t, .slice B m d] 27)).alloc (.cells #[.bool false, .slice none 0 0] 25)).alloc (.cells #[.bool false, .slice none 0 0] 25))
  have HYL := Lib.hid hy.zl
  have HZL := Lib.hid hz.zl
  have HQ := Lib.hid hq
  have HOL : Hid (zl (1 : Int) ≤ k) := Nat.le_trans (zl_small (by omega) (by omega)) hk
  clear hy hz hq h
  go_enter Tryz.func112, Tryz.ntmps112
  go_wp2_with fail
  refine (norm_j HY.out hk2).mono ?_
  rintro e w1 ⟨s1, A1, n1, c1, rfl, h1, hb1⟩
  have HS1 := Lib.hid (HS.out.below hb1)
  have HZ1 := Lib.hid (HZ.out.below hb1)
  have HN1 := Lib.hid h1
  clear h1 hb1 HS HY HZ
  obtain ⟨V, hV⟩ : ∃ V, w1.alloc (.cells #[.bool s1, .slice A1 n1 c1] 25) = V := ⟨_, rfl⟩
  have HV : Hid (Below w1.heap.size w1 V) := by rw [← hV]; exact (Below.refl _ _).alloc (Nat.le_refl _) _
  have HI1 : Hid (Ibx V w1.heap.size s1 A1 n1 c1) := by rw [← hV]; exact Ibx.new' _ _ _ _ _ _ rfl
  have HLW : Hid (w.heap.size + 1 + 1 < w1.heap.size) := HS1.out.o2.lt
  have HS2 := Lib.hid (HS1.out.below HV.out)
  have HZ2 := Lib.hid (HZ1.out.below HV.out)
  have HN2 := Lib.hid (HN1.out.below HV.out)
  clear HS1 HZ1 HN1 HV
  have k0 := HS2.out.a.c0
  have k1 := HS2.out.a.c1
  have k2 := HS2.out.a.c2
  have k3 := HS2.out.a.c3
  go_wp2_with fail
  refine (norm_j HZ2.out hk2).mono ?_
  rintro e w2 ⟨s2, A2, n2, c2, rfl, h2, hb2⟩
  clear hV k0 k1 k2 k3
  have HS3 := Lib.hid (HS2.out.below hb2)
  have HI3 := Lib.hid (HI1.out.below hb2)
  have HN3 := Lib.hid (HN2.out.below hb2)
  have HD3 := Lib.hid h2
  clear h2 hb2 HS2 HI1 HN2 HZ2
  obtain ⟨W, hW⟩ : ∃ W, w2.alloc (.cells #[.bool s2, .slice A2 n2 c2] 25) = W := ⟨_, rfl⟩
  have HV : Hid (Below w2.heap.size w2 W) := by rw [← hW]; exact (Below.refl _ _).alloc (Nat.le_refl _) _
  have HI4 : Hid (Ibx W w2.heap.size s2 A2 n2 c2) := by rw [← hW]; exact Ibx.new' _ _ _ _ _ _ rfl
  have HLX : Hid (w.heap.size + 1 + 1 < w2.heap.size) := HS3.out.o2.lt
  have HNE : Hid (w1.heap.size ≠ w2.heap.size) := Nat.ne_of_lt HI3.out.lt
  have HS := Lib.hid (HS3.out.below HV.out)
  have HN := Lib.hid (HN3.out.below HV.out)
  have HD := Lib.hid (HD3.out.below HV.out)
  have HP : Hid (PS w W w1.heap.size w2.heap.size s1 A1 n1 c1 s2 A2 n2 c2) := ⟨HS.out.bel, HI3.out.below HV.out, HI4.out, HS.out.o1, HS.out.o2, HNE.out, HLW.out, HLX.out⟩
  clear HS3 HI3 HN3 HD3 HV HI4
  have k3 := HS.out.a.c3
  have k2 := HS.out.a.c2
  have r0 := HP.out.i2.c0
  have r1 := HP.out.i2.c1
  have fr0 := HP.out.i2.f 0
  have fr1 := HP.out.i2.f 1
  by_cases hm : m = 0
  · have hm0 : ((m : Int) == 0) = true := by rw [hm]; rfl
    have HE : Hid (Rat.divInt y 1 = q) := by show _ = _; rw [← HQ.out, if_pos hm]
    clear hm
    go_wp2_with fail
    refine (of_j _ 1 1 rfl (by omega) (by omega)).mono ?_
    rintro e w3 ⟨s3, A3, n3, c3, rfl, h3, hb3⟩
    obtain rfl : s3 = false := h3.es
    clear hW k2 k3 r0 r1 fr0 fr1
    have HP3 := Lib.hid (HP.out.below hb3)
    have HN3 := Lib.hid (HN.out.below hb3)
    have HO3 := Lib.hid h3
    clear h3 hb3
    obtain ⟨U, hU⟩ : ∃ U, (w3.setCell ⟨w2.heap.size, 0, none⟩ (.bool false)).setCell ⟨w2.heap.size, 1, none⟩ (.slice A3 n3 c3) = U := ⟨_, rfl⟩
    have HP4 : Hid (PS w U w1.heap.size w2.heap.size s1 A1 n1 c1 false A3 n3 c3) := by rw [← hU]; exact HP3.out.den
    have HN4 : Hid (OneZ U s1 A1 n1 c1 y) := by rw [← hU]; exact HN3.out.on2 HP3.out.i2.bx
    have HO4 : Hid (OneZ U false A3 n3 c3 1) := by rw [← hU]; exact HO3.out.on2 HP3.out.i2.bx
    have r0 := HP3.out.i2.c0
    have r1 := HP3.out.i2.c1
    have fr0 := HP3.out.i2.f 0
    have fr1 := HP3.out.i2.f 1
    have t0 := HP4.out.i2.c0
    have t1 := HP4.out.i2.c1
    go_wp2_with fail
    refine (sign_j (HO4.out.isz HOL.out) hk2 1 rfl).mono ?_
    rintro e w5 ⟨rfl, hb5⟩
    clear hU r0 r1 fr0 fr1 t0 t1
    have HP5 := Lib.hid (HP4.out.below hb5)
    have HN5 := Lib.hid ((HN4.out.below hb5).isz HYL.out)
    have HO5 := Lib.hid ((HO4.out.below hb5).isz HOL.out)
    clear hb5
    have p0 := HP5.out.i1.c0
    have p1 := HP5.out.i1.c1
    have r0 := HP5.out.i2.c0
    have r1 := HP5.out.i2.c1
    have o0 := HP5.out.o1.c0
    have o1 := HP5.out.o1.c1
    have v0 := HP5.out.o2.c0
    have v1 := HP5.out.o2.c1
    have fo0 := HP5.out.o1.f 0
    have fo1 := HP5.out.o1.f 1
    have fv0 := HP5.out.o2.f 0
    have fv1 := HP5.out.o2.f 1
    have hpp := HLW.out
    have hrr := HLX.out
    have e1 : w.heap.size + 1 ≠ w1.heap.size := by omega
    have e2 : w.heap.size + 1 + 1 ≠ w1.heap.size := by omega
    have e3 : w.heap.size + 1 ≠ w2.heap.size := by omega
    have e4 : w.heap.size + 1 + 1 ≠ w2.heap.size := by omega
    go_upto_region 10 with fail
    go_region
    all_goals
      go_wp2_with fail
      refine bodyPost_ret (v := .tuple #[.agg #[.bool s1, .slice A1 n1 c1], .agg #[.bool false, .slice A3 n3 c3]]) (by simp [results, Tryz.results112, go_sem, o0, o1, v0, v1]) rfl ?_
      exact ⟨s1, A1, n1, c1, false, A3, n3, c3, _, _, rfl, ((HN5.out.on2 HP5.out.o1.bx).on2 (HP5.out.o2.put_far (by omega)).bx).drew, ((HO5.out.on2 HP5.out.o1.bx).on2 (HP5.out.o2.put_far (by omega)).bx).drew, by omega, HE.out, (below_put2 (below_put2 HP5.out.bel (by omega)) (by omega)).drew⟩
  · have hm0 : ((m : Int) == 0) = false := by rw [beq_eq_false_iff_ne]; omega
    have HE : Hid (Rat.divInt y z = q) := by show _ = _; rw [← HQ.out, if_neg hm]
    clear hm
    obtain ⟨sg, hsg⟩ : ∃ sg, z.sign = sg := ⟨_, rfl⟩
    have HSG := Lib.hid hsg
    rcases Int.lt_trichotomy z 0 with hz | hz | hz
    · have hs1 : (sg == 0) = false := by rw [← hsg, Int.sign_eq_neg_one_of_neg hz]; rfl
      obtain rfl : s2 = true := by rw [HD.out.es]; unfold zneg; exact decide_eq_true hz
      have HZP : Hid (0 < -z) := by show _ < _; omega
      have HE2 : Hid (Rat.divInt (-y) (-z) = q) := by show _ = _; rw [Rat.neg_divInt_neg, HE.out]
      have HNL : Hid (zl (-y) ≤ k) := by show _ ≤ _; rw [zl_neg]; exact HYL.out
      have HDL : Hid (zl (-z) ≤ k) := by show _ ≤ _; rw [zl_neg]; exact HZL.out
      obtain ⟨y', hy'⟩ : ∃ y', -y = y' := ⟨_, rfl⟩
      obtain ⟨z', hz'⟩ : ∃ z', -z = z' := ⟨_, rfl⟩
      rw [hy'] at HE2 HNL
      rw [hz'] at HE2 HZP HDL
      have HY' := Lib.hid hy'
      have HZ' := Lib.hid hz'
      clear hsg hz hy' hz'
      go_wp2_with fail
      refine (sign_j (HD.out.isz HZL.out) hk2 sg HSG.out).mono ?_
      rintro e w3 ⟨rfl, hb3⟩
      clear hW k2 k3 r0 r1 fr0 fr1
      have HP3 := Lib.hid (HP.out.below hb3)
      have HN3 := Lib.hid ((HN.out.below hb3).isz HYL.out)
      have HD3 := Lib.hid ((HD.out.below hb3).isz HZL.out)
      clear hb3
      have p0 := HP3.out.i1.c0
      have p1 := HP3.out.i1.c1
      have r0 := HP3.out.i2.c0
      have r1 := HP3.out.i2.c1
      go_wp2_with fail
      refine (neg_j HN3.out hk2 y' HY'.out).mono ?_
      rintro e w4 ⟨s4, A4, n4, c4, rfl, h4, hb4⟩
      clear p0 p1 r0 r1
      have HP4 := Lib.hid (HP3.out.below hb4)
      have HD4 := Lib.hid (HD3.out.below hb4)
      have HN4 := Lib.hid h4
      clear h4 hb4
      obtain ⟨U, hU⟩ : ∃ U, (w4.setCell ⟨w1.heap.size, 0, none⟩ (.bool s4)).setCell ⟨w1.heap.size, 1, none⟩ (.slice A4 n4 c4) = U := ⟨_, rfl⟩
      have HP5 : Hid (PS w U w1.heap.size w2.heap.size s4 A4 n4 c4 true A2 n2 c2) := by rw [← hU]; exact HP4.out.num
      have HN5 : Hid (OneZ U s4 A4 n4 c4 y') := by rw [← hU]; exact HN4.out.on2 HP4.out.i1.bx
      have HD5 : Hid (IsZ U true A2 n2 c2 z k) := by rw [← hU]; exact HD4.out.on2 HP4.out.i1.bx
      have p0 := HP4.out.i1.c0
      have p1 := HP4.out.i1.c1
      have fp0 := HP4.out.i1.f 0
      have fp1 := HP4.out.i1.f 1
      have r0 := HP5.out.i2.c0
      have r1 := HP5.out.i2.c1
      go_wp2_with fail
      refine (neg_j HD5.out hk2 z' HZ'.out).mono ?_
      rintro e w6 ⟨s6, A6, n6, c6, rfl, h6, hb6⟩
      clear hU p0 p1 fp0 fp1 r0 r1
      have HP6 := Lib.hid (HP5.out.below hb6)
      have HN6 := Lib.hid (HN5.out.below hb6)
      have HD6 := Lib.hid h6
      clear h6 hb6
      obtain ⟨X, hX⟩ : ∃ X, (w6.setCell ⟨w2.heap.size, 0, none⟩ (.bool s6)).setCell ⟨w2.heap.size, 1, none⟩ (.slice A6 n6 c6) = X := ⟨_, rfl⟩
      have HP7 : Hid (PS w X w1.heap.size w2.heap.size s4 A4 n4 c4 s6 A6 n6 c6) := by rw [← hX]; exact HP6.out.den
      have HN7 : Hid (IsZ X s4 A4 n4 c4 y' k) := by rw [← hX]; exact (HN6.out.on2 HP6.out.i2.bx).isz HNL.out
      have HD7 : Hid (IsZ X s6 A6 n6 c6 z' k) := by rw [← hX]; exact (HD6.out.on2 HP6.out.i2.bx).isz HDL.out
      have q0 := HP6.out.i2.c0
      have q1 := HP6.out.i2.c1
      have fq0 := HP6.out.i2.f 0
      have fq1 := HP6.out.i2.f 1
      go_upto_region 10 with fail
      clear hX q0 q1 fq0 fq1
      have p0 := HP7.out.i1.c0
      have p1 := HP7.out.i1.c1
      have r0 := HP7.out.i2.c0
      have r1 := HP7.out.i2.c1
      have o0 := HP7.out.o1.c0
      have o1 := HP7.out.o1.c1
      have v0 := HP7.out.o2.c0
      have v1 := HP7.out.o2.c1
      have fo0 := HP7.out.o1.f 0
      have fo1 := HP7.out.o1.f 1
      have fv0 := HP7.out.o2.f 0
      have fv1 := HP7.out.o2.f 1
      have hpp := HLW.out
      have hrr := HLX.out
      have e1 : w.heap.size + 1 ≠ w1.heap.size := by omega
      have e2 : w.heap.size + 1 + 1 ≠ w1.heap.size := by omega
      have e3 : w.heap.size + 1 ≠ w2.heap.size := by omega
      have e4 : w.heap.size + 1 + 1 ≠ w2.heap.size := by omega
      go_region
      all_goals
        go_wp2_with fail
        refine bodyPost_ret (v := .tuple #[.agg #[.bool s4, .slice A4 n4 c4], .agg #[.bool s6, .slice A6 n6 c6]]) (by simp [results, Tryz.results112, go_sem, o0, o1, v0, v1]) rfl ?_
        exact ⟨s4, A4, n4, c4, s6, A6, n6, c6, _, _, rfl, ((HN7.out.on2 HP7.out.o1.bx).on2 (HP7.out.o2.put_far (by omega)).bx).drew, ((HD7.out.on2 HP7.out.o1.bx).on2 (HP7.out.o2.put_far (by omega)).bx).drew, HZP.out, HE2.out, (below_put2 (below_put2 HP7.out.bel (by omega)) (by omega)).drew⟩
    · have hs1 : (sg == 0) = true := by rw [← hsg, hz]; rfl
      have HE0 : Hid (Rat.divInt 0 1 = q) := by show _ = _; rw [← HE.out, hz, Rat.divInt_zero, Rat.zero_divInt]
      clear hsg hz
      go_wp2_with fail
      refine (sign_j (HD.out.isz HZL.out) hk2 sg HSG.out).mono ?_
      rintro e w3 ⟨rfl, hb3⟩
      clear hW k2 k3 r0 r1 fr0 fr1
      have HP3 := Lib.hid (HP.out.below hb3)
      clear hb3
      go_wp2_with fail
      refine (of_j _ 1 1 rfl (by omega) (by omega)).mono ?_
      rintro e w4 ⟨s4, A4, n4, c4, rfl, h4, hb4⟩
      have HP4 := Lib.hid (HP3.out.below hb4)
      have HO4 := Lib.hid (h4.isz HOL.out)
      clear h4 hb4
      have o0 := HP4.out.o1.c0
      have o1 := HP4.out.o1.c1
      have v0 := HP4.out.o2.c0
      have v1 := HP4.out.o2.c1
      have fo0 := HP4.out.o1.f 0
      have fo1 := HP4.out.o1.f 1
      have fv0 := HP4.out.o2.f 0
      have fv1 := HP4.out.o2.f 1
      go_wp2_with fail
      refine bodyPost_ret (v := .tuple #[.agg #[.bool false, .slice none 0 0], .agg #[.bool s4, .slice A4 n4 c4]]) (by simp [results, Tryz.results112, go_sem, o0, o1, v0, v1]) rfl ?_
      exact ⟨false, none, 0, 0, s4, A4, n4, c4, 0, 1, rfl, IsZ.nil _ _ _ _ _, (HO4.out.on2 HP4.out.o1.bx).on2 (HP4.out.o2.put_far (by omega)).bx, by omega, HE0.out, below_put2 (below_put2 HP4.out.bel (by omega)) (by omega)⟩
    · have hs1 : (sg == 0) = false := by rw [← hsg, Int.sign_eq_one_of_pos hz]; rfl
      obtain rfl : s2 = false := by rw [HD.out.es]; unfold zneg; exact decide_eq_false (by omega)
      clear hsg
      go_wp2_with fail
      refine (sign_j (HD.out.isz HZL.out) hk2 sg HSG.out).mono ?_
      rintro e w3 ⟨rfl, hb3⟩
      clear hW k2 k3 r0 r1 fr0 fr1
      have HP3 := Lib.hid (HP.out.below hb3)
      have HN3 := Lib.hid ((HN.out.below hb3).isz HYL.out)
      have HD3 := Lib.hid ((HD.out.below hb3).isz HZL.out)
      clear hb3
      have p0 := HP3.out.i1.c0
      have p1 := HP3.out.i1.c1
      have r0 := HP3.out.i2.c0
      have r1 := HP3.out.i2.c1
      have o0 := HP3.out.o1.c0
      have o1 := HP3.out.o1.c1
      have v0 := HP3.out.o2.c0
      have v1 := HP3.out.o2.c1
      have fo0 := HP3.out.o1.f 0
      have fo1 := HP3.out.o1.f 1
      have fv0 := HP3.out.o2.f 0
      have fv1 := HP3.out.o2.f 1
      have hpp := HLW.out
      have hrr := HLX.out
      have e1 : w.heap.size + 1 ≠ w1.heap.size := by omega
      have e2 : w.heap.size + 1 + 1 ≠ w1.heap.size := by omega
      have e3 : w.heap.size + 1 ≠ w2.heap.size := by omega
      have e4 : w.heap.size + 1 + 1 ≠ w2.heap.size := by omega
      go_upto_region 10 with fail
      go_region
      all_goals
        go_wp2_with fail
        refine bodyPost_ret (v := .tuple #[.agg #[.bool s1, .slice A1 n1 c1], .agg #[.bool false, .slice A2 n2 c2]]) (by simp [results, Tryz.results112, go_sem, o0, o1, v0, v1]) rfl ?_
        exact ⟨s1, A1, n1, c1, false, A2, n2, c2, _, _, rfl, ((HN3.out.on2 HP3.out.o1.bx).on2 (HP3.out.o2.put_far (by omega)).bx).drew, ((HD3.out.on2 HP3.out.o1.bx).on2 (HP3.out.o2.put_far (by omega)).bx).drew, hz, HE.out, (below_put2 (below_put2 HP3.out.bel (by omega)) (by omega)).drew⟩
end Go.Proofs.YtmbnlhedbedcdaaGreat.Q.P

/- The document's answer for ratio: Norm, Sign, Neg, Abs, walked. -/
namespace Go.Proofs.YtmbnlhedbedcdaaGreat.Q.P
open Go.RowKit

set_option maxRecDepth 100000 in
set_option maxHeartbeats 4000000 in
theorem norm_q {w : World} {s t : Bool} {A B : Option Addr} {n c m d k : Nat} {p : Rat} (h1 : IsQ w s A n c t B m d p k) (hk : 1 ≤ k) (hk2 : k ≤ 3000) :
    Calls Tryz.prog 104 #[.agg #[.bool s, .slice A n c, .bool t, .slice B m d]] w (RetQ w p) := by
  have HS := Lib.hid (S1.start w s A n c t B m d)
  have HP := Lib.hid ((h1.alloc (.cells #[.bool s, .slice A n c, .bool t, .slice B m d] 27)).alloc (.cells #[.bool false, .slice none 0 0, .bool false, .slice none 0 0] 27))
  clear h1
  go_enter Tryz.func104, Tryz.ntmps104
  go_wp2_with fail
  refine (parts_any HP.out hk (by omega)).mono ?_
  rintro e w1 ⟨s1, A1, n1, c1, s2, A2, n2, c2, x, dx, rfl, hx, hdx, hdp, hqp, hb1⟩
  have HS1 := Lib.hid (HS.out.below hb1)
  have HX1 := Lib.hid hx
  have HD1 := Lib.hid hdx
  have HQP := Lib.hid hqp
  clear hx hdx hqp hb1 HS HP
  obtain ⟨W, hW⟩ : ∃ W, (w1.alloc (.cells #[.bool s1, .slice A1 n1 c1] 25)).alloc (.cells #[.bool s2, .slice A2 n2 c2] 25) = W := ⟨_, rfl⟩
  have HV : Hid (Below w1.heap.size w1 W) := by rw [← hW]; exact ((Below.refl _ _).alloc (Nat.le_refl _) _).alloc (by simp) _
  have HI2 : Hid (Ibx W w1.heap.size s1 A1 n1 c1) := by rw [← hW]; exact (Ibx.new' _ _ _ _ _ _ rfl).alloc _
  have HJ2 : Hid (Ibx W (w1.heap.size + 1) s2 A2 n2 c2) := by rw [← hW]; exact Ibx.new' _ _ _ _ _ _ (by simp)
  have HS2 := Lib.hid (HS1.out.below HV.out)
  have HX2 := Lib.hid (HX1.out.below HV.out)
  have HD2 := Lib.hid (HD1.out.below HV.out)
  clear HX1 HD1 HV
  have k0 := HI2.out.c0
  have k1 := HI2.out.c1
  have j0 := HJ2.out.c0
  have j1 := HJ2.out.c1
  go_wp2_with fail
  refine (lowest_q HX2.out HD2.out hk hk2 hdp HQP.out).mono ?_
  rintro e w8 ⟨s8, A8, n8, c8, t8, B8, m8, d8, rfl, h8, hb8⟩
  clear hW k0 k1 j0 j1
  have HS8 := Lib.hid (HS2.out.below hb8)
  have HR8 := Lib.hid h8
  clear h8 hb8
  have o0 := HS8.out.o.c0
  have o1 := HS8.out.o.c1
  have o2 := HS8.out.o.c2
  have o3 := HS8.out.o.c3
  have f0 := HS8.out.o.f 0
  have f1 := HS8.out.o.f 1
  have f2 := HS8.out.o.f 2
  have f3 := HS8.out.o.f 3
  go_wp2_with fail
  refine bodyPost_ret (v := .agg #[.bool s8, .slice A8 n8 c8, .bool t8, .slice B8 m8 d8]) (by simp [results, Tryz.results104, go_sem, o0, o1, o2, o3]) rfl ?_
  exact retq_put HR8.out HS8.out.o (by omega) HS8.out.bel

set_option maxRecDepth 100000 in
set_option maxHeartbeats 4000000 in
theorem sign_q {w : World} {s t : Bool} {A B : Option Addr} {n c m d k : Nat} {p : Rat} (h1 : IsQ w s A n c t B m d p k) (hk : 1 ≤ k) (hk2 : k ≤ 3000) (r : Int) (hr : qsign p = r) :
    Calls Tryz.prog 111 #[.agg #[.bool s, .slice A n c, .bool t, .slice B m d]] w (RetI w r) := by
  have HS : Hid (Below w.heap.size w (w.alloc (.cells #[.bool s, .slice A n c, .bool t, .slice B m d] 27))) := (Below.refl _ _).alloc (Nat.le_refl _) _
  have HP := Lib.hid (h1.alloc (.cells #[.bool s, .slice A n c, .bool t, .slice B m d] 27))
  have HR := Lib.hid hr
  clear h1 hr
  go_enter Tryz.func111, Tryz.ntmps111
  go_wp2_with fail
  refine (parts_any HP.out hk (by omega)).mono ?_
  rintro e w1 ⟨s1, A1, n1, c1, s2, A2, n2, c2, x, dx, rfl, hx, hdx, hdp, hqp, hb1⟩
  have HS1 := Lib.hid (below_on HS.out hb1)
  have HX1 := Lib.hid hx
  have HD1 := Lib.hid hdx
  have HQP := Lib.hid hqp
  clear hx hdx hqp hb1 HS HP
  obtain ⟨W, hW⟩ : ∃ W, (w1.alloc (.cells #[.bool s1, .slice A1 n1 c1] 25)).alloc (.cells #[.bool s2, .slice A2 n2 c2] 25) = W := ⟨_, rfl⟩
  have HV : Hid (Below w1.heap.size w1 W) := by rw [← hW]; exact ((Below.refl _ _).alloc (Nat.le_refl _) _).alloc (by simp) _
  have HI2 : Hid (Ibx W w1.heap.size s1 A1 n1 c1) := by rw [← hW]; exact (Ibx.new' _ _ _ _ _ _ rfl).alloc _
  have HJ2 : Hid (Ibx W (w1.heap.size + 1) s2 A2 n2 c2) := by rw [← hW]; exact Ibx.new' _ _ _ _ _ _ (by simp)
  have HS2 := Lib.hid (below_on HS1.out HV.out)
  have HX2 := Lib.hid (HX1.out.below HV.out)
  have HD2 := Lib.hid (HD1.out.below HV.out)
  clear HX1 HD1 HV
  have k0 := HI2.out.c0
  have k1 := HI2.out.c1
  have j0 := HJ2.out.c0
  have j1 := HJ2.out.c1
  have HSG : Hid (x.sign = r) := by show _ = _; rw [← HR.out, ← HQP.out, sign_pos hdp]
  go_wp2_with fail
  refine (sign_j HX2.out hk2 r HSG.out).mono ?_
  rintro e w8 ⟨rfl, hb8⟩
  clear hW k0 k1 j0 j1
  have HS8 := Lib.hid (below_on HS2.out hb8)
  clear hb8
  go_wp2_with fail
  go_ret
  exact ⟨rfl, HS8.out⟩

end Go.Proofs.YtmbnlhedbedcdaaGreat.Q.P
