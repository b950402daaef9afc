/- Part 29 of the proof: VWalk. -/
import Derived.Test.YthjiacmhhpfokaaGreatL26
namespace Go.Proofs.YthjiacmhhpfokaaGreat
open Act renaming put → aP
open Go.Proofs.Tryz renaming prog → tz
namespace V
open List renaming getElem_toArray → gY, getElem_cons_zero → gZ, getElem_cons_succ → gJ, setIfInBounds_toArray → sT, set_cons_zero → sZ, set_cons_succ → sS
open Lib renaming hid → lh
open Go.RowKit
open Q (IsQ below_on ql)
theorem Gone.perm {x y x' y' : List (Int × Rat)} {D : List (Int × Rat × Rat)} (h : Gone x y D) (hx : x.Perm x') (hy : y.Perm y') : Gone x' y' D :=
 ⟨h.up, fun s hs => ⟨(h.has s hs).1.trans (tot_perm hx _), (h.has s hs).2.trans (tot_perm hy _)⟩, fun a ha => ⟨(tot_perm hx a).symm.trans (h.out a ha).1, (tot_perm hy a).symm.trans (h.out a ha).2⟩⟩
theorem Short.sub {l m : List (Int × Rat)} (h : Short l) (hl : m.length ≤ l.length) (hm : ∀ x ∈ m, x ∈ l) : Short m := fun l' h1 h2 => h l' (Nat.le_trans h1 hl) (fun x hx => hm x (h2 x hx))
def lenV : Value → Nat | .slice _ n _ => n | _ => 0
structure Visit (g : FuncId) (cb : Array Value) (w : World) (Own : Nat → Prop) (X Y : List (Int × Rat)) (N : Nat) (St : World → World → List (Int × Rat × Rat) → Prop) (cont : Rat → Rat → Bool) : Prop where
 eg : ∀ args w, (callFunc g args).run tz w = .ok (.enter g args) w
 own : ∀ b, Own b → b < w.heap.size
 dig : NoDig w Own
 start : ∀ wl, Below w.heap.size w wl → St wl wl []
 near : ∀ wl wx D, St wl wx D → Near Own wl wx
 keep : ∀ wl wx wy D, St wl wx D → Below wx.heap.size wx wy → St wl wy D
 call : ∀ wl wx D a (sv : Bool) (Av : Option Addr) (nv cv : Nat) (tv : Bool) (Bv : Option Addr) (mv dv : Nat) (sw : Bool) (Aw : Option Addr) (nw cw : Nat) (tw : Bool) (Bw : Option Addr) (mw dw : Nat), St wl wx D → D.length < N → IsQ wx sv Av nv cv tv Bv mv dv (tot X a) 700 → IsQ wx sw Aw nw cw tw Bw mw dw (tot Y a) 700 → -9223372036854775808 ≤ a → a ≤ 9223372036854775807 → (∀ s ∈ D, s.1 < a) → (∀ s ∈ D, cont s.2.1 s.2.2 = true) →
  Calls tz g (#[.int .i64 a, .agg #[.bool sv, .slice Av nv cv, .bool tv, .slice Bv mv dv], .agg #[.bool sw, .slice Aw nw cw, .bool tw, .slice Bw mw dw]] ++ cb) wx (fun e wy => e = .returned (.bool (cont (tot X a) (tot Y a))) ∧ St wl wy (D ++ [(a, tot X a, tot Y a)]))
theorem Visit.perm {g : FuncId} {cb : Array Value} {w : World} {Own : Nat → Prop} {X Y X' Y' : List (Int × Rat)} {N : Nat} {St : World → World → List (Int × Rat × Rat) → Prop} {cont : Rat → Rat → Bool} (h : Visit g cb w Own X Y N St cont) (hx : X'.Perm X) (hy : Y'.Perm Y) : Visit g cb w Own X' Y' N St cont :=
 ⟨h.eg, h.own, h.dig, h.start, h.near, h.keep, by
  have e1 : tot X' = tot X := funext (tot_perm hx)
  have e2 : tot Y' = tot Y := funext (tot_perm hy)
  rw [e1, e2]
  exact h.call⟩
def Through (X Y : List (Int × Rat)) (cont : Rat → Rat → Bool) (D : List (Int × Rat × Rat)) : Prop :=
 (Gone X Y D ∧ ∀ s ∈ D, cont s.2.1 s.2.2 = true) ∨ ∃ s ∈ D, s.2.1 = tot X s.1 ∧ s.2.2 = tot Y s.1 ∧ cont s.2.1 s.2.2 = false
def RetW (w : World) (X Y : List (Int × Rat)) (St : World → World → List (Int × Rat × Rat) → Prop) (cont : Rat → Rat → Bool) (e : Ending) (w' : World) : Prop :=
 e = .returned (.tuple #[]) ∧ ∃ wl D, Below w.heap.size w wl ∧ St wl w' D ∧ Through X Y cont D
structure WS (wl : World) (Own : Nat → Prop) (X Y : List (Int × Rat)) (St : World → World → List (Int × Rat × Rat) → Prop) (cont : Rat → Rat → Bool) (k N : Nat) (A : Option Addr) (n c : Nat) (B : Option Addr) (m d : Nat) (gb : Bool) (wr : World) (xs ys : List (TV × Rat)) (D : List (Int × Rat × Rat)) : Prop where
 st : St wl wr D
 x : IsV wl A n c xs k
 y : IsV wl B m d ys k
 ox : Off Own A
 oy : Off Own B
 go : Going X Y (vals xs) (vals ys) D
 sub : (∀ t ∈ vals xs, t ∈ X) ∧ (∀ t ∈ vals ys, t ∈ Y)
 len : xs.length ≤ X.length ∧ ys.length ≤ Y.length ∧ D.length + n + m ≤ N
 on : gb = true → ∀ s ∈ D, cont s.2.1 s.2.2 = true
 off : gb = false → ∃ s ∈ D, s.2.1 = tot X s.1 ∧ s.2.2 = tot Y s.1 ∧ cont s.2.1 s.2.2 = false
theorem Through.perm {X Y X' Y' : List (Int × Rat)} {cont : Rat → Rat → Bool} {D : List (Int × Rat × Rat)} (h : Through X Y cont D) (hx : X.Perm X') (hy : Y.Perm Y') : Through X' Y' cont D := by
 rcases h with ⟨h1, h2⟩ | ⟨s, h1, h2, h3, h4⟩
 ·exact .inl ⟨h1.perm hx hy, h2⟩
 ·exact .inr ⟨s, h1, h2.trans (tot_perm hx _), h3.trans (tot_perm hy _), h4⟩
theorem first_mem {x y : List (Int × Rat)} (hne : x ≠ [] ∨ y ≠ []) : ∃ t, (t ∈ x ∨ t ∈ y) ∧ firstAt x y = t.1 := by
 cases x with
 | nil =>
  cases y with
  | nil => simp at hne
  | cons b y => exact ⟨b, .inr (List.mem_cons_self ..), rfl⟩
 | cons a x =>
  cases y with
  | nil => exact ⟨a, .inl (List.mem_cons_self ..), rfl⟩
  | cons b y =>
   show ∃ t : Int × Rat, _ ∧ min a.1 b.1 = t.1
   by_cases h : a.1 ≤ b.1
   ·exact ⟨a, .inl (List.mem_cons_self ..), by omega⟩
   ·exact ⟨b, .inr (List.mem_cons_self ..), by omega⟩
theorem vals_take (ys : List (TV × Rat)) (i : Nat) : vals (ys.take i) = (vals ys).take i := by unfold vals; rw [List.map_take]
theorem vals_drop (ys : List (TV × Rat)) (i : Nat) : vals (ys.drop i) = (vals ys).drop i := by unfold vals; rw [List.map_drop]
theorem short_part {X : List (Int × Rat)} (h : Short X) {xs : List (TV × Rat)} (hl : xs.length ≤ X.length) (hm : ∀ t ∈ vals xs, t ∈ X) (L : Nat) : ∀ i, ql (all ((vals (xs.take L)).take i)) ≤ 700 := by
 intro i
 rw [vals_take]
 refine h _ ?_ (fun x hx => hm x (List.mem_of_mem_take (List.mem_of_mem_take hx)))
 rw [List.length_take, List.length_take, vals_len]
 omega
set_option maxRecDepth 100000 in
set_option maxHeartbeats 8000000 in
theorem walk_any {w : World} {A : Option Addr} {n c : Nat} {B : Option Addr} {m d k : Nat} {xs ys : List (TV × Rat)} {g : FuncId} {cb : Array Value} {Own : Nat → Prop} {St : World → World → List (Int × Rat × Rat) → Prop} {cont : Rat → Rat → Bool} (hx : IsV w A n c xs k) (hy : IsV w B m d ys k) (hk : k ≤ 700) (hn : n ≤ 1000000) (hm : m ≤ 1000000) (hsx : Short (vals xs)) (hsy : Short (vals ys)) (hoA : Off Own A) (hoB : Off Own B) (hv : Visit g cb w Own (vals xs) (vals ys) (n + m) St cont) :
  Calls tz 94 #[.slice A n c, .slice B m d, .func (.func g) #[] cb] w (RetW w (vals xs) (vals ys) St cont) := by
 have HV := lh hv
 have HXN := lh hn
 have HYN := lh hm
 have HK := lh hk
 have HSX := lh hsx
 have HSY := lh hsy
 have HOA := lh hoA
 have HOB := lh hoB
 have HX0 := lh hx
 have HY0 := lh hy
 clear hx hy hk hn hm hsx hsy hoA hoB hv
 go_enter Tryz.func94, Tryz.ntmps94
 go_wp2_with fail
 refine (ordered_any HX0.out HXN.out).mono ?_
 rintro e w1 ⟨A1, c1, xs1, rfl, hx1, hp1, hu1, hb1, ho1⟩
 have HX1 := lh hx1
 have HP1 := lh hp1
 have HU1 := lh hu1
 have HB1 := lh hb1
 have HO1 : Hid (Off Own A1) := by
  show Off Own A1
  rcases ho1 with rfl | ⟨g1, rfl, hg1⟩
  ·exact HOA.out
  ·intro a e; obtain rfl := Option.some.inj e; exact fun h => by have := HV.out.own _ h; show False; exact absurd this (Nat.not_lt.2 hg1)
 have HY1 := lh (HY0.out.below hb1)
 clear hx1 hp1 hu1 hb1 ho1 HX0 HY0
 go_wp2_with fail
 refine (ordered_any HY1.out HYN.out).mono ?_
 rintro e w2 ⟨B1, d1, ys1, rfl, hy2, hp2, hu2, hb2, ho2⟩
 have HY2 := lh hy2
 have HP2 := lh hp2
 have HU2 := lh hu2
 have HB2 := lh (below_on HB1.out hb2)
 have HX2 := lh (HX1.out.below hb2)
 have HO2 : Hid (Off Own B1) := by
  show Off Own B1
  rcases ho2 with rfl | ⟨g1, rfl, hg1⟩
  ·exact HOB.out
  ·intro a e; obtain rfl := Option.some.inj e; exact fun h => by have := HV.out.own _ h; have h3 := HB1.out.size; show False; exact absurd (Nat.lt_of_lt_of_le this h3) (Nat.not_lt.2 hg1)
 have HVP := lh (HV.out.perm HP1.out HP2.out)
 have HDG : Hid (NoDig w2 Own) := HV.out.dig.near HB2.out HV.out.own
 have HSX1 : Hid (Short (vals xs1)) := HSX.out.sub (Nat.le_of_eq HP1.out.length_eq) (fun x hx => HP1.out.mem_iff.1 hx)
 have HSY1 : Hid (Short (vals ys1)) := HSY.out.sub (Nat.le_of_eq HP2.out.length_eq) (fun x hx => HP2.out.mem_iff.1 hx)
 have HTH : Hid (∀ D, Through (vals xs1) (vals ys1) cont D → Through (vals xs) (vals ys) cont D) := fun D h => h.perm HP1.out HP2.out
 have HWS : Hid (WS w2 Own (vals xs1) (vals ys1) St cont k (n + m) A1 n c1 B1 m d1 true w2 xs1 ys1 []) := ⟨HVP.out.start w2 HB2.out, HX2.out, HY2.out, HO1.out, HO2.out, Going.start HU1.out HU2.out, ⟨fun _ h => h, fun _ h => h⟩, ⟨by rw [vals_len]; exact Nat.le_refl _, by rw [vals_len]; exact Nat.le_refl _, by simp⟩, (fun _ _ h => by cases h), (fun h => by cases h)⟩
 obtain ⟨X, hXe⟩ : ∃ X, vals xs1 = X := ⟨_, rfl⟩
 obtain ⟨Y, hYe⟩ : ∃ Y, vals ys1 = Y := ⟨_, rfl⟩
 rw [hXe, hYe] at HVP HTH HWS
 rw [hXe] at HSX1
 rw [hYe] at HSY1
 obtain ⟨N, hNe⟩ : ∃ N, n + m = N := ⟨_, rfl⟩
 have HNB : Hid (N ≤ 2000000) := by have h1 := HXN.out; have h2 := HYN.out; show _ ≤ _; omega
 rw [hNe] at HVP HWS
 clear hy2 hp2 hu2 hb2 ho2 HV HSX HSY HOA HOB HX1 HY1 HX2 HY2 HP1 HP2 HU1 HU2 HB1 HO1 HO2 hXe hYe hNe HXN HYN
 go_wp2_with fail
 go_loopw [0, 1, 6] (fun s0 s1 s6 wr => ∃ (A : Option Addr) (n c : Nat) (B : Option Addr) (m d : Nat) (gb : Bool) (xs ys : List (TV × Rat)) (D : List (Int × Rat × Rat)), s0 = .slice A n c ∧ s1 = .slice B m d ∧ s6 = .bool gb ∧ Hid (WS w2 Own X Y St cont k N A n c B m d gb wr xs ys D)) (fun s0 s1 _ _ => lenV s0 + lenV s1)
 case atStart => exact ⟨A1, n, c1, B1, m, d1, true, xs1, ys1, [], rfl, rfl, rfl, HWS⟩
 case round =>
  clear HWS
  obtain ⟨A, n, c, B, m, d, gb, xs, ys, D, rfl, rfl, rfl, HWS⟩ := hrel
  cases gb with
  | false =>
   go_wp2_with fail
   refine bodyPost_ret (v := .tuple #[]) (by simp [results, Tryz.results94, go_sem]) rfl ?_
   exact ⟨rfl, w2, D, HB2.out, HWS.out.st, HTH.out D (.inr (HWS.out.off rfl))⟩
  | true =>
   have HLX := lh HWS.out.x.en
   have HLY := lh HWS.out.y.en
   have t0 : IntKind.i64.wrap ((n : Int) + (m : Int)) = ((n + m : Nat) : Int) := by
    have h := IntWalk.i64_in ((n : Int) + (m : Int)) (by have h1 := HWS.out.len.2.2; have h2 := HNB.out; omega)
    rw [h]; omega
   by_cases h0 : n + m = 0
   ·have g0 : ¬ (0 : Int) < ((n + m : Nat) : Int) := by omega
    have HE : Hid (xs = [] ∧ ys = []) := by
     have h1 := HLX.out
     have h2 := HLY.out
     exact ⟨List.eq_nil_of_length_eq_zero (by omega), List.eq_nil_of_length_eq_zero (by omega)⟩
    obtain ⟨S, hS⟩ : ∃ S, n + m = S := ⟨_, rfl⟩
    rw [hS] at t0 g0
    clear h0 hS
    go_wp2_with fail
    refine bodyPost_ret (v := .tuple #[]) (by simp [results, Tryz.results94, go_sem]) rfl ?_
    refine ⟨rfl, w2, D, HB2.out, HWS.out.st, HTH.out D (.inl ⟨?_, HWS.out.on rfl⟩)⟩
    have h := HWS.out.go
    rw [HE.out.1, HE.out.2] at h
    exact h.gone
   ·have g0 : (0 : Int) < ((n + m : Nat) : Int) := by omega
    have hne : xs ≠ [] ∨ ys ≠ [] := by
     rcases Nat.eq_zero_or_pos n with h1 | h1
     ·right; intro h2; have := HLY.out; rw [h2] at this; simp at this; omega
     ·left; intro h2; have := HLX.out; rw [h2] at this; simp at this; omega
    have hnv : vals xs ≠ [] ∨ vals ys ≠ [] := by
     rcases hne with h | h
     ·exact .inl (fun h2 => h (List.map_eq_nil_iff.1 h2))
     ·exact .inr (fun h2 => h (List.map_eq_nil_iff.1 h2))
    obtain ⟨S, hS⟩ : ∃ S, n + m = S := ⟨_, rfl⟩
    rw [hS] at t0 g0
    have HSS := lh hS
    have HNR := lh (HVP.out.near _ _ _ HWS.out.st)
    have HXR := lh (HWS.out.x.near HWS.out.ox HDG.out HNR.out)
    have HYR := lh (HWS.out.y.near HWS.out.oy HDG.out HNR.out)
    obtain ⟨a, ha⟩ : ∃ a, firstAt (vals xs) (vals ys) = a := ⟨_, rfl⟩
    have HFC := lh (first_any HXR.out HYR.out hne)
    rw [ha] at HFC
    have HLE : Hid ((∀ t ∈ vals xs, a ≤ t.1) ∧ (∀ t ∈ vals ys, a ≤ t.1)) := by have h := first_le HWS.out.go.ux HWS.out.go.uy; rw [ha] at h; exact h
    have HGT : Hid (∀ s ∈ D, s.1 < a) := by have h := first_gt HWS.out.go hnv; rw [ha] at h; exact h
    have HLD : Hid (0 < lead (vals xs) a + lead (vals ys) a) := by have h := first_lead hnv; rw [ha] at h; exact h
    have HAB : Hid (-9223372036854775808 ≤ a ∧ a ≤ 9223372036854775807) := by
     obtain ⟨t, ht, e⟩ := first_mem hnv
     rw [← ha, e]
     rcases ht with ht | ht
     ·obtain ⟨u, hu, rfl⟩ := List.mem_map.1 ht; exact (HWS.out.x.tq u hu).2
     ·obtain ⟨u, hu, rfl⟩ := List.mem_map.1 ht; exact (HWS.out.y.tq u hu).2
    have HGS := lh (HWS.out.go.step HLE.out.1 HLE.out.2 HGT.out)
    obtain ⟨L1, hL1⟩ : ∃ L, lead (vals xs) a = L := ⟨_, rfl⟩
    obtain ⟨L2, hL2⟩ : ∃ L, lead (vals ys) a = L := ⟨_, rfl⟩
    have HL1 : Hid (L1 ≤ n) := by show _ ≤ _; rw [← hL1, HLX.out, ← vals_len]; exact lead_le _ _
    have HL2 : Hid (L2 ≤ m) := by show _ ≤ _; rw [← hL2, HLY.out, ← vals_len]; exact lead_le _ _
    rw [hL1, hL2] at HGS HLD
    have HE1 : Hid (all ((vals xs).take L1) = tot X a) := (HGS.out.has _ (List.mem_append_right _ (List.mem_singleton.2 rfl))).1
    have HE2 : Hid (all ((vals ys).take L2) = tot Y a) := (HGS.out.has _ (List.mem_append_right _ (List.mem_singleton.2 rfl))).2
    rw [HE1.out, HE2.out] at HGS
    have HCX := lh HWS.out.x.cap
    have HCY := lh HWS.out.y.cap
    have HNN : Hid (n ≤ 2000000 ∧ m ≤ 2000000) := by have h1 := HWS.out.len.2.2; have h2 := HNB.out; show _ ∧ _; omega
    have HML1 : Hid (∀ W, IsV W A n c xs k → Calls tz 149 #[.slice A n c, .int .i64 a] W (fun e w' => e = .returned (.int .i64 (L1 : Int)) ∧ w' = W)) := by
     intro W h
     have := many_any h a (by have := HNN.out.1; omega)
     rw [hL1] at this
     exact this
    have HML2 : Hid (∀ W, IsV W B m d ys k → Calls tz 149 #[.slice B m d, .int .i64 a] W (fun e w' => e = .returned (.int .i64 (L2 : Int)) ∧ w' = W)) := by
     intro W h
     have := many_any h a (by have := HNN.out.2; omega)
     rw [hL2] at this
     exact this
    clear h0 hS hne hnv ha hL1 hL2
    go_wp2_with fail
    refine HFC.out.mono ?_
    rintro e w3 ⟨rfl, hb3⟩
    have HX3 := lh (HXR.out.below hb3)
    have HY3 := lh (HYR.out.below hb3)
    have HST3 := lh (HVP.out.keep _ _ _ _ HWS.out.st hb3)
    clear hb3 HXR HYR HFC
    go_wp2_with fail
    refine (HML1.out _ HX3.out).mono ?_
    rintro e w4 ⟨rfl, rfl⟩
    go_wp2_with fail
    refine (HML2.out _ HY3.out).mono ?_
    rintro e w5 ⟨rfl, rfl⟩
    clear HML1 HML2
    go_upto_region 5 with fail
    obtain ⟨A0, hA0⟩ : ∃ A0, (if c = 0 then A else A.map (·.add (0 * 5))) = A0 := ⟨_, rfl⟩
    obtain ⟨B0, hB0⟩ : ∃ B0, (if d = 0 then B else B.map (·.add (0 * 5))) = B0 := ⟨_, rfl⟩
    have r1 : ∀ W : World, (Instr.slice 22 (.slice A n c) none (some (.int .i64 (L1 : Int))) none).run tz W = .ok (.slice A0 L1 c) W := by intro W; rw [← hA0]; exact run_st W A n c L1 (Nat.le_trans HL1.out HCX.out)
    have r2 : ∀ W : World, (Instr.slice 22 (.slice B m d) none (some (.int .i64 (L2 : Int))) none).run tz W = .ok (.slice B0 L2 d) W := by intro W; rw [← hB0]; exact run_st W B m d L2 (Nat.le_trans HL2.out HCY.out)
    have HXT : Hid (IsV w5 A0 L1 c (xs.take L1) k) := by show IsV _ _ _ _ _ _; rw [← hA0]; exact HX3.out.st L1 HL1.out
    have HYT : Hid (IsV w5 B0 L2 d (ys.take L2) k) := by show IsV _ _ _ _ _ _; rw [← hB0]; exact HY3.out.st L2 HL2.out
    have HSM1 : Hid (∀ W, IsV W A0 L1 c (xs.take L1) k → Calls tz 96 #[.slice A0 L1 c] W (RetA W (tot X a) 700)) := by
     intro W h
     have := sum_any h HK.out (by have := HL1.out; have := HNN.out.1; omega) (short_part HSX1.out HWS.out.len.1 HWS.out.sub.1 L1)
     rw [vals_take, HE1.out] at this
     exact this
    have HSM2 : Hid (∀ W, IsV W B0 L2 d (ys.take L2) k → Calls tz 96 #[.slice B0 L2 d] W (RetA W (tot Y a) 700)) := by
     intro W h
     have := sum_any h HK.out (by have := HL2.out; have := HNN.out.2; omega) (short_part HSY1.out HWS.out.len.2.1 HWS.out.sub.2 L2)
     rw [vals_take, HE2.out] at this
     exact this
    obtain ⟨vx, hvx⟩ : ∃ v, tot X a = v := ⟨_, rfl⟩
    obtain ⟨vy, hvy⟩ : ∃ v, tot Y a = v := ⟨_, rfl⟩
    obtain ⟨bb, hbb⟩ : ∃ v, cont vx vy = v := ⟨_, rfl⟩
    have HCL : Hid (∀ W (sv : Bool) (Av : Option Addr) (nv cv : Nat) (tv : Bool) (Bv : Option Addr) (mv dv : Nat) (sw : Bool) (Aw : Option Addr) (nw cw : Nat) (tw : Bool) (Bw : Option Addr) (mw dw : Nat), St w2 W D → IsQ W sv Av nv cv tv Bv mv dv vx 700 → IsQ W sw Aw nw cw tw Bw mw dw vy 700 → Calls tz g (#[.int .i64 a, .agg #[.bool sv, .slice Av nv cv, .bool tv, .slice Bv mv dv], .agg #[.bool sw, .slice Aw nw cw, .bool tw, .slice Bw mw dw]] ++ cb) W (fun e wy => e = .returned (.bool bb) ∧ St w2 wy (D ++ [(a, vx, vy)]))) := by
     intro W sv Av nv cv tv Bv mv dv sw Aw nw cw tw Bw mw dw h1 h2 h3
     rw [← hvx] at h2
     rw [← hvy] at h3
     have h := HVP.out.call w2 W D a sv Av nv cv tv Bv mv dv sw Aw nw cw tw Bw mw dw h1 (by have h4 := HWS.out.len.2.2; have h5 := HSS.out; omega) h2 h3 HAB.out.1 HAB.out.2 HGT.out (HWS.out.on rfl)
     rw [hvx, hvy, hbb] at h
     exact h
    rw [hvx, hvy] at HGS
    rw [hvx] at HSM1
    rw [hvy] at HSM2
    have HBB := lh hbb
    have HVX := lh hvx
    have HVY := lh hvy
    have eg := HVP.out.eg
    clear hA0 hB0 HE1 HE2 hvx hvy hbb
    replace HXT := lh (HXT.out.below ((Below.refl _ _).drew))
    replace HYT := lh (HYT.out.below ((Below.refl _ _).drew))
    replace HST3 := lh (HVP.out.keep _ _ _ _ HST3.out ((Below.refl _ _).drew))
    refine wp_region_held_drew (S := fun _ => True) (by kernel_rfl) trivial (fun hHeld => ?_)
    refine' tK 0 ?_
    try simp only [gY, gZ, aP, sT, sZ, sS]
    refine' tK 1 ?_
    try simp only [gY, gZ, gJ, aP, sT, sZ, sS]
    refine' tK 2 ?_
    try simp only [gY, gZ, gJ, aP, sT, sZ, sS]
    refine' tK 3 ?_
    try simp only [gY, gZ, gJ, aP, sT, sZ, sS]
    refine' tK 4 ?_
    try simp only [gY, gZ, gJ, aP, sT, sZ, sS]
    refine' tK 6 ?_
    try simp only [gY, gZ, gJ, aP, sT, sZ, sS]
    refine' tK 7 ?_
    try simp only [gY, gZ, gJ, aP, sT, sZ, sS]
    refine' tK 8 ?_
    try simp only [gY, gZ, gJ, aP, sT, sZ, sS]
    refine rQ 5 (fun K hK => ?_)
    try simp only [gY, gZ, gJ]
    go_simp
    with_reducible refine (HSM1.out _ HXT.out).mono ?_
    rintro e w6 ⟨sv, Av, nv, cv, tv, Bv, mv, dv, rfl, hq, hbx⟩
    have HQV := lh hq
    replace HYT := lh (HYT.out.below hbx)
    replace HST3 := lh (HVP.out.keep _ _ _ _ HST3.out hbx)
    clear hq hbx HXT HSM1
    refine hK.out _ _ trivial (fun hHeld => ?_)
    clear hK K
    try simp only [aP, sT, sZ, sS]
    refine rQ 9 (fun K hK => ?_)
    try simp only [gY, gZ, gJ]
    go_simp
    with_reducible refine (HSM2.out _ HYT.out).mono ?_
    rintro e w7 ⟨sw, Aw, nw, cw, tw, Bw, mw, dw, rfl, hq, hbx⟩
    have HQW := lh hq
    replace HQV := lh (HQV.out.below hbx)
    replace HST3 := lh (HVP.out.keep _ _ _ _ HST3.out hbx)
    clear hq hbx HYT HSM2
    refine hK.out _ _ trivial (fun hHeld => ?_)
    clear hK K
    try simp only [aP, sT, sZ, sS]
    refine rQ 10 (fun K hK => ?_)
    try simp only [gY, gZ, gJ]
    go_simp
    with_reducible refine (HCL.out _ sv Av nv cv tv Bv mv dv sw Aw nw cw tw Bw mw dw HST3.out HQV.out HQW.out).mono ?_
    rintro e w8 ⟨rfl, hst⟩
    have HST := lh hst
    clear hst HST3 HQV HQW HCL eg
    refine hK.out _ _ trivial (fun hHeld => ?_)
    clear hK K
    try simp only [aP, sT, sZ, sS]
    refine' tK 11 ?_
    try simp only [gY, gZ, gJ, aP, sT, sZ, sS]
    refine wpAnyH_done (by kernel_rfl) ?_ _
    obtain ⟨A2, hA2⟩ : ∃ A2, (if c = L1 then A else A.map (·.add (L1 * 5))) = A2 := ⟨_, rfl⟩
    obtain ⟨B2, hB2⟩ : ∃ B2, (if d = L2 then B else B.map (·.add (L2 * 5))) = B2 := ⟨_, rfl⟩
    obtain ⟨n2, hn2⟩ : ∃ n2, n - L1 = n2 := ⟨_, rfl⟩
    obtain ⟨m2, hm2⟩ : ∃ m2, m - L2 = m2 := ⟨_, rfl⟩
    obtain ⟨c2, hc2⟩ : ∃ c2, c - L1 = c2 := ⟨_, rfl⟩
    obtain ⟨d2, hd2⟩ : ∃ d2, d - L2 = d2 := ⟨_, rfl⟩
    have q1 : ∀ W : World, (Instr.slice 22 (.slice A n c) (some (.int .i64 (L1 : Int))) none none).run tz W = .ok (.slice A2 n2 c2) W := by intro W; rw [← hA2, ← hn2, ← hc2]; exact run_sl W A n c L1 HL1.out
    have q2 : ∀ W : World, (Instr.slice 22 (.slice B m d) (some (.int .i64 (L2 : Int))) none none).run tz W = .ok (.slice B2 m2 d2) W := by intro W; rw [← hB2, ← hm2, ← hd2]; exact run_sl W B m d L2 HL2.out
    have HWN : Hid (∀ W, St w2 W (D ++ [(a, vx, vy)]) → WS w2 Own X Y St cont k N A2 n2 c2 B2 m2 d2 bb W (xs.drop L1) (ys.drop L2) (D ++ [(a, vx, vy)])) := by
     intro W hW
     have hws := HWS.out
     have g1 := HL1.out
     have g2 := HL2.out
     have g3 := HLD.out
     have g4 := hws.len
     refine ⟨hW, ?_, ?_, ?_, ?_, by rw [vals_drop, vals_drop]; exact HGS.out, ⟨fun t ht => hws.sub.1 t (by rw [vals_drop] at ht; exact List.mem_of_mem_drop ht), fun t ht => hws.sub.2 t (by rw [vals_drop] at ht; exact List.mem_of_mem_drop ht)⟩, ⟨by rw [List.length_drop]; omega, by rw [List.length_drop]; omega, by rw [List.length_append, List.length_singleton]; omega⟩, ?_, ?_⟩
     ·rw [← hA2, ← hn2, ← hc2]; exact hws.x.sl L1 g1
     ·rw [← hB2, ← hm2, ← hd2]; exact hws.y.sl L2 g2
     ·rw [← hA2]; exact hws.ox.sl _ _ _
     ·rw [← hB2]; exact hws.oy.sl _ _ _
     ·intro hb s hs
      rcases List.mem_append.1 hs with hs | hs
      ·exact hws.on rfl s hs
      ·rw [List.mem_singleton.1 hs]
       show cont vx vy = true
       rw [HBB.out, hb]
     ·intro hb
      exact ⟨_, List.mem_append_right _ (List.mem_singleton.2 rfl), HVX.out.symm, HVY.out.symm, by show cont vx vy = false; rw [HBB.out, hb]⟩
    have HMS : Hid (n2 + m2 < n + m) := by have g1 := HL1.out; have g2 := HL2.out; have g3 := HLD.out; show _ < _; omega
    clear hA2 hB2 hn2 hm2 hc2 hd2 r1 r2
    go_upto_region 6 with fail
    refine wp_region_held_drew (S := fun _ => True) (by kernel_rfl) trivial (fun hHeld => ?_)
    refine' tK 0 ?_
    try simp only [gY, gZ, aP, sT, sZ, sS]
    refine' tK 1 ?_
    try simp only [gY, gZ, gJ, aP, sT, sZ, sS]
    refine' tK 2 ?_
    try simp only [gY, gZ, gJ, aP, sT, sZ, sS]
    refine' tK 3 ?_
    try simp only [gY, gZ, gJ, aP, sT, sZ, sS]
    refine' tK 4 ?_
    try simp only [gY, gZ, gJ, aP, sT, sZ, sS]
    refine' tK 5 ?_
    try simp only [gY, gZ, gJ, aP, sT, sZ, sS]
    refine' tK 6 ?_
    try simp only [gY, gZ, gJ]
    try simp only [aP, sT, sZ]
    refine' tK 7 ?_
    try simp only [gY, gZ, gJ, aP, sT, sZ, sS]
    refine wpAnyH_done (by kernel_rfl) ?_ _
    go_wp2_with fail
    go_roundw
    case rel => exact ⟨A2, n2, c2, B2, m2, d2, bb, _, _, _, rfl, rfl, rfl, HWN.out _ (HVP.out.keep _ _ _ _ HST.out ((Below.refl _ _).drew))⟩
    case measure => (show lenV (.slice A2 n2 c2) + lenV (.slice B2 m2 d2) < lenV (.slice A n c) + lenV (.slice B m d); exact HMS.out)
