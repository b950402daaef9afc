/- Part 16 of the proof: VWalk, VVisit, VJoined, ROrdMath. -/
import Derived.Test.YthjiacmhhpfokaaGreatK15
import Derived.Laws.EntriesVeiled
namespace Go.Proofs.YthjiacmhhpfokaaGreat
open Lib renaming hid → lh
open List renaming getElem_toArray → gY, getElem_cons_zero → gZ, getElem_cons_succ → gJ, setIfInBounds_toArray → sT, set_cons_zero → sZ, set_cons_succ → sS
open Act renaming put → aP
open Go.Proofs.Tryz renaming prog → tz
open Nat renaming le_refl → lR, le_trans → lT
open Go.RowKit.Below renaming refl → bR
open Option.some renaming inj → oI
namespace V
open Go.RowKit
open Q (IsQ below_on ql)
theorem Gone.perm {x y x' y' : List (Int × Rat)} {D : List (Int × Rat × Rat)} (h : Gone x y D) (hx : x.Perm x') (hy : y.Perm y') : Gone x' y' D :=
 ⟨h.up, fun s hs => ⟨(h.has s hs).1.trans (tot_perm hx _), (h.has s hs).2.trans (tot_perm hy _)⟩, fun a ha => ⟨(tot_perm hx a).symm.trans (h.out a ha).1, (tot_perm hy a).symm.trans (h.out a ha).2⟩⟩
theorem Short.sub {l m : List (Int × Rat)} (h : Short l) (hl : m.length ≤ l.length) (hm : ∀ x ∈ m, x ∈ l) : Short m := fun l' h1 h2 => h l' (lT h1 hl) (fun x hx => hm x (h2 x hx))
def lenV : Value → Nat | .slice _ n _ => n | _ => 0
structure Visit (g : FuncId) (cb : Array Value) (w : World) (Own : Nat → Prop) (X Y : List (Int × Rat)) (N : Nat) (St : World → World → List (Int × Rat × Rat) → Prop) (cont : Rat → Rat → Bool) : Prop where
 eg : ∀ args w, (callFunc g args).run tz w = .ok (.enter g args) w
 own : ∀ b, Own b → b < w.heap.size
 dig : NoDig w Own
 start : ∀ wl, Below w.heap.size w wl → St wl wl []
 near : ∀ wl wx D, St wl wx D → Near Own wl wx
 keep : ∀ wl wx wy D, St wl wx D → Below wx.heap.size wx wy → St wl wy D
 call : ∀ wl wx D a (sv : Bool) (Av : Option Addr) (nv cv : Nat) (tv : Bool) (Bv : Option Addr) (mv dv : Nat) (sw : Bool) (Aw : Option Addr) (nw cw : Nat) (tw : Bool) (Bw : Option Addr) (mw dw : Nat), St wl wx D → D.length < N → IsQ wx sv Av nv cv tv Bv mv dv (tot X a) 700 → IsQ wx sw Aw nw cw tw Bw mw dw (tot Y a) 700 → -9223372036854775808 ≤ a → a ≤ 9223372036854775807 → (∀ s ∈ D, s.1 < a) → (∀ s ∈ D, cont s.2.1 s.2.2 = true) →
  Calls tz g (#[.int .i64 a, .agg #[.bool sv, .slice Av nv cv, .bool tv, .slice Bv mv dv], .agg #[.bool sw, .slice Aw nw cw, .bool tw, .slice Bw mw dw]] ++ cb) wx (fun e wy => e = .returned (.bool (cont (tot X a) (tot Y a))) ∧ St wl wy (D ++ [(a, tot X a, tot Y a)]))
theorem Visit.perm {g : FuncId} {cb : Array Value} {w : World} {Own : Nat → Prop} {X Y X' Y' : List (Int × Rat)} {N : Nat} {St : World → World → List (Int × Rat × Rat) → Prop} {cont : Rat → Rat → Bool} (h : Visit g cb w Own X Y N St cont) (hx : X'.Perm X) (hy : Y'.Perm Y) : Visit g cb w Own X' Y' N St cont :=
 ⟨h.eg, h.own, h.dig, h.start, h.near, h.keep, by
  have e1 : tot X' = tot X := funext (tot_perm hx)
  have e2 : tot Y' = tot Y := funext (tot_perm hy)
  rw [e1, e2]
  exact h.call⟩
def Through (X Y : List (Int × Rat)) (cont : Rat → Rat → Bool) (D : List (Int × Rat × Rat)) : Prop :=
 (Gone X Y D ∧ ∀ s ∈ D, cont s.2.1 s.2.2 = true) ∨ ∃ s ∈ D, s.2.1 = tot X s.1 ∧ s.2.2 = tot Y s.1 ∧ cont s.2.1 s.2.2 = false
def RetW (w : World) (X Y : List (Int × Rat)) (St : World → World → List (Int × Rat × Rat) → Prop) (cont : Rat → Rat → Bool) (e : Ending) (w' : World) : Prop :=
 e = .returned (.tuple #[]) ∧ ∃ wl D, Below w.heap.size w wl ∧ St wl w' D ∧ Through X Y cont D
structure WS (wl : World) (Own : Nat → Prop) (X Y : List (Int × Rat)) (St : World → World → List (Int × Rat × Rat) → Prop) (cont : Rat → Rat → Bool) (k N : Nat) (A : Option Addr) (n c : Nat) (B : Option Addr) (m d : Nat) (gb : Bool) (wr : World) (xs ys : List (TV × Rat)) (D : List (Int × Rat × Rat)) : Prop where
 st : St wl wr D
 x : IsV wl A n c xs k
 y : IsV wl B m d ys k
 ox : Off Own A
 oy : Off Own B
 go : Going X Y (vals xs) (vals ys) D
 sub : (∀ t ∈ vals xs, t ∈ X) ∧ (∀ t ∈ vals ys, t ∈ Y)
 len : xs.length ≤ X.length ∧ ys.length ≤ Y.length ∧ D.length + n + m ≤ N
 on : gb = true → ∀ s ∈ D, cont s.2.1 s.2.2 = true
 off : gb = false → ∃ s ∈ D, s.2.1 = tot X s.1 ∧ s.2.2 = tot Y s.1 ∧ cont s.2.1 s.2.2 = false
theorem Through.perm {X Y X' Y' : List (Int × Rat)} {cont : Rat → Rat → Bool} {D : List (Int × Rat × Rat)} (h : Through X Y cont D) (hx : X.Perm X') (hy : Y.Perm Y') : Through X' Y' cont D := by
 rcases h with ⟨h1, h2⟩ | ⟨s, h1, h2, h3, h4⟩
 ·exact .inl ⟨h1.perm hx hy, h2⟩
 ·exact .inr ⟨s, h1, h2.trans (tot_perm hx _), h3.trans (tot_perm hy _), h4⟩
theorem first_mem {x y : List (Int × Rat)} (hne : x ≠ [] ∨ y ≠ []) : ∃ t, (t ∈ x ∨ t ∈ y) ∧ firstAt x y = t.1 := by
 cases x with
 | nil =>
  cases y with
  | nil => simp at hne
  | cons b y => exact ⟨b, .inr (List.mem_cons_self ..), rfl⟩
 | cons a x =>
  cases y with
  | nil => exact ⟨a, .inl (List.mem_cons_self ..), rfl⟩
  | cons b y =>
   show ∃ t : Int × Rat, _ ∧ min a.1 b.1 = t.1
   by_cases h : a.1 ≤ b.1
   ·exact ⟨a, .inl (List.mem_cons_self ..), by omega⟩
   ·exact ⟨b, .inr (List.mem_cons_self ..), by omega⟩
theorem vals_take (ys : List (TV × Rat)) (i : Nat) : vals (ys.take i) = (vals ys).take i := by unfold vals; rw [List.map_take]
theorem vals_drop (ys : List (TV × Rat)) (i : Nat) : vals (ys.drop i) = (vals ys).drop i := by unfold vals; rw [List.map_drop]
theorem short_part {X : List (Int × Rat)} (h : Short X) {xs : List (TV × Rat)} (hl : xs.length ≤ X.length) (hm : ∀ t ∈ vals xs, t ∈ X) (L : Nat) : ∀ i, ql (all ((vals (xs.take L)).take i)) ≤ 700 := by
 intro i
 rw [vals_take]
 refine h _ ?_ (fun x hx => hm x (List.mem_of_mem_take (List.mem_of_mem_take hx)))
 rw [List.length_take, List.length_take, vals_len]
 omega
set_option maxRecDepth 100000 in
set_option maxHeartbeats 8000000 in
theorem walk_any {w : World} {A : Option Addr} {n c : Nat} {B : Option Addr} {m d k : Nat} {xs ys : List (TV × Rat)} {g : FuncId} {cb : Array Value} {Own : Nat → Prop} {St : World → World → List (Int × Rat × Rat) → Prop} {cont : Rat → Rat → Bool} (hx : IsV w A n c xs k) (hy : IsV w B m d ys k) (hk : k ≤ 700) (hn : n ≤ 1000000) (hm : m ≤ 1000000) (hsx : Short (vals xs)) (hsy : Short (vals ys)) (hoA : Off Own A) (hoB : Off Own B) (hv : Visit g cb w Own (vals xs) (vals ys) (n + m) St cont) :
  Calls tz 94 #[.slice A n c, .slice B m d, .func (.func g) #[] cb] w (RetW w (vals xs) (vals ys) St cont) := by
 have HV := lh hv
 have HXN := lh hn
 have HYN := lh hm
 have HK := lh hk
 have HSX := lh hsx
 have HSY := lh hsy
 have HOA := lh hoA
 have HOB := lh hoB
 have HX0 := lh hx
 have HY0 := lh hy
 clear hx hy hk hn hm hsx hsy hoA hoB hv
 go_enter Tryz.func94, Tryz.ntmps94
 go_wp2_with fail
 refine (ordered_any HX0.out HXN.out).mono ?_
 rintro e w1 ⟨A1, c1, xs1, rfl, hx1, hp1, hu1, hb1, ho1⟩
 have HX1 := lh hx1
 have HP1 := lh hp1
 have HU1 := lh hu1
 have HB1 := lh hb1
 have HO1 : Hid (Off Own A1) := by
  show Off Own A1
  rcases ho1 with rfl | ⟨g1, rfl, hg1⟩
  ·exact HOA.out
  ·intro a e; obtain rfl := oI e; exact fun h => by have := HV.out.own _ h; show False; exact absurd this (Nat.not_lt.2 hg1)
 have HY1 := lh (HY0.out.below hb1)
 clear hx1 hp1 hu1 hb1 ho1 HX0 HY0
 go_wp2_with fail
 refine (ordered_any HY1.out HYN.out).mono ?_
 rintro e w2 ⟨B1, d1, ys1, rfl, hy2, hp2, hu2, hb2, ho2⟩
 have HY2 := lh hy2
 have HP2 := lh hp2
 have HU2 := lh hu2
 have HB2 := lh (below_on HB1.out hb2)
 have HX2 := lh (HX1.out.below hb2)
 have HO2 : Hid (Off Own B1) := by
  show Off Own B1
  rcases ho2 with rfl | ⟨g1, rfl, hg1⟩
  ·exact HOB.out
  ·intro a e; obtain rfl := oI e; exact fun h => by have := HV.out.own _ h; have h3 := HB1.out.size; show False; exact absurd (Nat.lt_of_lt_of_le this h3) (Nat.not_lt.2 hg1)
 have HVP := lh (HV.out.perm HP1.out HP2.out)
 have HDG : Hid (NoDig w2 Own) := HV.out.dig.near HB2.out HV.out.own
 have HSX1 : Hid (Short (vals xs1)) := HSX.out.sub (Nat.le_of_eq HP1.out.length_eq) (fun x hx => HP1.out.mem_iff.1 hx)
 have HSY1 : Hid (Short (vals ys1)) := HSY.out.sub (Nat.le_of_eq HP2.out.length_eq) (fun x hx => HP2.out.mem_iff.1 hx)
 have HTH : Hid (∀ D, Through (vals xs1) (vals ys1) cont D → Through (vals xs) (vals ys) cont D) := fun D h => h.perm HP1.out HP2.out
 have HWS : Hid (WS w2 Own (vals xs1) (vals ys1) St cont k (n + m) A1 n c1 B1 m d1 true w2 xs1 ys1 []) := ⟨HVP.out.start w2 HB2.out, HX2.out, HY2.out, HO1.out, HO2.out, Going.start HU1.out HU2.out, ⟨fun _ h => h, fun _ h => h⟩, ⟨by rw [vals_len]; exact lR _, by rw [vals_len]; exact lR _, by simp⟩, (fun _ _ h => by cases h), (fun h => by cases h)⟩
 obtain ⟨X, hXe⟩ : ∃ X, vals xs1 = X := ⟨_, rfl⟩
 obtain ⟨Y, hYe⟩ : ∃ Y, vals ys1 = Y := ⟨_, rfl⟩
 rw [hXe, hYe] at HVP HTH HWS
 rw [hXe] at HSX1
 rw [hYe] at HSY1
 obtain ⟨N, hNe⟩ : ∃ N, n + m = N := ⟨_, rfl⟩
 have HNB : Hid (N ≤ 2000000) := by have h1 := HXN.out; have h2 := HYN.out; show _ ≤ _; omega
 rw [hNe] at HVP HWS
 clear hy2 hp2 hu2 hb2 ho2 HV HSX HSY HOA HOB HX1 HY1 HX2 HY2 HP1 HP2 HU1 HU2 HB1 HO1 HO2 hXe hYe hNe HXN HYN
 go_wp2_with fail
 go_loopw [0, 1, 6] (fun s0 s1 s6 wr => ∃ (A : Option Addr) (n c : Nat) (B : Option Addr) (m d : Nat) (gb : Bool) (xs ys : List (TV × Rat)) (D : List (Int × Rat × Rat)), s0 = .slice A n c ∧ s1 = .slice B m d ∧ s6 = .bool gb ∧ Hid (WS w2 Own X Y St cont k N A n c B m d gb wr xs ys D)) (fun s0 s1 _ _ => lenV s0 + lenV s1)
 case atStart => exact ⟨A1, n, c1, B1, m, d1, true, xs1, ys1, [], rfl, rfl, rfl, HWS⟩
 case round =>
  clear HWS
  obtain ⟨A, n, c, B, m, d, gb, xs, ys, D, rfl, rfl, rfl, HWS⟩ := hrel
  cases gb with
  | false =>
   go_wp2_with fail
   refine bodyPost_ret (v := .tuple #[]) (by simp [results, Tryz.results94, go_sem]) rfl ?_
   exact ⟨rfl, w2, D, HB2.out, HWS.out.st, HTH.out D (.inr (HWS.out.off rfl))⟩
  | true =>
   have HLX := lh HWS.out.x.en
   have HLY := lh HWS.out.y.en
   have t0 : IntKind.i64.wrap ((n : Int) + (m : Int)) = ((n + m : Nat) : Int) := by
    have h := IntWalk.i64_in ((n : Int) + (m : Int)) (by have h1 := HWS.out.len.2.2; have h2 := HNB.out; omega)
    rw [h]; omega
   by_cases h0 : n + m = 0
   ·have g0 : ¬ (0 : Int) < ((n + m : Nat) : Int) := by omega
    have HE : Hid (xs = [] ∧ ys = []) := by
     have h1 := HLX.out
     have h2 := HLY.out
     exact ⟨List.eq_nil_of_length_eq_zero (by omega), List.eq_nil_of_length_eq_zero (by omega)⟩
    obtain ⟨S, hS⟩ : ∃ S, n + m = S := ⟨_, rfl⟩
    rw [hS] at t0 g0
    clear h0 hS
    go_wp2_with fail
    refine bodyPost_ret (v := .tuple #[]) (by simp [results, Tryz.results94, go_sem]) rfl ?_
    refine ⟨rfl, w2, D, HB2.out, HWS.out.st, HTH.out D (.inl ⟨?_, HWS.out.on rfl⟩)⟩
    have h := HWS.out.go
    rw [HE.out.1, HE.out.2] at h
    exact h.gone
   ·have g0 : (0 : Int) < ((n + m : Nat) : Int) := by omega
    have hne : xs ≠ [] ∨ ys ≠ [] := by
     rcases Nat.eq_zero_or_pos n with h1 | h1
     ·right; intro h2; have := HLY.out; rw [h2] at this; simp at this; omega
     ·left; intro h2; have := HLX.out; rw [h2] at this; simp at this; omega
    have hnv : vals xs ≠ [] ∨ vals ys ≠ [] := by
     rcases hne with h | h
     ·exact .inl (fun h2 => h (List.map_eq_nil_iff.1 h2))
     ·exact .inr (fun h2 => h (List.map_eq_nil_iff.1 h2))
    obtain ⟨S, hS⟩ : ∃ S, n + m = S := ⟨_, rfl⟩
    rw [hS] at t0 g0
    have HSS := lh hS
    have HNR := lh (HVP.out.near _ _ _ HWS.out.st)
    have HXR := lh (HWS.out.x.near HWS.out.ox HDG.out HNR.out)
    have HYR := lh (HWS.out.y.near HWS.out.oy HDG.out HNR.out)
    obtain ⟨a, ha⟩ : ∃ a, firstAt (vals xs) (vals ys) = a := ⟨_, rfl⟩
    have HFC := lh (first_any HXR.out HYR.out hne)
    rw [ha] at HFC
    have HLE : Hid ((∀ t ∈ vals xs, a ≤ t.1) ∧ (∀ t ∈ vals ys, a ≤ t.1)) := by have h := first_le HWS.out.go.ux HWS.out.go.uy; rw [ha] at h; exact h
    have HGT : Hid (∀ s ∈ D, s.1 < a) := by have h := first_gt HWS.out.go hnv; rw [ha] at h; exact h
    have HLD : Hid (0 < lead (vals xs) a + lead (vals ys) a) := by have h := first_lead hnv; rw [ha] at h; exact h
    have HAB : Hid (-9223372036854775808 ≤ a ∧ a ≤ 9223372036854775807) := by
     obtain ⟨t, ht, e⟩ := first_mem hnv
     rw [← ha, e]
     rcases ht with ht | ht
     ·obtain ⟨u, hu, rfl⟩ := List.mem_map.1 ht; exact (HWS.out.x.tq u hu).2
     ·obtain ⟨u, hu, rfl⟩ := List.mem_map.1 ht; exact (HWS.out.y.tq u hu).2
    have HGS := lh (HWS.out.go.step HLE.out.1 HLE.out.2 HGT.out)
    obtain ⟨L1, hL1⟩ : ∃ L, lead (vals xs) a = L := ⟨_, rfl⟩
    obtain ⟨L2, hL2⟩ : ∃ L, lead (vals ys) a = L := ⟨_, rfl⟩
    have HL1 : Hid (L1 ≤ n) := by show _ ≤ _; rw [← hL1, HLX.out, ← vals_len]; exact lead_le _ _
    have HL2 : Hid (L2 ≤ m) := by show _ ≤ _; rw [← hL2, HLY.out, ← vals_len]; exact lead_le _ _
    rw [hL1, hL2] at HGS HLD
    have HE1 : Hid (all ((vals xs).take L1) = tot X a) := (HGS.out.has _ (List.mem_append_right _ (List.mem_singleton.2 rfl))).1
    have HE2 : Hid (all ((vals ys).take L2) = tot Y a) := (HGS.out.has _ (List.mem_append_right _ (List.mem_singleton.2 rfl))).2
    rw [HE1.out, HE2.out] at HGS
    have HCX := lh HWS.out.x.cap
    have HCY := lh HWS.out.y.cap
    have HNN : Hid (n ≤ 2000000 ∧ m ≤ 2000000) := by have h1 := HWS.out.len.2.2; have h2 := HNB.out; show _ ∧ _; omega
    have HML1 : Hid (∀ W, IsV W A n c xs k → Calls tz 149 #[.slice A n c, .int .i64 a] W (fun e w' => e = .returned (.int .i64 (L1 : Int)) ∧ w' = W)) := by
     intro W h
     have := many_any h a (by have := HNN.out.1; omega)
     rw [hL1] at this
     exact this
    have HML2 : Hid (∀ W, IsV W B m d ys k → Calls tz 149 #[.slice B m d, .int .i64 a] W (fun e w' => e = .returned (.int .i64 (L2 : Int)) ∧ w' = W)) := by
     intro W h
     have := many_any h a (by have := HNN.out.2; omega)
     rw [hL2] at this
     exact this
    clear h0 hS hne hnv ha hL1 hL2
    go_wp2_with fail
    refine HFC.out.mono ?_
    rintro e w3 ⟨rfl, hb3⟩
    have HX3 := lh (HXR.out.below hb3)
    have HY3 := lh (HYR.out.below hb3)
    have HST3 := lh (HVP.out.keep _ _ _ _ HWS.out.st hb3)
    clear hb3 HXR HYR HFC
    go_wp2_with fail
    refine (HML1.out _ HX3.out).mono ?_
    rintro e w4 ⟨rfl, rfl⟩
    go_wp2_with fail
    refine (HML2.out _ HY3.out).mono ?_
    rintro e w5 ⟨rfl, rfl⟩
    clear HML1 HML2
    go_upto_region 5 with fail
    obtain ⟨A0, hA0⟩ : ∃ A0, (if c = 0 then A else A.map (·.add (0 * 5))) = A0 := ⟨_, rfl⟩
    obtain ⟨B0, hB0⟩ : ∃ B0, (if d = 0 then B else B.map (·.add (0 * 5))) = B0 := ⟨_, rfl⟩
    have r1 : ∀ W : World, (Instr.slice 22 (.slice A n c) none (some (.int .i64 (L1 : Int))) none).run tz W = .ok (.slice A0 L1 c) W := by intro W; rw [← hA0]; exact run_st W A n c L1 (lT HL1.out HCX.out)
    have r2 : ∀ W : World, (Instr.slice 22 (.slice B m d) none (some (.int .i64 (L2 : Int))) none).run tz W = .ok (.slice B0 L2 d) W := by intro W; rw [← hB0]; exact run_st W B m d L2 (lT HL2.out HCY.out)
    have HXT : Hid (IsV w5 A0 L1 c (xs.take L1) k) := by show IsV _ _ _ _ _ _; rw [← hA0]; exact HX3.out.st L1 HL1.out
    have HYT : Hid (IsV w5 B0 L2 d (ys.take L2) k) := by show IsV _ _ _ _ _ _; rw [← hB0]; exact HY3.out.st L2 HL2.out
    have HSM1 : Hid (∀ W, IsV W A0 L1 c (xs.take L1) k → Calls tz 96 #[.slice A0 L1 c] W (RetA W (tot X a) 700)) := by
     intro W h
     have := sum_any h HK.out (by have := HL1.out; have := HNN.out.1; omega) (short_part HSX1.out HWS.out.len.1 HWS.out.sub.1 L1)
     rw [vals_take, HE1.out] at this
     exact this
    have HSM2 : Hid (∀ W, IsV W B0 L2 d (ys.take L2) k → Calls tz 96 #[.slice B0 L2 d] W (RetA W (tot Y a) 700)) := by
     intro W h
     have := sum_any h HK.out (by have := HL2.out; have := HNN.out.2; omega) (short_part HSY1.out HWS.out.len.2.1 HWS.out.sub.2 L2)
     rw [vals_take, HE2.out] at this
     exact this
    obtain ⟨vx, hvx⟩ : ∃ v, tot X a = v := ⟨_, rfl⟩
    obtain ⟨vy, hvy⟩ : ∃ v, tot Y a = v := ⟨_, rfl⟩
    obtain ⟨bb, hbb⟩ : ∃ v, cont vx vy = v := ⟨_, rfl⟩
    have HCL : Hid (∀ W (sv : Bool) (Av : Option Addr) (nv cv : Nat) (tv : Bool) (Bv : Option Addr) (mv dv : Nat) (sw : Bool) (Aw : Option Addr) (nw cw : Nat) (tw : Bool) (Bw : Option Addr) (mw dw : Nat), St w2 W D → IsQ W sv Av nv cv tv Bv mv dv vx 700 → IsQ W sw Aw nw cw tw Bw mw dw vy 700 → Calls tz g (#[.int .i64 a, .agg #[.bool sv, .slice Av nv cv, .bool tv, .slice Bv mv dv], .agg #[.bool sw, .slice Aw nw cw, .bool tw, .slice Bw mw dw]] ++ cb) W (fun e wy => e = .returned (.bool bb) ∧ St w2 wy (D ++ [(a, vx, vy)]))) := by
     intro W sv Av nv cv tv Bv mv dv sw Aw nw cw tw Bw mw dw h1 h2 h3
     rw [← hvx] at h2
     rw [← hvy] at h3
     have h := HVP.out.call w2 W D a sv Av nv cv tv Bv mv dv sw Aw nw cw tw Bw mw dw h1 (by have h4 := HWS.out.len.2.2; have h5 := HSS.out; omega) h2 h3 HAB.out.1 HAB.out.2 HGT.out (HWS.out.on rfl)
     rw [hvx, hvy, hbb] at h
     exact h
    rw [hvx, hvy] at HGS
    rw [hvx] at HSM1
    rw [hvy] at HSM2
    have HBB := lh hbb
    have HVX := lh hvx
    have HVY := lh hvy
    have eg := HVP.out.eg
    clear hA0 hB0 HE1 HE2 hvx hvy hbb
    replace HXT := lh (HXT.out.below ((bR _ _).drew))
    replace HYT := lh (HYT.out.below ((bR _ _).drew))
    replace HST3 := lh (HVP.out.keep _ _ _ _ HST3.out ((bR _ _).drew))
    refine wp_region_held_drew (S := fun _ => True) (by kernel_rfl) trivial (fun hHeld => ?_)
    refine' tK 0 ?_
    try simp only [gY, gZ, aP, sT, sZ, sS]
    refine' tK 1 ?_
    try simp only [gY, gZ, gJ, aP, sT, sZ, sS]
    refine' tK 2 ?_
    try simp only [gY, gZ, gJ, aP, sT, sZ, sS]
    refine' tK 3 ?_
    try simp only [gY, gZ, gJ, aP, sT, sZ, sS]
    refine' tK 4 ?_
    try simp only [gY, gZ, gJ, aP, sT, sZ, sS]
    refine' tK 6 ?_
    try simp only [gY, gZ, gJ, aP, sT, sZ, sS]
    refine' tK 7 ?_
    try simp only [gY, gZ, gJ, aP, sT, sZ, sS]
    refine' tK 8 ?_
    try simp only [gY, gZ, gJ, aP, sT, sZ, sS]
    refine rQ 5 (fun K hK => ?_)
    try simp only [gY, gZ, gJ]
    go_simp
    with_reducible refine (HSM1.out _ HXT.out).mono ?_
    rintro e w6 ⟨sv, Av, nv, cv, tv, Bv, mv, dv, rfl, hq, hbx⟩
    have HQV := lh hq
    replace HYT := lh (HYT.out.below hbx)
    replace HST3 := lh (HVP.out.keep _ _ _ _ HST3.out hbx)
    clear hq hbx HXT HSM1
    refine hK.out _ _ trivial (fun hHeld => ?_)
    clear hK K
    try simp only [aP, sT, sZ, sS]
    refine rQ 9 (fun K hK => ?_)
    try simp only [gY, gZ, gJ]
    go_simp
    with_reducible refine (HSM2.out _ HYT.out).mono ?_
    rintro e w7 ⟨sw, Aw, nw, cw, tw, Bw, mw, dw, rfl, hq, hbx⟩
    have HQW := lh hq
    replace HQV := lh (HQV.out.below hbx)
    replace HST3 := lh (HVP.out.keep _ _ _ _ HST3.out hbx)
    clear hq hbx HYT HSM2
    refine hK.out _ _ trivial (fun hHeld => ?_)
    clear hK K
    try simp only [aP, sT, sZ, sS]
    refine rQ 10 (fun K hK => ?_)
    try simp only [gY, gZ, gJ]
    go_simp
    with_reducible refine (HCL.out _ sv Av nv cv tv Bv mv dv sw Aw nw cw tw Bw mw dw HST3.out HQV.out HQW.out).mono ?_
    rintro e w8 ⟨rfl, hst⟩
    have HST := lh hst
    clear hst HST3 HQV HQW HCL eg
    refine hK.out _ _ trivial (fun hHeld => ?_)
    clear hK K
    try simp only [aP, sT, sZ, sS]
    refine' tK 11 ?_
    try simp only [gY, gZ, gJ, aP, sT, sZ, sS]
    refine wpAnyH_done (by kernel_rfl) ?_ _
    obtain ⟨A2, hA2⟩ : ∃ A2, (if c = L1 then A else A.map (·.add (L1 * 5))) = A2 := ⟨_, rfl⟩
    obtain ⟨B2, hB2⟩ : ∃ B2, (if d = L2 then B else B.map (·.add (L2 * 5))) = B2 := ⟨_, rfl⟩
    obtain ⟨n2, hn2⟩ : ∃ n2, n - L1 = n2 := ⟨_, rfl⟩
    obtain ⟨m2, hm2⟩ : ∃ m2, m - L2 = m2 := ⟨_, rfl⟩
    obtain ⟨c2, hc2⟩ : ∃ c2, c - L1 = c2 := ⟨_, rfl⟩
    obtain ⟨d2, hd2⟩ : ∃ d2, d - L2 = d2 := ⟨_, rfl⟩
    have q1 : ∀ W : World, (Instr.slice 22 (.slice A n c) (some (.int .i64 (L1 : Int))) none none).run tz W = .ok (.slice A2 n2 c2) W := by intro W; rw [← hA2, ← hn2, ← hc2]; exact run_sl W A n c L1 HL1.out
    have q2 : ∀ W : World, (Instr.slice 22 (.slice B m d) (some (.int .i64 (L2 : Int))) none none).run tz W = .ok (.slice B2 m2 d2) W := by intro W; rw [← hB2, ← hm2, ← hd2]; exact run_sl W B m d L2 HL2.out
    have HWN : Hid (∀ W, St w2 W (D ++ [(a, vx, vy)]) → WS w2 Own X Y St cont k N A2 n2 c2 B2 m2 d2 bb W (xs.drop L1) (ys.drop L2) (D ++ [(a, vx, vy)])) := by
     intro W hW
     have hws := HWS.out
     have g1 := HL1.out
     have g2 := HL2.out
     have g3 := HLD.out
     have g4 := hws.len
     refine ⟨hW, ?_, ?_, ?_, ?_, by rw [vals_drop, vals_drop]; exact HGS.out, ⟨fun t ht => hws.sub.1 t (by rw [vals_drop] at ht; exact List.mem_of_mem_drop ht), fun t ht => hws.sub.2 t (by rw [vals_drop] at ht; exact List.mem_of_mem_drop ht)⟩, ⟨by rw [List.length_drop]; omega, by rw [List.length_drop]; omega, by rw [List.length_append, List.length_singleton]; omega⟩, ?_, ?_⟩
     ·rw [← hA2, ← hn2, ← hc2]; exact hws.x.sl L1 g1
     ·rw [← hB2, ← hm2, ← hd2]; exact hws.y.sl L2 g2
     ·rw [← hA2]; exact hws.ox.sl _ _ _
     ·rw [← hB2]; exact hws.oy.sl _ _ _
     ·intro hb s hs
      rcases List.mem_append.1 hs with hs | hs
      ·exact hws.on rfl s hs
      ·rw [List.mem_singleton.1 hs]
       show cont vx vy = true
       rw [HBB.out, hb]
     ·intro hb
      exact ⟨_, List.mem_append_right _ (List.mem_singleton.2 rfl), HVX.out.symm, HVY.out.symm, by show cont vx vy = false; rw [HBB.out, hb]⟩
    have HMS : Hid (n2 + m2 < n + m) := by have g1 := HL1.out; have g2 := HL2.out; have g3 := HLD.out; show _ < _; omega
    clear hA2 hB2 hn2 hm2 hc2 hd2 r1 r2
    go_upto_region 6 with fail
    refine wp_region_held_drew (S := fun _ => True) (by kernel_rfl) trivial (fun hHeld => ?_)
    refine' tK 0 ?_
    try simp only [gY, gZ, aP, sT, sZ, sS]
    refine' tK 1 ?_
    try simp only [gY, gZ, gJ, aP, sT, sZ, sS]
    refine' tK 2 ?_
    try simp only [gY, gZ, gJ, aP, sT, sZ, sS]
    refine' tK 3 ?_
    try simp only [gY, gZ, gJ, aP, sT, sZ, sS]
    refine' tK 4 ?_
    try simp only [gY, gZ, gJ, aP, sT, sZ, sS]
    refine' tK 5 ?_
    try simp only [gY, gZ, gJ, aP, sT, sZ, sS]
    refine' tK 6 ?_
    try simp only [gY, gZ, gJ]
    try simp only [aP, sT, sZ]
    refine' tK 7 ?_
    try simp only [gY, gZ, gJ, aP, sT, sZ, sS]
    refine wpAnyH_done (by kernel_rfl) ?_ _
    go_wp2_with fail
    go_roundw
    case rel => exact ⟨A2, n2, c2, B2, m2, d2, bb, _, _, _, rfl, rfl, rfl, HWN.out _ (HVP.out.keep _ _ _ _ HST.out ((bR _ _).drew))⟩
    case measure => (show lenV (.slice A2 n2 c2) + lenV (.slice B2 m2 d2) < lenV (.slice A n c) + lenV (.slice B m d); exact HMS.out)
end V

namespace V
open Go.RowKit
open Q (IsQ OneQ RetQ below_on ql Qbx)
structure Do (w : World) (g : FuncId) (cb : Array Value) (f : Rat → Rat → Rat) (ok : Rat → Rat → Prop) : Prop where
 eg : ∀ args w, (callFunc g args).run tz w = .ok (.enter g args) w
 call : ∀ W (sv : Bool) (Av : Option Addr) (nv cv : Nat) (tv : Bool) (Bv : Option Addr) (mv dv : Nat) (sw : Bool) (Aw : Option Addr) (nw cw : Nat) (tw : Bool) (Bw : Option Addr) (mw dw : Nat) p r, Below w.heap.size w W → IsQ W sv Av nv cv tv Bv mv dv p 700 → IsQ W sw Aw nw cw tw Bw mw dw r 700 → ok p r → Calls tz g (#[.agg #[.bool sv, .slice Av nv cv, .bool tv, .slice Bv mv dv], .agg #[.bool sw, .slice Aw nw cw, .bool tw, .slice Bw mw dw]] ++ cb) W (Q.RetQ W (f p r))
 short : ∀ p r, ok p r → ql (f p r) ≤ 3000
structure JB (W : World) (gF g8 gP gO : Nat) (g : FuncId) (cb : Array Value) : Prop where
 f : W.heap[gF]? = some (.cells #[.func (.func g) #[] cb] 106 (0, 0))
 p : W.heap[g8]? = some (.cells #[.func (.func 169) #[] #[.pointer (some ⟨gP, 0, none⟩)]] 152 (0, 0))
 o : W.heap[gP]? = some (.cells #[.pointer (some ⟨gO, 0, none⟩)] 154 (0, 0))
theorem JB.near {Own : Nat → Prop} {W W' : World} {gF g8 gP gO : Nat} {g : FuncId} {cb : Array Value} (h : JB W gF g8 gP gO g cb) (hn : Near Own W W') (h1 : ¬ Own gF) (h2 : ¬ Own g8) (h3 : ¬ Own gP) : JB W' gF g8 gP gO g cb :=
 ⟨(hn.block gF (lt_of_block h.f) h1).trans h.f, (hn.block g8 (lt_of_block h.p) h2).trans h.p, (hn.block gP (lt_of_block h.o) h3).trans h.o⟩
theorem JB.below {W W' : World} {gF g8 gP gO : Nat} {g : FuncId} {cb : Array Value} (h : JB W gF g8 gP gO g cb) (hb : Below W.heap.size W W') : JB W' gF g8 gP gO g cb :=
 ⟨(hb.block gF (lt_of_block h.f)).trans h.f, (hb.block g8 (lt_of_block h.p)).trans h.p, (hb.block gP (lt_of_block h.o)).trans h.o⟩
set_option maxRecDepth 100000 in
set_option maxHeartbeats 4000000 in
theorem visit_any {w wl wx : World} {gF g8 gP gO r0 : Nat} {g : FuncId} {cb : Array Value} {f : Rat → Rat → Rat} {ok : Rat → Rat → Prop} {l : List (Int × Rat)} {a : Int} {sv : Bool} {Av : Option Addr} {nv cv : Nat} {tv : Bool} {Bv : Option Addr} {mv dv : Nat} {sw : Bool} {Aw : Option Addr} {nw cw : Nat} {tw : Bool} {Bw : Option Addr} {mw dw : Nat} {p r : Rat} (hd : Do w g cb f ok) (hb : Below w.heap.size w wx) (hj0 : JB wl gF g8 gP gO g cb) (ho : OutV wl wx gO r0 l) (hgO : gO < wl.heap.size) (hF : gF ≠ gO ∧ gF ≠ r0 ∧ g8 ≠ gO ∧ g8 ≠ r0) (hPO : gP ≠ gO) (hPr : gP ≠ r0) (hne : gO ≠ r0) (ha : -9223372036854775808 ≤ a ∧ a ≤ 9223372036854775807) (hp : IsQ wx sv Av nv cv tv Bv mv dv p 700) (hr : IsQ wx sw Aw nw cw tw Bw mw dw r 700) (hok : ok p r) (hlen : l.length ≤ 10000000) :
  Calls tz 131 #[.int .i64 a, .agg #[.bool sv, .slice Av nv cv, .bool tv, .slice Bv mv dv], .agg #[.bool sw, .slice Aw nw cw, .bool tw, .slice Bw mw dw], .pointer (some ⟨g8, 0, none⟩), .pointer (some ⟨gF, 0, none⟩)] wx (fun e wy => e = .returned (.bool true) ∧ OutV wl wy gO r0 (if f p r = 0 then l else l ++ [(a, f p r)])) := by
 have hno : ¬ (gF = gO ∨ gF = r0) ∧ ¬ (g8 = gO ∨ g8 = r0) ∧ ¬ (gP = gO ∨ gP = r0) := ⟨fun h => h.elim hF.1 hF.2.1, fun h => h.elim hF.2.2.1 hF.2.2.2, fun h => h.elim hPO hPr⟩
 have HNO := lh hno
 have hj : JB wx gF g8 gP gO g cb := hj0.near ho.near hno.1 hno.2.1 hno.2.2
 have HJL := lh hj0
 have hgP : gP < wl.heap.size := lt_of_block hj0.o
 obtain ⟨W0, hW0⟩ : ∃ W, ((wx.alloc (.cells #[.bool sv, .slice Av nv cv, .bool tv, .slice Bv mv dv] 27)).alloc (.cells #[.bool sw, .slice Aw nw cw, .bool tw, .slice Bw mw dw] 27)) = W := ⟨_, rfl⟩
 have HB0 : Hid (Below wx.heap.size wx W0) := by rw [← hW0]; exact ((bR _ _).alloc (lR _) _).alloc (by simp) _
 have HX0 : Hid (Qbx W0 wx.heap.size sv Av nv cv tv Bv mv dv) := by rw [← hW0]; exact (Qbx.new _ _ rfl).alloc _
 have HY0 : Hid (Qbx W0 (wx.heap.size + 1) sw Aw nw cw tw Bw mw dw) := by rw [← hW0]; exact Qbx.new _ _ (by simp)
 have HD := lh hd
 have eg := hd.eg
 have HBW := lh hb
 have HJ := lh hj
 have HO := lh ho
 have HF : Hid (gO < wl.heap.size ∧ gP < wl.heap.size ∧ gP ≠ gO ∧ gP ≠ r0 ∧ gO ≠ r0) := ⟨hgO, hgP, hPO, hPr, hne⟩
 have HA := lh ha
 have HP := lh hp
 have HR := lh hr
 have HOK := lh hok
 have HLEN := lh hlen
 obtain ⟨v, hv⟩ : ∃ v, f p r = v := ⟨_, rfl⟩
 have HV := lh hv
 rw [hv]
 obtain ⟨L, hL⟩ : ∃ L, (if v = 0 then l else l ++ [(a, v)]) = L := ⟨_, rfl⟩
 have HL := lh hL
 rw [hL]
 clear hno hj0 hF hd hb hj ho hgO hgP hPO hPr hne ha hp hr hok hlen hv hL
 go_enter Tryz.func131, Tryz.ntmps131
 go_upto_region 1 with fail
 clear hW0
 obtain ⟨W1, hW1⟩ : ∃ W, W0.drew = W := ⟨_, rfl⟩
 have HB1 : Hid (Below wx.heap.size wx W1) := by rw [← hW1]; exact HB0.out.drew
 have HD1 : Hid (Below W0.heap.size W0 W1) := by rw [← hW1]; exact (bR _ _).drew
 have HJ1 := lh (HJ.out.below HB1.out)
 have HX1 := lh (HX0.out.below HD1.out)
 have HY1 := lh (HY0.out.below HD1.out)
 have HK1 : Hid (W1.cell? ⟨g8, 0, none⟩ = some (.func (.func 169) #[] #[.pointer (some ⟨gP, 0, none⟩)]) ∧ W1.cell? ⟨gF, 0, none⟩ = some (.func (.func g) #[] cb)) := ⟨by rw [cell_of_row W1 g8 0 _ _ _ HJ1.out.p]; rfl, by rw [cell_of_row W1 gF 0 _ _ _ HJ1.out.f]; rfl⟩
 refine wp_region_held_drew (S := (fun V : World => V.cell? ⟨g8, 0, none⟩ = some (.func (.func 169) #[] #[.pointer (some ⟨gP, 0, none⟩)]) ∧ V.cell? ⟨gF, 0, none⟩ = some (.func (.func g) #[] cb))) (by kernel_rfl) (by rw [hW1]; with_reducible exact HK1.out) (fun hHeld => ?_)
 rw [hW1] at hHeld ⊢
 clear hW1
 refine' tK 0 ?_
 try simp only [gY, gZ, aP, sT, sZ, sS]
 refine' tK 1 ?_
 try simp only [gY, gZ, gJ, aP, sT, sZ, sS]
 refine' tK 2 ?_
 try simp only [gY, gZ, gJ, aP, sT, sZ, sS]
 refine wpAnyH_ready (rs := [3, 4]) (by kernel_rfl) (by simp) ?_
 refine AllReadyH.cons rfl (fun K hK => ?_) (AllReadyH.cons rfl (fun K hK => ?_) AllReadyH.nil)
 ·try simp only [gY, gZ, gJ]
  have v0 := HX1.out.c0
  have v1 := HX1.out.c1
  have v2 := HX1.out.c2
  have v3 := HX1.out.c3
  have vf0 := HX1.out.f 0
  have vf1 := HX1.out.f 1
  have vf2 := HX1.out.f 2
  have vf3 := HX1.out.f 3
  go_simp
  clear v0 vf0 v1 vf1 v2 vf2 v3 vf3
  refine hK.out _ _ (by with_reducible exact HK1.out) (fun hHeld => ?_)
  clear hK K
  try simp only [aP, sT, sZ, sS]
  refine rQ 4 (fun K hK => ?_)
  try simp only [gY, gZ, gJ]
  have v0 := HY1.out.c0
  have v1 := HY1.out.c1
  have v2 := HY1.out.c2
  have v3 := HY1.out.c3
  have vf0 := HY1.out.f 0
  have vf1 := HY1.out.f 1
  have vf2 := HY1.out.f 2
  have vf3 := HY1.out.f 3
  go_simp
  clear v0 vf0 v1 vf1 v2 vf2 v3 vf3
  refine hK.out _ _ (by with_reducible exact HK1.out) (fun hHeld => ?_)
  clear hK K
  try simp only [aP, sT, sZ, sS]
  refine rQ 5 (fun K hK => ?_)
  try simp only [gY, gZ, gJ]
  go_simp
  with_reducible refine (HD.out.call W1 sv Av nv cv tv Bv mv dv sw Aw nw cw tw Bw mw dw p r (below_on HBW.out HB1.out) (HP.out.below HB1.out) (HR.out.below HB1.out) HOK.out).mono ?_
  rintro e W2 ⟨s8, A8, n8, c8, t8, B8, m8, d8, rfl, hq, hbx⟩
  rw [HV.out] at hq
  have HB2 := lh (below_on HB1.out hbx)
  have HQ2 := lh hq
  have HJ2 := lh (HJ1.out.below hbx)
  have HX2 := lh (HX1.out.below hbx)
  have HY2 := lh (HY1.out.below hbx)
  have HK2 : Hid (W2.cell? ⟨g8, 0, none⟩ = some (.func (.func 169) #[] #[.pointer (some ⟨gP, 0, none⟩)]) ∧ W2.cell? ⟨gF, 0, none⟩ = some (.func (.func g) #[] cb)) := ⟨by rw [cell_of_row W2 g8 0 _ _ _ HJ2.out.p]; rfl, by rw [cell_of_row W2 gF 0 _ _ _ HJ2.out.f]; rfl⟩
  have HO2 := lh (HO.out.below HB2.out)
  have HGX : Hid (wl.heap.size ≤ wx.heap.size) := HO.out.near.size
  clear hq hbx HK1 HJ1 HX1 HY1
  refine hK.out _ _ (by with_reducible exact HK2.out) (fun hHeld => ?_)
  clear hK K eg
  try simp only [aP, sT, sZ, sS]
  refine rQ 6 (fun K hK => ?_)
  try simp only [gY, gZ, gJ]
  go_simp
  with_reducible refine (put_any HJ2.out.o HO2.out HF.out.1 HF.out.2.1 HF.out.2.2.1 HF.out.2.2.2.1 HF.out.2.2.2.2 HA.out HQ2.out (by have h := HD.out.short p r HOK.out; rw [HV.out] at h; exact h) HLEN.out).mono ?_
  rintro e W3 ⟨rfl, ho3⟩
  have HJ3 := lh (HJL.out.near ho3.near HNO.out.1 HNO.out.2.1 HNO.out.2.2)
  have HK3 : Hid (W3.cell? ⟨g8, 0, none⟩ = some (.func (.func 169) #[] #[.pointer (some ⟨gP, 0, none⟩)]) ∧ W3.cell? ⟨gF, 0, none⟩ = some (.func (.func g) #[] cb)) := ⟨by rw [cell_of_row W3 g8 0 _ _ _ HJ3.out.p]; rfl, by rw [cell_of_row W3 gF 0 _ _ _ HJ3.out.f]; rfl⟩
  have HO3 : Hid (OutV wl W3 gO r0 L) := by
   show OutV wl W3 gO r0 L
   rw [← HL.out]; exact ho3
  clear ho3
  refine hK.out _ _ (by with_reducible exact HK3.out) (fun hHeld => ?_)
  clear hK K
  try simp only [aP, sT, sZ, sS]
  refine wpAnyH_done (by kernel_rfl) ?_ _
  go_wp2_with fail
  exact ⟨rfl, .bool true, by simp [results, Tryz.results131, go_sem], rfl, HO3.out⟩
 ·try simp only [gY, gZ, gJ]
  have v0 := HY1.out.c0
  have v1 := HY1.out.c1
  have v2 := HY1.out.c2
  have v3 := HY1.out.c3
  have vf0 := HY1.out.f 0
  have vf1 := HY1.out.f 1
  have vf2 := HY1.out.f 2
  have vf3 := HY1.out.f 3
  go_simp
  clear v0 vf0 v1 vf1 v2 vf2 v3 vf3
  refine hK.out _ _ (by with_reducible exact HK1.out) (fun hHeld => ?_)
  clear hK K
  try simp only [aP, sT, sZ, sS]
  refine rQ 3 (fun K hK => ?_)
  try simp only [gY, gZ, gJ]
  have v0 := HX1.out.c0
  have v1 := HX1.out.c1
  have v2 := HX1.out.c2
  have v3 := HX1.out.c3
  have vf0 := HX1.out.f 0
  have vf1 := HX1.out.f 1
  have vf2 := HX1.out.f 2
  have vf3 := HX1.out.f 3
  go_simp
  clear v0 vf0 v1 vf1 v2 vf2 v3 vf3
  refine hK.out _ _ (by with_reducible exact HK1.out) (fun hHeld => ?_)
  clear hK K
  try simp only [aP, sT, sZ, sS]
  refine rQ 5 (fun K hK => ?_)
  try simp only [gY, gZ, gJ]
  go_simp
  with_reducible refine (HD.out.call W1 sv Av nv cv tv Bv mv dv sw Aw nw cw tw Bw mw dw p r (below_on HBW.out HB1.out) (HP.out.below HB1.out) (HR.out.below HB1.out) HOK.out).mono ?_
  rintro e W2 ⟨s8, A8, n8, c8, t8, B8, m8, d8, rfl, hq, hbx⟩
  rw [HV.out] at hq
  have HB2 := lh (below_on HB1.out hbx)
  have HQ2 := lh hq
  have HJ2 := lh (HJ1.out.below hbx)
  have HX2 := lh (HX1.out.below hbx)
  have HY2 := lh (HY1.out.below hbx)
  have HK2 : Hid (W2.cell? ⟨g8, 0, none⟩ = some (.func (.func 169) #[] #[.pointer (some ⟨gP, 0, none⟩)]) ∧ W2.cell? ⟨gF, 0, none⟩ = some (.func (.func g) #[] cb)) := ⟨by rw [cell_of_row W2 g8 0 _ _ _ HJ2.out.p]; rfl, by rw [cell_of_row W2 gF 0 _ _ _ HJ2.out.f]; rfl⟩
  have HO2 := lh (HO.out.below HB2.out)
  have HGX : Hid (wl.heap.size ≤ wx.heap.size) := HO.out.near.size
  clear hq hbx HK1 HJ1 HX1 HY1
  refine hK.out _ _ (by with_reducible exact HK2.out) (fun hHeld => ?_)
  clear hK K eg
  try simp only [aP, sT, sZ, sS]
  refine rQ 6 (fun K hK => ?_)
  try simp only [gY, gZ, gJ]
  go_simp
  with_reducible refine (put_any HJ2.out.o HO2.out HF.out.1 HF.out.2.1 HF.out.2.2.1 HF.out.2.2.2.1 HF.out.2.2.2.2 HA.out HQ2.out (by have h := HD.out.short p r HOK.out; rw [HV.out] at h; exact h) HLEN.out).mono ?_
  rintro e W3 ⟨rfl, ho3⟩
  have HJ3 := lh (HJL.out.near ho3.near HNO.out.1 HNO.out.2.1 HNO.out.2.2)
  have HK3 : Hid (W3.cell? ⟨g8, 0, none⟩ = some (.func (.func 169) #[] #[.pointer (some ⟨gP, 0, none⟩)]) ∧ W3.cell? ⟨gF, 0, none⟩ = some (.func (.func g) #[] cb)) := ⟨by rw [cell_of_row W3 g8 0 _ _ _ HJ3.out.p]; rfl, by rw [cell_of_row W3 gF 0 _ _ _ HJ3.out.f]; rfl⟩
  have HO3 : Hid (OutV wl W3 gO r0 L) := by
   show OutV wl W3 gO r0 L
   rw [← HL.out]; exact ho3
  clear ho3
  refine hK.out _ _ (by with_reducible exact HK3.out) (fun hHeld => ?_)
  clear hK K
  try simp only [aP, sT, sZ, sS]
  refine wpAnyH_done (by kernel_rfl) ?_ _
  go_wp2_with fail
  exact ⟨rfl, .bool true, by simp [results, Tryz.results131, go_sem], rfl, HO3.out⟩
end V

namespace V
open Go.RowKit
open Q (IsQ OneQ RetQ below_on ql Qbx)
theorem behind_any (W : World) (gO : Nat) :
  Calls tz 130 #[.pointer (some ⟨gO, 0, none⟩)] W (fun e w' => e = .returned (.func (.func 169) #[] #[.pointer (some ⟨W.heap.size, 0, none⟩)]) ∧ w' = W.alloc (.cells #[.pointer (some ⟨gO, 0, none⟩)] 154)) := by
 go_enter Tryz.func130, Tryz.ntmps130
 go_wp2_with fail
 exact ⟨rfl, .func (.func 169) #[] #[.pointer (some ⟨W.heap.size, 0, none⟩)], by simp [results, Tryz.results130, go_sem], rfl, rfl⟩
def RetV (w : World) (P : List (Int × Rat) → Prop) (e : Ending) (w' : World) : Prop :=
 ∃ (g n c : Nat) (zs : List (TV × Rat)), e = .returned (.slice (some ⟨g, 0, none⟩) n c) ∧ OwnT w' 0 (.slice (some ⟨g, 0, none⟩) n c) (zs.map Prod.fst) ∧ w.heap.size ≤ g ∧ P (vals zs) ∧ (∀ y ∈ zs, OneQ w' y.1.s y.1.A y.1.n y.1.c y.1.t y.1.B y.1.m y.1.d y.2 ∧ -9223372036854775808 ≤ y.1.at_ ∧ y.1.at_ ≤ 9223372036854775807) ∧ Below w.heap.size w w'
theorem info_t5 : (Tryz.prog.info? 67).map (fun i => (i.zero, i.size, i.bytes)) = some (some zeroT, 5, 72) := by kernel_rfl
theorem made_no (n j : Nat) : ∀ u, (madeCells zeroT.cells n)[j]? = some u → ∀ z, u ≠ Value.int .u64 z := by
 intro u hu
 have h := Array.mem_of_getElem? hu
 unfold madeCells at h
 obtain ⟨i, _, rfl⟩ := Array.mem_map.1 h
 have e : zeroT.cells = #[.int .i64 0, .bool false, .slice none 0 0, .bool false, .slice none 0 0] := rfl
 have hi : i % zeroT.cells.size < 5 := by rw [e]; exact Nat.mod_lt _ (by decide)
 generalize i % zeroT.cells.size = k at hi
 rw [e]
 intro z
 match k, hi with
 | 0, _ => intro h; cases h
 | 1, _ => intro h; cases h
 | 2, _ => intro h; cases h
 | 3, _ => intro h; cases h
 | 4, _ => intro h; cases h
theorem make_v (w : World) (M : Nat) (hM : M ≤ 2000000) : ∃ W, (Instr.makeSlice 33 (.int .i64 0) (.int .i64 (M : Int))).run tz w = .ok (.slice (some ⟨w.heap.size, 0, none⟩) 0 M) W ∧ W = w.alloc (.cells (madeCells zeroT.cells (M * 5)) 67) ∧ OwnT W 0 (.slice (some ⟨w.heap.size, 0, none⟩) 0 M) [] := by
 obtain ⟨i, hi, hz, hs, hb⟩ := info_parts info_t5
 have under : Tryz.prog.underlying 33 = some (.slice 67) := by kernel_rfl
 have hr := run_make (P := tz) w 33 67 i zeroT under hi hz .i64 .i64 0 (M : Int) (Int.le_refl _) (by omega) (by rw [hb]; omega) (by omega)
 simp only [Int.toNat_zero, Int.toNat_natCast, hs] at hr
 refine ⟨_, hr, rfl, World.ownsRow_made w _ M (Nat.zero_le _) (by unfold maxLen; omega) (size_madeCells _ _), ?_, _, _, _, rfl⟩
 intro g hg j u hj
 obtain rfl : w.heap.size = g := oI hg
 rw [cell_of_row _ _ j _ _ _ (heap_alloc_new w _)] at hj
 exact made_no _ j u hj
theorem OutV.ret {w wl wx : World} {gO r0 : Nat} {l : List (Int × Rat)} {P : List (Int × Rat) → Prop} (h : OutV wl wx gO r0 l) (hb : Below w.heap.size w wl) (ho : w.heap.size ≤ gO) (hr : w.heap.size ≤ r0) (hp : P l) :
  ∃ v, wx.cell? ⟨gO, 0, none⟩ = some v ∧ RetV w P (.returned v) wx := by
 obtain ⟨v, zs, h1, h2, h3, h4, h5⟩ := h.ex
 obtain ⟨g, n, c, rfl⟩ := h2.some_
 refine ⟨_, by rw [cell_of_row _ _ 0 _ _ _ h1]; rfl, g, n, c, zs, rfl, h2, ?_, h3 ▸ hp, h4, h.near.new hb (fun b hb2 => by rcases hb2 with rfl | rfl; exact ho; exact hr)⟩
 rcases h5 with h5 | ⟨g', h5, h6⟩
 ·obtain rfl : g = r0 := oI h5
  exact hr
 ·obtain rfl : g = g' := oI h5
  exact lT hb.size h6
theorem through_all {X Y : List (Int × Rat)} {D : List (Int × Rat × Rat)} (h : Through X Y (fun _ _ => true) D) : Gone X Y D := by
 rcases h with ⟨h, _⟩ | ⟨s, _, _, _, h⟩
 ·exact h
 ·cases h
theorem kept_len (f : Rat → Rat → Rat) (D : List (Int × Rat × Rat)) : (kept f D).length ≤ D.length := by
 induction D with
 | nil => exact lR _
 | cons a D ih =>
  obtain ⟨a, v, w⟩ := a
  unfold kept
  split
  ·exact Nat.le_succ_of_le ih
  ·exact Nat.succ_le_succ ih
theorem joined_visit {w W : World} {gF g8 gP gO r0 M : Nat} {g : FuncId} {cb : Array Value} {f : Rat → Rat → Rat} {ok : Rat → Rat → Prop} {X Y : List (Int × Rat)} {N : Nat} (hd : Do w g cb f ok) (hb : Below w.heap.size w W) (hj : JB W gF g8 gP gO g cb) (hgO : W.heap[gO]? = some (.cells #[.slice (some ⟨r0, 0, none⟩) 0 M] 33 (0, 0))) (hown : OwnT W 0 (.slice (some ⟨r0, 0, none⟩) 0 M) []) (hF : gF ≠ gO ∧ gF ≠ r0 ∧ g8 ≠ gO ∧ g8 ≠ r0 ∧ gP ≠ gO ∧ gP ≠ r0 ∧ gO ≠ r0) (hwO : w.heap.size ≤ gO) (hwr : w.heap.size ≤ r0) (hok : ∀ a, ok (tot X a) (tot Y a)) (hN : N ≤ 2000000) :
  Visit 131 #[.pointer (some ⟨g8, 0, none⟩), .pointer (some ⟨gF, 0, none⟩)] W (fun b => b = gO ∨ b = r0) X Y N (fun wl wx D => Below W.heap.size W wl ∧ OutV wl wx gO r0 (kept f D)) (fun _ _ => true) where
 eg := enters_of Tryz.func131 (by kernel_rfl) rfl
 own b hb := by
  rcases hb with rfl | rfl
  ·exact lt_of_block hgO
  ·exact hown.lt rfl
 dig b hb := by
  rcases hb with rfl | rfl
  ·intro i v hv z
   rw [cell_of_row _ _ i _ _ _ hgO] at hv
   match i with
   | 0 => obtain rfl := oI hv; intro h; cases h
   | i + 1 => simp at hv
  ·exact hown.all _ rfl
 start wl hl := ⟨hl, ⟨Near.refl _ _, .slice (some ⟨r0, 0, none⟩) 0 M, [], (hl.block gO (lt_of_block hgO)).trans hgO, hown.keep (fun g hg => hl.block g (hown.lt hg)), rfl, by simp, .inl rfl⟩⟩
 near wl wx D h := h.2.near
 keep wl wx wy D h hy := ⟨h.1, h.2.below hy⟩
 call wl wx D a sv Av nv cv tv Bv mv dv sw Aw nw cw tw Bw mw dw h hlen h1 h2 ha hb2 hD _ := by
  refine (visit_any hd ((h.2.near).new (hb.trans (h.1.mono hb.size)) (fun b hb => by rcases hb with rfl | rfl; exact hwO; exact hwr)) (hj.below h.1) h.2 (Nat.lt_of_lt_of_le (lt_of_block hgO) h.1.size) ⟨hF.1, hF.2.1, hF.2.2.1, hF.2.2.2.1⟩ hF.2.2.2.2.1 hF.2.2.2.2.2.1 hF.2.2.2.2.2.2 ⟨ha, hb2⟩ h1 h2 (hok a) (by have := kept_len f D; omega)).mono ?_
  rintro e wy ⟨rfl, ho⟩
  refine ⟨rfl, h.1, ?_⟩
  rw [kept_snoc]
  exact ho
set_option maxRecDepth 100000 in
set_option maxHeartbeats 4000000 in
theorem joined_any {w : World} {A : Option Addr} {n c : Nat} {B : Option Addr} {m d k : Nat} {xs ys : List (TV × Rat)} {g : FuncId} {cb : Array Value} {f : Rat → Rat → Rat} {ok : Rat → Rat → Prop} (hx : IsV w A n c xs k) (hy : IsV w B m d ys k) (hk : k ≤ 700) (hn : n ≤ 1000000) (hm : m ≤ 1000000) (hsx : Short (vals xs)) (hsy : Short (vals ys)) (hA : ∀ a, A = some a → a.block < w.heap.size) (hB : ∀ a, B = some a → a.block < w.heap.size) (hd : Do w g cb f ok) (hok : ∀ a, ok (tot (vals xs) a) (tot (vals ys) a)) :
  Calls tz 78 #[.slice A n c, .slice B m d, .func (.func g) #[] cb] w (RetV w (fun l => ∃ D, Gone (vals xs) (vals ys) D ∧ l = kept f D)) := by
 obtain ⟨M, hM⟩ : ∃ M : Nat, max n m = M := ⟨_, rfl⟩
 have hML : M ≤ 1000000 := by omega
 have hMI : max (n : Int) (m : Int) = (M : Int) := by omega
 have HX := lh hx
 have HY := lh hy
 have HS : Hid (k ≤ 700 ∧ n ≤ 1000000 ∧ m ≤ 1000000 ∧ M ≤ 1000000) := ⟨hk, hn, hm, hML⟩
 have HSX := lh hsx
 have HSY := lh hsy
 have HA := lh hA
 have HB := lh hB
 have HD := lh hd
 have HOK := lh hok
 obtain ⟨W0, hW0⟩ : ∃ W, w.alloc (.cells #[.func (.func g) #[] cb] 106) = W := ⟨_, rfl⟩
 obtain ⟨W1, hmk, hW1, hO1⟩ := make_v W0 M (by omega)
 have h0 : W0.heap.size = w.heap.size + 1 := by rw [← hW0]; simp
 have h1 : W1.heap.size = w.heap.size + 2 := by rw [hW1]; simp [h0]
 have hb0 : Below w.heap.size w W0 := by rw [← hW0]; exact (bR _ _).alloc (lR _) _
 have hb1 : Below W0.heap.size W0 W1 := by rw [hW1]; exact (bR _ _).alloc (lR _) _
 have hf0 : W0.heap[w.heap.size]? = some (.cells #[.func (.func g) #[] cb] 106 (0, 0)) := by rw [← hW0]; exact heap_alloc_new w _
 obtain ⟨W2, hW2⟩ : ∃ W, W1.alloc (.cells #[.slice (some ⟨W0.heap.size, 0, none⟩) 0 M] 33) = W := ⟨_, rfl⟩
 have h2 : W2.heap.size = w.heap.size + 3 := by rw [← hW2]; simp [h1]
 have hb2 : Below W1.heap.size W1 W2 := by rw [← hW2]; exact (bR _ _).alloc (lR _) _
 have hf2 : W2.heap[W1.heap.size]? = some (.cells #[.slice (some ⟨W0.heap.size, 0, none⟩) 0 M] 33 (0, 0)) := by rw [← hW2]; exact heap_alloc_new W1 _
 obtain ⟨W3, hW3⟩ : ∃ W, W2.alloc (.cells #[.pointer (some ⟨W1.heap.size, 0, none⟩)] 154) = W := ⟨_, rfl⟩
 have h3 : W3.heap.size = w.heap.size + 4 := by rw [← hW3]; simp [h2]
 have hb3 : Below W2.heap.size W2 W3 := by rw [← hW3]; exact (bR _ _).alloc (lR _) _
 have hf3 : W3.heap[W2.heap.size]? = some (.cells #[.pointer (some ⟨W1.heap.size, 0, none⟩)] 154 (0, 0)) := by rw [← hW3]; exact heap_alloc_new W2 _
 obtain ⟨W4, hW4⟩ : ∃ W, W3.alloc (.cells #[.func (.func 169) #[] #[.pointer (some ⟨W2.heap.size, 0, none⟩)]] 152) = W := ⟨_, rfl⟩
 have h4 : W4.heap.size = w.heap.size + 5 := by rw [← hW4]; simp [h3]
 have hb4 : Below W3.heap.size W3 W4 := by rw [← hW4]; exact (bR _ _).alloc (lR _) _
 have hf4 : W4.heap[W3.heap.size]? = some (.cells #[.func (.func 169) #[] #[.pointer (some ⟨W2.heap.size, 0, none⟩)]] 152 (0, 0)) := by rw [← hW4]; exact heap_alloc_new W3 _
 have hb24 : Below W2.heap.size W2 W4 := below_on hb3 hb4
 have hb14 : Below W1.heap.size W1 W4 := below_on hb2 hb24
 have hb04 : Below W0.heap.size W0 W4 := below_on hb1 hb14
 have HB4 : Hid (Below w.heap.size w W4) := below_on hb0 hb04
 have HV : Hid (Visit 131 #[.pointer (some ⟨W3.heap.size, 0, none⟩), .pointer (some ⟨w.heap.size, 0, none⟩)] W4 (fun b => b = W1.heap.size ∨ b = W0.heap.size) (vals xs) (vals ys) (n + m) (fun wl wx D => Below W4.heap.size W4 wl ∧ OutV wl wx W1.heap.size W0.heap.size (kept f D)) (fun _ _ => true)) :=
  joined_visit hd HB4.out ⟨(hb04.block _ (lt_of_block hf0)).trans hf0, hf4, (hb4.block _ (lt_of_block hf3)).trans hf3⟩ ((hb24.block _ (lt_of_block hf2)).trans hf2) (hO1.keep (fun g hg => hb14.block g (hO1.lt hg))) (by omega) (by omega) (by omega) hok (by omega)
 have HOA : Hid (Off (fun b => b = W1.heap.size ∨ b = W0.heap.size) A) := by intro a ha h; have := hA a ha; omega
 have HOB : Hid (Off (fun b => b = W1.heap.size ∨ b = W0.heap.size) B) := by intro a ha h; have := hB a ha; omega
 have HSZ : Hid (W0.heap.size = w.heap.size + 1 ∧ W1.heap.size = w.heap.size + 2) := ⟨h0, h1⟩
 clear hx hy hk hn hm hsx hsy hd hok hM hML hA hB hW1 hO1 h0 h1 h2 h3 h4 hb0 hb1 hb2 hb3 hb4 hf0 hf2 hf3 hf4 hb24 hb14 hb04
 go_enter Tryz.func78, Tryz.ntmps78
 go_upto_region 1 with fail
 go_upto_region 2 with fail
 clear hmk hW0
 go_wp2_with fail
 refine (behind_any W2 W1.heap.size).mono ?_
 rintro e w' ⟨rfl, rfl⟩
 clear hW2
 go_wp2_with fail
 refine (walk_any (HX.out.below HB4.out) (HY.out.below HB4.out) HS.out.1 HS.out.2.1 HS.out.2.2.1 HSX.out HSY.out HOA.out HOB.out HV.out).mono ?_
 rintro e w5 ⟨rfl, wl, D, hbl, ⟨_, ho⟩, ht⟩
 obtain ⟨v, hv, hret⟩ := ho.ret (w := w) (P := fun l => ∃ D, Gone (vals xs) (vals ys) D ∧ l = kept f D) (HB4.out.trans (hbl.mono HB4.out.size)) (by have := HSZ.out; omega) (by have := HSZ.out; omega) ⟨D, through_all ht, rfl⟩
 have HRET := lh hret
 clear ho ht hbl hret hW3 hW4
 go_wp2_with fail
 exact ⟨rfl, v, by simp [results, Tryz.results78, go_sem], HRET.out⟩
end V

namespace Q
open Go.RowKit
theorem ql_int (z : Int) (k : Nat) (h : zl z ≤ k) (hk : 1 ≤ k) : ql (z : Rat) ≤ k := by
 show max (zl z) (dig 1).length ≤ k
 have e2 : (dig 1).length ≤ 1 := dig_length_le (by rw [B64_eq]; omega)
 omega
