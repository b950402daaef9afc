/- QTop: several texts in one. -/
import Derived.Test.YtbbncggaaibheaaGreatDoorRAwake
import Derived.Test.YtbbncggaaibheaaGreatDoorWTop
import Derived.Test.YtbbncggaaibheaaGreatDoorQOps
namespace Go.Proofs.YtbbncggaaibheaaGreatDoor.Q
open Go.RowKit
structure Q3 (w wx : World) (sa : Bool) (Aa : Option Addr) (na ca : Nat) (ta : Bool) (Ba : Option Addr) (ma da : Nat) (sb : Bool) (Ab : Option Addr) (nb cb : Nat) (tb : Bool) (Bb : Option Addr) (mb db : Nat) (sc : Bool) (Ac : Option Addr) (nc cc : Nat) (tc : Bool) (Bc : Option Addr) (mc dc : Nat) (p r u : Rat) (k : Nat) : Prop where
 bel : Below w.heap.size w wx
 i1 : Qbx wx w.heap.size sa Aa na ca ta Ba ma da
 i2 : Qbx wx (w.heap.size + 1) sb Ab nb cb tb Bb mb db
 i3 : Qbx wx (w.heap.size + 1 + 1) sc Ac nc cc tc Bc mc dc
 a : IsQ wx sa Aa na ca ta Ba ma da p k
 b : IsQ wx sb Ab nb cb tb Bb mb db r k
 c : IsQ wx sc Ac nc cc tc Bc mc dc u k
section
variable {w wx wy : World} {sa : Bool} {Aa : Option Addr} {na ca : Nat} {ta : Bool} {Ba : Option Addr} {ma da : Nat} {sb : Bool} {Ab : Option Addr} {nb cb : Nat} {tb : Bool} {Bb : Option Addr} {mb db : Nat} {sc : Bool} {Ac : Option Addr} {nc cc : Nat} {tc : Bool} {Bc : Option Addr} {mc dc : Nat} {p r u : Rat} {k : Nat}
theorem Q3.start (h1 : IsQ w sa Aa na ca ta Ba ma da p k) (h2 : IsQ w sb Ab nb cb tb Bb mb db r k) (h3 : IsQ w sc Ac nc cc tc Bc mc dc u k) : Q3 w (((w.alloc (.cells #[.bool sa, .slice Aa na ca, .bool ta, .slice Ba ma da] 28)).alloc (.cells #[.bool sb, .slice Ab nb cb, .bool tb, .slice Bb mb db] 28)).alloc (.cells #[.bool sc, .slice Ac nc cc, .bool tc, .slice Bc mc dc] 28)) sa Aa na ca ta Ba ma da sb Ab nb cb tb Bb mb db sc Ac nc cc tc Bc mc dc p r u k :=
 ⟨(((Below.refl _ _).alloc (Nat.le_refl _) _).alloc (by simp) _).alloc (by simp; omega) _, ((Qbx.new _ _ rfl).alloc _).alloc _, (Qbx.new _ _ (by simp)).alloc _, Qbx.new _ _ (by simp), ((h1.alloc _).alloc _).alloc _, ((h2.alloc _).alloc _).alloc _, ((h3.alloc _).alloc _).alloc _⟩
theorem Q3.below (h : Q3 w wx sa Aa na ca ta Ba ma da sb Ab nb cb tb Bb mb db sc Ac nc cc tc Bc mc dc p r u k) (hb : Below wx.heap.size wx wy) : Q3 w wy sa Aa na ca ta Ba ma da sb Ab nb cb tb Bb mb db sc Ac nc cc tc Bc mc dc p r u k := ⟨below_on h.bel hb, h.i1.below hb, h.i2.below hb, h.i3.below hb, h.a.below hb, h.b.below hb, h.c.below hb⟩
theorem Q3.drew (h : Q3 w wx sa Aa na ca ta Ba ma da sb Ab nb cb tb Bb mb db sc Ac nc cc tc Bc mc dc p r u k) : Q3 w wx.drew sa Aa na ca ta Ba ma da sb Ab nb cb tb Bb mb db sc Ac nc cc tc Bc mc dc p r u k := h.below ((Below.refl _ _).drew)
theorem Q3.keep (h : Q3 w wx sa Aa na ca ta Ba ma da sb Ab nb cb tb Bb mb db sc Ac nc cc tc Bc mc dc p r u k) : wx.cell? ⟨w.heap.size, 0, none⟩ = some (.bool sa) ∧ wx.cell? ⟨w.heap.size, 1, none⟩ = some (.slice Aa na ca) ∧ wx.cell? ⟨w.heap.size, 2, none⟩ = some (.bool ta) ∧ wx.cell? ⟨w.heap.size, 3, none⟩ = some (.slice Ba ma da) ∧ wx.cell? ⟨w.heap.size + 1, 0, none⟩ = some (.bool sb) ∧ wx.cell? ⟨w.heap.size + 1, 1, none⟩ = some (.slice Ab nb cb) ∧ wx.cell? ⟨w.heap.size + 1, 2, none⟩ = some (.bool tb) ∧ wx.cell? ⟨w.heap.size + 1, 3, none⟩ = some (.slice Bb mb db) ∧ wx.cell? ⟨w.heap.size + 1 + 1, 0, none⟩ = some (.bool sc) ∧ wx.cell? ⟨w.heap.size + 1 + 1, 1, none⟩ = some (.slice Ac nc cc) ∧ wx.cell? ⟨w.heap.size + 1 + 1, 2, none⟩ = some (.bool tc) ∧ wx.cell? ⟨w.heap.size + 1 + 1, 3, none⟩ = some (.slice Bc mc dc) :=
 ⟨h.i1.c0, h.i1.c1, h.i1.c2, h.i1.c3, h.i2.c0, h.i2.c1, h.i2.c2, h.i2.c3, h.i3.c0, h.i3.c1, h.i3.c2, h.i3.c3⟩
end
end Go.Proofs.YtbbncggaaibheaaGreatDoor.Q
namespace Go.Proofs.YtbbncggaaibheaaGreatDoor.Q
open Go.RowKit
open Go.Proofs.YtbbncggaaibheaaGreatDoor.D (textOf parseV parse_text sizeText textOf_pos textOf_neg nd_le)
theorem ceil_zl (p : Rat) (k : Nat) (h : ql p ≤ k) : zl p.ceil ≤ k := by
 rw [Rat.ceil_eq_neg_floor_neg, zl_neg, Rat.floor_def]
 have h5 := zl_quo (-p).num ((-p).den : Int)
 have h6 := num_le (-p)
 rw [ql_neg] at h6
 omega
theorem floor_zl (p : Rat) (k : Nat) (h : ql p ≤ k) : zl p.floor ≤ k := by
 rw [Rat.floor_def]
 have h5 := zl_quo p.num (p.den : Int)
 have h6 := num_le p
 omega
theorem ql_int (z : Int) (k : Nat) (h : zl z ≤ k) (hk : 1 ≤ k) : ql (z : Rat) ≤ k := by
 show max (zl z) (dig 1).length ≤ k
 have e2 : (dig 1).length ≤ 1 := dig_length_le (by rw [B64_eq]; omega)
 omega
end Go.Proofs.YtbbncggaaibheaaGreatDoor.Q
namespace Go.Proofs.YtbbncggaaibheaaGreatDoor.Q
open Go.RowKit
structure Raw (w : World) (A : Option Addr) (n c : Nat) (B : Option Addr) (m d : Nat) (xs ys : List Nat) : Prop where
 en : n = xs.length
 em : m = ys.length
 x : Num w A xs
 y : Num w B ys
 cap : n ≤ c
 cap2 : m ≤ d
section
variable {w w' V : World} {A B : Option Addr} {n c m d g : Nat} {xs ys : List Nat} {s' t' : Bool} {A' B' : Option Addr} {n' c' m' d' : Nat} {o : Obj}
theorem Raw.below (h : Raw w A n c B m d xs ys) (hb : Below w.heap.size w w') : Raw w' A n c B m d xs ys := ⟨h.en, h.em, h.x.below hb, h.y.below hb, h.cap, h.cap2⟩
theorem Raw.alloc (h : Raw w A n c B m d xs ys) (o : Obj) : Raw (w.alloc o) A n c B m d xs ys := h.below ((Below.refl _ _).alloc (Nat.le_refl _) o)
theorem Raw.drew (h : Raw w A n c B m d xs ys) : Raw w.drew A n c B m d xs ys := h.below ((Below.refl _ _).drew)
theorem Raw.al (h : Raw w A n c B m d xs ys) (e : w.alloc o = V) : Raw V A n c B m d xs ys := by subst e; exact h.alloc o
theorem num_on4 {xs : List Nat} {A : Option Addr} (h : Num w A xs) (b : Box w g) : Num (put4 w g s' A' n' c' t' B' m' d') A xs := Num.set (Num.set (Num.set (Num.set h b _ _) (bx2 b) _ _) b.on2 _ _) b.three _ _
theorem Raw.pt {s0 t0 : Bool} {A0 B0 : Option Addr} {n0 c0 m0 d0 : Nat} (h : Raw w A n c B m d xs ys) (b : Qbx w g s0 A0 n0 c0 t0 B0 m0 d0) (e : put4 w g s' A' n' c' t' B' m' d' = V) : Raw V A n c B m d xs ys := by
 subst e; exact ⟨h.en, h.em, num_on4 h.x b.bx, num_on4 h.y b.bx, h.cap, h.cap2⟩
end
theorem IsQ.raw {w : World} {s t : Bool} {A B : Option Addr} {n c m d k : Nat} {q : Rat} (h : IsQ w s A n c t B m d q k) : ∃ xs ys, Raw w A n c B m d xs ys := by
 obtain ⟨xs, ys, h1, h2, h3, h4, h5⟩ := h.ex
 exact ⟨xs, ys, h1, h2, h3, h4, h.cap, h.cap2⟩
theorem isq_num {w : World} {s : Bool} {A : Option Addr} {n c k : Nat} {y : Int} {q : Rat} (h : IsZ w s A n c y k) (hq : (y : Rat) = q) : IsQ w s A n c false none 0 0 q k := by
 obtain ⟨xs, h1, h2, h3⟩ := h.ex
 exact ⟨⟨xs, [], h1, rfl, h2, Num.nil _ _, by rw [h3, ← hq]; show Rat.divInt y 1 = _; exact div_one y⟩, h.le, Nat.zero_le _, h.cap, Nat.zero_le _⟩
def RetCQ (w : World) (s : Bool) (n : Nat) (t : Bool) (m : Nat) (xs ys : List Nat) (e : Ending) (w' : World) : Prop :=
 ∃ A c B d, e = .returned (.agg #[.bool s, .slice A n c, .bool t, .slice B m d]) ∧ Raw w' A n c B m d xs ys ∧ Below w.heap.size w w'
set_option maxRecDepth 100000 in
set_option maxHeartbeats 2000000 in
theorem copy_q {w : World} {s t : Bool} {A B : Option Addr} {n c m d : Nat} {xs ys : List Nat} (h : Raw w A n c B m d xs ys) (hA : A = none → c = 0) (hB : B = none → d = 0) (hn : n ≤ 1000) (hm : m ≤ 1000) :
  Calls Tryz.prog 30 #[.agg #[.bool s, .slice A n c, .bool t, .slice B m d]] w (RetCQ w s n t m xs ys) := by
 have HS := Lib.hid (S1.start w s A n c t B m d)
 have HR := Lib.hid ((h.alloc (.cells #[.bool s, .slice A n c, .bool t, .slice B m d] 28)).alloc (.cells #[.bool false, .slice none 0 0, .bool false, .slice none 0 0] 28))
 have HC1 : Hid (∀ W : World, Num W A xs → Calls Tryz.prog 85 #[.slice A n c] W (RetCW W xs)) := by
  intro W hW; rw [h.en]; exact copyw_any W A c xs hW hA (by have := h.en; omega)
 have HC2 : Hid (∀ W : World, Num W B ys → Calls Tryz.prog 85 #[.slice B m d] W (RetCW W ys)) := by
  intro W hW; rw [h.em]; exact copyw_any W B d ys hW hB (by have := h.em; omega)
 have HEN := Lib.hid h.en
 have HEM := Lib.hid h.em
 clear h hA hB hn hm
 go_enter Tryz.func30, Tryz.ntmps30
 go_upto_region 1 with fail
 go_region_held3 (fun V => V.cell? ⟨w.heap.size, 0, none⟩ = some (.bool s) ∧ V.cell? ⟨w.heap.size, 1, none⟩ = some (.slice A n c) ∧ V.cell? ⟨w.heap.size, 2, none⟩ = some (.bool t) ∧ V.cell? ⟨w.heap.size, 3, none⟩ = some (.slice B m d))
  (first | (have a1 := HSb.out.i.put4_far (g' := w.heap.size + 1) (s' := s) (A' := A8) (n' := n) (c' := c8) (t' := t) (B' := B8) (m' := m) (d' := d8) (by omega); with_reducible exact ⟨a1.c0, a1.c1, a1.c2, a1.c3⟩) | (with_reducible exact ⟨HSb.out.i.c0, HSb.out.i.c1, HSb.out.i.c2, HSb.out.i.c3⟩) | (with_reducible exact ⟨HSa.out.i.c0, HSa.out.i.c1, HSa.out.i.c2, HSa.out.i.c3⟩) | (with_reducible exact ⟨HS.out.drew.i.c0, HS.out.drew.i.c1, HS.out.drew.i.c2, HS.out.drew.i.c3⟩))
  (first
  | (go_at_call 85; (with_reducible refine (HC2.out _ HRa.out.y).mono ?_); rintro e wb ⟨B8, d8, rfl, hd8, h8, hbb⟩; rw [← HEM.out]; have HSb := Lib.hid (HSa.out.below hbb); have HXb := Lib.hid (HXa.out.below hbb); have HYb := Lib.hid h8; have HDb := Lib.hid hd8; have o0 := HSb.out.o.c0; have o1 := HSb.out.o.c1; have o2 := HSb.out.o.c2; have o3 := HSb.out.o.c3; have f0 := HSb.out.o.f 0; have f1 := HSb.out.o.f 1; have f2 := HSb.out.o.f 2; have f3 := HSb.out.o.f 3)
  | (go_at_call 85; (with_reducible refine (HC1.out _ HR.out.drew.x).mono ?_); rintro e wa ⟨A8, c8, rfl, hc8, h7, hba⟩; rw [← HEN.out]; have HSa := Lib.hid (HS.out.drew.below hba); have HRa := Lib.hid (HR.out.drew.below hba); have HXa := Lib.hid h7; have HCa := Lib.hid hc8))
 all_goals
  go_wp2_with fail
  refine bodyPost_ret (v := .agg #[.bool s, .slice A8 n c8, .bool t, .slice B8 m d8]) (by simp [results, Tryz.results30, go_sem, o0, o1, o2, o3]) rfl ?_
  exact ⟨A8, c8, B8, d8, rfl, ⟨HEN.out, HEM.out, num_on4 HXb.out HSb.out.o.bx, num_on4 HYb.out HSb.out.o.bx, HEN.out ▸ HCa.out, HEM.out ▸ HDb.out⟩, below_put4 HSb.out.bel (by omega)⟩
set_option maxRecDepth 100000 in
set_option maxHeartbeats 2000000 in
theorem int_raw {w : World} {s : Bool} {A B : Option Addr} {n c d : Nat} {xs : List Nat} (h1 : Num w A xs) (h2 : Num w B xs) (hn : n = xs.length) (hl : n ≤ 100000) :
  Calls Tryz.prog 10 #[.agg #[.bool s, .slice A n c], .agg #[.bool s, .slice B n d]] w (RetB w true) := by
 have HP := Lib.hid (PI.start w s A n c s B n d)
 have HC : Hid (Calls Tryz.prog 67 #[.slice A n c, .slice B n d] ((w.alloc (.cells #[.bool s, .slice A n c] 25)).alloc (.cells #[.bool s, .slice B n d] 25)) (RetB ((w.alloc (.cells #[.bool s, .slice A n c] 25)).alloc (.cells #[.bool s, .slice B n d] 25)) true)) := by
  show Calls _ _ _ _ _
  subst hn
  exact same_yes _ A B c d xs ((h1.alloc _).alloc _) ((h2.alloc _).alloc _) (by omega)
 have b1 : (s == s) = true := by cases s <;> rfl
 clear h1 h2 hn hl
 go_enter Tryz.func10, Tryz.ntmps10
 go_wp2_with fail
 refine HC.out.mono ?_
 rintro e w1 ⟨rfl, hb1⟩
 have HB := Lib.hid (below_on HP.out.bel hb1)
 clear hb1
 go_wp2_with fail
 go_ret
 exact ⟨rfl, HB.out⟩
set_option maxRecDepth 100000 in
set_option maxHeartbeats 2000000 in
theorem rat_raw {w : World} {s t : Bool} {A B A' B' : Option Addr} {n c m d c' d' : Nat} {xs ys : List Nat} (h1 : Raw w A n c B m d xs ys) (h2 : Raw w A' n c' B' m d' xs ys) (hn : n ≤ 100000) (hm : m ≤ 100000) :
  Calls Tryz.prog 31 #[.agg #[.bool s, .slice A n c, .bool t, .slice B m d], .agg #[.bool s, .slice A' n c', .bool t, .slice B' m d']] w (RetB w true) := by
 have HP := Lib.hid (P2.start w s A n c t B m d s A' n c' t B' m d')
 have HR1 := Lib.hid ((h1.alloc (.cells #[.bool s, .slice A n c, .bool t, .slice B m d] 28)).alloc (.cells #[.bool s, .slice A' n c', .bool t, .slice B' m d'] 28))
 have HR2 := Lib.hid ((h2.alloc (.cells #[.bool s, .slice A n c, .bool t, .slice B m d] 28)).alloc (.cells #[.bool s, .slice A' n c', .bool t, .slice B' m d'] 28))
 have HN := Lib.hid hn
 have HM := Lib.hid hm
 clear h1 h2 hn hm
 go_enter Tryz.func31, Tryz.ntmps31
 go_wp2_with fail
 refine (int_raw HR1.out.x HR2.out.x HR1.out.en HN.out).mono ?_
 rintro e w1 ⟨rfl, hb1⟩
 have HP1 := Lib.hid (HP.out.below hb1)
 have HB1 := Lib.hid (HR1.out.below hb1)
 have HB3 := Lib.hid (HR2.out.below hb1)
 clear hb1
 have k2 := HP1.out.i1.c2
 have k3 := HP1.out.i1.c3
 have j2 := HP1.out.i2.c2
 have j3 := HP1.out.i2.c3
 go_wp2_with fail
 refine (int_raw HB1.out.y HB3.out.y HB1.out.em HM.out).mono ?_
 rintro e w2 ⟨rfl, hb2⟩
 have HW := Lib.hid (below_on HP1.out.bel hb2)
 clear hb2
 go_wp2_with fail
 go_ret
 exact ⟨rfl, HW.out⟩
structure T2 (w wx : World) (sa : Bool) (Aa : Option Addr) (na ca : Nat) (ta : Bool) (Ba : Option Addr) (ma da : Nat) (sb : Bool) (Ab : Option Addr) (nb cb : Nat) (tb : Bool) (Bb : Option Addr) (mb db : Nat) (xa ya xb yb : List Nat) (y z : Int) (p r : Rat) : Prop where
 bel : Below w.heap.size w wx
 i1 : Qbx wx w.heap.size sa Aa na ca ta Ba ma da
 i2 : Qbx wx (w.heap.size + 1) sb Ab nb cb tb Bb mb db
 a : IsQ wx sa Aa na ca ta Ba ma da p 5
 b : IsQ wx sb Ab nb cb tb Bb mb db r 5
 ra : Raw wx Aa na ca Ba ma da xa ya
 rb : Raw wx Ab nb cb Bb mb db xb yb
 zn : IsZ wx sa Aa na ca y 5
 zd : IsZ wx ta Ba ma da z 5
section
variable {w wx wy V : World} {sa : Bool} {Aa : Option Addr} {na ca : Nat} {ta : Bool} {Ba : Option Addr} {ma da : Nat} {sb : Bool} {Ab : Option Addr} {nb cb : Nat} {tb : Bool} {Bb : Option Addr} {mb db : Nat} {xa ya xb yb : List Nat} {y z : Int} {p r : Rat} {g : Nat} {s1 t1 s3 t3 : Bool} {A1 B1 A3 B3 : Option Addr} {n1 c1 m1 d1 n3 c3 m3 d3 : Nat} {o : Obj}
theorem T2.below (h : T2 w wx sa Aa na ca ta Ba ma da sb Ab nb cb tb Bb mb db xa ya xb yb y z p r) (hb : Below wx.heap.size wx wy) : T2 w wy sa Aa na ca ta Ba ma da sb Ab nb cb tb Bb mb db xa ya xb yb y z p r := ⟨below_on h.bel hb, h.i1.below hb, h.i2.below hb, h.a.below hb, h.b.below hb, h.ra.below hb, h.rb.below hb, h.zn.below hb, h.zd.below hb⟩
theorem T2.drew (h : T2 w wx sa Aa na ca ta Ba ma da sb Ab nb cb tb Bb mb db xa ya xb yb y z p r) : T2 w wx.drew sa Aa na ca ta Ba ma da sb Ab nb cb tb Bb mb db xa ya xb yb y z p r := h.below ((Below.refl _ _).drew)
theorem T2.alloc (h : T2 w wx sa Aa na ca ta Ba ma da sb Ab nb cb tb Bb mb db xa ya xb yb y z p r) (o : Obj) : T2 w (wx.alloc o) sa Aa na ca ta Ba ma da sb Ab nb cb tb Bb mb db xa ya xb yb y z p r := h.below ((Below.refl _ _).alloc (Nat.le_refl _) o)
theorem T2.al (h : T2 w wx sa Aa na ca ta Ba ma da sb Ab nb cb tb Bb mb db xa ya xb yb y z p r) (e : wx.alloc o = V) : T2 w V sa Aa na ca ta Ba ma da sb Ab nb cb tb Bb mb db xa ya xb yb y z p r := by subst e; exact h.alloc o
theorem T2.keep (h : T2 w wx sa Aa na ca ta Ba ma da sb Ab nb cb tb Bb mb db xa ya xb yb y z p r) : wx.cell? ⟨w.heap.size, 0, none⟩ = some (.bool sa) ∧ wx.cell? ⟨w.heap.size, 1, none⟩ = some (.slice Aa na ca) ∧ wx.cell? ⟨w.heap.size, 2, none⟩ = some (.bool ta) ∧ wx.cell? ⟨w.heap.size, 3, none⟩ = some (.slice Ba ma da) ∧ wx.cell? ⟨w.heap.size + 1, 0, none⟩ = some (.bool sb) ∧ wx.cell? ⟨w.heap.size + 1, 1, none⟩ = some (.slice Ab nb cb) ∧ wx.cell? ⟨w.heap.size + 1, 2, none⟩ = some (.bool tb) ∧ wx.cell? ⟨w.heap.size + 1, 3, none⟩ = some (.slice Bb mb db) :=
 ⟨h.i1.c0, h.i1.c1, h.i1.c2, h.i1.c3, h.i2.c0, h.i2.c1, h.i2.c2, h.i2.c3⟩
theorem T2.pt (h : T2 w wx sa Aa na ca ta Ba ma da sb Ab nb cb tb Bb mb db xa ya xb yb y z p r) (b : Qbx wx g s3 A3 n3 c3 t3 B3 m3 d3) (hl : w.heap.size + 1 < g) (e : put4 wx g s1 A1 n1 c1 t1 B1 m1 d1 = V) : T2 w V sa Aa na ca ta Ba ma da sb Ab nb cb tb Bb mb db xa ya xb yb y z p r :=
 by subst e; exact ⟨below_put4 h.bel (by omega), h.i1.put4_far (by omega), h.i2.put4_far (by omega), h.a.on4 b.bx, h.b.on4 b.bx, h.ra.pt b rfl, h.rb.pt b rfl, h.zn.on4 b.bx, h.zd.on4 b.bx⟩
theorem T2.start (hb : Below w.heap.size w wx) (i1 : Qbx wx w.heap.size sa Aa na ca ta Ba ma da) (i2 : Qbx wx (w.heap.size + 1) sb Ab nb cb tb Bb mb db) (ha : IsQ wx sa Aa na ca ta Ba ma da p 5) (hb2 : IsQ wx sb Ab nb cb tb Bb mb db r 5) : ∃ xa ya xb yb y z, T2 w wx sa Aa na ca ta Ba ma da sb Ab nb cb tb Bb mb db xa ya xb yb y z p r := by
 obtain ⟨xa, ya, h1⟩ := ha.raw
 obtain ⟨xb, yb, h2⟩ := hb2.raw
 exact ⟨xa, ya, xb, yb, zv sa (val xa), zv ta (val ya), hb, i1, i2, ha, hb2, h1, h2, ⟨⟨xa, h1.en, h1.x, rfl⟩, ha.le, ha.cap⟩, ⟨⟨ya, h1.em, h1.y, rfl⟩, ha.le2, ha.cap2⟩⟩
end
section
variable {wx V : World} {g g1 : Nat} {s0 t0 s1 t1 : Bool} {A0 B0 A1 B1 : Option Addr} {n0 c0 m0 d0 n1 c1 m1 d1 : Nat}
theorem Qbx.pt (h : Qbx wx g s0 A0 n0 c0 t0 B0 m0 d0) (e : put4 wx g s1 A1 n1 c1 t1 B1 m1 d1 = V) : Qbx V g s1 A1 n1 c1 t1 B1 m1 d1 := by subst e; exact h.put
theorem Qbx.pt_far (h : Qbx wx g s0 A0 n0 c0 t0 B0 m0 d0) (hg : g ≠ g1) (e : put4 wx g1 s1 A1 n1 c1 t1 B1 m1 d1 = V) : Qbx V g s0 A0 n0 c0 t0 B0 m0 d0 := by subst e; exact h.put4_far hg
theorem Qbx.fresh (e : wx.alloc (Obj.cells #[.bool false, .slice none 0 0, .bool false, .slice none 0 0] 28) = V) : Qbx V wx.heap.size false none 0 0 false none 0 0 := by subst e; exact Qbx.new _ _ rfl
theorem Qbx.al {o : Obj} (h : Qbx wx g s0 A0 n0 c0 t0 B0 m0 d0) (e : wx.alloc o = V) : Qbx V g s0 A0 n0 c0 t0 B0 m0 d0 := by subst e; exact h.alloc o
end
structure T5 (w wx : World) (gx gy gq : Nat) (sa : Bool) (Aa : Option Addr) (na ca : Nat) (ta : Bool) (Ba : Option Addr) (ma da : Nat) (sb : Bool) (Ab : Option Addr) (nb cb : Nat) (tb : Bool) (Bb : Option Addr) (mb db : Nat) (xa ya xb yb : List Nat) (y z : Int) (p r : Rat) (Ax : Option Addr) (cx : Nat) (Bx : Option Addr) (dx : Nat) (Ay : Option Addr) (cy : Nat) (By : Option Addr) (dy : Nat) (sq : Bool) (Aq : Option Addr) (nq cq : Nat) (tq : Bool) (Bq : Option Addr) (mq dq : Nat) (u : Rat) : Prop where
 t : T2 w wx sa Aa na ca ta Ba ma da sb Ab nb cb tb Bb mb db xa ya xb yb y z p r
 ix : Qbx wx gx sa Ax na cx ta Bx ma dx
 iy : Qbx wx gy sb Ay nb cy tb By mb dy
 iq : Qbx wx gq sq Aq nq cq tq Bq mq dq
 rx : Raw wx Ax na cx Bx ma dx xa ya
 ry : Raw wx Ay nb cy By mb dy xb yb
 q : OneQ wx sq Aq nq cq tq Bq mq dq u
section
variable {w wx wy : World} {gx gy gq : Nat} {sa : Bool} {Aa : Option Addr} {na ca : Nat} {ta : Bool} {Ba : Option Addr} {ma da : Nat} {sb : Bool} {Ab : Option Addr} {nb cb : Nat} {tb : Bool} {Bb : Option Addr} {mb db : Nat} {xa ya xb yb : List Nat} {y z : Int} {p r u : Rat} {Ax : Option Addr} {cx : Nat} {Bx : Option Addr} {dx : Nat} {Ay : Option Addr} {cy : Nat} {By : Option Addr} {dy : Nat} {sq : Bool} {Aq : Option Addr} {nq cq : Nat} {tq : Bool} {Bq : Option Addr} {mq dq : Nat}
theorem T5.below (h : T5 w wx gx gy gq sa Aa na ca ta Ba ma da sb Ab nb cb tb Bb mb db xa ya xb yb y z p r Ax cx Bx dx Ay cy By dy sq Aq nq cq tq Bq mq dq u) (hb : Below wx.heap.size wx wy) : T5 w wy gx gy gq sa Aa na ca ta Ba ma da sb Ab nb cb tb Bb mb db xa ya xb yb y z p r Ax cx Bx dx Ay cy By dy sq Aq nq cq tq Bq mq dq u := ⟨h.t.below hb, h.ix.below hb, h.iy.below hb, h.iq.below hb, h.rx.below hb, h.ry.below hb, h.q.below hb⟩
theorem T5.drew (h : T5 w wx gx gy gq sa Aa na ca ta Ba ma da sb Ab nb cb tb Bb mb db xa ya xb yb y z p r Ax cx Bx dx Ay cy By dy sq Aq nq cq tq Bq mq dq u) : T5 w wx.drew gx gy gq sa Aa na ca ta Ba ma da sb Ab nb cb tb Bb mb db xa ya xb yb y z p r Ax cx Bx dx Ay cy By dy sq Aq nq cq tq Bq mq dq u := h.below ((Below.refl _ _).drew)
theorem T5.keep (h : T5 w wx gx gy gq sa Aa na ca ta Ba ma da sb Ab nb cb tb Bb mb db xa ya xb yb y z p r Ax cx Bx dx Ay cy By dy sq Aq nq cq tq Bq mq dq u) : wx.cell? ⟨w.heap.size, 0, none⟩ = some (.bool sa) ∧ wx.cell? ⟨w.heap.size, 1, none⟩ = some (.slice Aa na ca) ∧ wx.cell? ⟨w.heap.size, 2, none⟩ = some (.bool ta) ∧ wx.cell? ⟨w.heap.size, 3, none⟩ = some (.slice Ba ma da) ∧ wx.cell? ⟨w.heap.size + 1, 0, none⟩ = some (.bool sb) ∧ wx.cell? ⟨w.heap.size + 1, 1, none⟩ = some (.slice Ab nb cb) ∧ wx.cell? ⟨w.heap.size + 1, 2, none⟩ = some (.bool tb) ∧ wx.cell? ⟨w.heap.size + 1, 3, none⟩ = some (.slice Bb mb db) ∧ wx.cell? ⟨gq, 0, none⟩ = some (.bool sq) ∧ wx.cell? ⟨gq, 1, none⟩ = some (.slice Aq nq cq) ∧ wx.cell? ⟨gq, 2, none⟩ = some (.bool tq) ∧ wx.cell? ⟨gq, 3, none⟩ = some (.slice Bq mq dq) :=
 ⟨h.t.i1.c0, h.t.i1.c1, h.t.i1.c2, h.t.i1.c3, h.t.i2.c0, h.t.i2.c1, h.t.i2.c2, h.t.i2.c3, h.iq.c0, h.iq.c1, h.iq.c2, h.iq.c3⟩
end
theorem OneQ.len {w : World} {s t : Bool} {A B : Option Addr} {n c m d : Nat} {q : Rat} (h : OneQ w s A n c t B m d q) : ((m : Int) == 0) = decide (q.den = 1) := by
 have e := h.em
 unfold dden at e
 by_cases hd : q.den = 1
 ·rw [if_pos hd] at e
  rw [e, decide_eq_true hd]; rfl
 ·rw [if_neg hd] at e
  have hne : (dig q.den).length ≠ 0 := fun h2 => q.den_nz (dig_nil_iff.1 h2)
  rw [decide_eq_false hd, beq_eq_false_iff_ne]
  omega
theorem ql_any {n d : Int} {k : Nat} (hn : zl n ≤ k) (hd : zl d ≤ k) (hk : 1 ≤ k) : ql (Rat.divInt n d) ≤ k := by
 rcases Int.lt_trichotomy d 0 with h | h | h
 ·rw [← Rat.neg_divInt_neg]
  have := ql_div (n := -n) (d := -d) (by omega)
  rw [zl_neg, zl_neg] at this
  omega
 ·rw [h, Rat.divInt_zero]
  have h0 := ql_of (n := 0) (d := 1) (by omega) (by omega) (by omega) (by omega)
  rw [Rat.zero_divInt] at h0
  omega
 ·have := ql_div (n := n) h
  omega
theorem qparse_len (l : List UInt8) : ql (qparse l).1 ≤ 1000 := by
 have h0 : ql 0 ≤ 1000 := by
  have h0 := ql_of (n := 0) (d := 1) (by omega) (by omega) (by omega) (by omega)
  rw [Rat.zero_divInt] at h0
  omega
 unfold qparse
 split
 ·exact h0
 ·split
  ·exact h0
  ·split
   ·exact h0
   ·exact ql_any (parse_size _) (parse_size _) (by omega)
end Go.Proofs.YtbbncggaaibheaaGreatDoor.Q
