/- RatioOrder, walked. -/
import Derived.Test.YtngkmkbpcejkeaaGreatDoorRThree
import Derived.Test.YtngkmkbpcejkeaaGreatDoorROrdMath
namespace Go.Proofs.YtngkmkbpcejkeaaGreatDoor.Q
open Go.RowKit
open Go.Proofs.YtngkmkbpcejkeaaGreatDoor.D (Tab textOf)

/-- Beside the three fractions two of the law's own. -/
structure Q5 (w wx : World) (gf gg : Nat) (sa : Bool) (Aa : Option Addr) (na ca : Nat) (ta : Bool) (Ba : Option Addr) (ma da : Nat) (sb : Bool) (Ab : Option Addr) (nb cb : Nat) (tb : Bool) (Bb : Option Addr) (mb db : Nat) (sc : Bool) (Ac : Option Addr) (nc cc : Nat) (tc : Bool) (Bc : Option Addr) (mc dc : Nat) (sf : Bool) (Af : Option Addr) (nf cf : Nat) (tf : Bool) (Bf : Option Addr) (mf df : Nat) (sg : Bool) (Ag : Option Addr) (ng cg : Nat) (tg : Bool) (Bg : Option Addr) (mg dg : Nat) (p r u qf qg : Rat) : Prop where
  q3 : Q3 w wx sa Aa na ca ta Ba ma da sb Ab nb cb tb Bb mb db sc Ac nc cc tc Bc mc dc p r u 12
  f : Qbx wx gf sf Af nf cf tf Bf mf df
  g : Qbx wx gg sg Ag ng cg tg Bg mg dg
  of : OneQ wx sf Af nf cf tf Bf mf df qf
  og : OneQ wx sg Ag ng cg tg Bg mg dg qg
section
variable {w wx wy : World} {gf gg : Nat} {sa : Bool} {Aa : Option Addr} {na ca : Nat} {ta : Bool} {Ba : Option Addr} {ma da : Nat} {sb : Bool} {Ab : Option Addr} {nb cb : Nat} {tb : Bool} {Bb : Option Addr} {mb db : Nat} {sc : Bool} {Ac : Option Addr} {nc cc : Nat} {tc : Bool} {Bc : Option Addr} {mc dc : Nat} {sf : Bool} {Af : Option Addr} {nf cf : Nat} {tf : Bool} {Bf : Option Addr} {mf df : Nat} {sg : Bool} {Ag : Option Addr} {ng cg : Nat} {tg : Bool} {Bg : Option Addr} {mg dg : Nat} {p r u qf qg : Rat}
theorem Q5.below (h : Q5 w wx gf gg sa Aa na ca ta Ba ma da sb Ab nb cb tb Bb mb db sc Ac nc cc tc Bc mc dc sf Af nf cf tf Bf mf df sg Ag ng cg tg Bg mg dg p r u qf qg) (hb : Below wx.heap.size wx wy) : Q5 w wy gf gg sa Aa na ca ta Ba ma da sb Ab nb cb tb Bb mb db sc Ac nc cc tc Bc mc dc sf Af nf cf tf Bf mf df sg Ag ng cg tg Bg mg dg p r u qf qg := ⟨h.q3.below hb, h.f.below hb, h.g.below hb, h.of.below hb, h.og.below hb⟩
theorem Q5.drew (h : Q5 w wx gf gg sa Aa na ca ta Ba ma da sb Ab nb cb tb Bb mb db sc Ac nc cc tc Bc mc dc sf Af nf cf tf Bf mf df sg Ag ng cg tg Bg mg dg p r u qf qg) : Q5 w wx.drew gf gg sa Aa na ca ta Ba ma da sb Ab nb cb tb Bb mb db sc Ac nc cc tc Bc mc dc sf Af nf cf tf Bf mf df sg Ag ng cg tg Bg mg dg p r u qf qg := h.below ((Below.refl _ _).drew)
theorem Q5.keep (h : Q5 w wx gf gg sa Aa na ca ta Ba ma da sb Ab nb cb tb Bb mb db sc Ac nc cc tc Bc mc dc sf Af nf cf tf Bf mf df sg Ag ng cg tg Bg mg dg p r u qf qg) : wx.cell? ⟨w.heap.size, 0, none⟩ = some (.bool sa) ∧ wx.cell? ⟨w.heap.size, 1, none⟩ = some (.slice Aa na ca) ∧ wx.cell? ⟨w.heap.size, 2, none⟩ = some (.bool ta) ∧ wx.cell? ⟨w.heap.size, 3, none⟩ = some (.slice Ba ma da) ∧ wx.cell? ⟨w.heap.size + 1, 0, none⟩ = some (.bool sb) ∧ wx.cell? ⟨w.heap.size + 1, 1, none⟩ = some (.slice Ab nb cb) ∧ wx.cell? ⟨w.heap.size + 1, 2, none⟩ = some (.bool tb) ∧ wx.cell? ⟨w.heap.size + 1, 3, none⟩ = some (.slice Bb mb db) ∧ wx.cell? ⟨w.heap.size + 1 + 1, 0, none⟩ = some (.bool sc) ∧ wx.cell? ⟨w.heap.size + 1 + 1, 1, none⟩ = some (.slice Ac nc cc) ∧ wx.cell? ⟨w.heap.size + 1 + 1, 2, none⟩ = some (.bool tc) ∧ wx.cell? ⟨w.heap.size + 1 + 1, 3, none⟩ = some (.slice Bc mc dc) ∧ wx.cell? ⟨gf, 0, none⟩ = some (.bool sf) ∧ wx.cell? ⟨gf, 1, none⟩ = some (.slice Af nf cf) ∧ wx.cell? ⟨gf, 2, none⟩ = some (.bool tf) ∧ wx.cell? ⟨gf, 3, none⟩ = some (.slice Bf mf df) ∧ wx.cell? ⟨gg, 0, none⟩ = some (.bool sg) ∧ wx.cell? ⟨gg, 1, none⟩ = some (.slice Ag ng cg) ∧ wx.cell? ⟨gg, 2, none⟩ = some (.bool tg) ∧ wx.cell? ⟨gg, 3, none⟩ = some (.slice Bg mg dg) :=
  have k := h.q3
  ⟨k.i1.c0, k.i1.c1, k.i1.c2, k.i1.c3, k.i2.c0, k.i2.c1, k.i2.c2, k.i2.c3, k.i3.c0, k.i3.c1, k.i3.c2, k.i3.c3, h.f.c0, h.f.c1, h.f.c2, h.f.c3, h.g.c0, h.g.c1, h.g.c2, h.g.c3⟩
end
section
variable {w wx : World} {g g1 : Nat} {s0 t0 : Bool} {A0 B0 : Option Addr} {n0 c0 m0 d0 : Nat} {sa : Bool} {Aa : Option Addr} {na ca : Nat} {ta : Bool} {Ba : Option Addr} {ma da : Nat} {sb : Bool} {Ab : Option Addr} {nb cb : Nat} {tb : Bool} {Bb : Option Addr} {mb db : Nat} {sc : Bool} {Ac : Option Addr} {nc cc : Nat} {tc : Bool} {Bc : Option Addr} {mc dc : Nat} {p r u q : Rat} {k : Nat} {s1 t1 : Bool} {A1 B1 : Option Addr} {n1 c1 m1 d1 : Nat} {s3 t3 : Bool} {A3 B3 : Option Addr} {n3 c3 m3 d3 : Nat}
theorem Qbx.pt {V : World} (h : Qbx wx g s0 A0 n0 c0 t0 B0 m0 d0) (e : put4 wx g s1 A1 n1 c1 t1 B1 m1 d1 = V) : Qbx V g s1 A1 n1 c1 t1 B1 m1 d1 := by subst e; exact h.put
theorem Qbx.pt_far {V : World} (h : Qbx wx g s0 A0 n0 c0 t0 B0 m0 d0) (hg : g ≠ g1) (e : put4 wx g1 s1 A1 n1 c1 t1 B1 m1 d1 = V) : Qbx V g s0 A0 n0 c0 t0 B0 m0 d0 := by subst e; exact h.put4_far hg
theorem OneQ.pt {V : World} (h : OneQ wx s0 A0 n0 c0 t0 B0 m0 d0 q) (b : Qbx wx g s3 A3 n3 c3 t3 B3 m3 d3) (e : put4 wx g s1 A1 n1 c1 t1 B1 m1 d1 = V) : OneQ V s0 A0 n0 c0 t0 B0 m0 d0 q := by subst e; exact h.on4 b.bx
theorem Q3.pt {V : World} (h : Q3 w wx sa Aa na ca ta Ba ma da sb Ab nb cb tb Bb mb db sc Ac nc cc tc Bc mc dc p r u k) (b : Qbx wx g s3 A3 n3 c3 t3 B3 m3 d3) (hl : w.heap.size + 1 + 1 < g) (e : put4 wx g s1 A1 n1 c1 t1 B1 m1 d1 = V) : Q3 w V sa Aa na ca ta Ba ma da sb Ab nb cb tb Bb mb db sc Ac nc cc tc Bc mc dc p r u k :=
  by subst e; exact ⟨below_put4 h.bel (by omega), h.i1.put4_far (by omega), h.i2.put4_far (by omega), h.i3.put4_far (by omega), h.a.on4 b.bx, h.b.on4 b.bx, h.c.on4 b.bx⟩
theorem Qbx.fresh {V : World} (e : wx.alloc (Obj.cells #[.bool false, .slice none 0 0, .bool false, .slice none 0 0] 28) = V) : Qbx V wx.heap.size false none 0 0 false none 0 0 := by subst e; exact Qbx.new _ _ rfl
theorem Qbx.al {V : World} {o : Obj} (h : Qbx wx g s0 A0 n0 c0 t0 B0 m0 d0) (e : wx.alloc o = V) : Qbx V g s0 A0 n0 c0 t0 B0 m0 d0 := by subst e; exact h.alloc o
theorem OneQ.al {V : World} {o : Obj} (h : OneQ wx s0 A0 n0 c0 t0 B0 m0 d0 q) (e : wx.alloc o = V) : OneQ V s0 A0 n0 c0 t0 B0 m0 d0 q := by subst e; exact h.alloc o
theorem OneZ.al {V : World} {o : Obj} {z : Int} (h : OneZ wx s0 A0 n0 c0 z) (e : wx.alloc o = V) : OneZ V s0 A0 n0 c0 z := by subst e; exact h.alloc o
theorem Q3.alloc (h : Q3 w wx sa Aa na ca ta Ba ma da sb Ab nb cb tb Bb mb db sc Ac nc cc tc Bc mc dc p r u k) (o : Obj) : Q3 w (wx.alloc o) sa Aa na ca ta Ba ma da sb Ab nb cb tb Bb mb db sc Ac nc cc tc Bc mc dc p r u k := h.below ((Below.refl _ _).alloc (Nat.le_refl _) o)
theorem Q3.al {V : World} {o : Obj} (h : Q3 w wx sa Aa na ca ta Ba ma da sb Ab nb cb tb Bb mb db sc Ac nc cc tc Bc mc dc p r u k) (e : wx.alloc o = V) : Q3 w V sa Aa na ca ta Ba ma da sb Ab nb cb tb Bb mb db sc Ac nc cc tc Bc mc dc p r u k := by subst e; exact h.alloc o
end
theorem ql_if {p r : Rat} {c : Prop} [Decidable c] {k : Nat} (h1 : ql p ≤ k) (h2 : ql r ≤ k) : ql (if c then p else r) ≤ k := by split <;> assumption

theorem qtext_len (p : Rat) (h : ql p ≤ 12) : (qtext p).length ≤ 100000 := by
  have h1 := textOf_len p.num 12 (Nat.le_trans (num_le p) h) (by omega)
  have h2 := textOf_len (p.den : Int) 12 (by rw [den_zl]; exact Nat.le_trans (den_le p) h) (by omega)
  unfold qtext
  split
  · omega
  · rw [List.length_append, List.length_cons]; omega

theorem la {α : Type} {l : List α} {i : Nat} (h : i < l.toArray.size) : l.toArray[i] = l[i]'(by simpa using h) := List.getElem_toArray h
theorem lb {α : Type} {a : α} {l : List α} (h : 0 < (a :: l).length) : (a :: l)[0] = a := rfl
theorem lc {α : Type} {a : α} {l : List α} {i : Nat} (h : i + 1 < (a :: l).length) : (a :: l)[i + 1] = l[i]'(by simpa using h) := rfl
theorem ld {α : Type} {l : List α} {i : Nat} {a : α} : l.toArray.setIfInBounds i a = (l.set i a).toArray := List.setIfInBounds_toArray _ _ _
theorem le {α : Type} {a b : α} {l : List α} : (a :: l).set 0 b = b :: l := List.set_cons_zero
theorem lf {α : Type} {a b : α} {l : List α} {i : Nat} : (a :: l).set (i + 1) b = a :: l.set i b := List.set_cons_succ

set_option maxRecDepth 100000 in
set_option maxHeartbeats 8000000 in
theorem order_core (w : World) (sa : Bool) (Aa : Option Addr) (na ca : Nat) (ta : Bool) (Ba : Option Addr) (ma da : Nat) (sb : Bool) (Ab : Option Addr) (nb cb : Nat) (tb : Bool) (Bb : Option Addr) (mb db : Nat) (sc : Bool) (Ac : Option Addr) (nc cc : Nat) (tc : Bool) (Bc : Option Addr) (mc dc : Nat) (p r u : Rat) (h1 : IsQ w sa Aa na ca ta Ba ma da p 12) (h2 : IsQ w sb Ab nb cb tb Bb mb db r 12) (h3 : IsQ w sc Ac nc cc tc Bc mc dc u 12) (htab : Tab w) :
  Calls Tryz.prog 7 #[.agg #[.bool sa, .slice Aa na ca, .bool ta, .slice Ba ma da], .agg #[.bool sb, .slice Ab nb cb, .bool tb, .slice Bb mb db], .agg #[.bool sc, .slice Ac nc cc, .bool tc, .slice Bc mc dc]] w (RetB w true) := by
 have HL_p : Hid (ql p ≤ 12) := h1.ql (by omega)
 have HL_r : Hid (ql r ≤ 12) := h2.ql (by omega)
 have HL_u : Hid (ql u ≤ 12) := h3.ql (by omega)
 have HT := Lib.hid htab
 have HX := Lib.hid (Q3.start h1 h2 h3)
 have HSH : Hid (decide ((na ≤ 12 ∧ ma ≤ 12) ∧ (nb ≤ 12 ∧ mb ≤ 12) ∧ (nc ≤ 12 ∧ mc ≤ 12)) = true) := decide_eq_true ⟨⟨h1.le, h1.le2⟩, ⟨h2.le, h2.le2⟩, h3.le, h3.le2⟩
 obtain ⟨s1, he_s1⟩ : ∃ v : Rat, p + u = v := ⟨_, rfl⟩
 have HE_s1 := Lib.hid he_s1
 have HL_s1 : Hid (ql s1 ≤ 49) := by
  show _ ≤ _
  have h := (Nat.le_trans (ql_add p u) (by have := HL_p.out; have := HL_u.out; omega) : ql (p + u) ≤ 49)
  rw [he_s1] at h
  omega
 obtain ⟨s2, he_s2⟩ : ∃ v : Rat, r + u = v := ⟨_, rfl⟩
 have HE_s2 := Lib.hid he_s2
 have HL_s2 : Hid (ql s2 ≤ 49) := by
  show _ ≤ _
  have h := (Nat.le_trans (ql_add r u) (by have := HL_r.out; have := HL_u.out; omega) : ql (r + u) ≤ 49)
  rw [he_s2] at h
  omega
 obtain ⟨m1, he_m1⟩ : ∃ v : Rat, p * u = v := ⟨_, rfl⟩
 have HE_m1 := Lib.hid he_m1
 have HL_m1 : Hid (ql m1 ≤ 24) := by
  show _ ≤ _
  have h := (Nat.le_trans (ql_mul p u) (by have := HL_p.out; have := HL_u.out; omega) : ql (p * u) ≤ 24)
  rw [he_m1] at h
  omega
 obtain ⟨m2, he_m2⟩ : ∃ v : Rat, r * u = v := ⟨_, rfl⟩
 have HE_m2 := Lib.hid he_m2
 have HL_m2 : Hid (ql m2 ≤ 24) := by
  show _ ≤ _
  have h := (Nat.le_trans (ql_mul r u) (by have := HL_r.out; have := HL_u.out; omega) : ql (r * u) ≤ 24)
  rw [he_m2] at h
  omega
 obtain ⟨s4, he_s4⟩ : ∃ v : Rat, p + r = v := ⟨_, rfl⟩
 have HE_s4 := Lib.hid he_s4
 have HL_s4 : Hid (ql s4 ≤ 49) := by
  show _ ≤ _
  have h := (Nat.le_trans (ql_add p r) (by have := HL_p.out; have := HL_r.out; omega) : ql (p + r) ≤ 49)
  rw [he_s4] at h
  omega
 obtain ⟨m3, he_m3⟩ : ∃ v : Rat, p * p = v := ⟨_, rfl⟩
 have HE_m3 := Lib.hid he_m3
 have HL_m3 : Hid (ql m3 ≤ 24) := by
  show _ ≤ _
  have h := (Nat.le_trans (ql_mul p p) (by have := HL_p.out; have := HL_p.out; omega) : ql (p * p) ≤ 24)
  rw [he_m3] at h
  omega
 obtain ⟨mx, he_mx⟩ : ∃ v : Rat, (if p < r then r else p) = v := ⟨_, rfl⟩
 have HE_mx := Lib.hid he_mx
 have HL_mx : Hid (ql mx ≤ 12) := by
  show _ ≤ _
  have h := (ql_if HL_r.out HL_p.out : ql (if p < r then r else p) ≤ 12)
  rw [he_mx] at h
  omega
 obtain ⟨mn, he_mn⟩ : ∃ v : Rat, (if r < p then r else p) = v := ⟨_, rfl⟩
 have HE_mn := Lib.hid he_mn
 have HL_mn : Hid (ql mn ≤ 12) := by
  show _ ≤ _
  have h := (ql_if HL_r.out HL_p.out : ql (if r < p then r else p) ≤ 12)
  rw [he_mn] at h
  omega
 obtain ⟨ab, he_ab⟩ : ∃ v : Rat, (if p < 0 then -p else p) = v := ⟨_, rfl⟩
 have HE_ab := Lib.hid he_ab
 have HL_ab : Hid (ql ab ≤ 12) := by
  show _ ≤ _
  have h := (ql_if (Nat.le_trans (Nat.le_of_eq (ql_neg p)) HL_p.out) HL_p.out : ql (if p < 0 then -p else p) ≤ 12)
  rw [he_ab] at h
  omega
 obtain ⟨s3, he_s3⟩ : ∃ v : Rat, mx + mn = v := ⟨_, rfl⟩
 have HE_s3 := Lib.hid he_s3
 have HL_s3 : Hid (ql s3 ≤ 49) := by
  show _ ≤ _
  have h := (Nat.le_trans (ql_add mx mn) (by have := HL_mx.out; have := HL_mn.out; omega) : ql (mx + mn) ≤ 49)
  rw [he_s3] at h
  omega
 obtain ⟨m4, he_m4⟩ : ∃ v : Rat, ab * ab = v := ⟨_, rfl⟩
 have HE_m4 := Lib.hid he_m4
 have HL_m4 : Hid (ql m4 ≤ 24) := by
  show _ ≤ _
  have h := (Nat.le_trans (ql_mul ab ab) (by have := HL_ab.out; have := HL_ab.out; omega) : ql (ab * ab) ≤ 24)
  rw [he_m4] at h
  omega
 obtain ⟨one, he_one⟩ : ∃ v : Rat, Rat.divInt (1) (1) = v := ⟨_, rfl⟩
 have HE_one := Lib.hid he_one
 have HL_one : Hid (ql one ≤ 1) := by
  show _ ≤ _
  have h := ql_of (n := 1) (d := 1) (by omega) (by omega) (by omega) (by omega)
  rw [he_one] at h
  omega
 obtain ⟨fl, hfl⟩ : ∃ fl, p.floor = fl := ⟨_, rfl⟩
 obtain ⟨ce, hce⟩ : ∃ ce, p.ceil = ce := ⟨_, rfl⟩
 have hzf : zl fl ≤ 12 := by rw [← hfl]; exact floor_zl p 12 HL_p.out
 have hzc : zl ce ≤ 12 := by rw [← hce]; exact ceil_zl p 12 HL_p.out
 obtain ⟨qf, he_qf⟩ : ∃ v : Rat, ((fl : Int) : Rat) = v := ⟨_, rfl⟩
 have HE_qf := Lib.hid he_qf
 have HL_qf : Hid (ql qf ≤ 12) := by
  show _ ≤ _
  have h := ql_int fl 12 hzf (by omega)
  rw [he_qf] at h
  omega
 obtain ⟨qg, he_qg⟩ : ∃ v : Rat, ((ce : Int) : Rat) = v := ⟨_, rfl⟩
 have HE_qg := Lib.hid he_qg
 have HL_qg : Hid (ql qg ≤ 12) := by
  show _ ≤ _
  have h := ql_int ce 12 hzc (by omega)
  rw [he_qg] at h
  omega
 obtain ⟨f1, he_f1⟩ : ∃ v : Rat, qf + one = v := ⟨_, rfl⟩
 have HE_f1 := Lib.hid he_f1
 have HL_f1 : Hid (ql f1 ≤ 27) := by
  show _ ≤ _
  have h := (Nat.le_trans (ql_add qf one) (by have := HL_qf.out; have := HL_one.out; omega) : ql (qf + one) ≤ 27)
  rw [he_f1] at h
  omega
 obtain ⟨g1, he_g1⟩ : ∃ v : Rat, qg - one = v := ⟨_, rfl⟩
 have HE_g1 := Lib.hid he_g1
 have HL_g1 : Hid (ql g1 ≤ 27) := by
  show _ ≤ _
  have h := (Nat.le_trans (ql_sub qg one) (by have := HL_qg.out; have := HL_one.out; omega) : ql (qg - one) ≤ 27)
  rw [he_g1] at h
  omega
 obtain ⟨k, hk_k⟩ : ∃ v, qcmp p r = v := ⟨_, rfl⟩
 have HK_k := Lib.hid hk_k
 obtain ⟨nk, hk_nk⟩ : ∃ v, qcmp r p = v := ⟨_, rfl⟩
 have HK_nk := Lib.hid hk_nk
 obtain ⟨kbc, hk_kbc⟩ : ∃ v, qcmp r u = v := ⟨_, rfl⟩
 have HK_kbc := Lib.hid hk_kbc
 obtain ⟨kac, hk_kac⟩ : ∃ v, qcmp p u = v := ⟨_, rfl⟩
 have HK_kac := Lib.hid hk_kac
 obtain ⟨su, hk_su⟩ : ∃ v, qsign u = v := ⟨_, rfl⟩
 have HK_su := Lib.hid hk_su
 obtain ⟨ks, hk_ks⟩ : ∃ v, qcmp m1 m2 = v := ⟨_, rfl⟩
 have HK_ks := Lib.hid hk_ks
 obtain ⟨kmm, hk_kmm⟩ : ∃ v, qcmp mx mn = v := ⟨_, rfl⟩
 have HK_kmm := Lib.hid hk_kmm
 obtain ⟨sab, hk_sab⟩ : ∃ v, qsign ab = v := ⟨_, rfl⟩
 have HK_sab := Lib.hid hk_sab
 obtain ⟨k1, hk_k1⟩ : ∃ v, qcmp qf p = v := ⟨_, rfl⟩
 have HK_k1 := Lib.hid hk_k1
 obtain ⟨k2, hk_k2⟩ : ∃ v, qcmp p f1 = v := ⟨_, rfl⟩
 have HK_k2 := Lib.hid hk_k2
 obtain ⟨k3, hk_k3⟩ : ∃ v, qcmp qg p = v := ⟨_, rfl⟩
 have HK_k3 := Lib.hid hk_k3
 obtain ⟨k4, hk_k4⟩ : ∃ v, qcmp g1 p = v := ⟨_, rfl⟩
 have HK_k4 := Lib.hid hk_k4
 have E1 : Hid (qcmp s1 s2 = k) := by show _ = _; rw [← he_s1, ← he_s2, ← hk_k]; exact qcmp_add p r u
 have hks : k * su = ks := by rw [← hk_ks, ← he_m1, ← he_m2, ← hk_k, ← hk_su]; exact (qcmp_mul p r u).symm
 have hw1 : IntKind.i64.wrap (-nk) = k := by rw [← hk_nk, qcmp_swap p r, Int.neg_neg, hk_k]; exact IntWalk.i64_in _ (by have := qcmp_bound p r; omega)
 have hw2 : IntKind.i64.wrap (k * su) = ks := by rw [hks]; exact IntWalk.i64_in _ (by have := qcmp_bound m1 m2; omega)
 have HES : Hid (decide (s3 = s4) = true) := by
  show _ = _
  refine decide_eq_true ?_
  rw [← he_s3, ← he_s4, ← he_mx, ← he_mn]
  split <;> split <;> grind
 have h5 : 0 ≤ kmm := by
  rw [← hk_kmm, ← he_mx, ← he_mn]
  have h : ¬ qcmp (if p < r then r else p) (if r < p then r else p) < 0 := by rw [qcmp_neg_iff]; split <;> split <;> grind
  omega
 have h6 : 0 ≤ sab := by
  rw [← hk_sab, ← he_ab]
  have h : ¬ qsign (if p < 0 then -p else p) < 0 := by rw [qsign_neg_iff]; split <;> grind
  omega
 have HEM : Hid (decide (m3 = m4) = true) := by
  show _ = _
  refine decide_eq_true ?_
  rw [← he_m3, ← he_m4, ← he_ab]
  split <;> grind
 have h7 : k1 ≤ 0 := by rw [← hk_k1, ← he_qf, ← hfl]; exact floor_1 p
 have h8 : k2 < 0 := by rw [← hk_k2, ← he_f1, ← he_qf, ← hfl, ← he_one, div_one]; exact floor_2 p
 have h9 : 0 ≤ k3 := by rw [← hk_k3, ← he_qg, ← hce]; exact ceil_1 p
 have h10 : k4 < 0 := by rw [← hk_k4, ← he_g1, ← he_qg, ← hce, ← he_one, div_one]; exact ceil_2 p
 obtain ⟨vw, hvw⟩ : ∃ v, decide (qf = qg) = v := ⟨_, rfl⟩
 have HVW := Lib.hid hvw
 have HVD : Hid (decide (p.den = 1) = vw) := by
  show _ = _
  rw [← hvw, ← he_qf, ← he_qg, ← hfl, ← hce]
  by_cases h : p.den = 1
  ·
   rw [decide_eq_true h, decide_eq_true ((floor_ceil p).2 h)]
  ·
   rw [decide_eq_false h, decide_eq_false (fun h2 => h ((floor_ceil p).1 h2))]
 obtain ⟨tx, htx⟩ : ∃ tx, qtext p = tx := ⟨_, rfl⟩
 have HTX := Lib.hid htx
 have HPB : Hid (qparse tx = (p, 0)) := by show _ = _; rw [← htx]; exact parse_back p (Nat.le_trans HL_p.out (by omega))
 have HTL : Hid (tx.length ≤ 100000) := by show _ ≤ _; rw [← htx]; exact qtext_len p HL_p.out
 have HFL := Lib.hid hfl
 have HCE := Lib.hid hce
 have HZF : Hid (zl fl ≤ 700) := Nat.le_trans hzf (by omega)
 have HZC : Hid (zl ce ≤ 700) := Nat.le_trans hzc (by omega)
 have HQF := HE_qf
 have HQG := HE_qg
 have dh5 : decide (0 ≤ kmm) = true := decide_eq_true h5
 have dh6 : decide (0 ≤ sab) = true := decide_eq_true h6
 have dh7 : decide (k1 ≤ 0) = true := decide_eq_true h7
 have dh8 : decide (k2 < 0) = true := decide_eq_true h8
 have dh9 : decide (0 ≤ k3) = true := decide_eq_true h9
 have dh10 : decide (k4 < 0) = true := decide_eq_true h10
 clear h1 h2 h3 htab hks hfl hce hzf hzc hvw htx hk_k hk_nk hk_kbc hk_kac hk_su hk_ks hk_kmm hk_sab hk_k1 hk_k2 hk_k3 hk_k4 he_s1 he_s2 he_m1 he_m2 he_s4 he_m3 he_mx he_mn he_ab he_s3 he_m4 he_one he_qf he_qg he_f1 he_g1
 go_enter Tryz.func7, Tryz.ntmps7
 go_wp2_with fail
 refine (short_j _ sa Aa na ca ta Ba ma da sb Ab nb cb tb Bb mb db sc Ac nc cc tc Bc mc dc true HSH.out).mono ?_
 rintro e w1 ⟨rfl, hbx⟩
 replace HX := Lib.hid (HX.out.below hbx)
 clear hbx
 have k0 := HX.out.i1.c0
 have j0 := HX.out.i2.c0
 have k1 := HX.out.i1.c1
 have j1 := HX.out.i2.c1
 have k2 := HX.out.i1.c2
 have j2 := HX.out.i2.c2
 have k3 := HX.out.i1.c3
 have j3 := HX.out.i2.c3
 go_wp2_with fail
 refine (cmp_q (HX.out.a.mono (l := 700) (by omega)) (HX.out.b.mono (l := 700) (by omega)) (by omega) (by omega) (k) HK_k.out).mono ?_
 rintro e w2 ⟨rfl, hbx⟩
 replace HX := Lib.hid (HX.out.below hbx)
 clear hbx
 clear k0 k1 k2 k3 j0 j1 j2 j3
 go_upto_region 4 with fail
 go_cut [8] from 24 to 70 (fun s8 wx => s8 = .bool true ∧ Hid (Q3 w wx sa Aa na ca ta Ba ma da sb Ab nb cb tb Bb mb db sc Ac nc cc tc Bc mc dc p r u 12))
 case first =>
  as_aux_lemma =>
   rcases Decidable.em (0 < k) with hk0 | hk0
   ·
    have d1 : decide (0 < k) = true := decide_eq_true hk0
    replace HX := Lib.hid HX.out.drew
    refine wp_region_held_drew (S := (fun V => V.cell? ⟨w.heap.size, 0, none⟩ = some (.bool sa) ∧ V.cell? ⟨w.heap.size, 1, none⟩ = some (.slice Aa na ca) ∧ V.cell? ⟨w.heap.size, 2, none⟩ = some (.bool ta) ∧ V.cell? ⟨w.heap.size, 3, none⟩ = some (.slice Ba ma da) ∧ V.cell? ⟨w.heap.size + 1, 0, none⟩ = some (.bool sb) ∧ V.cell? ⟨w.heap.size + 1, 1, none⟩ = some (.slice Ab nb cb) ∧ V.cell? ⟨w.heap.size + 1, 2, none⟩ = some (.bool tb) ∧ V.cell? ⟨w.heap.size + 1, 3, none⟩ = some (.slice Bb mb db) ∧ V.cell? ⟨w.heap.size + 1 + 1, 0, none⟩ = some (.bool sc) ∧ V.cell? ⟨w.heap.size + 1 + 1, 1, none⟩ = some (.slice Ac nc cc) ∧ V.cell? ⟨w.heap.size + 1 + 1, 2, none⟩ = some (.bool tc) ∧ V.cell? ⟨w.heap.size + 1 + 1, 3, none⟩ = some (.slice Bc mc dc))) (by kernel_rfl) (by with_reducible exact HX.out.keep) (fun hHeld => ?_)
    refine' wpAnyH_take (i := 0) (v := _) rfl (by kernel_rfl) (by kernel_rfl) (by kernel_rfl) (fun _ _ _ h => h) (Or.inl ⟨by rfl, ?y1⟩) (by assumption) ?r1
    case y1 => (intro w hS; (try dsimp only at hS); try simp only [la, lb]; go_simp; (try with_reducible rfl))
    try simp only [la, lb]
    try simp only [Act.put, ld, le, lf]
    refine' wpAnyH_take (i := 1) (v := _) rfl (by kernel_rfl) (by kernel_rfl) (by kernel_rfl) (fun _ _ _ h => h) (Or.inl ⟨by rfl, ?y2⟩) (by assumption) ?r2
    case y2 => (intro w hS; (try dsimp only at hS); try simp only [la, lb, lc]; go_simp; (try with_reducible rfl))
    try simp only [la, lb, lc]
    try simp only [Act.put, ld, le, lf]
    refine' wpAnyH_take (i := 2) (v := _) rfl (by kernel_rfl) (by kernel_rfl) (by kernel_rfl) (fun _ _ _ h => h) (Or.inl ⟨by rfl, ?y3⟩) (by assumption) ?r3
    case y3 => (intro w hS; (try dsimp only at hS); try simp only [la, lb, lc]; go_simp; (try with_reducible rfl))
    try simp only [la, lb, lc]
    try simp only [Act.put, ld, le, lf]
    refine wpAnyH_ready (rs := [3]) (by kernel_rfl) (by simp) ?_
    refine AllReadyH.cons rfl (fun K hK => ?_) AllReadyH.nil
    try simp only [la, lb, lc]
    go_simp
    with_reducible refine (cmp_q (HX.out.b.mono (l := 700) (by omega)) (HX.out.a.mono (l := 700) (by omega)) (by omega) (by omega) (nk) HK_nk.out).mono ?_
    rintro e w3 ⟨rfl, hbx⟩
    replace HX := Lib.hid (HX.out.below hbx)
    clear hbx
    refine hK.out _ _ (by with_reducible exact HX.out.keep) (fun hHeld => ?_)
    clear hK K
    try simp only [Act.put, ld, le, lf]
    refine' wpAnyH_take (i := 4) (v := _) rfl (by kernel_rfl) (by kernel_rfl) (by kernel_rfl) (fun _ _ _ h => h) (Or.inl ⟨by rfl, ?y4⟩) (by assumption) ?r4
    case y4 => (intro w hS; (try dsimp only at hS); try simp only [la, lb, lc]; go_simp; (try with_reducible rfl))
    try simp only [la, lb, lc]
    try simp only [Act.put, ld, le, lf]
    refine' wpAnyH_take (i := 5) (v := _) rfl (by kernel_rfl) (by kernel_rfl) (by kernel_rfl) (fun _ _ _ h => h) (Or.inl ⟨by rfl, ?y5⟩) (by assumption) ?r5
    case y5 => (intro w hS; (try dsimp only at hS); try simp only [la, lb, lc]; go_simp; (try with_reducible rfl))
    try simp only [la, lb, lc]
    try simp only [Act.put, ld, le, lf]
    refine' wpAnyH_take (i := 6) (v := _) rfl (by kernel_rfl) (by kernel_rfl) (by kernel_rfl) (fun _ _ _ h => h) (Or.inl ⟨by rfl, ?y6⟩) (by assumption) ?r6
    case y6 => (intro w hS; (try dsimp only at hS); try simp only [la, lb, lc]; go_simp; (try with_reducible rfl))
    try simp only [la, lb, lc]
    try simp only [Act.put, ld, le, lf]
    refine' wpAnyH_take (i := 7) (v := _) rfl (by kernel_rfl) (by kernel_rfl) (by kernel_rfl) (fun _ _ _ h => h) (Or.inl ⟨by rfl, ?y7⟩) (by assumption) ?r7
    case y7 => (intro w hS; (try dsimp only at hS); try simp only [la, lb, lc]; go_simp; (try with_reducible rfl))
    try simp only [la, lb, lc]
    try simp only [Act.put, ld, le, lf]
    refine' wpAnyH_take (i := 8) (v := _) rfl (by kernel_rfl) (by kernel_rfl) (by kernel_rfl) (fun _ _ _ h => h) (Or.inl ⟨by rfl, ?y8⟩) (by assumption) ?r8
    case y8 => (intro w hS; (try dsimp only at hS); try simp only [la, lb, lc]; go_simp; (try with_reducible rfl))
    try simp only [la, lb, lc]
    try simp only [Act.put, ld, le, lf]
    refine' wpAnyH_take (i := 9) (v := _) rfl (by kernel_rfl) (by kernel_rfl) (by kernel_rfl) (fun _ _ _ h => h) (Or.inl ⟨by rfl, ?y9⟩) (by assumption) ?r9
    case y9 => (intro w hS; (try dsimp only at hS); try simp only [la, lb, lc]; go_simp; (try with_reducible rfl))
    try simp only [la, lb, lc]
    try simp only [Act.put, ld, le, lf]
    refine' wpAnyH_take (i := 11) (v := _) rfl (by kernel_rfl) (by kernel_rfl) (by kernel_rfl) (fun _ _ _ h => h) (Or.inl ⟨by rfl, ?y10⟩) (by assumption) ?r10
    case y10 => (intro w hS; (try dsimp only at hS); try simp only [la, lb, lc]; go_simp; (try with_reducible rfl))
    try simp only [la, lb, lc]
    try simp only [Act.put, ld, le, lf]
    refine' wpAnyH_take (i := 12) (v := _) rfl (by kernel_rfl) (by kernel_rfl) (by kernel_rfl) (fun _ _ _ h => h) (Or.inl ⟨by rfl, ?y11⟩) (by assumption) ?r11
    case y11 => (intro w hS; (try dsimp only at hS); try simp only [la, lb, lc]; go_simp; (try with_reducible rfl))
    try simp only [la, lb, lc]
    try simp only [Act.put, ld, le, lf]
    refine wpAnyH_ready (rs := [10]) (by kernel_rfl) (by simp) ?_
    refine AllReadyH.cons rfl (fun K hK => ?_) AllReadyH.nil
    try simp only [la, lb, lc]
    go_simp
    with_reducible refine (add_q (HX.out.a.mono (l := 700) (by omega)) (HX.out.c.mono (l := 700) (by omega)) (by omega) (by omega) s1 HE_s1.out).mono ?_
    rintro e w4 ⟨s_x1, A_x1, n_x1, c_x1, t_x1, B_x1, m_x1, d_x1, rfl, h_x1, hbx⟩
    replace HX := Lib.hid (HX.out.below hbx)
    have H_x1 := Lib.hid h_x1
    clear hbx
    refine hK.out _ _ (by with_reducible exact HX.out.keep) (fun hHeld => ?_)
    clear hK K
    try simp only [Act.put, ld, le, lf]
    refine wpAnyH_ready (rs := [13]) (by kernel_rfl) (by simp) ?_
    refine AllReadyH.cons rfl (fun K hK => ?_) AllReadyH.nil
    try simp only [la, lb, lc]
    go_simp
    with_reducible refine (add_q (HX.out.b.mono (l := 700) (by omega)) (HX.out.c.mono (l := 700) (by omega)) (by omega) (by omega) s2 HE_s2.out).mono ?_
    rintro e w5 ⟨s_x2, A_x2, n_x2, c_x2, t_x2, B_x2, m_x2, d_x2, rfl, h_x2, hbx⟩
    replace HX := Lib.hid (HX.out.below hbx)
    replace H_x1 := Lib.hid (H_x1.out.below hbx)
    have H_x2 := Lib.hid h_x2
    clear hbx
    refine hK.out _ _ (by with_reducible exact HX.out.keep) (fun hHeld => ?_)
    clear hK K
    try simp only [Act.put, ld, le, lf]
    refine wpAnyH_ready (rs := [14]) (by kernel_rfl) (by simp) ?_
    refine AllReadyH.cons rfl (fun K hK => ?_) AllReadyH.nil
    try simp only [la, lb, lc]
    go_simp
    with_reducible refine (cmp_q (H_x1.out.isq (k := 700) (Nat.le_trans HL_s1.out (by omega))) (H_x2.out.isq (k := 700) (Nat.le_trans HL_s2.out (by omega))) (by omega) (by omega) (k) E1.out).mono ?_
    rintro e w6 ⟨rfl, hbx⟩
    replace HX := Lib.hid (HX.out.below hbx)
    replace H_x1 := Lib.hid (H_x1.out.below hbx)
    replace H_x2 := Lib.hid (H_x2.out.below hbx)
    clear hbx
    refine hK.out _ _ (by with_reducible exact HX.out.keep) (fun hHeld => ?_)
    clear hK K
    try simp only [Act.put, ld, le, lf]
    refine' wpAnyH_take (i := 15) (v := _) rfl (by kernel_rfl) (by kernel_rfl) (by kernel_rfl) (fun _ _ _ h => h) (Or.inl ⟨by rfl, ?y12⟩) (by assumption) ?r12
    case y12 => (intro w hS; (try dsimp only at hS); try simp only [la, lb, lc]; go_simp; (try with_reducible rfl))
    try simp only [la, lb, lc]
    try simp only [Act.put, ld, le, lf]
    refine' wpAnyH_take (i := 16) (v := _) rfl (by kernel_rfl) (by kernel_rfl) (by kernel_rfl) (fun _ _ _ h => h) (Or.inl ⟨by rfl, ?y13⟩) (by assumption) ?r13
    case y13 => (intro w hS; (try dsimp only at hS); try simp only [la, lb, lc]; go_simp; (try with_reducible rfl))
    try simp only [la, lb, lc]
    try simp only [Act.put, ld, le, lf]
    refine' wpAnyH_take (i := 17) (v := _) rfl (by kernel_rfl) (by kernel_rfl) (by kernel_rfl) (fun _ _ _ h => h) (Or.inl ⟨by rfl, ?y14⟩) (by assumption) ?r14
    case y14 => (intro w hS; (try dsimp only at hS); try simp only [la, lb, lc]; go_simp; (try with_reducible rfl))
    try simp only [la, lb, lc]
    try simp only [Act.put, ld, le, lf]
    refine' wpAnyH_take (i := 18) (v := _) rfl (by kernel_rfl) (by kernel_rfl) (by kernel_rfl) (fun _ _ _ h => h) (Or.inl ⟨by rfl, ?y15⟩) (by assumption) ?r15
    case y15 => (intro w hS; (try dsimp only at hS); try simp only [la, lb, lc]; go_simp; (try with_reducible rfl))
    try simp only [la, lb, lc]
    try simp only [Act.put, ld, le, lf]
    refine' wpAnyH_take (i := 19) (v := _) rfl (by kernel_rfl) (by kernel_rfl) (by kernel_rfl) (fun _ _ _ h => h) (Or.inl ⟨by rfl, ?y16⟩) (by assumption) ?r16
    case y16 => (intro w hS; (try dsimp only at hS); try simp only [la, lb, lc]; go_simp; (try with_reducible rfl))
    try simp only [la, lb, lc]
    try simp only [Act.put, ld, le, lf]
    refine' wpAnyH_take (i := 22) (v := _) rfl (by kernel_rfl) (by kernel_rfl) (by kernel_rfl) (fun _ _ _ h => h) (Or.inl ⟨by rfl, ?y17⟩) (by assumption) ?r17
    case y17 => (intro w hS; (try dsimp only at hS); try simp only [la, lb, lc]; go_simp; (try with_reducible rfl))
    try simp only [la, lb, lc]
    try simp only [Act.put, ld, le, lf]
    refine' wpAnyH_take (i := 23) (v := _) rfl (by kernel_rfl) (by kernel_rfl) (by kernel_rfl) (fun _ _ _ h => h) (Or.inl ⟨by rfl, ?y18⟩) (by assumption) ?r18
    case y18 => (intro w hS; (try dsimp only at hS); try simp only [la, lb, lc]; go_simp; (try with_reducible rfl))
    try simp only [la, lb, lc]
    try simp only [Act.put, ld, le, lf]
    refine' wpAnyH_take (i := 25) (v := _) rfl (by kernel_rfl) (by kernel_rfl) (by kernel_rfl) (fun _ _ _ h => h) (Or.inl ⟨by rfl, ?y19⟩) (by assumption) ?r19
    case y19 => (intro w hS; (try dsimp only at hS); try simp only [la, lb, lc]; go_simp; (try with_reducible rfl))
    try simp only [la, lb, lc]
    try simp only [Act.put, ld, le, lf]
    refine' wpAnyH_take (i := 26) (v := _) rfl (by kernel_rfl) (by kernel_rfl) (by kernel_rfl) (fun _ _ _ h => h) (Or.inl ⟨by rfl, ?y20⟩) (by assumption) ?r20
    case y20 => (intro w hS; (try dsimp only at hS); try simp only [la, lb, lc]; go_simp; (try with_reducible rfl))
    try simp only [la, lb, lc]
    try simp only [Act.put, ld, le, lf]
    refine wpAnyH_ready (rs := [20]) (by kernel_rfl) (by simp) ?_
    refine AllReadyH.cons rfl (fun K hK => ?_) AllReadyH.nil
    try simp only [la, lb, lc]
    go_simp
    with_reducible refine (sign_q (HX.out.c.mono (l := 700) (by omega)) (by omega) (su) HK_su.out).mono ?_
    rintro e w7 ⟨rfl, hbx⟩
    replace HX := Lib.hid (HX.out.below hbx)
    clear hbx
    refine hK.out _ _ (by with_reducible exact HX.out.keep) (fun hHeld => ?_)
    clear hK K
    try simp only [Act.put, ld, le, lf]
    refine' wpAnyH_take (i := 21) (v := _) rfl (by kernel_rfl) (by kernel_rfl) (by kernel_rfl) (fun _ _ _ h => h) (Or.inl ⟨by rfl, ?y21⟩) (by assumption) ?r21
    case y21 => (intro w hS; (try dsimp only at hS); try simp only [la, lb, lc]; go_simp; (try with_reducible rfl))
    try simp only [la, lb, lc]
    try simp only [Act.put, ld, le, lf]
    refine wpAnyH_ready (rs := [24]) (by kernel_rfl) (by simp) ?_
    refine AllReadyH.cons rfl (fun K hK => ?_) AllReadyH.nil
    try simp only [la, lb, lc]
    go_simp
    with_reducible refine (mul_q (HX.out.a.mono (l := 700) (by omega)) (HX.out.c.mono (l := 700) (by omega)) (by omega) (by omega) m1 HE_m1.out).mono ?_
    rintro e w8 ⟨s_x3, A_x3, n_x3, c_x3, t_x3, B_x3, m_x3, d_x3, rfl, h_x3, hbx⟩
    replace HX := Lib.hid (HX.out.below hbx)
    have H_x3 := Lib.hid h_x3
    clear hbx
    refine hK.out _ _ (by with_reducible exact HX.out.keep) (fun hHeld => ?_)
    clear hK K
    try simp only [Act.put, ld, le, lf]
    refine wpAnyH_ready (rs := [27]) (by kernel_rfl) (by simp) ?_
    refine AllReadyH.cons rfl (fun K hK => ?_) AllReadyH.nil
    try simp only [la, lb, lc]
    go_simp
    with_reducible refine (mul_q (HX.out.b.mono (l := 700) (by omega)) (HX.out.c.mono (l := 700) (by omega)) (by omega) (by omega) m2 HE_m2.out).mono ?_
    rintro e w9 ⟨s_x4, A_x4, n_x4, c_x4, t_x4, B_x4, m_x4, d_x4, rfl, h_x4, hbx⟩
    replace HX := Lib.hid (HX.out.below hbx)
    replace H_x3 := Lib.hid (H_x3.out.below hbx)
    have H_x4 := Lib.hid h_x4
    clear hbx
    refine hK.out _ _ (by with_reducible exact HX.out.keep) (fun hHeld => ?_)
    clear hK K
    try simp only [Act.put, ld, le, lf]
    refine wpAnyH_ready (rs := [28]) (by kernel_rfl) (by simp) ?_
    refine AllReadyH.cons rfl (fun K hK => ?_) AllReadyH.nil
    try simp only [la, lb, lc]
    go_simp
    with_reducible refine (cmp_q (H_x3.out.isq (k := 700) (Nat.le_trans HL_m1.out (by omega))) (H_x4.out.isq (k := 700) (Nat.le_trans HL_m2.out (by omega))) (by omega) (by omega) (ks) HK_ks.out).mono ?_
    rintro e w10 ⟨rfl, hbx⟩
    replace HX := Lib.hid (HX.out.below hbx)
    replace H_x3 := Lib.hid (H_x3.out.below hbx)
    replace H_x4 := Lib.hid (H_x4.out.below hbx)
    clear hbx
    refine hK.out _ _ (by with_reducible exact HX.out.keep) (fun hHeld => ?_)
    clear hK K
    try simp only [Act.put, ld, le, lf]
    refine' wpAnyH_take (i := 29) (v := _) rfl (by kernel_rfl) (by kernel_rfl) (by kernel_rfl) (fun _ _ _ h => h) (Or.inl ⟨by rfl, ?y22⟩) (by assumption) ?r22
    case y22 => (intro w hS; (try dsimp only at hS); try simp only [la, lb, lc]; go_simp; (try with_reducible rfl))
    try simp only [la, lb, lc]
    try simp only [Act.put, ld, le, lf]
    refine' wpAnyH_take (i := 30) (v := _) rfl (by kernel_rfl) (by kernel_rfl) (by kernel_rfl) (fun _ _ _ h => h) (Or.inl ⟨by rfl, ?y23⟩) (by assumption) ?r23
    case y23 => (intro w hS; (try dsimp only at hS); try simp only [la, lb, lc]; go_simp; (try with_reducible rfl))
    try simp only [la, lb, lc]
    try simp only [Act.put, ld, le, lf]
    refine' wpAnyH_take (i := 31) (v := _) rfl (by kernel_rfl) (by kernel_rfl) (by kernel_rfl) (fun _ _ _ h => h) (Or.inl ⟨by rfl, ?y24⟩) (by assumption) ?r24
    case y24 => (intro w hS; (try dsimp only at hS); try simp only [la, lb, lc]; go_simp; (try with_reducible rfl))
    try simp only [la, lb, lc]
    try simp only [Act.put, ld, le, lf]
    refine' wpAnyH_take (i := 32) (v := _) rfl (by kernel_rfl) (by kernel_rfl) (by kernel_rfl) (fun _ _ _ h => h) (Or.inl ⟨by rfl, ?y25⟩) (by assumption) ?r25
    case y25 => (intro w hS; (try dsimp only at hS); try simp only [la, lb, lc]; go_simp; (try with_reducible rfl))
    try simp only [la, lb, lc]
    try simp only [Act.put, ld, le, lf]
    refine' wpAnyH_take (i := 33) (v := _) rfl (by kernel_rfl) (by kernel_rfl) (by kernel_rfl) (fun _ _ _ h => h) (Or.inl ⟨by rfl, ?y26⟩) (by assumption) ?r26
    case y26 => (intro w hS; (try dsimp only at hS); try simp only [la, lb, lc]; go_simp; (try with_reducible rfl))
    try simp only [la, lb, lc]
    try simp only [Act.put, ld, le, lf]
    refine' wpAnyH_take (i := 34) (v := _) rfl (by kernel_rfl) (by kernel_rfl) (by kernel_rfl) (fun _ _ _ h => h) (Or.inl ⟨by rfl, ?y27⟩) (by assumption) ?r27
    case y27 => (intro w hS; (try dsimp only at hS); try simp only [la, lb, lc]; go_simp; (try with_reducible rfl))
    try simp only [la, lb, lc]
    try simp only [Act.put, ld, le, lf]
    refine wpAnyH_take (i := 35) (v := undef) rfl (by kernel_rfl) (by kernel_rfl) (by kernel_rfl) (fun _ _ _ h => h) (Or.inr ⟨by rfl, rfl⟩) (by assumption) ?_
    try simp only [la, lb, lc]
    try simp only [Act.put, ld, le, lf]
    refine wpAnyH_take (i := 36) (v := undef) rfl (by kernel_rfl) (by kernel_rfl) (by kernel_rfl) (fun _ _ _ h => h) (Or.inr ⟨by rfl, rfl⟩) (by assumption) ?_
    try simp only [la, lb, lc]
    try simp only [Act.put, ld, le, lf]
    refine wpAnyH_take (i := 37) (v := undef) rfl (by kernel_rfl) (by kernel_rfl) (by kernel_rfl) (fun _ _ _ h => h) (Or.inr ⟨by rfl, rfl⟩) (by assumption) ?_
    try simp only [la, lb, lc]
    try simp only [Act.put, ld, le, lf]
    refine wpAnyH_take (i := 38) (v := undef) rfl (by kernel_rfl) (by kernel_rfl) (by kernel_rfl) (fun _ _ _ h => h) (Or.inr ⟨by rfl, rfl⟩) (by assumption) ?_
    try simp only [la, lb, lc]
    try simp only [Act.put, ld, le, lf]
    refine' wpAnyH_take (i := 39) (v := _) rfl (by kernel_rfl) (by kernel_rfl) (by kernel_rfl) (fun _ _ _ h => h) (Or.inl ⟨by rfl, ?y28⟩) (by assumption) ?r28
    case y28 => (intro w hS; (try dsimp only at hS); try simp only [la, lb, lc]; go_simp; (try with_reducible rfl))
    try simp only [la, lb, lc]
    try simp only [Act.put, ld, le, lf]
    refine' wpAnyH_take (i := 40) (v := _) rfl (by kernel_rfl) (by kernel_rfl) (by kernel_rfl) (fun _ _ _ h => h) (Or.inl ⟨by rfl, ?y29⟩) (by assumption) ?r29
    case y29 => (intro w hS; (try dsimp only at hS); try simp only [la, lb, lc]; go_simp; (try with_reducible rfl))
    try simp only [la, lb, lc]
    try simp only [Act.put, ld, le, lf]
    refine wpAnyH_take (i := 41) (v := undef) rfl (by kernel_rfl) (by kernel_rfl) (by kernel_rfl) (fun _ _ _ h => h) (Or.inr ⟨by rfl, rfl⟩) (by assumption) ?_
    try simp only [la, lb, lc]
    try simp only [Act.put, ld, le, lf]
    refine wpAnyH_take (i := 42) (v := undef) rfl (by kernel_rfl) (by kernel_rfl) (by kernel_rfl) (fun _ _ _ h => h) (Or.inr ⟨by rfl, rfl⟩) (by assumption) ?_
    try simp only [la, lb, lc]
    try simp only [Act.put, ld, le, lf]
    refine wpAnyH_take (i := 43) (v := undef) rfl (by kernel_rfl) (by kernel_rfl) (by kernel_rfl) (fun _ _ _ h => h) (Or.inr ⟨by rfl, rfl⟩) (by assumption) ?_
    try simp only [la, lb, lc]
    try simp only [Act.put, ld, le, lf]
    refine wpAnyH_take (i := 44) (v := undef) rfl (by kernel_rfl) (by kernel_rfl) (by kernel_rfl) (fun _ _ _ h => h) (Or.inr ⟨by rfl, rfl⟩) (by assumption) ?_
    try simp only [la, lb, lc]
    try simp only [Act.put, ld, le, lf]
    refine' wpAnyH_take (i := 45) (v := _) rfl (by kernel_rfl) (by kernel_rfl) (by kernel_rfl) (fun _ _ _ h => h) (Or.inl ⟨by rfl, ?y30⟩) (by assumption) ?r30
    case y30 => (intro w hS; (try dsimp only at hS); try simp only [la, lb, lc]; go_simp; (try with_reducible rfl))
    try simp only [la, lb, lc]
    try simp only [Act.put, ld, le, lf]
    refine' wpAnyH_take (i := 46) (v := _) rfl (by kernel_rfl) (by kernel_rfl) (by kernel_rfl) (fun _ _ _ h => h) (Or.inl ⟨by rfl, ?y31⟩) (by assumption) ?r31
    case y31 => (intro w hS; (try dsimp only at hS); try simp only [la, lb, lc]; go_simp; (try with_reducible rfl))
    try simp only [la, lb, lc]
    try simp only [Act.put, ld, le, lf]
    refine' wpAnyH_take (i := 47) (v := _) rfl (by kernel_rfl) (by kernel_rfl) (by kernel_rfl) (fun _ _ _ h => h) (Or.inl ⟨by rfl, ?y32⟩) (by assumption) ?r32
    case y32 => (intro w hS; (try dsimp only at hS); try simp only [la, lb, lc]; go_simp; (try with_reducible rfl))
    try simp only [la, lb, lc]
    try simp only [Act.put, ld, le, lf]
    refine wpAnyH_done (by kernel_rfl) ?_ _
    go_wp2_with fail
    go_meet
    exact ⟨rfl, HX.out⟩
   ·
    have d1 : decide (0 < k) = false := decide_eq_false hk0
    rcases Decidable.em (0 < kbc) with hk1 | hk1
    ·
     have d2 : decide (0 < kbc) = true := decide_eq_true hk1
     replace HX := Lib.hid HX.out.drew
     refine wp_region_held_drew (S := (fun V => V.cell? ⟨w.heap.size, 0, none⟩ = some (.bool sa) ∧ V.cell? ⟨w.heap.size, 1, none⟩ = some (.slice Aa na ca) ∧ V.cell? ⟨w.heap.size, 2, none⟩ = some (.bool ta) ∧ V.cell? ⟨w.heap.size, 3, none⟩ = some (.slice Ba ma da) ∧ V.cell? ⟨w.heap.size + 1, 0, none⟩ = some (.bool sb) ∧ V.cell? ⟨w.heap.size + 1, 1, none⟩ = some (.slice Ab nb cb) ∧ V.cell? ⟨w.heap.size + 1, 2, none⟩ = some (.bool tb) ∧ V.cell? ⟨w.heap.size + 1, 3, none⟩ = some (.slice Bb mb db) ∧ V.cell? ⟨w.heap.size + 1 + 1, 0, none⟩ = some (.bool sc) ∧ V.cell? ⟨w.heap.size + 1 + 1, 1, none⟩ = some (.slice Ac nc cc) ∧ V.cell? ⟨w.heap.size + 1 + 1, 2, none⟩ = some (.bool tc) ∧ V.cell? ⟨w.heap.size + 1 + 1, 3, none⟩ = some (.slice Bc mc dc))) (by kernel_rfl) (by with_reducible exact HX.out.keep) (fun hHeld => ?_)
     refine' wpAnyH_take (i := 0) (v := _) rfl (by kernel_rfl) (by kernel_rfl) (by kernel_rfl) (fun _ _ _ h => h) (Or.inl ⟨by rfl, ?y33⟩) (by assumption) ?r33
     case y33 => (intro w hS; (try dsimp only at hS); try simp only [la, lb]; go_simp; (try with_reducible rfl))
     try simp only [la, lb]
     try simp only [Act.put, ld, le, lf]
     refine' wpAnyH_take (i := 1) (v := _) rfl (by kernel_rfl) (by kernel_rfl) (by kernel_rfl) (fun _ _ _ h => h) (Or.inl ⟨by rfl, ?y34⟩) (by assumption) ?r34
     case y34 => (intro w hS; (try dsimp only at hS); try simp only [la, lb, lc]; go_simp; (try with_reducible rfl))
     try simp only [la, lb, lc]
     try simp only [Act.put, ld, le, lf]
     refine' wpAnyH_take (i := 2) (v := _) rfl (by kernel_rfl) (by kernel_rfl) (by kernel_rfl) (fun _ _ _ h => h) (Or.inl ⟨by rfl, ?y35⟩) (by assumption) ?r35
     case y35 => (intro w hS; (try dsimp only at hS); try simp only [la, lb, lc]; go_simp; (try with_reducible rfl))
     try simp only [la, lb, lc]
     try simp only [Act.put, ld, le, lf]
     refine wpAnyH_ready (rs := [3]) (by kernel_rfl) (by simp) ?_
     refine AllReadyH.cons rfl (fun K hK => ?_) AllReadyH.nil
     try simp only [la, lb, lc]
     go_simp
     with_reducible refine (cmp_q (HX.out.b.mono (l := 700) (by omega)) (HX.out.a.mono (l := 700) (by omega)) (by omega) (by omega) (nk) HK_nk.out).mono ?_
     rintro e w11 ⟨rfl, hbx⟩
     replace HX := Lib.hid (HX.out.below hbx)
     clear hbx
     refine hK.out _ _ (by with_reducible exact HX.out.keep) (fun hHeld => ?_)
     clear hK K
     try simp only [Act.put, ld, le, lf]
     refine' wpAnyH_take (i := 4) (v := _) rfl (by kernel_rfl) (by kernel_rfl) (by kernel_rfl) (fun _ _ _ h => h) (Or.inl ⟨by rfl, ?y36⟩) (by assumption) ?r36
     case y36 => (intro w hS; (try dsimp only at hS); try simp only [la, lb, lc]; go_simp; (try with_reducible rfl))
     try simp only [la, lb, lc]
     try simp only [Act.put, ld, le, lf]
     refine' wpAnyH_take (i := 5) (v := _) rfl (by kernel_rfl) (by kernel_rfl) (by kernel_rfl) (fun _ _ _ h => h) (Or.inl ⟨by rfl, ?y37⟩) (by assumption) ?r37
     case y37 => (intro w hS; (try dsimp only at hS); try simp only [la, lb, lc]; go_simp; (try with_reducible rfl))
     try simp only [la, lb, lc]
     try simp only [Act.put, ld, le, lf]
     refine' wpAnyH_take (i := 6) (v := _) rfl (by kernel_rfl) (by kernel_rfl) (by kernel_rfl) (fun _ _ _ h => h) (Or.inl ⟨by rfl, ?y38⟩) (by assumption) ?r38
     case y38 => (intro w hS; (try dsimp only at hS); try simp only [la, lb, lc]; go_simp; (try with_reducible rfl))
     try simp only [la, lb, lc]
     try simp only [Act.put, ld, le, lf]
     refine' wpAnyH_take (i := 7) (v := _) rfl (by kernel_rfl) (by kernel_rfl) (by kernel_rfl) (fun _ _ _ h => h) (Or.inl ⟨by rfl, ?y39⟩) (by assumption) ?r39
     case y39 => (intro w hS; (try dsimp only at hS); try simp only [la, lb, lc]; go_simp; (try with_reducible rfl))
     try simp only [la, lb, lc]
     try simp only [Act.put, ld, le, lf]
     refine' wpAnyH_take (i := 8) (v := _) rfl (by kernel_rfl) (by kernel_rfl) (by kernel_rfl) (fun _ _ _ h => h) (Or.inl ⟨by rfl, ?y40⟩) (by assumption) ?r40
     case y40 => (intro w hS; (try dsimp only at hS); try simp only [la, lb, lc]; go_simp; (try with_reducible rfl))
     try simp only [la, lb, lc]
     try simp only [Act.put, ld, le, lf]
     refine' wpAnyH_take (i := 9) (v := _) rfl (by kernel_rfl) (by kernel_rfl) (by kernel_rfl) (fun _ _ _ h => h) (Or.inl ⟨by rfl, ?y41⟩) (by assumption) ?r41
     case y41 => (intro w hS; (try dsimp only at hS); try simp only [la, lb, lc]; go_simp; (try with_reducible rfl))
     try simp only [la, lb, lc]
     try simp only [Act.put, ld, le, lf]
     refine' wpAnyH_take (i := 11) (v := _) rfl (by kernel_rfl) (by kernel_rfl) (by kernel_rfl) (fun _ _ _ h => h) (Or.inl ⟨by rfl, ?y42⟩) (by assumption) ?r42
     case y42 => (intro w hS; (try dsimp only at hS); try simp only [la, lb, lc]; go_simp; (try with_reducible rfl))
     try simp only [la, lb, lc]
     try simp only [Act.put, ld, le, lf]
     refine' wpAnyH_take (i := 12) (v := _) rfl (by kernel_rfl) (by kernel_rfl) (by kernel_rfl) (fun _ _ _ h => h) (Or.inl ⟨by rfl, ?y43⟩) (by assumption) ?r43
     case y43 => (intro w hS; (try dsimp only at hS); try simp only [la, lb, lc]; go_simp; (try with_reducible rfl))
     try simp only [la, lb, lc]
     try simp only [Act.put, ld, le, lf]
     refine wpAnyH_ready (rs := [10]) (by kernel_rfl) (by simp) ?_
     refine AllReadyH.cons rfl (fun K hK => ?_) AllReadyH.nil
     try simp only [la, lb, lc]
     go_simp
     with_reducible refine (add_q (HX.out.a.mono (l := 700) (by omega)) (HX.out.c.mono (l := 700) (by omega)) (by omega) (by omega) s1 HE_s1.out).mono ?_
     rintro e w12 ⟨s_x1, A_x1, n_x1, c_x1, t_x1, B_x1, m_x1, d_x1, rfl, h_x1, hbx⟩
     replace HX := Lib.hid (HX.out.below hbx)
     have H_x1 := Lib.hid h_x1
     clear hbx
     refine hK.out _ _ (by with_reducible exact HX.out.keep) (fun hHeld => ?_)
     clear hK K
     try simp only [Act.put, ld, le, lf]
     refine wpAnyH_ready (rs := [13]) (by kernel_rfl) (by simp) ?_
     refine AllReadyH.cons rfl (fun K hK => ?_) AllReadyH.nil
     try simp only [la, lb, lc]
     go_simp
     with_reducible refine (add_q (HX.out.b.mono (l := 700) (by omega)) (HX.out.c.mono (l := 700) (by omega)) (by omega) (by omega) s2 HE_s2.out).mono ?_
     rintro e w13 ⟨s_x2, A_x2, n_x2, c_x2, t_x2, B_x2, m_x2, d_x2, rfl, h_x2, hbx⟩
     replace HX := Lib.hid (HX.out.below hbx)
     replace H_x1 := Lib.hid (H_x1.out.below hbx)
     have H_x2 := Lib.hid h_x2
     clear hbx
     refine hK.out _ _ (by with_reducible exact HX.out.keep) (fun hHeld => ?_)
     clear hK K
     try simp only [Act.put, ld, le, lf]
     refine wpAnyH_ready (rs := [14]) (by kernel_rfl) (by simp) ?_
     refine AllReadyH.cons rfl (fun K hK => ?_) AllReadyH.nil
     try simp only [la, lb, lc]
     go_simp
     with_reducible refine (cmp_q (H_x1.out.isq (k := 700) (Nat.le_trans HL_s1.out (by omega))) (H_x2.out.isq (k := 700) (Nat.le_trans HL_s2.out (by omega))) (by omega) (by omega) (k) E1.out).mono ?_
     rintro e w14 ⟨rfl, hbx⟩
     replace HX := Lib.hid (HX.out.below hbx)
     replace H_x1 := Lib.hid (H_x1.out.below hbx)
     replace H_x2 := Lib.hid (H_x2.out.below hbx)
     clear hbx
     refine hK.out _ _ (by with_reducible exact HX.out.keep) (fun hHeld => ?_)
     clear hK K
     try simp only [Act.put, ld, le, lf]
     refine' wpAnyH_take (i := 15) (v := _) rfl (by kernel_rfl) (by kernel_rfl) (by kernel_rfl) (fun _ _ _ h => h) (Or.inl ⟨by rfl, ?y44⟩) (by assumption) ?r44
     case y44 => (intro w hS; (try dsimp only at hS); try simp only [la, lb, lc]; go_simp; (try with_reducible rfl))
     try simp only [la, lb, lc]
     try simp only [Act.put, ld, le, lf]
     refine' wpAnyH_take (i := 16) (v := _) rfl (by kernel_rfl) (by kernel_rfl) (by kernel_rfl) (fun _ _ _ h => h) (Or.inl ⟨by rfl, ?y45⟩) (by assumption) ?r45
     case y45 => (intro w hS; (try dsimp only at hS); try simp only [la, lb, lc]; go_simp; (try with_reducible rfl))
     try simp only [la, lb, lc]
     try simp only [Act.put, ld, le, lf]
     refine' wpAnyH_take (i := 17) (v := _) rfl (by kernel_rfl) (by kernel_rfl) (by kernel_rfl) (fun _ _ _ h => h) (Or.inl ⟨by rfl, ?y46⟩) (by assumption) ?r46
     case y46 => (intro w hS; (try dsimp only at hS); try simp only [la, lb, lc]; go_simp; (try with_reducible rfl))
     try simp only [la, lb, lc]
     try simp only [Act.put, ld, le, lf]
     refine' wpAnyH_take (i := 18) (v := _) rfl (by kernel_rfl) (by kernel_rfl) (by kernel_rfl) (fun _ _ _ h => h) (Or.inl ⟨by rfl, ?y47⟩) (by assumption) ?r47
     case y47 => (intro w hS; (try dsimp only at hS); try simp only [la, lb, lc]; go_simp; (try with_reducible rfl))
     try simp only [la, lb, lc]
     try simp only [Act.put, ld, le, lf]
     refine' wpAnyH_take (i := 19) (v := _) rfl (by kernel_rfl) (by kernel_rfl) (by kernel_rfl) (fun _ _ _ h => h) (Or.inl ⟨by rfl, ?y48⟩) (by assumption) ?r48
     case y48 => (intro w hS; (try dsimp only at hS); try simp only [la, lb, lc]; go_simp; (try with_reducible rfl))
     try simp only [la, lb, lc]
     try simp only [Act.put, ld, le, lf]
     refine' wpAnyH_take (i := 22) (v := _) rfl (by kernel_rfl) (by kernel_rfl) (by kernel_rfl) (fun _ _ _ h => h) (Or.inl ⟨by rfl, ?y49⟩) (by assumption) ?r49
     case y49 => (intro w hS; (try dsimp only at hS); try simp only [la, lb, lc]; go_simp; (try with_reducible rfl))
     try simp only [la, lb, lc]
     try simp only [Act.put, ld, le, lf]
     refine' wpAnyH_take (i := 23) (v := _) rfl (by kernel_rfl) (by kernel_rfl) (by kernel_rfl) (fun _ _ _ h => h) (Or.inl ⟨by rfl, ?y50⟩) (by assumption) ?r50
     case y50 => (intro w hS; (try dsimp only at hS); try simp only [la, lb, lc]; go_simp; (try with_reducible rfl))
     try simp only [la, lb, lc]
     try simp only [Act.put, ld, le, lf]
     refine' wpAnyH_take (i := 25) (v := _) rfl (by kernel_rfl) (by kernel_rfl) (by kernel_rfl) (fun _ _ _ h => h) (Or.inl ⟨by rfl, ?y51⟩) (by assumption) ?r51
     case y51 => (intro w hS; (try dsimp only at hS); try simp only [la, lb, lc]; go_simp; (try with_reducible rfl))
     try simp only [la, lb, lc]
     try simp only [Act.put, ld, le, lf]
     refine' wpAnyH_take (i := 26) (v := _) rfl (by kernel_rfl) (by kernel_rfl) (by kernel_rfl) (fun _ _ _ h => h) (Or.inl ⟨by rfl, ?y52⟩) (by assumption) ?r52
     case y52 => (intro w hS; (try dsimp only at hS); try simp only [la, lb, lc]; go_simp; (try with_reducible rfl))
     try simp only [la, lb, lc]
     try simp only [Act.put, ld, le, lf]
     refine wpAnyH_ready (rs := [20]) (by kernel_rfl) (by simp) ?_
     refine AllReadyH.cons rfl (fun K hK => ?_) AllReadyH.nil
     try simp only [la, lb, lc]
     go_simp
     with_reducible refine (sign_q (HX.out.c.mono (l := 700) (by omega)) (by omega) (su) HK_su.out).mono ?_
     rintro e w15 ⟨rfl, hbx⟩
     replace HX := Lib.hid (HX.out.below hbx)
     clear hbx
     refine hK.out _ _ (by with_reducible exact HX.out.keep) (fun hHeld => ?_)
     clear hK K
     try simp only [Act.put, ld, le, lf]
     refine' wpAnyH_take (i := 21) (v := _) rfl (by kernel_rfl) (by kernel_rfl) (by kernel_rfl) (fun _ _ _ h => h) (Or.inl ⟨by rfl, ?y53⟩) (by assumption) ?r53
     case y53 => (intro w hS; (try dsimp only at hS); try simp only [la, lb, lc]; go_simp; (try with_reducible rfl))
     try simp only [la, lb, lc]
     try simp only [Act.put, ld, le, lf]
     refine wpAnyH_ready (rs := [24]) (by kernel_rfl) (by simp) ?_
     refine AllReadyH.cons rfl (fun K hK => ?_) AllReadyH.nil
     try simp only [la, lb, lc]
     go_simp
     with_reducible refine (mul_q (HX.out.a.mono (l := 700) (by omega)) (HX.out.c.mono (l := 700) (by omega)) (by omega) (by omega) m1 HE_m1.out).mono ?_
     rintro e w16 ⟨s_x3, A_x3, n_x3, c_x3, t_x3, B_x3, m_x3, d_x3, rfl, h_x3, hbx⟩
     replace HX := Lib.hid (HX.out.below hbx)
     have H_x3 := Lib.hid h_x3
     clear hbx
     refine hK.out _ _ (by with_reducible exact HX.out.keep) (fun hHeld => ?_)
     clear hK K
     try simp only [Act.put, ld, le, lf]
     refine wpAnyH_ready (rs := [27]) (by kernel_rfl) (by simp) ?_
     refine AllReadyH.cons rfl (fun K hK => ?_) AllReadyH.nil
     try simp only [la, lb, lc]
     go_simp
     with_reducible refine (mul_q (HX.out.b.mono (l := 700) (by omega)) (HX.out.c.mono (l := 700) (by omega)) (by omega) (by omega) m2 HE_m2.out).mono ?_
     rintro e w17 ⟨s_x4, A_x4, n_x4, c_x4, t_x4, B_x4, m_x4, d_x4, rfl, h_x4, hbx⟩
     replace HX := Lib.hid (HX.out.below hbx)
     replace H_x3 := Lib.hid (H_x3.out.below hbx)
     have H_x4 := Lib.hid h_x4
     clear hbx
     refine hK.out _ _ (by with_reducible exact HX.out.keep) (fun hHeld => ?_)
     clear hK K
     try simp only [Act.put, ld, le, lf]
     refine wpAnyH_ready (rs := [28]) (by kernel_rfl) (by simp) ?_
     refine AllReadyH.cons rfl (fun K hK => ?_) AllReadyH.nil
     try simp only [la, lb, lc]
     go_simp
     with_reducible refine (cmp_q (H_x3.out.isq (k := 700) (Nat.le_trans HL_m1.out (by omega))) (H_x4.out.isq (k := 700) (Nat.le_trans HL_m2.out (by omega))) (by omega) (by omega) (ks) HK_ks.out).mono ?_
     rintro e w18 ⟨rfl, hbx⟩
     replace HX := Lib.hid (HX.out.below hbx)
     replace H_x3 := Lib.hid (H_x3.out.below hbx)
     replace H_x4 := Lib.hid (H_x4.out.below hbx)
     clear hbx
     refine hK.out _ _ (by with_reducible exact HX.out.keep) (fun hHeld => ?_)
     clear hK K
     try simp only [Act.put, ld, le, lf]
     refine' wpAnyH_take (i := 29) (v := _) rfl (by kernel_rfl) (by kernel_rfl) (by kernel_rfl) (fun _ _ _ h => h) (Or.inl ⟨by rfl, ?y54⟩) (by assumption) ?r54
     case y54 => (intro w hS; (try dsimp only at hS); try simp only [la, lb, lc]; go_simp; (try with_reducible rfl))
     try simp only [la, lb, lc]
     try simp only [Act.put, ld, le, lf]
     refine' wpAnyH_take (i := 30) (v := _) rfl (by kernel_rfl) (by kernel_rfl) (by kernel_rfl) (fun _ _ _ h => h) (Or.inl ⟨by rfl, ?y55⟩) (by assumption) ?r55
     case y55 => (intro w hS; (try dsimp only at hS); try simp only [la, lb, lc]; go_simp; (try with_reducible rfl))
     try simp only [la, lb, lc]
     try simp only [Act.put, ld, le, lf]
     refine' wpAnyH_take (i := 31) (v := _) rfl (by kernel_rfl) (by kernel_rfl) (by kernel_rfl) (fun _ _ _ h => h) (Or.inl ⟨by rfl, ?y56⟩) (by assumption) ?r56
     case y56 => (intro w hS; (try dsimp only at hS); try simp only [la, lb, lc]; go_simp; (try with_reducible rfl))
     try simp only [la, lb, lc]
     try simp only [Act.put, ld, le, lf]
     refine' wpAnyH_take (i := 32) (v := _) rfl (by kernel_rfl) (by kernel_rfl) (by kernel_rfl) (fun _ _ _ h => h) (Or.inl ⟨by rfl, ?y57⟩) (by assumption) ?r57
     case y57 => (intro w hS; (try dsimp only at hS); try simp only [la, lb, lc]; go_simp; (try with_reducible rfl))
     try simp only [la, lb, lc]
     try simp only [Act.put, ld, le, lf]
     refine' wpAnyH_take (i := 33) (v := _) rfl (by kernel_rfl) (by kernel_rfl) (by kernel_rfl) (fun _ _ _ h => h) (Or.inl ⟨by rfl, ?y58⟩) (by assumption) ?r58
     case y58 => (intro w hS; (try dsimp only at hS); try simp only [la, lb, lc]; go_simp; (try with_reducible rfl))
     try simp only [la, lb, lc]
     try simp only [Act.put, ld, le, lf]
     refine' wpAnyH_take (i := 34) (v := _) rfl (by kernel_rfl) (by kernel_rfl) (by kernel_rfl) (fun _ _ _ h => h) (Or.inl ⟨by rfl, ?y59⟩) (by assumption) ?r59
     case y59 => (intro w hS; (try dsimp only at hS); try simp only [la, lb, lc]; go_simp; (try with_reducible rfl))
     try simp only [la, lb, lc]
     try simp only [Act.put, ld, le, lf]
     refine' wpAnyH_take (i := 35) (v := _) rfl (by kernel_rfl) (by kernel_rfl) (by kernel_rfl) (fun _ _ _ h => h) (Or.inl ⟨by rfl, ?y60⟩) (by assumption) ?r60
     case y60 => (intro w hS; (try dsimp only at hS); try simp only [la, lb, lc]; go_simp; (try with_reducible rfl))
     try simp only [la, lb, lc]
     try simp only [Act.put, ld, le, lf]
     refine' wpAnyH_take (i := 36) (v := _) rfl (by kernel_rfl) (by kernel_rfl) (by kernel_rfl) (fun _ _ _ h => h) (Or.inl ⟨by rfl, ?y61⟩) (by assumption) ?r61
     case y61 => (intro w hS; (try dsimp only at hS); try simp only [la, lb, lc]; go_simp; (try with_reducible rfl))
     try simp only [la, lb, lc]
     try simp only [Act.put, ld, le, lf]
     refine wpAnyH_ready (rs := [37]) (by kernel_rfl) (by simp) ?_
     refine AllReadyH.cons rfl (fun K hK => ?_) AllReadyH.nil
     try simp only [la, lb, lc]
     go_simp
     with_reducible refine (cmp_q (HX.out.b.mono (l := 700) (by omega)) (HX.out.c.mono (l := 700) (by omega)) (by omega) (by omega) (kbc) HK_kbc.out).mono ?_
     rintro e w19 ⟨rfl, hbx⟩
     replace HX := Lib.hid (HX.out.below hbx)
     clear hbx
     refine hK.out _ _ (by with_reducible exact HX.out.keep) (fun hHeld => ?_)
     clear hK K
     try simp only [Act.put, ld, le, lf]
     refine' wpAnyH_take (i := 38) (v := _) rfl (by kernel_rfl) (by kernel_rfl) (by kernel_rfl) (fun _ _ _ h => h) (Or.inl ⟨by rfl, ?y62⟩) (by assumption) ?r62
     case y62 => (intro w hS; (try dsimp only at hS); try simp only [la, lb, lc]; go_simp; (try with_reducible rfl))
     try simp only [la, lb, lc]
     try simp only [Act.put, ld, le, lf]
     refine' wpAnyH_take (i := 39) (v := _) rfl (by kernel_rfl) (by kernel_rfl) (by kernel_rfl) (fun _ _ _ h => h) (Or.inl ⟨by rfl, ?y63⟩) (by assumption) ?r63
     case y63 => (intro w hS; (try dsimp only at hS); try simp only [la, lb, lc]; go_simp; (try with_reducible rfl))
     try simp only [la, lb, lc]
     try simp only [Act.put, ld, le, lf]
     refine' wpAnyH_take (i := 40) (v := _) rfl (by kernel_rfl) (by kernel_rfl) (by kernel_rfl) (fun _ _ _ h => h) (Or.inl ⟨by rfl, ?y64⟩) (by assumption) ?r64
     case y64 => (intro w hS; (try dsimp only at hS); try simp only [la, lb, lc]; go_simp; (try with_reducible rfl))
     try simp only [la, lb, lc]
     try simp only [Act.put, ld, le, lf]
     refine wpAnyH_take (i := 41) (v := undef) rfl (by kernel_rfl) (by kernel_rfl) (by kernel_rfl) (fun _ _ _ h => h) (Or.inr ⟨by rfl, rfl⟩) (by assumption) ?_
     try simp only [la, lb, lc]
     try simp only [Act.put, ld, le, lf]
     refine wpAnyH_take (i := 42) (v := undef) rfl (by kernel_rfl) (by kernel_rfl) (by kernel_rfl) (fun _ _ _ h => h) (Or.inr ⟨by rfl, rfl⟩) (by assumption) ?_
     try simp only [la, lb, lc]
     try simp only [Act.put, ld, le, lf]
     refine wpAnyH_take (i := 43) (v := undef) rfl (by kernel_rfl) (by kernel_rfl) (by kernel_rfl) (fun _ _ _ h => h) (Or.inr ⟨by rfl, rfl⟩) (by assumption) ?_
     try simp only [la, lb, lc]
     try simp only [Act.put, ld, le, lf]
     refine wpAnyH_take (i := 44) (v := undef) rfl (by kernel_rfl) (by kernel_rfl) (by kernel_rfl) (fun _ _ _ h => h) (Or.inr ⟨by rfl, rfl⟩) (by assumption) ?_
     try simp only [la, lb, lc]
     try simp only [Act.put, ld, le, lf]
     refine' wpAnyH_take (i := 45) (v := _) rfl (by kernel_rfl) (by kernel_rfl) (by kernel_rfl) (fun _ _ _ h => h) (Or.inl ⟨by rfl, ?y65⟩) (by assumption) ?r65
     case y65 => (intro w hS; (try dsimp only at hS); try simp only [la, lb, lc]; go_simp; (try with_reducible rfl))
     try simp only [la, lb, lc]
     try simp only [Act.put, ld, le, lf]
     refine' wpAnyH_take (i := 46) (v := _) rfl (by kernel_rfl) (by kernel_rfl) (by kernel_rfl) (fun _ _ _ h => h) (Or.inl ⟨by rfl, ?y66⟩) (by assumption) ?r66
     case y66 => (intro w hS; (try dsimp only at hS); try simp only [la, lb, lc]; go_simp; (try with_reducible rfl))
     try simp only [la, lb, lc]
     try simp only [Act.put, ld, le, lf]
     refine' wpAnyH_take (i := 47) (v := _) rfl (by kernel_rfl) (by kernel_rfl) (by kernel_rfl) (fun _ _ _ h => h) (Or.inl ⟨by rfl, ?y67⟩) (by assumption) ?r67
     case y67 => (intro w hS; (try dsimp only at hS); try simp only [la, lb, lc]; go_simp; (try with_reducible rfl))
     try simp only [la, lb, lc]
     try simp only [Act.put, ld, le, lf]
     refine wpAnyH_done (by kernel_rfl) ?_ _
     go_wp2_with fail
     go_meet
     exact ⟨rfl, HX.out⟩
    ·
     have d2 : decide (0 < kbc) = false := decide_eq_false hk1
     have hk2 : kac ≤ 0 := by rw [← HK_kac.out]; exact qcmp_trans (p := p) (r := r) (u := u) (by rw [HK_k.out]; exact hk0) (by rw [HK_kbc.out]; exact hk1)
     have d3 : decide (kac ≤ 0) = true := decide_eq_true hk2
     replace HX := Lib.hid HX.out.drew
     refine wp_region_held_drew (S := (fun V => V.cell? ⟨w.heap.size, 0, none⟩ = some (.bool sa) ∧ V.cell? ⟨w.heap.size, 1, none⟩ = some (.slice Aa na ca) ∧ V.cell? ⟨w.heap.size, 2, none⟩ = some (.bool ta) ∧ V.cell? ⟨w.heap.size, 3, none⟩ = some (.slice Ba ma da) ∧ V.cell? ⟨w.heap.size + 1, 0, none⟩ = some (.bool sb) ∧ V.cell? ⟨w.heap.size + 1, 1, none⟩ = some (.slice Ab nb cb) ∧ V.cell? ⟨w.heap.size + 1, 2, none⟩ = some (.bool tb) ∧ V.cell? ⟨w.heap.size + 1, 3, none⟩ = some (.slice Bb mb db) ∧ V.cell? ⟨w.heap.size + 1 + 1, 0, none⟩ = some (.bool sc) ∧ V.cell? ⟨w.heap.size + 1 + 1, 1, none⟩ = some (.slice Ac nc cc) ∧ V.cell? ⟨w.heap.size + 1 + 1, 2, none⟩ = some (.bool tc) ∧ V.cell? ⟨w.heap.size + 1 + 1, 3, none⟩ = some (.slice Bc mc dc))) (by kernel_rfl) (by with_reducible exact HX.out.keep) (fun hHeld => ?_)
     refine' wpAnyH_take (i := 0) (v := _) rfl (by kernel_rfl) (by kernel_rfl) (by kernel_rfl) (fun _ _ _ h => h) (Or.inl ⟨by rfl, ?y68⟩) (by assumption) ?r68
     case y68 => (intro w hS; (try dsimp only at hS); try simp only [la, lb]; go_simp; (try with_reducible rfl))
     try simp only [la, lb]
     try simp only [Act.put, ld, le, lf]
     refine' wpAnyH_take (i := 1) (v := _) rfl (by kernel_rfl) (by kernel_rfl) (by kernel_rfl) (fun _ _ _ h => h) (Or.inl ⟨by rfl, ?y69⟩) (by assumption) ?r69
     case y69 => (intro w hS; (try dsimp only at hS); try simp only [la, lb, lc]; go_simp; (try with_reducible rfl))
     try simp only [la, lb, lc]
     try simp only [Act.put, ld, le, lf]
     refine' wpAnyH_take (i := 2) (v := _) rfl (by kernel_rfl) (by kernel_rfl) (by kernel_rfl) (fun _ _ _ h => h) (Or.inl ⟨by rfl, ?y70⟩) (by assumption) ?r70
     case y70 => (intro w hS; (try dsimp only at hS); try simp only [la, lb, lc]; go_simp; (try with_reducible rfl))
     try simp only [la, lb, lc]
     try simp only [Act.put, ld, le, lf]
     refine wpAnyH_ready (rs := [3]) (by kernel_rfl) (by simp) ?_
     refine AllReadyH.cons rfl (fun K hK => ?_) AllReadyH.nil
     try simp only [la, lb, lc]
     go_simp
     with_reducible refine (cmp_q (HX.out.b.mono (l := 700) (by omega)) (HX.out.a.mono (l := 700) (by omega)) (by omega) (by omega) (nk) HK_nk.out).mono ?_
     rintro e w20 ⟨rfl, hbx⟩
     replace HX := Lib.hid (HX.out.below hbx)
     clear hbx
     refine hK.out _ _ (by with_reducible exact HX.out.keep) (fun hHeld => ?_)
     clear hK K
     try simp only [Act.put, ld, le, lf]
     refine' wpAnyH_take (i := 4) (v := _) rfl (by kernel_rfl) (by kernel_rfl) (by kernel_rfl) (fun _ _ _ h => h) (Or.inl ⟨by rfl, ?y71⟩) (by assumption) ?r71
     case y71 => (intro w hS; (try dsimp only at hS); try simp only [la, lb, lc]; go_simp; (try with_reducible rfl))
     try simp only [la, lb, lc]
     try simp only [Act.put, ld, le, lf]
     refine' wpAnyH_take (i := 5) (v := _) rfl (by kernel_rfl) (by kernel_rfl) (by kernel_rfl) (fun _ _ _ h => h) (Or.inl ⟨by rfl, ?y72⟩) (by assumption) ?r72
     case y72 => (intro w hS; (try dsimp only at hS); try simp only [la, lb, lc]; go_simp; (try with_reducible rfl))
     try simp only [la, lb, lc]
     try simp only [Act.put, ld, le, lf]
     refine' wpAnyH_take (i := 6) (v := _) rfl (by kernel_rfl) (by kernel_rfl) (by kernel_rfl) (fun _ _ _ h => h) (Or.inl ⟨by rfl, ?y73⟩) (by assumption) ?r73
     case y73 => (intro w hS; (try dsimp only at hS); try simp only [la, lb, lc]; go_simp; (try with_reducible rfl))
     try simp only [la, lb, lc]
     try simp only [Act.put, ld, le, lf]
     refine' wpAnyH_take (i := 7) (v := _) rfl (by kernel_rfl) (by kernel_rfl) (by kernel_rfl) (fun _ _ _ h => h) (Or.inl ⟨by rfl, ?y74⟩) (by assumption) ?r74
     case y74 => (intro w hS; (try dsimp only at hS); try simp only [la, lb, lc]; go_simp; (try with_reducible rfl))
     try simp only [la, lb, lc]
     try simp only [Act.put, ld, le, lf]
     refine' wpAnyH_take (i := 8) (v := _) rfl (by kernel_rfl) (by kernel_rfl) (by kernel_rfl) (fun _ _ _ h => h) (Or.inl ⟨by rfl, ?y75⟩) (by assumption) ?r75
     case y75 => (intro w hS; (try dsimp only at hS); try simp only [la, lb, lc]; go_simp; (try with_reducible rfl))
     try simp only [la, lb, lc]
     try simp only [Act.put, ld, le, lf]
     refine' wpAnyH_take (i := 9) (v := _) rfl (by kernel_rfl) (by kernel_rfl) (by kernel_rfl) (fun _ _ _ h => h) (Or.inl ⟨by rfl, ?y76⟩) (by assumption) ?r76
     case y76 => (intro w hS; (try dsimp only at hS); try simp only [la, lb, lc]; go_simp; (try with_reducible rfl))
     try simp only [la, lb, lc]
     try simp only [Act.put, ld, le, lf]
     refine' wpAnyH_take (i := 11) (v := _) rfl (by kernel_rfl) (by kernel_rfl) (by kernel_rfl) (fun _ _ _ h => h) (Or.inl ⟨by rfl, ?y77⟩) (by assumption) ?r77
     case y77 => (intro w hS; (try dsimp only at hS); try simp only [la, lb, lc]; go_simp; (try with_reducible rfl))
     try simp only [la, lb, lc]
     try simp only [Act.put, ld, le, lf]
     refine' wpAnyH_take (i := 12) (v := _) rfl (by kernel_rfl) (by kernel_rfl) (by kernel_rfl) (fun _ _ _ h => h) (Or.inl ⟨by rfl, ?y78⟩) (by assumption) ?r78
     case y78 => (intro w hS; (try dsimp only at hS); try simp only [la, lb, lc]; go_simp; (try with_reducible rfl))
     try simp only [la, lb, lc]
     try simp only [Act.put, ld, le, lf]
     refine wpAnyH_ready (rs := [10]) (by kernel_rfl) (by simp) ?_
     refine AllReadyH.cons rfl (fun K hK => ?_) AllReadyH.nil
     try simp only [la, lb, lc]
     go_simp
     with_reducible refine (add_q (HX.out.a.mono (l := 700) (by omega)) (HX.out.c.mono (l := 700) (by omega)) (by omega) (by omega) s1 HE_s1.out).mono ?_
     rintro e w21 ⟨s_x1, A_x1, n_x1, c_x1, t_x1, B_x1, m_x1, d_x1, rfl, h_x1, hbx⟩
     replace HX := Lib.hid (HX.out.below hbx)
     have H_x1 := Lib.hid h_x1
     clear hbx
     refine hK.out _ _ (by with_reducible exact HX.out.keep) (fun hHeld => ?_)
     clear hK K
     try simp only [Act.put, ld, le, lf]
     refine wpAnyH_ready (rs := [13]) (by kernel_rfl) (by simp) ?_
     refine AllReadyH.cons rfl (fun K hK => ?_) AllReadyH.nil
     try simp only [la, lb, lc]
     go_simp
     with_reducible refine (add_q (HX.out.b.mono (l := 700) (by omega)) (HX.out.c.mono (l := 700) (by omega)) (by omega) (by omega) s2 HE_s2.out).mono ?_
     rintro e w22 ⟨s_x2, A_x2, n_x2, c_x2, t_x2, B_x2, m_x2, d_x2, rfl, h_x2, hbx⟩
     replace HX := Lib.hid (HX.out.below hbx)
     replace H_x1 := Lib.hid (H_x1.out.below hbx)
     have H_x2 := Lib.hid h_x2
     clear hbx
     refine hK.out _ _ (by with_reducible exact HX.out.keep) (fun hHeld => ?_)
     clear hK K
     try simp only [Act.put, ld, le, lf]
     refine wpAnyH_ready (rs := [14]) (by kernel_rfl) (by simp) ?_
     refine AllReadyH.cons rfl (fun K hK => ?_) AllReadyH.nil
     try simp only [la, lb, lc]
     go_simp
     with_reducible refine (cmp_q (H_x1.out.isq (k := 700) (Nat.le_trans HL_s1.out (by omega))) (H_x2.out.isq (k := 700) (Nat.le_trans HL_s2.out (by omega))) (by omega) (by omega) (k) E1.out).mono ?_
     rintro e w23 ⟨rfl, hbx⟩
     replace HX := Lib.hid (HX.out.below hbx)
     replace H_x1 := Lib.hid (H_x1.out.below hbx)
     replace H_x2 := Lib.hid (H_x2.out.below hbx)
     clear hbx
     refine hK.out _ _ (by with_reducible exact HX.out.keep) (fun hHeld => ?_)
     clear hK K
     try simp only [Act.put, ld, le, lf]
     refine' wpAnyH_take (i := 15) (v := _) rfl (by kernel_rfl) (by kernel_rfl) (by kernel_rfl) (fun _ _ _ h => h) (Or.inl ⟨by rfl, ?y79⟩) (by assumption) ?r79
     case y79 => (intro w hS; (try dsimp only at hS); try simp only [la, lb, lc]; go_simp; (try with_reducible rfl))
     try simp only [la, lb, lc]
     try simp only [Act.put, ld, le, lf]
     refine' wpAnyH_take (i := 16) (v := _) rfl (by kernel_rfl) (by kernel_rfl) (by kernel_rfl) (fun _ _ _ h => h) (Or.inl ⟨by rfl, ?y80⟩) (by assumption) ?r80
     case y80 => (intro w hS; (try dsimp only at hS); try simp only [la, lb, lc]; go_simp; (try with_reducible rfl))
     try simp only [la, lb, lc]
     try simp only [Act.put, ld, le, lf]
     refine' wpAnyH_take (i := 17) (v := _) rfl (by kernel_rfl) (by kernel_rfl) (by kernel_rfl) (fun _ _ _ h => h) (Or.inl ⟨by rfl, ?y81⟩) (by assumption) ?r81
     case y81 => (intro w hS; (try dsimp only at hS); try simp only [la, lb, lc]; go_simp; (try with_reducible rfl))
     try simp only [la, lb, lc]
     try simp only [Act.put, ld, le, lf]
     refine' wpAnyH_take (i := 18) (v := _) rfl (by kernel_rfl) (by kernel_rfl) (by kernel_rfl) (fun _ _ _ h => h) (Or.inl ⟨by rfl, ?y82⟩) (by assumption) ?r82
     case y82 => (intro w hS; (try dsimp only at hS); try simp only [la, lb, lc]; go_simp; (try with_reducible rfl))
     try simp only [la, lb, lc]
     try simp only [Act.put, ld, le, lf]
     refine' wpAnyH_take (i := 19) (v := _) rfl (by kernel_rfl) (by kernel_rfl) (by kernel_rfl) (fun _ _ _ h => h) (Or.inl ⟨by rfl, ?y83⟩) (by assumption) ?r83
     case y83 => (intro w hS; (try dsimp only at hS); try simp only [la, lb, lc]; go_simp; (try with_reducible rfl))
     try simp only [la, lb, lc]
     try simp only [Act.put, ld, le, lf]
     refine' wpAnyH_take (i := 22) (v := _) rfl (by kernel_rfl) (by kernel_rfl) (by kernel_rfl) (fun _ _ _ h => h) (Or.inl ⟨by rfl, ?y84⟩) (by assumption) ?r84
     case y84 => (intro w hS; (try dsimp only at hS); try simp only [la, lb, lc]; go_simp; (try with_reducible rfl))
     try simp only [la, lb, lc]
     try simp only [Act.put, ld, le, lf]
     refine' wpAnyH_take (i := 23) (v := _) rfl (by kernel_rfl) (by kernel_rfl) (by kernel_rfl) (fun _ _ _ h => h) (Or.inl ⟨by rfl, ?y85⟩) (by assumption) ?r85
     case y85 => (intro w hS; (try dsimp only at hS); try simp only [la, lb, lc]; go_simp; (try with_reducible rfl))
     try simp only [la, lb, lc]
     try simp only [Act.put, ld, le, lf]
     refine' wpAnyH_take (i := 25) (v := _) rfl (by kernel_rfl) (by kernel_rfl) (by kernel_rfl) (fun _ _ _ h => h) (Or.inl ⟨by rfl, ?y86⟩) (by assumption) ?r86
     case y86 => (intro w hS; (try dsimp only at hS); try simp only [la, lb, lc]; go_simp; (try with_reducible rfl))
     try simp only [la, lb, lc]
     try simp only [Act.put, ld, le, lf]
     refine' wpAnyH_take (i := 26) (v := _) rfl (by kernel_rfl) (by kernel_rfl) (by kernel_rfl) (fun _ _ _ h => h) (Or.inl ⟨by rfl, ?y87⟩) (by assumption) ?r87
     case y87 => (intro w hS; (try dsimp only at hS); try simp only [la, lb, lc]; go_simp; (try with_reducible rfl))
     try simp only [la, lb, lc]
     try simp only [Act.put, ld, le, lf]
     refine wpAnyH_ready (rs := [20]) (by kernel_rfl) (by simp) ?_
     refine AllReadyH.cons rfl (fun K hK => ?_) AllReadyH.nil
     try simp only [la, lb, lc]
     go_simp
     with_reducible refine (sign_q (HX.out.c.mono (l := 700) (by omega)) (by omega) (su) HK_su.out).mono ?_
     rintro e w24 ⟨rfl, hbx⟩
     replace HX := Lib.hid (HX.out.below hbx)
     clear hbx
     refine hK.out _ _ (by with_reducible exact HX.out.keep) (fun hHeld => ?_)
     clear hK K
     try simp only [Act.put, ld, le, lf]
     refine' wpAnyH_take (i := 21) (v := _) rfl (by kernel_rfl) (by kernel_rfl) (by kernel_rfl) (fun _ _ _ h => h) (Or.inl ⟨by rfl, ?y88⟩) (by assumption) ?r88
     case y88 => (intro w hS; (try dsimp only at hS); try simp only [la, lb, lc]; go_simp; (try with_reducible rfl))
     try simp only [la, lb, lc]
     try simp only [Act.put, ld, le, lf]
     refine wpAnyH_ready (rs := [24]) (by kernel_rfl) (by simp) ?_
     refine AllReadyH.cons rfl (fun K hK => ?_) AllReadyH.nil
     try simp only [la, lb, lc]
     go_simp
     with_reducible refine (mul_q (HX.out.a.mono (l := 700) (by omega)) (HX.out.c.mono (l := 700) (by omega)) (by omega) (by omega) m1 HE_m1.out).mono ?_
     rintro e w25 ⟨s_x3, A_x3, n_x3, c_x3, t_x3, B_x3, m_x3, d_x3, rfl, h_x3, hbx⟩
     replace HX := Lib.hid (HX.out.below hbx)
     have H_x3 := Lib.hid h_x3
     clear hbx
     refine hK.out _ _ (by with_reducible exact HX.out.keep) (fun hHeld => ?_)
     clear hK K
     try simp only [Act.put, ld, le, lf]
     refine wpAnyH_ready (rs := [27]) (by kernel_rfl) (by simp) ?_
     refine AllReadyH.cons rfl (fun K hK => ?_) AllReadyH.nil
     try simp only [la, lb, lc]
     go_simp
     with_reducible refine (mul_q (HX.out.b.mono (l := 700) (by omega)) (HX.out.c.mono (l := 700) (by omega)) (by omega) (by omega) m2 HE_m2.out).mono ?_
     rintro e w26 ⟨s_x4, A_x4, n_x4, c_x4, t_x4, B_x4, m_x4, d_x4, rfl, h_x4, hbx⟩
     replace HX := Lib.hid (HX.out.below hbx)
     replace H_x3 := Lib.hid (H_x3.out.below hbx)
     have H_x4 := Lib.hid h_x4
     clear hbx
     refine hK.out _ _ (by with_reducible exact HX.out.keep) (fun hHeld => ?_)
     clear hK K
     try simp only [Act.put, ld, le, lf]
     refine wpAnyH_ready (rs := [28]) (by kernel_rfl) (by simp) ?_
     refine AllReadyH.cons rfl (fun K hK => ?_) AllReadyH.nil
     try simp only [la, lb, lc]
     go_simp
     with_reducible refine (cmp_q (H_x3.out.isq (k := 700) (Nat.le_trans HL_m1.out (by omega))) (H_x4.out.isq (k := 700) (Nat.le_trans HL_m2.out (by omega))) (by omega) (by omega) (ks) HK_ks.out).mono ?_
     rintro e w27 ⟨rfl, hbx⟩
     replace HX := Lib.hid (HX.out.below hbx)
     replace H_x3 := Lib.hid (H_x3.out.below hbx)
     replace H_x4 := Lib.hid (H_x4.out.below hbx)
     clear hbx
     refine hK.out _ _ (by with_reducible exact HX.out.keep) (fun hHeld => ?_)
     clear hK K
     try simp only [Act.put, ld, le, lf]
     refine' wpAnyH_take (i := 29) (v := _) rfl (by kernel_rfl) (by kernel_rfl) (by kernel_rfl) (fun _ _ _ h => h) (Or.inl ⟨by rfl, ?y89⟩) (by assumption) ?r89
     case y89 => (intro w hS; (try dsimp only at hS); try simp only [la, lb, lc]; go_simp; (try with_reducible rfl))
     try simp only [la, lb, lc]
     try simp only [Act.put, ld, le, lf]
     refine' wpAnyH_take (i := 30) (v := _) rfl (by kernel_rfl) (by kernel_rfl) (by kernel_rfl) (fun _ _ _ h => h) (Or.inl ⟨by rfl, ?y90⟩) (by assumption) ?r90
     case y90 => (intro w hS; (try dsimp only at hS); try simp only [la, lb, lc]; go_simp; (try with_reducible rfl))
     try simp only [la, lb, lc]
     try simp only [Act.put, ld, le, lf]
     refine' wpAnyH_take (i := 31) (v := _) rfl (by kernel_rfl) (by kernel_rfl) (by kernel_rfl) (fun _ _ _ h => h) (Or.inl ⟨by rfl, ?y91⟩) (by assumption) ?r91
     case y91 => (intro w hS; (try dsimp only at hS); try simp only [la, lb, lc]; go_simp; (try with_reducible rfl))
     try simp only [la, lb, lc]
     try simp only [Act.put, ld, le, lf]
     refine' wpAnyH_take (i := 32) (v := _) rfl (by kernel_rfl) (by kernel_rfl) (by kernel_rfl) (fun _ _ _ h => h) (Or.inl ⟨by rfl, ?y92⟩) (by assumption) ?r92
     case y92 => (intro w hS; (try dsimp only at hS); try simp only [la, lb, lc]; go_simp; (try with_reducible rfl))
     try simp only [la, lb, lc]
     try simp only [Act.put, ld, le, lf]
     refine' wpAnyH_take (i := 33) (v := _) rfl (by kernel_rfl) (by kernel_rfl) (by kernel_rfl) (fun _ _ _ h => h) (Or.inl ⟨by rfl, ?y93⟩) (by assumption) ?r93
     case y93 => (intro w hS; (try dsimp only at hS); try simp only [la, lb, lc]; go_simp; (try with_reducible rfl))
     try simp only [la, lb, lc]
     try simp only [Act.put, ld, le, lf]
     refine' wpAnyH_take (i := 34) (v := _) rfl (by kernel_rfl) (by kernel_rfl) (by kernel_rfl) (fun _ _ _ h => h) (Or.inl ⟨by rfl, ?y94⟩) (by assumption) ?r94
     case y94 => (intro w hS; (try dsimp only at hS); try simp only [la, lb, lc]; go_simp; (try with_reducible rfl))
     try simp only [la, lb, lc]
     try simp only [Act.put, ld, le, lf]
     refine' wpAnyH_take (i := 35) (v := _) rfl (by kernel_rfl) (by kernel_rfl) (by kernel_rfl) (fun _ _ _ h => h) (Or.inl ⟨by rfl, ?y95⟩) (by assumption) ?r95
     case y95 => (intro w hS; (try dsimp only at hS); try simp only [la, lb, lc]; go_simp; (try with_reducible rfl))
     try simp only [la, lb, lc]
     try simp only [Act.put, ld, le, lf]
     refine' wpAnyH_take (i := 36) (v := _) rfl (by kernel_rfl) (by kernel_rfl) (by kernel_rfl) (fun _ _ _ h => h) (Or.inl ⟨by rfl, ?y96⟩) (by assumption) ?r96
     case y96 => (intro w hS; (try dsimp only at hS); try simp only [la, lb, lc]; go_simp; (try with_reducible rfl))
     try simp only [la, lb, lc]
     try simp only [Act.put, ld, le, lf]
     refine wpAnyH_ready (rs := [37]) (by kernel_rfl) (by simp) ?_
     refine AllReadyH.cons rfl (fun K hK => ?_) AllReadyH.nil
     try simp only [la, lb, lc]
     go_simp
     with_reducible refine (cmp_q (HX.out.b.mono (l := 700) (by omega)) (HX.out.c.mono (l := 700) (by omega)) (by omega) (by omega) (kbc) HK_kbc.out).mono ?_
     rintro e w28 ⟨rfl, hbx⟩
     replace HX := Lib.hid (HX.out.below hbx)
     clear hbx
     refine hK.out _ _ (by with_reducible exact HX.out.keep) (fun hHeld => ?_)
     clear hK K
     try simp only [Act.put, ld, le, lf]
     refine' wpAnyH_take (i := 38) (v := _) rfl (by kernel_rfl) (by kernel_rfl) (by kernel_rfl) (fun _ _ _ h => h) (Or.inl ⟨by rfl, ?y97⟩) (by assumption) ?r97
     case y97 => (intro w hS; (try dsimp only at hS); try simp only [la, lb, lc]; go_simp; (try with_reducible rfl))
     try simp only [la, lb, lc]
     try simp only [Act.put, ld, le, lf]
     refine' wpAnyH_take (i := 39) (v := _) rfl (by kernel_rfl) (by kernel_rfl) (by kernel_rfl) (fun _ _ _ h => h) (Or.inl ⟨by rfl, ?y98⟩) (by assumption) ?r98
     case y98 => (intro w hS; (try dsimp only at hS); try simp only [la, lb, lc]; go_simp; (try with_reducible rfl))
     try simp only [la, lb, lc]
     try simp only [Act.put, ld, le, lf]
     refine' wpAnyH_take (i := 40) (v := _) rfl (by kernel_rfl) (by kernel_rfl) (by kernel_rfl) (fun _ _ _ h => h) (Or.inl ⟨by rfl, ?y99⟩) (by assumption) ?r99
     case y99 => (intro w hS; (try dsimp only at hS); try simp only [la, lb, lc]; go_simp; (try with_reducible rfl))
     try simp only [la, lb, lc]
     try simp only [Act.put, ld, le, lf]
     refine' wpAnyH_take (i := 41) (v := _) rfl (by kernel_rfl) (by kernel_rfl) (by kernel_rfl) (fun _ _ _ h => h) (Or.inl ⟨by rfl, ?y100⟩) (by assumption) ?r100
     case y100 => (intro w hS; (try dsimp only at hS); try simp only [la, lb, lc]; go_simp; (try with_reducible rfl))
     try simp only [la, lb, lc]
     try simp only [Act.put, ld, le, lf]
     refine' wpAnyH_take (i := 42) (v := _) rfl (by kernel_rfl) (by kernel_rfl) (by kernel_rfl) (fun _ _ _ h => h) (Or.inl ⟨by rfl, ?y101⟩) (by assumption) ?r101
     case y101 => (intro w hS; (try dsimp only at hS); try simp only [la, lb, lc]; go_simp; (try with_reducible rfl))
     try simp only [la, lb, lc]
     try simp only [Act.put, ld, le, lf]
     refine wpAnyH_ready (rs := [43]) (by kernel_rfl) (by simp) ?_
     refine AllReadyH.cons rfl (fun K hK => ?_) AllReadyH.nil
     try simp only [la, lb, lc]
     go_simp
     with_reducible refine (cmp_q (HX.out.a.mono (l := 700) (by omega)) (HX.out.c.mono (l := 700) (by omega)) (by omega) (by omega) (kac) HK_kac.out).mono ?_
     rintro e w29 ⟨rfl, hbx⟩
     replace HX := Lib.hid (HX.out.below hbx)
     clear hbx
     refine hK.out _ _ (by with_reducible exact HX.out.keep) (fun hHeld => ?_)
     clear hK K
     try simp only [Act.put, ld, le, lf]
     refine' wpAnyH_take (i := 44) (v := _) rfl (by kernel_rfl) (by kernel_rfl) (by kernel_rfl) (fun _ _ _ h => h) (Or.inl ⟨by rfl, ?y102⟩) (by assumption) ?r102
     case y102 => (intro w hS; (try dsimp only at hS); try simp only [la, lb, lc]; go_simp; (try with_reducible rfl))
     try simp only [la, lb, lc]
     try simp only [Act.put, ld, le, lf]
     refine' wpAnyH_take (i := 45) (v := _) rfl (by kernel_rfl) (by kernel_rfl) (by kernel_rfl) (fun _ _ _ h => h) (Or.inl ⟨by rfl, ?y103⟩) (by assumption) ?r103
     case y103 => (intro w hS; (try dsimp only at hS); try simp only [la, lb, lc]; go_simp; (try with_reducible rfl))
     try simp only [la, lb, lc]
     try simp only [Act.put, ld, le, lf]
     refine' wpAnyH_take (i := 46) (v := _) rfl (by kernel_rfl) (by kernel_rfl) (by kernel_rfl) (fun _ _ _ h => h) (Or.inl ⟨by rfl, ?y104⟩) (by assumption) ?r104
     case y104 => (intro w hS; (try dsimp only at hS); try simp only [la, lb, lc]; go_simp; (try with_reducible rfl))
     try simp only [la, lb, lc]
     try simp only [Act.put, ld, le, lf]
     refine' wpAnyH_take (i := 47) (v := _) rfl (by kernel_rfl) (by kernel_rfl) (by kernel_rfl) (fun _ _ _ h => h) (Or.inl ⟨by rfl, ?y105⟩) (by assumption) ?r105
     case y105 => (intro w hS; (try dsimp only at hS); try simp only [la, lb, lc]; go_simp; (try with_reducible rfl))
     try simp only [la, lb, lc]
     try simp only [Act.put, ld, le, lf]
     refine wpAnyH_done (by kernel_rfl) ?_ _
     go_wp2_with fail
     go_meet
     exact ⟨rfl, HX.out⟩
 case rest =>
  clear HX
  obtain ⟨rfl, HX⟩ := hcut
  go_upto_region 5 with fail
  go_cut [9] from 71 to 108 (fun s9 wx => s9 = .bool true ∧ Hid (Q3 w wx sa Aa na ca ta Ba ma da sb Ab nb cb tb Bb mb db sc Ac nc cc tc Bc mc dc p r u 12))
  case first =>
   as_aux_lemma =>
    replace HX := Lib.hid HX.out.drew
    refine wp_region_held_drew (S := (fun V => V.cell? ⟨w.heap.size, 0, none⟩ = some (.bool sa) ∧ V.cell? ⟨w.heap.size, 1, none⟩ = some (.slice Aa na ca) ∧ V.cell? ⟨w.heap.size, 2, none⟩ = some (.bool ta) ∧ V.cell? ⟨w.heap.size, 3, none⟩ = some (.slice Ba ma da) ∧ V.cell? ⟨w.heap.size + 1, 0, none⟩ = some (.bool sb) ∧ V.cell? ⟨w.heap.size + 1, 1, none⟩ = some (.slice Ab nb cb) ∧ V.cell? ⟨w.heap.size + 1, 2, none⟩ = some (.bool tb) ∧ V.cell? ⟨w.heap.size + 1, 3, none⟩ = some (.slice Bb mb db) ∧ V.cell? ⟨w.heap.size + 1 + 1, 0, none⟩ = some (.bool sc) ∧ V.cell? ⟨w.heap.size + 1 + 1, 1, none⟩ = some (.slice Ac nc cc) ∧ V.cell? ⟨w.heap.size + 1 + 1, 2, none⟩ = some (.bool tc) ∧ V.cell? ⟨w.heap.size + 1 + 1, 3, none⟩ = some (.slice Bc mc dc))) (by kernel_rfl) (by with_reducible exact HX.out.keep) (fun hHeld => ?_)
    refine' wpAnyH_take (i := 0) (v := _) rfl (by kernel_rfl) (by kernel_rfl) (by kernel_rfl) (fun _ _ _ h => h) (Or.inl ⟨by rfl, ?y106⟩) (by assumption) ?r106
    case y106 => (intro w hS; (try dsimp only at hS); try simp only [la, lb]; go_simp; (try with_reducible rfl))
    try simp only [la, lb]
    try simp only [Act.put, ld, le, lf]
    refine' wpAnyH_take (i := 1) (v := _) rfl (by kernel_rfl) (by kernel_rfl) (by kernel_rfl) (fun _ _ _ h => h) (Or.inl ⟨by rfl, ?y107⟩) (by assumption) ?r107
    case y107 => (intro w hS; (try dsimp only at hS); try simp only [la, lb, lc]; go_simp; (try with_reducible rfl))
    try simp only [la, lb, lc]
    try simp only [Act.put, ld, le, lf]
    refine' wpAnyH_take (i := 3) (v := _) rfl (by kernel_rfl) (by kernel_rfl) (by kernel_rfl) (fun _ _ _ h => h) (Or.inl ⟨by rfl, ?y108⟩) (by assumption) ?r108
    case y108 => (intro w hS; (try dsimp only at hS); try simp only [la, lb, lc]; go_simp; (try with_reducible rfl))
    try simp only [la, lb, lc]
    try simp only [Act.put, ld, le, lf]
    refine' wpAnyH_take (i := 4) (v := _) rfl (by kernel_rfl) (by kernel_rfl) (by kernel_rfl) (fun _ _ _ h => h) (Or.inl ⟨by rfl, ?y109⟩) (by assumption) ?r109
    case y109 => (intro w hS; (try dsimp only at hS); try simp only [la, lb, lc]; go_simp; (try with_reducible rfl))
    try simp only [la, lb, lc]
    try simp only [Act.put, ld, le, lf]
    refine' wpAnyH_take (i := 7) (v := _) rfl (by kernel_rfl) (by kernel_rfl) (by kernel_rfl) (fun _ _ _ h => h) (Or.inl ⟨by rfl, ?y110⟩) (by assumption) ?r110
    case y110 => (intro w hS; (try dsimp only at hS); try simp only [la, lb, lc]; go_simp; (try with_reducible rfl))
    try simp only [la, lb, lc]
    try simp only [Act.put, ld, le, lf]
    refine' wpAnyH_take (i := 8) (v := _) rfl (by kernel_rfl) (by kernel_rfl) (by kernel_rfl) (fun _ _ _ h => h) (Or.inl ⟨by rfl, ?y111⟩) (by assumption) ?r111
    case y111 => (intro w hS; (try dsimp only at hS); try simp only [la, lb, lc]; go_simp; (try with_reducible rfl))
    try simp only [la, lb, lc]
    try simp only [Act.put, ld, le, lf]
    refine wpAnyH_ready (rs := [2]) (by kernel_rfl) (by simp) ?_
    refine AllReadyH.cons rfl (fun K hK => ?_) AllReadyH.nil
    try simp only [la, lb, lc]
    go_simp
    with_reducible refine (max_q (HX.out.a.mono (l := 700) (by omega)) (HX.out.b.mono (l := 700) (by omega)) (by omega) (by omega) mx HE_mx.out).mono ?_
    rintro e w30 ⟨s_x1, A_x1, n_x1, c_x1, t_x1, B_x1, m_x1, d_x1, rfl, h_x1, hbx⟩
    replace HX := Lib.hid (HX.out.below hbx)
    have H_x1 := Lib.hid h_x1
    clear hbx
    refine hK.out _ _ (by with_reducible exact HX.out.keep) (fun hHeld => ?_)
    clear hK K
    try simp only [Act.put, ld, le, lf]
    refine wpAnyH_ready (rs := [5]) (by kernel_rfl) (by simp) ?_
    refine AllReadyH.cons rfl (fun K hK => ?_) AllReadyH.nil
    try simp only [la, lb, lc]
    go_simp
    with_reducible refine (min_q (HX.out.a.mono (l := 700) (by omega)) (HX.out.b.mono (l := 700) (by omega)) (by omega) (by omega) mn HE_mn.out).mono ?_
    rintro e w31 ⟨s_x2, A_x2, n_x2, c_x2, t_x2, B_x2, m_x2, d_x2, rfl, h_x2, hbx⟩
    replace HX := Lib.hid (HX.out.below hbx)
    replace H_x1 := Lib.hid (H_x1.out.below hbx)
    have H_x2 := Lib.hid h_x2
    clear hbx
    refine hK.out _ _ (by with_reducible exact HX.out.keep) (fun hHeld => ?_)
    clear hK K
    try simp only [Act.put, ld, le, lf]
    refine wpAnyH_ready (rs := [6]) (by kernel_rfl) (by simp) ?_
    refine AllReadyH.cons rfl (fun K hK => ?_) AllReadyH.nil
    try simp only [la, lb, lc]
    go_simp
    with_reducible refine (add_q (H_x1.out.isq (k := 700) (Nat.le_trans HL_mx.out (by omega))) (H_x2.out.isq (k := 700) (Nat.le_trans HL_mn.out (by omega))) (by omega) (by omega) s3 HE_s3.out).mono ?_
    rintro e w32 ⟨s_x3, A_x3, n_x3, c_x3, t_x3, B_x3, m_x3, d_x3, rfl, h_x3, hbx⟩
    replace HX := Lib.hid (HX.out.below hbx)
    replace H_x1 := Lib.hid (H_x1.out.below hbx)
    replace H_x2 := Lib.hid (H_x2.out.below hbx)
    have H_x3 := Lib.hid h_x3
    clear hbx
    refine hK.out _ _ (by with_reducible exact HX.out.keep) (fun hHeld => ?_)
    clear hK K
    try simp only [Act.put, ld, le, lf]
    refine wpAnyH_ready (rs := [9]) (by kernel_rfl) (by simp) ?_
    refine AllReadyH.cons rfl (fun K hK => ?_) AllReadyH.nil
    try simp only [la, lb, lc]
    go_simp
    with_reducible refine (add_q (HX.out.a.mono (l := 700) (by omega)) (HX.out.b.mono (l := 700) (by omega)) (by omega) (by omega) s4 HE_s4.out).mono ?_
    rintro e w33 ⟨s_x4, A_x4, n_x4, c_x4, t_x4, B_x4, m_x4, d_x4, rfl, h_x4, hbx⟩
    replace HX := Lib.hid (HX.out.below hbx)
    replace H_x1 := Lib.hid (H_x1.out.below hbx)
    replace H_x2 := Lib.hid (H_x2.out.below hbx)
    replace H_x3 := Lib.hid (H_x3.out.below hbx)
    have H_x4 := Lib.hid h_x4
    clear hbx
    refine hK.out _ _ (by with_reducible exact HX.out.keep) (fun hHeld => ?_)
    clear hK K
    try simp only [Act.put, ld, le, lf]
    refine wpAnyH_ready (rs := [10]) (by kernel_rfl) (by simp) ?_
    refine AllReadyH.cons rfl (fun K hK => ?_) AllReadyH.nil
    try simp only [la, lb, lc]
    go_simp
    with_reducible refine (same_q (H_x3.out.isq (k := 700) (Nat.le_trans HL_s3.out (by omega))) (H_x4.out.isq (k := 700) (Nat.le_trans HL_s4.out (by omega))) (by omega) (by omega) (true) HES.out).mono ?_
    rintro e w34 ⟨rfl, hbx⟩
    replace HX := Lib.hid (HX.out.below hbx)
    replace H_x1 := Lib.hid (H_x1.out.below hbx)
    replace H_x2 := Lib.hid (H_x2.out.below hbx)
    replace H_x3 := Lib.hid (H_x3.out.below hbx)
    replace H_x4 := Lib.hid (H_x4.out.below hbx)
    clear hbx
    refine hK.out _ _ (by with_reducible exact HX.out.keep) (fun hHeld => ?_)
    clear hK K
    try simp only [Act.put, ld, le, lf]
    refine' wpAnyH_take (i := 11) (v := _) rfl (by kernel_rfl) (by kernel_rfl) (by kernel_rfl) (fun _ _ _ h => h) (Or.inl ⟨by rfl, ?y112⟩) (by assumption) ?r112
    case y112 => (intro w hS; (try dsimp only at hS); try simp only [la, lb, lc]; go_simp; (try with_reducible rfl))
    try simp only [la, lb, lc]
    try simp only [Act.put, ld, le, lf]
    refine' wpAnyH_take (i := 12) (v := _) rfl (by kernel_rfl) (by kernel_rfl) (by kernel_rfl) (fun _ _ _ h => h) (Or.inl ⟨by rfl, ?y113⟩) (by assumption) ?r113
    case y113 => (intro w hS; (try dsimp only at hS); try simp only [la, lb, lc]; go_simp; (try with_reducible rfl))
    try simp only [la, lb, lc]
    try simp only [Act.put, ld, le, lf]
    refine' wpAnyH_take (i := 13) (v := _) rfl (by kernel_rfl) (by kernel_rfl) (by kernel_rfl) (fun _ _ _ h => h) (Or.inl ⟨by rfl, ?y114⟩) (by assumption) ?r114
    case y114 => (intro w hS; (try dsimp only at hS); try simp only [la, lb, lc]; go_simp; (try with_reducible rfl))
    try simp only [la, lb, lc]
    try simp only [Act.put, ld, le, lf]
    refine' wpAnyH_take (i := 15) (v := _) rfl (by kernel_rfl) (by kernel_rfl) (by kernel_rfl) (fun _ _ _ h => h) (Or.inl ⟨by rfl, ?y115⟩) (by assumption) ?r115
    case y115 => (intro w hS; (try dsimp only at hS); try simp only [la, lb, lc]; go_simp; (try with_reducible rfl))
    try simp only [la, lb, lc]
    try simp only [Act.put, ld, le, lf]
    refine' wpAnyH_take (i := 16) (v := _) rfl (by kernel_rfl) (by kernel_rfl) (by kernel_rfl) (fun _ _ _ h => h) (Or.inl ⟨by rfl, ?y116⟩) (by assumption) ?r116
    case y116 => (intro w hS; (try dsimp only at hS); try simp only [la, lb, lc]; go_simp; (try with_reducible rfl))
    try simp only [la, lb, lc]
    try simp only [Act.put, ld, le, lf]
    refine wpAnyH_ready (rs := [14]) (by kernel_rfl) (by simp) ?_
    refine AllReadyH.cons rfl (fun K hK => ?_) AllReadyH.nil
    try simp only [la, lb, lc]
    go_simp
    with_reducible refine (max_q (HX.out.a.mono (l := 700) (by omega)) (HX.out.b.mono (l := 700) (by omega)) (by omega) (by omega) mx HE_mx.out).mono ?_
    rintro e w35 ⟨s_x5, A_x5, n_x5, c_x5, t_x5, B_x5, m_x5, d_x5, rfl, h_x5, hbx⟩
    replace HX := Lib.hid (HX.out.below hbx)
    have H_x5 := Lib.hid h_x5
    clear hbx
    refine hK.out _ _ (by with_reducible exact HX.out.keep) (fun hHeld => ?_)
    clear hK K
    try simp only [Act.put, ld, le, lf]
    refine wpAnyH_ready (rs := [17]) (by kernel_rfl) (by simp) ?_
    refine AllReadyH.cons rfl (fun K hK => ?_) AllReadyH.nil
    try simp only [la, lb, lc]
    go_simp
    with_reducible refine (min_q (HX.out.a.mono (l := 700) (by omega)) (HX.out.b.mono (l := 700) (by omega)) (by omega) (by omega) mn HE_mn.out).mono ?_
    rintro e w36 ⟨s_x6, A_x6, n_x6, c_x6, t_x6, B_x6, m_x6, d_x6, rfl, h_x6, hbx⟩
    replace HX := Lib.hid (HX.out.below hbx)
    replace H_x5 := Lib.hid (H_x5.out.below hbx)
    have H_x6 := Lib.hid h_x6
    clear hbx
    refine hK.out _ _ (by with_reducible exact HX.out.keep) (fun hHeld => ?_)
    clear hK K
    try simp only [Act.put, ld, le, lf]
    refine wpAnyH_ready (rs := [18]) (by kernel_rfl) (by simp) ?_
    refine AllReadyH.cons rfl (fun K hK => ?_) AllReadyH.nil
    try simp only [la, lb, lc]
    go_simp
    with_reducible refine (cmp_q (H_x5.out.isq (k := 700) (Nat.le_trans HL_mx.out (by omega))) (H_x6.out.isq (k := 700) (Nat.le_trans HL_mn.out (by omega))) (by omega) (by omega) (kmm) HK_kmm.out).mono ?_
    rintro e w37 ⟨rfl, hbx⟩
    replace HX := Lib.hid (HX.out.below hbx)
    replace H_x5 := Lib.hid (H_x5.out.below hbx)
    replace H_x6 := Lib.hid (H_x6.out.below hbx)
    clear hbx
    refine hK.out _ _ (by with_reducible exact HX.out.keep) (fun hHeld => ?_)
    clear hK K
    try simp only [Act.put, ld, le, lf]
    refine' wpAnyH_take (i := 19) (v := _) rfl (by kernel_rfl) (by kernel_rfl) (by kernel_rfl) (fun _ _ _ h => h) (Or.inl ⟨by rfl, ?y117⟩) (by assumption) ?r117
    case y117 => (intro w hS; (try dsimp only at hS); try simp only [la, lb, lc]; go_simp; (try with_reducible rfl))
    try simp only [la, lb, lc]
    try simp only [Act.put, ld, le, lf]
    refine' wpAnyH_take (i := 20) (v := _) rfl (by kernel_rfl) (by kernel_rfl) (by kernel_rfl) (fun _ _ _ h => h) (Or.inl ⟨by rfl, ?y118⟩) (by assumption) ?r118
    case y118 => (intro w hS; (try dsimp only at hS); try simp only [la, lb, lc]; go_simp; (try with_reducible rfl))
    try simp only [la, lb, lc]
    try simp only [Act.put, ld, le, lf]
    refine' wpAnyH_take (i := 21) (v := _) rfl (by kernel_rfl) (by kernel_rfl) (by kernel_rfl) (fun _ _ _ h => h) (Or.inl ⟨by rfl, ?y119⟩) (by assumption) ?r119
    case y119 => (intro w hS; (try dsimp only at hS); try simp only [la, lb, lc]; go_simp; (try with_reducible rfl))
    try simp only [la, lb, lc]
    try simp only [Act.put, ld, le, lf]
    refine' wpAnyH_take (i := 22) (v := _) rfl (by kernel_rfl) (by kernel_rfl) (by kernel_rfl) (fun _ _ _ h => h) (Or.inl ⟨by rfl, ?y120⟩) (by assumption) ?r120
    case y120 => (intro w hS; (try dsimp only at hS); try simp only [la, lb, lc]; go_simp; (try with_reducible rfl))
    try simp only [la, lb, lc]
    try simp only [Act.put, ld, le, lf]
    refine wpAnyH_ready (rs := [23]) (by kernel_rfl) (by simp) ?_
    refine AllReadyH.cons rfl (fun K hK => ?_) AllReadyH.nil
    try simp only [la, lb, lc]
    go_simp
    with_reducible refine (abs_q (HX.out.a.mono (l := 700) (by omega)) (by omega) (by omega) ab HE_ab.out).mono ?_
    rintro e w38 ⟨s_x7, A_x7, n_x7, c_x7, t_x7, B_x7, m_x7, d_x7, rfl, h_x7, hbx⟩
    replace HX := Lib.hid (HX.out.below hbx)
    have H_x7 := Lib.hid h_x7
    clear hbx
    refine hK.out _ _ (by with_reducible exact HX.out.keep) (fun hHeld => ?_)
    clear hK K
    try simp only [Act.put, ld, le, lf]
    refine wpAnyH_ready (rs := [24]) (by kernel_rfl) (by simp) ?_
    refine AllReadyH.cons rfl (fun K hK => ?_) AllReadyH.nil
    try simp only [la, lb, lc]
    go_simp
    with_reducible refine (sign_q (H_x7.out.isq (k := 700) (Nat.le_trans HL_ab.out (by omega))) (by omega) (sab) HK_sab.out).mono ?_
    rintro e w39 ⟨rfl, hbx⟩
    replace HX := Lib.hid (HX.out.below hbx)
    replace H_x7 := Lib.hid (H_x7.out.below hbx)
    clear hbx
    refine hK.out _ _ (by with_reducible exact HX.out.keep) (fun hHeld => ?_)
    clear hK K
    try simp only [Act.put, ld, le, lf]
    refine' wpAnyH_take (i := 25) (v := _) rfl (by kernel_rfl) (by kernel_rfl) (by kernel_rfl) (fun _ _ _ h => h) (Or.inl ⟨by rfl, ?y121⟩) (by assumption) ?r121
    case y121 => (intro w hS; (try dsimp only at hS); try simp only [la, lb, lc]; go_simp; (try with_reducible rfl))
    try simp only [la, lb, lc]
    try simp only [Act.put, ld, le, lf]
    refine' wpAnyH_take (i := 26) (v := _) rfl (by kernel_rfl) (by kernel_rfl) (by kernel_rfl) (fun _ _ _ h => h) (Or.inl ⟨by rfl, ?y122⟩) (by assumption) ?r122
    case y122 => (intro w hS; (try dsimp only at hS); try simp only [la, lb, lc]; go_simp; (try with_reducible rfl))
    try simp only [la, lb, lc]
    try simp only [Act.put, ld, le, lf]
    refine' wpAnyH_take (i := 27) (v := _) rfl (by kernel_rfl) (by kernel_rfl) (by kernel_rfl) (fun _ _ _ h => h) (Or.inl ⟨by rfl, ?y123⟩) (by assumption) ?r123
    case y123 => (intro w hS; (try dsimp only at hS); try simp only [la, lb, lc]; go_simp; (try with_reducible rfl))
    try simp only [la, lb, lc]
    try simp only [Act.put, ld, le, lf]
    refine' wpAnyH_take (i := 28) (v := _) rfl (by kernel_rfl) (by kernel_rfl) (by kernel_rfl) (fun _ _ _ h => h) (Or.inl ⟨by rfl, ?y124⟩) (by assumption) ?r124
    case y124 => (intro w hS; (try dsimp only at hS); try simp only [la, lb, lc]; go_simp; (try with_reducible rfl))
    try simp only [la, lb, lc]
    try simp only [Act.put, ld, le, lf]
    refine' wpAnyH_take (i := 29) (v := _) rfl (by kernel_rfl) (by kernel_rfl) (by kernel_rfl) (fun _ _ _ h => h) (Or.inl ⟨by rfl, ?y125⟩) (by assumption) ?r125
    case y125 => (intro w hS; (try dsimp only at hS); try simp only [la, lb, lc]; go_simp; (try with_reducible rfl))
    try simp only [la, lb, lc]
    try simp only [Act.put, ld, le, lf]
    refine' wpAnyH_take (i := 31) (v := _) rfl (by kernel_rfl) (by kernel_rfl) (by kernel_rfl) (fun _ _ _ h => h) (Or.inl ⟨by rfl, ?y126⟩) (by assumption) ?r126
    case y126 => (intro w hS; (try dsimp only at hS); try simp only [la, lb, lc]; go_simp; (try with_reducible rfl))
    try simp only [la, lb, lc]
    try simp only [Act.put, ld, le, lf]
    refine' wpAnyH_take (i := 33) (v := _) rfl (by kernel_rfl) (by kernel_rfl) (by kernel_rfl) (fun _ _ _ h => h) (Or.inl ⟨by rfl, ?y127⟩) (by assumption) ?r127
    case y127 => (intro w hS; (try dsimp only at hS); try simp only [la, lb, lc]; go_simp; (try with_reducible rfl))
    try simp only [la, lb, lc]
    try simp only [Act.put, ld, le, lf]
    refine wpAnyH_ready (rs := [30]) (by kernel_rfl) (by simp) ?_
    refine AllReadyH.cons rfl (fun K hK => ?_) AllReadyH.nil
    try simp only [la, lb, lc]
    go_simp
    with_reducible refine (mul_q (HX.out.a.mono (l := 700) (by omega)) (HX.out.a.mono (l := 700) (by omega)) (by omega) (by omega) m3 HE_m3.out).mono ?_
    rintro e w40 ⟨s_x8, A_x8, n_x8, c_x8, t_x8, B_x8, m_x8, d_x8, rfl, h_x8, hbx⟩
    replace HX := Lib.hid (HX.out.below hbx)
    have H_x8 := Lib.hid h_x8
    clear hbx
    refine hK.out _ _ (by with_reducible exact HX.out.keep) (fun hHeld => ?_)
    clear hK K
    try simp only [Act.put, ld, le, lf]
    refine wpAnyH_ready (rs := [32]) (by kernel_rfl) (by simp) ?_
    refine AllReadyH.cons rfl (fun K hK => ?_) AllReadyH.nil
    try simp only [la, lb, lc]
    go_simp
    with_reducible refine (abs_q (HX.out.a.mono (l := 700) (by omega)) (by omega) (by omega) ab HE_ab.out).mono ?_
    rintro e w41 ⟨s_x9, A_x9, n_x9, c_x9, t_x9, B_x9, m_x9, d_x9, rfl, h_x9, hbx⟩
    replace HX := Lib.hid (HX.out.below hbx)
    replace H_x8 := Lib.hid (H_x8.out.below hbx)
    have H_x9 := Lib.hid h_x9
    clear hbx
    refine hK.out _ _ (by with_reducible exact HX.out.keep) (fun hHeld => ?_)
    clear hK K
    try simp only [Act.put, ld, le, lf]
    refine wpAnyH_ready (rs := [34]) (by kernel_rfl) (by simp) ?_
    refine AllReadyH.cons rfl (fun K hK => ?_) AllReadyH.nil
    try simp only [la, lb, lc]
    go_simp
    with_reducible refine (abs_q (HX.out.a.mono (l := 700) (by omega)) (by omega) (by omega) ab HE_ab.out).mono ?_
    rintro e w42 ⟨s_x10, A_x10, n_x10, c_x10, t_x10, B_x10, m_x10, d_x10, rfl, h_x10, hbx⟩
    replace HX := Lib.hid (HX.out.below hbx)
    replace H_x8 := Lib.hid (H_x8.out.below hbx)
    replace H_x9 := Lib.hid (H_x9.out.below hbx)
    have H_x10 := Lib.hid h_x10
    clear hbx
    refine hK.out _ _ (by with_reducible exact HX.out.keep) (fun hHeld => ?_)
    clear hK K
    try simp only [Act.put, ld, le, lf]
    refine wpAnyH_ready (rs := [35]) (by kernel_rfl) (by simp) ?_
    refine AllReadyH.cons rfl (fun K hK => ?_) AllReadyH.nil
    try simp only [la, lb, lc]
    go_simp
    with_reducible refine (mul_q (H_x9.out.isq (k := 700) (Nat.le_trans HL_ab.out (by omega))) (H_x10.out.isq (k := 700) (Nat.le_trans HL_ab.out (by omega))) (by omega) (by omega) m4 HE_m4.out).mono ?_
    rintro e w43 ⟨s_x11, A_x11, n_x11, c_x11, t_x11, B_x11, m_x11, d_x11, rfl, h_x11, hbx⟩
    replace HX := Lib.hid (HX.out.below hbx)
    replace H_x8 := Lib.hid (H_x8.out.below hbx)
    replace H_x9 := Lib.hid (H_x9.out.below hbx)
    replace H_x10 := Lib.hid (H_x10.out.below hbx)
    have H_x11 := Lib.hid h_x11
    clear hbx
    refine hK.out _ _ (by with_reducible exact HX.out.keep) (fun hHeld => ?_)
    clear hK K
    try simp only [Act.put, ld, le, lf]
    refine wpAnyH_ready (rs := [36]) (by kernel_rfl) (by simp) ?_
    refine AllReadyH.cons rfl (fun K hK => ?_) AllReadyH.nil
    try simp only [la, lb, lc]
    go_simp
    with_reducible refine (same_q (H_x8.out.isq (k := 700) (Nat.le_trans HL_m3.out (by omega))) (H_x11.out.isq (k := 700) (Nat.le_trans HL_m4.out (by omega))) (by omega) (by omega) (true) HEM.out).mono ?_
    rintro e w44 ⟨rfl, hbx⟩
    replace HX := Lib.hid (HX.out.below hbx)
    replace H_x8 := Lib.hid (H_x8.out.below hbx)
    replace H_x9 := Lib.hid (H_x9.out.below hbx)
    replace H_x10 := Lib.hid (H_x10.out.below hbx)
    replace H_x11 := Lib.hid (H_x11.out.below hbx)
    clear hbx
    refine hK.out _ _ (by with_reducible exact HX.out.keep) (fun hHeld => ?_)
    clear hK K
    try simp only [Act.put, ld, le, lf]
    refine' wpAnyH_take (i := 37) (v := _) rfl (by kernel_rfl) (by kernel_rfl) (by kernel_rfl) (fun _ _ _ h => h) (Or.inl ⟨by rfl, ?y128⟩) (by assumption) ?r128
    case y128 => (intro w hS; (try dsimp only at hS); try simp only [la, lb, lc]; go_simp; (try with_reducible rfl))
    try simp only [la, lb, lc]
    try simp only [Act.put, ld, le, lf]
    refine' wpAnyH_take (i := 38) (v := _) rfl (by kernel_rfl) (by kernel_rfl) (by kernel_rfl) (fun _ _ _ h => h) (Or.inl ⟨by rfl, ?y129⟩) (by assumption) ?r129
    case y129 => (intro w hS; (try dsimp only at hS); try simp only [la, lb, lc]; go_simp; (try with_reducible rfl))
    try simp only [la, lb, lc]
    try simp only [Act.put, ld, le, lf]
    refine wpAnyH_done (by kernel_rfl) ?_ _
    go_wp2_with fail
    go_meet
    exact ⟨rfl, HX.out⟩
  case rest =>
   clear HX
   obtain ⟨rfl, HX⟩ := hcut
   go_upto_region 6 with fail
   go_cut [10, 11] from 109 to 114 (fun s10 s11 wx => ∃ (gf gg : Nat) (sf : Bool) (Af : Option Addr) (nf cf : Nat) (tf : Bool) (Bf : Option Addr) (mf df : Nat) (sg : Bool) (Ag : Option Addr) (ng cg : Nat) (tg : Bool) (Bg : Option Addr) (mg dg : Nat), s10 = .pointer (some ⟨gf, 0, none⟩) ∧ s11 = .pointer (some ⟨gg, 0, none⟩) ∧ Hid (Q5 w wx gf gg sa Aa na ca ta Ba ma da sb Ab nb cb tb Bb mb db sc Ac nc cc tc Bc mc dc sf Af nf cf tf Bf mf df sg Ag ng cg tg Bg mg dg p r u qf qg))
   case first =>
    as_aux_lemma =>
     replace HX := Lib.hid HX.out.drew
     obtain ⟨W0, hW0⟩ : ∃ V, wc.drew = V := ⟨_, rfl⟩
     refine wp_region_held_drew (S := (fun V => V.cell? ⟨w.heap.size, 0, none⟩ = some (.bool sa) ∧ V.cell? ⟨w.heap.size, 1, none⟩ = some (.slice Aa na ca) ∧ V.cell? ⟨w.heap.size, 2, none⟩ = some (.bool ta) ∧ V.cell? ⟨w.heap.size, 3, none⟩ = some (.slice Ba ma da) ∧ V.cell? ⟨w.heap.size + 1, 0, none⟩ = some (.bool sb) ∧ V.cell? ⟨w.heap.size + 1, 1, none⟩ = some (.slice Ab nb cb) ∧ V.cell? ⟨w.heap.size + 1, 2, none⟩ = some (.bool tb) ∧ V.cell? ⟨w.heap.size + 1, 3, none⟩ = some (.slice Bb mb db) ∧ V.cell? ⟨w.heap.size + 1 + 1, 0, none⟩ = some (.bool sc) ∧ V.cell? ⟨w.heap.size + 1 + 1, 1, none⟩ = some (.slice Ac nc cc) ∧ V.cell? ⟨w.heap.size + 1 + 1, 2, none⟩ = some (.bool tc) ∧ V.cell? ⟨w.heap.size + 1 + 1, 3, none⟩ = some (.slice Bc mc dc))) (by kernel_rfl) (by with_reducible exact HX.out.keep) (fun hHeld => ?_)
     rw [hW0] at HX hHeld
     rw [hW0]
     clear hW0
     refine' wpAnyH_take (i := 0) (v := _) rfl (by kernel_rfl) (by kernel_rfl) (by kernel_rfl) (fun _ _ _ h => h) (Or.inl ⟨by rfl, ?y130⟩) (by assumption) ?r130
     case y130 => (intro w hS; (try dsimp only at hS); try simp only [la, lb]; go_simp; (try with_reducible rfl))
     try simp only [la, lb]
     try simp only [Act.put, ld, le, lf]
     refine' wpAnyH_take (i := 3) (v := _) rfl (by kernel_rfl) (by kernel_rfl) (by kernel_rfl) (fun _ _ _ h => h) (Or.inl ⟨by rfl, ?y131⟩) (by assumption) ?r131
     case y131 => (intro w hS; (try dsimp only at hS); try simp only [la, lb, lc]; go_simp; (try with_reducible rfl))
     try simp only [la, lb, lc]
     try simp only [Act.put, ld, le, lf]
     refine wpAnyH_ready (rs := [1, 6, 7]) (by kernel_rfl) (by simp) ?_
     refine (AllReadyH.cons rfl (fun K hK => ?_) (AllReadyH.cons rfl (fun K hK => ?_) (AllReadyH.cons rfl (fun K hK => ?_) AllReadyH.nil)))
     ·
      try simp only [la, lb, lc]
      go_simp
      with_reducible refine (floor_q (IsQ.mono (l := 700) HX.out.a (by omega)) (by omega) (by omega) fl HFL.out).mono ?_
      rintro e W1 ⟨s1, A1, n1, c1, rfl, hr, hbx⟩
      have X1 := Lib.hid (HX.out.below hbx)
      have G1_fl := Lib.hid hr
      clear hbx hr
      refine hK.out _ _ (by with_reducible exact X1.out.keep) (fun hHeld => ?_)
      clear hK K
      try simp only [Act.put, ld, le, lf]
      refine wpAnyH_ready (rs := [2, 6, 7]) (by kernel_rfl) (by simp) ?_
      refine (AllReadyH.cons rfl (fun K hK => ?_) (AllReadyH.cons rfl (fun K hK => ?_) (AllReadyH.cons rfl (fun K hK => ?_) AllReadyH.nil)))
      ·
       try simp only [la, lb, lc]
       go_simp
       with_reducible refine (whole_q (G1_fl.out.isz HZF.out) (by omega) qf HQF.out).mono ?_
       rintro e W2 ⟨s2, A2, n2, c2, t2, B2, m2, d2, rfl, hr, hbx⟩
       have X2 := Lib.hid (X1.out.below hbx)
       have G2_fl := Lib.hid (G1_fl.out.below hbx)
       have G2_qf := Lib.hid hr
       clear hbx hr
       refine hK.out _ _ (by with_reducible exact X2.out.keep) (fun hHeld => ?_)
       clear hK K
       try simp only [Act.put, ld, le, lf]
       refine wpAnyH_ready (rs := [4, 6, 7]) (by kernel_rfl) (by simp) ?_
       refine (AllReadyH.cons rfl (fun K hK => ?_) (AllReadyH.cons rfl (fun K hK => ?_) (AllReadyH.cons rfl (fun K hK => ?_) AllReadyH.nil)))
       ·
        try simp only [la, lb, lc]
        go_simp
        with_reducible refine (ceil_q (IsQ.mono (l := 700) X2.out.a (by omega)) (by omega) (by omega) ce HCE.out).mono ?_
        rintro e W3 ⟨s3, A3, n3, c3, rfl, hr, hbx⟩
        have X3 := Lib.hid (X2.out.below hbx)
        have G3_fl := Lib.hid (G2_fl.out.below hbx)
        have G3_qf := Lib.hid (G2_qf.out.below hbx)
        have G3_ce := Lib.hid hr
        clear hbx hr
        refine hK.out _ _ (by with_reducible exact X3.out.keep) (fun hHeld => ?_)
        clear hK K
        try simp only [Act.put, ld, le, lf]
        refine wpAnyH_ready (rs := [5, 6, 7]) (by kernel_rfl) (by simp) ?_
        refine (AllReadyH.cons rfl (fun K hK => ?_) (AllReadyH.cons rfl (fun K hK => ?_) (AllReadyH.cons rfl (fun K hK => ?_) AllReadyH.nil)))
        ·
         try simp only [la, lb, lc]
         go_simp
         with_reducible refine (whole_q (G3_ce.out.isz HZC.out) (by omega) qg HQG.out).mono ?_
         rintro e W4 ⟨s4, A4, n4, c4, t4, B4, m4, d4, rfl, hr, hbx⟩
         have X4 := Lib.hid (X3.out.below hbx)
         have G4_fl := Lib.hid (G3_fl.out.below hbx)
         have G4_qf := Lib.hid (G3_qf.out.below hbx)
         have G4_ce := Lib.hid (G3_ce.out.below hbx)
         have G4_qg := Lib.hid hr
         clear hbx hr
         refine hK.out _ _ (by with_reducible exact X4.out.keep) (fun hHeld => ?_)
         clear hK K
         try simp only [Act.put, ld, le, lf]
         refine wpAnyH_ready (rs := [6, 7]) (by kernel_rfl) (by simp) ?_
         refine (AllReadyH.cons rfl (fun K hK => ?_) (AllReadyH.cons rfl (fun K hK => ?_) AllReadyH.nil))
         ·
          try simp only [la, lb, lc]
          go_simp
          obtain ⟨W5, hW5⟩ : ∃ V, W4.alloc (Obj.cells #[.bool false, .slice none 0 0, .bool false, .slice none 0 0] 28) = V := ⟨_, rfl⟩
          rw [hW5]
          have X5 := Lib.hid (X4.out.al hW5)
          have G5_fl := Lib.hid (G4_fl.out.al hW5)
          have G5_qf := Lib.hid (G4_qf.out.al hW5)
          have G5_ce := Lib.hid (G4_ce.out.al hW5)
          have G5_qg := Lib.hid (G4_qg.out.al hW5)
          have G5_J10 := Lib.hid (Qbx.fresh hW5)
          refine hK.out _ _ (by with_reducible exact X5.out.keep) (fun hHeld => ?_)
          clear hK K
          try simp only [Act.put, ld, le, lf]
          clear hW5
          refine wpAnyH_ready (rs := [7]) (by kernel_rfl) (by simp) ?_
          refine (AllReadyH.cons rfl (fun K hK => ?_) AllReadyH.nil)
          ·
           try simp only [la, lb, lc]
           go_simp
           obtain ⟨W6, hW6⟩ : ∃ V, W5.alloc (Obj.cells #[.bool false, .slice none 0 0, .bool false, .slice none 0 0] 28) = V := ⟨_, rfl⟩
           rw [hW6]
           have X6 := Lib.hid (X5.out.al hW6)
           have G6_fl := Lib.hid (G5_fl.out.al hW6)
           have G6_qf := Lib.hid (G5_qf.out.al hW6)
           have G6_ce := Lib.hid (G5_ce.out.al hW6)
           have G6_qg := Lib.hid (G5_qg.out.al hW6)
           have G6_J10 := Lib.hid (G5_J10.out.al hW6)
           have G6_J11 := Lib.hid (Qbx.fresh hW6)
           refine hK.out _ _ (by with_reducible exact X6.out.keep) (fun hHeld => ?_)
           clear hK K
           try simp only [Act.put, ld, le, lf]
           clear hW6
           refine wpAnyH_ready (rs := [8]) (by kernel_rfl) (by simp) ?_
           refine AllReadyH.cons rfl (fun K hK => ?_) AllReadyH.nil
           try simp only [la, lb, lc]
           have v0 := G6_J10.out.c0
           have vf0 := G6_J10.out.f 0
           have v1 := G6_J10.out.c1
           have vf1 := G6_J10.out.f 1
           have v2 := G6_J10.out.c2
           have vf2 := G6_J10.out.f 2
           have v3 := G6_J10.out.c3
           have vf3 := G6_J10.out.f 3
           go_simp
           clear v0 v1 v2 v3 vf0 vf1 vf2 vf3
           obtain ⟨W7, hW7⟩ : ∃ V, put4 W6 W4.heap.size s2 A2 n2 c2 t2 B2 m2 d2 = V := ⟨_, rfl⟩
           refine (congrArg (K _) hW7).mpr ?_
           have X7 := Lib.hid (X6.out.pt G6_J10.out (X4.out.i3.lt) hW7)
           have G7_M := Lib.hid (G6_J10.out.pt hW7)
           have G7_O := Lib.hid (G6_J11.out.pt_far (Ne.symm (Nat.ne_of_lt (Qbx.lt G5_J10.out))) hW7)
           have G7_qf := Lib.hid (G6_qf.out.pt G6_J10.out hW7)
           have G7_qg := Lib.hid (G6_qg.out.pt G6_J10.out hW7)
           clear hW7
           refine hK.out _ _ (by with_reducible exact X7.out.keep) (fun hHeld => ?_)
           clear hK K
           try simp only [Act.put, ld, le, lf]
           refine wpAnyH_ready (rs := [9]) (by kernel_rfl) (by simp) ?_
           refine AllReadyH.cons rfl (fun K hK => ?_) AllReadyH.nil
           try simp only [la, lb, lc]
           have v0 := G7_O.out.c0
           have vf0 := G7_O.out.f 0
           have v1 := G7_O.out.c1
           have vf1 := G7_O.out.f 1
           have v2 := G7_O.out.c2
           have vf2 := G7_O.out.f 2
           have v3 := G7_O.out.c3
           have vf3 := G7_O.out.f 3
           go_simp
           clear v0 v1 v2 v3 vf0 vf1 vf2 vf3
           obtain ⟨W8, hW8⟩ : ∃ V, put4 W7 W5.heap.size s4 A4 n4 c4 t4 B4 m4 d4 = V := ⟨_, rfl⟩
           refine (congrArg (K _) hW8).mpr ?_
           have X8 := Lib.hid (X7.out.pt G7_O.out (X5.out.i3.lt) hW8)
           have G8_M := Lib.hid (G7_O.out.pt hW8)
           have G8_O := Lib.hid (G7_M.out.pt_far (Nat.ne_of_lt (Qbx.lt G5_J10.out)) hW8)
           have G8_qf := Lib.hid (G7_qf.out.pt G7_O.out hW8)
           have G8_qg := Lib.hid (G7_qg.out.pt G7_O.out hW8)
           clear hW8
           refine hK.out _ _ (by with_reducible exact X8.out.keep) (fun hHeld => ?_)
           clear hK K
           try simp only [Act.put, ld, le, lf]
           refine wpAnyH_done (by kernel_rfl) ?_ _
           go_wp2_with fail
           go_meet
           exact ⟨W4.heap.size, W5.heap.size, _, _, _, _, _, _, _, _, _, _, _, _, _, _, _, _, rfl, rfl, ⟨X8.out, G8_O.out, G8_M.out, G8_qf.out, G8_qg.out⟩⟩
         ·
          try simp only [la, lb, lc]
          go_simp
          obtain ⟨W9, hW9⟩ : ∃ V, W4.alloc (Obj.cells #[.bool false, .slice none 0 0, .bool false, .slice none 0 0] 28) = V := ⟨_, rfl⟩
          rw [hW9]
          have X9 := Lib.hid (X4.out.al hW9)
          have G9_fl := Lib.hid (G4_fl.out.al hW9)
          have G9_qf := Lib.hid (G4_qf.out.al hW9)
          have G9_ce := Lib.hid (G4_ce.out.al hW9)
          have G9_qg := Lib.hid (G4_qg.out.al hW9)
          have G9_J11 := Lib.hid (Qbx.fresh hW9)
          refine hK.out _ _ (by with_reducible exact X9.out.keep) (fun hHeld => ?_)
          clear hK K
          try simp only [Act.put, ld, le, lf]
          clear hW9
          refine wpAnyH_ready (rs := [6]) (by kernel_rfl) (by simp) ?_
          refine (AllReadyH.cons rfl (fun K hK => ?_) AllReadyH.nil)
          ·
           try simp only [la, lb, lc]
           go_simp
           obtain ⟨W10, hW10⟩ : ∃ V, W9.alloc (Obj.cells #[.bool false, .slice none 0 0, .bool false, .slice none 0 0] 28) = V := ⟨_, rfl⟩
           rw [hW10]
           have X10 := Lib.hid (X9.out.al hW10)
           have G10_fl := Lib.hid (G9_fl.out.al hW10)
           have G10_qf := Lib.hid (G9_qf.out.al hW10)
           have G10_ce := Lib.hid (G9_ce.out.al hW10)
           have G10_qg := Lib.hid (G9_qg.out.al hW10)
           have G10_J11 := Lib.hid (G9_J11.out.al hW10)
           have G10_J10 := Lib.hid (Qbx.fresh hW10)
           refine hK.out _ _ (by with_reducible exact X10.out.keep) (fun hHeld => ?_)
           clear hK K
           try simp only [Act.put, ld, le, lf]
           clear hW10
           refine wpAnyH_ready (rs := [8]) (by kernel_rfl) (by simp) ?_
           refine AllReadyH.cons rfl (fun K hK => ?_) AllReadyH.nil
           try simp only [la, lb, lc]
           have v0 := G10_J10.out.c0
           have vf0 := G10_J10.out.f 0
           have v1 := G10_J10.out.c1
           have vf1 := G10_J10.out.f 1
           have v2 := G10_J10.out.c2
           have vf2 := G10_J10.out.f 2
           have v3 := G10_J10.out.c3
           have vf3 := G10_J10.out.f 3
           go_simp
           clear v0 v1 v2 v3 vf0 vf1 vf2 vf3
           obtain ⟨W11, hW11⟩ : ∃ V, put4 W10 W9.heap.size s2 A2 n2 c2 t2 B2 m2 d2 = V := ⟨_, rfl⟩
           refine (congrArg (K _) hW11).mpr ?_
           have X11 := Lib.hid (X10.out.pt G10_J10.out (X9.out.i3.lt) hW11)
           have G11_M := Lib.hid (G10_J10.out.pt hW11)
           have G11_O := Lib.hid (G10_J11.out.pt_far (Ne.symm (Nat.ne_of_gt (Qbx.lt G9_J11.out))) hW11)
           have G11_qf := Lib.hid (G10_qf.out.pt G10_J10.out hW11)
           have G11_qg := Lib.hid (G10_qg.out.pt G10_J10.out hW11)
           clear hW11
           refine hK.out _ _ (by with_reducible exact X11.out.keep) (fun hHeld => ?_)
           clear hK K
           try simp only [Act.put, ld, le, lf]
           refine wpAnyH_ready (rs := [9]) (by kernel_rfl) (by simp) ?_
           refine AllReadyH.cons rfl (fun K hK => ?_) AllReadyH.nil
           try simp only [la, lb, lc]
           have v0 := G11_O.out.c0
           have vf0 := G11_O.out.f 0
           have v1 := G11_O.out.c1
           have vf1 := G11_O.out.f 1
           have v2 := G11_O.out.c2
           have vf2 := G11_O.out.f 2
           have v3 := G11_O.out.c3
           have vf3 := G11_O.out.f 3
           go_simp
           clear v0 v1 v2 v3 vf0 vf1 vf2 vf3
           obtain ⟨W12, hW12⟩ : ∃ V, put4 W11 W4.heap.size s4 A4 n4 c4 t4 B4 m4 d4 = V := ⟨_, rfl⟩
           refine (congrArg (K _) hW12).mpr ?_
           have X12 := Lib.hid (X11.out.pt G11_O.out (X4.out.i3.lt) hW12)
           have G12_M := Lib.hid (G11_O.out.pt hW12)
           have G12_O := Lib.hid (G11_M.out.pt_far (Nat.ne_of_gt (Qbx.lt G9_J11.out)) hW12)
           have G12_qf := Lib.hid (G11_qf.out.pt G11_O.out hW12)
           have G12_qg := Lib.hid (G11_qg.out.pt G11_O.out hW12)
           clear hW12
           refine hK.out _ _ (by with_reducible exact X12.out.keep) (fun hHeld => ?_)
           clear hK K
           try simp only [Act.put, ld, le, lf]
           refine wpAnyH_done (by kernel_rfl) ?_ _
           go_wp2_with fail
           go_meet
           exact ⟨W9.heap.size, W4.heap.size, _, _, _, _, _, _, _, _, _, _, _, _, _, _, _, _, rfl, rfl, ⟨X12.out, G12_O.out, G12_M.out, G12_qf.out, G12_qg.out⟩⟩
        ·
         try simp only [la, lb, lc]
         go_simp
         obtain ⟨W13, hW13⟩ : ∃ V, W3.alloc (Obj.cells #[.bool false, .slice none 0 0, .bool false, .slice none 0 0] 28) = V := ⟨_, rfl⟩
         rw [hW13]
         have X13 := Lib.hid (X3.out.al hW13)
         have G13_fl := Lib.hid (G3_fl.out.al hW13)
         have G13_qf := Lib.hid (G3_qf.out.al hW13)
         have G13_ce := Lib.hid (G3_ce.out.al hW13)
         have G13_J10 := Lib.hid (Qbx.fresh hW13)
         refine hK.out _ _ (by with_reducible exact X13.out.keep) (fun hHeld => ?_)
         clear hK K
         try simp only [Act.put, ld, le, lf]
         clear hW13
         refine wpAnyH_ready (rs := [5, 7]) (by kernel_rfl) (by simp) ?_
         refine (AllReadyH.cons rfl (fun K hK => ?_) (AllReadyH.cons rfl (fun K hK => ?_) AllReadyH.nil))
         ·
          try simp only [la, lb, lc]
          go_simp
          with_reducible refine (whole_q (G13_ce.out.isz HZC.out) (by omega) qg HQG.out).mono ?_
          rintro e W14 ⟨s14, A14, n14, c14, t14, B14, m14, d14, rfl, hr, hbx⟩
          have X14 := Lib.hid (X13.out.below hbx)
          have G14_fl := Lib.hid (G13_fl.out.below hbx)
          have G14_qf := Lib.hid (G13_qf.out.below hbx)
          have G14_ce := Lib.hid (G13_ce.out.below hbx)
          have G14_J10 := Lib.hid (G13_J10.out.below hbx)
          have G14_qg := Lib.hid hr
          clear hbx hr
          refine hK.out _ _ (by with_reducible exact X14.out.keep) (fun hHeld => ?_)
          clear hK K
          try simp only [Act.put, ld, le, lf]
          refine wpAnyH_ready (rs := [7]) (by kernel_rfl) (by simp) ?_
          refine (AllReadyH.cons rfl (fun K hK => ?_) AllReadyH.nil)
          ·
           try simp only [la, lb, lc]
           go_simp
           obtain ⟨W15, hW15⟩ : ∃ V, W14.alloc (Obj.cells #[.bool false, .slice none 0 0, .bool false, .slice none 0 0] 28) = V := ⟨_, rfl⟩
           rw [hW15]
           have X15 := Lib.hid (X14.out.al hW15)
           have G15_fl := Lib.hid (G14_fl.out.al hW15)
           have G15_qf := Lib.hid (G14_qf.out.al hW15)
           have G15_ce := Lib.hid (G14_ce.out.al hW15)
           have G15_J10 := Lib.hid (G14_J10.out.al hW15)
           have G15_qg := Lib.hid (G14_qg.out.al hW15)
           have G15_J11 := Lib.hid (Qbx.fresh hW15)
           refine hK.out _ _ (by with_reducible exact X15.out.keep) (fun hHeld => ?_)
           clear hK K
           try simp only [Act.put, ld, le, lf]
           clear hW15
           refine wpAnyH_ready (rs := [8]) (by kernel_rfl) (by simp) ?_
           refine AllReadyH.cons rfl (fun K hK => ?_) AllReadyH.nil
           try simp only [la, lb, lc]
           have v0 := G15_J10.out.c0
           have vf0 := G15_J10.out.f 0
           have v1 := G15_J10.out.c1
           have vf1 := G15_J10.out.f 1
           have v2 := G15_J10.out.c2
           have vf2 := G15_J10.out.f 2
           have v3 := G15_J10.out.c3
           have vf3 := G15_J10.out.f 3
           go_simp
           clear v0 v1 v2 v3 vf0 vf1 vf2 vf3
           obtain ⟨W16, hW16⟩ : ∃ V, put4 W15 W3.heap.size s2 A2 n2 c2 t2 B2 m2 d2 = V := ⟨_, rfl⟩
           refine (congrArg (K _) hW16).mpr ?_
           have X16 := Lib.hid (X15.out.pt G15_J10.out (X3.out.i3.lt) hW16)
           have G16_M := Lib.hid (G15_J10.out.pt hW16)
           have G16_O := Lib.hid (G15_J11.out.pt_far (Ne.symm (Nat.ne_of_lt (Qbx.lt G14_J10.out))) hW16)
           have G16_qf := Lib.hid (G15_qf.out.pt G15_J10.out hW16)
           have G16_qg := Lib.hid (G15_qg.out.pt G15_J10.out hW16)
           clear hW16
           refine hK.out _ _ (by with_reducible exact X16.out.keep) (fun hHeld => ?_)
           clear hK K
           try simp only [Act.put, ld, le, lf]
           refine wpAnyH_ready (rs := [9]) (by kernel_rfl) (by simp) ?_
           refine AllReadyH.cons rfl (fun K hK => ?_) AllReadyH.nil
           try simp only [la, lb, lc]
           have v0 := G16_O.out.c0
           have vf0 := G16_O.out.f 0
           have v1 := G16_O.out.c1
           have vf1 := G16_O.out.f 1
           have v2 := G16_O.out.c2
           have vf2 := G16_O.out.f 2
           have v3 := G16_O.out.c3
           have vf3 := G16_O.out.f 3
           go_simp
           clear v0 v1 v2 v3 vf0 vf1 vf2 vf3
           obtain ⟨W17, hW17⟩ : ∃ V, put4 W16 W14.heap.size s14 A14 n14 c14 t14 B14 m14 d14 = V := ⟨_, rfl⟩
           refine (congrArg (K _) hW17).mpr ?_
           have X17 := Lib.hid (X16.out.pt G16_O.out (X14.out.i3.lt) hW17)
           have G17_M := Lib.hid (G16_O.out.pt hW17)
           have G17_O := Lib.hid (G16_M.out.pt_far (Nat.ne_of_lt (Qbx.lt G14_J10.out)) hW17)
           have G17_qf := Lib.hid (G16_qf.out.pt G16_O.out hW17)
           have G17_qg := Lib.hid (G16_qg.out.pt G16_O.out hW17)
           clear hW17
           refine hK.out _ _ (by with_reducible exact X17.out.keep) (fun hHeld => ?_)
           clear hK K
           try simp only [Act.put, ld, le, lf]
           refine wpAnyH_done (by kernel_rfl) ?_ _
           go_wp2_with fail
           go_meet
           exact ⟨W3.heap.size, W14.heap.size, _, _, _, _, _, _, _, _, _, _, _, _, _, _, _, _, rfl, rfl, ⟨X17.out, G17_O.out, G17_M.out, G17_qf.out, G17_qg.out⟩⟩
         ·
          try simp only [la, lb, lc]
          go_simp
          obtain ⟨W18, hW18⟩ : ∃ V, W13.alloc (Obj.cells #[.bool false, .slice none 0 0, .bool false, .slice none 0 0] 28) = V := ⟨_, rfl⟩
          rw [hW18]
          have X18 := Lib.hid (X13.out.al hW18)
          have G18_fl := Lib.hid (G13_fl.out.al hW18)
          have G18_qf := Lib.hid (G13_qf.out.al hW18)
          have G18_ce := Lib.hid (G13_ce.out.al hW18)
          have G18_J10 := Lib.hid (G13_J10.out.al hW18)
          have G18_J11 := Lib.hid (Qbx.fresh hW18)
          refine hK.out _ _ (by with_reducible exact X18.out.keep) (fun hHeld => ?_)
          clear hK K
          try simp only [Act.put, ld, le, lf]
          clear hW18
          refine wpAnyH_ready (rs := [5]) (by kernel_rfl) (by simp) ?_
          refine (AllReadyH.cons rfl (fun K hK => ?_) AllReadyH.nil)
          ·
           try simp only [la, lb, lc]
           go_simp
           with_reducible refine (whole_q (G18_ce.out.isz HZC.out) (by omega) qg HQG.out).mono ?_
           rintro e W19 ⟨s19, A19, n19, c19, t19, B19, m19, d19, rfl, hr, hbx⟩
           have X19 := Lib.hid (X18.out.below hbx)
           have G19_fl := Lib.hid (G18_fl.out.below hbx)
           have G19_qf := Lib.hid (G18_qf.out.below hbx)
           have G19_ce := Lib.hid (G18_ce.out.below hbx)
           have G19_J10 := Lib.hid (G18_J10.out.below hbx)
           have G19_J11 := Lib.hid (G18_J11.out.below hbx)
           have G19_qg := Lib.hid hr
           clear hbx hr
           refine hK.out _ _ (by with_reducible exact X19.out.keep) (fun hHeld => ?_)
           clear hK K
           try simp only [Act.put, ld, le, lf]
           refine wpAnyH_ready (rs := [8]) (by kernel_rfl) (by simp) ?_
           refine AllReadyH.cons rfl (fun K hK => ?_) AllReadyH.nil
           try simp only [la, lb, lc]
           have v0 := G19_J10.out.c0
           have vf0 := G19_J10.out.f 0
           have v1 := G19_J10.out.c1
           have vf1 := G19_J10.out.f 1
           have v2 := G19_J10.out.c2
           have vf2 := G19_J10.out.f 2
           have v3 := G19_J10.out.c3
           have vf3 := G19_J10.out.f 3
           go_simp
           clear v0 v1 v2 v3 vf0 vf1 vf2 vf3
           obtain ⟨W20, hW20⟩ : ∃ V, put4 W19 W3.heap.size s2 A2 n2 c2 t2 B2 m2 d2 = V := ⟨_, rfl⟩
           refine (congrArg (K _) hW20).mpr ?_
           have X20 := Lib.hid (X19.out.pt G19_J10.out (X3.out.i3.lt) hW20)
           have G20_M := Lib.hid (G19_J10.out.pt hW20)
           have G20_O := Lib.hid (G19_J11.out.pt_far (Ne.symm (Nat.ne_of_lt (Qbx.lt G13_J10.out))) hW20)
           have G20_qf := Lib.hid (G19_qf.out.pt G19_J10.out hW20)
           have G20_qg := Lib.hid (G19_qg.out.pt G19_J10.out hW20)
           clear hW20
           refine hK.out _ _ (by with_reducible exact X20.out.keep) (fun hHeld => ?_)
           clear hK K
           try simp only [Act.put, ld, le, lf]
           refine wpAnyH_ready (rs := [9]) (by kernel_rfl) (by simp) ?_
           refine AllReadyH.cons rfl (fun K hK => ?_) AllReadyH.nil
           try simp only [la, lb, lc]
           have v0 := G20_O.out.c0
           have vf0 := G20_O.out.f 0
           have v1 := G20_O.out.c1
           have vf1 := G20_O.out.f 1
           have v2 := G20_O.out.c2
           have vf2 := G20_O.out.f 2
           have v3 := G20_O.out.c3
           have vf3 := G20_O.out.f 3
           go_simp
           clear v0 v1 v2 v3 vf0 vf1 vf2 vf3
           obtain ⟨W21, hW21⟩ : ∃ V, put4 W20 W13.heap.size s19 A19 n19 c19 t19 B19 m19 d19 = V := ⟨_, rfl⟩
           refine (congrArg (K _) hW21).mpr ?_
           have X21 := Lib.hid (X20.out.pt G20_O.out (X13.out.i3.lt) hW21)
           have G21_M := Lib.hid (G20_O.out.pt hW21)
           have G21_O := Lib.hid (G20_M.out.pt_far (Nat.ne_of_lt (Qbx.lt G13_J10.out)) hW21)
           have G21_qf := Lib.hid (G20_qf.out.pt G20_O.out hW21)
           have G21_qg := Lib.hid (G20_qg.out.pt G20_O.out hW21)
           clear hW21
           refine hK.out _ _ (by with_reducible exact X21.out.keep) (fun hHeld => ?_)
           clear hK K
           try simp only [Act.put, ld, le, lf]
           refine wpAnyH_done (by kernel_rfl) ?_ _
           go_wp2_with fail
           go_meet
           exact ⟨W3.heap.size, W13.heap.size, _, _, _, _, _, _, _, _, _, _, _, _, _, _, _, _, rfl, rfl, ⟨X21.out, G21_O.out, G21_M.out, G21_qf.out, G21_qg.out⟩⟩
        ·
         try simp only [la, lb, lc]
         go_simp
         obtain ⟨W22, hW22⟩ : ∃ V, W3.alloc (Obj.cells #[.bool false, .slice none 0 0, .bool false, .slice none 0 0] 28) = V := ⟨_, rfl⟩
         rw [hW22]
         have X22 := Lib.hid (X3.out.al hW22)
         have G22_fl := Lib.hid (G3_fl.out.al hW22)
         have G22_qf := Lib.hid (G3_qf.out.al hW22)
         have G22_ce := Lib.hid (G3_ce.out.al hW22)
         have G22_J11 := Lib.hid (Qbx.fresh hW22)
         refine hK.out _ _ (by with_reducible exact X22.out.keep) (fun hHeld => ?_)
         clear hK K
         try simp only [Act.put, ld, le, lf]
         clear hW22
         refine wpAnyH_ready (rs := [5, 6]) (by kernel_rfl) (by simp) ?_
         refine (AllReadyH.cons rfl (fun K hK => ?_) (AllReadyH.cons rfl (fun K hK => ?_) AllReadyH.nil))
         ·
          try simp only [la, lb, lc]
          go_simp
          with_reducible refine (whole_q (G22_ce.out.isz HZC.out) (by omega) qg HQG.out).mono ?_
          rintro e W23 ⟨s23, A23, n23, c23, t23, B23, m23, d23, rfl, hr, hbx⟩
          have X23 := Lib.hid (X22.out.below hbx)
          have G23_fl := Lib.hid (G22_fl.out.below hbx)
          have G23_qf := Lib.hid (G22_qf.out.below hbx)
          have G23_ce := Lib.hid (G22_ce.out.below hbx)
          have G23_J11 := Lib.hid (G22_J11.out.below hbx)
          have G23_qg := Lib.hid hr
          clear hbx hr
          refine hK.out _ _ (by with_reducible exact X23.out.keep) (fun hHeld => ?_)
          clear hK K
          try simp only [Act.put, ld, le, lf]
          refine wpAnyH_ready (rs := [6]) (by kernel_rfl) (by simp) ?_
          refine (AllReadyH.cons rfl (fun K hK => ?_) AllReadyH.nil)
          ·
           try simp only [la, lb, lc]
           go_simp
           obtain ⟨W24, hW24⟩ : ∃ V, W23.alloc (Obj.cells #[.bool false, .slice none 0 0, .bool false, .slice none 0 0] 28) = V := ⟨_, rfl⟩
           rw [hW24]
           have X24 := Lib.hid (X23.out.al hW24)
           have G24_fl := Lib.hid (G23_fl.out.al hW24)
           have G24_qf := Lib.hid (G23_qf.out.al hW24)
           have G24_ce := Lib.hid (G23_ce.out.al hW24)
           have G24_J11 := Lib.hid (G23_J11.out.al hW24)
           have G24_qg := Lib.hid (G23_qg.out.al hW24)
           have G24_J10 := Lib.hid (Qbx.fresh hW24)
           refine hK.out _ _ (by with_reducible exact X24.out.keep) (fun hHeld => ?_)
           clear hK K
           try simp only [Act.put, ld, le, lf]
           clear hW24
           refine wpAnyH_ready (rs := [8]) (by kernel_rfl) (by simp) ?_
           refine AllReadyH.cons rfl (fun K hK => ?_) AllReadyH.nil
           try simp only [la, lb, lc]
           have v0 := G24_J10.out.c0
           have vf0 := G24_J10.out.f 0
           have v1 := G24_J10.out.c1
           have vf1 := G24_J10.out.f 1
           have v2 := G24_J10.out.c2
           have vf2 := G24_J10.out.f 2
           have v3 := G24_J10.out.c3
           have vf3 := G24_J10.out.f 3
           go_simp
           clear v0 v1 v2 v3 vf0 vf1 vf2 vf3
           obtain ⟨W25, hW25⟩ : ∃ V, put4 W24 W23.heap.size s2 A2 n2 c2 t2 B2 m2 d2 = V := ⟨_, rfl⟩
           refine (congrArg (K _) hW25).mpr ?_
           have X25 := Lib.hid (X24.out.pt G24_J10.out (X23.out.i3.lt) hW25)
           have G25_M := Lib.hid (G24_J10.out.pt hW25)
           have G25_O := Lib.hid (G24_J11.out.pt_far (Ne.symm (Nat.ne_of_gt (Qbx.lt G23_J11.out))) hW25)
           have G25_qf := Lib.hid (G24_qf.out.pt G24_J10.out hW25)
           have G25_qg := Lib.hid (G24_qg.out.pt G24_J10.out hW25)
           clear hW25
           refine hK.out _ _ (by with_reducible exact X25.out.keep) (fun hHeld => ?_)
           clear hK K
           try simp only [Act.put, ld, le, lf]
           refine wpAnyH_ready (rs := [9]) (by kernel_rfl) (by simp) ?_
           refine AllReadyH.cons rfl (fun K hK => ?_) AllReadyH.nil
           try simp only [la, lb, lc]
           have v0 := G25_O.out.c0
           have vf0 := G25_O.out.f 0
           have v1 := G25_O.out.c1
           have vf1 := G25_O.out.f 1
           have v2 := G25_O.out.c2
           have vf2 := G25_O.out.f 2
           have v3 := G25_O.out.c3
           have vf3 := G25_O.out.f 3
           go_simp
           clear v0 v1 v2 v3 vf0 vf1 vf2 vf3
           obtain ⟨W26, hW26⟩ : ∃ V, put4 W25 W3.heap.size s23 A23 n23 c23 t23 B23 m23 d23 = V := ⟨_, rfl⟩
           refine (congrArg (K _) hW26).mpr ?_
           have X26 := Lib.hid (X25.out.pt G25_O.out (X3.out.i3.lt) hW26)
           have G26_M := Lib.hid (G25_O.out.pt hW26)
           have G26_O := Lib.hid (G25_M.out.pt_far (Nat.ne_of_gt (Qbx.lt G23_J11.out)) hW26)
           have G26_qf := Lib.hid (G25_qf.out.pt G25_O.out hW26)
           have G26_qg := Lib.hid (G25_qg.out.pt G25_O.out hW26)
           clear hW26
           refine hK.out _ _ (by with_reducible exact X26.out.keep) (fun hHeld => ?_)
           clear hK K
           try simp only [Act.put, ld, le, lf]
           refine wpAnyH_done (by kernel_rfl) ?_ _
           go_wp2_with fail
           go_meet
           exact ⟨W23.heap.size, W3.heap.size, _, _, _, _, _, _, _, _, _, _, _, _, _, _, _, _, rfl, rfl, ⟨X26.out, G26_O.out, G26_M.out, G26_qf.out, G26_qg.out⟩⟩
         ·
          try simp only [la, lb, lc]
          go_simp
          obtain ⟨W27, hW27⟩ : ∃ V, W22.alloc (Obj.cells #[.bool false, .slice none 0 0, .bool false, .slice none 0 0] 28) = V := ⟨_, rfl⟩
          rw [hW27]
          have X27 := Lib.hid (X22.out.al hW27)
          have G27_fl := Lib.hid (G22_fl.out.al hW27)
          have G27_qf := Lib.hid (G22_qf.out.al hW27)
          have G27_ce := Lib.hid (G22_ce.out.al hW27)
          have G27_J11 := Lib.hid (G22_J11.out.al hW27)
          have G27_J10 := Lib.hid (Qbx.fresh hW27)
          refine hK.out _ _ (by with_reducible exact X27.out.keep) (fun hHeld => ?_)
          clear hK K
          try simp only [Act.put, ld, le, lf]
          clear hW27
          refine wpAnyH_ready (rs := [5]) (by kernel_rfl) (by simp) ?_
          refine (AllReadyH.cons rfl (fun K hK => ?_) AllReadyH.nil)
          ·
           try simp only [la, lb, lc]
           go_simp
           with_reducible refine (whole_q (G27_ce.out.isz HZC.out) (by omega) qg HQG.out).mono ?_
           rintro e W28 ⟨s28, A28, n28, c28, t28, B28, m28, d28, rfl, hr, hbx⟩
           have X28 := Lib.hid (X27.out.below hbx)
           have G28_fl := Lib.hid (G27_fl.out.below hbx)
           have G28_qf := Lib.hid (G27_qf.out.below hbx)
           have G28_ce := Lib.hid (G27_ce.out.below hbx)
           have G28_J11 := Lib.hid (G27_J11.out.below hbx)
           have G28_J10 := Lib.hid (G27_J10.out.below hbx)
           have G28_qg := Lib.hid hr
           clear hbx hr
           refine hK.out _ _ (by with_reducible exact X28.out.keep) (fun hHeld => ?_)
           clear hK K
           try simp only [Act.put, ld, le, lf]
           refine wpAnyH_ready (rs := [8]) (by kernel_rfl) (by simp) ?_
           refine AllReadyH.cons rfl (fun K hK => ?_) AllReadyH.nil
           try simp only [la, lb, lc]
           have v0 := G28_J10.out.c0
           have vf0 := G28_J10.out.f 0
           have v1 := G28_J10.out.c1
           have vf1 := G28_J10.out.f 1
           have v2 := G28_J10.out.c2
           have vf2 := G28_J10.out.f 2
           have v3 := G28_J10.out.c3
           have vf3 := G28_J10.out.f 3
           go_simp
           clear v0 v1 v2 v3 vf0 vf1 vf2 vf3
           obtain ⟨W29, hW29⟩ : ∃ V, put4 W28 W22.heap.size s2 A2 n2 c2 t2 B2 m2 d2 = V := ⟨_, rfl⟩
           refine (congrArg (K _) hW29).mpr ?_
           have X29 := Lib.hid (X28.out.pt G28_J10.out (X22.out.i3.lt) hW29)
           have G29_M := Lib.hid (G28_J10.out.pt hW29)
           have G29_O := Lib.hid (G28_J11.out.pt_far (Ne.symm (Nat.ne_of_gt (Qbx.lt G22_J11.out))) hW29)
           have G29_qf := Lib.hid (G28_qf.out.pt G28_J10.out hW29)
           have G29_qg := Lib.hid (G28_qg.out.pt G28_J10.out hW29)
           clear hW29
           refine hK.out _ _ (by with_reducible exact X29.out.keep) (fun hHeld => ?_)
           clear hK K
           try simp only [Act.put, ld, le, lf]
           refine wpAnyH_ready (rs := [9]) (by kernel_rfl) (by simp) ?_
           refine AllReadyH.cons rfl (fun K hK => ?_) AllReadyH.nil
           try simp only [la, lb, lc]
           have v0 := G29_O.out.c0
           have vf0 := G29_O.out.f 0
           have v1 := G29_O.out.c1
           have vf1 := G29_O.out.f 1
           have v2 := G29_O.out.c2
           have vf2 := G29_O.out.f 2
           have v3 := G29_O.out.c3
           have vf3 := G29_O.out.f 3
           go_simp
           clear v0 v1 v2 v3 vf0 vf1 vf2 vf3
           obtain ⟨W30, hW30⟩ : ∃ V, put4 W29 W3.heap.size s28 A28 n28 c28 t28 B28 m28 d28 = V := ⟨_, rfl⟩
           refine (congrArg (K _) hW30).mpr ?_
           have X30 := Lib.hid (X29.out.pt G29_O.out (X3.out.i3.lt) hW30)
           have G30_M := Lib.hid (G29_O.out.pt hW30)
           have G30_O := Lib.hid (G29_M.out.pt_far (Nat.ne_of_gt (Qbx.lt G22_J11.out)) hW30)
           have G30_qf := Lib.hid (G29_qf.out.pt G29_O.out hW30)
           have G30_qg := Lib.hid (G29_qg.out.pt G29_O.out hW30)
           clear hW30
           refine hK.out _ _ (by with_reducible exact X30.out.keep) (fun hHeld => ?_)
           clear hK K
           try simp only [Act.put, ld, le, lf]
           refine wpAnyH_done (by kernel_rfl) ?_ _
           go_wp2_with fail
           go_meet
           exact ⟨W22.heap.size, W3.heap.size, _, _, _, _, _, _, _, _, _, _, _, _, _, _, _, _, rfl, rfl, ⟨X30.out, G30_O.out, G30_M.out, G30_qf.out, G30_qg.out⟩⟩
       ·
        try simp only [la, lb, lc]
        go_simp
        obtain ⟨W31, hW31⟩ : ∃ V, W2.alloc (Obj.cells #[.bool false, .slice none 0 0, .bool false, .slice none 0 0] 28) = V := ⟨_, rfl⟩
        rw [hW31]
        have X31 := Lib.hid (X2.out.al hW31)
        have G31_fl := Lib.hid (G2_fl.out.al hW31)
        have G31_qf := Lib.hid (G2_qf.out.al hW31)
        have G31_J10 := Lib.hid (Qbx.fresh hW31)
        refine hK.out _ _ (by with_reducible exact X31.out.keep) (fun hHeld => ?_)
        clear hK K
        try simp only [Act.put, ld, le, lf]
        clear hW31
        refine wpAnyH_ready (rs := [4, 7]) (by kernel_rfl) (by simp) ?_
        refine (AllReadyH.cons rfl (fun K hK => ?_) (AllReadyH.cons rfl (fun K hK => ?_) AllReadyH.nil))
        ·
         try simp only [la, lb, lc]
         go_simp
         with_reducible refine (ceil_q (IsQ.mono (l := 700) X31.out.a (by omega)) (by omega) (by omega) ce HCE.out).mono ?_
         rintro e W32 ⟨s32, A32, n32, c32, rfl, hr, hbx⟩
         have X32 := Lib.hid (X31.out.below hbx)
         have G32_fl := Lib.hid (G31_fl.out.below hbx)
         have G32_qf := Lib.hid (G31_qf.out.below hbx)
         have G32_J10 := Lib.hid (G31_J10.out.below hbx)
         have G32_ce := Lib.hid hr
         clear hbx hr
         refine hK.out _ _ (by with_reducible exact X32.out.keep) (fun hHeld => ?_)
         clear hK K
         try simp only [Act.put, ld, le, lf]
         refine wpAnyH_ready (rs := [5, 7]) (by kernel_rfl) (by simp) ?_
         refine (AllReadyH.cons rfl (fun K hK => ?_) (AllReadyH.cons rfl (fun K hK => ?_) AllReadyH.nil))
         ·
          try simp only [la, lb, lc]
          go_simp
          with_reducible refine (whole_q (G32_ce.out.isz HZC.out) (by omega) qg HQG.out).mono ?_
          rintro e W33 ⟨s33, A33, n33, c33, t33, B33, m33, d33, rfl, hr, hbx⟩
          have X33 := Lib.hid (X32.out.below hbx)
          have G33_fl := Lib.hid (G32_fl.out.below hbx)
          have G33_qf := Lib.hid (G32_qf.out.below hbx)
          have G33_J10 := Lib.hid (G32_J10.out.below hbx)
          have G33_ce := Lib.hid (G32_ce.out.below hbx)
          have G33_qg := Lib.hid hr
          clear hbx hr
          refine hK.out _ _ (by with_reducible exact X33.out.keep) (fun hHeld => ?_)
          clear hK K
          try simp only [Act.put, ld, le, lf]
          refine wpAnyH_ready (rs := [7]) (by kernel_rfl) (by simp) ?_
          refine (AllReadyH.cons rfl (fun K hK => ?_) AllReadyH.nil)
          ·
           try simp only [la, lb, lc]
           go_simp
           obtain ⟨W34, hW34⟩ : ∃ V, W33.alloc (Obj.cells #[.bool false, .slice none 0 0, .bool false, .slice none 0 0] 28) = V := ⟨_, rfl⟩
           rw [hW34]
           have X34 := Lib.hid (X33.out.al hW34)
           have G34_fl := Lib.hid (G33_fl.out.al hW34)
           have G34_qf := Lib.hid (G33_qf.out.al hW34)
           have G34_J10 := Lib.hid (G33_J10.out.al hW34)
           have G34_ce := Lib.hid (G33_ce.out.al hW34)
           have G34_qg := Lib.hid (G33_qg.out.al hW34)
           have G34_J11 := Lib.hid (Qbx.fresh hW34)
           refine hK.out _ _ (by with_reducible exact X34.out.keep) (fun hHeld => ?_)
           clear hK K
           try simp only [Act.put, ld, le, lf]
           clear hW34
           refine wpAnyH_ready (rs := [8]) (by kernel_rfl) (by simp) ?_
           refine AllReadyH.cons rfl (fun K hK => ?_) AllReadyH.nil
           try simp only [la, lb, lc]
           have v0 := G34_J10.out.c0
           have vf0 := G34_J10.out.f 0
           have v1 := G34_J10.out.c1
           have vf1 := G34_J10.out.f 1
           have v2 := G34_J10.out.c2
           have vf2 := G34_J10.out.f 2
           have v3 := G34_J10.out.c3
           have vf3 := G34_J10.out.f 3
           go_simp
           clear v0 v1 v2 v3 vf0 vf1 vf2 vf3
           obtain ⟨W35, hW35⟩ : ∃ V, put4 W34 W2.heap.size s2 A2 n2 c2 t2 B2 m2 d2 = V := ⟨_, rfl⟩
           refine (congrArg (K _) hW35).mpr ?_
           have X35 := Lib.hid (X34.out.pt G34_J10.out (X2.out.i3.lt) hW35)
           have G35_M := Lib.hid (G34_J10.out.pt hW35)
           have G35_O := Lib.hid (G34_J11.out.pt_far (Ne.symm (Nat.ne_of_lt (Qbx.lt G33_J10.out))) hW35)
           have G35_qf := Lib.hid (G34_qf.out.pt G34_J10.out hW35)
           have G35_qg := Lib.hid (G34_qg.out.pt G34_J10.out hW35)
           clear hW35
           refine hK.out _ _ (by with_reducible exact X35.out.keep) (fun hHeld => ?_)
           clear hK K
           try simp only [Act.put, ld, le, lf]
           refine wpAnyH_ready (rs := [9]) (by kernel_rfl) (by simp) ?_
           refine AllReadyH.cons rfl (fun K hK => ?_) AllReadyH.nil
           try simp only [la, lb, lc]
           have v0 := G35_O.out.c0
           have vf0 := G35_O.out.f 0
           have v1 := G35_O.out.c1
           have vf1 := G35_O.out.f 1
           have v2 := G35_O.out.c2
           have vf2 := G35_O.out.f 2
           have v3 := G35_O.out.c3
           have vf3 := G35_O.out.f 3
           go_simp
           clear v0 v1 v2 v3 vf0 vf1 vf2 vf3
           obtain ⟨W36, hW36⟩ : ∃ V, put4 W35 W33.heap.size s33 A33 n33 c33 t33 B33 m33 d33 = V := ⟨_, rfl⟩
           refine (congrArg (K _) hW36).mpr ?_
           have X36 := Lib.hid (X35.out.pt G35_O.out (X33.out.i3.lt) hW36)
           have G36_M := Lib.hid (G35_O.out.pt hW36)
           have G36_O := Lib.hid (G35_M.out.pt_far (Nat.ne_of_lt (Qbx.lt G33_J10.out)) hW36)
           have G36_qf := Lib.hid (G35_qf.out.pt G35_O.out hW36)
           have G36_qg := Lib.hid (G35_qg.out.pt G35_O.out hW36)
           clear hW36
           refine hK.out _ _ (by with_reducible exact X36.out.keep) (fun hHeld => ?_)
           clear hK K
           try simp only [Act.put, ld, le, lf]
           refine wpAnyH_done (by kernel_rfl) ?_ _
           go_wp2_with fail
           go_meet
           exact ⟨W2.heap.size, W33.heap.size, _, _, _, _, _, _, _, _, _, _, _, _, _, _, _, _, rfl, rfl, ⟨X36.out, G36_O.out, G36_M.out, G36_qf.out, G36_qg.out⟩⟩
         ·
          try simp only [la, lb, lc]
          go_simp
          obtain ⟨W37, hW37⟩ : ∃ V, W32.alloc (Obj.cells #[.bool false, .slice none 0 0, .bool false, .slice none 0 0] 28) = V := ⟨_, rfl⟩
          rw [hW37]
          have X37 := Lib.hid (X32.out.al hW37)
          have G37_fl := Lib.hid (G32_fl.out.al hW37)
          have G37_qf := Lib.hid (G32_qf.out.al hW37)
          have G37_J10 := Lib.hid (G32_J10.out.al hW37)
          have G37_ce := Lib.hid (G32_ce.out.al hW37)
          have G37_J11 := Lib.hid (Qbx.fresh hW37)
          refine hK.out _ _ (by with_reducible exact X37.out.keep) (fun hHeld => ?_)
          clear hK K
          try simp only [Act.put, ld, le, lf]
          clear hW37
          refine wpAnyH_ready (rs := [5]) (by kernel_rfl) (by simp) ?_
          refine (AllReadyH.cons rfl (fun K hK => ?_) AllReadyH.nil)
          ·
           try simp only [la, lb, lc]
           go_simp
           with_reducible refine (whole_q (G37_ce.out.isz HZC.out) (by omega) qg HQG.out).mono ?_
           rintro e W38 ⟨s38, A38, n38, c38, t38, B38, m38, d38, rfl, hr, hbx⟩
           have X38 := Lib.hid (X37.out.below hbx)
           have G38_fl := Lib.hid (G37_fl.out.below hbx)
           have G38_qf := Lib.hid (G37_qf.out.below hbx)
           have G38_J10 := Lib.hid (G37_J10.out.below hbx)
           have G38_ce := Lib.hid (G37_ce.out.below hbx)
           have G38_J11 := Lib.hid (G37_J11.out.below hbx)
           have G38_qg := Lib.hid hr
           clear hbx hr
           refine hK.out _ _ (by with_reducible exact X38.out.keep) (fun hHeld => ?_)
           clear hK K
           try simp only [Act.put, ld, le, lf]
           refine wpAnyH_ready (rs := [8]) (by kernel_rfl) (by simp) ?_
           refine AllReadyH.cons rfl (fun K hK => ?_) AllReadyH.nil
           try simp only [la, lb, lc]
           have v0 := G38_J10.out.c0
           have vf0 := G38_J10.out.f 0
           have v1 := G38_J10.out.c1
           have vf1 := G38_J10.out.f 1
           have v2 := G38_J10.out.c2
           have vf2 := G38_J10.out.f 2
           have v3 := G38_J10.out.c3
           have vf3 := G38_J10.out.f 3
           go_simp
           clear v0 v1 v2 v3 vf0 vf1 vf2 vf3
           obtain ⟨W39, hW39⟩ : ∃ V, put4 W38 W2.heap.size s2 A2 n2 c2 t2 B2 m2 d2 = V := ⟨_, rfl⟩
           refine (congrArg (K _) hW39).mpr ?_
           have X39 := Lib.hid (X38.out.pt G38_J10.out (X2.out.i3.lt) hW39)
           have G39_M := Lib.hid (G38_J10.out.pt hW39)
           have G39_O := Lib.hid (G38_J11.out.pt_far (Ne.symm (Nat.ne_of_lt (Qbx.lt G32_J10.out))) hW39)
           have G39_qf := Lib.hid (G38_qf.out.pt G38_J10.out hW39)
           have G39_qg := Lib.hid (G38_qg.out.pt G38_J10.out hW39)
           clear hW39
           refine hK.out _ _ (by with_reducible exact X39.out.keep) (fun hHeld => ?_)
           clear hK K
           try simp only [Act.put, ld, le, lf]
           refine wpAnyH_ready (rs := [9]) (by kernel_rfl) (by simp) ?_
           refine AllReadyH.cons rfl (fun K hK => ?_) AllReadyH.nil
           try simp only [la, lb, lc]
           have v0 := G39_O.out.c0
           have vf0 := G39_O.out.f 0
           have v1 := G39_O.out.c1
           have vf1 := G39_O.out.f 1
           have v2 := G39_O.out.c2
           have vf2 := G39_O.out.f 2
           have v3 := G39_O.out.c3
           have vf3 := G39_O.out.f 3
           go_simp
           clear v0 v1 v2 v3 vf0 vf1 vf2 vf3
           obtain ⟨W40, hW40⟩ : ∃ V, put4 W39 W32.heap.size s38 A38 n38 c38 t38 B38 m38 d38 = V := ⟨_, rfl⟩
           refine (congrArg (K _) hW40).mpr ?_
           have X40 := Lib.hid (X39.out.pt G39_O.out (X32.out.i3.lt) hW40)
           have G40_M := Lib.hid (G39_O.out.pt hW40)
           have G40_O := Lib.hid (G39_M.out.pt_far (Nat.ne_of_lt (Qbx.lt G32_J10.out)) hW40)
           have G40_qf := Lib.hid (G39_qf.out.pt G39_O.out hW40)
           have G40_qg := Lib.hid (G39_qg.out.pt G39_O.out hW40)
           clear hW40
           refine hK.out _ _ (by with_reducible exact X40.out.keep) (fun hHeld => ?_)
           clear hK K
           try simp only [Act.put, ld, le, lf]
           refine wpAnyH_done (by kernel_rfl) ?_ _
           go_wp2_with fail
           go_meet
           exact ⟨W2.heap.size, W32.heap.size, _, _, _, _, _, _, _, _, _, _, _, _, _, _, _, _, rfl, rfl, ⟨X40.out, G40_O.out, G40_M.out, G40_qf.out, G40_qg.out⟩⟩
        ·
         try simp only [la, lb, lc]
         go_simp
         obtain ⟨W41, hW41⟩ : ∃ V, W31.alloc (Obj.cells #[.bool false, .slice none 0 0, .bool false, .slice none 0 0] 28) = V := ⟨_, rfl⟩
         rw [hW41]
         have X41 := Lib.hid (X31.out.al hW41)
         have G41_fl := Lib.hid (G31_fl.out.al hW41)
         have G41_qf := Lib.hid (G31_qf.out.al hW41)
         have G41_J10 := Lib.hid (G31_J10.out.al hW41)
         have G41_J11 := Lib.hid (Qbx.fresh hW41)
         refine hK.out _ _ (by with_reducible exact X41.out.keep) (fun hHeld => ?_)
         clear hK K
         try simp only [Act.put, ld, le, lf]
         clear hW41
         refine wpAnyH_ready (rs := [4]) (by kernel_rfl) (by simp) ?_
         refine (AllReadyH.cons rfl (fun K hK => ?_) AllReadyH.nil)
         ·
          try simp only [la, lb, lc]
          go_simp
          with_reducible refine (ceil_q (IsQ.mono (l := 700) X41.out.a (by omega)) (by omega) (by omega) ce HCE.out).mono ?_
          rintro e W42 ⟨s42, A42, n42, c42, rfl, hr, hbx⟩
          have X42 := Lib.hid (X41.out.below hbx)
          have G42_fl := Lib.hid (G41_fl.out.below hbx)
          have G42_qf := Lib.hid (G41_qf.out.below hbx)
          have G42_J10 := Lib.hid (G41_J10.out.below hbx)
          have G42_J11 := Lib.hid (G41_J11.out.below hbx)
          have G42_ce := Lib.hid hr
          clear hbx hr
          refine hK.out _ _ (by with_reducible exact X42.out.keep) (fun hHeld => ?_)
          clear hK K
          try simp only [Act.put, ld, le, lf]
          refine wpAnyH_ready (rs := [5]) (by kernel_rfl) (by simp) ?_
          refine (AllReadyH.cons rfl (fun K hK => ?_) AllReadyH.nil)
          ·
           try simp only [la, lb, lc]
           go_simp
           with_reducible refine (whole_q (G42_ce.out.isz HZC.out) (by omega) qg HQG.out).mono ?_
           rintro e W43 ⟨s43, A43, n43, c43, t43, B43, m43, d43, rfl, hr, hbx⟩
           have X43 := Lib.hid (X42.out.below hbx)
           have G43_fl := Lib.hid (G42_fl.out.below hbx)
           have G43_qf := Lib.hid (G42_qf.out.below hbx)
           have G43_J10 := Lib.hid (G42_J10.out.below hbx)
           have G43_J11 := Lib.hid (G42_J11.out.below hbx)
           have G43_ce := Lib.hid (G42_ce.out.below hbx)
           have G43_qg := Lib.hid hr
           clear hbx hr
           refine hK.out _ _ (by with_reducible exact X43.out.keep) (fun hHeld => ?_)
           clear hK K
           try simp only [Act.put, ld, le, lf]
           refine wpAnyH_ready (rs := [8]) (by kernel_rfl) (by simp) ?_
           refine AllReadyH.cons rfl (fun K hK => ?_) AllReadyH.nil
           try simp only [la, lb, lc]
           have v0 := G43_J10.out.c0
           have vf0 := G43_J10.out.f 0
           have v1 := G43_J10.out.c1
           have vf1 := G43_J10.out.f 1
           have v2 := G43_J10.out.c2
           have vf2 := G43_J10.out.f 2
           have v3 := G43_J10.out.c3
           have vf3 := G43_J10.out.f 3
           go_simp
           clear v0 v1 v2 v3 vf0 vf1 vf2 vf3
           obtain ⟨W44, hW44⟩ : ∃ V, put4 W43 W2.heap.size s2 A2 n2 c2 t2 B2 m2 d2 = V := ⟨_, rfl⟩
           refine (congrArg (K _) hW44).mpr ?_
           have X44 := Lib.hid (X43.out.pt G43_J10.out (X2.out.i3.lt) hW44)
           have G44_M := Lib.hid (G43_J10.out.pt hW44)
           have G44_O := Lib.hid (G43_J11.out.pt_far (Ne.symm (Nat.ne_of_lt (Qbx.lt G31_J10.out))) hW44)
           have G44_qf := Lib.hid (G43_qf.out.pt G43_J10.out hW44)
           have G44_qg := Lib.hid (G43_qg.out.pt G43_J10.out hW44)
           clear hW44
           refine hK.out _ _ (by with_reducible exact X44.out.keep) (fun hHeld => ?_)
           clear hK K
           try simp only [Act.put, ld, le, lf]
           refine wpAnyH_ready (rs := [9]) (by kernel_rfl) (by simp) ?_
           refine AllReadyH.cons rfl (fun K hK => ?_) AllReadyH.nil
           try simp only [la, lb, lc]
           have v0 := G44_O.out.c0
           have vf0 := G44_O.out.f 0
           have v1 := G44_O.out.c1
           have vf1 := G44_O.out.f 1
           have v2 := G44_O.out.c2
           have vf2 := G44_O.out.f 2
           have v3 := G44_O.out.c3
           have vf3 := G44_O.out.f 3
           go_simp
           clear v0 v1 v2 v3 vf0 vf1 vf2 vf3
           obtain ⟨W45, hW45⟩ : ∃ V, put4 W44 W31.heap.size s43 A43 n43 c43 t43 B43 m43 d43 = V := ⟨_, rfl⟩
           refine (congrArg (K _) hW45).mpr ?_
           have X45 := Lib.hid (X44.out.pt G44_O.out (X31.out.i3.lt) hW45)
           have G45_M := Lib.hid (G44_O.out.pt hW45)
           have G45_O := Lib.hid (G44_M.out.pt_far (Nat.ne_of_lt (Qbx.lt G31_J10.out)) hW45)
           have G45_qf := Lib.hid (G44_qf.out.pt G44_O.out hW45)
           have G45_qg := Lib.hid (G44_qg.out.pt G44_O.out hW45)
           clear hW45
           refine hK.out _ _ (by with_reducible exact X45.out.keep) (fun hHeld => ?_)
           clear hK K
           try simp only [Act.put, ld, le, lf]
           refine wpAnyH_done (by kernel_rfl) ?_ _
           go_wp2_with fail
           go_meet
           exact ⟨W2.heap.size, W31.heap.size, _, _, _, _, _, _, _, _, _, _, _, _, _, _, _, _, rfl, rfl, ⟨X45.out, G45_O.out, G45_M.out, G45_qf.out, G45_qg.out⟩⟩
       ·
        try simp only [la, lb, lc]
        go_simp
        obtain ⟨W46, hW46⟩ : ∃ V, W2.alloc (Obj.cells #[.bool false, .slice none 0 0, .bool false, .slice none 0 0] 28) = V := ⟨_, rfl⟩
        rw [hW46]
        have X46 := Lib.hid (X2.out.al hW46)
        have G46_fl := Lib.hid (G2_fl.out.al hW46)
        have G46_qf := Lib.hid (G2_qf.out.al hW46)
        have G46_J11 := Lib.hid (Qbx.fresh hW46)
        refine hK.out _ _ (by with_reducible exact X46.out.keep) (fun hHeld => ?_)
        clear hK K
        try simp only [Act.put, ld, le, lf]
        clear hW46
        refine wpAnyH_ready (rs := [4, 6]) (by kernel_rfl) (by simp) ?_
        refine (AllReadyH.cons rfl (fun K hK => ?_) (AllReadyH.cons rfl (fun K hK => ?_) AllReadyH.nil))
        ·
         try simp only [la, lb, lc]
         go_simp
         with_reducible refine (ceil_q (IsQ.mono (l := 700) X46.out.a (by omega)) (by omega) (by omega) ce HCE.out).mono ?_
         rintro e W47 ⟨s47, A47, n47, c47, rfl, hr, hbx⟩
         have X47 := Lib.hid (X46.out.below hbx)
         have G47_fl := Lib.hid (G46_fl.out.below hbx)
         have G47_qf := Lib.hid (G46_qf.out.below hbx)
         have G47_J11 := Lib.hid (G46_J11.out.below hbx)
         have G47_ce := Lib.hid hr
         clear hbx hr
         refine hK.out _ _ (by with_reducible exact X47.out.keep) (fun hHeld => ?_)
         clear hK K
         try simp only [Act.put, ld, le, lf]
         refine wpAnyH_ready (rs := [5, 6]) (by kernel_rfl) (by simp) ?_
         refine (AllReadyH.cons rfl (fun K hK => ?_) (AllReadyH.cons rfl (fun K hK => ?_) AllReadyH.nil))
         ·
          try simp only [la, lb, lc]
          go_simp
          with_reducible refine (whole_q (G47_ce.out.isz HZC.out) (by omega) qg HQG.out).mono ?_
          rintro e W48 ⟨s48, A48, n48, c48, t48, B48, m48, d48, rfl, hr, hbx⟩
          have X48 := Lib.hid (X47.out.below hbx)
          have G48_fl := Lib.hid (G47_fl.out.below hbx)
          have G48_qf := Lib.hid (G47_qf.out.below hbx)
          have G48_J11 := Lib.hid (G47_J11.out.below hbx)
          have G48_ce := Lib.hid (G47_ce.out.below hbx)
          have G48_qg := Lib.hid hr
          clear hbx hr
          refine hK.out _ _ (by with_reducible exact X48.out.keep) (fun hHeld => ?_)
          clear hK K
          try simp only [Act.put, ld, le, lf]
          refine wpAnyH_ready (rs := [6]) (by kernel_rfl) (by simp) ?_
          refine (AllReadyH.cons rfl (fun K hK => ?_) AllReadyH.nil)
          ·
           try simp only [la, lb, lc]
           go_simp
           obtain ⟨W49, hW49⟩ : ∃ V, W48.alloc (Obj.cells #[.bool false, .slice none 0 0, .bool false, .slice none 0 0] 28) = V := ⟨_, rfl⟩
           rw [hW49]
           have X49 := Lib.hid (X48.out.al hW49)
           have G49_fl := Lib.hid (G48_fl.out.al hW49)
           have G49_qf := Lib.hid (G48_qf.out.al hW49)
           have G49_J11 := Lib.hid (G48_J11.out.al hW49)
           have G49_ce := Lib.hid (G48_ce.out.al hW49)
           have G49_qg := Lib.hid (G48_qg.out.al hW49)
           have G49_J10 := Lib.hid (Qbx.fresh hW49)
           refine hK.out _ _ (by with_reducible exact X49.out.keep) (fun hHeld => ?_)
           clear hK K
           try simp only [Act.put, ld, le, lf]
           clear hW49
           refine wpAnyH_ready (rs := [8]) (by kernel_rfl) (by simp) ?_
           refine AllReadyH.cons rfl (fun K hK => ?_) AllReadyH.nil
           try simp only [la, lb, lc]
           have v0 := G49_J10.out.c0
           have vf0 := G49_J10.out.f 0
           have v1 := G49_J10.out.c1
           have vf1 := G49_J10.out.f 1
           have v2 := G49_J10.out.c2
           have vf2 := G49_J10.out.f 2
           have v3 := G49_J10.out.c3
           have vf3 := G49_J10.out.f 3
           go_simp
           clear v0 v1 v2 v3 vf0 vf1 vf2 vf3
           obtain ⟨W50, hW50⟩ : ∃ V, put4 W49 W48.heap.size s2 A2 n2 c2 t2 B2 m2 d2 = V := ⟨_, rfl⟩
           refine (congrArg (K _) hW50).mpr ?_
           have X50 := Lib.hid (X49.out.pt G49_J10.out (X48.out.i3.lt) hW50)
           have G50_M := Lib.hid (G49_J10.out.pt hW50)
           have G50_O := Lib.hid (G49_J11.out.pt_far (Ne.symm (Nat.ne_of_gt (Qbx.lt G48_J11.out))) hW50)
           have G50_qf := Lib.hid (G49_qf.out.pt G49_J10.out hW50)
           have G50_qg := Lib.hid (G49_qg.out.pt G49_J10.out hW50)
           clear hW50
           refine hK.out _ _ (by with_reducible exact X50.out.keep) (fun hHeld => ?_)
           clear hK K
           try simp only [Act.put, ld, le, lf]
           refine wpAnyH_ready (rs := [9]) (by kernel_rfl) (by simp) ?_
           refine AllReadyH.cons rfl (fun K hK => ?_) AllReadyH.nil
           try simp only [la, lb, lc]
           have v0 := G50_O.out.c0
           have vf0 := G50_O.out.f 0
           have v1 := G50_O.out.c1
           have vf1 := G50_O.out.f 1
           have v2 := G50_O.out.c2
           have vf2 := G50_O.out.f 2
           have v3 := G50_O.out.c3
           have vf3 := G50_O.out.f 3
           go_simp
           clear v0 v1 v2 v3 vf0 vf1 vf2 vf3
           obtain ⟨W51, hW51⟩ : ∃ V, put4 W50 W2.heap.size s48 A48 n48 c48 t48 B48 m48 d48 = V := ⟨_, rfl⟩
           refine (congrArg (K _) hW51).mpr ?_
           have X51 := Lib.hid (X50.out.pt G50_O.out (X2.out.i3.lt) hW51)
           have G51_M := Lib.hid (G50_O.out.pt hW51)
           have G51_O := Lib.hid (G50_M.out.pt_far (Nat.ne_of_gt (Qbx.lt G48_J11.out)) hW51)
           have G51_qf := Lib.hid (G50_qf.out.pt G50_O.out hW51)
           have G51_qg := Lib.hid (G50_qg.out.pt G50_O.out hW51)
           clear hW51
           refine hK.out _ _ (by with_reducible exact X51.out.keep) (fun hHeld => ?_)
           clear hK K
           try simp only [Act.put, ld, le, lf]
           refine wpAnyH_done (by kernel_rfl) ?_ _
           go_wp2_with fail
           go_meet
           exact ⟨W48.heap.size, W2.heap.size, _, _, _, _, _, _, _, _, _, _, _, _, _, _, _, _, rfl, rfl, ⟨X51.out, G51_O.out, G51_M.out, G51_qf.out, G51_qg.out⟩⟩
         ·
          try simp only [la, lb, lc]
          go_simp
          obtain ⟨W52, hW52⟩ : ∃ V, W47.alloc (Obj.cells #[.bool false, .slice none 0 0, .bool false, .slice none 0 0] 28) = V := ⟨_, rfl⟩
          rw [hW52]
          have X52 := Lib.hid (X47.out.al hW52)
          have G52_fl := Lib.hid (G47_fl.out.al hW52)
          have G52_qf := Lib.hid (G47_qf.out.al hW52)
          have G52_J11 := Lib.hid (G47_J11.out.al hW52)
          have G52_ce := Lib.hid (G47_ce.out.al hW52)
          have G52_J10 := Lib.hid (Qbx.fresh hW52)
          refine hK.out _ _ (by with_reducible exact X52.out.keep) (fun hHeld => ?_)
          clear hK K
          try simp only [Act.put, ld, le, lf]
          clear hW52
          refine wpAnyH_ready (rs := [5]) (by kernel_rfl) (by simp) ?_
          refine (AllReadyH.cons rfl (fun K hK => ?_) AllReadyH.nil)
          ·
           try simp only [la, lb, lc]
           go_simp
           with_reducible refine (whole_q (G52_ce.out.isz HZC.out) (by omega) qg HQG.out).mono ?_
           rintro e W53 ⟨s53, A53, n53, c53, t53, B53, m53, d53, rfl, hr, hbx⟩
           have X53 := Lib.hid (X52.out.below hbx)
           have G53_fl := Lib.hid (G52_fl.out.below hbx)
           have G53_qf := Lib.hid (G52_qf.out.below hbx)
           have G53_J11 := Lib.hid (G52_J11.out.below hbx)
           have G53_ce := Lib.hid (G52_ce.out.below hbx)
           have G53_J10 := Lib.hid (G52_J10.out.below hbx)
           have G53_qg := Lib.hid hr
           clear hbx hr
           refine hK.out _ _ (by with_reducible exact X53.out.keep) (fun hHeld => ?_)
           clear hK K
           try simp only [Act.put, ld, le, lf]
           refine wpAnyH_ready (rs := [8]) (by kernel_rfl) (by simp) ?_
           refine AllReadyH.cons rfl (fun K hK => ?_) AllReadyH.nil
           try simp only [la, lb, lc]
           have v0 := G53_J10.out.c0
           have vf0 := G53_J10.out.f 0
           have v1 := G53_J10.out.c1
           have vf1 := G53_J10.out.f 1
           have v2 := G53_J10.out.c2
           have vf2 := G53_J10.out.f 2
           have v3 := G53_J10.out.c3
           have vf3 := G53_J10.out.f 3
           go_simp
           clear v0 v1 v2 v3 vf0 vf1 vf2 vf3
           obtain ⟨W54, hW54⟩ : ∃ V, put4 W53 W47.heap.size s2 A2 n2 c2 t2 B2 m2 d2 = V := ⟨_, rfl⟩
           refine (congrArg (K _) hW54).mpr ?_
           have X54 := Lib.hid (X53.out.pt G53_J10.out (X47.out.i3.lt) hW54)
           have G54_M := Lib.hid (G53_J10.out.pt hW54)
           have G54_O := Lib.hid (G53_J11.out.pt_far (Ne.symm (Nat.ne_of_gt (Qbx.lt G47_J11.out))) hW54)
           have G54_qf := Lib.hid (G53_qf.out.pt G53_J10.out hW54)
           have G54_qg := Lib.hid (G53_qg.out.pt G53_J10.out hW54)
           clear hW54
           refine hK.out _ _ (by with_reducible exact X54.out.keep) (fun hHeld => ?_)
           clear hK K
           try simp only [Act.put, ld, le, lf]
           refine wpAnyH_ready (rs := [9]) (by kernel_rfl) (by simp) ?_
           refine AllReadyH.cons rfl (fun K hK => ?_) AllReadyH.nil
           try simp only [la, lb, lc]
           have v0 := G54_O.out.c0
           have vf0 := G54_O.out.f 0
           have v1 := G54_O.out.c1
           have vf1 := G54_O.out.f 1
           have v2 := G54_O.out.c2
           have vf2 := G54_O.out.f 2
           have v3 := G54_O.out.c3
           have vf3 := G54_O.out.f 3
           go_simp
           clear v0 v1 v2 v3 vf0 vf1 vf2 vf3
           obtain ⟨W55, hW55⟩ : ∃ V, put4 W54 W2.heap.size s53 A53 n53 c53 t53 B53 m53 d53 = V := ⟨_, rfl⟩
           refine (congrArg (K _) hW55).mpr ?_
           have X55 := Lib.hid (X54.out.pt G54_O.out (X2.out.i3.lt) hW55)
           have G55_M := Lib.hid (G54_O.out.pt hW55)
           have G55_O := Lib.hid (G54_M.out.pt_far (Nat.ne_of_gt (Qbx.lt G47_J11.out)) hW55)
           have G55_qf := Lib.hid (G54_qf.out.pt G54_O.out hW55)
           have G55_qg := Lib.hid (G54_qg.out.pt G54_O.out hW55)
           clear hW55
           refine hK.out _ _ (by with_reducible exact X55.out.keep) (fun hHeld => ?_)
           clear hK K
           try simp only [Act.put, ld, le, lf]
           refine wpAnyH_done (by kernel_rfl) ?_ _
           go_wp2_with fail
           go_meet
           exact ⟨W47.heap.size, W2.heap.size, _, _, _, _, _, _, _, _, _, _, _, _, _, _, _, _, rfl, rfl, ⟨X55.out, G55_O.out, G55_M.out, G55_qf.out, G55_qg.out⟩⟩
        ·
         try simp only [la, lb, lc]
         go_simp
         obtain ⟨W56, hW56⟩ : ∃ V, W46.alloc (Obj.cells #[.bool false, .slice none 0 0, .bool false, .slice none 0 0] 28) = V := ⟨_, rfl⟩
         rw [hW56]
         have X56 := Lib.hid (X46.out.al hW56)
         have G56_fl := Lib.hid (G46_fl.out.al hW56)
         have G56_qf := Lib.hid (G46_qf.out.al hW56)
         have G56_J11 := Lib.hid (G46_J11.out.al hW56)
         have G56_J10 := Lib.hid (Qbx.fresh hW56)
         refine hK.out _ _ (by with_reducible exact X56.out.keep) (fun hHeld => ?_)
         clear hK K
         try simp only [Act.put, ld, le, lf]
         clear hW56
         refine wpAnyH_ready (rs := [4]) (by kernel_rfl) (by simp) ?_
         refine (AllReadyH.cons rfl (fun K hK => ?_) AllReadyH.nil)
         ·
          try simp only [la, lb, lc]
          go_simp
          with_reducible refine (ceil_q (IsQ.mono (l := 700) X56.out.a (by omega)) (by omega) (by omega) ce HCE.out).mono ?_
          rintro e W57 ⟨s57, A57, n57, c57, rfl, hr, hbx⟩
          have X57 := Lib.hid (X56.out.below hbx)
          have G57_fl := Lib.hid (G56_fl.out.below hbx)
          have G57_qf := Lib.hid (G56_qf.out.below hbx)
          have G57_J11 := Lib.hid (G56_J11.out.below hbx)
          have G57_J10 := Lib.hid (G56_J10.out.below hbx)
          have G57_ce := Lib.hid hr
          clear hbx hr
          refine hK.out _ _ (by with_reducible exact X57.out.keep) (fun hHeld => ?_)
          clear hK K
          try simp only [Act.put, ld, le, lf]
          refine wpAnyH_ready (rs := [5]) (by kernel_rfl) (by simp) ?_
          refine (AllReadyH.cons rfl (fun K hK => ?_) AllReadyH.nil)
          ·
           try simp only [la, lb, lc]
           go_simp
           with_reducible refine (whole_q (G57_ce.out.isz HZC.out) (by omega) qg HQG.out).mono ?_
           rintro e W58 ⟨s58, A58, n58, c58, t58, B58, m58, d58, rfl, hr, hbx⟩
           have X58 := Lib.hid (X57.out.below hbx)
           have G58_fl := Lib.hid (G57_fl.out.below hbx)
           have G58_qf := Lib.hid (G57_qf.out.below hbx)
           have G58_J11 := Lib.hid (G57_J11.out.below hbx)
           have G58_J10 := Lib.hid (G57_J10.out.below hbx)
           have G58_ce := Lib.hid (G57_ce.out.below hbx)
           have G58_qg := Lib.hid hr
           clear hbx hr
           refine hK.out _ _ (by with_reducible exact X58.out.keep) (fun hHeld => ?_)
           clear hK K
           try simp only [Act.put, ld, le, lf]
           refine wpAnyH_ready (rs := [8]) (by kernel_rfl) (by simp) ?_
           refine AllReadyH.cons rfl (fun K hK => ?_) AllReadyH.nil
           try simp only [la, lb, lc]
           have v0 := G58_J10.out.c0
           have vf0 := G58_J10.out.f 0
           have v1 := G58_J10.out.c1
           have vf1 := G58_J10.out.f 1
           have v2 := G58_J10.out.c2
           have vf2 := G58_J10.out.f 2
           have v3 := G58_J10.out.c3
           have vf3 := G58_J10.out.f 3
           go_simp
           clear v0 v1 v2 v3 vf0 vf1 vf2 vf3
           obtain ⟨W59, hW59⟩ : ∃ V, put4 W58 W46.heap.size s2 A2 n2 c2 t2 B2 m2 d2 = V := ⟨_, rfl⟩
           refine (congrArg (K _) hW59).mpr ?_
           have X59 := Lib.hid (X58.out.pt G58_J10.out (X46.out.i3.lt) hW59)
           have G59_M := Lib.hid (G58_J10.out.pt hW59)
           have G59_O := Lib.hid (G58_J11.out.pt_far (Ne.symm (Nat.ne_of_gt (Qbx.lt G46_J11.out))) hW59)
           have G59_qf := Lib.hid (G58_qf.out.pt G58_J10.out hW59)
           have G59_qg := Lib.hid (G58_qg.out.pt G58_J10.out hW59)
           clear hW59
           refine hK.out _ _ (by with_reducible exact X59.out.keep) (fun hHeld => ?_)
           clear hK K
           try simp only [Act.put, ld, le, lf]
           refine wpAnyH_ready (rs := [9]) (by kernel_rfl) (by simp) ?_
           refine AllReadyH.cons rfl (fun K hK => ?_) AllReadyH.nil
           try simp only [la, lb, lc]
           have v0 := G59_O.out.c0
           have vf0 := G59_O.out.f 0
           have v1 := G59_O.out.c1
           have vf1 := G59_O.out.f 1
           have v2 := G59_O.out.c2
           have vf2 := G59_O.out.f 2
           have v3 := G59_O.out.c3
           have vf3 := G59_O.out.f 3
           go_simp
           clear v0 v1 v2 v3 vf0 vf1 vf2 vf3
           obtain ⟨W60, hW60⟩ : ∃ V, put4 W59 W2.heap.size s58 A58 n58 c58 t58 B58 m58 d58 = V := ⟨_, rfl⟩
           refine (congrArg (K _) hW60).mpr ?_
           have X60 := Lib.hid (X59.out.pt G59_O.out (X2.out.i3.lt) hW60)
           have G60_M := Lib.hid (G59_O.out.pt hW60)
           have G60_O := Lib.hid (G59_M.out.pt_far (Nat.ne_of_gt (Qbx.lt G46_J11.out)) hW60)
           have G60_qf := Lib.hid (G59_qf.out.pt G59_O.out hW60)
           have G60_qg := Lib.hid (G59_qg.out.pt G59_O.out hW60)
           clear hW60
           refine hK.out _ _ (by with_reducible exact X60.out.keep) (fun hHeld => ?_)
           clear hK K
           try simp only [Act.put, ld, le, lf]
           refine wpAnyH_done (by kernel_rfl) ?_ _
           go_wp2_with fail
           go_meet
           exact ⟨W46.heap.size, W2.heap.size, _, _, _, _, _, _, _, _, _, _, _, _, _, _, _, _, rfl, rfl, ⟨X60.out, G60_O.out, G60_M.out, G60_qf.out, G60_qg.out⟩⟩
      ·
       try simp only [la, lb, lc]
       go_simp
       obtain ⟨W61, hW61⟩ : ∃ V, W1.alloc (Obj.cells #[.bool false, .slice none 0 0, .bool false, .slice none 0 0] 28) = V := ⟨_, rfl⟩
       rw [hW61]
       have X61 := Lib.hid (X1.out.al hW61)
       have G61_fl := Lib.hid (G1_fl.out.al hW61)
       have G61_J10 := Lib.hid (Qbx.fresh hW61)
       refine hK.out _ _ (by with_reducible exact X61.out.keep) (fun hHeld => ?_)
       clear hK K
       try simp only [Act.put, ld, le, lf]
       clear hW61
       refine wpAnyH_ready (rs := [2, 7]) (by kernel_rfl) (by simp) ?_
       refine (AllReadyH.cons rfl (fun K hK => ?_) (AllReadyH.cons rfl (fun K hK => ?_) AllReadyH.nil))
       ·
        try simp only [la, lb, lc]
        go_simp
        with_reducible refine (whole_q (G61_fl.out.isz HZF.out) (by omega) qf HQF.out).mono ?_
        rintro e W62 ⟨s62, A62, n62, c62, t62, B62, m62, d62, rfl, hr, hbx⟩
        have X62 := Lib.hid (X61.out.below hbx)
        have G62_fl := Lib.hid (G61_fl.out.below hbx)
        have G62_J10 := Lib.hid (G61_J10.out.below hbx)
        have G62_qf := Lib.hid hr
        clear hbx hr
        refine hK.out _ _ (by with_reducible exact X62.out.keep) (fun hHeld => ?_)
        clear hK K
        try simp only [Act.put, ld, le, lf]
        refine wpAnyH_ready (rs := [4, 7]) (by kernel_rfl) (by simp) ?_
        refine (AllReadyH.cons rfl (fun K hK => ?_) (AllReadyH.cons rfl (fun K hK => ?_) AllReadyH.nil))
        ·
         try simp only [la, lb, lc]
         go_simp
         with_reducible refine (ceil_q (IsQ.mono (l := 700) X62.out.a (by omega)) (by omega) (by omega) ce HCE.out).mono ?_
         rintro e W63 ⟨s63, A63, n63, c63, rfl, hr, hbx⟩
         have X63 := Lib.hid (X62.out.below hbx)
         have G63_fl := Lib.hid (G62_fl.out.below hbx)
         have G63_J10 := Lib.hid (G62_J10.out.below hbx)
         have G63_qf := Lib.hid (G62_qf.out.below hbx)
         have G63_ce := Lib.hid hr
         clear hbx hr
         refine hK.out _ _ (by with_reducible exact X63.out.keep) (fun hHeld => ?_)
         clear hK K
         try simp only [Act.put, ld, le, lf]
         refine wpAnyH_ready (rs := [5, 7]) (by kernel_rfl) (by simp) ?_
         refine (AllReadyH.cons rfl (fun K hK => ?_) (AllReadyH.cons rfl (fun K hK => ?_) AllReadyH.nil))
         ·
          try simp only [la, lb, lc]
          go_simp
          with_reducible refine (whole_q (G63_ce.out.isz HZC.out) (by omega) qg HQG.out).mono ?_
          rintro e W64 ⟨s64, A64, n64, c64, t64, B64, m64, d64, rfl, hr, hbx⟩
          have X64 := Lib.hid (X63.out.below hbx)
          have G64_fl := Lib.hid (G63_fl.out.below hbx)
          have G64_J10 := Lib.hid (G63_J10.out.below hbx)
          have G64_qf := Lib.hid (G63_qf.out.below hbx)
          have G64_ce := Lib.hid (G63_ce.out.below hbx)
          have G64_qg := Lib.hid hr
          clear hbx hr
          refine hK.out _ _ (by with_reducible exact X64.out.keep) (fun hHeld => ?_)
          clear hK K
          try simp only [Act.put, ld, le, lf]
          refine wpAnyH_ready (rs := [7]) (by kernel_rfl) (by simp) ?_
          refine (AllReadyH.cons rfl (fun K hK => ?_) AllReadyH.nil)
          ·
           try simp only [la, lb, lc]
           go_simp
           obtain ⟨W65, hW65⟩ : ∃ V, W64.alloc (Obj.cells #[.bool false, .slice none 0 0, .bool false, .slice none 0 0] 28) = V := ⟨_, rfl⟩
           rw [hW65]
           have X65 := Lib.hid (X64.out.al hW65)
           have G65_fl := Lib.hid (G64_fl.out.al hW65)
           have G65_J10 := Lib.hid (G64_J10.out.al hW65)
           have G65_qf := Lib.hid (G64_qf.out.al hW65)
           have G65_ce := Lib.hid (G64_ce.out.al hW65)
           have G65_qg := Lib.hid (G64_qg.out.al hW65)
           have G65_J11 := Lib.hid (Qbx.fresh hW65)
           refine hK.out _ _ (by with_reducible exact X65.out.keep) (fun hHeld => ?_)
           clear hK K
           try simp only [Act.put, ld, le, lf]
           clear hW65
           refine wpAnyH_ready (rs := [8]) (by kernel_rfl) (by simp) ?_
           refine AllReadyH.cons rfl (fun K hK => ?_) AllReadyH.nil
           try simp only [la, lb, lc]
           have v0 := G65_J10.out.c0
           have vf0 := G65_J10.out.f 0
           have v1 := G65_J10.out.c1
           have vf1 := G65_J10.out.f 1
           have v2 := G65_J10.out.c2
           have vf2 := G65_J10.out.f 2
           have v3 := G65_J10.out.c3
           have vf3 := G65_J10.out.f 3
           go_simp
           clear v0 v1 v2 v3 vf0 vf1 vf2 vf3
           obtain ⟨W66, hW66⟩ : ∃ V, put4 W65 W1.heap.size s62 A62 n62 c62 t62 B62 m62 d62 = V := ⟨_, rfl⟩
           refine (congrArg (K _) hW66).mpr ?_
           have X66 := Lib.hid (X65.out.pt G65_J10.out (X1.out.i3.lt) hW66)
           have G66_M := Lib.hid (G65_J10.out.pt hW66)
           have G66_O := Lib.hid (G65_J11.out.pt_far (Ne.symm (Nat.ne_of_lt (Qbx.lt G64_J10.out))) hW66)
           have G66_qf := Lib.hid (G65_qf.out.pt G65_J10.out hW66)
           have G66_qg := Lib.hid (G65_qg.out.pt G65_J10.out hW66)
           clear hW66
           refine hK.out _ _ (by with_reducible exact X66.out.keep) (fun hHeld => ?_)
           clear hK K
           try simp only [Act.put, ld, le, lf]
           refine wpAnyH_ready (rs := [9]) (by kernel_rfl) (by simp) ?_
           refine AllReadyH.cons rfl (fun K hK => ?_) AllReadyH.nil
           try simp only [la, lb, lc]
           have v0 := G66_O.out.c0
           have vf0 := G66_O.out.f 0
           have v1 := G66_O.out.c1
           have vf1 := G66_O.out.f 1
           have v2 := G66_O.out.c2
           have vf2 := G66_O.out.f 2
           have v3 := G66_O.out.c3
           have vf3 := G66_O.out.f 3
           go_simp
           clear v0 v1 v2 v3 vf0 vf1 vf2 vf3
           obtain ⟨W67, hW67⟩ : ∃ V, put4 W66 W64.heap.size s64 A64 n64 c64 t64 B64 m64 d64 = V := ⟨_, rfl⟩
           refine (congrArg (K _) hW67).mpr ?_
           have X67 := Lib.hid (X66.out.pt G66_O.out (X64.out.i3.lt) hW67)
           have G67_M := Lib.hid (G66_O.out.pt hW67)
           have G67_O := Lib.hid (G66_M.out.pt_far (Nat.ne_of_lt (Qbx.lt G64_J10.out)) hW67)
           have G67_qf := Lib.hid (G66_qf.out.pt G66_O.out hW67)
           have G67_qg := Lib.hid (G66_qg.out.pt G66_O.out hW67)
           clear hW67
           refine hK.out _ _ (by with_reducible exact X67.out.keep) (fun hHeld => ?_)
           clear hK K
           try simp only [Act.put, ld, le, lf]
           refine wpAnyH_done (by kernel_rfl) ?_ _
           go_wp2_with fail
           go_meet
           exact ⟨W1.heap.size, W64.heap.size, _, _, _, _, _, _, _, _, _, _, _, _, _, _, _, _, rfl, rfl, ⟨X67.out, G67_O.out, G67_M.out, G67_qf.out, G67_qg.out⟩⟩
         ·
          try simp only [la, lb, lc]
          go_simp
          obtain ⟨W68, hW68⟩ : ∃ V, W63.alloc (Obj.cells #[.bool false, .slice none 0 0, .bool false, .slice none 0 0] 28) = V := ⟨_, rfl⟩
          rw [hW68]
          have X68 := Lib.hid (X63.out.al hW68)
          have G68_fl := Lib.hid (G63_fl.out.al hW68)
          have G68_J10 := Lib.hid (G63_J10.out.al hW68)
          have G68_qf := Lib.hid (G63_qf.out.al hW68)
          have G68_ce := Lib.hid (G63_ce.out.al hW68)
          have G68_J11 := Lib.hid (Qbx.fresh hW68)
          refine hK.out _ _ (by with_reducible exact X68.out.keep) (fun hHeld => ?_)
          clear hK K
          try simp only [Act.put, ld, le, lf]
          clear hW68
          refine wpAnyH_ready (rs := [5]) (by kernel_rfl) (by simp) ?_
          refine (AllReadyH.cons rfl (fun K hK => ?_) AllReadyH.nil)
          ·
           try simp only [la, lb, lc]
           go_simp
           with_reducible refine (whole_q (G68_ce.out.isz HZC.out) (by omega) qg HQG.out).mono ?_
           rintro e W69 ⟨s69, A69, n69, c69, t69, B69, m69, d69, rfl, hr, hbx⟩
           have X69 := Lib.hid (X68.out.below hbx)
           have G69_fl := Lib.hid (G68_fl.out.below hbx)
           have G69_J10 := Lib.hid (G68_J10.out.below hbx)
           have G69_qf := Lib.hid (G68_qf.out.below hbx)
           have G69_ce := Lib.hid (G68_ce.out.below hbx)
           have G69_J11 := Lib.hid (G68_J11.out.below hbx)
           have G69_qg := Lib.hid hr
           clear hbx hr
           refine hK.out _ _ (by with_reducible exact X69.out.keep) (fun hHeld => ?_)
           clear hK K
           try simp only [Act.put, ld, le, lf]
           refine wpAnyH_ready (rs := [8]) (by kernel_rfl) (by simp) ?_
           refine AllReadyH.cons rfl (fun K hK => ?_) AllReadyH.nil
           try simp only [la, lb, lc]
           have v0 := G69_J10.out.c0
           have vf0 := G69_J10.out.f 0
           have v1 := G69_J10.out.c1
           have vf1 := G69_J10.out.f 1
           have v2 := G69_J10.out.c2
           have vf2 := G69_J10.out.f 2
           have v3 := G69_J10.out.c3
           have vf3 := G69_J10.out.f 3
           go_simp
           clear v0 v1 v2 v3 vf0 vf1 vf2 vf3
           obtain ⟨W70, hW70⟩ : ∃ V, put4 W69 W1.heap.size s62 A62 n62 c62 t62 B62 m62 d62 = V := ⟨_, rfl⟩
           refine (congrArg (K _) hW70).mpr ?_
           have X70 := Lib.hid (X69.out.pt G69_J10.out (X1.out.i3.lt) hW70)
           have G70_M := Lib.hid (G69_J10.out.pt hW70)
           have G70_O := Lib.hid (G69_J11.out.pt_far (Ne.symm (Nat.ne_of_lt (Qbx.lt G63_J10.out))) hW70)
           have G70_qf := Lib.hid (G69_qf.out.pt G69_J10.out hW70)
           have G70_qg := Lib.hid (G69_qg.out.pt G69_J10.out hW70)
           clear hW70
           refine hK.out _ _ (by with_reducible exact X70.out.keep) (fun hHeld => ?_)
           clear hK K
           try simp only [Act.put, ld, le, lf]
           refine wpAnyH_ready (rs := [9]) (by kernel_rfl) (by simp) ?_
           refine AllReadyH.cons rfl (fun K hK => ?_) AllReadyH.nil
           try simp only [la, lb, lc]
           have v0 := G70_O.out.c0
           have vf0 := G70_O.out.f 0
           have v1 := G70_O.out.c1
           have vf1 := G70_O.out.f 1
           have v2 := G70_O.out.c2
           have vf2 := G70_O.out.f 2
           have v3 := G70_O.out.c3
           have vf3 := G70_O.out.f 3
           go_simp
           clear v0 v1 v2 v3 vf0 vf1 vf2 vf3
           obtain ⟨W71, hW71⟩ : ∃ V, put4 W70 W63.heap.size s69 A69 n69 c69 t69 B69 m69 d69 = V := ⟨_, rfl⟩
           refine (congrArg (K _) hW71).mpr ?_
           have X71 := Lib.hid (X70.out.pt G70_O.out (X63.out.i3.lt) hW71)
           have G71_M := Lib.hid (G70_O.out.pt hW71)
           have G71_O := Lib.hid (G70_M.out.pt_far (Nat.ne_of_lt (Qbx.lt G63_J10.out)) hW71)
           have G71_qf := Lib.hid (G70_qf.out.pt G70_O.out hW71)
           have G71_qg := Lib.hid (G70_qg.out.pt G70_O.out hW71)
           clear hW71
           refine hK.out _ _ (by with_reducible exact X71.out.keep) (fun hHeld => ?_)
           clear hK K
           try simp only [Act.put, ld, le, lf]
           refine wpAnyH_done (by kernel_rfl) ?_ _
           go_wp2_with fail
           go_meet
           exact ⟨W1.heap.size, W63.heap.size, _, _, _, _, _, _, _, _, _, _, _, _, _, _, _, _, rfl, rfl, ⟨X71.out, G71_O.out, G71_M.out, G71_qf.out, G71_qg.out⟩⟩
        ·
         try simp only [la, lb, lc]
         go_simp
         obtain ⟨W72, hW72⟩ : ∃ V, W62.alloc (Obj.cells #[.bool false, .slice none 0 0, .bool false, .slice none 0 0] 28) = V := ⟨_, rfl⟩
         rw [hW72]
         have X72 := Lib.hid (X62.out.al hW72)
         have G72_fl := Lib.hid (G62_fl.out.al hW72)
         have G72_J10 := Lib.hid (G62_J10.out.al hW72)
         have G72_qf := Lib.hid (G62_qf.out.al hW72)
         have G72_J11 := Lib.hid (Qbx.fresh hW72)
         refine hK.out _ _ (by with_reducible exact X72.out.keep) (fun hHeld => ?_)
         clear hK K
         try simp only [Act.put, ld, le, lf]
         clear hW72
         refine wpAnyH_ready (rs := [4]) (by kernel_rfl) (by simp) ?_
         refine (AllReadyH.cons rfl (fun K hK => ?_) AllReadyH.nil)
         ·
          try simp only [la, lb, lc]
          go_simp
          with_reducible refine (ceil_q (IsQ.mono (l := 700) X72.out.a (by omega)) (by omega) (by omega) ce HCE.out).mono ?_
          rintro e W73 ⟨s73, A73, n73, c73, rfl, hr, hbx⟩
          have X73 := Lib.hid (X72.out.below hbx)
          have G73_fl := Lib.hid (G72_fl.out.below hbx)
          have G73_J10 := Lib.hid (G72_J10.out.below hbx)
          have G73_qf := Lib.hid (G72_qf.out.below hbx)
          have G73_J11 := Lib.hid (G72_J11.out.below hbx)
          have G73_ce := Lib.hid hr
          clear hbx hr
          refine hK.out _ _ (by with_reducible exact X73.out.keep) (fun hHeld => ?_)
          clear hK K
          try simp only [Act.put, ld, le, lf]
          refine wpAnyH_ready (rs := [5]) (by kernel_rfl) (by simp) ?_
          refine (AllReadyH.cons rfl (fun K hK => ?_) AllReadyH.nil)
          ·
           try simp only [la, lb, lc]
           go_simp
           with_reducible refine (whole_q (G73_ce.out.isz HZC.out) (by omega) qg HQG.out).mono ?_
           rintro e W74 ⟨s74, A74, n74, c74, t74, B74, m74, d74, rfl, hr, hbx⟩
           have X74 := Lib.hid (X73.out.below hbx)
           have G74_fl := Lib.hid (G73_fl.out.below hbx)
           have G74_J10 := Lib.hid (G73_J10.out.below hbx)
           have G74_qf := Lib.hid (G73_qf.out.below hbx)
           have G74_J11 := Lib.hid (G73_J11.out.below hbx)
           have G74_ce := Lib.hid (G73_ce.out.below hbx)
           have G74_qg := Lib.hid hr
           clear hbx hr
           refine hK.out _ _ (by with_reducible exact X74.out.keep) (fun hHeld => ?_)
           clear hK K
           try simp only [Act.put, ld, le, lf]
           refine wpAnyH_ready (rs := [8]) (by kernel_rfl) (by simp) ?_
           refine AllReadyH.cons rfl (fun K hK => ?_) AllReadyH.nil
           try simp only [la, lb, lc]
           have v0 := G74_J10.out.c0
           have vf0 := G74_J10.out.f 0
           have v1 := G74_J10.out.c1
           have vf1 := G74_J10.out.f 1
           have v2 := G74_J10.out.c2
           have vf2 := G74_J10.out.f 2
           have v3 := G74_J10.out.c3
           have vf3 := G74_J10.out.f 3
           go_simp
           clear v0 v1 v2 v3 vf0 vf1 vf2 vf3
           obtain ⟨W75, hW75⟩ : ∃ V, put4 W74 W1.heap.size s62 A62 n62 c62 t62 B62 m62 d62 = V := ⟨_, rfl⟩
           refine (congrArg (K _) hW75).mpr ?_
           have X75 := Lib.hid (X74.out.pt G74_J10.out (X1.out.i3.lt) hW75)
           have G75_M := Lib.hid (G74_J10.out.pt hW75)
           have G75_O := Lib.hid (G74_J11.out.pt_far (Ne.symm (Nat.ne_of_lt (Qbx.lt G62_J10.out))) hW75)
           have G75_qf := Lib.hid (G74_qf.out.pt G74_J10.out hW75)
           have G75_qg := Lib.hid (G74_qg.out.pt G74_J10.out hW75)
           clear hW75
           refine hK.out _ _ (by with_reducible exact X75.out.keep) (fun hHeld => ?_)
           clear hK K
           try simp only [Act.put, ld, le, lf]
           refine wpAnyH_ready (rs := [9]) (by kernel_rfl) (by simp) ?_
           refine AllReadyH.cons rfl (fun K hK => ?_) AllReadyH.nil
           try simp only [la, lb, lc]
           have v0 := G75_O.out.c0
           have vf0 := G75_O.out.f 0
           have v1 := G75_O.out.c1
           have vf1 := G75_O.out.f 1
           have v2 := G75_O.out.c2
           have vf2 := G75_O.out.f 2
           have v3 := G75_O.out.c3
           have vf3 := G75_O.out.f 3
           go_simp
           clear v0 v1 v2 v3 vf0 vf1 vf2 vf3
           obtain ⟨W76, hW76⟩ : ∃ V, put4 W75 W62.heap.size s74 A74 n74 c74 t74 B74 m74 d74 = V := ⟨_, rfl⟩
           refine (congrArg (K _) hW76).mpr ?_
           have X76 := Lib.hid (X75.out.pt G75_O.out (X62.out.i3.lt) hW76)
           have G76_M := Lib.hid (G75_O.out.pt hW76)
           have G76_O := Lib.hid (G75_M.out.pt_far (Nat.ne_of_lt (Qbx.lt G62_J10.out)) hW76)
           have G76_qf := Lib.hid (G75_qf.out.pt G75_O.out hW76)
           have G76_qg := Lib.hid (G75_qg.out.pt G75_O.out hW76)
           clear hW76
           refine hK.out _ _ (by with_reducible exact X76.out.keep) (fun hHeld => ?_)
           clear hK K
           try simp only [Act.put, ld, le, lf]
           refine wpAnyH_done (by kernel_rfl) ?_ _
           go_wp2_with fail
           go_meet
           exact ⟨W1.heap.size, W62.heap.size, _, _, _, _, _, _, _, _, _, _, _, _, _, _, _, _, rfl, rfl, ⟨X76.out, G76_O.out, G76_M.out, G76_qf.out, G76_qg.out⟩⟩
       ·
        try simp only [la, lb, lc]
        go_simp
        obtain ⟨W77, hW77⟩ : ∃ V, W61.alloc (Obj.cells #[.bool false, .slice none 0 0, .bool false, .slice none 0 0] 28) = V := ⟨_, rfl⟩
        rw [hW77]
        have X77 := Lib.hid (X61.out.al hW77)
        have G77_fl := Lib.hid (G61_fl.out.al hW77)
        have G77_J10 := Lib.hid (G61_J10.out.al hW77)
        have G77_J11 := Lib.hid (Qbx.fresh hW77)
        refine hK.out _ _ (by with_reducible exact X77.out.keep) (fun hHeld => ?_)
        clear hK K
        try simp only [Act.put, ld, le, lf]
        clear hW77
        refine wpAnyH_ready (rs := [2]) (by kernel_rfl) (by simp) ?_
        refine (AllReadyH.cons rfl (fun K hK => ?_) AllReadyH.nil)
        ·
         try simp only [la, lb, lc]
         go_simp
         with_reducible refine (whole_q (G77_fl.out.isz HZF.out) (by omega) qf HQF.out).mono ?_
         rintro e W78 ⟨s78, A78, n78, c78, t78, B78, m78, d78, rfl, hr, hbx⟩
         have X78 := Lib.hid (X77.out.below hbx)
         have G78_fl := Lib.hid (G77_fl.out.below hbx)
         have G78_J10 := Lib.hid (G77_J10.out.below hbx)
         have G78_J11 := Lib.hid (G77_J11.out.below hbx)
         have G78_qf := Lib.hid hr
         clear hbx hr
         refine hK.out _ _ (by with_reducible exact X78.out.keep) (fun hHeld => ?_)
         clear hK K
         try simp only [Act.put, ld, le, lf]
         refine wpAnyH_ready (rs := [4]) (by kernel_rfl) (by simp) ?_
         refine (AllReadyH.cons rfl (fun K hK => ?_) AllReadyH.nil)
         ·
          try simp only [la, lb, lc]
          go_simp
          with_reducible refine (ceil_q (IsQ.mono (l := 700) X78.out.a (by omega)) (by omega) (by omega) ce HCE.out).mono ?_
          rintro e W79 ⟨s79, A79, n79, c79, rfl, hr, hbx⟩
          have X79 := Lib.hid (X78.out.below hbx)
          have G79_fl := Lib.hid (G78_fl.out.below hbx)
          have G79_J10 := Lib.hid (G78_J10.out.below hbx)
          have G79_J11 := Lib.hid (G78_J11.out.below hbx)
          have G79_qf := Lib.hid (G78_qf.out.below hbx)
          have G79_ce := Lib.hid hr
          clear hbx hr
          refine hK.out _ _ (by with_reducible exact X79.out.keep) (fun hHeld => ?_)
          clear hK K
          try simp only [Act.put, ld, le, lf]
          refine wpAnyH_ready (rs := [5]) (by kernel_rfl) (by simp) ?_
          refine (AllReadyH.cons rfl (fun K hK => ?_) AllReadyH.nil)
          ·
           try simp only [la, lb, lc]
           go_simp
           with_reducible refine (whole_q (G79_ce.out.isz HZC.out) (by omega) qg HQG.out).mono ?_
           rintro e W80 ⟨s80, A80, n80, c80, t80, B80, m80, d80, rfl, hr, hbx⟩
           have X80 := Lib.hid (X79.out.below hbx)
           have G80_fl := Lib.hid (G79_fl.out.below hbx)
           have G80_J10 := Lib.hid (G79_J10.out.below hbx)
           have G80_J11 := Lib.hid (G79_J11.out.below hbx)
           have G80_qf := Lib.hid (G79_qf.out.below hbx)
           have G80_ce := Lib.hid (G79_ce.out.below hbx)
           have G80_qg := Lib.hid hr
           clear hbx hr
           refine hK.out _ _ (by with_reducible exact X80.out.keep) (fun hHeld => ?_)
           clear hK K
           try simp only [Act.put, ld, le, lf]
           refine wpAnyH_ready (rs := [8]) (by kernel_rfl) (by simp) ?_
           refine AllReadyH.cons rfl (fun K hK => ?_) AllReadyH.nil
           try simp only [la, lb, lc]
           have v0 := G80_J10.out.c0
           have vf0 := G80_J10.out.f 0
           have v1 := G80_J10.out.c1
           have vf1 := G80_J10.out.f 1
           have v2 := G80_J10.out.c2
           have vf2 := G80_J10.out.f 2
           have v3 := G80_J10.out.c3
           have vf3 := G80_J10.out.f 3
           go_simp
           clear v0 v1 v2 v3 vf0 vf1 vf2 vf3
           obtain ⟨W81, hW81⟩ : ∃ V, put4 W80 W1.heap.size s78 A78 n78 c78 t78 B78 m78 d78 = V := ⟨_, rfl⟩
           refine (congrArg (K _) hW81).mpr ?_
           have X81 := Lib.hid (X80.out.pt G80_J10.out (X1.out.i3.lt) hW81)
           have G81_M := Lib.hid (G80_J10.out.pt hW81)
           have G81_O := Lib.hid (G80_J11.out.pt_far (Ne.symm (Nat.ne_of_lt (Qbx.lt G61_J10.out))) hW81)
           have G81_qf := Lib.hid (G80_qf.out.pt G80_J10.out hW81)
           have G81_qg := Lib.hid (G80_qg.out.pt G80_J10.out hW81)
           clear hW81
           refine hK.out _ _ (by with_reducible exact X81.out.keep) (fun hHeld => ?_)
           clear hK K
           try simp only [Act.put, ld, le, lf]
           refine wpAnyH_ready (rs := [9]) (by kernel_rfl) (by simp) ?_
           refine AllReadyH.cons rfl (fun K hK => ?_) AllReadyH.nil
           try simp only [la, lb, lc]
           have v0 := G81_O.out.c0
           have vf0 := G81_O.out.f 0
           have v1 := G81_O.out.c1
           have vf1 := G81_O.out.f 1
           have v2 := G81_O.out.c2
           have vf2 := G81_O.out.f 2
           have v3 := G81_O.out.c3
           have vf3 := G81_O.out.f 3
           go_simp
           clear v0 v1 v2 v3 vf0 vf1 vf2 vf3
           obtain ⟨W82, hW82⟩ : ∃ V, put4 W81 W61.heap.size s80 A80 n80 c80 t80 B80 m80 d80 = V := ⟨_, rfl⟩
           refine (congrArg (K _) hW82).mpr ?_
           have X82 := Lib.hid (X81.out.pt G81_O.out (X61.out.i3.lt) hW82)
           have G82_M := Lib.hid (G81_O.out.pt hW82)
           have G82_O := Lib.hid (G81_M.out.pt_far (Nat.ne_of_lt (Qbx.lt G61_J10.out)) hW82)
           have G82_qf := Lib.hid (G81_qf.out.pt G81_O.out hW82)
           have G82_qg := Lib.hid (G81_qg.out.pt G81_O.out hW82)
           clear hW82
           refine hK.out _ _ (by with_reducible exact X82.out.keep) (fun hHeld => ?_)
           clear hK K
           try simp only [Act.put, ld, le, lf]
           refine wpAnyH_done (by kernel_rfl) ?_ _
           go_wp2_with fail
           go_meet
           exact ⟨W1.heap.size, W61.heap.size, _, _, _, _, _, _, _, _, _, _, _, _, _, _, _, _, rfl, rfl, ⟨X82.out, G82_O.out, G82_M.out, G82_qf.out, G82_qg.out⟩⟩
      ·
       try simp only [la, lb, lc]
       go_simp
       obtain ⟨W83, hW83⟩ : ∃ V, W1.alloc (Obj.cells #[.bool false, .slice none 0 0, .bool false, .slice none 0 0] 28) = V := ⟨_, rfl⟩
       rw [hW83]
       have X83 := Lib.hid (X1.out.al hW83)
       have G83_fl := Lib.hid (G1_fl.out.al hW83)
       have G83_J11 := Lib.hid (Qbx.fresh hW83)
       refine hK.out _ _ (by with_reducible exact X83.out.keep) (fun hHeld => ?_)
       clear hK K
       try simp only [Act.put, ld, le, lf]
       clear hW83
       refine wpAnyH_ready (rs := [2, 6]) (by kernel_rfl) (by simp) ?_
       refine (AllReadyH.cons rfl (fun K hK => ?_) (AllReadyH.cons rfl (fun K hK => ?_) AllReadyH.nil))
       ·
        try simp only [la, lb, lc]
        go_simp
        with_reducible refine (whole_q (G83_fl.out.isz HZF.out) (by omega) qf HQF.out).mono ?_
        rintro e W84 ⟨s84, A84, n84, c84, t84, B84, m84, d84, rfl, hr, hbx⟩
        have X84 := Lib.hid (X83.out.below hbx)
        have G84_fl := Lib.hid (G83_fl.out.below hbx)
        have G84_J11 := Lib.hid (G83_J11.out.below hbx)
        have G84_qf := Lib.hid hr
        clear hbx hr
        refine hK.out _ _ (by with_reducible exact X84.out.keep) (fun hHeld => ?_)
        clear hK K
        try simp only [Act.put, ld, le, lf]
        refine wpAnyH_ready (rs := [4, 6]) (by kernel_rfl) (by simp) ?_
        refine (AllReadyH.cons rfl (fun K hK => ?_) (AllReadyH.cons rfl (fun K hK => ?_) AllReadyH.nil))
        ·
         try simp only [la, lb, lc]
         go_simp
         with_reducible refine (ceil_q (IsQ.mono (l := 700) X84.out.a (by omega)) (by omega) (by omega) ce HCE.out).mono ?_
         rintro e W85 ⟨s85, A85, n85, c85, rfl, hr, hbx⟩
         have X85 := Lib.hid (X84.out.below hbx)
         have G85_fl := Lib.hid (G84_fl.out.below hbx)
         have G85_J11 := Lib.hid (G84_J11.out.below hbx)
         have G85_qf := Lib.hid (G84_qf.out.below hbx)
         have G85_ce := Lib.hid hr
         clear hbx hr
         refine hK.out _ _ (by with_reducible exact X85.out.keep) (fun hHeld => ?_)
         clear hK K
         try simp only [Act.put, ld, le, lf]
         refine wpAnyH_ready (rs := [5, 6]) (by kernel_rfl) (by simp) ?_
         refine (AllReadyH.cons rfl (fun K hK => ?_) (AllReadyH.cons rfl (fun K hK => ?_) AllReadyH.nil))
         ·
          try simp only [la, lb, lc]
          go_simp
          with_reducible refine (whole_q (G85_ce.out.isz HZC.out) (by omega) qg HQG.out).mono ?_
          rintro e W86 ⟨s86, A86, n86, c86, t86, B86, m86, d86, rfl, hr, hbx⟩
          have X86 := Lib.hid (X85.out.below hbx)
          have G86_fl := Lib.hid (G85_fl.out.below hbx)
          have G86_J11 := Lib.hid (G85_J11.out.below hbx)
          have G86_qf := Lib.hid (G85_qf.out.below hbx)
          have G86_ce := Lib.hid (G85_ce.out.below hbx)
          have G86_qg := Lib.hid hr
          clear hbx hr
          refine hK.out _ _ (by with_reducible exact X86.out.keep) (fun hHeld => ?_)
          clear hK K
          try simp only [Act.put, ld, le, lf]
          refine wpAnyH_ready (rs := [6]) (by kernel_rfl) (by simp) ?_
          refine (AllReadyH.cons rfl (fun K hK => ?_) AllReadyH.nil)
          ·
           try simp only [la, lb, lc]
           go_simp
           obtain ⟨W87, hW87⟩ : ∃ V, W86.alloc (Obj.cells #[.bool false, .slice none 0 0, .bool false, .slice none 0 0] 28) = V := ⟨_, rfl⟩
           rw [hW87]
           have X87 := Lib.hid (X86.out.al hW87)
           have G87_fl := Lib.hid (G86_fl.out.al hW87)
           have G87_J11 := Lib.hid (G86_J11.out.al hW87)
           have G87_qf := Lib.hid (G86_qf.out.al hW87)
           have G87_ce := Lib.hid (G86_ce.out.al hW87)
           have G87_qg := Lib.hid (G86_qg.out.al hW87)
           have G87_J10 := Lib.hid (Qbx.fresh hW87)
           refine hK.out _ _ (by with_reducible exact X87.out.keep) (fun hHeld => ?_)
           clear hK K
           try simp only [Act.put, ld, le, lf]
           clear hW87
           refine wpAnyH_ready (rs := [8]) (by kernel_rfl) (by simp) ?_
           refine AllReadyH.cons rfl (fun K hK => ?_) AllReadyH.nil
           try simp only [la, lb, lc]
           have v0 := G87_J10.out.c0
           have vf0 := G87_J10.out.f 0
           have v1 := G87_J10.out.c1
           have vf1 := G87_J10.out.f 1
           have v2 := G87_J10.out.c2
           have vf2 := G87_J10.out.f 2
           have v3 := G87_J10.out.c3
           have vf3 := G87_J10.out.f 3
           go_simp
           clear v0 v1 v2 v3 vf0 vf1 vf2 vf3
           obtain ⟨W88, hW88⟩ : ∃ V, put4 W87 W86.heap.size s84 A84 n84 c84 t84 B84 m84 d84 = V := ⟨_, rfl⟩
           refine (congrArg (K _) hW88).mpr ?_
           have X88 := Lib.hid (X87.out.pt G87_J10.out (X86.out.i3.lt) hW88)
           have G88_M := Lib.hid (G87_J10.out.pt hW88)
           have G88_O := Lib.hid (G87_J11.out.pt_far (Ne.symm (Nat.ne_of_gt (Qbx.lt G86_J11.out))) hW88)
           have G88_qf := Lib.hid (G87_qf.out.pt G87_J10.out hW88)
           have G88_qg := Lib.hid (G87_qg.out.pt G87_J10.out hW88)
           clear hW88
           refine hK.out _ _ (by with_reducible exact X88.out.keep) (fun hHeld => ?_)
           clear hK K
           try simp only [Act.put, ld, le, lf]
           refine wpAnyH_ready (rs := [9]) (by kernel_rfl) (by simp) ?_
           refine AllReadyH.cons rfl (fun K hK => ?_) AllReadyH.nil
           try simp only [la, lb, lc]
           have v0 := G88_O.out.c0
           have vf0 := G88_O.out.f 0
           have v1 := G88_O.out.c1
           have vf1 := G88_O.out.f 1
           have v2 := G88_O.out.c2
           have vf2 := G88_O.out.f 2
           have v3 := G88_O.out.c3
           have vf3 := G88_O.out.f 3
           go_simp
           clear v0 v1 v2 v3 vf0 vf1 vf2 vf3
           obtain ⟨W89, hW89⟩ : ∃ V, put4 W88 W1.heap.size s86 A86 n86 c86 t86 B86 m86 d86 = V := ⟨_, rfl⟩
           refine (congrArg (K _) hW89).mpr ?_
           have X89 := Lib.hid (X88.out.pt G88_O.out (X1.out.i3.lt) hW89)
           have G89_M := Lib.hid (G88_O.out.pt hW89)
           have G89_O := Lib.hid (G88_M.out.pt_far (Nat.ne_of_gt (Qbx.lt G86_J11.out)) hW89)
           have G89_qf := Lib.hid (G88_qf.out.pt G88_O.out hW89)
           have G89_qg := Lib.hid (G88_qg.out.pt G88_O.out hW89)
           clear hW89
           refine hK.out _ _ (by with_reducible exact X89.out.keep) (fun hHeld => ?_)
           clear hK K
           try simp only [Act.put, ld, le, lf]
           refine wpAnyH_done (by kernel_rfl) ?_ _
           go_wp2_with fail
           go_meet
           exact ⟨W86.heap.size, W1.heap.size, _, _, _, _, _, _, _, _, _, _, _, _, _, _, _, _, rfl, rfl, ⟨X89.out, G89_O.out, G89_M.out, G89_qf.out, G89_qg.out⟩⟩
         ·
          try simp only [la, lb, lc]
          go_simp
          obtain ⟨W90, hW90⟩ : ∃ V, W85.alloc (Obj.cells #[.bool false, .slice none 0 0, .bool false, .slice none 0 0] 28) = V := ⟨_, rfl⟩
          rw [hW90]
          have X90 := Lib.hid (X85.out.al hW90)
          have G90_fl := Lib.hid (G85_fl.out.al hW90)
          have G90_J11 := Lib.hid (G85_J11.out.al hW90)
          have G90_qf := Lib.hid (G85_qf.out.al hW90)
          have G90_ce := Lib.hid (G85_ce.out.al hW90)
          have G90_J10 := Lib.hid (Qbx.fresh hW90)
          refine hK.out _ _ (by with_reducible exact X90.out.keep) (fun hHeld => ?_)
          clear hK K
          try simp only [Act.put, ld, le, lf]
          clear hW90
          refine wpAnyH_ready (rs := [5]) (by kernel_rfl) (by simp) ?_
          refine (AllReadyH.cons rfl (fun K hK => ?_) AllReadyH.nil)
          ·
           try simp only [la, lb, lc]
           go_simp
           with_reducible refine (whole_q (G90_ce.out.isz HZC.out) (by omega) qg HQG.out).mono ?_
           rintro e W91 ⟨s91, A91, n91, c91, t91, B91, m91, d91, rfl, hr, hbx⟩
           have X91 := Lib.hid (X90.out.below hbx)
           have G91_fl := Lib.hid (G90_fl.out.below hbx)
           have G91_J11 := Lib.hid (G90_J11.out.below hbx)
           have G91_qf := Lib.hid (G90_qf.out.below hbx)
           have G91_ce := Lib.hid (G90_ce.out.below hbx)
           have G91_J10 := Lib.hid (G90_J10.out.below hbx)
           have G91_qg := Lib.hid hr
           clear hbx hr
           refine hK.out _ _ (by with_reducible exact X91.out.keep) (fun hHeld => ?_)
           clear hK K
           try simp only [Act.put, ld, le, lf]
           refine wpAnyH_ready (rs := [8]) (by kernel_rfl) (by simp) ?_
           refine AllReadyH.cons rfl (fun K hK => ?_) AllReadyH.nil
           try simp only [la, lb, lc]
           have v0 := G91_J10.out.c0
           have vf0 := G91_J10.out.f 0
           have v1 := G91_J10.out.c1
           have vf1 := G91_J10.out.f 1
           have v2 := G91_J10.out.c2
           have vf2 := G91_J10.out.f 2
           have v3 := G91_J10.out.c3
           have vf3 := G91_J10.out.f 3
           go_simp
           clear v0 v1 v2 v3 vf0 vf1 vf2 vf3
           obtain ⟨W92, hW92⟩ : ∃ V, put4 W91 W85.heap.size s84 A84 n84 c84 t84 B84 m84 d84 = V := ⟨_, rfl⟩
           refine (congrArg (K _) hW92).mpr ?_
           have X92 := Lib.hid (X91.out.pt G91_J10.out (X85.out.i3.lt) hW92)
           have G92_M := Lib.hid (G91_J10.out.pt hW92)
           have G92_O := Lib.hid (G91_J11.out.pt_far (Ne.symm (Nat.ne_of_gt (Qbx.lt G85_J11.out))) hW92)
           have G92_qf := Lib.hid (G91_qf.out.pt G91_J10.out hW92)
           have G92_qg := Lib.hid (G91_qg.out.pt G91_J10.out hW92)
           clear hW92
           refine hK.out _ _ (by with_reducible exact X92.out.keep) (fun hHeld => ?_)
           clear hK K
           try simp only [Act.put, ld, le, lf]
           refine wpAnyH_ready (rs := [9]) (by kernel_rfl) (by simp) ?_
           refine AllReadyH.cons rfl (fun K hK => ?_) AllReadyH.nil
           try simp only [la, lb, lc]
           have v0 := G92_O.out.c0
           have vf0 := G92_O.out.f 0
           have v1 := G92_O.out.c1
           have vf1 := G92_O.out.f 1
           have v2 := G92_O.out.c2
           have vf2 := G92_O.out.f 2
           have v3 := G92_O.out.c3
           have vf3 := G92_O.out.f 3
           go_simp
           clear v0 v1 v2 v3 vf0 vf1 vf2 vf3
           obtain ⟨W93, hW93⟩ : ∃ V, put4 W92 W1.heap.size s91 A91 n91 c91 t91 B91 m91 d91 = V := ⟨_, rfl⟩
           refine (congrArg (K _) hW93).mpr ?_
           have X93 := Lib.hid (X92.out.pt G92_O.out (X1.out.i3.lt) hW93)
           have G93_M := Lib.hid (G92_O.out.pt hW93)
           have G93_O := Lib.hid (G92_M.out.pt_far (Nat.ne_of_gt (Qbx.lt G85_J11.out)) hW93)
           have G93_qf := Lib.hid (G92_qf.out.pt G92_O.out hW93)
           have G93_qg := Lib.hid (G92_qg.out.pt G92_O.out hW93)
           clear hW93
           refine hK.out _ _ (by with_reducible exact X93.out.keep) (fun hHeld => ?_)
           clear hK K
           try simp only [Act.put, ld, le, lf]
           refine wpAnyH_done (by kernel_rfl) ?_ _
           go_wp2_with fail
           go_meet
           exact ⟨W85.heap.size, W1.heap.size, _, _, _, _, _, _, _, _, _, _, _, _, _, _, _, _, rfl, rfl, ⟨X93.out, G93_O.out, G93_M.out, G93_qf.out, G93_qg.out⟩⟩
        ·
         try simp only [la, lb, lc]
         go_simp
         obtain ⟨W94, hW94⟩ : ∃ V, W84.alloc (Obj.cells #[.bool false, .slice none 0 0, .bool false, .slice none 0 0] 28) = V := ⟨_, rfl⟩
         rw [hW94]
         have X94 := Lib.hid (X84.out.al hW94)
         have G94_fl := Lib.hid (G84_fl.out.al hW94)
         have G94_J11 := Lib.hid (G84_J11.out.al hW94)
         have G94_qf := Lib.hid (G84_qf.out.al hW94)
         have G94_J10 := Lib.hid (Qbx.fresh hW94)
         refine hK.out _ _ (by with_reducible exact X94.out.keep) (fun hHeld => ?_)
         clear hK K
         try simp only [Act.put, ld, le, lf]
         clear hW94
         refine wpAnyH_ready (rs := [4]) (by kernel_rfl) (by simp) ?_
         refine (AllReadyH.cons rfl (fun K hK => ?_) AllReadyH.nil)
         ·
          try simp only [la, lb, lc]
          go_simp
          with_reducible refine (ceil_q (IsQ.mono (l := 700) X94.out.a (by omega)) (by omega) (by omega) ce HCE.out).mono ?_
          rintro e W95 ⟨s95, A95, n95, c95, rfl, hr, hbx⟩
          have X95 := Lib.hid (X94.out.below hbx)
          have G95_fl := Lib.hid (G94_fl.out.below hbx)
          have G95_J11 := Lib.hid (G94_J11.out.below hbx)
          have G95_qf := Lib.hid (G94_qf.out.below hbx)
          have G95_J10 := Lib.hid (G94_J10.out.below hbx)
          have G95_ce := Lib.hid hr
          clear hbx hr
          refine hK.out _ _ (by with_reducible exact X95.out.keep) (fun hHeld => ?_)
          clear hK K
          try simp only [Act.put, ld, le, lf]
          refine wpAnyH_ready (rs := [5]) (by kernel_rfl) (by simp) ?_
          refine (AllReadyH.cons rfl (fun K hK => ?_) AllReadyH.nil)
          ·
           try simp only [la, lb, lc]
           go_simp
           with_reducible refine (whole_q (G95_ce.out.isz HZC.out) (by omega) qg HQG.out).mono ?_
           rintro e W96 ⟨s96, A96, n96, c96, t96, B96, m96, d96, rfl, hr, hbx⟩
           have X96 := Lib.hid (X95.out.below hbx)
           have G96_fl := Lib.hid (G95_fl.out.below hbx)
           have G96_J11 := Lib.hid (G95_J11.out.below hbx)
           have G96_qf := Lib.hid (G95_qf.out.below hbx)
           have G96_J10 := Lib.hid (G95_J10.out.below hbx)
           have G96_ce := Lib.hid (G95_ce.out.below hbx)
           have G96_qg := Lib.hid hr
           clear hbx hr
           refine hK.out _ _ (by with_reducible exact X96.out.keep) (fun hHeld => ?_)
           clear hK K
           try simp only [Act.put, ld, le, lf]
           refine wpAnyH_ready (rs := [8]) (by kernel_rfl) (by simp) ?_
           refine AllReadyH.cons rfl (fun K hK => ?_) AllReadyH.nil
           try simp only [la, lb, lc]
           have v0 := G96_J10.out.c0
           have vf0 := G96_J10.out.f 0
           have v1 := G96_J10.out.c1
           have vf1 := G96_J10.out.f 1
           have v2 := G96_J10.out.c2
           have vf2 := G96_J10.out.f 2
           have v3 := G96_J10.out.c3
           have vf3 := G96_J10.out.f 3
           go_simp
           clear v0 v1 v2 v3 vf0 vf1 vf2 vf3
           obtain ⟨W97, hW97⟩ : ∃ V, put4 W96 W84.heap.size s84 A84 n84 c84 t84 B84 m84 d84 = V := ⟨_, rfl⟩
           refine (congrArg (K _) hW97).mpr ?_
           have X97 := Lib.hid (X96.out.pt G96_J10.out (X84.out.i3.lt) hW97)
           have G97_M := Lib.hid (G96_J10.out.pt hW97)
           have G97_O := Lib.hid (G96_J11.out.pt_far (Ne.symm (Nat.ne_of_gt (Qbx.lt G84_J11.out))) hW97)
           have G97_qf := Lib.hid (G96_qf.out.pt G96_J10.out hW97)
           have G97_qg := Lib.hid (G96_qg.out.pt G96_J10.out hW97)
           clear hW97
           refine hK.out _ _ (by with_reducible exact X97.out.keep) (fun hHeld => ?_)
           clear hK K
           try simp only [Act.put, ld, le, lf]
           refine wpAnyH_ready (rs := [9]) (by kernel_rfl) (by simp) ?_
           refine AllReadyH.cons rfl (fun K hK => ?_) AllReadyH.nil
           try simp only [la, lb, lc]
           have v0 := G97_O.out.c0
           have vf0 := G97_O.out.f 0
           have v1 := G97_O.out.c1
           have vf1 := G97_O.out.f 1
           have v2 := G97_O.out.c2
           have vf2 := G97_O.out.f 2
           have v3 := G97_O.out.c3
           have vf3 := G97_O.out.f 3
           go_simp
           clear v0 v1 v2 v3 vf0 vf1 vf2 vf3
           obtain ⟨W98, hW98⟩ : ∃ V, put4 W97 W1.heap.size s96 A96 n96 c96 t96 B96 m96 d96 = V := ⟨_, rfl⟩
           refine (congrArg (K _) hW98).mpr ?_
           have X98 := Lib.hid (X97.out.pt G97_O.out (X1.out.i3.lt) hW98)
           have G98_M := Lib.hid (G97_O.out.pt hW98)
           have G98_O := Lib.hid (G97_M.out.pt_far (Nat.ne_of_gt (Qbx.lt G84_J11.out)) hW98)
           have G98_qf := Lib.hid (G97_qf.out.pt G97_O.out hW98)
           have G98_qg := Lib.hid (G97_qg.out.pt G97_O.out hW98)
           clear hW98
           refine hK.out _ _ (by with_reducible exact X98.out.keep) (fun hHeld => ?_)
           clear hK K
           try simp only [Act.put, ld, le, lf]
           refine wpAnyH_done (by kernel_rfl) ?_ _
           go_wp2_with fail
           go_meet
           exact ⟨W84.heap.size, W1.heap.size, _, _, _, _, _, _, _, _, _, _, _, _, _, _, _, _, rfl, rfl, ⟨X98.out, G98_O.out, G98_M.out, G98_qf.out, G98_qg.out⟩⟩
       ·
        try simp only [la, lb, lc]
        go_simp
        obtain ⟨W99, hW99⟩ : ∃ V, W83.alloc (Obj.cells #[.bool false, .slice none 0 0, .bool false, .slice none 0 0] 28) = V := ⟨_, rfl⟩
        rw [hW99]
        have X99 := Lib.hid (X83.out.al hW99)
        have G99_fl := Lib.hid (G83_fl.out.al hW99)
        have G99_J11 := Lib.hid (G83_J11.out.al hW99)
        have G99_J10 := Lib.hid (Qbx.fresh hW99)
        refine hK.out _ _ (by with_reducible exact X99.out.keep) (fun hHeld => ?_)
        clear hK K
        try simp only [Act.put, ld, le, lf]
        clear hW99
        refine wpAnyH_ready (rs := [2]) (by kernel_rfl) (by simp) ?_
        refine (AllReadyH.cons rfl (fun K hK => ?_) AllReadyH.nil)
        ·
         try simp only [la, lb, lc]
         go_simp
         with_reducible refine (whole_q (G99_fl.out.isz HZF.out) (by omega) qf HQF.out).mono ?_
         rintro e W100 ⟨s100, A100, n100, c100, t100, B100, m100, d100, rfl, hr, hbx⟩
         have X100 := Lib.hid (X99.out.below hbx)
         have G100_fl := Lib.hid (G99_fl.out.below hbx)
         have G100_J11 := Lib.hid (G99_J11.out.below hbx)
         have G100_J10 := Lib.hid (G99_J10.out.below hbx)
         have G100_qf := Lib.hid hr
         clear hbx hr
         refine hK.out _ _ (by with_reducible exact X100.out.keep) (fun hHeld => ?_)
         clear hK K
         try simp only [Act.put, ld, le, lf]
         refine wpAnyH_ready (rs := [4]) (by kernel_rfl) (by simp) ?_
         refine (AllReadyH.cons rfl (fun K hK => ?_) AllReadyH.nil)
         ·
          try simp only [la, lb, lc]
          go_simp
          with_reducible refine (ceil_q (IsQ.mono (l := 700) X100.out.a (by omega)) (by omega) (by omega) ce HCE.out).mono ?_
          rintro e W101 ⟨s101, A101, n101, c101, rfl, hr, hbx⟩
          have X101 := Lib.hid (X100.out.below hbx)
          have G101_fl := Lib.hid (G100_fl.out.below hbx)
          have G101_J11 := Lib.hid (G100_J11.out.below hbx)
          have G101_J10 := Lib.hid (G100_J10.out.below hbx)
          have G101_qf := Lib.hid (G100_qf.out.below hbx)
          have G101_ce := Lib.hid hr
          clear hbx hr
          refine hK.out _ _ (by with_reducible exact X101.out.keep) (fun hHeld => ?_)
          clear hK K
          try simp only [Act.put, ld, le, lf]
          refine wpAnyH_ready (rs := [5]) (by kernel_rfl) (by simp) ?_
          refine (AllReadyH.cons rfl (fun K hK => ?_) AllReadyH.nil)
          ·
           try simp only [la, lb, lc]
           go_simp
           with_reducible refine (whole_q (G101_ce.out.isz HZC.out) (by omega) qg HQG.out).mono ?_
           rintro e W102 ⟨s102, A102, n102, c102, t102, B102, m102, d102, rfl, hr, hbx⟩
           have X102 := Lib.hid (X101.out.below hbx)
           have G102_fl := Lib.hid (G101_fl.out.below hbx)
           have G102_J11 := Lib.hid (G101_J11.out.below hbx)
           have G102_J10 := Lib.hid (G101_J10.out.below hbx)
           have G102_qf := Lib.hid (G101_qf.out.below hbx)
           have G102_ce := Lib.hid (G101_ce.out.below hbx)
           have G102_qg := Lib.hid hr
           clear hbx hr
           refine hK.out _ _ (by with_reducible exact X102.out.keep) (fun hHeld => ?_)
           clear hK K
           try simp only [Act.put, ld, le, lf]
           refine wpAnyH_ready (rs := [8]) (by kernel_rfl) (by simp) ?_
           refine AllReadyH.cons rfl (fun K hK => ?_) AllReadyH.nil
           try simp only [la, lb, lc]
           have v0 := G102_J10.out.c0
           have vf0 := G102_J10.out.f 0
           have v1 := G102_J10.out.c1
           have vf1 := G102_J10.out.f 1
           have v2 := G102_J10.out.c2
           have vf2 := G102_J10.out.f 2
           have v3 := G102_J10.out.c3
           have vf3 := G102_J10.out.f 3
           go_simp
           clear v0 v1 v2 v3 vf0 vf1 vf2 vf3
           obtain ⟨W103, hW103⟩ : ∃ V, put4 W102 W83.heap.size s100 A100 n100 c100 t100 B100 m100 d100 = V := ⟨_, rfl⟩
           refine (congrArg (K _) hW103).mpr ?_
           have X103 := Lib.hid (X102.out.pt G102_J10.out (X83.out.i3.lt) hW103)
           have G103_M := Lib.hid (G102_J10.out.pt hW103)
           have G103_O := Lib.hid (G102_J11.out.pt_far (Ne.symm (Nat.ne_of_gt (Qbx.lt G83_J11.out))) hW103)
           have G103_qf := Lib.hid (G102_qf.out.pt G102_J10.out hW103)
           have G103_qg := Lib.hid (G102_qg.out.pt G102_J10.out hW103)
           clear hW103
           refine hK.out _ _ (by with_reducible exact X103.out.keep) (fun hHeld => ?_)
           clear hK K
           try simp only [Act.put, ld, le, lf]
           refine wpAnyH_ready (rs := [9]) (by kernel_rfl) (by simp) ?_
           refine AllReadyH.cons rfl (fun K hK => ?_) AllReadyH.nil
           try simp only [la, lb, lc]
           have v0 := G103_O.out.c0
           have vf0 := G103_O.out.f 0
           have v1 := G103_O.out.c1
           have vf1 := G103_O.out.f 1
           have v2 := G103_O.out.c2
           have vf2 := G103_O.out.f 2
           have v3 := G103_O.out.c3
           have vf3 := G103_O.out.f 3
           go_simp
           clear v0 v1 v2 v3 vf0 vf1 vf2 vf3
           obtain ⟨W104, hW104⟩ : ∃ V, put4 W103 W1.heap.size s102 A102 n102 c102 t102 B102 m102 d102 = V := ⟨_, rfl⟩
           refine (congrArg (K _) hW104).mpr ?_
           have X104 := Lib.hid (X103.out.pt G103_O.out (X1.out.i3.lt) hW104)
           have G104_M := Lib.hid (G103_O.out.pt hW104)
           have G104_O := Lib.hid (G103_M.out.pt_far (Nat.ne_of_gt (Qbx.lt G83_J11.out)) hW104)
           have G104_qf := Lib.hid (G103_qf.out.pt G103_O.out hW104)
           have G104_qg := Lib.hid (G103_qg.out.pt G103_O.out hW104)
           clear hW104
           refine hK.out _ _ (by with_reducible exact X104.out.keep) (fun hHeld => ?_)
           clear hK K
           try simp only [Act.put, ld, le, lf]
           refine wpAnyH_done (by kernel_rfl) ?_ _
           go_wp2_with fail
           go_meet
           exact ⟨W83.heap.size, W1.heap.size, _, _, _, _, _, _, _, _, _, _, _, _, _, _, _, _, rfl, rfl, ⟨X104.out, G104_O.out, G104_M.out, G104_qf.out, G104_qg.out⟩⟩
     ·
      try simp only [la, lb, lc]
      go_simp
      obtain ⟨W105, hW105⟩ : ∃ V, W0.alloc (Obj.cells #[.bool false, .slice none 0 0, .bool false, .slice none 0 0] 28) = V := ⟨_, rfl⟩
      rw [hW105]
      have X105 := Lib.hid (HX.out.al hW105)
      have G105_J10 := Lib.hid (Qbx.fresh hW105)
      refine hK.out _ _ (by with_reducible exact X105.out.keep) (fun hHeld => ?_)
      clear hK K
      try simp only [Act.put, ld, le, lf]
      clear hW105
      refine wpAnyH_ready (rs := [1, 7]) (by kernel_rfl) (by simp) ?_
      refine (AllReadyH.cons rfl (fun K hK => ?_) (AllReadyH.cons rfl (fun K hK => ?_) AllReadyH.nil))
      ·
       try simp only [la, lb, lc]
       go_simp
       with_reducible refine (floor_q (IsQ.mono (l := 700) X105.out.a (by omega)) (by omega) (by omega) fl HFL.out).mono ?_
       rintro e W106 ⟨s106, A106, n106, c106, rfl, hr, hbx⟩
       have X106 := Lib.hid (X105.out.below hbx)
       have G106_J10 := Lib.hid (G105_J10.out.below hbx)
       have G106_fl := Lib.hid hr
       clear hbx hr
       refine hK.out _ _ (by with_reducible exact X106.out.keep) (fun hHeld => ?_)
       clear hK K
       try simp only [Act.put, ld, le, lf]
       refine wpAnyH_ready (rs := [2, 7]) (by kernel_rfl) (by simp) ?_
       refine (AllReadyH.cons rfl (fun K hK => ?_) (AllReadyH.cons rfl (fun K hK => ?_) AllReadyH.nil))
       ·
        try simp only [la, lb, lc]
        go_simp
        with_reducible refine (whole_q (G106_fl.out.isz HZF.out) (by omega) qf HQF.out).mono ?_
        rintro e W107 ⟨s107, A107, n107, c107, t107, B107, m107, d107, rfl, hr, hbx⟩
        have X107 := Lib.hid (X106.out.below hbx)
        have G107_J10 := Lib.hid (G106_J10.out.below hbx)
        have G107_fl := Lib.hid (G106_fl.out.below hbx)
        have G107_qf := Lib.hid hr
        clear hbx hr
        refine hK.out _ _ (by with_reducible exact X107.out.keep) (fun hHeld => ?_)
        clear hK K
        try simp only [Act.put, ld, le, lf]
        refine wpAnyH_ready (rs := [4, 7]) (by kernel_rfl) (by simp) ?_
        refine (AllReadyH.cons rfl (fun K hK => ?_) (AllReadyH.cons rfl (fun K hK => ?_) AllReadyH.nil))
        ·
         try simp only [la, lb, lc]
         go_simp
         with_reducible refine (ceil_q (IsQ.mono (l := 700) X107.out.a (by omega)) (by omega) (by omega) ce HCE.out).mono ?_
         rintro e W108 ⟨s108, A108, n108, c108, rfl, hr, hbx⟩
         have X108 := Lib.hid (X107.out.below hbx)
         have G108_J10 := Lib.hid (G107_J10.out.below hbx)
         have G108_fl := Lib.hid (G107_fl.out.below hbx)
         have G108_qf := Lib.hid (G107_qf.out.below hbx)
         have G108_ce := Lib.hid hr
         clear hbx hr
         refine hK.out _ _ (by with_reducible exact X108.out.keep) (fun hHeld => ?_)
         clear hK K
         try simp only [Act.put, ld, le, lf]
         refine wpAnyH_ready (rs := [5, 7]) (by kernel_rfl) (by simp) ?_
         refine (AllReadyH.cons rfl (fun K hK => ?_) (AllReadyH.cons rfl (fun K hK => ?_) AllReadyH.nil))
         ·
          try simp only [la, lb, lc]
          go_simp
          with_reducible refine (whole_q (G108_ce.out.isz HZC.out) (by omega) qg HQG.out).mono ?_
          rintro e W109 ⟨s109, A109, n109, c109, t109, B109, m109, d109, rfl, hr, hbx⟩
          have X109 := Lib.hid (X108.out.below hbx)
          have G109_J10 := Lib.hid (G108_J10.out.below hbx)
          have G109_fl := Lib.hid (G108_fl.out.below hbx)
          have G109_qf := Lib.hid (G108_qf.out.below hbx)
          have G109_ce := Lib.hid (G108_ce.out.below hbx)
          have G109_qg := Lib.hid hr
          clear hbx hr
          refine hK.out _ _ (by with_reducible exact X109.out.keep) (fun hHeld => ?_)
          clear hK K
          try simp only [Act.put, ld, le, lf]
          refine wpAnyH_ready (rs := [7]) (by kernel_rfl) (by simp) ?_
          refine (AllReadyH.cons rfl (fun K hK => ?_) AllReadyH.nil)
          ·
           try simp only [la, lb, lc]
           go_simp
           obtain ⟨W110, hW110⟩ : ∃ V, W109.alloc (Obj.cells #[.bool false, .slice none 0 0, .bool false, .slice none 0 0] 28) = V := ⟨_, rfl⟩
           rw [hW110]
           have X110 := Lib.hid (X109.out.al hW110)
           have G110_J10 := Lib.hid (G109_J10.out.al hW110)
           have G110_fl := Lib.hid (G109_fl.out.al hW110)
           have G110_qf := Lib.hid (G109_qf.out.al hW110)
           have G110_ce := Lib.hid (G109_ce.out.al hW110)
           have G110_qg := Lib.hid (G109_qg.out.al hW110)
           have G110_J11 := Lib.hid (Qbx.fresh hW110)
           refine hK.out _ _ (by with_reducible exact X110.out.keep) (fun hHeld => ?_)
           clear hK K
           try simp only [Act.put, ld, le, lf]
           clear hW110
           refine wpAnyH_ready (rs := [8]) (by kernel_rfl) (by simp) ?_
           refine AllReadyH.cons rfl (fun K hK => ?_) AllReadyH.nil
           try simp only [la, lb, lc]
           have v0 := G110_J10.out.c0
           have vf0 := G110_J10.out.f 0
           have v1 := G110_J10.out.c1
           have vf1 := G110_J10.out.f 1
           have v2 := G110_J10.out.c2
           have vf2 := G110_J10.out.f 2
           have v3 := G110_J10.out.c3
           have vf3 := G110_J10.out.f 3
           go_simp
           clear v0 v1 v2 v3 vf0 vf1 vf2 vf3
           obtain ⟨W111, hW111⟩ : ∃ V, put4 W110 W0.heap.size s107 A107 n107 c107 t107 B107 m107 d107 = V := ⟨_, rfl⟩
           refine (congrArg (K _) hW111).mpr ?_
           have X111 := Lib.hid (X110.out.pt G110_J10.out (HX.out.i3.lt) hW111)
           have G111_M := Lib.hid (G110_J10.out.pt hW111)
           have G111_O := Lib.hid (G110_J11.out.pt_far (Ne.symm (Nat.ne_of_lt (Qbx.lt G109_J10.out))) hW111)
           have G111_qf := Lib.hid (G110_qf.out.pt G110_J10.out hW111)
           have G111_qg := Lib.hid (G110_qg.out.pt G110_J10.out hW111)
           clear hW111
           refine hK.out _ _ (by with_reducible exact X111.out.keep) (fun hHeld => ?_)
           clear hK K
           try simp only [Act.put, ld, le, lf]
           refine wpAnyH_ready (rs := [9]) (by kernel_rfl) (by simp) ?_
           refine AllReadyH.cons rfl (fun K hK => ?_) AllReadyH.nil
           try simp only [la, lb, lc]
           have v0 := G111_O.out.c0
           have vf0 := G111_O.out.f 0
           have v1 := G111_O.out.c1
           have vf1 := G111_O.out.f 1
           have v2 := G111_O.out.c2
           have vf2 := G111_O.out.f 2
           have v3 := G111_O.out.c3
           have vf3 := G111_O.out.f 3
           go_simp
           clear v0 v1 v2 v3 vf0 vf1 vf2 vf3
           obtain ⟨W112, hW112⟩ : ∃ V, put4 W111 W109.heap.size s109 A109 n109 c109 t109 B109 m109 d109 = V := ⟨_, rfl⟩
           refine (congrArg (K _) hW112).mpr ?_
           have X112 := Lib.hid (X111.out.pt G111_O.out (X109.out.i3.lt) hW112)
           have G112_M := Lib.hid (G111_O.out.pt hW112)
           have G112_O := Lib.hid (G111_M.out.pt_far (Nat.ne_of_lt (Qbx.lt G109_J10.out)) hW112)
           have G112_qf := Lib.hid (G111_qf.out.pt G111_O.out hW112)
           have G112_qg := Lib.hid (G111_qg.out.pt G111_O.out hW112)
           clear hW112
           refine hK.out _ _ (by with_reducible exact X112.out.keep) (fun hHeld => ?_)
           clear hK K
           try simp only [Act.put, ld, le, lf]
           refine wpAnyH_done (by kernel_rfl) ?_ _
           go_wp2_with fail
           go_meet
           exact ⟨W0.heap.size, W109.heap.size, _, _, _, _, _, _, _, _, _, _, _, _, _, _, _, _, rfl, rfl, ⟨X112.out, G112_O.out, G112_M.out, G112_qf.out, G112_qg.out⟩⟩
         ·
          try simp only [la, lb, lc]
          go_simp
          obtain ⟨W113, hW113⟩ : ∃ V, W108.alloc (Obj.cells #[.bool false, .slice none 0 0, .bool false, .slice none 0 0] 28) = V := ⟨_, rfl⟩
          rw [hW113]
          have X113 := Lib.hid (X108.out.al hW113)
          have G113_J10 := Lib.hid (G108_J10.out.al hW113)
          have G113_fl := Lib.hid (G108_fl.out.al hW113)
          have G113_qf := Lib.hid (G108_qf.out.al hW113)
          have G113_ce := Lib.hid (G108_ce.out.al hW113)
          have G113_J11 := Lib.hid (Qbx.fresh hW113)
          refine hK.out _ _ (by with_reducible exact X113.out.keep) (fun hHeld => ?_)
          clear hK K
          try simp only [Act.put, ld, le, lf]
          clear hW113
          refine wpAnyH_ready (rs := [5]) (by kernel_rfl) (by simp) ?_
          refine (AllReadyH.cons rfl (fun K hK => ?_) AllReadyH.nil)
          ·
           try simp only [la, lb, lc]
           go_simp
           with_reducible refine (whole_q (G113_ce.out.isz HZC.out) (by omega) qg HQG.out).mono ?_
           rintro e W114 ⟨s114, A114, n114, c114, t114, B114, m114, d114, rfl, hr, hbx⟩
           have X114 := Lib.hid (X113.out.below hbx)
           have G114_J10 := Lib.hid (G113_J10.out.below hbx)
           have G114_fl := Lib.hid (G113_fl.out.below hbx)
           have G114_qf := Lib.hid (G113_qf.out.below hbx)
           have G114_ce := Lib.hid (G113_ce.out.below hbx)
           have G114_J11 := Lib.hid (G113_J11.out.below hbx)
           have G114_qg := Lib.hid hr
           clear hbx hr
           refine hK.out _ _ (by with_reducible exact X114.out.keep) (fun hHeld => ?_)
           clear hK K
           try simp only [Act.put, ld, le, lf]
           refine wpAnyH_ready (rs := [8]) (by kernel_rfl) (by simp) ?_
           refine AllReadyH.cons rfl (fun K hK => ?_) AllReadyH.nil
           try simp only [la, lb, lc]
           have v0 := G114_J10.out.c0
           have vf0 := G114_J10.out.f 0
           have v1 := G114_J10.out.c1
           have vf1 := G114_J10.out.f 1
           have v2 := G114_J10.out.c2
           have vf2 := G114_J10.out.f 2
           have v3 := G114_J10.out.c3
           have vf3 := G114_J10.out.f 3
           go_simp
           clear v0 v1 v2 v3 vf0 vf1 vf2 vf3
           obtain ⟨W115, hW115⟩ : ∃ V, put4 W114 W0.heap.size s107 A107 n107 c107 t107 B107 m107 d107 = V := ⟨_, rfl⟩
           refine (congrArg (K _) hW115).mpr ?_
           have X115 := Lib.hid (X114.out.pt G114_J10.out (HX.out.i3.lt) hW115)
           have G115_M := Lib.hid (G114_J10.out.pt hW115)
           have G115_O := Lib.hid (G114_J11.out.pt_far (Ne.symm (Nat.ne_of_lt (Qbx.lt G108_J10.out))) hW115)
           have G115_qf := Lib.hid (G114_qf.out.pt G114_J10.out hW115)
           have G115_qg := Lib.hid (G114_qg.out.pt G114_J10.out hW115)
           clear hW115
           refine hK.out _ _ (by with_reducible exact X115.out.keep) (fun hHeld => ?_)
           clear hK K
           try simp only [Act.put, ld, le, lf]
           refine wpAnyH_ready (rs := [9]) (by kernel_rfl) (by simp) ?_
           refine AllReadyH.cons rfl (fun K hK => ?_) AllReadyH.nil
           try simp only [la, lb, lc]
           have v0 := G115_O.out.c0
           have vf0 := G115_O.out.f 0
           have v1 := G115_O.out.c1
           have vf1 := G115_O.out.f 1
           have v2 := G115_O.out.c2
           have vf2 := G115_O.out.f 2
           have v3 := G115_O.out.c3
           have vf3 := G115_O.out.f 3
           go_simp
           clear v0 v1 v2 v3 vf0 vf1 vf2 vf3
           obtain ⟨W116, hW116⟩ : ∃ V, put4 W115 W108.heap.size s114 A114 n114 c114 t114 B114 m114 d114 = V := ⟨_, rfl⟩
           refine (congrArg (K _) hW116).mpr ?_
           have X116 := Lib.hid (X115.out.pt G115_O.out (X108.out.i3.lt) hW116)
           have G116_M := Lib.hid (G115_O.out.pt hW116)
           have G116_O := Lib.hid (G115_M.out.pt_far (Nat.ne_of_lt (Qbx.lt G108_J10.out)) hW116)
           have G116_qf := Lib.hid (G115_qf.out.pt G115_O.out hW116)
           have G116_qg := Lib.hid (G115_qg.out.pt G115_O.out hW116)
           clear hW116
           refine hK.out _ _ (by with_reducible exact X116.out.keep) (fun hHeld => ?_)
           clear hK K
           try simp only [Act.put, ld, le, lf]
           refine wpAnyH_done (by kernel_rfl) ?_ _
           go_wp2_with fail
           go_meet
           exact ⟨W0.heap.size, W108.heap.size, _, _, _, _, _, _, _, _, _, _, _, _, _, _, _, _, rfl, rfl, ⟨X116.out, G116_O.out, G116_M.out, G116_qf.out, G116_qg.out⟩⟩
        ·
         try simp only [la, lb, lc]
         go_simp
         obtain ⟨W117, hW117⟩ : ∃ V, W107.alloc (Obj.cells #[.bool false, .slice none 0 0, .bool false, .slice none 0 0] 28) = V := ⟨_, rfl⟩
         rw [hW117]
         have X117 := Lib.hid (X107.out.al hW117)
         have G117_J10 := Lib.hid (G107_J10.out.al hW117)
         have G117_fl := Lib.hid (G107_fl.out.al hW117)
         have G117_qf := Lib.hid (G107_qf.out.al hW117)
         have G117_J11 := Lib.hid (Qbx.fresh hW117)
         refine hK.out _ _ (by with_reducible exact X117.out.keep) (fun hHeld => ?_)
         clear hK K
         try simp only [Act.put, ld, le, lf]
         clear hW117
         refine wpAnyH_ready (rs := [4]) (by kernel_rfl) (by simp) ?_
         refine (AllReadyH.cons rfl (fun K hK => ?_) AllReadyH.nil)
         ·
          try simp only [la, lb, lc]
          go_simp
          with_reducible refine (ceil_q (IsQ.mono (l := 700) X117.out.a (by omega)) (by omega) (by omega) ce HCE.out).mono ?_
          rintro e W118 ⟨s118, A118, n118, c118, rfl, hr, hbx⟩
          have X118 := Lib.hid (X117.out.below hbx)
          have G118_J10 := Lib.hid (G117_J10.out.below hbx)
          have G118_fl := Lib.hid (G117_fl.out.below hbx)
          have G118_qf := Lib.hid (G117_qf.out.below hbx)
          have G118_J11 := Lib.hid (G117_J11.out.below hbx)
          have G118_ce := Lib.hid hr
          clear hbx hr
          refine hK.out _ _ (by with_reducible exact X118.out.keep) (fun hHeld => ?_)
          clear hK K
          try simp only [Act.put, ld, le, lf]
          refine wpAnyH_ready (rs := [5]) (by kernel_rfl) (by simp) ?_
          refine (AllReadyH.cons rfl (fun K hK => ?_) AllReadyH.nil)
          ·
           try simp only [la, lb, lc]
           go_simp
           with_reducible refine (whole_q (G118_ce.out.isz HZC.out) (by omega) qg HQG.out).mono ?_
           rintro e W119 ⟨s119, A119, n119, c119, t119, B119, m119, d119, rfl, hr, hbx⟩
           have X119 := Lib.hid (X118.out.below hbx)
           have G119_J10 := Lib.hid (G118_J10.out.below hbx)
           have G119_fl := Lib.hid (G118_fl.out.below hbx)
           have G119_qf := Lib.hid (G118_qf.out.below hbx)
           have G119_J11 := Lib.hid (G118_J11.out.below hbx)
           have G119_ce := Lib.hid (G118_ce.out.below hbx)
           have G119_qg := Lib.hid hr
           clear hbx hr
           refine hK.out _ _ (by with_reducible exact X119.out.keep) (fun hHeld => ?_)
           clear hK K
           try simp only [Act.put, ld, le, lf]
           refine wpAnyH_ready (rs := [8]) (by kernel_rfl) (by simp) ?_
           refine AllReadyH.cons rfl (fun K hK => ?_) AllReadyH.nil
           try simp only [la, lb, lc]
           have v0 := G119_J10.out.c0
           have vf0 := G119_J10.out.f 0
           have v1 := G119_J10.out.c1
           have vf1 := G119_J10.out.f 1
           have v2 := G119_J10.out.c2
           have vf2 := G119_J10.out.f 2
           have v3 := G119_J10.out.c3
           have vf3 := G119_J10.out.f 3
           go_simp
           clear v0 v1 v2 v3 vf0 vf1 vf2 vf3
           obtain ⟨W120, hW120⟩ : ∃ V, put4 W119 W0.heap.size s107 A107 n107 c107 t107 B107 m107 d107 = V := ⟨_, rfl⟩
           refine (congrArg (K _) hW120).mpr ?_
           have X120 := Lib.hid (X119.out.pt G119_J10.out (HX.out.i3.lt) hW120)
           have G120_M := Lib.hid (G119_J10.out.pt hW120)
           have G120_O := Lib.hid (G119_J11.out.pt_far (Ne.symm (Nat.ne_of_lt (Qbx.lt G107_J10.out))) hW120)
           have G120_qf := Lib.hid (G119_qf.out.pt G119_J10.out hW120)
           have G120_qg := Lib.hid (G119_qg.out.pt G119_J10.out hW120)
           clear hW120
           refine hK.out _ _ (by with_reducible exact X120.out.keep) (fun hHeld => ?_)
           clear hK K
           try simp only [Act.put, ld, le, lf]
           refine wpAnyH_ready (rs := [9]) (by kernel_rfl) (by simp) ?_
           refine AllReadyH.cons rfl (fun K hK => ?_) AllReadyH.nil
           try simp only [la, lb, lc]
           have v0 := G120_O.out.c0
           have vf0 := G120_O.out.f 0
           have v1 := G120_O.out.c1
           have vf1 := G120_O.out.f 1
           have v2 := G120_O.out.c2
           have vf2 := G120_O.out.f 2
           have v3 := G120_O.out.c3
           have vf3 := G120_O.out.f 3
           go_simp
           clear v0 v1 v2 v3 vf0 vf1 vf2 vf3
           obtain ⟨W121, hW121⟩ : ∃ V, put4 W120 W107.heap.size s119 A119 n119 c119 t119 B119 m119 d119 = V := ⟨_, rfl⟩
           refine (congrArg (K _) hW121).mpr ?_
           have X121 := Lib.hid (X120.out.pt G120_O.out (X107.out.i3.lt) hW121)
           have G121_M := Lib.hid (G120_O.out.pt hW121)
           have G121_O := Lib.hid (G120_M.out.pt_far (Nat.ne_of_lt (Qbx.lt G107_J10.out)) hW121)
           have G121_qf := Lib.hid (G120_qf.out.pt G120_O.out hW121)
           have G121_qg := Lib.hid (G120_qg.out.pt G120_O.out hW121)
           clear hW121
           refine hK.out _ _ (by with_reducible exact X121.out.keep) (fun hHeld => ?_)
           clear hK K
           try simp only [Act.put, ld, le, lf]
           refine wpAnyH_done (by kernel_rfl) ?_ _
           go_wp2_with fail
           go_meet
           exact ⟨W0.heap.size, W107.heap.size, _, _, _, _, _, _, _, _, _, _, _, _, _, _, _, _, rfl, rfl, ⟨X121.out, G121_O.out, G121_M.out, G121_qf.out, G121_qg.out⟩⟩
       ·
        try simp only [la, lb, lc]
        go_simp
        obtain ⟨W122, hW122⟩ : ∃ V, W106.alloc (Obj.cells #[.bool false, .slice none 0 0, .bool false, .slice none 0 0] 28) = V := ⟨_, rfl⟩
        rw [hW122]
        have X122 := Lib.hid (X106.out.al hW122)
        have G122_J10 := Lib.hid (G106_J10.out.al hW122)
        have G122_fl := Lib.hid (G106_fl.out.al hW122)
        have G122_J11 := Lib.hid (Qbx.fresh hW122)
        refine hK.out _ _ (by with_reducible exact X122.out.keep) (fun hHeld => ?_)
        clear hK K
        try simp only [Act.put, ld, le, lf]
        clear hW122
        refine wpAnyH_ready (rs := [2]) (by kernel_rfl) (by simp) ?_
        refine (AllReadyH.cons rfl (fun K hK => ?_) AllReadyH.nil)
        ·
         try simp only [la, lb, lc]
         go_simp
         with_reducible refine (whole_q (G122_fl.out.isz HZF.out) (by omega) qf HQF.out).mono ?_
         rintro e W123 ⟨s123, A123, n123, c123, t123, B123, m123, d123, rfl, hr, hbx⟩
         have X123 := Lib.hid (X122.out.below hbx)
         have G123_J10 := Lib.hid (G122_J10.out.below hbx)
         have G123_fl := Lib.hid (G122_fl.out.below hbx)
         have G123_J11 := Lib.hid (G122_J11.out.below hbx)
         have G123_qf := Lib.hid hr
         clear hbx hr
         refine hK.out _ _ (by with_reducible exact X123.out.keep) (fun hHeld => ?_)
         clear hK K
         try simp only [Act.put, ld, le, lf]
         refine wpAnyH_ready (rs := [4]) (by kernel_rfl) (by simp) ?_
         refine (AllReadyH.cons rfl (fun K hK => ?_) AllReadyH.nil)
         ·
          try simp only [la, lb, lc]
          go_simp
          with_reducible refine (ceil_q (IsQ.mono (l := 700) X123.out.a (by omega)) (by omega) (by omega) ce HCE.out).mono ?_
          rintro e W124 ⟨s124, A124, n124, c124, rfl, hr, hbx⟩
          have X124 := Lib.hid (X123.out.below hbx)
          have G124_J10 := Lib.hid (G123_J10.out.below hbx)
          have G124_fl := Lib.hid (G123_fl.out.below hbx)
          have G124_J11 := Lib.hid (G123_J11.out.below hbx)
          have G124_qf := Lib.hid (G123_qf.out.below hbx)
          have G124_ce := Lib.hid hr
          clear hbx hr
          refine hK.out _ _ (by with_reducible exact X124.out.keep) (fun hHeld => ?_)
          clear hK K
          try simp only [Act.put, ld, le, lf]
          refine wpAnyH_ready (rs := [5]) (by kernel_rfl) (by simp) ?_
          refine (AllReadyH.cons rfl (fun K hK => ?_) AllReadyH.nil)
          ·
           try simp only [la, lb, lc]
           go_simp
           with_reducible refine (whole_q (G124_ce.out.isz HZC.out) (by omega) qg HQG.out).mono ?_
           rintro e W125 ⟨s125, A125, n125, c125, t125, B125, m125, d125, rfl, hr, hbx⟩
           have X125 := Lib.hid (X124.out.below hbx)
           have G125_J10 := Lib.hid (G124_J10.out.below hbx)
           have G125_fl := Lib.hid (G124_fl.out.below hbx)
           have G125_J11 := Lib.hid (G124_J11.out.below hbx)
           have G125_qf := Lib.hid (G124_qf.out.below hbx)
           have G125_ce := Lib.hid (G124_ce.out.below hbx)
           have G125_qg := Lib.hid hr
           clear hbx hr
           refine hK.out _ _ (by with_reducible exact X125.out.keep) (fun hHeld => ?_)
           clear hK K
           try simp only [Act.put, ld, le, lf]
           refine wpAnyH_ready (rs := [8]) (by kernel_rfl) (by simp) ?_
           refine AllReadyH.cons rfl (fun K hK => ?_) AllReadyH.nil
           try simp only [la, lb, lc]
           have v0 := G125_J10.out.c0
           have vf0 := G125_J10.out.f 0
           have v1 := G125_J10.out.c1
           have vf1 := G125_J10.out.f 1
           have v2 := G125_J10.out.c2
           have vf2 := G125_J10.out.f 2
           have v3 := G125_J10.out.c3
           have vf3 := G125_J10.out.f 3
           go_simp
           clear v0 v1 v2 v3 vf0 vf1 vf2 vf3
           obtain ⟨W126, hW126⟩ : ∃ V, put4 W125 W0.heap.size s123 A123 n123 c123 t123 B123 m123 d123 = V := ⟨_, rfl⟩
           refine (congrArg (K _) hW126).mpr ?_
           have X126 := Lib.hid (X125.out.pt G125_J10.out (HX.out.i3.lt) hW126)
           have G126_M := Lib.hid (G125_J10.out.pt hW126)
           have G126_O := Lib.hid (G125_J11.out.pt_far (Ne.symm (Nat.ne_of_lt (Qbx.lt G106_J10.out))) hW126)
           have G126_qf := Lib.hid (G125_qf.out.pt G125_J10.out hW126)
           have G126_qg := Lib.hid (G125_qg.out.pt G125_J10.out hW126)
           clear hW126
           refine hK.out _ _ (by with_reducible exact X126.out.keep) (fun hHeld => ?_)
           clear hK K
           try simp only [Act.put, ld, le, lf]
           refine wpAnyH_ready (rs := [9]) (by kernel_rfl) (by simp) ?_
           refine AllReadyH.cons rfl (fun K hK => ?_) AllReadyH.nil
           try simp only [la, lb, lc]
           have v0 := G126_O.out.c0
           have vf0 := G126_O.out.f 0
           have v1 := G126_O.out.c1
           have vf1 := G126_O.out.f 1
           have v2 := G126_O.out.c2
           have vf2 := G126_O.out.f 2
           have v3 := G126_O.out.c3
           have vf3 := G126_O.out.f 3
           go_simp
           clear v0 v1 v2 v3 vf0 vf1 vf2 vf3
           obtain ⟨W127, hW127⟩ : ∃ V, put4 W126 W106.heap.size s125 A125 n125 c125 t125 B125 m125 d125 = V := ⟨_, rfl⟩
           refine (congrArg (K _) hW127).mpr ?_
           have X127 := Lib.hid (X126.out.pt G126_O.out (X106.out.i3.lt) hW127)
           have G127_M := Lib.hid (G126_O.out.pt hW127)
           have G127_O := Lib.hid (G126_M.out.pt_far (Nat.ne_of_lt (Qbx.lt G106_J10.out)) hW127)
           have G127_qf := Lib.hid (G126_qf.out.pt G126_O.out hW127)
           have G127_qg := Lib.hid (G126_qg.out.pt G126_O.out hW127)
           clear hW127
           refine hK.out _ _ (by with_reducible exact X127.out.keep) (fun hHeld => ?_)
           clear hK K
           try simp only [Act.put, ld, le, lf]
           refine wpAnyH_done (by kernel_rfl) ?_ _
           go_wp2_with fail
           go_meet
           exact ⟨W0.heap.size, W106.heap.size, _, _, _, _, _, _, _, _, _, _, _, _, _, _, _, _, rfl, rfl, ⟨X127.out, G127_O.out, G127_M.out, G127_qf.out, G127_qg.out⟩⟩
      ·
       try simp only [la, lb, lc]
       go_simp
       obtain ⟨W128, hW128⟩ : ∃ V, W105.alloc (Obj.cells #[.bool false, .slice none 0 0, .bool false, .slice none 0 0] 28) = V := ⟨_, rfl⟩
       rw [hW128]
       have X128 := Lib.hid (X105.out.al hW128)
       have G128_J10 := Lib.hid (G105_J10.out.al hW128)
       have G128_J11 := Lib.hid (Qbx.fresh hW128)
       refine hK.out _ _ (by with_reducible exact X128.out.keep) (fun hHeld => ?_)
       clear hK K
       try simp only [Act.put, ld, le, lf]
       clear hW128
       refine wpAnyH_ready (rs := [1]) (by kernel_rfl) (by simp) ?_
       refine (AllReadyH.cons rfl (fun K hK => ?_) AllReadyH.nil)
       ·
        try simp only [la, lb, lc]
        go_simp
        with_reducible refine (floor_q (IsQ.mono (l := 700) X128.out.a (by omega)) (by omega) (by omega) fl HFL.out).mono ?_
        rintro e W129 ⟨s129, A129, n129, c129, rfl, hr, hbx⟩
        have X129 := Lib.hid (X128.out.below hbx)
        have G129_J10 := Lib.hid (G128_J10.out.below hbx)
        have G129_J11 := Lib.hid (G128_J11.out.below hbx)
        have G129_fl := Lib.hid hr
        clear hbx hr
        refine hK.out _ _ (by with_reducible exact X129.out.keep) (fun hHeld => ?_)
        clear hK K
        try simp only [Act.put, ld, le, lf]
        refine wpAnyH_ready (rs := [2]) (by kernel_rfl) (by simp) ?_
        refine (AllReadyH.cons rfl (fun K hK => ?_) AllReadyH.nil)
        ·
         try simp only [la, lb, lc]
         go_simp
         with_reducible refine (whole_q (G129_fl.out.isz HZF.out) (by omega) qf HQF.out).mono ?_
         rintro e W130 ⟨s130, A130, n130, c130, t130, B130, m130, d130, rfl, hr, hbx⟩
         have X130 := Lib.hid (X129.out.below hbx)
         have G130_J10 := Lib.hid (G129_J10.out.below hbx)
         have G130_J11 := Lib.hid (G129_J11.out.below hbx)
         have G130_fl := Lib.hid (G129_fl.out.below hbx)
         have G130_qf := Lib.hid hr
         clear hbx hr
         refine hK.out _ _ (by with_reducible exact X130.out.keep) (fun hHeld => ?_)
         clear hK K
         try simp only [Act.put, ld, le, lf]
         refine wpAnyH_ready (rs := [4]) (by kernel_rfl) (by simp) ?_
         refine (AllReadyH.cons rfl (fun K hK => ?_) AllReadyH.nil)
         ·
          try simp only [la, lb, lc]
          go_simp
          with_reducible refine (ceil_q (IsQ.mono (l := 700) X130.out.a (by omega)) (by omega) (by omega) ce HCE.out).mono ?_
          rintro e W131 ⟨s131, A131, n131, c131, rfl, hr, hbx⟩
          have X131 := Lib.hid (X130.out.below hbx)
          have G131_J10 := Lib.hid (G130_J10.out.below hbx)
          have G131_J11 := Lib.hid (G130_J11.out.below hbx)
          have G131_fl := Lib.hid (G130_fl.out.below hbx)
          have G131_qf := Lib.hid (G130_qf.out.below hbx)
          have G131_ce := Lib.hid hr
          clear hbx hr
          refine hK.out _ _ (by with_reducible exact X131.out.keep) (fun hHeld => ?_)
          clear hK K
          try simp only [Act.put, ld, le, lf]
          refine wpAnyH_ready (rs := [5]) (by kernel_rfl) (by simp) ?_
          refine (AllReadyH.cons rfl (fun K hK => ?_) AllReadyH.nil)
          ·
           try simp only [la, lb, lc]
           go_simp
           with_reducible refine (whole_q (G131_ce.out.isz HZC.out) (by omega) qg HQG.out).mono ?_
           rintro e W132 ⟨s132, A132, n132, c132, t132, B132, m132, d132, rfl, hr, hbx⟩
           have X132 := Lib.hid (X131.out.below hbx)
           have G132_J10 := Lib.hid (G131_J10.out.below hbx)
           have G132_J11 := Lib.hid (G131_J11.out.below hbx)
           have G132_fl := Lib.hid (G131_fl.out.below hbx)
           have G132_qf := Lib.hid (G131_qf.out.below hbx)
           have G132_ce := Lib.hid (G131_ce.out.below hbx)
           have G132_qg := Lib.hid hr
           clear hbx hr
           refine hK.out _ _ (by with_reducible exact X132.out.keep) (fun hHeld => ?_)
           clear hK K
           try simp only [Act.put, ld, le, lf]
           refine wpAnyH_ready (rs := [8]) (by kernel_rfl) (by simp) ?_
           refine AllReadyH.cons rfl (fun K hK => ?_) AllReadyH.nil
           try simp only [la, lb, lc]
           have v0 := G132_J10.out.c0
           have vf0 := G132_J10.out.f 0
           have v1 := G132_J10.out.c1
           have vf1 := G132_J10.out.f 1
           have v2 := G132_J10.out.c2
           have vf2 := G132_J10.out.f 2
           have v3 := G132_J10.out.c3
           have vf3 := G132_J10.out.f 3
           go_simp
           clear v0 v1 v2 v3 vf0 vf1 vf2 vf3
           obtain ⟨W133, hW133⟩ : ∃ V, put4 W132 W0.heap.size s130 A130 n130 c130 t130 B130 m130 d130 = V := ⟨_, rfl⟩
           refine (congrArg (K _) hW133).mpr ?_
           have X133 := Lib.hid (X132.out.pt G132_J10.out (HX.out.i3.lt) hW133)
           have G133_M := Lib.hid (G132_J10.out.pt hW133)
           have G133_O := Lib.hid (G132_J11.out.pt_far (Ne.symm (Nat.ne_of_lt (Qbx.lt G105_J10.out))) hW133)
           have G133_qf := Lib.hid (G132_qf.out.pt G132_J10.out hW133)
           have G133_qg := Lib.hid (G132_qg.out.pt G132_J10.out hW133)
           clear hW133
           refine hK.out _ _ (by with_reducible exact X133.out.keep) (fun hHeld => ?_)
           clear hK K
           try simp only [Act.put, ld, le, lf]
           refine wpAnyH_ready (rs := [9]) (by kernel_rfl) (by simp) ?_
           refine AllReadyH.cons rfl (fun K hK => ?_) AllReadyH.nil
           try simp only [la, lb, lc]
           have v0 := G133_O.out.c0
           have vf0 := G133_O.out.f 0
           have v1 := G133_O.out.c1
           have vf1 := G133_O.out.f 1
           have v2 := G133_O.out.c2
           have vf2 := G133_O.out.f 2
           have v3 := G133_O.out.c3
           have vf3 := G133_O.out.f 3
           go_simp
           clear v0 v1 v2 v3 vf0 vf1 vf2 vf3
           obtain ⟨W134, hW134⟩ : ∃ V, put4 W133 W105.heap.size s132 A132 n132 c132 t132 B132 m132 d132 = V := ⟨_, rfl⟩
           refine (congrArg (K _) hW134).mpr ?_
           have X134 := Lib.hid (X133.out.pt G133_O.out (X105.out.i3.lt) hW134)
           have G134_M := Lib.hid (G133_O.out.pt hW134)
           have G134_O := Lib.hid (G133_M.out.pt_far (Nat.ne_of_lt (Qbx.lt G105_J10.out)) hW134)
           have G134_qf := Lib.hid (G133_qf.out.pt G133_O.out hW134)
           have G134_qg := Lib.hid (G133_qg.out.pt G133_O.out hW134)
           clear hW134
           refine hK.out _ _ (by with_reducible exact X134.out.keep) (fun hHeld => ?_)
           clear hK K
           try simp only [Act.put, ld, le, lf]
           refine wpAnyH_done (by kernel_rfl) ?_ _
           go_wp2_with fail
           go_meet
           exact ⟨W0.heap.size, W105.heap.size, _, _, _, _, _, _, _, _, _, _, _, _, _, _, _, _, rfl, rfl, ⟨X134.out, G134_O.out, G134_M.out, G134_qf.out, G134_qg.out⟩⟩
     ·
      try simp only [la, lb, lc]
      go_simp
      obtain ⟨W135, hW135⟩ : ∃ V, W0.alloc (Obj.cells #[.bool false, .slice none 0 0, .bool false, .slice none 0 0] 28) = V := ⟨_, rfl⟩
      rw [hW135]
      have X135 := Lib.hid (HX.out.al hW135)
      have G135_J11 := Lib.hid (Qbx.fresh hW135)
      refine hK.out _ _ (by with_reducible exact X135.out.keep) (fun hHeld => ?_)
      clear hK K
      try simp only [Act.put, ld, le, lf]
      clear hW135
      refine wpAnyH_ready (rs := [1, 6]) (by kernel_rfl) (by simp) ?_
      refine (AllReadyH.cons rfl (fun K hK => ?_) (AllReadyH.cons rfl (fun K hK => ?_) AllReadyH.nil))
      ·
       try simp only [la, lb, lc]
       go_simp
       with_reducible refine (floor_q (IsQ.mono (l := 700) X135.out.a (by omega)) (by omega) (by omega) fl HFL.out).mono ?_
       rintro e W136 ⟨s136, A136, n136, c136, rfl, hr, hbx⟩
       have X136 := Lib.hid (X135.out.below hbx)
       have G136_J11 := Lib.hid (G135_J11.out.below hbx)
       have G136_fl := Lib.hid hr
       clear hbx hr
       refine hK.out _ _ (by with_reducible exact X136.out.keep) (fun hHeld => ?_)
       clear hK K
       try simp only [Act.put, ld, le, lf]
       refine wpAnyH_ready (rs := [2, 6]) (by kernel_rfl) (by simp) ?_
       refine (AllReadyH.cons rfl (fun K hK => ?_) (AllReadyH.cons rfl (fun K hK => ?_) AllReadyH.nil))
       ·
        try simp only [la, lb, lc]
        go_simp
        with_reducible refine (whole_q (G136_fl.out.isz HZF.out) (by omega) qf HQF.out).mono ?_
        rintro e W137 ⟨s137, A137, n137, c137, t137, B137, m137, d137, rfl, hr, hbx⟩
        have X137 := Lib.hid (X136.out.below hbx)
        have G137_J11 := Lib.hid (G136_J11.out.below hbx)
        have G137_fl := Lib.hid (G136_fl.out.below hbx)
        have G137_qf := Lib.hid hr
        clear hbx hr
        refine hK.out _ _ (by with_reducible exact X137.out.keep) (fun hHeld => ?_)
        clear hK K
        try simp only [Act.put, ld, le, lf]
        refine wpAnyH_ready (rs := [4, 6]) (by kernel_rfl) (by simp) ?_
        refine (AllReadyH.cons rfl (fun K hK => ?_) (AllReadyH.cons rfl (fun K hK => ?_) AllReadyH.nil))
        ·
         try simp only [la, lb, lc]
         go_simp
         with_reducible refine (ceil_q (IsQ.mono (l := 700) X137.out.a (by omega)) (by omega) (by omega) ce HCE.out).mono ?_
         rintro e W138 ⟨s138, A138, n138, c138, rfl, hr, hbx⟩
         have X138 := Lib.hid (X137.out.below hbx)
         have G138_J11 := Lib.hid (G137_J11.out.below hbx)
         have G138_fl := Lib.hid (G137_fl.out.below hbx)
         have G138_qf := Lib.hid (G137_qf.out.below hbx)
         have G138_ce := Lib.hid hr
         clear hbx hr
         refine hK.out _ _ (by with_reducible exact X138.out.keep) (fun hHeld => ?_)
         clear hK K
         try simp only [Act.put, ld, le, lf]
         refine wpAnyH_ready (rs := [5, 6]) (by kernel_rfl) (by simp) ?_
         refine (AllReadyH.cons rfl (fun K hK => ?_) (AllReadyH.cons rfl (fun K hK => ?_) AllReadyH.nil))
         ·
          try simp only [la, lb, lc]
          go_simp
          with_reducible refine (whole_q (G138_ce.out.isz HZC.out) (by omega) qg HQG.out).mono ?_
          rintro e W139 ⟨s139, A139, n139, c139, t139, B139, m139, d139, rfl, hr, hbx⟩
          have X139 := Lib.hid (X138.out.below hbx)
          have G139_J11 := Lib.hid (G138_J11.out.below hbx)
          have G139_fl := Lib.hid (G138_fl.out.below hbx)
          have G139_qf := Lib.hid (G138_qf.out.below hbx)
          have G139_ce := Lib.hid (G138_ce.out.below hbx)
          have G139_qg := Lib.hid hr
          clear hbx hr
          refine hK.out _ _ (by with_reducible exact X139.out.keep) (fun hHeld => ?_)
          clear hK K
          try simp only [Act.put, ld, le, lf]
          refine wpAnyH_ready (rs := [6]) (by kernel_rfl) (by simp) ?_
          refine (AllReadyH.cons rfl (fun K hK => ?_) AllReadyH.nil)
          ·
           try simp only [la, lb, lc]
           go_simp
           obtain ⟨W140, hW140⟩ : ∃ V, W139.alloc (Obj.cells #[.bool false, .slice none 0 0, .bool false, .slice none 0 0] 28) = V := ⟨_, rfl⟩
           rw [hW140]
           have X140 := Lib.hid (X139.out.al hW140)
           have G140_J11 := Lib.hid (G139_J11.out.al hW140)
           have G140_fl := Lib.hid (G139_fl.out.al hW140)
           have G140_qf := Lib.hid (G139_qf.out.al hW140)
           have G140_ce := Lib.hid (G139_ce.out.al hW140)
           have G140_qg := Lib.hid (G139_qg.out.al hW140)
           have G140_J10 := Lib.hid (Qbx.fresh hW140)
           refine hK.out _ _ (by with_reducible exact X140.out.keep) (fun hHeld => ?_)
           clear hK K
           try simp only [Act.put, ld, le, lf]
           clear hW140
           refine wpAnyH_ready (rs := [8]) (by kernel_rfl) (by simp) ?_
           refine AllReadyH.cons rfl (fun K hK => ?_) AllReadyH.nil
           try simp only [la, lb, lc]
           have v0 := G140_J10.out.c0
           have vf0 := G140_J10.out.f 0
           have v1 := G140_J10.out.c1
           have vf1 := G140_J10.out.f 1
           have v2 := G140_J10.out.c2
           have vf2 := G140_J10.out.f 2
           have v3 := G140_J10.out.c3
           have vf3 := G140_J10.out.f 3
           go_simp
           clear v0 v1 v2 v3 vf0 vf1 vf2 vf3
           obtain ⟨W141, hW141⟩ : ∃ V, put4 W140 W139.heap.size s137 A137 n137 c137 t137 B137 m137 d137 = V := ⟨_, rfl⟩
           refine (congrArg (K _) hW141).mpr ?_
           have X141 := Lib.hid (X140.out.pt G140_J10.out (X139.out.i3.lt) hW141)
           have G141_M := Lib.hid (G140_J10.out.pt hW141)
           have G141_O := Lib.hid (G140_J11.out.pt_far (Ne.symm (Nat.ne_of_gt (Qbx.lt G139_J11.out))) hW141)
           have G141_qf := Lib.hid (G140_qf.out.pt G140_J10.out hW141)
           have G141_qg := Lib.hid (G140_qg.out.pt G140_J10.out hW141)
           clear hW141
           refine hK.out _ _ (by with_reducible exact X141.out.keep) (fun hHeld => ?_)
           clear hK K
           try simp only [Act.put, ld, le, lf]
           refine wpAnyH_ready (rs := [9]) (by kernel_rfl) (by simp) ?_
           refine AllReadyH.cons rfl (fun K hK => ?_) AllReadyH.nil
           try simp only [la, lb, lc]
           have v0 := G141_O.out.c0
           have vf0 := G141_O.out.f 0
           have v1 := G141_O.out.c1
           have vf1 := G141_O.out.f 1
           have v2 := G141_O.out.c2
           have vf2 := G141_O.out.f 2
           have v3 := G141_O.out.c3
           have vf3 := G141_O.out.f 3
           go_simp
           clear v0 v1 v2 v3 vf0 vf1 vf2 vf3
           obtain ⟨W142, hW142⟩ : ∃ V, put4 W141 W0.heap.size s139 A139 n139 c139 t139 B139 m139 d139 = V := ⟨_, rfl⟩
           refine (congrArg (K _) hW142).mpr ?_
           have X142 := Lib.hid (X141.out.pt G141_O.out (HX.out.i3.lt) hW142)
           have G142_M := Lib.hid (G141_O.out.pt hW142)
           have G142_O := Lib.hid (G141_M.out.pt_far (Nat.ne_of_gt (Qbx.lt G139_J11.out)) hW142)
           have G142_qf := Lib.hid (G141_qf.out.pt G141_O.out hW142)
           have G142_qg := Lib.hid (G141_qg.out.pt G141_O.out hW142)
           clear hW142
           refine hK.out _ _ (by with_reducible exact X142.out.keep) (fun hHeld => ?_)
           clear hK K
           try simp only [Act.put, ld, le, lf]
           refine wpAnyH_done (by kernel_rfl) ?_ _
           go_wp2_with fail
           go_meet
           exact ⟨W139.heap.size, W0.heap.size, _, _, _, _, _, _, _, _, _, _, _, _, _, _, _, _, rfl, rfl, ⟨X142.out, G142_O.out, G142_M.out, G142_qf.out, G142_qg.out⟩⟩
         ·
          try simp only [la, lb, lc]
          go_simp
          obtain ⟨W143, hW143⟩ : ∃ V, W138.alloc (Obj.cells #[.bool false, .slice none 0 0, .bool false, .slice none 0 0] 28) = V := ⟨_, rfl⟩
          rw [hW143]
          have X143 := Lib.hid (X138.out.al hW143)
          have G143_J11 := Lib.hid (G138_J11.out.al hW143)
          have G143_fl := Lib.hid (G138_fl.out.al hW143)
          have G143_qf := Lib.hid (G138_qf.out.al hW143)
          have G143_ce := Lib.hid (G138_ce.out.al hW143)
          have G143_J10 := Lib.hid (Qbx.fresh hW143)
          refine hK.out _ _ (by with_reducible exact X143.out.keep) (fun hHeld => ?_)
          clear hK K
          try simp only [Act.put, ld, le, lf]
          clear hW143
          refine wpAnyH_ready (rs := [5]) (by kernel_rfl) (by simp) ?_
          refine (AllReadyH.cons rfl (fun K hK => ?_) AllReadyH.nil)
          ·
           try simp only [la, lb, lc]
           go_simp
           with_reducible refine (whole_q (G143_ce.out.isz HZC.out) (by omega) qg HQG.out).mono ?_
           rintro e W144 ⟨s144, A144, n144, c144, t144, B144, m144, d144, rfl, hr, hbx⟩
           have X144 := Lib.hid (X143.out.below hbx)
           have G144_J11 := Lib.hid (G143_J11.out.below hbx)
           have G144_fl := Lib.hid (G143_fl.out.below hbx)
           have G144_qf := Lib.hid (G143_qf.out.below hbx)
           have G144_ce := Lib.hid (G143_ce.out.below hbx)
           have G144_J10 := Lib.hid (G143_J10.out.below hbx)
           have G144_qg := Lib.hid hr
           clear hbx hr
           refine hK.out _ _ (by with_reducible exact X144.out.keep) (fun hHeld => ?_)
           clear hK K
           try simp only [Act.put, ld, le, lf]
           refine wpAnyH_ready (rs := [8]) (by kernel_rfl) (by simp) ?_
           refine AllReadyH.cons rfl (fun K hK => ?_) AllReadyH.nil
           try simp only [la, lb, lc]
           have v0 := G144_J10.out.c0
           have vf0 := G144_J10.out.f 0
           have v1 := G144_J10.out.c1
           have vf1 := G144_J10.out.f 1
           have v2 := G144_J10.out.c2
           have vf2 := G144_J10.out.f 2
           have v3 := G144_J10.out.c3
           have vf3 := G144_J10.out.f 3
           go_simp
           clear v0 v1 v2 v3 vf0 vf1 vf2 vf3
           obtain ⟨W145, hW145⟩ : ∃ V, put4 W144 W138.heap.size s137 A137 n137 c137 t137 B137 m137 d137 = V := ⟨_, rfl⟩
           refine (congrArg (K _) hW145).mpr ?_
           have X145 := Lib.hid (X144.out.pt G144_J10.out (X138.out.i3.lt) hW145)
           have G145_M := Lib.hid (G144_J10.out.pt hW145)
           have G145_O := Lib.hid (G144_J11.out.pt_far (Ne.symm (Nat.ne_of_gt (Qbx.lt G138_J11.out))) hW145)
           have G145_qf := Lib.hid (G144_qf.out.pt G144_J10.out hW145)
           have G145_qg := Lib.hid (G144_qg.out.pt G144_J10.out hW145)
           clear hW145
           refine hK.out _ _ (by with_reducible exact X145.out.keep) (fun hHeld => ?_)
           clear hK K
           try simp only [Act.put, ld, le, lf]
           refine wpAnyH_ready (rs := [9]) (by kernel_rfl) (by simp) ?_
           refine AllReadyH.cons rfl (fun K hK => ?_) AllReadyH.nil
           try simp only [la, lb, lc]
           have v0 := G145_O.out.c0
           have vf0 := G145_O.out.f 0
           have v1 := G145_O.out.c1
           have vf1 := G145_O.out.f 1
           have v2 := G145_O.out.c2
           have vf2 := G145_O.out.f 2
           have v3 := G145_O.out.c3
           have vf3 := G145_O.out.f 3
           go_simp
           clear v0 v1 v2 v3 vf0 vf1 vf2 vf3
           obtain ⟨W146, hW146⟩ : ∃ V, put4 W145 W0.heap.size s144 A144 n144 c144 t144 B144 m144 d144 = V := ⟨_, rfl⟩
           refine (congrArg (K _) hW146).mpr ?_
           have X146 := Lib.hid (X145.out.pt G145_O.out (HX.out.i3.lt) hW146)
           have G146_M := Lib.hid (G145_O.out.pt hW146)
           have G146_O := Lib.hid (G145_M.out.pt_far (Nat.ne_of_gt (Qbx.lt G138_J11.out)) hW146)
           have G146_qf := Lib.hid (G145_qf.out.pt G145_O.out hW146)
           have G146_qg := Lib.hid (G145_qg.out.pt G145_O.out hW146)
           clear hW146
           refine hK.out _ _ (by with_reducible exact X146.out.keep) (fun hHeld => ?_)
           clear hK K
           try simp only [Act.put, ld, le, lf]
           refine wpAnyH_done (by kernel_rfl) ?_ _
           go_wp2_with fail
           go_meet
           exact ⟨W138.heap.size, W0.heap.size, _, _, _, _, _, _, _, _, _, _, _, _, _, _, _, _, rfl, rfl, ⟨X146.out, G146_O.out, G146_M.out, G146_qf.out, G146_qg.out⟩⟩
        ·
         try simp only [la, lb, lc]
         go_simp
         obtain ⟨W147, hW147⟩ : ∃ V, W137.alloc (Obj.cells #[.bool false, .slice none 0 0, .bool false, .slice none 0 0] 28) = V := ⟨_, rfl⟩
         rw [hW147]
         have X147 := Lib.hid (X137.out.al hW147)
         have G147_J11 := Lib.hid (G137_J11.out.al hW147)
         have G147_fl := Lib.hid (G137_fl.out.al hW147)
         have G147_qf := Lib.hid (G137_qf.out.al hW147)
         have G147_J10 := Lib.hid (Qbx.fresh hW147)
         refine hK.out _ _ (by with_reducible exact X147.out.keep) (fun hHeld => ?_)
         clear hK K
         try simp only [Act.put, ld, le, lf]
         clear hW147
         refine wpAnyH_ready (rs := [4]) (by kernel_rfl) (by simp) ?_
         refine (AllReadyH.cons rfl (fun K hK => ?_) AllReadyH.nil)
         ·
          try simp only [la, lb, lc]
          go_simp
          with_reducible refine (ceil_q (IsQ.mono (l := 700) X147.out.a (by omega)) (by omega) (by omega) ce HCE.out).mono ?_
          rintro e W148 ⟨s148, A148, n148, c148, rfl, hr, hbx⟩
          have X148 := Lib.hid (X147.out.below hbx)
          have G148_J11 := Lib.hid (G147_J11.out.below hbx)
          have G148_fl := Lib.hid (G147_fl.out.below hbx)
          have G148_qf := Lib.hid (G147_qf.out.below hbx)
          have G148_J10 := Lib.hid (G147_J10.out.below hbx)
          have G148_ce := Lib.hid hr
          clear hbx hr
          refine hK.out _ _ (by with_reducible exact X148.out.keep) (fun hHeld => ?_)
          clear hK K
          try simp only [Act.put, ld, le, lf]
          refine wpAnyH_ready (rs := [5]) (by kernel_rfl) (by simp) ?_
          refine (AllReadyH.cons rfl (fun K hK => ?_) AllReadyH.nil)
          ·
           try simp only [la, lb, lc]
           go_simp
           with_reducible refine (whole_q (G148_ce.out.isz HZC.out) (by omega) qg HQG.out).mono ?_
           rintro e W149 ⟨s149, A149, n149, c149, t149, B149, m149, d149, rfl, hr, hbx⟩
           have X149 := Lib.hid (X148.out.below hbx)
           have G149_J11 := Lib.hid (G148_J11.out.below hbx)
           have G149_fl := Lib.hid (G148_fl.out.below hbx)
           have G149_qf := Lib.hid (G148_qf.out.below hbx)
           have G149_J10 := Lib.hid (G148_J10.out.below hbx)
           have G149_ce := Lib.hid (G148_ce.out.below hbx)
           have G149_qg := Lib.hid hr
           clear hbx hr
           refine hK.out _ _ (by with_reducible exact X149.out.keep) (fun hHeld => ?_)
           clear hK K
           try simp only [Act.put, ld, le, lf]
           refine wpAnyH_ready (rs := [8]) (by kernel_rfl) (by simp) ?_
           refine AllReadyH.cons rfl (fun K hK => ?_) AllReadyH.nil
           try simp only [la, lb, lc]
           have v0 := G149_J10.out.c0
           have vf0 := G149_J10.out.f 0
           have v1 := G149_J10.out.c1
           have vf1 := G149_J10.out.f 1
           have v2 := G149_J10.out.c2
           have vf2 := G149_J10.out.f 2
           have v3 := G149_J10.out.c3
           have vf3 := G149_J10.out.f 3
           go_simp
           clear v0 v1 v2 v3 vf0 vf1 vf2 vf3
           obtain ⟨W150, hW150⟩ : ∃ V, put4 W149 W137.heap.size s137 A137 n137 c137 t137 B137 m137 d137 = V := ⟨_, rfl⟩
           refine (congrArg (K _) hW150).mpr ?_
           have X150 := Lib.hid (X149.out.pt G149_J10.out (X137.out.i3.lt) hW150)
           have G150_M := Lib.hid (G149_J10.out.pt hW150)
           have G150_O := Lib.hid (G149_J11.out.pt_far (Ne.symm (Nat.ne_of_gt (Qbx.lt G137_J11.out))) hW150)
           have G150_qf := Lib.hid (G149_qf.out.pt G149_J10.out hW150)
           have G150_qg := Lib.hid (G149_qg.out.pt G149_J10.out hW150)
           clear hW150
           refine hK.out _ _ (by with_reducible exact X150.out.keep) (fun hHeld => ?_)
           clear hK K
           try simp only [Act.put, ld, le, lf]
           refine wpAnyH_ready (rs := [9]) (by kernel_rfl) (by simp) ?_
           refine AllReadyH.cons rfl (fun K hK => ?_) AllReadyH.nil
           try simp only [la, lb, lc]
           have v0 := G150_O.out.c0
           have vf0 := G150_O.out.f 0
           have v1 := G150_O.out.c1
           have vf1 := G150_O.out.f 1
           have v2 := G150_O.out.c2
           have vf2 := G150_O.out.f 2
           have v3 := G150_O.out.c3
           have vf3 := G150_O.out.f 3
           go_simp
           clear v0 v1 v2 v3 vf0 vf1 vf2 vf3
           obtain ⟨W151, hW151⟩ : ∃ V, put4 W150 W0.heap.size s149 A149 n149 c149 t149 B149 m149 d149 = V := ⟨_, rfl⟩
           refine (congrArg (K _) hW151).mpr ?_
           have X151 := Lib.hid (X150.out.pt G150_O.out (HX.out.i3.lt) hW151)
           have G151_M := Lib.hid (G150_O.out.pt hW151)
           have G151_O := Lib.hid (G150_M.out.pt_far (Nat.ne_of_gt (Qbx.lt G137_J11.out)) hW151)
           have G151_qf := Lib.hid (G150_qf.out.pt G150_O.out hW151)
           have G151_qg := Lib.hid (G150_qg.out.pt G150_O.out hW151)
           clear hW151
           refine hK.out _ _ (by with_reducible exact X151.out.keep) (fun hHeld => ?_)
           clear hK K
           try simp only [Act.put, ld, le, lf]
           refine wpAnyH_done (by kernel_rfl) ?_ _
           go_wp2_with fail
           go_meet
           exact ⟨W137.heap.size, W0.heap.size, _, _, _, _, _, _, _, _, _, _, _, _, _, _, _, _, rfl, rfl, ⟨X151.out, G151_O.out, G151_M.out, G151_qf.out, G151_qg.out⟩⟩
       ·
        try simp only [la, lb, lc]
        go_simp
        obtain ⟨W152, hW152⟩ : ∃ V, W136.alloc (Obj.cells #[.bool false, .slice none 0 0, .bool false, .slice none 0 0] 28) = V := ⟨_, rfl⟩
        rw [hW152]
        have X152 := Lib.hid (X136.out.al hW152)
        have G152_J11 := Lib.hid (G136_J11.out.al hW152)
        have G152_fl := Lib.hid (G136_fl.out.al hW152)
        have G152_J10 := Lib.hid (Qbx.fresh hW152)
        refine hK.out _ _ (by with_reducible exact X152.out.keep) (fun hHeld => ?_)
        clear hK K
        try simp only [Act.put, ld, le, lf]
        clear hW152
        refine wpAnyH_ready (rs := [2]) (by kernel_rfl) (by simp) ?_
        refine (AllReadyH.cons rfl (fun K hK => ?_) AllReadyH.nil)
        ·
         try simp only [la, lb, lc]
         go_simp
         with_reducible refine (whole_q (G152_fl.out.isz HZF.out) (by omega) qf HQF.out).mono ?_
         rintro e W153 ⟨s153, A153, n153, c153, t153, B153, m153, d153, rfl, hr, hbx⟩
         have X153 := Lib.hid (X152.out.below hbx)
         have G153_J11 := Lib.hid (G152_J11.out.below hbx)
         have G153_fl := Lib.hid (G152_fl.out.below hbx)
         have G153_J10 := Lib.hid (G152_J10.out.below hbx)
         have G153_qf := Lib.hid hr
         clear hbx hr
         refine hK.out _ _ (by with_reducible exact X153.out.keep) (fun hHeld => ?_)
         clear hK K
         try simp only [Act.put, ld, le, lf]
         refine wpAnyH_ready (rs := [4]) (by kernel_rfl) (by simp) ?_
         refine (AllReadyH.cons rfl (fun K hK => ?_) AllReadyH.nil)
         ·
          try simp only [la, lb, lc]
          go_simp
          with_reducible refine (ceil_q (IsQ.mono (l := 700) X153.out.a (by omega)) (by omega) (by omega) ce HCE.out).mono ?_
          rintro e W154 ⟨s154, A154, n154, c154, rfl, hr, hbx⟩
          have X154 := Lib.hid (X153.out.below hbx)
          have G154_J11 := Lib.hid (G153_J11.out.below hbx)
          have G154_fl := Lib.hid (G153_fl.out.below hbx)
          have G154_J10 := Lib.hid (G153_J10.out.below hbx)
          have G154_qf := Lib.hid (G153_qf.out.below hbx)
          have G154_ce := Lib.hid hr
          clear hbx hr
          refine hK.out _ _ (by with_reducible exact X154.out.keep) (fun hHeld => ?_)
          clear hK K
          try simp only [Act.put, ld, le, lf]
          refine wpAnyH_ready (rs := [5]) (by kernel_rfl) (by simp) ?_
          refine (AllReadyH.cons rfl (fun K hK => ?_) AllReadyH.nil)
          ·
           try simp only [la, lb, lc]
           go_simp
           with_reducible refine (whole_q (G154_ce.out.isz HZC.out) (by omega) qg HQG.out).mono ?_
           rintro e W155 ⟨s155, A155, n155, c155, t155, B155, m155, d155, rfl, hr, hbx⟩
           have X155 := Lib.hid (X154.out.below hbx)
           have G155_J11 := Lib.hid (G154_J11.out.below hbx)
           have G155_fl := Lib.hid (G154_fl.out.below hbx)
           have G155_J10 := Lib.hid (G154_J10.out.below hbx)
           have G155_qf := Lib.hid (G154_qf.out.below hbx)
           have G155_ce := Lib.hid (G154_ce.out.below hbx)
           have G155_qg := Lib.hid hr
           clear hbx hr
           refine hK.out _ _ (by with_reducible exact X155.out.keep) (fun hHeld => ?_)
           clear hK K
           try simp only [Act.put, ld, le, lf]
           refine wpAnyH_ready (rs := [8]) (by kernel_rfl) (by simp) ?_
           refine AllReadyH.cons rfl (fun K hK => ?_) AllReadyH.nil
           try simp only [la, lb, lc]
           have v0 := G155_J10.out.c0
           have vf0 := G155_J10.out.f 0
           have v1 := G155_J10.out.c1
           have vf1 := G155_J10.out.f 1
           have v2 := G155_J10.out.c2
           have vf2 := G155_J10.out.f 2
           have v3 := G155_J10.out.c3
           have vf3 := G155_J10.out.f 3
           go_simp
           clear v0 v1 v2 v3 vf0 vf1 vf2 vf3
           obtain ⟨W156, hW156⟩ : ∃ V, put4 W155 W136.heap.size s153 A153 n153 c153 t153 B153 m153 d153 = V := ⟨_, rfl⟩
           refine (congrArg (K _) hW156).mpr ?_
           have X156 := Lib.hid (X155.out.pt G155_J10.out (X136.out.i3.lt) hW156)
           have G156_M := Lib.hid (G155_J10.out.pt hW156)
           have G156_O := Lib.hid (G155_J11.out.pt_far (Ne.symm (Nat.ne_of_gt (Qbx.lt G136_J11.out))) hW156)
           have G156_qf := Lib.hid (G155_qf.out.pt G155_J10.out hW156)
           have G156_qg := Lib.hid (G155_qg.out.pt G155_J10.out hW156)
           clear hW156
           refine hK.out _ _ (by with_reducible exact X156.out.keep) (fun hHeld => ?_)
           clear hK K
           try simp only [Act.put, ld, le, lf]
           refine wpAnyH_ready (rs := [9]) (by kernel_rfl) (by simp) ?_
           refine AllReadyH.cons rfl (fun K hK => ?_) AllReadyH.nil
           try simp only [la, lb, lc]
           have v0 := G156_O.out.c0
           have vf0 := G156_O.out.f 0
           have v1 := G156_O.out.c1
           have vf1 := G156_O.out.f 1
           have v2 := G156_O.out.c2
           have vf2 := G156_O.out.f 2
           have v3 := G156_O.out.c3
           have vf3 := G156_O.out.f 3
           go_simp
           clear v0 v1 v2 v3 vf0 vf1 vf2 vf3
           obtain ⟨W157, hW157⟩ : ∃ V, put4 W156 W0.heap.size s155 A155 n155 c155 t155 B155 m155 d155 = V := ⟨_, rfl⟩
           refine (congrArg (K _) hW157).mpr ?_
           have X157 := Lib.hid (X156.out.pt G156_O.out (HX.out.i3.lt) hW157)
           have G157_M := Lib.hid (G156_O.out.pt hW157)
           have G157_O := Lib.hid (G156_M.out.pt_far (Nat.ne_of_gt (Qbx.lt G136_J11.out)) hW157)
           have G157_qf := Lib.hid (G156_qf.out.pt G156_O.out hW157)
           have G157_qg := Lib.hid (G156_qg.out.pt G156_O.out hW157)
           clear hW157
           refine hK.out _ _ (by with_reducible exact X157.out.keep) (fun hHeld => ?_)
           clear hK K
           try simp only [Act.put, ld, le, lf]
           refine wpAnyH_done (by kernel_rfl) ?_ _
           go_wp2_with fail
           go_meet
           exact ⟨W136.heap.size, W0.heap.size, _, _, _, _, _, _, _, _, _, _, _, _, _, _, _, _, rfl, rfl, ⟨X157.out, G157_O.out, G157_M.out, G157_qf.out, G157_qg.out⟩⟩
      ·
       try simp only [la, lb, lc]
       go_simp
       obtain ⟨W158, hW158⟩ : ∃ V, W135.alloc (Obj.cells #[.bool false, .slice none 0 0, .bool false, .slice none 0 0] 28) = V := ⟨_, rfl⟩
       rw [hW158]
       have X158 := Lib.hid (X135.out.al hW158)
       have G158_J11 := Lib.hid (G135_J11.out.al hW158)
       have G158_J10 := Lib.hid (Qbx.fresh hW158)
       refine hK.out _ _ (by with_reducible exact X158.out.keep) (fun hHeld => ?_)
       clear hK K
       try simp only [Act.put, ld, le, lf]
       clear hW158
       refine wpAnyH_ready (rs := [1]) (by kernel_rfl) (by simp) ?_
       refine (AllReadyH.cons rfl (fun K hK => ?_) AllReadyH.nil)
       ·
        try simp only [la, lb, lc]
        go_simp
        with_reducible refine (floor_q (IsQ.mono (l := 700) X158.out.a (by omega)) (by omega) (by omega) fl HFL.out).mono ?_
        rintro e W159 ⟨s159, A159, n159, c159, rfl, hr, hbx⟩
        have X159 := Lib.hid (X158.out.below hbx)
        have G159_J11 := Lib.hid (G158_J11.out.below hbx)
        have G159_J10 := Lib.hid (G158_J10.out.below hbx)
        have G159_fl := Lib.hid hr
        clear hbx hr
        refine hK.out _ _ (by with_reducible exact X159.out.keep) (fun hHeld => ?_)
        clear hK K
        try simp only [Act.put, ld, le, lf]
        refine wpAnyH_ready (rs := [2]) (by kernel_rfl) (by simp) ?_
        refine (AllReadyH.cons rfl (fun K hK => ?_) AllReadyH.nil)
        ·
         try simp only [la, lb, lc]
         go_simp
         with_reducible refine (whole_q (G159_fl.out.isz HZF.out) (by omega) qf HQF.out).mono ?_
         rintro e W160 ⟨s160, A160, n160, c160, t160, B160, m160, d160, rfl, hr, hbx⟩
         have X160 := Lib.hid (X159.out.below hbx)
         have G160_J11 := Lib.hid (G159_J11.out.below hbx)
         have G160_J10 := Lib.hid (G159_J10.out.below hbx)
         have G160_fl := Lib.hid (G159_fl.out.below hbx)
         have G160_qf := Lib.hid hr
         clear hbx hr
         refine hK.out _ _ (by with_reducible exact X160.out.keep) (fun hHeld => ?_)
         clear hK K
         try simp only [Act.put, ld, le, lf]
         refine wpAnyH_ready (rs := [4]) (by kernel_rfl) (by simp) ?_
         refine (AllReadyH.cons rfl (fun K hK => ?_) AllReadyH.nil)
         ·
          try simp only [la, lb, lc]
          go_simp
          with_reducible refine (ceil_q (IsQ.mono (l := 700) X160.out.a (by omega)) (by omega) (by omega) ce HCE.out).mono ?_
          rintro e W161 ⟨s161, A161, n161, c161, rfl, hr, hbx⟩
          have X161 := Lib.hid (X160.out.below hbx)
          have G161_J11 := Lib.hid (G160_J11.out.below hbx)
          have G161_J10 := Lib.hid (G160_J10.out.below hbx)
          have G161_fl := Lib.hid (G160_fl.out.below hbx)
          have G161_qf := Lib.hid (G160_qf.out.below hbx)
          have G161_ce := Lib.hid hr
          clear hbx hr
          refine hK.out _ _ (by with_reducible exact X161.out.keep) (fun hHeld => ?_)
          clear hK K
          try simp only [Act.put, ld, le, lf]
          refine wpAnyH_ready (rs := [5]) (by kernel_rfl) (by simp) ?_
          refine (AllReadyH.cons rfl (fun K hK => ?_) AllReadyH.nil)
          ·
           try simp only [la, lb, lc]
           go_simp
           with_reducible refine (whole_q (G161_ce.out.isz HZC.out) (by omega) qg HQG.out).mono ?_
           rintro e W162 ⟨s162, A162, n162, c162, t162, B162, m162, d162, rfl, hr, hbx⟩
           have X162 := Lib.hid (X161.out.below hbx)
           have G162_J11 := Lib.hid (G161_J11.out.below hbx)
           have G162_J10 := Lib.hid (G161_J10.out.below hbx)
           have G162_fl := Lib.hid (G161_fl.out.below hbx)
           have G162_qf := Lib.hid (G161_qf.out.below hbx)
           have G162_ce := Lib.hid (G161_ce.out.below hbx)
           have G162_qg := Lib.hid hr
           clear hbx hr
           refine hK.out _ _ (by with_reducible exact X162.out.keep) (fun hHeld => ?_)
           clear hK K
           try simp only [Act.put, ld, le, lf]
           refine wpAnyH_ready (rs := [8]) (by kernel_rfl) (by simp) ?_
           refine AllReadyH.cons rfl (fun K hK => ?_) AllReadyH.nil
           try simp only [la, lb, lc]
           have v0 := G162_J10.out.c0
           have vf0 := G162_J10.out.f 0
           have v1 := G162_J10.out.c1
           have vf1 := G162_J10.out.f 1
           have v2 := G162_J10.out.c2
           have vf2 := G162_J10.out.f 2
           have v3 := G162_J10.out.c3
           have vf3 := G162_J10.out.f 3
           go_simp
           clear v0 v1 v2 v3 vf0 vf1 vf2 vf3
           obtain ⟨W163, hW163⟩ : ∃ V, put4 W162 W135.heap.size s160 A160 n160 c160 t160 B160 m160 d160 = V := ⟨_, rfl⟩
           refine (congrArg (K _) hW163).mpr ?_
           have X163 := Lib.hid (X162.out.pt G162_J10.out (X135.out.i3.lt) hW163)
           have G163_M := Lib.hid (G162_J10.out.pt hW163)
           have G163_O := Lib.hid (G162_J11.out.pt_far (Ne.symm (Nat.ne_of_gt (Qbx.lt G135_J11.out))) hW163)
           have G163_qf := Lib.hid (G162_qf.out.pt G162_J10.out hW163)
           have G163_qg := Lib.hid (G162_qg.out.pt G162_J10.out hW163)
           clear hW163
           refine hK.out _ _ (by with_reducible exact X163.out.keep) (fun hHeld => ?_)
           clear hK K
           try simp only [Act.put, ld, le, lf]
           refine wpAnyH_ready (rs := [9]) (by kernel_rfl) (by simp) ?_
           refine AllReadyH.cons rfl (fun K hK => ?_) AllReadyH.nil
           try simp only [la, lb, lc]
           have v0 := G163_O.out.c0
           have vf0 := G163_O.out.f 0
           have v1 := G163_O.out.c1
           have vf1 := G163_O.out.f 1
           have v2 := G163_O.out.c2
           have vf2 := G163_O.out.f 2
           have v3 := G163_O.out.c3
           have vf3 := G163_O.out.f 3
           go_simp
           clear v0 v1 v2 v3 vf0 vf1 vf2 vf3
           obtain ⟨W164, hW164⟩ : ∃ V, put4 W163 W0.heap.size s162 A162 n162 c162 t162 B162 m162 d162 = V := ⟨_, rfl⟩
           refine (congrArg (K _) hW164).mpr ?_
           have X164 := Lib.hid (X163.out.pt G163_O.out (HX.out.i3.lt) hW164)
           have G164_M := Lib.hid (G163_O.out.pt hW164)
           have G164_O := Lib.hid (G163_M.out.pt_far (Nat.ne_of_gt (Qbx.lt G135_J11.out)) hW164)
           have G164_qf := Lib.hid (G163_qf.out.pt G163_O.out hW164)
           have G164_qg := Lib.hid (G163_qg.out.pt G163_O.out hW164)
           clear hW164
           refine hK.out _ _ (by with_reducible exact X164.out.keep) (fun hHeld => ?_)
           clear hK K
           try simp only [Act.put, ld, le, lf]
           refine wpAnyH_done (by kernel_rfl) ?_ _
           go_wp2_with fail
           go_meet
           exact ⟨W135.heap.size, W0.heap.size, _, _, _, _, _, _, _, _, _, _, _, _, _, _, _, _, rfl, rfl, ⟨X164.out, G164_O.out, G164_M.out, G164_qf.out, G164_qg.out⟩⟩
   case rest =>
    clear HX
    obtain ⟨gf, gg, sf, Af, nf, cf, tf, Bf, mf, df, sg, Ag, ng, cg, tg, Bg, mg, dg, rfl, rfl, HX⟩ := hcut
    go_upto_region 7 with fail
    go_cut [12] from 115 to 148 (fun s12 wx => s12 = .bool true ∧ Hid (Q3 w wx sa Aa na ca ta Ba ma da sb Ab nb cb tb Bb mb db sc Ac nc cc tc Bc mc dc p r u 12))
    case first =>
     as_aux_lemma =>
      replace HX := Lib.hid HX.out.drew
      refine wp_region_held_drew (S := (fun V => V.cell? ⟨w.heap.size, 0, none⟩ = some (.bool sa) ∧ V.cell? ⟨w.heap.size, 1, none⟩ = some (.slice Aa na ca) ∧ V.cell? ⟨w.heap.size, 2, none⟩ = some (.bool ta) ∧ V.cell? ⟨w.heap.size, 3, none⟩ = some (.slice Ba ma da) ∧ V.cell? ⟨w.heap.size + 1, 0, none⟩ = some (.bool sb) ∧ V.cell? ⟨w.heap.size + 1, 1, none⟩ = some (.slice Ab nb cb) ∧ V.cell? ⟨w.heap.size + 1, 2, none⟩ = some (.bool tb) ∧ V.cell? ⟨w.heap.size + 1, 3, none⟩ = some (.slice Bb mb db) ∧ V.cell? ⟨w.heap.size + 1 + 1, 0, none⟩ = some (.bool sc) ∧ V.cell? ⟨w.heap.size + 1 + 1, 1, none⟩ = some (.slice Ac nc cc) ∧ V.cell? ⟨w.heap.size + 1 + 1, 2, none⟩ = some (.bool tc) ∧ V.cell? ⟨w.heap.size + 1 + 1, 3, none⟩ = some (.slice Bc mc dc) ∧ V.cell? ⟨gf, 0, none⟩ = some (.bool sf) ∧ V.cell? ⟨gf, 1, none⟩ = some (.slice Af nf cf) ∧ V.cell? ⟨gf, 2, none⟩ = some (.bool tf) ∧ V.cell? ⟨gf, 3, none⟩ = some (.slice Bf mf df) ∧ V.cell? ⟨gg, 0, none⟩ = some (.bool sg) ∧ V.cell? ⟨gg, 1, none⟩ = some (.slice Ag ng cg) ∧ V.cell? ⟨gg, 2, none⟩ = some (.bool tg) ∧ V.cell? ⟨gg, 3, none⟩ = some (.slice Bg mg dg))) (by kernel_rfl) (by with_reducible exact HX.out.keep) (fun hHeld => ?_)
      refine' wpAnyH_take (i := 0) (v := _) rfl (by kernel_rfl) (by kernel_rfl) (by kernel_rfl) (fun _ _ _ h => h) (Or.inl ⟨by rfl, ?y132⟩) (by assumption) ?r132
      case y132 => (intro w hS; (try dsimp only at hS); try simp only [la, lb]; go_simp; (try with_reducible rfl))
      try simp only [la, lb]
      try simp only [Act.put, ld, le, lf]
      refine' wpAnyH_take (i := 1) (v := _) rfl (by kernel_rfl) (by kernel_rfl) (by kernel_rfl) (fun _ _ _ h => h) (Or.inl ⟨by rfl, ?y133⟩) (by assumption) ?r133
      case y133 => (intro w hS; (try dsimp only at hS); try simp only [la, lb, lc]; go_simp; (try with_reducible rfl))
      try simp only [la, lb, lc]
      try simp only [Act.put, ld, le, lf]
      refine wpAnyH_ready (rs := [2]) (by kernel_rfl) (by simp) ?_
      refine AllReadyH.cons rfl (fun K hK => ?_) AllReadyH.nil
      try simp only [la, lb, lc]
      go_simp
      with_reducible refine (cmp_q (HX.out.of.isq (k := 700) (Nat.le_trans HL_qf.out (by omega))) (IsQ.mono (l := 700) HX.out.q3.a (by omega)) (by omega) (by omega) (k1) HK_k1.out).mono ?_
      rintro e w45 ⟨rfl, hbx⟩
      replace HX := Lib.hid (HX.out.below hbx)
      clear hbx
      refine hK.out _ _ (by with_reducible exact HX.out.keep) (fun hHeld => ?_)
      clear hK K
      try simp only [Act.put, ld, le, lf]
      refine' wpAnyH_take (i := 3) (v := _) rfl (by kernel_rfl) (by kernel_rfl) (by kernel_rfl) (fun _ _ _ h => h) (Or.inl ⟨by rfl, ?y134⟩) (by assumption) ?r134
      case y134 => (intro w hS; (try dsimp only at hS); try simp only [la, lb, lc]; go_simp; (try with_reducible rfl))
      try simp only [la, lb, lc]
      try simp only [Act.put, ld, le, lf]
      refine' wpAnyH_take (i := 4) (v := _) rfl (by kernel_rfl) (by kernel_rfl) (by kernel_rfl) (fun _ _ _ h => h) (Or.inl ⟨by rfl, ?y135⟩) (by assumption) ?r135
      case y135 => (intro w hS; (try dsimp only at hS); try simp only [la, lb, lc]; go_simp; (try with_reducible rfl))
      try simp only [la, lb, lc]
      try simp only [Act.put, ld, le, lf]
      refine' wpAnyH_take (i := 5) (v := _) rfl (by kernel_rfl) (by kernel_rfl) (by kernel_rfl) (fun _ _ _ h => h) (Or.inl ⟨by rfl, ?y136⟩) (by assumption) ?r136
      case y136 => (intro w hS; (try dsimp only at hS); try simp only [la, lb, lc]; go_simp; (try with_reducible rfl))
      try simp only [la, lb, lc]
      try simp only [Act.put, ld, le, lf]
      refine' wpAnyH_take (i := 6) (v := _) rfl (by kernel_rfl) (by kernel_rfl) (by kernel_rfl) (fun _ _ _ h => h) (Or.inl ⟨by rfl, ?y137⟩) (by assumption) ?r137
      case y137 => (intro w hS; (try dsimp only at hS); try simp only [la, lb, lc]; go_simp; (try with_reducible rfl))
      try simp only [la, lb, lc]
      try simp only [Act.put, ld, le, lf]
      refine wpAnyH_ready (rs := [7]) (by kernel_rfl) (by simp) ?_
      refine AllReadyH.cons rfl (fun K hK => ?_) AllReadyH.nil
      try simp only [la, lb, lc]
      go_simp
      with_reducible refine (of_q _ (1) (1) (by omega) (by omega) (by omega) (by omega) one HE_one.out).mono ?_
      rintro e w46 ⟨s_x1, A_x1, n_x1, c_x1, t_x1, B_x1, m_x1, d_x1, rfl, h_x1, hbx⟩
      replace HX := Lib.hid (HX.out.below hbx)
      have H_x1 := Lib.hid h_x1
      clear hbx
      refine hK.out _ _ (by with_reducible exact HX.out.keep) (fun hHeld => ?_)
      clear hK K
      try simp only [Act.put, ld, le, lf]
      refine wpAnyH_ready (rs := [8]) (by kernel_rfl) (by simp) ?_
      refine AllReadyH.cons rfl (fun K hK => ?_) AllReadyH.nil
      try simp only [la, lb, lc]
      go_simp
      with_reducible refine (add_q (HX.out.of.isq (k := 700) (Nat.le_trans HL_qf.out (by omega))) (H_x1.out.isq (k := 700) (Nat.le_trans HL_one.out (by omega))) (by omega) (by omega) f1 HE_f1.out).mono ?_
      rintro e w47 ⟨s_x2, A_x2, n_x2, c_x2, t_x2, B_x2, m_x2, d_x2, rfl, h_x2, hbx⟩
      replace HX := Lib.hid (HX.out.below hbx)
      replace H_x1 := Lib.hid (H_x1.out.below hbx)
      have H_x2 := Lib.hid h_x2
      clear hbx
      refine hK.out _ _ (by with_reducible exact HX.out.keep) (fun hHeld => ?_)
      clear hK K
      try simp only [Act.put, ld, le, lf]
      refine wpAnyH_ready (rs := [9]) (by kernel_rfl) (by simp) ?_
      refine AllReadyH.cons rfl (fun K hK => ?_) AllReadyH.nil
      try simp only [la, lb, lc]
      go_simp
      with_reducible refine (cmp_q (IsQ.mono (l := 700) HX.out.q3.a (by omega)) (H_x2.out.isq (k := 700) (Nat.le_trans HL_f1.out (by omega))) (by omega) (by omega) (k2) HK_k2.out).mono ?_
      rintro e w48 ⟨rfl, hbx⟩
      replace HX := Lib.hid (HX.out.below hbx)
      replace H_x1 := Lib.hid (H_x1.out.below hbx)
      replace H_x2 := Lib.hid (H_x2.out.below hbx)
      clear hbx
      refine hK.out _ _ (by with_reducible exact HX.out.keep) (fun hHeld => ?_)
      clear hK K
      try simp only [Act.put, ld, le, lf]
      refine' wpAnyH_take (i := 10) (v := _) rfl (by kernel_rfl) (by kernel_rfl) (by kernel_rfl) (fun _ _ _ h => h) (Or.inl ⟨by rfl, ?y138⟩) (by assumption) ?r138
      case y138 => (intro w hS; (try dsimp only at hS); try simp only [la, lb, lc]; go_simp; (try with_reducible rfl))
      try simp only [la, lb, lc]
      try simp only [Act.put, ld, le, lf]
      refine' wpAnyH_take (i := 11) (v := _) rfl (by kernel_rfl) (by kernel_rfl) (by kernel_rfl) (fun _ _ _ h => h) (Or.inl ⟨by rfl, ?y139⟩) (by assumption) ?r139
      case y139 => (intro w hS; (try dsimp only at hS); try simp only [la, lb, lc]; go_simp; (try with_reducible rfl))
      try simp only [la, lb, lc]
      try simp only [Act.put, ld, le, lf]
      refine' wpAnyH_take (i := 12) (v := _) rfl (by kernel_rfl) (by kernel_rfl) (by kernel_rfl) (fun _ _ _ h => h) (Or.inl ⟨by rfl, ?y140⟩) (by assumption) ?r140
      case y140 => (intro w hS; (try dsimp only at hS); try simp only [la, lb, lc]; go_simp; (try with_reducible rfl))
      try simp only [la, lb, lc]
      try simp only [Act.put, ld, le, lf]
      refine' wpAnyH_take (i := 13) (v := _) rfl (by kernel_rfl) (by kernel_rfl) (by kernel_rfl) (fun _ _ _ h => h) (Or.inl ⟨by rfl, ?y141⟩) (by assumption) ?r141
      case y141 => (intro w hS; (try dsimp only at hS); try simp only [la, lb, lc]; go_simp; (try with_reducible rfl))
      try simp only [la, lb, lc]
      try simp only [Act.put, ld, le, lf]
      refine' wpAnyH_take (i := 14) (v := _) rfl (by kernel_rfl) (by kernel_rfl) (by kernel_rfl) (fun _ _ _ h => h) (Or.inl ⟨by rfl, ?y142⟩) (by assumption) ?r142
      case y142 => (intro w hS; (try dsimp only at hS); try simp only [la, lb, lc]; go_simp; (try with_reducible rfl))
      try simp only [la, lb, lc]
      try simp only [Act.put, ld, le, lf]
      refine wpAnyH_ready (rs := [15]) (by kernel_rfl) (by simp) ?_
      refine AllReadyH.cons rfl (fun K hK => ?_) AllReadyH.nil
      try simp only [la, lb, lc]
      go_simp
      with_reducible refine (cmp_q (HX.out.og.isq (k := 700) (Nat.le_trans HL_qg.out (by omega))) (IsQ.mono (l := 700) HX.out.q3.a (by omega)) (by omega) (by omega) (k3) HK_k3.out).mono ?_
      rintro e w49 ⟨rfl, hbx⟩
      replace HX := Lib.hid (HX.out.below hbx)
      clear hbx
      refine hK.out _ _ (by with_reducible exact HX.out.keep) (fun hHeld => ?_)
      clear hK K
      try simp only [Act.put, ld, le, lf]
      refine' wpAnyH_take (i := 16) (v := _) rfl (by kernel_rfl) (by kernel_rfl) (by kernel_rfl) (fun _ _ _ h => h) (Or.inl ⟨by rfl, ?y143⟩) (by assumption) ?r143
      case y143 => (intro w hS; (try dsimp only at hS); try simp only [la, lb, lc]; go_simp; (try with_reducible rfl))
      try simp only [la, lb, lc]
      try simp only [Act.put, ld, le, lf]
      refine' wpAnyH_take (i := 17) (v := _) rfl (by kernel_rfl) (by kernel_rfl) (by kernel_rfl) (fun _ _ _ h => h) (Or.inl ⟨by rfl, ?y144⟩) (by assumption) ?r144
      case y144 => (intro w hS; (try dsimp only at hS); try simp only [la, lb, lc]; go_simp; (try with_reducible rfl))
      try simp only [la, lb, lc]
      try simp only [Act.put, ld, le, lf]
      refine' wpAnyH_take (i := 18) (v := _) rfl (by kernel_rfl) (by kernel_rfl) (by kernel_rfl) (fun _ _ _ h => h) (Or.inl ⟨by rfl, ?y145⟩) (by assumption) ?r145
      case y145 => (intro w hS; (try dsimp only at hS); try simp only [la, lb, lc]; go_simp; (try with_reducible rfl))
      try simp only [la, lb, lc]
      try simp only [Act.put, ld, le, lf]
      refine' wpAnyH_take (i := 19) (v := _) rfl (by kernel_rfl) (by kernel_rfl) (by kernel_rfl) (fun _ _ _ h => h) (Or.inl ⟨by rfl, ?y146⟩) (by assumption) ?r146
      case y146 => (intro w hS; (try dsimp only at hS); try simp only [la, lb, lc]; go_simp; (try with_reducible rfl))
      try simp only [la, lb, lc]
      try simp only [Act.put, ld, le, lf]
      refine' wpAnyH_take (i := 22) (v := _) rfl (by kernel_rfl) (by kernel_rfl) (by kernel_rfl) (fun _ _ _ h => h) (Or.inl ⟨by rfl, ?y147⟩) (by assumption) ?r147
      case y147 => (intro w hS; (try dsimp only at hS); try simp only [la, lb, lc]; go_simp; (try with_reducible rfl))
      try simp only [la, lb, lc]
      try simp only [Act.put, ld, le, lf]
      refine wpAnyH_ready (rs := [20]) (by kernel_rfl) (by simp) ?_
      refine AllReadyH.cons rfl (fun K hK => ?_) AllReadyH.nil
      try simp only [la, lb, lc]
      go_simp
      with_reducible refine (of_q _ (1) (1) (by omega) (by omega) (by omega) (by omega) one HE_one.out).mono ?_
      rintro e w50 ⟨s_x3, A_x3, n_x3, c_x3, t_x3, B_x3, m_x3, d_x3, rfl, h_x3, hbx⟩
      replace HX := Lib.hid (HX.out.below hbx)
      have H_x3 := Lib.hid h_x3
      clear hbx
      refine hK.out _ _ (by with_reducible exact HX.out.keep) (fun hHeld => ?_)
      clear hK K
      try simp only [Act.put, ld, le, lf]
      refine wpAnyH_ready (rs := [21]) (by kernel_rfl) (by simp) ?_
      refine AllReadyH.cons rfl (fun K hK => ?_) AllReadyH.nil
      try simp only [la, lb, lc]
      go_simp
      with_reducible refine (sub_q (HX.out.og.isq (k := 700) (Nat.le_trans HL_qg.out (by omega))) (H_x3.out.isq (k := 700) (Nat.le_trans HL_one.out (by omega))) (by omega) (by omega) g1 HE_g1.out).mono ?_
      rintro e w51 ⟨s_x4, A_x4, n_x4, c_x4, t_x4, B_x4, m_x4, d_x4, rfl, h_x4, hbx⟩
      replace HX := Lib.hid (HX.out.below hbx)
      replace H_x3 := Lib.hid (H_x3.out.below hbx)
      have H_x4 := Lib.hid h_x4
      clear hbx
      refine hK.out _ _ (by with_reducible exact HX.out.keep) (fun hHeld => ?_)
      clear hK K
      try simp only [Act.put, ld, le, lf]
      refine wpAnyH_ready (rs := [23]) (by kernel_rfl) (by simp) ?_
      refine AllReadyH.cons rfl (fun K hK => ?_) AllReadyH.nil
      try simp only [la, lb, lc]
      go_simp
      with_reducible refine (cmp_q (H_x4.out.isq (k := 700) (Nat.le_trans HL_g1.out (by omega))) (IsQ.mono (l := 700) HX.out.q3.a (by omega)) (by omega) (by omega) (k4) HK_k4.out).mono ?_
      rintro e w52 ⟨rfl, hbx⟩
      replace HX := Lib.hid (HX.out.below hbx)
      replace H_x3 := Lib.hid (H_x3.out.below hbx)
      replace H_x4 := Lib.hid (H_x4.out.below hbx)
      clear hbx
      refine hK.out _ _ (by with_reducible exact HX.out.keep) (fun hHeld => ?_)
      clear hK K
      try simp only [Act.put, ld, le, lf]
      refine' wpAnyH_take (i := 24) (v := _) rfl (by kernel_rfl) (by kernel_rfl) (by kernel_rfl) (fun _ _ _ h => h) (Or.inl ⟨by rfl, ?y148⟩) (by assumption) ?r148
      case y148 => (intro w hS; (try dsimp only at hS); try simp only [la, lb, lc]; go_simp; (try with_reducible rfl))
      try simp only [la, lb, lc]
      try simp only [Act.put, ld, le, lf]
      refine' wpAnyH_take (i := 25) (v := _) rfl (by kernel_rfl) (by kernel_rfl) (by kernel_rfl) (fun _ _ _ h => h) (Or.inl ⟨by rfl, ?y149⟩) (by assumption) ?r149
      case y149 => (intro w hS; (try dsimp only at hS); try simp only [la, lb, lc]; go_simp; (try with_reducible rfl))
      try simp only [la, lb, lc]
      try simp only [Act.put, ld, le, lf]
      refine' wpAnyH_take (i := 26) (v := _) rfl (by kernel_rfl) (by kernel_rfl) (by kernel_rfl) (fun _ _ _ h => h) (Or.inl ⟨by rfl, ?y150⟩) (by assumption) ?r150
      case y150 => (intro w hS; (try dsimp only at hS); try simp only [la, lb, lc]; go_simp; (try with_reducible rfl))
      try simp only [la, lb, lc]
      try simp only [Act.put, ld, le, lf]
      refine' wpAnyH_take (i := 27) (v := _) rfl (by kernel_rfl) (by kernel_rfl) (by kernel_rfl) (fun _ _ _ h => h) (Or.inl ⟨by rfl, ?y151⟩) (by assumption) ?r151
      case y151 => (intro w hS; (try dsimp only at hS); try simp only [la, lb, lc]; go_simp; (try with_reducible rfl))
      try simp only [la, lb, lc]
      try simp only [Act.put, ld, le, lf]
      refine' wpAnyH_take (i := 28) (v := _) rfl (by kernel_rfl) (by kernel_rfl) (by kernel_rfl) (fun _ _ _ h => h) (Or.inl ⟨by rfl, ?y152⟩) (by assumption) ?r152
      case y152 => (intro w hS; (try dsimp only at hS); try simp only [la, lb, lc]; go_simp; (try with_reducible rfl))
      try simp only [la, lb, lc]
      try simp only [Act.put, ld, le, lf]
      refine' wpAnyH_take (i := 30) (v := _) rfl (by kernel_rfl) (by kernel_rfl) (by kernel_rfl) (fun _ _ _ h => h) (Or.inl ⟨by rfl, ?y153⟩) (by assumption) ?r153
      case y153 => (intro w hS; (try dsimp only at hS); try simp only [la, lb, lc]; go_simp; (try with_reducible rfl))
      try simp only [la, lb, lc]
      try simp only [Act.put, ld, le, lf]
      refine wpAnyH_ready (rs := [29]) (by kernel_rfl) (by simp) ?_
      refine AllReadyH.cons rfl (fun K hK => ?_) AllReadyH.nil
      try simp only [la, lb, lc]
      go_simp
      with_reducible refine (same_q (HX.out.of.isq (k := 700) (Nat.le_trans HL_qf.out (by omega))) (HX.out.og.isq (k := 700) (Nat.le_trans HL_qg.out (by omega))) (by omega) (by omega) (vw) HVW.out).mono ?_
      rintro e w53 ⟨rfl, hbx⟩
      replace HX := Lib.hid (HX.out.below hbx)
      clear hbx
      refine hK.out _ _ (by with_reducible exact HX.out.keep) (fun hHeld => ?_)
      clear hK K
      try simp only [Act.put, ld, le, lf]
      refine wpAnyH_ready (rs := [31]) (by kernel_rfl) (by simp) ?_
      refine AllReadyH.cons rfl (fun K hK => ?_) AllReadyH.nil
      try simp only [la, lb, lc]
      go_simp
      with_reducible refine (iswhole_q (IsQ.mono (l := 700) HX.out.q3.a (by omega)) (by omega) (by omega) vw HVD.out).mono ?_
      rintro e w54 ⟨rfl, hbx⟩
      replace HX := Lib.hid (HX.out.below hbx)
      clear hbx
      refine hK.out _ _ (by with_reducible exact HX.out.keep) (fun hHeld => ?_)
      clear hK K
      try simp only [Act.put, ld, le, lf]
      refine' wpAnyH_take (i := 32) (v := _) rfl (by kernel_rfl) (by kernel_rfl) (by kernel_rfl) (fun _ _ _ h => h) (Or.inl ⟨by rfl, ?y154⟩) (by assumption) ?r154
      case y154 => (intro w hS; (try dsimp only at hS); try simp only [la, lb, lc]; go_simp; (try with_reducible rfl))
      try simp only [la, lb, lc]
      try simp only [Act.put, ld, le, lf]
      refine' wpAnyH_take (i := 33) (v := _) rfl (by kernel_rfl) (by kernel_rfl) (by kernel_rfl) (fun _ _ _ h => h) (Or.inl ⟨by rfl, ?y155⟩) (by assumption) ?r155
      case y155 => (intro w hS; (try dsimp only at hS); try simp only [la, lb, lc]; go_simp; (try with_reducible rfl))
      try simp only [la, lb, lc]
      try simp only [Act.put, ld, le, lf]
      refine' wpAnyH_take (i := 34) (v := _) rfl (by kernel_rfl) (by kernel_rfl) (by kernel_rfl) (fun _ _ _ h => h) (Or.inl ⟨by rfl, ?y156⟩) (by assumption) ?r156
      case y156 => (intro w hS; (try dsimp only at hS); try simp only [la, lb, lc]; go_simp; (try with_reducible rfl))
      try simp only [la, lb, lc]
      try simp only [Act.put, ld, le, lf]
      refine wpAnyH_done (by kernel_rfl) ?_ _
      go_wp2_with fail
      go_meet
      exact ⟨rfl, HX.out.q3⟩
    case rest =>
     clear HX
     obtain ⟨rfl, HX⟩ := hcut
     have k0 := HX.out.i1.c0
     have k1' := HX.out.i1.c1
     have k2' := HX.out.i1.c2
     have k3' := HX.out.i1.c3
     go_wp2_with fail
     refine (text_q (HX.out.a.mono (l := 700) (by omega)) (by omega) (by omega) (HT.out.below HX.out.bel) tx HTX.out).mono ?_
     rintro e w55 ⟨rfl, hbx⟩
     replace HX := Lib.hid (HX.out.below hbx)
     clear hbx
     go_wp2_with fail
     refine (parse_q _ tx p 0 HPB.out HTL.out).mono ?_
     rintro e w56 ⟨s_x9, A_x9, n_x9, c_x9, t_x9, B_x9, m_x9, d_x9, rfl, h_x9, hbx⟩
     replace HX := Lib.hid (HX.out.below hbx)
     clear hbx
     clear k0 k1' k2' k3'
     obtain ⟨V9, hV9⟩ : ∃ V, w56.alloc (.cells #[.bool s_x9, .slice A_x9 n_x9 c_x9, .bool t_x9, .slice B_x9 m_x9 d_x9] 28) = V := ⟨_, rfl⟩
     have H_b9 : Hid (Qbx V9 w56.heap.size s_x9 A_x9 n_x9 c_x9 t_x9 B_x9 m_x9 d_x9) := by rw [← hV9]; exact Qbx.new _ _ rfl
     have H_x9 : Hid (OneQ V9 s_x9 A_x9 n_x9 c_x9 t_x9 B_x9 m_x9 d_x9 p) := by rw [← hV9]; exact h_x9.alloc _
     replace HX : Hid (Q3 w V9 sa Aa na ca ta Ba ma da sb Ab nb cb tb Bb mb db sc Ac nc cc tc Bc mc dc p r u 12) := by rw [← hV9]; exact HX.out.alloc _
     clear h_x9
     go_upto_region 9 with fail
     clear hV9
     as_aux_lemma =>
      replace HX := Lib.hid HX.out.drew
      replace H_x9 := Lib.hid H_x9.out.drew
      replace H_b9 := Lib.hid H_b9.out.drew
      refine wp_region_held_drew (S := (fun V => V.cell? ⟨w.heap.size, 0, none⟩ = some (.bool sa) ∧ V.cell? ⟨w.heap.size, 1, none⟩ = some (.slice Aa na ca) ∧ V.cell? ⟨w.heap.size, 2, none⟩ = some (.bool ta) ∧ V.cell? ⟨w.heap.size, 3, none⟩ = some (.slice Ba ma da) ∧ V.cell? ⟨w56.heap.size, 0, none⟩ = some (.bool s_x9) ∧ V.cell? ⟨w56.heap.size, 1, none⟩ = some (.slice A_x9 n_x9 c_x9) ∧ V.cell? ⟨w56.heap.size, 2, none⟩ = some (.bool t_x9) ∧ V.cell? ⟨w56.heap.size, 3, none⟩ = some (.slice B_x9 m_x9 d_x9))) (by kernel_rfl) (by with_reducible exact ⟨HX.out.i1.c0, HX.out.i1.c1, HX.out.i1.c2, HX.out.i1.c3, H_b9.out.c0, H_b9.out.c1, H_b9.out.c2, H_b9.out.c3⟩) (fun hHeld => ?_)
      refine' wpAnyH_take (i := 0) (v := _) rfl (by kernel_rfl) (by kernel_rfl) (by kernel_rfl) (fun _ _ _ h => h) (Or.inl ⟨by rfl, ?y157⟩) (by assumption) ?r157
      case y157 => (intro w hS; (try dsimp only at hS); try simp only [la, lb]; go_simp; (try with_reducible rfl))
      try simp only [la, lb]
      try simp only [Act.put, ld, le, lf]
      refine' wpAnyH_take (i := 1) (v := _) rfl (by kernel_rfl) (by kernel_rfl) (by kernel_rfl) (fun _ _ _ h => h) (Or.inl ⟨by rfl, ?y158⟩) (by assumption) ?r158
      case y158 => (intro w hS; (try dsimp only at hS); try simp only [la, lb, lc]; go_simp; (try with_reducible rfl))
      try simp only [la, lb, lc]
      try simp only [Act.put, ld, le, lf]
      refine' wpAnyH_take (i := 2) (v := _) rfl (by kernel_rfl) (by kernel_rfl) (by kernel_rfl) (fun _ _ _ h => h) (Or.inl ⟨by rfl, ?y159⟩) (by assumption) ?r159
      case y159 => (intro w hS; (try dsimp only at hS); try simp only [la, lb, lc]; go_simp; (try with_reducible rfl))
      try simp only [la, lb, lc]
      try simp only [Act.put, ld, le, lf]
      refine' wpAnyH_take (i := 3) (v := _) rfl (by kernel_rfl) (by kernel_rfl) (by kernel_rfl) (fun _ _ _ h => h) (Or.inl ⟨by rfl, ?y160⟩) (by assumption) ?r160
      case y160 => (intro w hS; (try dsimp only at hS); try simp only [la, lb, lc]; go_simp; (try with_reducible rfl))
      try simp only [la, lb, lc]
      try simp only [Act.put, ld, le, lf]
      refine' wpAnyH_take (i := 4) (v := _) rfl (by kernel_rfl) (by kernel_rfl) (by kernel_rfl) (fun _ _ _ h => h) (Or.inl ⟨by rfl, ?y161⟩) (by assumption) ?r161
      case y161 => (intro w hS; (try dsimp only at hS); try simp only [la, lb, lc]; go_simp; (try with_reducible rfl))
      try simp only [la, lb, lc]
      try simp only [Act.put, ld, le, lf]
      refine' wpAnyH_take (i := 5) (v := _) rfl (by kernel_rfl) (by kernel_rfl) (by kernel_rfl) (fun _ _ _ h => h) (Or.inl ⟨by rfl, ?y162⟩) (by assumption) ?r162
      case y162 => (intro w hS; (try dsimp only at hS); try simp only [la, lb, lc]; go_simp; (try with_reducible rfl))
      try simp only [la, lb, lc]
      try simp only [Act.put, ld, le, lf]
      refine' wpAnyH_take (i := 6) (v := _) rfl (by kernel_rfl) (by kernel_rfl) (by kernel_rfl) (fun _ _ _ h => h) (Or.inl ⟨by rfl, ?y163⟩) (by assumption) ?r163
      case y163 => (intro w hS; (try dsimp only at hS); try simp only [la, lb, lc]; go_simp; (try with_reducible rfl))
      try simp only [la, lb, lc]
      try simp only [Act.put, ld, le, lf]
      refine' wpAnyH_take (i := 7) (v := _) rfl (by kernel_rfl) (by kernel_rfl) (by kernel_rfl) (fun _ _ _ h => h) (Or.inl ⟨by rfl, ?y164⟩) (by assumption) ?r164
      case y164 => (intro w hS; (try dsimp only at hS); try simp only [la, lb, lc]; go_simp; (try with_reducible rfl))
      try simp only [la, lb, lc]
      try simp only [Act.put, ld, le, lf]
      refine' wpAnyH_take (i := 8) (v := _) rfl (by kernel_rfl) (by kernel_rfl) (by kernel_rfl) (fun _ _ _ h => h) (Or.inl ⟨by rfl, ?y165⟩) (by assumption) ?r165
      case y165 => (intro w hS; (try dsimp only at hS); try simp only [la, lb, lc]; go_simp; (try with_reducible rfl))
      try simp only [la, lb, lc]
      try simp only [Act.put, ld, le, lf]
      refine' wpAnyH_take (i := 9) (v := _) rfl (by kernel_rfl) (by kernel_rfl) (by kernel_rfl) (fun _ _ _ h => h) (Or.inl ⟨by rfl, ?y166⟩) (by assumption) ?r166
      case y166 => (intro w hS; (try dsimp only at hS); try simp only [la, lb, lc]; go_simp; (try with_reducible rfl))
      try simp only [la, lb, lc]
      try simp only [Act.put, ld, le, lf]
      refine' wpAnyH_take (i := 10) (v := _) rfl (by kernel_rfl) (by kernel_rfl) (by kernel_rfl) (fun _ _ _ h => h) (Or.inl ⟨by rfl, ?y167⟩) (by assumption) ?r167
      case y167 => (intro w hS; (try dsimp only at hS); try simp only [la, lb, lc]; go_simp; (try with_reducible rfl))
      try simp only [la, lb, lc]
      try simp only [Act.put, ld, le, lf]
      refine' wpAnyH_take (i := 11) (v := _) rfl (by kernel_rfl) (by kernel_rfl) (by kernel_rfl) (fun _ _ _ h => h) (Or.inl ⟨by rfl, ?y168⟩) (by assumption) ?r168
      case y168 => (intro w hS; (try dsimp only at hS); try simp only [la, lb, lc]; go_simp; (try with_reducible rfl))
      try simp only [la, lb, lc]
      try simp only [Act.put, ld, le, lf]
      refine' wpAnyH_take (i := 12) (v := _) rfl (by kernel_rfl) (by kernel_rfl) (by kernel_rfl) (fun _ _ _ h => h) (Or.inl ⟨by rfl, ?y169⟩) (by assumption) ?r169
      case y169 => (intro w hS; (try dsimp only at hS); try simp only [la, lb, lc]; go_simp; (try with_reducible rfl))
      try simp only [la, lb, lc]
      try simp only [Act.put, ld, le, lf]
      refine' wpAnyH_take (i := 13) (v := _) rfl (by kernel_rfl) (by kernel_rfl) (by kernel_rfl) (fun _ _ _ h => h) (Or.inl ⟨by rfl, ?y170⟩) (by assumption) ?r170
      case y170 => (intro w hS; (try dsimp only at hS); try simp only [la, lb, lc]; go_simp; (try with_reducible rfl))
      try simp only [la, lb, lc]
      try simp only [Act.put, ld, le, lf]
      refine wpAnyH_ready (rs := [14]) (by kernel_rfl) (by simp) ?_
      refine AllReadyH.cons rfl (fun K hK => ?_) AllReadyH.nil
      try simp only [la, lb, lc]
      go_simp
      with_reducible refine (norm_q (HX.out.a.mono (l := 700) (by omega)) (by omega) (by omega)).mono ?_
      rintro e w57 ⟨s_y1, A_y1, n_y1, c_y1, t_y1, B_y1, m_y1, d_y1, rfl, h_y1, hbx⟩
      replace HX := Lib.hid (HX.out.below hbx)
      replace H_x9 := Lib.hid (H_x9.out.below hbx)
      replace H_b9 := Lib.hid (H_b9.out.below hbx)
      have H_y1 := Lib.hid h_y1
      clear hbx
      refine hK.out _ _ (by with_reducible exact ⟨HX.out.i1.c0, HX.out.i1.c1, HX.out.i1.c2, HX.out.i1.c3, H_b9.out.c0, H_b9.out.c1, H_b9.out.c2, H_b9.out.c3⟩) (fun hHeld => ?_)
      clear hK K
      try simp only [Act.put, ld, le, lf]
      refine wpAnyH_ready (rs := [15]) (by kernel_rfl) (by simp) ?_
      refine AllReadyH.cons rfl (fun K hK => ?_) AllReadyH.nil
      try simp only [la, lb, lc]
      go_simp
      with_reducible refine (rat_t H_x9.out H_y1.out (Nat.le_trans HL_p.out (by omega)) rfl).mono ?_
      rintro e w58 ⟨rfl, hbx⟩
      replace HX := Lib.hid (HX.out.below hbx)
      replace H_x9 := Lib.hid (H_x9.out.below hbx)
      replace H_b9 := Lib.hid (H_b9.out.below hbx)
      replace H_y1 := Lib.hid (H_y1.out.below hbx)
      clear hbx
      refine hK.out _ _ (by with_reducible exact ⟨HX.out.i1.c0, HX.out.i1.c1, HX.out.i1.c2, HX.out.i1.c3, H_b9.out.c0, H_b9.out.c1, H_b9.out.c2, H_b9.out.c3⟩) (fun hHeld => ?_)
      clear hK K
      try simp only [Act.put, ld, le, lf]
      refine' wpAnyH_take (i := 16) (v := _) rfl (by kernel_rfl) (by kernel_rfl) (by kernel_rfl) (fun _ _ _ h => h) (Or.inl ⟨by rfl, ?y171⟩) (by assumption) ?r171
      case y171 => (intro w hS; (try dsimp only at hS); try simp only [la, lb, lc]; go_simp; (try with_reducible rfl))
      try simp only [la, lb, lc]
      try simp only [Act.put, ld, le, lf]
      refine' wpAnyH_take (i := 17) (v := _) rfl (by kernel_rfl) (by kernel_rfl) (by kernel_rfl) (fun _ _ _ h => h) (Or.inl ⟨by rfl, ?y172⟩) (by assumption) ?r172
      case y172 => (intro w hS; (try dsimp only at hS); try simp only [la, lb, lc]; go_simp; (try with_reducible rfl))
      try simp only [la, lb, lc]
      try simp only [Act.put, ld, le, lf]
      refine wpAnyH_ready (rs := [18]) (by kernel_rfl) (by simp) ?_
      refine AllReadyH.cons rfl (fun K hK => ?_) AllReadyH.nil
      try simp only [la, lb, lc]
      go_simp
      with_reducible refine (awake_q _ (HT.out.below HX.out.bel)).mono ?_
      rintro e w59 ⟨rfl, hbx⟩
      replace HX := Lib.hid (HX.out.below hbx)
      replace H_x9 := Lib.hid (H_x9.out.below hbx)
      replace H_b9 := Lib.hid (H_b9.out.below hbx)
      replace H_y1 := Lib.hid (H_y1.out.below hbx)
      clear hbx
      refine hK.out _ _ (by with_reducible exact ⟨HX.out.i1.c0, HX.out.i1.c1, HX.out.i1.c2, HX.out.i1.c3, H_b9.out.c0, H_b9.out.c1, H_b9.out.c2, H_b9.out.c3⟩) (fun hHeld => ?_)
      clear hK K
      try simp only [Act.put, ld, le, lf]
      refine' wpAnyH_take (i := 19) (v := _) rfl (by kernel_rfl) (by kernel_rfl) (by kernel_rfl) (fun _ _ _ h => h) (Or.inl ⟨by rfl, ?y173⟩) (by assumption) ?r173
      case y173 => (intro w hS; (try dsimp only at hS); try simp only [la, lb, lc]; go_simp; (try with_reducible rfl))
      try simp only [la, lb, lc]
      try simp only [Act.put, ld, le, lf]
      refine' wpAnyH_take (i := 20) (v := _) rfl (by kernel_rfl) (by kernel_rfl) (by kernel_rfl) (fun _ _ _ h => h) (Or.inl ⟨by rfl, ?y174⟩) (by assumption) ?r174
      case y174 => (intro w hS; (try dsimp only at hS); try simp only [la, lb, lc]; go_simp; (try with_reducible rfl))
      try simp only [la, lb, lc]
      try simp only [Act.put, ld, le, lf]
      refine wpAnyH_done (by kernel_rfl) ?_ _
      go_wp2_with fail
      go_ret
      exact ⟨rfl, HX.out.bel⟩
end Go.Proofs.YtngkmkbpcejkeaaGreatDoor.Q