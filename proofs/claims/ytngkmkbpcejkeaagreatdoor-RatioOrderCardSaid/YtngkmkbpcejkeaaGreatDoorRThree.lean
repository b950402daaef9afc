/- Three fractions that came into a law. -/
import Derived.Test.YtngkmkbpcejkeaaGreatDoorRAwake
namespace Go.Proofs.YtngkmkbpcejkeaaGreatDoor.Q
open Go.RowKit

/-- Three fractions' boxes, and what they count. -/
structure Q3 (w wx : World) (sa : Bool) (Aa : Option Addr) (na ca : Nat) (ta : Bool) (Ba : Option Addr) (ma da : Nat) (sb : Bool) (Ab : Option Addr) (nb cb : Nat) (tb : Bool) (Bb : Option Addr) (mb db : Nat) (sc : Bool) (Ac : Option Addr) (nc cc : Nat) (tc : Bool) (Bc : Option Addr) (mc dc : Nat) (p r u : Rat) (k : Nat) : Prop where
  bel : Below w.heap.size w wx
  i1 : Qbx wx w.heap.size sa Aa na ca ta Ba ma da
  i2 : Qbx wx (w.heap.size + 1) sb Ab nb cb tb Bb mb db
  i3 : Qbx wx (w.heap.size + 1 + 1) sc Ac nc cc tc Bc mc dc
  a : IsQ wx sa Aa na ca ta Ba ma da p k
  b : IsQ wx sb Ab nb cb tb Bb mb db r k
  c : IsQ wx sc Ac nc cc tc Bc mc dc u k
section
variable {w wx wy : World} {sa : Bool} {Aa : Option Addr} {na ca : Nat} {ta : Bool} {Ba : Option Addr} {ma da : Nat} {sb : Bool} {Ab : Option Addr} {nb cb : Nat} {tb : Bool} {Bb : Option Addr} {mb db : Nat} {sc : Bool} {Ac : Option Addr} {nc cc : Nat} {tc : Bool} {Bc : Option Addr} {mc dc : Nat} {p r u : Rat} {k : Nat}
theorem Q3.start (h1 : IsQ w sa Aa na ca ta Ba ma da p k) (h2 : IsQ w sb Ab nb cb tb Bb mb db r k) (h3 : IsQ w sc Ac nc cc tc Bc mc dc u k) : Q3 w (((w.alloc (.cells #[.bool sa, .slice Aa na ca, .bool ta, .slice Ba ma da] 28)).alloc (.cells #[.bool sb, .slice Ab nb cb, .bool tb, .slice Bb mb db] 28)).alloc (.cells #[.bool sc, .slice Ac nc cc, .bool tc, .slice Bc mc dc] 28)) sa Aa na ca ta Ba ma da sb Ab nb cb tb Bb mb db sc Ac nc cc tc Bc mc dc p r u k :=
  ⟨(((Below.refl _ _).alloc (Nat.le_refl _) _).alloc (by simp) _).alloc (by simp; omega) _, ((Qbx.new _ _ rfl).alloc _).alloc _, (Qbx.new _ _ (by simp)).alloc _, Qbx.new _ _ (by simp), ((h1.alloc _).alloc _).alloc _, ((h2.alloc _).alloc _).alloc _, ((h3.alloc _).alloc _).alloc _⟩
theorem Q3.below (h : Q3 w wx sa Aa na ca ta Ba ma da sb Ab nb cb tb Bb mb db sc Ac nc cc tc Bc mc dc p r u k) (hb : Below wx.heap.size wx wy) : Q3 w wy sa Aa na ca ta Ba ma da sb Ab nb cb tb Bb mb db sc Ac nc cc tc Bc mc dc p r u k := ⟨below_on h.bel hb, h.i1.below hb, h.i2.below hb, h.i3.below hb, h.a.below hb, h.b.below hb, h.c.below hb⟩
theorem Q3.drew (h : Q3 w wx sa Aa na ca ta Ba ma da sb Ab nb cb tb Bb mb db sc Ac nc cc tc Bc mc dc p r u k) : Q3 w wx.drew sa Aa na ca ta Ba ma da sb Ab nb cb tb Bb mb db sc Ac nc cc tc Bc mc dc p r u k := h.below ((Below.refl _ _).drew)
theorem Q3.keep (h : Q3 w wx sa Aa na ca ta Ba ma da sb Ab nb cb tb Bb mb db sc Ac nc cc tc Bc mc dc p r u k) : wx.cell? ⟨w.heap.size, 0, none⟩ = some (.bool sa) ∧ wx.cell? ⟨w.heap.size, 1, none⟩ = some (.slice Aa na ca) ∧ wx.cell? ⟨w.heap.size, 2, none⟩ = some (.bool ta) ∧ wx.cell? ⟨w.heap.size, 3, none⟩ = some (.slice Ba ma da) ∧ wx.cell? ⟨w.heap.size + 1, 0, none⟩ = some (.bool sb) ∧ wx.cell? ⟨w.heap.size + 1, 1, none⟩ = some (.slice Ab nb cb) ∧ wx.cell? ⟨w.heap.size + 1, 2, none⟩ = some (.bool tb) ∧ wx.cell? ⟨w.heap.size + 1, 3, none⟩ = some (.slice Bb mb db) ∧ wx.cell? ⟨w.heap.size + 1 + 1, 0, none⟩ = some (.bool sc) ∧ wx.cell? ⟨w.heap.size + 1 + 1, 1, none⟩ = some (.slice Ac nc cc) ∧ wx.cell? ⟨w.heap.size + 1 + 1, 2, none⟩ = some (.bool tc) ∧ wx.cell? ⟨w.heap.size + 1 + 1, 3, none⟩ = some (.slice Bc mc dc) :=
  ⟨h.i1.c0, h.i1.c1, h.i1.c2, h.i1.c3, h.i2.c0, h.i2.c1, h.i2.c2, h.i2.c3, h.i3.c0, h.i3.c1, h.i3.c2, h.i3.c3⟩
end
/-- What an operation that did not run has left is no Boolean. -/
@[go_sem] theorem yields_undef : yielded.match_1 (fun _ => Option Bool) (some undef) (fun b => some b) (fun _ => none) = none := rfl
theorem hide_at (d : Nat) (o : Op) (t : TypeId) (p : String) (a : Array Edge) (g : Option (Nat × Bool)) : (Oper.mk (some d) o t p a g) = Oper.mk (some d) (hideL o) t p a g := rfl

set_option maxRecDepth 100000 in
set_option maxHeartbeats 2000000 in
theorem short_j (w : World) (sa : Bool) (Aa : Option Addr) (na ca : Nat) (ta : Bool) (Ba : Option Addr) (ma da : Nat) (sb : Bool) (Ab : Option Addr) (nb cb : Nat) (tb : Bool) (Bb : Option Addr) (mb db : Nat) (sc : Bool) (Ac : Option Addr) (nc cc : Nat) (tc : Bool) (Bc : Option Addr) (mc dc : Nat) (v : Bool) (hv : decide ((na ≤ 12 ∧ ma ≤ 12) ∧ (nb ≤ 12 ∧ mb ≤ 12) ∧ (nc ≤ 12 ∧ mc ≤ 12)) = v) :
    Calls Tryz.prog 54 #[.agg #[.bool sa, .slice Aa na ca, .bool ta, .slice Ba ma da], .agg #[.bool sb, .slice Ab nb cb, .bool tb, .slice Bb mb db], .agg #[.bool sc, .slice Ac nc cc, .bool tc, .slice Bc mc dc]] w (RetB w v) := by
  have HQ : Hid (Qbx (((w.alloc (.cells #[.bool sa, .slice Aa na ca, .bool ta, .slice Ba ma da] 28)).alloc (.cells #[.bool sb, .slice Ab nb cb, .bool tb, .slice Bb mb db] 28)).alloc (.cells #[.bool sc, .slice Ac nc cc, .bool tc, .slice Bc mc dc] 28)) (w.heap.size + 1) sb Ab nb cb tb Bb mb db ∧ Qbx (((w.alloc (.cells #[.bool sa, .slice Aa na ca, .bool ta, .slice Ba ma da] 28)).alloc (.cells #[.bool sb, .slice Ab nb cb, .bool tb, .slice Bb mb db] 28)).alloc (.cells #[.bool sc, .slice Ac nc cc, .bool tc, .slice Bc mc dc] 28)) (w.heap.size + 1 + 1) sc Ac nc cc tc Bc mc dc) := ⟨(Qbx.new _ _ (by simp)).alloc _, Qbx.new _ _ (by simp)⟩
  have HW : Hid (Below w.heap.size w (((w.alloc (.cells #[.bool sa, .slice Aa na ca, .bool ta, .slice Ba ma da] 28)).alloc (.cells #[.bool sb, .slice Ab nb cb, .bool tb, .slice Bb mb db] 28)).alloc (.cells #[.bool sc, .slice Ac nc cc, .bool tc, .slice Bc mc dc] 28))) := (((Below.refl _ _).alloc (Nat.le_refl _) _).alloc (by simp) _).alloc (by simp; omega) _
  obtain ⟨va, hva⟩ : ∃ va, decide (na ≤ 12 ∧ ma ≤ 12) = va := ⟨_, rfl⟩
  obtain ⟨vb, hvb⟩ : ∃ vb, decide (nb ≤ 12 ∧ mb ≤ 12) = vb := ⟨_, rfl⟩
  obtain ⟨vc, hvc⟩ : ∃ vc, decide (nc ≤ 12 ∧ mc ≤ 12) = vc := ⟨_, rfl⟩
  have hvv : (va && (vb && vc)) = v := by rw [← hv, ← hva, ← hvb, ← hvc]; simp only [Bool.decide_and]
  have HA := Lib.hid hva
  have HB := Lib.hid hvb
  have HC := Lib.hid hvc
  clear hv hva hvb hvc
  cases va with
  | false =>
    have HV : Hid (false = v) := hvv
    clear hvv
    go_enter Tryz.func54, Tryz.ntmps54
    go_wp2_with fail
    refine (shortrat_j _ sa ta Aa Ba na ca ma da 12 false HA.out).mono ?_
    rintro e w1 ⟨rfl, hb1⟩
    have HW1 := Lib.hid (below_on HW.out hb1)
    clear hb1
    go_wp2_with fail
    go_ret
    rw [← HV.out]
    exact ⟨rfl, HW1.out⟩
  | true =>
    cases vb with
    | false =>
      have HV : Hid (false = v) := hvv
      clear hvv
      go_enter Tryz.func54, Tryz.ntmps54
      go_wp2_with fail
      refine (shortrat_j _ sa ta Aa Ba na ca ma da 12 true HA.out).mono ?_
      rintro e w1 ⟨rfl, hb1⟩
      have HW1 := Lib.hid (below_on HW.out hb1)
      have HQ1 := Lib.hid (HQ.out.1.below hb1)
      clear hb1
      have k0 := HQ1.out.c0
      have k1 := HQ1.out.c1
      have k2 := HQ1.out.c2
      have k3 := HQ1.out.c3
      go_wp2_with fail
      refine (shortrat_j _ sb tb Ab Bb nb cb mb db 12 false HB.out).mono ?_
      rintro e w2 ⟨rfl, hb2⟩
      have HW2 := Lib.hid (below_on HW1.out hb2)
      clear hb2
      go_wp2_with fail
      go_ret
      rw [← HV.out]
      exact ⟨rfl, HW2.out⟩
    | true =>
      have HV : Hid (vc = v) := hvv
      clear hvv
      go_enter Tryz.func54, Tryz.ntmps54
      go_wp2_with fail
      refine (shortrat_j _ sa ta Aa Ba na ca ma da 12 true HA.out).mono ?_
      rintro e w1 ⟨rfl, hb1⟩
      have HW1 := Lib.hid (below_on HW.out hb1)
      have HQ1 := Lib.hid (HQ.out.1.below hb1)
      have HR1 := Lib.hid (HQ.out.2.below hb1)
      clear hb1
      have k0 := HQ1.out.c0
      have k1 := HQ1.out.c1
      have k2 := HQ1.out.c2
      have k3 := HQ1.out.c3
      go_wp2_with fail
      refine (shortrat_j _ sb tb Ab Bb nb cb mb db 12 true HB.out).mono ?_
      rintro e w2 ⟨rfl, hb2⟩
      have HW2 := Lib.hid (below_on HW1.out hb2)
      have HR2 := Lib.hid (HR1.out.below hb2)
      clear hb2 k0 k1 k2 k3
      have k0 := HR2.out.c0
      have k1 := HR2.out.c1
      have k2 := HR2.out.c2
      have k3 := HR2.out.c3
      go_wp2_with fail
      refine (shortrat_j _ sc tc Ac Bc nc cc mc dc 12 vc HC.out).mono ?_
      rintro e w3 ⟨rfl, hb3⟩
      have HW3 := Lib.hid (below_on HW2.out hb3)
      clear hb3
      go_wp2_with fail
      go_ret
      rw [HV.out]
      exact ⟨rfl, HW3.out⟩

end Go.Proofs.YtngkmkbpcejkeaaGreatDoor.Q