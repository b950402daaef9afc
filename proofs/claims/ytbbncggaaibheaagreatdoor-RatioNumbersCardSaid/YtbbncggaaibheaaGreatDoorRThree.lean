/- Three fractions that came into a law. -/
import Derived.Test.YtbbncggaaibheaaGreatDoorRAwake
namespace Go.Proofs.YtbbncggaaibheaaGreatDoor.Q
open Go.RowKit

/-- Three fractions' boxes, and what they count. -/
structure Q3 (w wx : World) (sa : Bool) (Aa : Option Addr) (na ca : Nat) (ta : Bool) (Ba : Option Addr) (ma da : Nat) (sb : Bool) (Ab : Option Addr) (nb cb : Nat) (tb : Bool) (Bb : Option Addr) (mb db : Nat) (sc : Bool) (Ac : Option Addr) (nc cc : Nat) (tc : Bool) (Bc : Option Addr) (mc dc : Nat) (p r u : Rat) (k : Nat) : Prop where
  bel : Below w.heap.size w wx
  i1 : Qbx wx w.heap.size sa Aa na ca ta Ba ma da
  i2 : Qbx wx (w.heap.size + 1) sb Ab nb cb tb Bb mb db
  i3 : Qbx wx (w.heap.size + 1 + 1) sc Ac nc cc tc Bc mc dc
  a : IsQ wx sa Aa na ca ta Ba ma da p k
  b : IsQ wx sb Ab nb cb tb Bb mb db r k
  c : IsQ wx sc Ac nc cc tc Bc mc dc u k
section
variable {w wx wy : World} {sa : Bool} {Aa : Option Addr} {na ca : Nat} {ta : Bool} {Ba : Option Addr} {ma da : Nat} {sb : Bool} {Ab : Option Addr} {nb cb : Nat} {tb : Bool} {Bb : Option Addr} {mb db : Nat} {sc : Bool} {Ac : Option Addr} {nc cc : Nat} {tc : Bool} {Bc : Option Addr} {mc dc : Nat} {p r u : Rat} {k : Nat}
theorem Q3.start (h1 : IsQ w sa Aa na ca ta Ba ma da p k) (h2 : IsQ w sb Ab nb cb tb Bb mb db r k) (h3 : IsQ w sc Ac nc cc tc Bc mc dc u k) : Q3 w (((w.alloc (.cells #[.bool sa, .slice Aa na ca, .bool ta, .slice Ba ma da] 28)).alloc (.cells #[.bool sb, .slice Ab nb cb, .bool tb, .slice Bb mb db] 28)).alloc (.cells #[.bool sc, .slice Ac nc cc, .bool tc, .slice Bc mc dc] 28)) sa Aa na ca ta Ba ma da sb Ab nb cb tb Bb mb db sc Ac nc cc tc Bc mc dc p r u k :=
  ⟨(((Below.refl _ _).alloc (Nat.le_refl _) _).alloc (by simp) _).alloc (by simp; omega) _, ((Qbx.new _ _ rfl).alloc _).alloc _, (Qbx.new _ _ (by simp)).alloc _, Qbx.new _ _ (by simp), ((h1.alloc _).alloc _).alloc _, ((h2.alloc _).alloc _).alloc _, ((h3.alloc _).alloc _).alloc _⟩
theorem Q3.below (h : Q3 w wx sa Aa na ca ta Ba ma da sb Ab nb cb tb Bb mb db sc Ac nc cc tc Bc mc dc p r u k) (hb : Below wx.heap.size wx wy) : Q3 w wy sa Aa na ca ta Ba ma da sb Ab nb cb tb Bb mb db sc Ac nc cc tc Bc mc dc p r u k := ⟨below_on h.bel hb, h.i1.below hb, h.i2.below hb, h.i3.below hb, h.a.below hb, h.b.below hb, h.c.below hb⟩
theorem Q3.drew (h : Q3 w wx sa Aa na ca ta Ba ma da sb Ab nb cb tb Bb mb db sc Ac nc cc tc Bc mc dc p r u k) : Q3 w wx.drew sa Aa na ca ta Ba ma da sb Ab nb cb tb Bb mb db sc Ac nc cc tc Bc mc dc p r u k := h.below ((Below.refl _ _).drew)
theorem Q3.keep (h : Q3 w wx sa Aa na ca ta Ba ma da sb Ab nb cb tb Bb mb db sc Ac nc cc tc Bc mc dc p r u k) : wx.cell? ⟨w.heap.size, 0, none⟩ = some (.bool sa) ∧ wx.cell? ⟨w.heap.size, 1, none⟩ = some (.slice Aa na ca) ∧ wx.cell? ⟨w.heap.size, 2, none⟩ = some (.bool ta) ∧ wx.cell? ⟨w.heap.size, 3, none⟩ = some (.slice Ba ma da) ∧ wx.cell? ⟨w.heap.size + 1, 0, none⟩ = some (.bool sb) ∧ wx.cell? ⟨w.heap.size + 1, 1, none⟩ = some (.slice Ab nb cb) ∧ wx.cell? ⟨w.heap.size + 1, 2, none⟩ = some (.bool tb) ∧ wx.cell? ⟨w.heap.size + 1, 3, none⟩ = some (.slice Bb mb db) ∧ wx.cell? ⟨w.heap.size + 1 + 1, 0, none⟩ = some (.bool sc) ∧ wx.cell? ⟨w.heap.size + 1 + 1, 1, none⟩ = some (.slice Ac nc cc) ∧ wx.cell? ⟨w.heap.size + 1 + 1, 2, none⟩ = some (.bool tc) ∧ wx.cell? ⟨w.heap.size + 1 + 1, 3, none⟩ = some (.slice Bc mc dc) :=
  ⟨h.i1.c0, h.i1.c1, h.i1.c2, h.i1.c3, h.i2.c0, h.i2.c1, h.i2.c2, h.i2.c3, h.i3.c0, h.i3.c1, h.i3.c2, h.i3.c3⟩
end
/-- What an operation that did not run has left is no Boolean. -/
@[go_sem] theorem yields_undef : yielded.match_1 (fun _ => Option Bool) (some undef) (fun b => some b) (fun _ => none) = none := rfl
theorem hide_at (d : Nat) (o : Op) (t : TypeId) (p : String) (a : Array Edge) (g : Option (Nat × Bool)) : (Oper.mk (some d) o t p a g) = Oper.mk (some d) (hideL o) t p a g := rfl

end Go.Proofs.YtbbncggaaibheaaGreatDoor.Q