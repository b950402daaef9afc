/- Part 23 of the proof: RAwake, ROpen, VMath. -/
import Derived.Test.YthjiacmhhpfokaaGreatL21
import Derived.Test.YthjiacmhhpfokaaGreatL22
import Derived.Test.YthjiacmhhpfokaaGreatRows
import Derived.ProofKit
import Derived.ShutString
import Derived.ChangeOld
import Derived.Below
import Derived.Lib.SmallJoins
namespace Go.Proofs.YthjiacmhhpfokaaGreat
namespace Q
open Go.RowKit
end Q

namespace Q
open Go.ChangeShapes Go.WideShapes Go.ChangeAt Go.RowKit Go.Joins
def IsRow (w : World) (a : Option Addr) (len cap : Nat) (zs : List Int) : Prop :=
 (a = none ∧ len = 0 ∧ cap = 0 ∧ zs = []) ∨
 ∃ x, a = some x ∧ len ≤ cap ∧ cap ≤ maxLen ∧ zs.length = cap ∧ (∀ i, i < zs.length → w.cell? (x.add i) = some (.int .u64 (zs.getD i 0))) ∧ ∀ n ∈ zs, (Lit.int .u64 n).wf = true
theorem cellsI : Tryz.prog.cellsOf 25 = 2 := by kernel_rfl
theorem cellsQ : Tryz.prog.cellsOf 27 = 4 := by kernel_rfl
theorem cellsB : Tryz.prog.cellsOf 4 = 1 := by kernel_rfl
theorem cellsS : Tryz.prog.cellsOf 23 = 1 := by kernel_rfl
set_option maxRecDepth 100000 in
theorem open_int2 {H : Type} {enc : TypeId × Value → H} {W : World} {fuel : Nat} {c0 c1 : Value} {x : DataW H × List MemPlace} (h : DataW.trod enc Tryz.prog W 0 (fun _ => true) true fuel 25 [c0, c1] = some x) :
  ∃ s a len cap zs, c0 = .bool s ∧ c1 = .slice a len cap ∧ IsRow W a len cap zs := by
 obtain ⟨y0, y1, m, -, -, hy0, hy1⟩ := trod_struct2 Tryz.underlying25 h
 rw [cellsB] at hy0
 rw [cellsS] at hy1
 obtain ⟨s, e0, -⟩ := DataW.trod_bool Tryz.underlying4 hy0
 simp only [List.drop_zero, List.take_succ_cons, List.take_zero, List.cons.injEq, and_true] at e0
 rcases open_ints Tryz.underlying23 Tryz.underlying164 (by kernel_rfl) hy1 with ⟨hcs, _⟩ | ⟨x, l, c, zs, hcs, _, hl, hm, hz, _, hcell, hwz⟩
 ·simp only [List.drop_succ_cons, List.drop_zero, List.take_succ_cons, List.take_zero, List.cons.injEq, and_true] at hcs
  exact ⟨s, none, 0, 0, [], e0, hcs, .inl ⟨rfl, rfl, rfl, rfl⟩⟩
 ·simp only [List.drop_succ_cons, List.drop_zero, List.take_succ_cons, List.take_zero, List.cons.injEq, and_true] at hcs
  exact ⟨s, some x, l, c, zs, e0, hcs, .inr ⟨_, rfl, hl, hm, by simpa using hz, hcell, hwz⟩⟩
theorem isq_rows {w : World} {s t : Bool} {a b : Option Addr} {len cap len2 cap2 : Nat} {zs ys : List Int} (h1 : IsRow w a len cap zs) (h2 : IsRow w b len2 cap2 ys) : ∃ q, IsQ w s a len cap t b len2 cap2 q (max len len2) := by
 obtain ⟨xs, rfl, n1, k1⟩ := num_of_row h1
 obtain ⟨us, rfl, n2, k2⟩ := num_of_row h2
 exact ⟨_, ⟨xs, us, rfl, rfl, n1, n2, rfl⟩, by omega, by omega, k1, k2⟩
end Q

namespace V
def tot : List (Int × Rat) → Int → Rat
 | [], _ => 0
 | (p, q) :: l, a => (if p = a then q else 0) + tot l a
theorem tot_nil (a : Int) : tot [] a = 0 := rfl
theorem tot_cons (p : Int) (q : Rat) (l : List (Int × Rat)) (a : Int) : tot ((p, q) :: l) a = (if p = a then q else 0) + tot l a := rfl
theorem tot_append (l m : List (Int × Rat)) (a : Int) : tot (l ++ m) a = tot l a + tot m a := by
 induction l with
 | nil => show tot m a = 0 + tot m a; grind
 | cons x l ih => obtain ⟨p, q⟩ := x; rw [List.cons_append, tot_cons, tot_cons, ih]; grind
theorem tot_perm {l m : List (Int × Rat)} (h : l.Perm m) (a : Int) : tot l a = tot m a := by
 induction h with
 | nil => rfl
 | cons x _ ih => obtain ⟨p, q⟩ := x; rw [tot_cons, tot_cons, ih]
 | swap x y l => obtain ⟨p, q⟩ := x; obtain ⟨r, s⟩ := y; rw [tot_cons, tot_cons, tot_cons, tot_cons]; grind
 | trans _ _ h1 h2 => exact h1.trans h2
theorem tot_none {l : List (Int × Rat)} {a : Int} (h : ∀ x ∈ l, x.1 ≠ a) : tot l a = 0 := by
 induction l with
 | nil => rfl
 | cons x l ih =>
  obtain ⟨p, q⟩ := x
  rw [tot_cons, if_neg (h (p, q) (List.mem_cons_self ..)), ih (fun y hy => h y (List.mem_cons_of_mem _ hy))]
  grind
def all : List (Int × Rat) → Rat
 | [] => 0
 | (_, q) :: l => q + all l
theorem all_append (l m : List (Int × Rat)) : all (l ++ m) = all l + all m := by
 induction l with
 | nil => show all m = 0 + all m; grind
 | cons x l ih => obtain ⟨p, q⟩ := x; show q + all (l ++ m) = q + all l + all m; rw [ih]; grind
theorem all_tot {l : List (Int × Rat)} {a : Int} (h : ∀ x ∈ l, x.1 = a) : all l = tot l a := by
 induction l with
 | nil => rfl
 | cons x l ih =>
  obtain ⟨p, q⟩ := x
  rw [tot_cons, if_pos (h (p, q) (List.mem_cons_self ..)), ← ih (fun y hy => h y (List.mem_cons_of_mem _ hy))]
  rfl
structure Canon (l : List (Int × Rat)) : Prop where
 up : l.Pairwise (fun x y => x.1 < y.1)
 nz : ∀ x ∈ l, x.2 ≠ 0
theorem Canon.nil : Canon [] := ⟨List.Pairwise.nil, fun _ h => by cases h⟩
theorem Canon.tail {x : Int × Rat} {l : List (Int × Rat)} (h : Canon (x :: l)) : Canon l := ⟨(List.pairwise_cons.1 h.up).2, fun y hy => h.nz y (List.mem_cons_of_mem _ hy)⟩
theorem Canon.head {x : Int × Rat} {l : List (Int × Rat)} (h : Canon (x :: l)) : ∀ y ∈ l, x.1 < y.1 := (List.pairwise_cons.1 h.up).1
theorem Canon.tot_head {x : Int × Rat} {l : List (Int × Rat)} (h : Canon (x :: l)) : tot (x :: l) x.1 = x.2 := by
 obtain ⟨p, q⟩ := x
 rw [tot_cons, if_pos rfl, tot_none (fun y hy => by have := h.head y hy; omega)]
 grind
theorem Canon.tot_lt {x : Int × Rat} {l : List (Int × Rat)} (h : Canon (x :: l)) {a : Int} (ha : a < x.1) : tot (x :: l) a = 0 := by
 apply tot_none
 intro y hy
 rcases List.mem_cons.1 hy with rfl | hy
 ·omega
 ·have := h.head y hy; omega
theorem Canon.tot_tail {x : Int × Rat} {l : List (Int × Rat)} (h : Canon (x :: l)) {a : Int} (ha : a ≠ x.1) : tot (x :: l) a = tot l a := by
 obtain ⟨p, q⟩ := x
 rw [tot_cons, if_neg (fun e => ha e.symm)]
 grind
theorem Canon.ext {l m : List (Int × Rat)} (hl : Canon l) (hm : Canon m) (h : ∀ a, tot l a = tot m a) : l = m := by
 induction l generalizing m with
 | nil =>
  cases m with
  | nil => rfl
  | cons y m => exact absurd ((hm.tot_head.symm.trans (h y.1).symm).trans (tot_nil _)) (hm.nz y (List.mem_cons_self ..))
 | cons x l ih =>
  cases m with
  | nil => exact absurd ((hl.tot_head.symm.trans (h x.1)).trans (tot_nil _)) (hl.nz x (List.mem_cons_self ..))
  | cons y m =>
   have hxy : x.1 = y.1 := by
    rcases Int.lt_trichotomy x.1 y.1 with h1 | h1 | h1
    ·exact absurd ((hl.tot_head.symm.trans (h x.1)).trans (hm.tot_lt h1)) (hl.nz x (List.mem_cons_self ..))
    ·exact h1
    ·exact absurd ((hm.tot_head.symm.trans (h y.1).symm).trans (hl.tot_lt h1)) (hm.nz y (List.mem_cons_self ..))
   have hq : x.2 = y.2 := by rw [← hl.tot_head, h x.1, hxy, hm.tot_head]
   obtain rfl : x = y := Prod.ext hxy hq
   have ht : ∀ a, tot l a = tot m a := by
    intro a
    by_cases ha : a = x.1
    ·rw [ha, tot_none (fun z hz => by have := hl.head z hz; omega), tot_none (fun z hz => by have := hm.head z hz; omega)]
    ·rw [← hl.tot_tail ha, ← hm.tot_tail ha, h a]
   rw [ih hl.tail hm.tail ht]
structure Gone (x y : List (Int × Rat)) (D : List (Int × Rat × Rat)) : Prop where
 up : D.Pairwise (fun s t => s.1 < t.1)
 has : ∀ s ∈ D, s.2.1 = tot x s.1 ∧ s.2.2 = tot y s.1
 out : ∀ a, (∀ s ∈ D, s.1 ≠ a) → tot x a = 0 ∧ tot y a = 0
def kept (f : Rat → Rat → Rat) : List (Int × Rat × Rat) → List (Int × Rat)
 | [] => []
 | (a, v, w) :: D => if f v w = 0 then kept f D else (a, f v w) :: kept f D
theorem kept_snoc (f : Rat → Rat → Rat) (D : List (Int × Rat × Rat)) (a : Int) (v w : Rat) : kept f (D ++ [(a, v, w)]) = if f v w = 0 then kept f D else kept f D ++ [(a, f v w)] := by
 induction D with
 | nil => show kept f [(a, v, w)] = _; unfold kept; split <;> rfl
 | cons s D ih =>
  obtain ⟨b, p, q⟩ := s
  rw [List.cons_append]
  unfold kept
  rw [ih]
  split <;> split <;> rfl
theorem kept_mem {f : Rat → Rat → Rat} {D : List (Int × Rat × Rat)} {z : Int × Rat} (h : z ∈ kept f D) : ∃ s ∈ D, z.1 = s.1 ∧ z.2 = f s.2.1 s.2.2 ∧ z.2 ≠ 0 := by
 induction D with
 | nil => cases h
 | cons s D ih =>
  obtain ⟨b, p, q⟩ := s
  unfold kept at h
  split at h
  ·obtain ⟨t, ht, h1⟩ := ih h
   exact ⟨t, List.mem_cons_of_mem _ ht, h1⟩
  ·rcases List.mem_cons.1 h with rfl | h
   ·exact ⟨_, List.mem_cons_self .., rfl, rfl, by assumption⟩
   ·obtain ⟨t, ht, h1⟩ := ih h
    exact ⟨t, List.mem_cons_of_mem _ ht, h1⟩
theorem kept_canon {f : Rat → Rat → Rat} {D : List (Int × Rat × Rat)} (h : D.Pairwise (fun s t => s.1 < t.1)) : Canon (kept f D) := by
 refine ⟨?_, fun z hz => by obtain ⟨_, _, _, _, h⟩ := kept_mem hz; exact h⟩
 induction D with
 | nil => exact List.Pairwise.nil
 | cons s D ih =>
  obtain ⟨b, p, q⟩ := s
  obtain ⟨h1, h2⟩ := List.pairwise_cons.1 h
  unfold kept
  split
  ·exact ih h2
  ·refine List.pairwise_cons.2 ⟨fun z hz => ?_, ih h2⟩
   obtain ⟨t, ht, e, _⟩ := kept_mem hz
   rw [e]
   exact h1 t ht
theorem kept_tot {f : Rat → Rat → Rat} {D : List (Int × Rat × Rat)} (h : D.Pairwise (fun s t => s.1 < t.1)) (s : Int × Rat × Rat) (hs : s ∈ D) : tot (kept f D) s.1 = f s.2.1 s.2.2 := by
 induction D with
 | nil => cases hs
 | cons u D ih =>
  obtain ⟨b, p, q⟩ := u
  obtain ⟨h1, h2⟩ := List.pairwise_cons.1 h
  have hrest : ∀ z ∈ kept f D, b < z.1 := by
   intro z hz
   obtain ⟨t, ht, e, _⟩ := kept_mem hz
   rw [e]
   exact h1 t ht
  rcases List.mem_cons.1 hs with rfl | hs
  ·show tot (kept f ((b, p, q) :: D)) b = f p q
   unfold kept
   have h0 : tot (kept f D) b = 0 := tot_none (fun z hz => by have := hrest z hz; omega)
   split
   ·next e => rw [h0, e]
   ·rw [tot_cons, if_pos rfl, h0]; grind
  ·have hb : b < s.1 := h1 s hs
   unfold kept
   split
   ·exact ih h2 hs
   ·rw [tot_cons, if_neg (by omega), ih h2 hs]; grind
theorem Gone.tot {x y : List (Int × Rat)} {D : List (Int × Rat × Rat)} (h : Gone x y D) {f : Rat → Rat → Rat} (hf : f 0 0 = 0) (a : Int) : V.tot (kept f D) a = f (V.tot x a) (V.tot y a) := by
 by_cases ha : ∃ s ∈ D, s.1 = a
 ·obtain ⟨s, hs, rfl⟩ := ha
  rw [kept_tot h.up s hs, (h.has s hs).1, (h.has s hs).2]
 ·have ha2 : ∀ s ∈ D, s.1 ≠ a := fun s hs e => ha ⟨s, hs, e⟩
  obtain ⟨h1, h2⟩ := h.out a ha2
  rw [h1, h2, hf]
  apply tot_none
  intro z hz
  obtain ⟨s, hs, e, _⟩ := kept_mem hz
  rw [e]
  exact ha2 s hs
def over (f : Int → Rat) : List Int → Rat
 | [] => 0
 | a :: l => f a + over f l
theorem over_append (f : Int → Rat) (l m : List Int) : over f (l ++ m) = over f l + over f m := by
 induction l with
 | nil => show over f m = 0 + over f m; grind
 | cons a l ih => show f a + over f (l ++ m) = f a + over f l + over f m; rw [ih]; grind
theorem over_perm {f : Int → Rat} {l m : List Int} (h : l.Perm m) : over f l = over f m := by
 induction h with
 | nil => rfl
 | cons x _ ih => show f x + _ = f x + _; rw [ih]
 | swap x y l => show f y + (f x + over f l) = f x + (f y + over f l); grind
 | trans _ _ h1 h2 => exact h1.trans h2
theorem over_congr {f g : Int → Rat} {l : List Int} (h : ∀ a ∈ l, f a = g a) : over f l = over g l := by
 induction l with
 | nil => rfl
 | cons a l ih => show f a + over f l = g a + over g l; rw [h a (List.mem_cons_self ..), ih (fun b hb => h b (List.mem_cons_of_mem _ hb))]
theorem over_filter (f : Int → Rat) (l : List Int) : over f (l.filter (fun a => decide (f a ≠ 0))) = over f l := by
 induction l with
 | nil => rfl
 | cons a l ih =>
  by_cases h : f a = 0
  ·rw [List.filter_cons_of_neg (by simp [h]), ih]
   show over f l = f a + over f l
   rw [h]; grind
  ·rw [List.filter_cons_of_pos (by simp [h])]
   show f a + over f (l.filter _) = f a + over f l
   rw [ih]
theorem over_same {f : Int → Rat} {l m : List Int} (hl : l.Nodup) (hm : m.Nodup) (h1 : ∀ a, a ∉ l → f a = 0) (h2 : ∀ a, a ∉ m → f a = 0) : over f l = over f m := by
 rw [← over_filter f l, ← over_filter f m]
 apply over_perm
 refine (List.perm_ext_iff_of_nodup (hl.sublist List.filter_sublist) (hm.sublist List.filter_sublist)).2 fun a => ?_
 rw [List.mem_filter, List.mem_filter]
 constructor
 ·rintro ⟨_, h⟩
  refine ⟨?_, h⟩
  by_cases hm : a ∈ m
  ·exact hm
  ·simp [h2 a hm] at h
 ·rintro ⟨_, h⟩
  refine ⟨?_, h⟩
  by_cases hl : a ∈ l
  ·exact hl
  ·simp [h1 a hl] at h
def Over (P N : Nat) (q : Rat) : Prop := ∃ n : Int, q * (P : Rat) = (n : Rat) ∧ n.natAbs ≤ N
theorem Over.zero (P N : Nat) : Over P N 0 := ⟨0, by rw [Rat.zero_mul]; rfl, by simp⟩
theorem Over.mono {P N M : Nat} {q : Rat} (h : Over P N q) (hm : N ≤ M) : Over P M q := by obtain ⟨n, h1, h2⟩ := h; exact ⟨n, h1, Nat.le_trans h2 hm⟩
theorem Over.add {P N M : Nat} {q r : Rat} (h : Over P N q) (g : Over P M r) : Over P (N + M) (q + r) := by
 obtain ⟨n, h1, h2⟩ := h
 obtain ⟨m, g1, g2⟩ := g
 exact ⟨n + m, by rw [Rat.add_mul, h1, g1, Rat.intCast_add], by omega⟩
theorem Over.mul {P Q N M : Nat} {q r : Rat} (h : Over P N q) (g : Over Q M r) : Over (P * Q) (N * M) (q * r) := by
 obtain ⟨n, h1, h2⟩ := h
 obtain ⟨m, g1, g2⟩ := g
 refine ⟨n * m, ?_, by rw [Int.natAbs_mul]; exact Nat.mul_le_mul h2 g2⟩
 rw [Rat.natCast_mul, Rat.intCast_mul, ← h1, ← g1]
 grind
theorem Over.up {P N : Nat} {q : Rat} (h : Over P N q) (Q : Nat) : Over (P * Q) (N * Q) q := by
 obtain ⟨n, h1, h2⟩ := h
 refine ⟨n * (Q : Int), ?_, by rw [Int.natAbs_mul, Int.natAbs_natCast]; exact Nat.mul_le_mul_right _ h2⟩
 rw [Rat.natCast_mul, Rat.intCast_mul, ← h1]
 show q * ((P : Rat) * (Q : Rat)) = q * (P : Rat) * (((Q : Int)) : Rat)
 rw [Rat.intCast_natCast]
 grind
theorem Over.self (q : Rat) : Over q.den q.num.natAbs q := ⟨q.num, by
 have h := Q.div_mul q.num (d := (q.den : Int)) (by have := q.den_nz; omega)
 rw [Rat.num_divInt_den, Rat.intCast_natCast] at h
 exact h, Nat.le_refl _⟩
theorem Over.tot {P N : Nat} {l : List (Int × Rat)} (h : ∀ x ∈ l, Over P N x.2) (a : Int) : Over P (l.length * N) (V.tot l a) := by
 induction l with
 | nil => exact Over.zero _ _
 | cons x l ih =>
  obtain ⟨p, q⟩ := x
  have h1 := ih (fun y hy => h y (List.mem_cons_of_mem _ hy))
  rw [tot_cons, List.length_cons, Nat.succ_mul, Nat.add_comm]
  refine Over.add ?_ h1
  split
  ·exact h (p, q) (List.mem_cons_self ..)
  ·exact Over.zero _ _
theorem Over.all {P N : Nat} {l : List (Int × Rat)} (h : ∀ x ∈ l, Over P N x.2) : Over P (l.length * N) (V.all l) := by
 induction l with
 | nil => exact Over.zero _ _
 | cons x l ih =>
  obtain ⟨p, q⟩ := x
  have h1 := ih (fun y hy => h y (List.mem_cons_of_mem _ hy))
  show Over P _ (q + V.all l)
  rw [List.length_cons, Nat.succ_mul, Nat.add_comm]
  exact Over.add (h (p, q) (List.mem_cons_self ..)) h1
def Up (l : List (Int × Rat)) : Prop := l.Pairwise (fun x y => x.1 ≤ y.1)
theorem Up.drop {l : List (Int × Rat)} (h : Up l) (n : Nat) : Up (l.drop n) := List.Pairwise.sublist (List.drop_sublist n l) h
def lead : List (Int × Rat) → Int → Nat
 | [], _ => 0
 | x :: l, a => if x.1 = a then lead l a + 1 else 0
theorem lead_le (l : List (Int × Rat)) (a : Int) : lead l a ≤ l.length := by
 induction l with
 | nil => exact Nat.le_refl _
 | cons x l ih => unfold lead; split <;> simp <;> omega
theorem lead_take (l : List (Int × Rat)) (a : Int) : ∀ x ∈ l.take (lead l a), x.1 = a := by
 induction l with
 | nil => intro x hx; simp at hx
 | cons y l ih =>
  intro x hx
  unfold lead at hx
  split at hx
  ·rw [List.take_succ_cons] at hx
   rcases List.mem_cons.1 hx with rfl | hx
   ·assumption
   ·exact ih x hx
  ·simp at hx
theorem lead_rest {l : List (Int × Rat)} {a : Int} (hu : Up l) (ha : ∀ x ∈ l, a ≤ x.1) : ∀ x ∈ l.drop (lead l a), a < x.1 := by
 induction l with
 | nil => intro x hx; simp at hx
 | cons y l ih =>
  obtain ⟨h1, h2⟩ := List.pairwise_cons.1 hu
  intro x hx
  unfold lead at hx
  split at hx
  ·rw [List.drop_succ_cons] at hx
   exact ih h2 (fun z hz => ha z (List.mem_cons_of_mem _ hz)) x hx
  ·next hne =>
   have hy := ha y (List.mem_cons_self ..)
   rw [List.drop_zero] at hx
   rcases List.mem_cons.1 hx with rfl | hx
   ·omega
   ·have := h1 x hx; omega
theorem tot_lead {l : List (Int × Rat)} {a : Int} (hu : Up l) (ha : ∀ x ∈ l, a ≤ x.1) : all (l.take (lead l a)) = tot l a := by
 rw [all_tot (lead_take l a)]
 conv => rhs; rw [← List.take_append_drop (lead l a) l]
 rw [tot_append, tot_none (l := l.drop (lead l a)) (fun x hx => by have := lead_rest hu ha x hx; omega)]
 grind
structure Going (x y x2 y2 : List (Int × Rat)) (D : List (Int × Rat × Rat)) : Prop where
 ux : Up x2
 uy : Up y2
 ex : ∃ x1, x = x1 ++ x2 ∧ ∀ t ∈ x1, ∃ s ∈ D, s.1 = t.1
 ey : ∃ y1, y = y1 ++ y2 ∧ ∀ t ∈ y1, ∃ s ∈ D, s.1 = t.1
 up : D.Pairwise (fun s t => s.1 < t.1)
 bx : ∀ s ∈ D, ∀ t ∈ x2, s.1 < t.1
 by_ : ∀ s ∈ D, ∀ t ∈ y2, s.1 < t.1
 has : ∀ s ∈ D, s.2.1 = tot x s.1 ∧ s.2.2 = tot y s.1
theorem Going.start {x y : List (Int × Rat)} (hx : Up x) (hy : Up y) : Going x y x y [] :=
 ⟨hx, hy, ⟨[], rfl, (fun _ h => by cases h)⟩, ⟨[], rfl, (fun _ h => by cases h)⟩, List.Pairwise.nil, (fun _ h => by cases h), (fun _ h => by cases h), (fun _ h => by cases h)⟩
theorem Going.gone {x y : List (Int × Rat)} {D : List (Int × Rat × Rat)} (h : Going x y [] [] D) : Gone x y D := by
 refine ⟨h.up, h.has, fun a ha => ?_⟩
 obtain ⟨x1, e1, g1⟩ := h.ex
 obtain ⟨y1, e2, g2⟩ := h.ey
 rw [List.append_nil] at e1 e2
 subst e1 e2
 exact ⟨tot_none (fun t ht e => by obtain ⟨s, hs, e2⟩ := g1 t ht; exact ha s hs (e2.trans e)), tot_none (fun t ht e => by obtain ⟨s, hs, e2⟩ := g2 t ht; exact ha s hs (e2.trans e))⟩
theorem Going.step {x y x2 y2 : List (Int × Rat)} {D : List (Int × Rat × Rat)} (h : Going x y x2 y2 D) {a : Int} (hx : ∀ t ∈ x2, a ≤ t.1) (hy : ∀ t ∈ y2, a ≤ t.1) (hD : ∀ s ∈ D, s.1 < a) :
  Going x y (x2.drop (lead x2 a)) (y2.drop (lead y2 a)) (D ++ [(a, all (x2.take (lead x2 a)), all (y2.take (lead y2 a)))]) := by
 obtain ⟨x1, e1, g1⟩ := h.ex
 obtain ⟨y1, e2, g2⟩ := h.ey
 have side : ∀ (u u1 u2 : List (Int × Rat)), u = u1 ++ u2 → (∀ t ∈ u1, ∃ s ∈ D, s.1 = t.1) → Up u2 → (∀ t ∈ u2, a ≤ t.1) → all (u2.take (lead u2 a)) = tot u a := by
  intro u u1 u2 e g hu hl
  rw [tot_lead hu hl, e, tot_append, tot_none (l := u1) (fun t ht e2 => by obtain ⟨s, hs, e3⟩ := g t ht; have := hD s hs; omega)]
  grind
 have ext : ∀ (u u1 u2 : List (Int × Rat)) (v : Rat × Rat), u = u1 ++ u2 → (∀ t ∈ u1, ∃ s ∈ D, s.1 = t.1) → ∃ u3, u = u3 ++ u2.drop (lead u2 a) ∧ ∀ t ∈ u3, ∃ s ∈ D ++ [(a, v)], s.1 = t.1 := by
  intro u u1 u2 v e g
  refine ⟨u1 ++ u2.take (lead u2 a), by rw [List.append_assoc, List.take_append_drop, e], fun t ht => ?_⟩
  rcases List.mem_append.1 ht with ht | ht
  ·obtain ⟨s, hs, e2⟩ := g t ht
   exact ⟨s, List.mem_append_left _ hs, e2⟩
  ·exact ⟨_, List.mem_append_right _ (List.mem_singleton.2 rfl), (lead_take u2 a t ht).symm⟩
 have below : ∀ (u2 : List (Int × Rat)) (v : Rat × Rat), Up u2 → (∀ t ∈ u2, a ≤ t.1) → (∀ s ∈ D, ∀ t ∈ u2, s.1 < t.1) → ∀ s ∈ D ++ [(a, v)], ∀ t ∈ u2.drop (lead u2 a), s.1 < t.1 := by
  intro u2 v hu hl hb s hs t ht
  rcases List.mem_append.1 hs with hs | hs
  ·exact hb s hs t (List.mem_of_mem_drop ht)
  ·rw [List.mem_singleton.1 hs]
   exact lead_rest hu hl t ht
 refine ⟨h.ux.drop _, h.uy.drop _, ext x x1 x2 _ e1 g1, ext y y1 y2 _ e2 g2, ?_, below x2 _ h.ux hx h.bx, below y2 _ h.uy hy h.by_, ?_⟩
 ·rw [List.pairwise_append]
  refine ⟨h.up, List.pairwise_singleton _ _, fun s hs t ht => ?_⟩
  rw [List.mem_singleton.1 ht]
  exact hD s hs
 ·intro s hs
  rcases List.mem_append.1 hs with hs | hs
  ·exact h.has s hs
  ·rw [List.mem_singleton.1 hs]
   exact ⟨side x x1 x2 e1 g1 h.ux hx, side y y1 y2 e2 g2 h.uy hy⟩
def firstAt : List (Int × Rat) → List (Int × Rat) → Int
 | [], [] => 0
 | [], y :: _ => y.1
 | x :: _, [] => x.1
 | x :: _, y :: _ => min x.1 y.1
theorem first_le {x y : List (Int × Rat)} (hx : Up x) (hy : Up y) : (∀ t ∈ x, firstAt x y ≤ t.1) ∧ (∀ t ∈ y, firstAt x y ≤ t.1) := by
 have hd : ∀ (z : Int × Rat) (l : List (Int × Rat)), Up (z :: l) → ∀ t ∈ z :: l, z.1 ≤ t.1 := by
  intro z l h t ht
  rcases List.mem_cons.1 ht with rfl | ht
  ·exact Int.le_refl _
  ·exact (List.pairwise_cons.1 h).1 t ht
 cases x with
 | nil =>
  cases y with
  | nil => exact ⟨(fun _ h => by cases h), (fun _ h => by cases h)⟩
  | cons b y => exact ⟨(fun _ h => by cases h), hd b y hy⟩
 | cons a x =>
  cases y with
  | nil => exact ⟨hd a x hx, (fun _ h => by cases h)⟩
  | cons b y =>
   refine ⟨fun t ht => ?_, fun t ht => ?_⟩
   ·have := hd a x hx t ht; show min a.1 b.1 ≤ _; omega
   ·have := hd b y hy t ht; show min a.1 b.1 ≤ _; omega
theorem first_gt {x y x2 y2 : List (Int × Rat)} {D : List (Int × Rat × Rat)} (h : Going x y x2 y2 D) (hne : x2 ≠ [] ∨ y2 ≠ []) : ∀ s ∈ D, s.1 < firstAt x2 y2 := by
 intro s hs
 cases x2 with
 | nil =>
  cases y2 with
  | nil => simp at hne
  | cons b y => exact h.by_ s hs b (List.mem_cons_self ..)
 | cons a x =>
  cases y2 with
  | nil => exact h.bx s hs a (List.mem_cons_self ..)
  | cons b y =>
   have h1 := h.bx s hs a (List.mem_cons_self ..)
   have h2 := h.by_ s hs b (List.mem_cons_self ..)
   show s.1 < min a.1 b.1
   omega
theorem first_lead {x y : List (Int × Rat)} (hne : x ≠ [] ∨ y ≠ []) : 0 < lead x (firstAt x y) + lead y (firstAt x y) := by
 cases x with
 | nil =>
  cases y with
  | nil => simp at hne
  | cons b y => show 0 < 0 + lead (b :: y) b.1; unfold lead; rw [if_pos rfl]; omega
 | cons a x =>
  cases y with
  | nil => show 0 < lead (a :: x) a.1 + 0; unfold lead; rw [if_pos rfl]; omega
  | cons b y =>
   show 0 < lead (a :: x) (min a.1 b.1) + lead (b :: y) (min a.1 b.1)
   by_cases h : a.1 ≤ b.1
   ·rw [show min a.1 b.1 = a.1 by omega]; unfold lead; rw [if_pos rfl]; omega
   ·rw [show min a.1 b.1 = b.1 by omega]
    have : 0 < lead (b :: y) b.1 := by unfold lead; rw [if_pos rfl]; omega
    omega
