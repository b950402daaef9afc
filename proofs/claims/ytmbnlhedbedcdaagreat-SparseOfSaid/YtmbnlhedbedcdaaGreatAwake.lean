/- The examples that every law asks. -/
import Derived.Test.YtmbnlhedbedcdaaGreatGcdS
namespace Go.Proofs.YtmbnlhedbedcdaaGreat
open Go.RowKit

theorem Num.lit (w : World) (xs : List Nat) (hd : Digs xs) : Num (w.alloc (.cells (xs.map dcell).toArray 127)) (some ⟨w.heap.size, 0, none⟩) xs := (Blk.lit w xs).num hd

theorem digs_lit {xs : List Nat} (h : xs.all (fun x => decide (x < 18446744073709551616)) = true) : Digs xs := by
  intro x hx
  have := List.all_eq_true.1 h x hx
  rw [B64_eq]
  simpa using this

theorem Num.lit2 (w : World) (xs ys : List Nat) (hx : Digs xs) (hy : Digs ys) :
    Num ((w.alloc (.cells (xs.map dcell).toArray 127)).alloc (.cells (ys.map dcell).toArray 127)) (some ⟨w.heap.size, 0, none⟩) xs ∧
    Num ((w.alloc (.cells (xs.map dcell).toArray 127)).alloc (.cells (ys.map dcell).toArray 127)) (some ⟨w.heap.size + 1, 0, none⟩) ys := by
  refine ⟨(Num.lit w xs hx).alloc _, ?_⟩
  have h := Num.lit (w.alloc (.cells (xs.map dcell).toArray 127)) ys hy
  rwa [show (w.alloc (.cells (xs.map dcell).toArray 127)).heap.size = w.heap.size + 1 by simp] at h

theorem below_alloc2 {w w' : World} {o p : Obj} (h : Below ((w.alloc o).alloc p).heap.size ((w.alloc o).alloc p) w') : Below w.heap.size w w' :=
  (((Below.refl _ _).alloc (Nat.le_refl _) o).alloc (by simp) p).trans (h.mono (by simp; omega))
theorem below_alloc1 {w w' : World} {o : Obj} (h : Below (w.alloc o).heap.size (w.alloc o) w') : Below w.heap.size w w' :=
  ((Below.refl _ _).alloc (Nat.le_refl _) o).trans (h.mono (by simp))
theorem RetN.lit2 {w w' : World} {o p : Obj} {n : Nat} {e : Ending} (h : RetN ((w.alloc o).alloc p) n e w') : RetN w n e w' := by
  obtain ⟨A, c, h1, h2, h3, h4⟩ := h
  exact ⟨A, c, h1, h2, h3, below_alloc2 h4⟩
theorem RetN.lit1 {w w' : World} {o : Obj} {n : Nat} {e : Ending} (h : RetN (w.alloc o) n e w') : RetN w n e w' := by
  obtain ⟨A, c, h1, h2, h3, h4⟩ := h
  exact ⟨A, c, h1, h2, h3, below_alloc1 h4⟩
theorem RetDM.lit2 {w w' : World} {o p : Obj} {q r : Nat} {e : Ending} (h : RetDM ((w.alloc o).alloc p) q r e w') : RetDM w q r e w' := by
  obtain ⟨A, c, B, d, h1, h2, h3, h4, h5, h6⟩ := h
  exact ⟨A, c, B, d, h1, h2, h3, h4, h5, below_alloc2 h6⟩

section
variable (w : World) (xs ys : List Nat) (n m : Nat) (X Y : Array Value) (hX : (xs.map dcell).toArray = X) (hY : (ys.map dcell).toArray = Y) (hn : xs.length = n) (hm : ys.length = m) (hx : Digs xs) (hy : Digs ys)
  (hn2 : n ≤ 4294967296) (hm2 : m ≤ 4294967296)
include hX hY hn hm hx hy hn2 hm2
theorem add_lit : Calls Tryz.prog 129 #[.slice (some ⟨w.heap.size, 0, none⟩) n n, .slice (some ⟨w.heap.size + 1, 0, none⟩) m m] ((w.alloc (.cells X 127)).alloc (.cells Y 127)) (RetN w (val xs + val ys)) := by
  subst hX; subst hY; subst hn; subst hm
  obtain ⟨h1, h2⟩ := Num.lit2 w xs ys hx hy
  exact (add_any _ _ _ _ _ xs ys h1 h2 (by omega) (by omega) (Nat.le_refl _) (Nat.le_refl _)).mono fun _ _ h => h.lit2
theorem mul_lit : Calls Tryz.prog 132 #[.slice (some ⟨w.heap.size, 0, none⟩) n n, .slice (some ⟨w.heap.size + 1, 0, none⟩) m m] ((w.alloc (.cells X 127)).alloc (.cells Y 127)) (RetN w (val xs * val ys)) := by
  subst hX; subst hY; subst hn; subst hm
  obtain ⟨h1, h2⟩ := Num.lit2 w xs ys hx hy
  exact (mul_any _ _ _ _ _ xs ys h1 h2 (by omega) (by omega) (Nat.le_refl _) (Nat.le_refl _)).mono fun _ _ h => h.lit2
theorem divmod_lit : Calls Tryz.prog 174 #[.slice (some ⟨w.heap.size, 0, none⟩) n n, .slice (some ⟨w.heap.size + 1, 0, none⟩) m m] ((w.alloc (.cells X 127)).alloc (.cells Y 127)) (RetDM w (dmq (val xs) (val ys)) (dmr (val xs) (val ys))) := by
  subst hX; subst hY; subst hn; subst hm
  obtain ⟨h1, h2⟩ := Num.lit2 w xs ys hx hy
  exact (divmod_any _ _ _ _ _ xs ys h1 h2 (by omega) (by omega) (Nat.le_refl _) (Nat.le_refl _)).mono fun _ _ h => h.lit2
theorem gcd_lit (hs : (dig (min (val xs) (val ys))).length ≤ 1) : Calls Tryz.prog 150 #[.slice (some ⟨w.heap.size, 0, none⟩) n n, .slice (some ⟨w.heap.size + 1, 0, none⟩) m m] ((w.alloc (.cells X 127)).alloc (.cells Y 127)) (RetN w (Nat.gcd (val xs) (val ys))) := by
  subst hX; subst hY; subst hn; subst hm
  obtain ⟨h1, h2⟩ := Num.lit2 w xs ys hx hy
  exact (gcd_small _ _ _ _ _ xs ys h1 h2 (by omega) (by omega) (Nat.le_refl _) (Nat.le_refl _) hs).mono fun _ _ h => h.lit2
end

def TOP : Nat := 18446744073709551615
theorem digs1 {x : Nat} (h : x < B64) : Digs [x] := Digs.cons h Digs.nil
theorem digs2 {x y : Nat} (hx : x < B64) (hy : y < B64) : Digs [x, y] := Digs.cons hx (digs1 hy)
theorem digs3 {x y z : Nat} (hx : x < B64) (hy : y < B64) (hz : z < B64) : Digs [x, y, z] := Digs.cons hx (digs2 hy hz)

end Go.Proofs.YtmbnlhedbedcdaaGreat
