/- Small helpers of the laws over vectors. -/
import Derived.Test.YtmbnlhedbedcdaaGreatVC
namespace Go.Proofs.YtmbnlhedbedcdaaGreat.V
open Go.RowKit
open Go.Proofs.YtmbnlhedbedcdaaGreat.Q (IsQ OneQ RetQ below_on ql Qbx)

structure Big (n : Nat) (w : World) : Prop where
  le : n ≤ w.heap.size
theorem Big.below {n : Nat} {w w' : World} (h : Big n w) (hb : Below w.heap.size w w') : Big n w' := ⟨Nat.le_trans h.le hb.size⟩
theorem samevec_e {w : World} {A B : Option Addr} {n c m d p l L : Nat} {F G : Int → Rat} (hx : CF w A n c F) (hy : CF w B m d G) (hF : Fn p l L F) (hL : L ≤ 1000) (e : F = G) : Calls Tryz.prog 14 #[.slice A n c, .slice B m d] w (RetB w true) := by
  refine samevec_c hx hy ?_ true ⟨fun _ => e, fun _ => rfl⟩
  obtain ⟨ys, h1, h2, _⟩ := hx.ex
  have h3 := is_len h2 hF
  rw [vals_len] at h3
  rw [h1.en]
  omega
theorem CF.le {w : World} {A : Option Addr} {n c p l L : Nat} {F : Int → Rat} (hx : CF w A n c F) (hF : Fn p l L F) (hL : L ≤ 1000) : n ≤ 1000000 := by
  obtain ⟨ys, h1, h2, _⟩ := hx.ex
  have h3 := is_len h2 hF
  rw [vals_len] at h3
  rw [h1.en]
  omega
/-- A vector that came in, short. -/
theorem IsV.fn {w : World} {A : Option Addr} {n c k L : Nat} {ys : List (TV × Rat)} (h : IsV w A n c ys k) (hk : 1 ≤ k) (hL : ys.length ≤ L) (hL2 : L ≤ 1000) : Fn (k * L + 1) (k * L + k + 1) L (tot (vals ys)) :=
  (short_fn (fun x hx => by obtain ⟨y, hy, rfl⟩ := List.mem_map.1 hx; exact (h.tq y hy).1.ql hk) (by rw [vals_len]; exact hL) hL2).1
theorem IsV.vf {w : World} {A : Option Addr} {n c k L : Nat} {ys : List (TV × Rat)} (h : IsV w A n c ys k) (hk : 1 ≤ k) (hL : ys.length ≤ L) (hL2 : L ≤ 1000) (hs : k * L + k + 1 ≤ 700) (hb : ∀ a, A = some a → a.block < w.heap.size) : VF w A n c (tot (vals ys)) := by
  have hk2 : k ≤ 700 := by omega
  refine ⟨⟨ys, ⟨h.en, h.cap, h.row, fun y hy => ⟨(h.tq y hy).1.mono hk2, (h.tq y hy).2⟩⟩, (short_fn (fun x hx => by obtain ⟨y, hy, rfl⟩ := List.mem_map.1 hx; exact (h.tq y hy).1.ql hk) (by rw [vals_len]; exact hL) hL2).2 hs, rfl⟩, by rw [h.en]; omega, hb⟩
theorem iff_dec (p : Prop) : ∃ v : Bool, v = true ↔ p := by
  by_cases h : p
  · exact ⟨true, fun _ => h, fun _ => rfl⟩
  · exact ⟨false, fun h2 => (by cases h2), fun h2 => absurd h2 h⟩
end Go.Proofs.YtmbnlhedbedcdaaGreat.V
