/- Contracts of the document's answer for whole, in the form in which a law's row of calls meets them. -/
import Derived.Test.YtginajegbknfhaaWRef
import Derived.Test.YtginajegbknfhaaWholeAll
namespace Go.Proofs.Ytginajegbknfhaa
open Go.RowKit

section
variable (w : World) (s t : Bool) (A B : Option Addr) (c d : Nat) (xs ys : List Nat) (y z : Int) (ha : Num w A xs) (hb : Num w B ys) (hx : zv s (val xs) = y) (hy : zv t (val ys) = z) (hn : xs.length ≤ 3000) (hm : ys.length ≤ 3000) (hc : xs.length ≤ c) (hd : ys.length ≤ d)
include ha hb hx hy hn hm hc hd
theorem wadd_z (r : Int) (hr : y + z = r) : Calls Try.prog 38 #[.agg #[.bool s, .slice A xs.length c], .agg #[.bool t, .slice B ys.length d]] w (RetZ w r) := (fun _ _ => W.add_any w s t A B c d xs ys y z ha hb hx hy (by omega) (by omega) r hr) hc hd
theorem wsub_z (r : Int) (hr : y - z = r) : Calls Try.prog 40 #[.agg #[.bool s, .slice A xs.length c], .agg #[.bool t, .slice B ys.length d]] w (RetZ w r) := (fun _ _ => W.sub_any w s t A B c d xs ys y z ha hb hx hy (by omega) (by omega) r hr) hc hd
theorem wmul_z (r : Int) (hr : y * z = r) : Calls Try.prog 42 #[.agg #[.bool s, .slice A xs.length c], .agg #[.bool t, .slice B ys.length d]] w (RetZ w r) := W.mul_any w s t A B c d xs ys y z ha hb hx hy (by omega) (by omega) hc hd r hr
theorem wgcd_z (r : Int) (hr : ((Nat.gcd y.natAbs z.natAbs : Nat) : Int) = r) : Calls Try.prog 44 #[.agg #[.bool s, .slice A xs.length c], .agg #[.bool t, .slice B ys.length d]] w (RetZ w r) := W.gcd_any w s t A B c d xs ys y z ha hb hx hy (by omega) (by omega) hc hd r hr
theorem wcmp_z (r : Int) (hr : zcmp y z = r) : Calls Try.prog 56 #[.agg #[.bool s, .slice A xs.length c], .agg #[.bool t, .slice B ys.length d]] w (RetI w r) := (fun _ _ => W.cmp_any w s t A B c d xs ys y z ha hb hx hy (by omega) (by omega) r hr) hc hd
theorem wdivmod_z (q r : Int) (hq : y / z = q) (hr : zrem y z = r) : Calls Try.prog 34 #[.agg #[.bool s, .slice A xs.length c], .agg #[.bool t, .slice B ys.length d]] w (RetZZ w q r) := by
  subst hq
  subst hr
  by_cases h0 : z = 0
  · have h := W.divmod_zero w s t A B c d xs ys z hb hy hm h0
    rw [h0, Int.ediv_zero, show zrem y 0 = 0 from if_pos rfl]
    exact h
  · exact W.divmod_pos w s t A B c d xs ys y z ha hb hx hy hn hm hc hd h0
theorem gcdg_z (r : Int) (hr : ((Nat.gcd y.natAbs z.natAbs : Nat) : Int) = r) : Calls Try.prog 43 #[.agg #[.bool s, .slice A xs.length c], .agg #[.bool t, .slice B ys.length d]] w (RetZ w r) := by
  subst hr
  exact zgcd_any w s t A B c d xs ys y z ha hb hx hy (by omega) (by omega) hc hd (fun W h1 h2 => gcd_any W A B c d xs ys h1 h2 (by omega) (by omega) hc hd)
end
section
variable (w : World) (s : Bool) (A : Option Addr) (c : Nat) (xs : List Nat) (z : Int) (ha : Num w A xs) (hx : zv s (val xs) = z) (hn : xs.length ≤ 3000) (hc : xs.length ≤ c)
include ha hx hn hc
theorem wnorm_z (r : Int) (hr : z = r) : Calls Try.prog 48 #[.agg #[.bool s, .slice A xs.length c]] w (RetZ w r) := (fun _ => W.norm_any w s A c xs z ha hx (by omega) r hr) hc
theorem wneg_z (r : Int) (hr : -z = r) : Calls Try.prog 50 #[.agg #[.bool s, .slice A xs.length c]] w (RetZ w r) := (fun _ => W.neg_any w s A c xs z ha hx (by omega) r hr) hc
theorem wabs_z (r : Int) (hr : ((z.natAbs : Nat) : Int) = r) : Calls Try.prog 52 #[.agg #[.bool s, .slice A xs.length c]] w (RetZ w r) := (fun _ => W.abs_any w s A c xs z ha hx (by omega) r hr) hc
theorem wsign_z (r : Int) (hr : z.sign = r) : Calls Try.prog 54 #[.agg #[.bool s, .slice A xs.length c]] w (RetI w r) := by subst hr; exact (fun _ => W.sign_any w s A c xs z ha hx (by omega)) hc
theorem small_z (k : Int) (b : Bool) (hk : smallv z = k) (hb : smallb z = b) : Calls Try.prog 35 #[.agg #[.bool s, .slice A xs.length c]] w (fun e w' => e = .returned (.tuple #[.int .i64 k, .bool b]) ∧ Below w.heap.size w w') := by subst hk; subst hb; exact small_any w s A c xs z ha hx (by omega) hc
theorem wsmall_z (k : Int) (b : Bool) (hk : smallv z = k) (hb : smallb z = b) : Calls Try.prog 36 #[.agg #[.bool s, .slice A xs.length c]] w (fun e w' => e = .returned (.tuple #[.int .i64 k, .bool b]) ∧ Below w.heap.size w w') := by subst hk; subst hb; exact (fun _ => W.small_any w s A c xs z ha hx (by omega)) hc
end
theorem wof_z (w : World) (n r : Int) (hr : n = r) (h1 : -9223372036854775808 ≤ r) (h2 : r ≤ 9223372036854775807) : Calls Try.prog 46 #[.int .i64 n] w (RetZ w r) := by subst hr; exact W.of_any w n h1 h2

/-- Six struct variables' cells. -/
def K6 (p q r o m n : Nat) (v1 v2 v3 v4 v5 v6 u1 u2 u3 u4 u5 u6 : Value) (W : World) : Prop := W.cell? ⟨p, 0, none⟩ = some v1 ∧ W.cell? ⟨p, 1, none⟩ = some v2 ∧ W.cell? ⟨q, 0, none⟩ = some v3 ∧ W.cell? ⟨q, 1, none⟩ = some v4 ∧ W.cell? ⟨r, 0, none⟩ = some v5 ∧ W.cell? ⟨r, 1, none⟩ = some v6 ∧ W.cell? ⟨o, 0, none⟩ = some u1 ∧ W.cell? ⟨o, 1, none⟩ = some u2 ∧ W.cell? ⟨m, 0, none⟩ = some u3 ∧ W.cell? ⟨m, 1, none⟩ = some u4 ∧ W.cell? ⟨n, 0, none⟩ = some u5 ∧ W.cell? ⟨n, 1, none⟩ = some u6
section
variable {p q r o m n : Nat} {v1 v2 v3 v4 v5 v6 u1 u2 u3 u4 u5 u6 : Value} {W W' : World}
theorem K6.of (h : K3 p q r v1 v2 v3 v4 v5 v6 W) (k : K3 o m n u1 u2 u3 u4 u5 u6 W) : K6 p q r o m n v1 v2 v3 v4 v5 v6 u1 u2 u3 u4 u5 u6 W := ⟨h.1, h.2.1, h.2.2.1, h.2.2.2.1, h.2.2.2.2.1, h.2.2.2.2.2, k.1, k.2.1, k.2.2.1, k.2.2.2.1, k.2.2.2.2.1, k.2.2.2.2.2⟩
theorem K6.fst3 (h : K6 p q r o m n v1 v2 v3 v4 v5 v6 u1 u2 u3 u4 u5 u6 W) : K3 p q r v1 v2 v3 v4 v5 v6 W := ⟨h.1, h.2.1, h.2.2.1, h.2.2.2.1, h.2.2.2.2.1, h.2.2.2.2.2.1⟩
theorem K6.snd3 (h : K6 p q r o m n v1 v2 v3 v4 v5 v6 u1 u2 u3 u4 u5 u6 W) : K3 o m n u1 u2 u3 u4 u5 u6 W := ⟨h.2.2.2.2.2.2.1, h.2.2.2.2.2.2.2.1, h.2.2.2.2.2.2.2.2.1, h.2.2.2.2.2.2.2.2.2.1, h.2.2.2.2.2.2.2.2.2.2.1, h.2.2.2.2.2.2.2.2.2.2.2⟩
theorem K6.below (hb : Below W.heap.size W W') (h : K6 p q r o m n v1 v2 v3 v4 v5 v6 u1 u2 u3 u4 u5 u6 W) : K6 p q r o m n v1 v2 v3 v4 v5 v6 u1 u2 u3 u4 u5 u6 W' := K6.of (K3.below hb h.fst3) (K3.below hb h.snd3)
theorem K6.drew (h : K6 p q r o m n v1 v2 v3 v4 v5 v6 u1 u2 u3 u4 u5 u6 W) : K6 p q r o m n v1 v2 v3 v4 v5 v6 u1 u2 u3 u4 u5 u6 W.drew := h
theorem K4.a (h : K4 p q r o v1 v2 v3 v4 v5 v6 u1 u2 W) : C2 p v1 v2 W := ⟨h.1, h.2.1⟩
theorem K4.b (h : K4 p q r o v1 v2 v3 v4 v5 v6 u1 u2 W) : C2 q v3 v4 W := ⟨h.2.2.1, h.2.2.2.1⟩
theorem K4.c (h : K4 p q r o v1 v2 v3 v4 v5 v6 u1 u2 W) : C2 r v5 v6 W := ⟨h.2.2.2.2.1, h.2.2.2.2.2.1⟩
theorem K4.d (h : K4 p q r o v1 v2 v3 v4 v5 v6 u1 u2 W) : C2 o u1 u2 W := ⟨h.2.2.2.2.2.2.1, h.2.2.2.2.2.2.2⟩
end
end Go.Proofs.Ytginajegbknfhaa
