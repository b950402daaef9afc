/- leading, walked. -/
import Derived.Test.YtginajegbknfhaaLeading
namespace Go.Proofs.Ytginajegbknfhaa
open Go.RowKit

/-- What leading tells. -/
def LeadPost (w : World) (x y : Nat) (e : Ending) (w' : World) : Prop := e = .returned (.tuple #[.int .u64 (x : Int), .int .u64 (y : Int)]) ∧ Below w.heap.size w w'

theorem cells3 (w : World) (v1 v2 v3 : Value) (t1 t2 t3 : TypeId) :
    (((w.alloc (.cells #[v1] t1)).alloc (.cells #[v2] t2)).alloc (.cells #[v3] t3)).cell? ⟨w.heap.size, 0, none⟩ = some v1 ∧
    (((w.alloc (.cells #[v1] t1)).alloc (.cells #[v2] t2)).alloc (.cells #[v3] t3)).cell? ⟨w.heap.size + 1, 0, none⟩ = some v2 ∧
    (((w.alloc (.cells #[v1] t1)).alloc (.cells #[v2] t2)).alloc (.cells #[v3] t3)).cell? ⟨w.heap.size + 1 + 1, 0, none⟩ = some v3 := by
  have h3 := cell_of_one (heap_alloc_new ((w.alloc (.cells #[v1] t1)).alloc (.cells #[v2] t2)) (.cells #[v3] t3))
  have h2 := cell_of_one (heap_alloc_new (w.alloc (.cells #[v1] t1)) (.cells #[v2] t2))
  have h1 := cell_of_one (heap_alloc_new w (.cells #[v1] t1))
  have e1 : (w.alloc (.cells #[v1] t1)).heap.size = w.heap.size + 1 := by simp
  have e2 : ((w.alloc (.cells #[v1] t1)).alloc (.cells #[v2] t2)).heap.size = w.heap.size + 1 + 1 := by simp
  rw [e2] at h3
  rw [e1] at h2
  refine ⟨?_, ?_, h3⟩
  · exact (World.cell?_alloc_lt _ _ _ (by simp; omega)).trans ((World.cell?_alloc_lt _ _ _ (by simp)).trans h1)
  · exact (World.cell?_alloc_lt _ _ _ (by simp)).trans h2

set_option maxHeartbeats 2000000 in
theorem leading_any (w : World) (A B : Option Addr) (c d n s : Nat) (X Y : List Nat) (hA : Num w A X) (hB : Num w B Y) (hn : X.length = n) (hX : n ≤ 1099511627776) (hY : Y.length ≤ 1099511627776) (h2 : 2 ≤ n) (hs : s + blen (dg X (n - 1)) = 64) (hs63 : s ≤ 63) :
    Calls Try.prog 87 #[.slice A n c, .slice B Y.length d] w (LeadPost w (ld X n s) (ld Y n s)) := by
  subst hn
  obtain ⟨b1, o1, rfl, hb1, hc⟩ := hA.at_ (by omega)
  have ht := hc (X.length - 1) (by omega)
  have htd := dg_lt hA.1 (X.length - 1)
  have hsb : (64 : Int) - ((blen (dg X (X.length - 1)) : Nat) : Int) = (s : Int) := by omega
  have HLZ := Lib.hid (fun W : World => lz64_any _ htd W)
  rw [hsb] at HLZ
  have HA := Lib.hid hA
  have HB := Lib.hid hB
  have ht2 : (w.alloc (.cells #[.int .i64 ((X.length : Nat) : Int)] 3)).cell? ⟨b1, o1 + (X.length - 1), none⟩ = some (.int .u64 ((dg X (X.length - 1) : Nat) : Int)) := (World.cell?_alloc_lt w _ _ hb1).trans ht
  clear hA hB hc hs hsb htd
  go_enter Try.func87, Try.ntmps87
  go_wp2_with fail
  refine (HLZ.out _).mono ?_
  rintro e w' ⟨rfl, rfl⟩
  go_wp2_with fail
  refine (digitOf_any _ _ _ _).mono ?_
  rintro e w' ⟨rfl, rfl⟩
  go_wp2_with fail
  obtain ⟨k1, k2, k3⟩ := cells3 w (.int .i64 ((X.length : Nat) : Int)) (.int .u64 (s : Int)) (.slice (some ⟨b1, o1, none⟩) X.length c) 3 54 22
  have K1 := Lib.hid k1
  have K2 := Lib.hid k2
  have hat := at_any _ (w.heap.size + 1 + 1) w.heap.size (w.heap.size + 1) X.length s c (some ⟨b1, o1, none⟩) X (((HA.out.alloc _).alloc _).alloc _) (by omega) hX h2 hs63 k3 k1 k2
  refine hat.mono ?_
  clear hat k1 k2 k3
  rintro e w' ⟨rfl, q, rfl⟩
  have hsz : ((((w.alloc (.cells #[.int .i64 ((X.length : Nat) : Int)] 3)).alloc (.cells #[.int .u64 (s : Int)] 54)).alloc (.cells #[.slice (some ⟨b1, o1, none⟩) X.length c] 22)).drewN q).heap.size = w.heap.size + 3 := by simp [World.drewN]
  have HSZ := Lib.hid hsz
  clear hsz
  go_wp2_with fail
  refine (digitOf_any _ _ _ _).mono ?_
  rintro e w' ⟨rfl, rfl⟩
  go_wp2_with fail
  have lt1 : w.heap.size < ((((w.alloc (.cells #[.int .i64 ((X.length : Nat) : Int)] 3)).alloc (.cells #[.int .u64 (s : Int)] 54)).alloc (.cells #[.slice (some ⟨b1, o1, none⟩) X.length c] 22)).drewN q).heap.size := by rw [HSZ.out]; omega
  have lt2 : w.heap.size + 1 < ((((w.alloc (.cells #[.int .i64 ((X.length : Nat) : Int)] 3)).alloc (.cells #[.int .u64 (s : Int)] 54)).alloc (.cells #[.slice (some ⟨b1, o1, none⟩) X.length c] 22)).drewN q).heap.size := by rw [HSZ.out]; omega
  have k4 := cell_of_one (heap_alloc_new ((((w.alloc (.cells #[.int .i64 ((X.length : Nat) : Int)] 3)).alloc (.cells #[.int .u64 (s : Int)] 54)).alloc (.cells #[.slice (some ⟨b1, o1, none⟩) X.length c] 22)).drewN q) (.cells #[.slice B Y.length d] 22))
  rw [HSZ.out] at k4
  have hat := at_any _ (w.heap.size + 1 + 1 + 1) w.heap.size (w.heap.size + 1) X.length s d B Y (((((HB.out.alloc _).alloc _).alloc _).drewN q).alloc _) hY hX h2 hs63 k4 ((World.cell?_alloc_lt _ _ _ lt1).trans K1.out) ((World.cell?_alloc_lt _ _ _ lt2).trans K2.out)
  refine hat.mono ?_
  clear hat k4 lt1 lt2
  rintro e w' ⟨rfl, q2, rfl⟩
  go_wp2_with fail
  go_ret2
  refine ⟨rfl, below_drewN ?_ q2⟩
  exact (below_drewN ((((Below.refl _ _).alloc (Nat.le_refl _) _).alloc (by simp) _).alloc (by simp; omega) _) q).alloc (by rw [HSZ.out]; omega) _
end Go.Proofs.Ytginajegbknfhaa
