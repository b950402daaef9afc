/- Contracts in the form in which a law's row of calls meets them. -/
import Derived.Test.YtmbnlhedbedcdaaGreatDoorAwake
import Derived.OpenShut
namespace Go.Proofs.YtmbnlhedbedcdaaGreatDoor
open Go.RowKit

theorem dl_add (m n : Nat) : (dig (m + n)).length ≤ (dig m).length + (dig n).length + 1 := by
  refine dig_length_le ?_
  have h1 := val_lt (dig_digs m)
  have h2 := val_lt (dig_digs n)
  rw [val_dig] at h1 h2
  have h3 : B64 ^ (dig m).length ≤ B64 ^ ((dig m).length + (dig n).length) := Nat.pow_le_pow_right B64_pos (by omega)
  have h4 : B64 ^ (dig n).length ≤ B64 ^ ((dig m).length + (dig n).length) := Nat.pow_le_pow_right B64_pos (by omega)
  have h5 : B64 ^ ((dig m).length + (dig n).length + 1) = B64 ^ ((dig m).length + (dig n).length) * B64 := Nat.pow_succ _ _
  have h6 : B64 ^ ((dig m).length + (dig n).length) * 2 ≤ B64 ^ ((dig m).length + (dig n).length) * B64 := Nat.mul_le_mul_left _ (by rw [B64_eq]; omega)
  omega
theorem dl_mul (m n : Nat) : (dig (m * n)).length ≤ (dig m).length + (dig n).length := by
  refine dig_length_le ?_
  have h1 := val_lt (dig_digs m)
  have h2 := val_lt (dig_digs n)
  rw [val_dig] at h1 h2
  rw [Nat.pow_add]
  exact Nat.mul_lt_mul'' h1 h2
theorem dl_le {m n : Nat} (h : m ≤ n) : (dig m).length ≤ (dig n).length := dig_length_mono h
theorem dl_val {xs : List Nat} {m : Nat} (hd : Digs xs) (hv : val xs = m) : (dig m).length ≤ xs.length := by rw [← hv]; exact dig_length_val hd

section
variable (w : World) (A B : Option Addr) (c d : Nat) (xs ys : List Nat) (m n : Nat) (ha : Num w A xs) (hb : Num w B ys) (hx : val xs = m) (hy : val ys = n) (hn : xs.length ≤ 1000000) (hm : ys.length ≤ 1000000) (hc : xs.length ≤ c) (hd : ys.length ≤ d)
include ha hb hx hy hn hm hc hd
theorem add_v : Calls Tryz.prog 98 #[.slice A xs.length c, .slice B ys.length d] w (RetN w (m + n)) := by
  subst hx; subst hy; exact add_any w A B c d xs ys ha hb (by omega) (by omega) hc hd
theorem sub_v : Calls Tryz.prog 99 #[.slice A xs.length c, .slice B ys.length d] w (RetN w (m - n)) := by
  subst hx; subst hy; exact sub_any w A B c d xs ys ha hb (by omega) (by omega) hc hd
theorem mul_v : Calls Tryz.prog 71 #[.slice A xs.length c, .slice B ys.length d] w (RetN w (m * n)) := by
  subst hx; subst hy; exact mul_any w A B c d xs ys ha hb (by omega) (by omega) hc hd
theorem dm_v : Calls Tryz.prog 69 #[.slice A xs.length c, .slice B ys.length d] w (RetDM w (dmq m n) (dmr m n)) := by
  subst hx; subst hy; exact divmod_any w A B c d xs ys ha hb (by omega) (by omega) hc hd
theorem cmp_v : Calls Tryz.prog 93 #[.slice A xs.length c, .slice B ys.length d] w (RetI w (cmpv m n)) := by
  subst hx; subst hy; exact (cmp_any w A B c d xs ys ha hb (by omega) (by omega) hc hd).mono fun _ _ h => h.below
end
section
variable (w : World) (A : Option Addr) (c : Nat) (xs : List Nat) (m : Nat) (ha : Num w A xs) (hx : val xs = m) (hn : xs.length ≤ 1000000) (hc : xs.length ≤ c)
include ha hx hn hc
theorem trim_v : Calls Tryz.prog 52 #[.slice A xs.length c] w (RetN w m) := by
  subst hx; exact trim_any w A c xs ha (by omega) hc
theorem bits_v : Calls Tryz.prog 70 #[.slice A xs.length c] w (RetI w ((blen m : Nat) : Int)) := by
  subst hx
  refine (bits_any w A c xs ha (by omega) hc).mono ?_
  rintro e w' ⟨he, rfl⟩
  exact ⟨he, Below.refl _ _⟩
end
/-- Two numbers that are the same, each in the one form. -/
theorem same_v (w : World) (A B : Option Addr) (c d m n : Nat) (ha : Num w A (dig m)) (hb : Num w B (dig n)) (e : m = n) (hn : (dig m).length ≤ 1000000) :
    Calls Tryz.prog 84 #[.slice A (dig m).length c, .slice B (dig n).length d] w (RetB w true) := by
  subst e
  exact same_yes w A B c d (dig m) ha hb (by omega)

/-- A slice of digits that came in, as the frame opens it, is a number. -/
theorem num_of_row {w : World} {a : Option Addr} {len cap : Nat} {zs : List Int}
    (h : (a = none ∧ len = 0 ∧ cap = 0 ∧ zs = []) ∨
      ∃ x, a = some x ∧ len ≤ cap ∧ cap ≤ maxLen ∧ zs.length = cap ∧ (∀ i, i < zs.length → w.cell? (x.add i) = some (.int .u64 (zs.getD i 0))) ∧ ∀ n ∈ zs, (Lit.int .u64 n).wf = true) :
    ∃ xs : List Nat, xs.length = len ∧ Num w a xs ∧ len ≤ cap := by
  rcases h with ⟨rfl, rfl, rfl, rfl⟩ | ⟨x, rfl, hl, hm, hz, hc, hw⟩
  · exact ⟨[], rfl, Num.nil _ _, Nat.le_refl _⟩
  · have hb : ∀ i, i < zs.length → 0 ≤ zs.getD i 0 ∧ zs.getD i 0 < 18446744073709551616 := by
      intro i hi
      have h1 := hw (zs.getD i 0) (by rw [List.getD_eq_getElem?_getD, List.getElem?_eq_getElem hi]; exact List.getElem_mem hi)
      have h2 := bounds_u64 h1
      exact ⟨h2.1, by omega⟩
    have hl2 : ((zs.take len).map Int.toNat).length = len := by rw [List.length_map, List.length_take]; omega
    have hdg : ∀ i, i < len → dg ((zs.take len).map Int.toNat) i = (zs.getD i 0).toNat := by
      intro i hi
      unfold dg
      rw [List.getD_eq_getElem?_getD, List.getElem?_map, List.getElem?_take_of_lt hi, List.getD_eq_getElem?_getD, List.getElem?_eq_getElem (by omega)]
      rfl
    refine ⟨(zs.take len).map Int.toNat, hl2, ⟨?_, ?_⟩, hl⟩
    · intro y hy
      obtain ⟨z, hz1, rfl⟩ := List.mem_map.1 hy
      obtain ⟨i, hi, rfl⟩ := List.getElem_of_mem (List.mem_of_mem_take hz1)
      have := hb i hi
      rw [List.getD_eq_getElem?_getD, List.getElem?_eq_getElem hi] at this
      rw [B64_eq]
      simp only [Option.getD_some] at this
      omega
    · intro hne
      have hpos : 0 < len := by
        rw [← hl2]; exact List.length_pos_iff.2 hne
      have h0 := hc 0 (by omega)
      obtain ⟨b, off, spot⟩ := x
      have hs : spot = none := by
        have h1 : (⟨b, off, spot⟩ : Addr).add 0 = ⟨b, off, spot⟩ := by simp [Addr.add]
        rw [h1] at h0
        unfold World.cell? at h0
        cases spot with
        | none => rfl
        | some p =>
          simp only [Option.isSome_some, if_true] at h0
          split at h0 <;> cases h0
      subst hs
      refine ⟨b, off, rfl, block_lt_of_cell (a := (⟨b, off, none⟩ : Addr).add 0) h0 |> fun h => by rwa [addr_add] at h, fun i hi => ?_⟩
      rw [hl2] at hi
      have h1 := hc i (by omega)
      rw [addr_add] at h1
      rw [h1, hdg i hi]
      have := hb i (by omega)
      congr 2
      omega
end Go.Proofs.YtmbnlhedbedcdaaGreatDoor
