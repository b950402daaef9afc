/- Long division: one digit of the quotient, all of them. -/
import Derived.Test.YtbbncggaaibheaaGreatDoorDivB
namespace Go.Proofs.YtbbncggaaibheaaGreatDoor
open Go.RowKit

structure OutPost (w : World) (g off : Nat) (cs Y : List Nat) (e : Ending) (w' : World) : Prop where
  ret : e = .returned (.int .u64 ((val ((cs.drop off).take (Y.length + 1)) / val Y : Nat) : Int))
  ex : ∃ zs : List Nat, zs.length = Y.length + 1 ∧ Digs zs ∧ val zs = val ((cs.drop off).take (Y.length + 1)) % val Y ∧ Blk w' g (mid cs off zs)
  own : w.grownBy w' (some g)

/-- Where the taking out stands: below is true, and too much has been taken, or it isn't, and the rest is right. -/
def OutAt (P D n : Nat) (t : Nat) (zs : List Nat) : Bool → Prop
  | true => val zs + t * D = P + B64 ^ n ∧ P < t * D
  | false => val zs + t * D = P ∧ val zs < D

structure OutRel (w wr : World) (g off : Nat) (cs Y : List Nat) (B : Option Addr) (tv bv : Value) : Prop where
  ex : ∃ (t : Nat) (b : Bool) (zs : List Nat), tv = .int .u64 (t : Int) ∧ bv = .bool b ∧ t < B64 ∧ zs.length = Y.length + 1 ∧ Digs zs ∧ OutAt (val ((cs.drop off).take (Y.length + 1))) (val Y) (Y.length + 1) t zs b ∧ Blk wr g (mid cs off zs)
  own : w.grownBy wr (some g)
  num : Num wr B Y

theorem grown_trans {a b c : World} {row : Option Nat} (h : a.grownBy b row) (k : b.grownBy c row) : a.grownBy c row :=
  ⟨k.os.trans h.os, k.tape.trans h.tape, k.output.trans h.output, Nat.le_trans h.size k.size, fun i hi hne => (k.block i (Nat.lt_of_lt_of_le hi h.size) hne).trans (h.block i hi hne)⟩
theorem grown_of_only {a b : World} {g : Nat} (h : Only g a b) : a.grownBy b (some g) :=
  ⟨h.os, h.tape, h.output, Nat.le_of_eq h.size.symm, fun i _ hne => h.block i (by rintro rfl; exact hne rfl)⟩
theorem Num.grown {w w' : World} {g : Nat} {A : Option Addr} {xs : List Nat} (h : Num w A xs) (hO : w.grownBy w' (some g)) (hne : 0 < xs.length → ∀ p, A = some p → p.block ≠ g) : Num w' A xs :=
  ⟨h.1, fun hn => by
    obtain ⟨b, off, e, hlt, hc⟩ := h.2 hn
    have hb : b ≠ g := hne (List.length_pos_iff.2 hn) _ e
    exact ⟨b, off, e, Nat.lt_of_lt_of_le hlt hO.size, fun i hi => (World.cell?_of_block (hO.block b hlt (by intro e2; injection e2 with e3; exact hb e3))).trans (hc i hi)⟩⟩

theorem mid_mid {cs zs ys : List Nat} {off : Nat} (h : zs.length = ys.length) (hl : off + zs.length ≤ cs.length) : mid (mid cs off zs) off ys = mid cs off ys := by
  unfold mid
  have h1 : (cs.take off).length = off := by rw [List.length_take]; omega
  rw [List.take_append_of_le_length (by omega), List.take_of_length_le (Nat.le_of_eq h1), ← h, List.drop_append, h1, List.drop_of_length_le (by omega), List.nil_append, show off + zs.length - off = zs.length by omega, List.drop_left]
theorem drop_take_mid {cs zs : List Nat} {off : Nat} (hl : off + zs.length ≤ cs.length) : ((mid cs off zs).drop off).take zs.length = zs := by
  unfold mid
  have h1 : (cs.take off).length = off := by rw [List.length_take]; omega
  rw [List.drop_append, h1, List.drop_of_length_le (by omega), List.nil_append, Nat.sub_self, List.drop_zero, List.take_left]

theorem out_start {P D n q b : Nat} {zs : List Nat} (hb : b ≤ 1) (hv : val zs + D * q = P + B64 ^ n * b) (hz : val zs < B64 ^ n) (hQ : P / D ≤ q) (hD : 0 < D) : OutAt P D n q zs (b != 0) := by
  rw [Nat.mul_comm D] at hv
  rcases Nat.eq_zero_or_pos b with h0 | h0
  · subst h0
    rw [Nat.mul_zero, Nat.add_zero] at hv
    refine ⟨hv, ?_⟩
    have h1 : P < (q + 1) * D := (Nat.div_lt_iff_lt_mul hD).1 (by omega)
    rw [Nat.succ_mul] at h1
    omega
  · have : b = 1 := by omega
    subst this
    rw [Nat.mul_one] at hv
    exact ⟨hv, by omega⟩
theorem out_next {P D n t c : Nat} {zs ys : List Nat} (hc : c ≤ 1) (h : OutAt P D n t zs true) (hv : val ys + B64 ^ n * c = val zs + D) (hz : val zs < B64 ^ n) (hy : val ys < B64 ^ n) : 1 ≤ t ∧ OutAt P D n (t - 1) ys (!(c != 0)) := by
  obtain ⟨h1, h2⟩ := h
  have ht : 1 ≤ t := by
    rcases Nat.eq_zero_or_pos t with h0 | h0
    · subst h0; omega
    · exact h0
  have h3 : (t - 1) * D + D = t * D := by rw [← Nat.succ_mul]; congr 1; omega
  refine ⟨ht, ?_⟩
  rcases Nat.eq_zero_or_pos c with h0 | h0
  · subst h0
    rw [Nat.mul_zero, Nat.add_zero] at hv
    exact ⟨by omega, by omega⟩
  · have : c = 1 := by omega
    subst this
    rw [Nat.mul_one] at hv
    exact ⟨by omega, by omega⟩

set_option maxHeartbeats 2000000 in
theorem takeOut_any (w : World) (g off capP d n : Nat) (cs Y : List Nat) (B : Option Addr) (hblk : Blk w g cs) (hcs : Digs cs) (hoff : off + (Y.length + 1) ≤ cs.length) (hB : Num w B Y) (hn : Y.length = n + 2)
    (hne : 0 < Y.length → ∀ p, B = some p → p.block ≠ g) (hN : n ≤ 1099511627770) (hY : 0 < val Y) (hP : val ((cs.drop off).take (Y.length + 1)) < val Y * B64) :
    Calls Tryz.prog 193 #[.slice (some ⟨g, off, none⟩) (n + 3) capP, .slice B (n + 2) d] w (OutPost w g off cs Y) := by
  have hSl : ((cs.drop off).take (Y.length + 1)).length = Y.length + 1 := by rw [List.length_take, List.length_drop]; omega
  have hS : Num w (some ⟨g, off, none⟩) ((cs.drop off).take (Y.length + 1)) := (hblk.num_drop hcs off).take _
  have hQ : val ((cs.drop off).take (Y.length + 1)) / val Y < B64 := Nat.div_lt_of_lt_mul hP
  have HG := Lib.hid (guess_any w (some ⟨g, off, none⟩) B capP d n _ Y hS hB hSl hn (by omega) hQ)
  have HB := Lib.hid hB
  have HNE := Lib.hid hne
  have HY := Lib.hid hY
  have HN := Lib.hid hn
  have HBLK := Lib.hid hblk
  have HT : Hid (∀ (W : World) (xs : List Nat) (x : Nat), Blk W g xs → Digs xs → off + Y.length < xs.length → Num W B Y → x < B64 → Calls Tryz.prog 212 #[.slice (some ⟨g, off, none⟩) (n + 3) capP, .slice B (n + 2) d, .int .u64 x] W (TakePost W g off xs Y x)) := by
    intro W xs x h1 h2 h3 h4 h5
    have h := take_any W g off capP d x xs Y B h1 h2 h3 h4 hne h5 (by omega)
    rw [hn] at h
    exact h
  have HV : Hid (∀ (W : World) (xs : List Nat), Blk W g xs → Digs xs → off + (Y.length + 1) ≤ xs.length → Num W B Y → Calls Tryz.prog 213 #[.slice (some ⟨g, off, none⟩) (n + 3) capP, .slice B (n + 2) d] W (GivePost W g off (Y.length + 1) xs Y)) := by
    intro W xs h1 h2 h3 h4
    have h := give_any W g off (Y.length + 1) capP d xs Y B h1 h2 h3 h4 hne (by omega) (by omega)
    rw [hn] at h
    rw [hn]
    exact h
  clear hB hne hS hSl hP hQ hY hn hblk
  go_enter Tryz.func193, Tryz.ntmps193
  go_wp2_with fail
  refine HG.out.mono ?_
  rintro e w' ⟨q, rfl, hq, hQq, m, rfl⟩
  have HQq := Lib.hid hQq
  clear hQq HG
  go_wp2_with fail
  refine (HT.out (w.drewN m) cs q (HBLK.out.drewN m) hcs (by omega) (HB.out.drewN m) hq).mono ?_
  rintro e w1 ⟨⟨zs, b, hb, rfl, hzl, hzd, hv, hblk1⟩, hO1⟩
  have HS0 : Hid (OutRel w w1 g off cs Y B (.int .u64 (q : Int)) (.bool (b != 0))) := by
    have hz := val_lt hzd
    rw [hzl] at hz
    have hO2 : w.grownBy w1 (some g) := grown_trans (grown_drewN (World.grownBy.refl w _) m) (grown_of_only hO1)
    exact ⟨⟨q, _, zs, rfl, rfl, hq, hzl, hzd, out_start hb hv hz HQq.out HY.out, hblk1⟩, hO2, HB.out.grown hO2 HNE.out⟩
  clear hv hzl hblk1 hO1
  go_wp2_with fail
  go_loopw [5, 6] (fun tv bv wr => OutRel w wr g off cs Y B tv bv) (fun tv _ _ => (intOf tv).toNat)
  case atStart => exact HS0.out
  case round =>
    obtain ⟨⟨t, b', zs', rfl, rfl, ht, hzl, hzd, hat, hblk⟩, hown, hnum⟩ := hrel
    cases b' with
    | true =>
      have hml := mid_length (cs := cs) (zs := zs') (off := off) (by omega)
      have HG2 := Lib.hid (HV.out _ _ hblk (hcs.mid hzd off) (by omega) hnum)
      have HAT := Lib.hid hat
      have HZL := Lib.hid hzl
      have HOWN := Lib.hid hown
      have HNUM := Lib.hid hnum
      clear hat hblk hzl hown hnum hml
      go_wp2_with fail
      refine HG2.out.mono ?_
      rintro e w2 ⟨⟨ys, c, hc, rfl, hyl, hyd, hv, hblk2⟩, hown2⟩
      have hv2 : val ys + B64 ^ (Y.length + 1) * c = val zs' + val Y := by
        have h := drop_take_mid (cs := cs) (zs := zs') (off := off) (by rw [HZL.out]; omega)
        rw [HZL.out] at h
        rwa [h] at hv
      have hz1 := val_lt hzd
      rw [HZL.out] at hz1
      have hz2 := val_lt hyd
      rw [hyl] at hz2
      obtain ⟨ht1, hat2⟩ := out_next hc HAT.out hv2 hz1 hz2
      rw [mid_mid (by rw [HZL.out, hyl]) (by rw [HZL.out]; omega)] at hblk2
      have HR : Hid (OutRel w w2 g off cs Y B (.int .u64 ((t - 1 : Nat) : Int)) (.bool (!(c != 0)))) := by
        have hO3 := grown_trans HOWN.out hown2
        exact ⟨⟨t - 1, _, ys, rfl, rfl, by omega, hyl, hyd, hat2, hblk2⟩, hO3, HB.out.grown hO3 HNE.out⟩
      have eq1 : IntKind.u64.wrap ((t : Int) - 1) = ((t - 1 : Nat) : Int) := u64_sub (a := t) (b := 1) (by omega) ht
      clear hv hv2 hz1 hz2 hyl hblk2 hown2 hat2
      go_wp2_with fail
      go_roundw
      case rel => exact HR.out
      case measure => simp [intOf]; omega
    | false =>
      have HE : Hid (OutPost w g off cs Y (.returned (.int .u64 (t : Int))) wr) := by
        obtain ⟨h1, h2⟩ := hat
        have h3 : val ((cs.drop off).take (Y.length + 1)) = val Y * t + val zs' := by rw [← h1, Nat.mul_comm t]; omega
        refine ⟨?_, ⟨zs', hzl, hzd, ?_, hblk⟩, hown⟩
        · rw [h3, Nat.mul_add_div HY.out, Nat.div_eq_of_lt h2, Nat.add_zero]
        · rw [h3, Nat.mul_add_mod, Nat.mod_eq_of_lt h2]
      clear hat hblk hzl hown hnum
      go_wp2_with fail
      go_ret
      exact HE.out
end Go.Proofs.YtbbncggaaibheaaGreatDoor
