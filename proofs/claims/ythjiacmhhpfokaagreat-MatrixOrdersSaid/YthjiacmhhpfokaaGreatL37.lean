/- Part 37 of the proof: VAppR, VAppV, VSameVecs, VCopyVecs, MxMath. -/
import Derived.Test.YthjiacmhhpfokaaGreatL36
namespace Go.Proofs.YthjiacmhhpfokaaGreat
open Act renaming put → aP
open List renaming getElem?_eq_getElem → gE
open Nat renaming lt_of_lt_of_le → lL
namespace V
open Go.RowKit
open Q (IsQ OneQ below_on ql Qbx qsign qsign_zero_iff)
def TV.encR (x : TV) : List Value := [.bool x.s, .slice x.A x.n x.c, .bool x.t, .slice x.B x.m x.d]
def flatR (xs : List TV) : List Value := xs.flatMap TV.encR
structure OwnR (w : World) (base : Nat) (v : Value) (ts : List TV) : Prop where
 row : w.ownsRow base 27 4 v ts.length (flatR ts)
 all : AllT w v
 some_ : ∃ A n c, v = .slice A n c
theorem OwnR.nil (w : World) (base : Nat) : OwnR w base (.slice none 0 0) [] := ⟨⟨rfl, .inl ⟨rfl, rfl⟩⟩, (fun _ h => by cases h), _, _, _, rfl⟩
theorem OwnR.keep {w w' : World} {base : Nat} {v : Value} {ts : List TV} (h : OwnR w base v ts) (hb : ∀ g, v.ownBlock = some g → w'.heap[g]? = w.heap[g]?) : OwnR w' base v ts := by
 refine ⟨⟨h.row.1, ?_⟩, fun g hg j u hu => h.all g hg j u ((World.cell?_of_block (a := ⟨g, j, none⟩) (hb g hg)).symm.trans hu), h.some_⟩
 rcases h.row.2 with hn | ⟨g, cap, cur, rfl, h1, h2, rest⟩
 ·exact .inl hn
 ·exact .inr ⟨g, cap, cur, rfl, h1, (hb g rfl).trans h2, rest⟩
theorem OwnR.lt {w : World} {base : Nat} {v : Value} {ts : List TV} (h : OwnR w base v ts) {g : Nat} (hg : v.ownBlock = some g) : g < w.heap.size := (h.row.lt g hg).2
end V

namespace V
open Go.RowKit
open Q (below_on)
def SV.encV (x : SV) : List Value := [.slice x.A x.n x.c]
def flatV (xs : List SV) : List Value := xs.flatMap SV.encV
def zeroV : Value := .slice none 0 0
theorem info_v : (Tryz.prog.info? 33).map (fun i => (i.zero, i.size, i.bytes)) = some (some zeroV, 1, 24) := by kernel_rfl
structure OwnV (w : World) (base : Nat) (v : Value) (ts : List SV) : Prop where
 row : w.ownsRow base 33 1 v ts.length (flatV ts)
 all : AllT w v
 some_ : ∃ A n c, v = .slice A n c
theorem OwnV.nil (w : World) (base : Nat) : OwnV w base (.slice none 0 0) [] := ⟨⟨rfl, .inl ⟨rfl, rfl⟩⟩, (fun _ h => by cases h), _, _, _, rfl⟩
theorem OwnV.keep {w w' : World} {base : Nat} {v : Value} {ts : List SV} (h : OwnV w base v ts) (hb : ∀ g, v.ownBlock = some g → w'.heap[g]? = w.heap[g]?) : OwnV w' base v ts := by
 refine ⟨⟨h.row.1, ?_⟩, fun g hg j u hu => h.all g hg j u ((World.cell?_of_block (a := ⟨g, j, none⟩) (hb g hg)).symm.trans hu), h.some_⟩
 rcases h.row.2 with hn | ⟨g, cap, cur, rfl, h1, h2, rest⟩
 ·exact .inl hn
 ·exact .inr ⟨g, cap, cur, rfl, h1, (hb g rfl).trans h2, rest⟩
theorem OwnV.lt {w : World} {base : Nat} {v : Value} {ts : List SV} (h : OwnV w base v ts) {g : Nat} (hg : v.ownBlock = some g) : g < w.heap.size := (h.row.lt g hg).2
end V

namespace V
open List renaming getElem_toArray → gY, getElem_cons_zero → gZ, getElem_cons_succ → gJ, setIfInBounds_toArray → sT, set_cons_zero → sZ, set_cons_succ → sS
open Lib renaming hid → lh
open Go.RowKit
open Q (IsQ OneQ RetQ below_on ql Qbx)
def SameV (xs ys : List SV) (b : Nat → Bool) (j : Nat) : Prop := ∀ x y, xs[j]? = some x → ys[j]? = some y → b j = true
def RowS (w : World) (A : Option Addr) (vs : List SV) : Prop := vs ≠ [] → ∃ b off, A = some ⟨b, off, none⟩ ∧ b < w.heap.size ∧ ∀ (j : Nat) v, vs[j]? = some v → w.cell? ⟨b, off + j, none⟩ = some (.slice v.A v.n v.c)
theorem rows_at {w : World} {A : Option Addr} {vs : List SV} (h : RowS w A vs) {j : Nat} {x : SV} (hj : vs[j]? = some x) : ∃ b off, A = some ⟨b, off, none⟩ ∧ ∀ V, Below w.heap.size w V → V.cell? ⟨b, off + j, none⟩ = some (.slice x.A x.n x.c) := by
 obtain ⟨b, off, e, hlt, hc⟩ := h (by intro e; rw [e] at hj; simp at hj)
 exact ⟨b, off, e, fun V hV => (hV.cell (p := ⟨b, off + j, none⟩) hlt).trans (hc j _ hj)⟩
set_option maxRecDepth 100000 in
set_option maxHeartbeats 4000000 in
theorem samevecs_any {w : World} {A B : Option Addr} {n c m d : Nat} {xs ys : List SV} (hx : RowS w A xs) (hy : RowS w B ys) (hn : n = xs.length) (hm : m = ys.length) (hl : n ≤ 1000000) (b : Nat → Bool)
  (hs : ∀ j x y W, xs[j]? = some x → ys[j]? = some y → Below w.heap.size w W → Calls Tryz.prog 17 #[.slice x.A x.n x.c, .slice y.A y.n y.c] W (RetB W (b j)))
  (v : Bool) (hv : v = true ↔ n = m ∧ ∀ j, SameV xs ys b j) : Calls Tryz.prog 55 #[.slice A n c, .slice B m d] w (RetB w v) := by
 have HXR := lh hx
 have HYR := lh hy
 have HXL := lh hn
 have HYL := lh hm
 have HL := lh hl
 have HS := lh hs
 have HV := lh hv
 have HB := lh (Below.refl w.heap.size w)
 have bv : ∀ c : Bool, (c = true ↔ n = m ∧ ∀ j, SameV xs ys b j) → c = v := fun c hc => Bool.eq_iff_iff.2 (hc.trans HV.out.symm)
 have BV := lh bv
 by_cases hnm : n = m
 ·have g0 : ((n : Int) != (m : Int)) = false := by rw [hnm]; exact bne_self_eq_false _
  have HNM := lh hnm
  clear hx hy hn hm hl hs hv hnm bv
  go_enter Tryz.func55, Tryz.ntmps55
  go_wp2_with fail
  go_loopw [5] (fun iv wr => ∃ i : Nat, i ≤ n ∧ iv = .int .i64 (i : Int) ∧ Hid (Below w.heap.size w wr) ∧ Hid (∀ j, j < i → SameV xs ys b j)) (fun iv _ => n - (intOf iv).toNat)
  case atStart => exact ⟨0, Nat.zero_le _, rfl, HB, fun j hj => absurd hj (Nat.not_lt_zero j)⟩
  case round =>
   clear HB
   obtain ⟨i, hi, rfl, HB, HG⟩ := hrel
   by_cases hlt : i < n
   ·have hi1 : (i : Int) < (n : Int) := by omega
    have hi0 : (0 : Int) ≤ (i : Int) := by omega
    have hi2 : (i : Int) < (m : Int) := by have := HNM.out; omega
    have hwi : IntKind.i64.wrap ((i : Int) + 1) = (i : Int) + 1 := by have := HL.out; rw [IntKind.wrap_i64]; omega
    obtain ⟨x, hx⟩ : ∃ x, xs[i]? = some x := ⟨xs[i]'(by have := HXL.out; omega), gE (by have := HXL.out; omega)⟩
    obtain ⟨y, hy⟩ : ∃ y, ys[i]? = some y := ⟨ys[i]'(by have := HYL.out; omega), gE (by have := HYL.out; omega)⟩
    obtain ⟨b1, off, hA, hk1⟩ := rows_at HXR.out hx
    obtain ⟨b2, off', hB, hk2⟩ := rows_at HYR.out hy
    have HX := lh hx
    have HY := lh hy
    subst hA hB
    have HK : Hid (∀ V, Below w.heap.size w V → V.cell? ⟨b1, off + i, none⟩ = some (.slice x.A x.n x.c) ∧ V.cell? ⟨b2, off' + i, none⟩ = some (.slice y.A y.n y.c)) := fun V hV => by
     have p0 := hk1 V hV
     have q0 := hk2 V hV
     exact ⟨p0, q0⟩
    clear hx hy hk1 hk2
    obtain ⟨s0, hs0⟩ : ∃ s0, b i = s0 := ⟨_, rfl⟩
    have HS0 := lh hs0
    clear hs0
    cases s0 with
    | true =>
     go_upto_region 6 with fail
     replace HB := lh HB.out.drew
     refine wp_region_held_drew (S := (fun V => V.cell? ⟨b1, off + i, none⟩ = some (.slice x.A x.n x.c) ∧ V.cell? ⟨b2, off' + i, none⟩ = some (.slice y.A y.n y.c))) (by kernel_rfl) (by with_reducible exact HK.out _ HB.out) (fun hHeld => ?_)
     refine' tK 0 ?_
     try simp only [gY, gZ, aP, sT, sZ, sS]
     refine' tK 1 ?_
     try simp only [gY, gZ, gJ, aP, sT, sZ, sS]
     refine' tK 2 ?_
     try simp only [gY, gZ, gJ, aP, sT, sZ, sS]
     refine' tK 3 ?_
     try simp only [gY, gZ, gJ, aP, sT, sZ, sS]
     refine' tK 4 ?_
     try simp only [gY, gZ, gJ, aP, sT, sZ, sS]
     refine' tK 5 ?_
     try simp only [gY, gZ, gJ, aP, sT, sZ, sS]
     refine' tK 6 ?_
     try simp only [gY, gZ, gJ, aP, sT, sZ, sS]
     refine' tK 7 ?_
     try simp only [gY, gZ, gJ, aP, sT, sZ, sS]
     refine rQ 8 (fun K hK => ?_)
     try simp only [gY, gZ, gJ]
     go_simp
     with_reducible refine (HS.out i x y _ HX.out HY.out HB.out).mono ?_
     rintro e w1 ⟨rfl, hbx⟩
     replace HB := lh (below_on HB.out hbx)
     clear hbx
     refine hK.out _ _ (by with_reducible exact HK.out _ HB.out) (fun hHeld => ?_)
     clear hK K
     try simp only [aP, sT, sZ, sS]
     refine' tK 9 ?_
     try simp only [gY, gZ, gJ, aP, sT, sZ, sS]
     refine wpAnyH_done (by kernel_rfl) ?_ _
     rw [HS0.out]
     go_wp2_with fail
     go_roundw
     case rel =>
      refine ⟨i + 1, by omega, by go_num, HB, fun j hj => ?_⟩
      rcases Nat.lt_or_ge j i with h | h
      ·exact HG.out j h
      ·intro x' y' hx' hy'
       obtain rfl : j = i := by omega
       exact HS0.out
     case measure => (simp [intOf]; omega)
    | false =>
     go_upto_region 6 with fail
     replace HB := lh HB.out.drew
     refine wp_region_held_drew (S := (fun V => V.cell? ⟨b1, off + i, none⟩ = some (.slice x.A x.n x.c) ∧ V.cell? ⟨b2, off' + i, none⟩ = some (.slice y.A y.n y.c))) (by kernel_rfl) (by with_reducible exact HK.out _ HB.out) (fun hHeld => ?_)
     refine' tK 0 ?_
     try simp only [gY, gZ, aP, sT, sZ, sS]
     refine' tK 1 ?_
     try simp only [gY, gZ, gJ, aP, sT, sZ, sS]
     refine' tK 2 ?_
     try simp only [gY, gZ, gJ, aP, sT, sZ, sS]
     refine' tK 3 ?_
     try simp only [gY, gZ, gJ, aP, sT, sZ, sS]
     refine' tK 4 ?_
     try simp only [gY, gZ, gJ, aP, sT, sZ, sS]
     refine' tK 5 ?_
     try simp only [gY, gZ, gJ, aP, sT, sZ, sS]
     refine' tK 6 ?_
     try simp only [gY, gZ, gJ, aP, sT, sZ, sS]
     refine' tK 7 ?_
     try simp only [gY, gZ, gJ, aP, sT, sZ, sS]
     refine rQ 8 (fun K hK => ?_)
     try simp only [gY, gZ, gJ]
     go_simp
     with_reducible refine (HS.out i x y _ HX.out HY.out HB.out).mono ?_
     rintro e w2 ⟨rfl, hbx⟩
     replace HB := lh (below_on HB.out hbx)
     clear hbx
     refine hK.out _ _ (by with_reducible exact HK.out _ HB.out) (fun hHeld => ?_)
     clear hK K
     try simp only [aP, sT, sZ, sS]
     refine' tK 9 ?_
     try simp only [gY, gZ, gJ, aP, sT, sZ, sS]
     refine wpAnyH_done (by kernel_rfl) ?_ _
     rw [HS0.out]
     go_wp2_with fail
     have HE : Hid (false = v) := BV.out false ⟨fun h => (by cases h), fun h => by have h2 := h.2 i x y HX.out HY.out; rw [HS0.out] at h2; exact h2⟩
     go_ret
     rw [← HE.out]
     exact ⟨rfl, HB.out⟩
   ·have hi1 : ¬ (i : Int) < (n : Int) := by omega
    have HE : Hid (true = v) := BV.out true ⟨fun _ => ⟨HNM.out, fun j => by
     rcases Nat.lt_or_ge j i with h | h
     ·exact HG.out j h
     ·intro x y hx
      have h2 := (List.getElem?_eq_some_iff.1 hx).1
      have := HXL.out
      omega⟩, fun _ => rfl⟩
    go_wp2_with fail
    go_ret
    rw [← HE.out]
    exact ⟨rfl, HB.out⟩
 ·have g0 : ((n : Int) != (m : Int)) = true := bne_iff_ne.2 (by omega)
  have HE : Hid (false = v) := bv false ⟨fun h => (by cases h), fun h => absurd h.1 hnm⟩
  clear hx hy hn hm hl hs hv hnm bv
  go_enter Tryz.func55, Tryz.ntmps55
  go_wp2_with fail
  go_ret
  rw [← HE.out]
  exact ⟨rfl, HB.out⟩
end V

namespace V
open Go.RowKit
open Q (IsQ OneQ RetQ below_on ql Qbx)
theorem Row.near {Own : Nat → Prop} {w wx : World} {A : Option Addr} {xs : List TV} (h : Row w A xs) (ho : Off Own A) (hn : Near Own w wx) : Row wx A xs := by
 intro hne
 obtain ⟨b, off, e, hlt, hc⟩ := h hne
 exact ⟨b, off, e, lL hlt hn.size, fun j x hj i v hv => (World.cell?_of_block (a := ⟨b, off + j * 5 + i, none⟩) (hn.block b hlt (ho _ e))).trans (hc j x hj i v hv)⟩
theorem OwnU.parts {w : World} {base n c : Nat} {A : Option Addr} {ts : List TV} (h : OwnU w base (.slice A n c) ts) : n = ts.length ∧ Row w A ts ∧ ∀ a, A = some a → base ≤ a.block ∧ a.block < w.heap.size := by
 rcases h.row.2 with ⟨e, h0⟩ | ⟨g, cap, cur, e, hbase, hgc, hnc, hcm, hcs, htake⟩
 ·obtain ⟨rfl, rfl, rfl⟩ : A = none ∧ n = 0 ∧ c = 0 := by simpa using e
  have hz : ts = [] := List.eq_nil_of_length_eq_zero h0
  subst hz
  exact ⟨rfl, (fun h => absurd rfl h), fun a ha => by cases ha⟩
 ·obtain ⟨rfl, rfl, rfl⟩ : A = some ⟨g, 0, none⟩ ∧ n = ts.length ∧ c = cap := by simpa using e
  refine ⟨rfl, row_cells (lt_of_block hgc) ?_, fun a ha => by obtain rfl := Option.some.inj ha; exact ⟨hbase, lt_of_block hgc⟩⟩
  intro j u hj
  rw [Nat.zero_add, cell_of_row w g j _ _ _ hgc]
  rw [← htake, List.getElem?_take] at hj
  split at hj
  ·simpa using hj
  ·cases hj
structure TwinV (w : World) (own : Option Nat) (x z : SV) : Prop where
 n : z.n = x.n
 ex : ∃ ts, z.n = ts.length ∧ Row w z.A ts ∧ ∀ (j : Nat) a b, (x.ys.map Prod.fst)[j]? = some a → ts[j]? = some b → Twin w a b
 off : ∀ a, z.A = some a → some a.block ≠ own ∧ a.block < w.heap.size
theorem TwinV.below {w wx : World} {own : Option Nat} {x z : SV} (h : TwinV w own x z) (hb : Below w.heap.size w wx) : TwinV wx own x z := by
 obtain ⟨ts, h1, h2, h3⟩ := h.ex
 exact ⟨h.n, ⟨ts, h1, h2.below hb, fun j a b ha hb2 => (h3 j a b ha hb2).below hb⟩, fun a ha => ⟨(h.off a ha).1, lL (h.off a ha).2 hb.size⟩⟩
theorem TwinV.near {w wx : World} {own own' : Option Nat} {x z : SV} (h : TwinV w own x z) (hd : NoDig w (fun b => some b = own)) (hn : Near (fun b => some b = own) w wx) (ho : own' = own ∨ own' = some w.heap.size) : TwinV wx own' x z := by
 obtain ⟨ts, h1, h2, h3⟩ := h.ex
 refine ⟨h.n, ⟨ts, h1, h2.near (fun a ha => (h.off a ha).1) hn, fun j a b ha hb2 => (h3 j a b ha hb2).near hd hn⟩, fun a ha => ⟨?_, lL (h.off a ha).2 hn.size⟩⟩
 rcases ho with e | e
 ·rw [e]; exact (h.off a ha).1
 ·rw [e]; intro e2; have := (h.off a ha).2; have := Option.some.inj e2; omega
structure CopyV (w wr : World) (v : Value) (xs zs : List SV) (i : Nat) : Prop where
 own : OwnV wr w.heap.size v zs
 len : zs.length = i
 twin : ∀ (j : Nat) x z, xs[j]? = some x → zs[j]? = some z → TwinV wr v.ownBlock x z
 nw : New w wr v
theorem CopyV.below {w wr wx : World} {v : Value} {xs zs : List SV} {i : Nat} (h : CopyV w wr v xs zs i) (hb : Below wr.heap.size wr wx) : CopyV w wx v xs zs i :=
 ⟨h.own.keep (fun g hg => hb.block g (h.own.lt hg)), h.len, fun j x z hx hz => (h.twin j x z hx hz).below hb, ⟨below_on h.nw.bel hb, h.nw.new⟩⟩
structure FitV (w : World) (x : SV) : Prop where
 row : Row w x.A (x.ys.map Prod.fst)
 en : x.n = (x.ys.map Prod.fst).length
 le : x.n ≤ 1000000
 fit : ∀ y ∈ x.ys.map Prod.fst, Fit w y
theorem FitV.below {w w' : World} {x : SV} (h : FitV w x) (hb : Below w.heap.size w w') : FitV w' x := ⟨h.row.below hb, h.en, h.le, fun y hy => (h.fit y hy).below hb⟩
end V

namespace V
open Q (ql)
abbrev Cols := List (List (Int × Rat))
theorem getD_out {C : Cols} {k : Nat} (h : C.length ≤ k) : C.getD k [] = [] := by rw [List.getD_eq_getElem?_getD, List.getElem?_eq_none h]; rfl
theorem getD_in {C : Cols} {k : Nat} (h : k < C.length) : C.getD k [] = C[k] := by rw [List.getD_eq_getElem?_getD, gE h]; rfl
def col (C : Cols) (k : Nat) : Int → Rat := tot (C.getD k [])
def sumn (f : Nat → Rat) : Nat → Rat
 | 0 => 0
 | n + 1 => sumn f n + f n
theorem sumn_congr {f g : Nat → Rat} : ∀ n, (∀ k, k < n → f k = g k) → sumn f n = sumn g n
 | 0, _ => rfl
 | n + 1, h => by
  show sumn f n + f n = sumn g n + g n
  rw [sumn_congr n (fun k hk => h k (by omega)), h n (by omega)]
theorem sumn_add (f g : Nat → Rat) : ∀ n, sumn (fun k => f k + g k) n = sumn f n + sumn g n
 | 0 => by show (0 : Rat) = 0 + 0; grind
 | n + 1 => by
  show sumn (fun k => f k + g k) n + (f n + g n) = sumn f n + f n + (sumn g n + g n)
  rw [sumn_add f g n]; grind
theorem sumn_zero {f : Nat → Rat} (n : Nat) (h : ∀ k, k < n → f k = 0) : sumn f n = 0 := by
 induction n with
 | zero => rfl
 | succ n ih =>
  show sumn f n + f n = 0
  rw [ih (fun k hk => h k (by omega)), h n (by omega)]; grind
theorem sumn_one {f : Nat → Rat} {p : Nat} : ∀ n, p < n → (∀ k, k < n → k ≠ p → f k = 0) → sumn f n = f p
 | 0, h, _ => by omega
 | n + 1, h, h0 => by
  show sumn f n + f n = f p
  by_cases e : n = p
  ·subst e
   rw [sumn_zero n (fun k hk => h0 k (by omega) (by omega))]; grind
  ·rw [sumn_one n (by omega) (fun k hk hne => h0 k (by omega) hne), h0 n (by omega) e]; grind
def mtimes (C : Cols) (X : Int → Rat) (a : Int) : Rat := sumn (fun k => X (k : Int) * col C k a) C.length
def tsum (C : Cols) : List (Int × Rat) → Int → Rat
 | [], _ => 0
 | (p, q) :: l, a => (if 0 ≤ p ∧ p < (C.length : Int) then q * col C p.toNat a else 0) + tsum C l a
theorem tsum_snoc (C : Cols) (l : List (Int × Rat)) (p : Int) (q : Rat) (a : Int) : tsum C (l ++ [(p, q)]) a = tsum C l a + (if 0 ≤ p ∧ p < (C.length : Int) then q * col C p.toNat a else 0) := by
 induction l with
 | nil => show _ + (0 : Rat) = 0 + _; grind
 | cons x l ih =>
  show _ + tsum C (l ++ [(p, q)]) a = _ + tsum C l a + _
  rw [ih]; grind
theorem tsum_eq (C : Cols) (a : Int) : ∀ l : List (Int × Rat), tsum C l a = mtimes C (tot l) a
 | [] => by
  show (0 : Rat) = _
  exact (sumn_zero _ (fun k _ => by show (0 : Rat) * _ = 0; grind)).symm
 | (p, q) :: l => by
  show _ + tsum C l a = sumn _ _
  rw [tsum_eq C a l, sumn_congr (g := fun k => (if p = (k : Int) then q else 0) * col C k a + tot l (k : Int) * col C k a) C.length (fun k _ => by rw [tot_cons]; grind), sumn_add]
  congr 1
  by_cases h : 0 ≤ p ∧ p < (C.length : Int)
  ·rw [if_pos h, sumn_one (p := p.toNat) C.length (by omega) (fun k _ hk => by rw [if_neg (by omega)]; grind)]
   rw [if_pos (by omega)]
  ·rw [if_neg h, sumn_zero C.length (fun k hk => by rw [if_neg (by omega)]; grind)]
def dotl (Y : Int → Rat) : List (Int × Rat) → Rat
 | [] => 0
 | (p, q) :: l => Y p * q + dotl Y l
theorem dotl_snoc (Y : Int → Rat) (l : List (Int × Rat)) (p : Int) (q : Rat) : dotl Y (l ++ [(p, q)]) = dotl Y l + Y p * q := by
 induction l with
 | nil => show _ + (0 : Rat) = 0 + _; grind
 | cons x l ih => obtain ⟨p', q'⟩ := x; show _ + dotl Y (l ++ [(p, q)]) = _ + dotl Y l + _; rw [ih]; grind
def mleft (Y : Int → Rat) (C : Cols) (k : Int) : Rat := if 0 ≤ k then dotl Y (C.getD k.toNat []) else 0
theorem mleft_far {Y : Int → Rat} {C : Cols} {k : Int} (h : k < 0 ∨ (C.length : Int) ≤ k) : mleft Y C k = 0 := by
 unfold mleft
 by_cases h0 : 0 ≤ k
 ·rw [if_pos h0, getD_out (by omega)]; rfl
 ·rw [if_neg h0]
theorem mleft_at {Y : Int → Rat} {C : Cols} (k : Nat) : mleft Y C (k : Int) = dotl Y (C.getD k []) := by
 unfold mleft
 rw [if_pos (by omega), Int.toNat_natCast]
def upto (n : Nat) : List Int := (List.range n).map (fun (k : Nat) => (k : Int))
theorem upto_nodup (n : Nat) : (upto n).Nodup := by
 unfold upto
 rw [List.Nodup, List.pairwise_map]
 exact List.Pairwise.imp (fun h e => h (by omega)) List.nodup_range
theorem mem_upto {n : Nat} {a : Int} : a ∈ upto n ↔ 0 ≤ a ∧ a < (n : Int) := by
 unfold upto
 rw [List.mem_map]
 constructor
 ·rintro ⟨k, hk, rfl⟩; have := List.mem_range.1 hk; omega
 ·intro h; exact ⟨a.toNat, List.mem_range.2 (by omega), by omega⟩
structure MR (p m L : Nat) (C : Cols) : Prop where
 over : ∃ P N, P ≠ 0 ∧ P < B64 ^ p ∧ N < B64 ^ m ∧ ∀ c ∈ C, ∀ x ∈ c, Over P N x.2
 len : ∀ c ∈ C, c.length ≤ L
theorem b64_le {n : Nat} (h : n ≤ 1000000) : n ≤ B64 := by rw [B64_eq]; omega
theorem mul_small {n N m : Nat} (hn : n ≤ 1000000) (hN : N < B64 ^ m) : n * N < B64 ^ (m + 1) := by
 have h1 : n * N ≤ B64 * N := Nat.mul_le_mul_right _ (b64_le hn)
 have h2 : B64 * N < B64 * B64 ^ m := Nat.mul_lt_mul_of_pos_left hN b64_pos
 rw [Nat.pow_succ, Nat.mul_comm (B64 ^ m)]
 omega
theorem getD_mem {C : Cols} {k : Nat} (h : k < C.length) : C.getD k [] ∈ C := by rw [getD_in h]; exact List.getElem_mem h
theorem MR.col {p m L : Nat} {C : Cols} (h : MR p m L C) (hL : L ≤ 1000) (k : Nat) : Fn p (m + 1) L (col C k) := by
 obtain ⟨P, N, h0, h1, h2, h3⟩ := h.over
 by_cases hk : k < C.length
 ·have hm := getD_mem hk
  have hl := h.len _ hm
  refine ⟨⟨P, L * N, h0, h1, mul_small (by omega) h2, fun a => ?_⟩, (C.getD k []).map Prod.fst, by rw [List.length_map]; exact hl, fun a ha => ?_⟩
  ·exact (Over.tot (h3 _ hm) a).mono (Nat.mul_le_mul_right _ hl)
  ·obtain ⟨x, hx, e⟩ := tot_in ha
   exact List.mem_map.2 ⟨x, hx, e⟩
 ·have e : V.col C k = fun _ => 0 := by unfold V.col; rw [getD_out (by omega)]; rfl
  rw [e]
  exact ⟨⟨P, 0, h0, h1, Nat.lt_of_le_of_lt (Nat.zero_le _) (Nat.pow_pos b64_pos), fun a => Over.zero _ _⟩, [], Nat.zero_le _, fun a ha => absurd rfl ha⟩
theorem Over.sumn {P N : Nat} {f : Nat → Rat} : ∀ n, (∀ k, k < n → Over P N (f k)) → Over P (n * N) (V.sumn f n)
 | 0, _ => Over.zero _ _
 | n + 1, h => by
  have := (Over.sumn n (fun k hk => h k (by omega))).add (h n (by omega))
  rwa [← Nat.succ_mul] at this
theorem MR.times {p m L p2 m2 L2 : Nat} {C : Cols} {X : Int → Rat} (h : MR p m L C) (hX : Fn p2 m2 L2 X) (hL : L ≤ 1000) (hK : C.length ≤ 1000) : Fn (p2 + p) (m2 + m + 2) (C.length * L) (mtimes C X) := by
 obtain ⟨P, N, h0, h1, h2, h3⟩ := h.over
 obtain ⟨Q, M, g0, g1, g2, g3⟩ := hX.over
 refine ⟨⟨Q * P, C.length * (M * (L * N)), Nat.mul_ne_zero g0 h0, mul_pow g1 h1, ?_, fun a => ?_⟩, (C.map (fun c => c.map Prod.fst)).flatten, ?_, fun a ha => ?_⟩
 ·have e1 : L * N < B64 ^ (m + 1) := mul_small (by omega) h2
  have e2 : M * (L * N) < B64 ^ (m2 + (m + 1)) := mul_pow g2 e1
  have e3 := mul_small (n := C.length) (by omega) e2
  rwa [show m2 + (m + 1) + 1 = m2 + m + 2 by omega] at e3
 ·refine Over.sumn _ (fun k hk => ?_)
  have hm := getD_mem hk
  exact (g3 _).mul ((Over.tot (h3 _ hm) a).mono (Nat.mul_le_mul_right _ (h.len _ hm)))
 ·have : ∀ C : Cols, (∀ c ∈ C, c.length ≤ L) → ((C.map (fun c => c.map Prod.fst)).flatten).length ≤ C.length * L := by
   intro C hC
   induction C with
   | nil => simp
   | cons c C ih =>
    have e1 := ih (fun d hd => hC d (List.mem_cons_of_mem _ hd))
    have e2 := hC c (List.mem_cons_self ..)
    rw [List.map_cons, List.flatten_cons, List.length_append, List.length_map, List.length_cons, Nat.succ_mul]
    omega
  exact this C h.len
 ·have hne : ∃ k, k < C.length ∧ V.col C k a ≠ 0 := Classical.byContradiction fun hn => ha (sumn_zero _ (fun k hk => by
   by_cases e : V.col C k a = 0
   ·rw [e]; grind
   ·exact absurd ⟨k, hk, e⟩ hn))
  obtain ⟨k, hk, e⟩ := hne
  obtain ⟨x, hx, e2⟩ := tot_in e
  exact List.mem_flatten.2 ⟨(C.getD k []).map Prod.fst, List.mem_map.2 ⟨_, getD_mem hk, rfl⟩, List.mem_map.2 ⟨x, hx, e2⟩⟩
theorem Over.dotl {P N Q M : Nat} {Y : Int → Rat} (hY : ∀ a, Over P N (Y a)) : ∀ {l : List (Int × Rat)}, (∀ x ∈ l, Over Q M x.2) → Over (P * Q) (l.length * (N * M)) (V.dotl Y l)
 | [], _ => Over.zero _ _
 | (p, q) :: l, h => by
  have h1 := (hY p).mul (h _ (List.mem_cons_self ..))
  have h2 := Over.dotl hY (fun x hx => h x (List.mem_cons_of_mem _ hx))
  have h3 := h1.add h2
  rw [List.length_cons, Nat.succ_mul, Nat.add_comm]
  exact h3
theorem MR.left {p m L p2 m2 L2 : Nat} {C : Cols} {Y : Int → Rat} (h : MR p m L C) (hY : Fn p2 m2 L2 Y) (hL : L ≤ 1000) : Fn (p2 + p) (m2 + m + 1) C.length (mleft Y C) := by
 obtain ⟨P, N, h0, h1, h2, h3⟩ := h.over
 obtain ⟨Q, M, g0, g1, g2, g3⟩ := hY.over
 refine ⟨⟨Q * P, L * (M * N), Nat.mul_ne_zero g0 h0, mul_pow g1 h1, mul_small (by omega) (mul_pow g2 h2), fun a => ?_⟩, upto C.length, by unfold upto; rw [List.length_map, List.length_range]; exact Nat.le_refl _, fun a ha => ?_⟩
 ·by_cases hr : 0 ≤ a ∧ a < (C.length : Int)
  ·have hm := getD_mem (C := C) (k := a.toNat) (by omega)
   unfold mleft
   rw [if_pos hr.1]
   exact (Over.dotl g3 (h3 _ hm)).mono (Nat.mul_le_mul_right _ (h.len _ hm))
  ·rw [mleft_far (by omega)]; exact Over.zero _ _
 ·rw [mem_upto]
  by_cases hr : 0 ≤ a ∧ a < (C.length : Int)
  ·exact hr
  ·exact absurd (mleft_far (by omega)) ha
