/-
  DETECTORS THAT ARE WATCHED, in numbers: when one may be, when one is ill, a tick later, behind many ticks; five cells in a block of their own.
-/
import Derived.Test.YtjfajdmifjbblaaDoorLay
import Derived.Test.YtjfajdmifjbblaaDoorPopM
namespace Go.Proofs.YtjfajdmifjbblaaDoor
open Go.RowKit Go.Lib Go.Deep
set_option linter.unusedVariables false
set_option linter.unusedSimpArgs false

structure Lk where
  up : Bool
  same : Int
  turns : Int
  bad : Bool
  well : Int
abbrev Lk.zero : Lk := ⟨false, 0, 0, false, 0⟩
abbrev lkC (x : Lk) : Array Value := #[.bool x.up, .int .i64 x.same, .int .u64 x.turns, .bool x.bad, .int .i64 x.well]
abbrev lkV (x : Lk) : Value := .agg (lkC x)
def lkF (x : Lk) (j : Nat) : Value := match j with
  | 0 => .bool x.up
  | 1 => .int .i64 x.same
  | 2 => .int .u64 x.turns
  | 3 => .bool x.bad
  | _ => .int .i64 x.well
theorem lkF_cs (x : Lk) : ∀ j, j < 5 → (lkC x)[j]? = some (lkF x j) := fun j hj => by
  rcases j with _|_|_|_|_|j <;> first | rfl | omega
theorem lkF_one (x : Lk) (j : Nat) : (lkF x j).oneCell' = true := by unfold lkF; split <;> rfl
abbrev eyU (e : Ey) : Value := .agg #[.int .i64 e.phase, .int .i64 e.on, .int .i64 e.off, .int .i64 e.turns]
/-- What the types of a detector's fields allow. -/
structure Typ (x : Lk) : Prop where
  t0 : 0 ≤ x.turns
  t1 : x.turns < 18446744073709551616
  s : i64B x.same
  w : i64B x.well
theorem typ_zero : Typ Lk.zero := ⟨by decide, by decide, by unfold i64B; decide, by unfold i64B; decide⟩
def mayK (x : Lk) : Bool := inB x.same 0 1048576 && (inB x.well 0 1048576 && (x.bad || decide (x.well = 0)))
/-- One more, at most m. -/
def incG (n m : Int) : Int := if n + 1 < m then n + 1 else m
/-- The bits, a tick later. -/
def lasG (z : Int) (u : Bool) : Int := if u = true then z * 2 % 18446744073709551616 + 1 else z * 2 % 18446744073709551616
/-- How many of the n lowest bits are set. -/
def stand (z n : Int) : Int := (cnt z.toNat n.toNat : Int)
def samK (x : Lk) (u : Bool) : Int := if u = x.up then incG x.same 1048576 else 1
def turK (x : Lk) (u : Bool) : Int := lasG x.turns (u != x.up)
def illK (e : Ey) (u : Bool) (n z : Int) : Bool := (u && decide (e.on ≤ n)) || ((!u && decide (e.off ≤ n)) || decide (e.turns < stand z 64))
def badK (e : Ey) (h : Int) (x : Lk) (u : Bool) : Bool := illK e u (samK x u) (turK x u) || (x.bad && decide (x.well + 1 < h))
def welK (e : Ey) (h : Int) (x : Lk) (u : Bool) : Int := if illK e u (samK x u) (turK x u) = false ∧ x.bad = true ∧ x.well + 1 < h then x.well + 1 else 0
/-- A tick later. -/
def stepK (e : Ey) (h : Int) (x : Lk) (u : Bool) : Lk := ⟨u, samK x u, turK x u, badK e h x u, welK e h x u⟩
theorem step_ill {e : Ey} {h : Int} {x : Lk} {u : Bool} (hi : illK e u (samK x u) (turK x u) = true) : stepK e h x u = ⟨u, samK x u, turK x u, true, 0⟩ := by
  unfold stepK badK welK
  rw [hi, if_neg (by simp)]
  rfl
theorem step_heal {e : Ey} {h : Int} {x : Lk} {u : Bool} (hi : illK e u (samK x u) (turK x u) = false) (hb : x.bad = true) (hw : x.well + 1 < h) : stepK e h x u = ⟨u, samK x u, turK x u, true, x.well + 1⟩ := by
  unfold stepK badK welK
  rw [hi, hb, if_pos ⟨rfl, rfl, hw⟩, decide_eq_true hw]
  rfl
theorem step_well {e : Ey} {h : Int} {x : Lk} {u : Bool} (hi : illK e u (samK x u) (turK x u) = false) (hb : x.bad = false ∨ ¬ x.well + 1 < h) : stepK e h x u = ⟨u, samK x u, turK x u, false, 0⟩ := by
  unfold stepK badK welK
  rw [hi]
  rcases hb with hb | hb
  · rw [hb, if_neg (by simp)]; rfl
  · rw [decide_eq_false hb, if_neg (by simp [hb])]; simp

theorem incG_le {n m : Int} : incG n m ≤ m := by unfold incG; split <;> omega
theorem incG_ge {n m : Int} (h : 0 ≤ n) (hm : 1 ≤ m) : 1 ≤ incG n m := by unfold incG; split <;> omega
theorem lasG_bd (z : Int) (u : Bool) : 0 ≤ lasG z u ∧ lasG z u < 18446744073709551616 := by unfold lasG; split <;> omega
/-- What it is to may be. -/
structure MayK (x : Lk) : Prop where
  s0 : 0 ≤ x.same
  s1 : x.same ≤ 1048576
  w0 : 0 ≤ x.well
  w1 : x.well ≤ 1048576
  bw : x.bad = false → x.well = 0
theorem mayK_iff {x : Lk} : mayK x = true ↔ MayK x := by
  unfold mayK
  simp only [Bool.and_eq_true, inB_iff]
  constructor
  · rintro ⟨⟨a, b⟩, ⟨c, d⟩, e⟩
    exact ⟨a, b, c, d, fun q => by rw [q] at e; simpa using e⟩
  · rintro ⟨a, b, c, d, e⟩
    refine ⟨⟨a, b⟩, ⟨c, d⟩, ?_⟩
    cases hb : x.bad
    · simp [e hb]
    · rfl
theorem mayK_zero : mayK Lk.zero = true := by decide
theorem samK_bd {x : Lk} (h : mayK x = true) (u : Bool) : 1 ≤ samK x u ∧ samK x u ≤ 1048576 := by
  have := (mayK_iff.1 h).s0
  unfold samK
  split
  · exact ⟨incG_ge this (by omega), incG_le⟩
  · omega
theorem turK_bd (x : Lk) (u : Bool) : 0 ≤ turK x u ∧ turK x u < 18446744073709551616 := lasG_bd _ _
theorem mayK_step {x : Lk} (e : Ey) {h : Int} (hh : h ≤ 1048576) (u : Bool) (hx : mayK x = true) : mayK (stepK e h x u) = true := by
  obtain ⟨a, b⟩ := samK_bd hx u
  obtain ⟨s0, s1, w0, w1, bw⟩ := mayK_iff.1 hx
  refine mayK_iff.2 ⟨by show 0 ≤ samK x u; omega, b, ?_, ?_, ?_⟩
  · show 0 ≤ welK e h x u
    unfold welK; split <;> omega
  · show welK e h x u ≤ _
    unfold welK; split <;> omega
  · intro q
    have q' : badK e h x u = false := q
    show welK e h x u = 0
    unfold badK at q'
    unfold welK
    rw [if_neg]
    rintro ⟨h1, h2, h3⟩
    rw [h1, h2, decide_eq_true h3] at q'
    cases q'
theorem typ_may {x : Lk} (h0 : 0 ≤ x.turns) (h1 : x.turns < 18446744073709551616) (hx : mayK x = true) : Typ x := by
  obtain ⟨s0, s1, w0, w1, bw⟩ := mayK_iff.1 hx
  exact ⟨h0, h1, by unfold i64B; omega, by unfold i64B; omega⟩
theorem typ_step {x : Lk} (e : Ey) {h : Int} (hh : h ≤ 1048576) (u : Bool) (hx : mayK x = true) : Typ (stepK e h x u) :=
  typ_may (turK_bd x u).1 (turK_bd x u).2 (mayK_step e hh u hx)

/-! ### The bits -/
theorem cnt_zero_low (x k : Nat) : cnt (x * 2 ^ k) k = 0 := by
  have h := cnt_flat (x * 2 ^ k) 0 k (fun j _ hj => by rw [Nat.testBit_mul_two_pow]; simp; omega)
  rw [Nat.zero_add] at h
  exact h
theorem stand_bd (z n : Int) : 0 ≤ stand z n ∧ stand z n ≤ n.toNat := by unfold stand; have := cnt_le z.toNat n.toNat; omega
theorem stand_zero (z : Int) : stand z 0 = 0 := rfl
/-- The bits one by one, from the lowest. -/
theorem cnt_half (x n : Nat) : cnt x (n + 1) = x % 2 + cnt (x / 2) n := by
  rw [Nat.add_comm n 1, cnt_split]
  show cnt x 1 + cnt (x / 2) n = _
  have : cnt x 1 = x % 2 := by
    show 0 + (x.testBit 0).toNat = _
    rw [Nat.testBit_zero]
    rcases Nat.mod_two_eq_zero_or_one x with h | h <;> simp [h]
  omega
/-- Behind a tick. -/
theorem stand_las (z : Int) (u : Bool) (n : Nat) (hz : 0 ≤ z) (hn : n < 64) : stand (lasG z u) (n + 1 : Nat) = (if u = true then 1 else 0) + stand z n := by
  unfold stand
  have e1 : ((n + 1 : Nat) : Int).toNat = n + 1 := by omega
  have e2 : ((n : Nat) : Int).toNat = n := by omega
  have e3 : (lasG z u).toNat = (z.toNat * 2 + if u = true then 1 else 0) % 2 ^ 64 := by unfold lasG; cases u <;> simp <;> omega
  rw [e1, e2, e3]
  have h := cnt_congr (S := (z.toNat * 2 + if u = true then 1 else 0) % 2 ^ 64) (T := z.toNat * 2 + if u = true then 1 else 0) (n + 1) (fun j hj => by rw [Nat.testBit_mod_two_pow]; simp; omega)
  rw [h, cnt_half]
  have e4 : (z.toNat * 2 + if u = true then 1 else 0) % 2 = if u = true then 1 else 0 := by split <;> omega
  have e5 : (z.toNat * 2 + if u = true then 1 else 0) / 2 = z.toNat := by split <;> omega
  rw [e4, e5]
  split <;> omega
/-- A word's halves. -/
theorem stand_halves {z : Int} (h0 : 0 ≤ z) : stand z 64 = (cnt (z.toNat % 4294967296) 32 : Int) + (cnt (z.toNat / 4294967296) 32 : Int) := by
  unfold stand
  have h := cnt_split z.toNat 32 32
  have e := cnt_mod z.toNat 32
  rw [show (64 : Int).toNat = 32 + 32 from rfl, h, ← e]
  simp

/-! ### Five cells in a block of their own -/
theorem cell_kept' {w w' : World} (k : Kept w w' none) {b i : Nat} (hb : b < w.heap.size) : w'.cell? ⟨b, i, none⟩ = w.cell? ⟨b, i, none⟩ := World.cell?_of_block (w := w) (a := ⟨b, i, none⟩) (k.block b hb (by simp))
theorem frozen_kept' {w w' : World} (k : Kept w w' none) {b i : Nat} (hb : b < w.heap.size) : w'.frozen? ⟨b, i, none⟩ = w.frozen? ⟨b, i, none⟩ := World.frozen?_of_block (w := w) (a := ⟨b, i, none⟩) (k.block b hb (by simp))
structure B5 (w : World) (b : Nat) (v0 v1 v2 v3 v4 : Value) : Prop where
  c0 : w.cell? ⟨b, 0, none⟩ = some v0
  c1 : w.cell? ⟨b, 1, none⟩ = some v1
  c2 : w.cell? ⟨b, 2, none⟩ = some v2
  c3 : w.cell? ⟨b, 3, none⟩ = some v3
  c4 : w.cell? ⟨b, 4, none⟩ = some v4
  f0 : w.frozen? ⟨b, 0, none⟩ = false
  f1 : w.frozen? ⟨b, 1, none⟩ = false
  f2 : w.frozen? ⟨b, 2, none⟩ = false
  f3 : w.frozen? ⟨b, 3, none⟩ = false
  f4 : w.frozen? ⟨b, 4, none⟩ = false
  lt : b < w.heap.size
theorem b5_alloc (w : World) (v0 v1 v2 v3 v4 : Value) (t : TypeId) : B5 (w.alloc (.cells #[v0, v1, v2, v3, v4] t)) w.heap.size v0 v1 v2 v3 v4 := by
  have h := heap_alloc_new w (.cells #[v0, v1, v2, v3, v4] t)
  exact ⟨World.cell?_alloc_mark .., World.cell?_alloc_mark .., World.cell?_alloc_mark .., World.cell?_alloc_mark .., World.cell?_alloc_mark .., by simp only [World.frozen?, h]; rfl, by simp only [World.frozen?, h]; rfl, by simp only [World.frozen?, h]; rfl, by simp only [World.frozen?, h]; rfl, by simp only [World.frozen?, h]; rfl, by simp⟩
theorem B5.kept {w w' : World} {b : Nat} {v0 v1 v2 v3 v4 : Value} (h : B5 w b v0 v1 v2 v3 v4) (k : Kept w w' none) : B5 w' b v0 v1 v2 v3 v4 :=
  ⟨(cell_kept' k h.lt).trans h.c0, (cell_kept' k h.lt).trans h.c1, (cell_kept' k h.lt).trans h.c2, (cell_kept' k h.lt).trans h.c3, (cell_kept' k h.lt).trans h.c4, (frozen_kept' k h.lt).trans h.f0, (frozen_kept' k h.lt).trans h.f1, (frozen_kept' k h.lt).trans h.f2, (frozen_kept' k h.lt).trans h.f3, (frozen_kept' k h.lt).trans h.f4, Nat.lt_of_lt_of_le h.lt k.size⟩
theorem B5.s0 {w : World} {b : Nat} {v0 v1 v2 v3 v4 : Value} (h : B5 w b v0 v1 v2 v3 v4) (u : Value) : B5 (w.setCell ⟨b, 0, none⟩ u) b u v1 v2 v3 v4 :=
  ⟨World.cell?_setCell_same _ _ _ h.c0, (World.cell?_setCell_other _ _ _ _ (by simp)).trans h.c1, (World.cell?_setCell_other _ _ _ _ (by simp)).trans h.c2, (World.cell?_setCell_other _ _ _ _ (by simp)).trans h.c3, (World.cell?_setCell_other _ _ _ _ (by simp)).trans h.c4, by rw [World.frozen?_setCell]; exact h.f0, by rw [World.frozen?_setCell]; exact h.f1, by rw [World.frozen?_setCell]; exact h.f2, by rw [World.frozen?_setCell]; exact h.f3, by rw [World.frozen?_setCell]; exact h.f4, by simpa [World.setCell] using h.lt⟩
theorem B5.s1 {w : World} {b : Nat} {v0 v1 v2 v3 v4 : Value} (h : B5 w b v0 v1 v2 v3 v4) (u : Value) : B5 (w.setCell ⟨b, 1, none⟩ u) b v0 u v2 v3 v4 :=
  ⟨(World.cell?_setCell_other _ _ _ _ (by simp)).trans h.c0, World.cell?_setCell_same _ _ _ h.c1, (World.cell?_setCell_other _ _ _ _ (by simp)).trans h.c2, (World.cell?_setCell_other _ _ _ _ (by simp)).trans h.c3, (World.cell?_setCell_other _ _ _ _ (by simp)).trans h.c4, by rw [World.frozen?_setCell]; exact h.f0, by rw [World.frozen?_setCell]; exact h.f1, by rw [World.frozen?_setCell]; exact h.f2, by rw [World.frozen?_setCell]; exact h.f3, by rw [World.frozen?_setCell]; exact h.f4, by simpa [World.setCell] using h.lt⟩
theorem B5.s2 {w : World} {b : Nat} {v0 v1 v2 v3 v4 : Value} (h : B5 w b v0 v1 v2 v3 v4) (u : Value) : B5 (w.setCell ⟨b, 2, none⟩ u) b v0 v1 u v3 v4 :=
  ⟨(World.cell?_setCell_other _ _ _ _ (by simp)).trans h.c0, (World.cell?_setCell_other _ _ _ _ (by simp)).trans h.c1, World.cell?_setCell_same _ _ _ h.c2, (World.cell?_setCell_other _ _ _ _ (by simp)).trans h.c3, (World.cell?_setCell_other _ _ _ _ (by simp)).trans h.c4, by rw [World.frozen?_setCell]; exact h.f0, by rw [World.frozen?_setCell]; exact h.f1, by rw [World.frozen?_setCell]; exact h.f2, by rw [World.frozen?_setCell]; exact h.f3, by rw [World.frozen?_setCell]; exact h.f4, by simpa [World.setCell] using h.lt⟩
theorem B5.s3 {w : World} {b : Nat} {v0 v1 v2 v3 v4 : Value} (h : B5 w b v0 v1 v2 v3 v4) (u : Value) : B5 (w.setCell ⟨b, 3, none⟩ u) b v0 v1 v2 u v4 :=
  ⟨(World.cell?_setCell_other _ _ _ _ (by simp)).trans h.c0, (World.cell?_setCell_other _ _ _ _ (by simp)).trans h.c1, (World.cell?_setCell_other _ _ _ _ (by simp)).trans h.c2, World.cell?_setCell_same _ _ _ h.c3, (World.cell?_setCell_other _ _ _ _ (by simp)).trans h.c4, by rw [World.frozen?_setCell]; exact h.f0, by rw [World.frozen?_setCell]; exact h.f1, by rw [World.frozen?_setCell]; exact h.f2, by rw [World.frozen?_setCell]; exact h.f3, by rw [World.frozen?_setCell]; exact h.f4, by simpa [World.setCell] using h.lt⟩
theorem B5.s4 {w : World} {b : Nat} {v0 v1 v2 v3 v4 : Value} (h : B5 w b v0 v1 v2 v3 v4) (u : Value) : B5 (w.setCell ⟨b, 4, none⟩ u) b v0 v1 v2 v3 u :=
  ⟨(World.cell?_setCell_other _ _ _ _ (by simp)).trans h.c0, (World.cell?_setCell_other _ _ _ _ (by simp)).trans h.c1, (World.cell?_setCell_other _ _ _ _ (by simp)).trans h.c2, (World.cell?_setCell_other _ _ _ _ (by simp)).trans h.c3, World.cell?_setCell_same _ _ _ h.c4, by rw [World.frozen?_setCell]; exact h.f0, by rw [World.frozen?_setCell]; exact h.f1, by rw [World.frozen?_setCell]; exact h.f2, by rw [World.frozen?_setCell]; exact h.f3, by rw [World.frozen?_setCell]; exact h.f4, by simpa [World.setCell] using h.lt⟩
theorem B5.far {w : World} {g : Nat} {v0 v1 v2 v3 v4 : Value} (h : B5 w g v0 v1 v2 v3 v4) {b : Nat} (hne : b ≠ g) (i : Nat) (u : Value) : B5 (w.setCell ⟨b, i, none⟩ u) g v0 v1 v2 v3 v4 :=
  ⟨(World.cell?_setCell_other _ _ _ _ (by simp [hne])).trans h.c0, (World.cell?_setCell_other _ _ _ _ (by simp [hne])).trans h.c1, (World.cell?_setCell_other _ _ _ _ (by simp [hne])).trans h.c2, (World.cell?_setCell_other _ _ _ _ (by simp [hne])).trans h.c3, (World.cell?_setCell_other _ _ _ _ (by simp [hne])).trans h.c4, by rw [World.frozen?_setCell]; exact h.f0, by rw [World.frozen?_setCell]; exact h.f1, by rw [World.frozen?_setCell]; exact h.f2, by rw [World.frozen?_setCell]; exact h.f3, by rw [World.frozen?_setCell]; exact h.f4, by simpa [World.setCell] using h.lt⟩
/-- All five cells are written over. -/
abbrev set5 (w : World) (b : Nat) (x0 x1 x2 x3 x4 : Value) : World := ((((w.setCell ⟨b, 0, none⟩ x0).setCell ⟨b, 1, none⟩ x1).setCell ⟨b, 2, none⟩ x2).setCell ⟨b, 3, none⟩ x3).setCell ⟨b, 4, none⟩ x4
theorem B5.set {w : World} {b : Nat} {v0 v1 v2 v3 v4 : Value} (h : B5 w b v0 v1 v2 v3 v4) (x0 x1 x2 x3 x4 : Value) : B5 (set5 w b x0 x1 x2 x3 x4) b x0 x1 x2 x3 x4 := ((((h.s0 _).s1 _).s2 _).s3 _).s4 _
theorem B5.off {w : World} {g : Nat} {v0 v1 v2 v3 v4 : Value} (h : B5 w g v0 v1 v2 v3 v4) {b : Nat} (hne : b ≠ g) (x0 x1 x2 x3 x4 : Value) : B5 (set5 w b x0 x1 x2 x3 x4) g v0 v1 v2 v3 v4 := ((((h.far hne 0 _).far hne 1 _).far hne 2 _).far hne 3 _).far hne 4 _
theorem kept_set5 {a w : World} {r : Option Nat} (h : Kept a w r) {b : Nat} (hb : a.heap.size ≤ b) (x0 x1 x2 x3 x4 : Value) : Kept a (set5 w b x0 x1 x2 x3 x4) r := ((((h.setNew (p := ⟨b, 0, none⟩) hb _).setNew (p := ⟨b, 1, none⟩) hb _).setNew (p := ⟨b, 2, none⟩) hb _).setNew (p := ⟨b, 3, none⟩) hb _).setNew (p := ⟨b, 4, none⟩) hb _
abbrev Kbox (w : World) (b : Nat) (x : Lk) : Prop := B5 w b (.bool x.up) (.int .i64 x.same) (.int .u64 x.turns) (.bool x.bad) (.int .i64 x.well)
theorem kbox_alloc (w : World) (x : Lk) (t : TypeId) : Kbox (w.alloc (.cells (lkC x) t)) w.heap.size x := b5_alloc w _ _ _ _ _ t
abbrev setK (w : World) (b : Nat) (x : Lk) : World := set5 w b (.bool x.up) (.int .i64 x.same) (.int .u64 x.turns) (.bool x.bad) (.int .i64 x.well)

/-! ### Behind many ticks -/
def tr (L : List Bool) (i : Nat) : Bool := L.getD i false
theorem take_snoc {L : List Bool} {k : Nat} (hk : k < L.length) : L.take (k + 1) = L.take k ++ [tr L k] := by
  rw [List.take_add_one, List.getElem?_eq_getElem hk]
  simp [tr, hk]
/-- A detector behind the first k ticks, from nothing on. -/
def atK (e : Ey) (h : Int) (L : List Bool) (k : Nat) : Lk := (L.take k).foldl (stepK e h) Lk.zero
theorem atK_zero (e : Ey) (h : Int) (L : List Bool) : atK e h L 0 = Lk.zero := rfl
theorem atK_succ {e : Ey} {h : Int} {L : List Bool} {k : Nat} (hk : k < L.length) : atK e h L (k + 1) = stepK e h (atK e h L k) (tr L k) := by
  unfold atK
  rw [take_snoc hk, List.foldl_append]
  rfl
theorem may_atK {e : Ey} {h : Int} (hh : h ≤ 1048576) {L : List Bool} : ∀ k, k ≤ L.length → mayK (atK e h L k) = true ∧ 0 ≤ (atK e h L k).turns ∧ (atK e h L k).turns < 18446744073709551616
  | 0, _ => ⟨mayK_zero, show (0 : Int) ≤ 0 by decide, show (0 : Int) < 18446744073709551616 by decide⟩
  | k + 1, hk => by
    rw [atK_succ (show k < L.length by omega)]
    exact ⟨mayK_step e hh _ (may_atK hh k (by omega)).1, (lasG_bd _ _).1, (lasG_bd _ _).2⟩

end Go.Proofs.YtjfajdmifjbblaaDoor
