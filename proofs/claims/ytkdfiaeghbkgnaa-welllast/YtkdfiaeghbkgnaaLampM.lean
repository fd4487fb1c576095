/-
  ONE GROUP OF LIGHTS, in numbers: counts that stop, what follows, what may be, what is shown.
-/
import Derived.Test.YtkdfiaeghbkgnaaWorld
namespace Go.Proofs.Ytkdfiaeghbkgnaa
open Go.RowKit Go.Lib Go.Deep
set_option linter.unusedVariables false
set_option linter.unusedSimpArgs false

/-- A count, as it counts. -/
def stp (n : Int) : Int := if n < 0 then 0 else if 1048576 < n then 1048576 else n
/-- One more. -/
def more (n : Int) : Int := if stp n < 1048576 then stp n + 1 else 1048576
theorem stp_ge (n : Int) : 0 ≤ stp n := by unfold stp; split <;> (try split) <;> omega
theorem stp_le (n : Int) : stp n ≤ 1048576 := by unfold stp; split <;> (try split) <;> omega
theorem stp_id {n : Int} (h0 : 0 ≤ n) (h1 : n ≤ 1048576) : stp n = n := by unfold stp; rw [if_neg (by omega), if_neg (by omega)]
theorem stp_more (n : Int) : stp (stp n + 1) = more n := by
  have := stp_ge n; have := stp_le n
  unfold more
  by_cases h : stp n < 1048576
  · rw [if_pos h, stp_id (by omega) (by omega)]
  · rw [if_neg h]; unfold stp at *; rw [if_neg (by omega), if_pos (by omega)]
/-- What follows. -/
def folB (a b : Int) : Bool := decide (a = 1 ∧ b = 2 ∨ a = 2 ∧ b = 3 ∨ a = 3 ∧ b = 1)
/-- The fault: of Min m, Yellow y, behind aspect a since s, aspect b. -/
def mayV (m y a s b : Int) : Int :=
  if a = 1 then (if b = 1 ∨ b = 2 then 0 else 2)
  else if a = 2 then (if b = 2 then 0 else if b = 3 then (if stp s < m then 5 else 0) else 2)
  else if a = 3 then (if b = 3 then (if stp s < y then 0 else 6) else if b = 1 then (if stp s < y then 6 else 0) else 2)
  else 2
/-- What is shown. -/
def wantV (m y a s q : Int) : Int :=
  if a = 1 then (if q = 2 then 2 else 1)
  else if a = 2 then (if q = 2 then 2 else if stp s < m then 2 else 3)
  else if a = 3 then (if stp s < y then 3 else 1)
  else 1
def sinceV (a s b : Int) : Int := if b = a then more s else 1
def endedV (e b : Int) : Int := if b = 2 then 0 else more e
/-- A group, and how it stands, as they are handed on. -/
abbrev grpV (k m y : Int) : Value := .agg #[.int .u8 k, .int .i64 m, .int .i64 y]
abbrev seenV (a s e : Int) : Value := .agg #[.int .u8 a, .int .i64 s, .int .i64 e]

/-! ### A struct of three cells in a block of its own -/
theorem cell_kept' {w w' : World} (k : Kept w w' none) {b i : Nat} (hb : b < w.heap.size) : w'.cell? ⟨b, i, none⟩ = w.cell? ⟨b, i, none⟩ := World.cell?_of_block (w := w) (a := ⟨b, i, none⟩) (k.block b hb (by simp))
theorem frozen_kept' {w w' : World} (k : Kept w w' none) {b i : Nat} (hb : b < w.heap.size) : w'.frozen? ⟨b, i, none⟩ = w.frozen? ⟨b, i, none⟩ := World.frozen?_of_block (w := w) (a := ⟨b, i, none⟩) (k.block b hb (by simp))
structure Box (w : World) (b : Nat) (v0 v1 v2 : Value) : Prop where
  c0 : w.cell? ⟨b, 0, none⟩ = some v0
  c1 : w.cell? ⟨b, 1, none⟩ = some v1
  c2 : w.cell? ⟨b, 2, none⟩ = some v2
  f0 : w.frozen? ⟨b, 0, none⟩ = false
  f1 : w.frozen? ⟨b, 1, none⟩ = false
  f2 : w.frozen? ⟨b, 2, none⟩ = false
  lt : b < w.heap.size
theorem box_alloc (w : World) (v0 v1 v2 : Value) (t : TypeId) : Box (w.alloc (.cells #[v0, v1, v2] t)) w.heap.size v0 v1 v2 := by
  have h := heap_alloc_new w (.cells #[v0, v1, v2] t)
  exact ⟨World.cell?_alloc_mark .., World.cell?_alloc_mark .., World.cell?_alloc_mark .., by simp only [World.frozen?, h]; rfl, by simp only [World.frozen?, h]; rfl, by simp only [World.frozen?, h]; rfl, by simp⟩
theorem Box.kept {w w' : World} {b : Nat} {v0 v1 v2 : Value} (h : Box w b v0 v1 v2) (k : Kept w w' none) : Box w' b v0 v1 v2 :=
  ⟨(cell_kept' k h.lt).trans h.c0, (cell_kept' k h.lt).trans h.c1, (cell_kept' k h.lt).trans h.c2, (frozen_kept' k h.lt).trans h.f0, (frozen_kept' k h.lt).trans h.f1, (frozen_kept' k h.lt).trans h.f2, Nat.lt_of_lt_of_le h.lt k.size⟩

end Go.Proofs.Ytkdfiaeghbkgnaa
