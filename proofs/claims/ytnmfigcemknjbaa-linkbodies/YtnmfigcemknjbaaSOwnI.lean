/-
  Of the text OwnI: what this stage needs (culled by a program).
-/
import Derived.Test.YtnmfigcemknjbaaWorld
import Derived.Test.YtnmfigcemknjbaaSTwinB
import Derived.Laws.MakeOwn
namespace Go.Proofs.Ytnmfigcemknjbaa
open Go.RowKit Go.Lib Go.Deep
set_option linter.unusedVariables false
set_option linter.unusedSimpArgs false

/-- A list of numbers in memory that lies behind a base. -/
def OwI (w : World) (base : Nat) (v : Value) (l : List Int) : Prop := w.ownsRow base 3 1 v l.length (cellsL l.length 1 (fun i _ => .int .i64 (l.getD i 0)))
theorem OwI.nil (w : World) (base : Nat) : OwI w base (.slice none 0 0) [] := World.ownsRow_nil _ _ _ _
theorem OwI.keptR {w w' : World} {r : Option Nat} {base : Nat} {v : Value} {l : List Int} (h : OwI w base v l) (q : Kept w w' r) (hr : ∀ g, v.ownBlock = some g → some g ≠ r) : OwI w' base v l := own_keptR' h q hr
theorem OwI.kept {w w' : World} {base : Nat} {v : Value} {l : List Int} (h : OwI w base v l) (q : Kept w w' none) : OwI w' base v l := h.keptR q (fun g _ => by simp)
theorem OwI.ints {w : World} {base : Nat} {v : Value} {l : List Int} (h : OwI w base v l) (hr : ∀ x ∈ l, -9223372036854775808 ≤ x ∧ x ≤ 9223372036854775807) : ∃ a c, v = .slice a l.length c ∧ Ints w a l.length c l ∧ ∀ b, a = some b → base ≤ b.block ∧ b.block < w.heap.size := by
  obtain ⟨a, cap, e, h1, h2, h3⟩ := lie_own (by omega) h
  exact ⟨a, cap, e, ⟨h1, rfl, h2, hr⟩, h3⟩
theorem getD_snoc (l : List Int) (x : Int) (i : Nat) : (l ++ [x]).getD i 0 = if i = l.length then x else l.getD i 0 := by
  by_cases h : i = l.length
  · subst h; simp
  · rw [if_neg h]
    by_cases h2 : i < l.length
    · simp [h2, List.getElem?_append_left]
    · rw [List.getD_eq_getElem?_getD, List.getD_eq_getElem?_getD, List.getElem?_eq_none (by simp; omega), List.getElem?_eq_none (by omega)]
theorem OwI.grow {w : World} {base : Nat} {v : Value} {l : List Int} (h : OwI w base v l) (x : Int) (hn : l.length ≤ 1000) (hb : base ≤ w.heap.size) :
    ∃ v' w', (Builtin.append_ #[37, 37] 37 #[v, .slice (some ⟨w.heap.size, 0, none⟩) 1 1]).run Try.prog (w.alloc (.cells #[.int .i64 x] 3)) = .ok v' w' ∧ OwI w' base v' (l ++ [x]) ∧ Kept w w' v.ownBlock ∧ (v'.ownBlock = v.ownBlock ∨ v'.ownBlock = some (w.heap.size + 1)) := by
  obtain ⟨i0, hi0, hz0, hz1, hz2⟩ := info_parts Try.infoIn
  have hk : Kept w (w.alloc (.cells #[.int .i64 x] 3)) none := Kept.alloc _ _ _ _ _
  have hz : (w.alloc (.cells #[.int .i64 x] 3)).heap.size = w.heap.size + 1 := by simp
  have hc : ∀ j, j < 1 → (w.alloc (.cells #[.int .i64 x] 3)).cell? ⟨w.heap.size, 0 + j, none⟩ = some (.int .i64 x) := fun j hj => by
    have : j = 0 := by omega
    subst this
    simp [World.cell?_alloc_mark]
  obtain ⟨v', w', hr, g1, g2, g3⟩ := grow_run (t := 37) (ty := 37) (c := 1) (g := fun _ => .int .i64 x) Try.uIns hi0 hz0 hz1 hz2 rfl (by omega) (by omega) (h.kept hk) hc (fun j => rfl) hn (by omega)
  rw [hz] at g3
  refine ⟨v', w', hr, ?_, ?_, g3⟩
  · unfold OwI
    rw [List.length_append]
    have e : (fun (i _ : Nat) => if i = l.length then Value.int .i64 x else .int .i64 (l.getD i 0)) = (fun (i _ : Nat) => Value.int .i64 ((l ++ [x]).getD i 0)) := by
      funext i _
      rw [getD_snoc]
      split <;> rfl
    rw [e] at g1
    exact g1
  · have h2 : Kept (w.alloc (.cells #[.int .i64 x] 3)) w' v.ownBlock := g2
    refine ⟨h2.os.trans hk.os, h2.tape.trans hk.tape, h2.output.trans hk.output, Nat.le_trans hk.size h2.size, fun i hi hne => (h2.block i (Nat.lt_of_lt_of_le hi hk.size) hne).trans (hk.block i hi (by simp))⟩
theorem OwI.lt {w : World} {base : Nat} {v : Value} {l : List Int} (h : OwI w base v l) : ∀ g, v.ownBlock = some g → base ≤ g ∧ g < w.heap.size := own_lt h
theorem OwI.far {w w' : World} {base : Nat} {v : Value} {l : List Int} (h : OwI w base v l) (k : Kept w w' v.ownBlock) {w0 : World} (h0 : Kept w0 w none) (hb : w0.heap.size ≤ base) : Kept w0 w' none :=
  ⟨k.os.trans h0.os, k.tape.trans h0.tape, k.output.trans h0.output, Nat.le_trans h0.size k.size, fun i hi _ => (k.block i (Nat.lt_of_lt_of_le hi h0.size) (fun e => by have := (h.lt i e.symm).1; omega)).trans (h0.block i hi (by simp))⟩
end Go.Proofs.Ytnmfigcemknjbaa
