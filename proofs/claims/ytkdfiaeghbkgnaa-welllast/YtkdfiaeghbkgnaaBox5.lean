/-
  A STRUCT OF FIVE CELLS IN A BLOCK OF ITS OWN; gaps in one.
-/
import Derived.Test.YtkdfiaeghbkgnaaGapM
namespace Go.Proofs.Ytkdfiaeghbkgnaa
open Go.RowKit Go.Lib Go.Deep
set_option linter.unusedVariables false
set_option linter.unusedSimpArgs false

theorem Kept.drew (w : World) (r : Option Nat) : Kept w w.drew r := ⟨rfl, rfl, rfl, Nat.le_refl _, fun _ _ _ => rfl⟩
structure B5 (w : World) (b : Nat) (v0 v1 v2 v3 v4 : Value) : Prop where
  c0 : w.cell? ⟨b, 0, none⟩ = some v0
  c1 : w.cell? ⟨b, 1, none⟩ = some v1
  c2 : w.cell? ⟨b, 2, none⟩ = some v2
  c3 : w.cell? ⟨b, 3, none⟩ = some v3
  c4 : w.cell? ⟨b, 4, none⟩ = some v4
  f0 : w.frozen? ⟨b, 0, none⟩ = false
  f1 : w.frozen? ⟨b, 1, none⟩ = false
  f2 : w.frozen? ⟨b, 2, none⟩ = false
  f3 : w.frozen? ⟨b, 3, none⟩ = false
  f4 : w.frozen? ⟨b, 4, none⟩ = false
  lt : b < w.heap.size
theorem b5_alloc (w : World) (v0 v1 v2 v3 v4 : Value) (t : TypeId) : B5 (w.alloc (.cells #[v0, v1, v2, v3, v4] t)) w.heap.size v0 v1 v2 v3 v4 := by
  have h := heap_alloc_new w (.cells #[v0, v1, v2, v3, v4] t)
  exact ⟨World.cell?_alloc_mark .., World.cell?_alloc_mark .., World.cell?_alloc_mark .., World.cell?_alloc_mark .., World.cell?_alloc_mark .., by simp only [World.frozen?, h]; rfl, by simp only [World.frozen?, h]; rfl, by simp only [World.frozen?, h]; rfl, by simp only [World.frozen?, h]; rfl, by simp only [World.frozen?, h]; rfl, by simp⟩
theorem B5.kept {w w' : World} {b : Nat} {v0 v1 v2 v3 v4 : Value} (h : B5 w b v0 v1 v2 v3 v4) (k : Kept w w' none) : B5 w' b v0 v1 v2 v3 v4 :=
  ⟨(cell_kept' k h.lt).trans h.c0, (cell_kept' k h.lt).trans h.c1, (cell_kept' k h.lt).trans h.c2, (cell_kept' k h.lt).trans h.c3, (cell_kept' k h.lt).trans h.c4, (frozen_kept' k h.lt).trans h.f0, (frozen_kept' k h.lt).trans h.f1, (frozen_kept' k h.lt).trans h.f2, (frozen_kept' k h.lt).trans h.f3, (frozen_kept' k h.lt).trans h.f4, Nat.lt_of_lt_of_le h.lt k.size⟩
theorem B5.s0 {w : World} {b : Nat} {v0 v1 v2 v3 v4 : Value} (h : B5 w b v0 v1 v2 v3 v4) (u : Value) : B5 (w.setCell ⟨b, 0, none⟩ u) b u v1 v2 v3 v4 :=
  ⟨World.cell?_setCell_same _ _ _ h.c0, (World.cell?_setCell_other _ _ _ _ (by simp)).trans h.c1, (World.cell?_setCell_other _ _ _ _ (by simp)).trans h.c2, (World.cell?_setCell_other _ _ _ _ (by simp)).trans h.c3, (World.cell?_setCell_other _ _ _ _ (by simp)).trans h.c4, by rw [World.frozen?_setCell]; exact h.f0, by rw [World.frozen?_setCell]; exact h.f1, by rw [World.frozen?_setCell]; exact h.f2, by rw [World.frozen?_setCell]; exact h.f3, by rw [World.frozen?_setCell]; exact h.f4, by simpa [World.setCell] using h.lt⟩
theorem B5.s1 {w : World} {b : Nat} {v0 v1 v2 v3 v4 : Value} (h : B5 w b v0 v1 v2 v3 v4) (u : Value) : B5 (w.setCell ⟨b, 1, none⟩ u) b v0 u v2 v3 v4 :=
  ⟨(World.cell?_setCell_other _ _ _ _ (by simp)).trans h.c0, World.cell?_setCell_same _ _ _ h.c1, (World.cell?_setCell_other _ _ _ _ (by simp)).trans h.c2, (World.cell?_setCell_other _ _ _ _ (by simp)).trans h.c3, (World.cell?_setCell_other _ _ _ _ (by simp)).trans h.c4, by rw [World.frozen?_setCell]; exact h.f0, by rw [World.frozen?_setCell]; exact h.f1, by rw [World.frozen?_setCell]; exact h.f2, by rw [World.frozen?_setCell]; exact h.f3, by rw [World.frozen?_setCell]; exact h.f4, by simpa [World.setCell] using h.lt⟩
theorem B5.s2 {w : World} {b : Nat} {v0 v1 v2 v3 v4 : Value} (h : B5 w b v0 v1 v2 v3 v4) (u : Value) : B5 (w.setCell ⟨b, 2, none⟩ u) b v0 v1 u v3 v4 :=
  ⟨(World.cell?_setCell_other _ _ _ _ (by simp)).trans h.c0, (World.cell?_setCell_other _ _ _ _ (by simp)).trans h.c1, World.cell?_setCell_same _ _ _ h.c2, (World.cell?_setCell_other _ _ _ _ (by simp)).trans h.c3, (World.cell?_setCell_other _ _ _ _ (by simp)).trans h.c4, by rw [World.frozen?_setCell]; exact h.f0, by rw [World.frozen?_setCell]; exact h.f1, by rw [World.frozen?_setCell]; exact h.f2, by rw [World.frozen?_setCell]; exact h.f3, by rw [World.frozen?_setCell]; exact h.f4, by simpa [World.setCell] using h.lt⟩
theorem B5.s3 {w : World} {b : Nat} {v0 v1 v2 v3 v4 : Value} (h : B5 w b v0 v1 v2 v3 v4) (u : Value) : B5 (w.setCell ⟨b, 3, none⟩ u) b v0 v1 v2 u v4 :=
  ⟨(World.cell?_setCell_other _ _ _ _ (by simp)).trans h.c0, (World.cell?_setCell_other _ _ _ _ (by simp)).trans h.c1, (World.cell?_setCell_other _ _ _ _ (by simp)).trans h.c2, World.cell?_setCell_same _ _ _ h.c3, (World.cell?_setCell_other _ _ _ _ (by simp)).trans h.c4, by rw [World.frozen?_setCell]; exact h.f0, by rw [World.frozen?_setCell]; exact h.f1, by rw [World.frozen?_setCell]; exact h.f2, by rw [World.frozen?_setCell]; exact h.f3, by rw [World.frozen?_setCell]; exact h.f4, by simpa [World.setCell] using h.lt⟩
theorem B5.s4 {w : World} {b : Nat} {v0 v1 v2 v3 v4 : Value} (h : B5 w b v0 v1 v2 v3 v4) (u : Value) : B5 (w.setCell ⟨b, 4, none⟩ u) b v0 v1 v2 v3 u :=
  ⟨(World.cell?_setCell_other _ _ _ _ (by simp)).trans h.c0, (World.cell?_setCell_other _ _ _ _ (by simp)).trans h.c1, (World.cell?_setCell_other _ _ _ _ (by simp)).trans h.c2, (World.cell?_setCell_other _ _ _ _ (by simp)).trans h.c3, World.cell?_setCell_same _ _ _ h.c4, by rw [World.frozen?_setCell]; exact h.f0, by rw [World.frozen?_setCell]; exact h.f1, by rw [World.frozen?_setCell]; exact h.f2, by rw [World.frozen?_setCell]; exact h.f3, by rw [World.frozen?_setCell]; exact h.f4, by simpa [World.setCell] using h.lt⟩
theorem B5.far {w : World} {g : Nat} {v0 v1 v2 v3 v4 : Value} (h : B5 w g v0 v1 v2 v3 v4) {b : Nat} (hne : b ≠ g) (i : Nat) (u : Value) : B5 (w.setCell ⟨b, i, none⟩ u) g v0 v1 v2 v3 v4 :=
  ⟨(World.cell?_setCell_other _ _ _ _ (by simp [hne])).trans h.c0, (World.cell?_setCell_other _ _ _ _ (by simp [hne])).trans h.c1, (World.cell?_setCell_other _ _ _ _ (by simp [hne])).trans h.c2, (World.cell?_setCell_other _ _ _ _ (by simp [hne])).trans h.c3, (World.cell?_setCell_other _ _ _ _ (by simp [hne])).trans h.c4, by rw [World.frozen?_setCell]; exact h.f0, by rw [World.frozen?_setCell]; exact h.f1, by rw [World.frozen?_setCell]; exact h.f2, by rw [World.frozen?_setCell]; exact h.f3, by rw [World.frozen?_setCell]; exact h.f4, by simpa [World.setCell] using h.lt⟩
/-- All five cells are written over. -/
abbrev set5 (w : World) (b : Nat) (x0 x1 x2 x3 x4 : Value) : World := ((((w.setCell ⟨b, 0, none⟩ x0).setCell ⟨b, 1, none⟩ x1).setCell ⟨b, 2, none⟩ x2).setCell ⟨b, 3, none⟩ x3).setCell ⟨b, 4, none⟩ x4
theorem B5.set {w : World} {b : Nat} {v0 v1 v2 v3 v4 : Value} (h : B5 w b v0 v1 v2 v3 v4) (x0 x1 x2 x3 x4 : Value) : B5 (set5 w b x0 x1 x2 x3 x4) b x0 x1 x2 x3 x4 := ((((h.s0 _).s1 _).s2 _).s3 _).s4 _
theorem B5.off {w : World} {g : Nat} {v0 v1 v2 v3 v4 : Value} (h : B5 w g v0 v1 v2 v3 v4) {b : Nat} (hne : b ≠ g) (x0 x1 x2 x3 x4 : Value) : B5 (set5 w b x0 x1 x2 x3 x4) g v0 v1 v2 v3 v4 := ((((h.far hne 0 _).far hne 1 _).far hne 2 _).far hne 3 _).far hne 4 _
theorem kept_set5 {a w : World} {r : Option Nat} (h : Kept a w r) {b : Nat} (hb : a.heap.size ≤ b) (x0 x1 x2 x3 x4 : Value) : Kept a (set5 w b x0 x1 x2 x3 x4) r := ((((h.setNew (p := ⟨b, 0, none⟩) hb _).setNew (p := ⟨b, 1, none⟩) hb _).setNew (p := ⟨b, 2, none⟩) hb _).setNew (p := ⟨b, 3, none⟩) hb _).setNew (p := ⟨b, 4, none⟩) hb _
abbrev Gbox (w : World) (b : Nat) (g : Ga) : Prop := B5 w b (.bool g.up) (.int .i64 g.held) (.int .i64 g.opn) (.int .i64 g.came) (.int .u64 g.last)
theorem gbox_alloc (w : World) (g : Ga) (t : TypeId) : Gbox (w.alloc (.cells (gaC g) t)) w.heap.size g := b5_alloc w _ _ _ _ _ t
abbrev setG (w : World) (b : Nat) (g : Ga) : World := set5 w b (.bool g.up) (.int .i64 g.held) (.int .i64 g.opn) (.int .i64 g.came) (.int .u64 g.last)
theorem fOf_ne {n : Int} (h : 1 ≤ n) : fOf n ≠ 0 := by unfold fOf stF; split <;> (try split) <;> omega
theorem Bo.put {w : World} {a : Option Addr} {n : Nat} {L : List Bool} (h : Bo w a n L) {b i : Nat} (v : Value) (hne : ∀ x, a = some x → x.block ≠ b) : Bo (w.setCell ⟨b, i, none⟩ v) a n L := by
  obtain ⟨h1, h2, h3⟩ := h
  refine ⟨h1, h2, fun hp => ?_⟩
  obtain ⟨g, off, rfl, hb, hc⟩ := h3 hp
  exact ⟨g, off, rfl, by simpa [World.setCell] using hb, fun j hj => (World.cell?_setCell_other _ _ _ _ (by have := hne _ rfl; simp at this ⊢ <;> omega)).trans (hc j hj)⟩
theorem Bo.empty {w w' : World} {a : Option Addr} {L : List Bool} (h : Bo w a 0 L) : Bo w' a 0 L := ⟨h.size, h.max, fun h => absurd h (by omega)⟩
theorem bo_set5 {w : World} {a : Option Addr} {n b : Nat} {L : List Bool} (h : Bo w a n L) (hne : ∀ x, a = some x → 0 < n → x.block ≠ b) (x0 x1 x2 x3 x4 : Value) : Bo (set5 w b x0 x1 x2 x3 x4) a n L := by
  by_cases h0 : 0 < n
  · have hne' : ∀ x, a = some x → x.block ≠ b := fun x hx => hne x hx h0
    exact ((((h.put _ hne').put _ hne').put _ hne').put _ hne').put _ hne'
  · obtain rfl : n = 0 := by omega
    exact h.empty

/-! ### Behind many ticks -/
theorem take_snoc {L : List Bool} {k : Nat} (hk : k < L.length) : L.take (k + 1) = L.take k ++ [tr L k] := by
  rw [List.take_add_one, List.getElem?_eq_getElem hk]
  simp [tr, hk]
/-- The gaps behind the first k ticks, from nothing on. -/
def atG (L : List Bool) (k : Nat) : Ga := (L.take k).foldl stepG Ga.zero
theorem atG_zero (L : List Bool) : atG L 0 = Ga.zero := rfl
theorem atG_succ {L : List Bool} {k : Nat} (hk : k < L.length) : atG L (k + 1) = stepG (atG L k) (tr L k) := by
  unfold atG
  rw [take_snoc hk, List.foldl_append]
  rfl
theorem may_atG {L : List Bool} : ∀ k, k ≤ L.length → mayG (atG L k) = true ∧ 0 ≤ (atG L k).last ∧ (atG L k).last < 18446744073709551616
  | 0, _ => ⟨may_zero, show (0 : Int) ≤ 0 by decide, show (0 : Int) < 18446744073709551616 by decide⟩
  | k + 1, hk => by
    rw [atG_succ (show k < L.length by omega)]
    exact ⟨may_step (may_atG k (by omega)).1, (lasG_bd _ _).1, (lasG_bd _ _).2⟩

end Go.Proofs.Ytkdfiaeghbkgnaa
