/-
  Part 10 of the texts that the proofs of this seat stand on.
-/
import Derived.Test.YtoahbpdgbiachaaDoorPart9
import Derived.Test.YtoahbpdgbiachaaDoorPart1
import Derived.Test.YtoahbpdgbiachaaDoorPart7
import Derived.Test.YtoahbpdgbiachaaDoorPart3
import Derived.Deep.Matrix
import Derived.Deep.Strs
import Derived.OpenShut
import Derived.ShutString
import Derived.ProofKit
import Derived.LaidMore
import Derived.LaidSub
import Derived.Stop.Joined
/-
  THE CONTRACTS of two and alive, of the statements.
-/
namespace Go.Proofs.YtoahbpdgbiachaaDoor
open Go.RowKit Go.Lib Go.Deep
set_option linter.unusedVariables false
set_option linter.unusedSimpArgs false

theorem Sat.withId {w : World} {X : Sa} {S : St} (h : Sat w X S) (i : Int) (hi : i64B i) : Sat w X { S with id := i } :=
  ⟨h.g, h.a, h.b, h.p, h.e, h.l, h.gk, h.ak, h.pk, h.ek, h.gr, h.ar, h.pr, h.er, ⟨hi, h.nr.2⟩⟩
/-- The statements' region, with some of its numbers: the second site's Id, the second sub, the wed. -/
def N2 (i x c a b lo hi st : Int) : Nt := ⟨[S2v 2, { S2v 2 with id := i }], [⟨[0], 0⟩, ⟨[x], c⟩], [⟨a, b, 3, [0, 4]⟩], lo, hi, st⟩
abbrev Y2 (h : Nat) (r : Addr) : Na := ⟨some ⟨h + 1 + 1 + 1 + 1 + 1 + 1 + 1 + 1 + 1 + 1, 0, none⟩, 2, some ⟨h + 1 + 1 + 1 + 1 + 1 + 1 + 1 + 1 + 1 + 1 + 1 + 1 + 1, 0, none⟩, 2, some ⟨h + 1 + 1 + 1 + 1 + 1 + 1 + 1 + 1 + 1 + 1 + 1 + 1 + 1 + 1 + 1, 0, none⟩, 1, fun _ => X2 h, fun i => if i = 0 then (some ⟨h + 1 + 1 + 1 + 1 + 1 + 1 + 1 + 1 + 1 + 1 + 1, 0, none⟩, 1) else (some r, 1), fun _ => (some ⟨h + 1 + 1 + 1 + 1 + 1 + 1 + 1 + 1 + 1 + 1 + 1 + 1 + 1 + 1, 0, none⟩, 2)⟩
structure TwN (w : World) (h : Nat) (r : Addr) (i c a b : Int) : Prop where
  size : h + 16 ≤ w.heap.size
  two : TwoC w h 2
  c10x0 : w.cell? ⟨h + 1 + 1 + 1 + 1 + 1 + 1 + 1 + 1 + 1 + 1, 0, none⟩ = some (.int .i64 0)
  c10x1 : w.cell? ⟨h + 1 + 1 + 1 + 1 + 1 + 1 + 1 + 1 + 1 + 1, 1, none⟩ = some (.slice (some ⟨h + 1 + 1, 0, none⟩) 2 2)
  c10x2 : w.cell? ⟨h + 1 + 1 + 1 + 1 + 1 + 1 + 1 + 1 + 1 + 1, 2, none⟩ = some (.slice (some ⟨h + 1 + 1 + 1, 0, none⟩) 2 2)
  c10x3 : w.cell? ⟨h + 1 + 1 + 1 + 1 + 1 + 1 + 1 + 1 + 1 + 1, 3, none⟩ = some (.slice (some ⟨h + 1 + 1 + 1 + 1 + 1 + 1, 0, none⟩) 2 2)
  c10x4 : w.cell? ⟨h + 1 + 1 + 1 + 1 + 1 + 1 + 1 + 1 + 1 + 1, 4, none⟩ = some (.slice (some ⟨h + 1 + 1 + 1 + 1 + 1 + 1 + 1, 0, none⟩) 2 2)
  c10x5 : w.cell? ⟨h + 1 + 1 + 1 + 1 + 1 + 1 + 1 + 1 + 1 + 1, 5, none⟩ = some (.slice none 0 0)
  c10x6 : w.cell? ⟨h + 1 + 1 + 1 + 1 + 1 + 1 + 1 + 1 + 1 + 1, 6, none⟩ = some (.int .i64 3)
  c10x7 : w.cell? ⟨h + 1 + 1 + 1 + 1 + 1 + 1 + 1 + 1 + 1 + 1, 7, none⟩ = some (.int .i64 2)
  c10x8 : w.cell? ⟨h + 1 + 1 + 1 + 1 + 1 + 1 + 1 + 1 + 1 + 1, 8, none⟩ = some (.int .i64 4)
  c10x9 : w.cell? ⟨h + 1 + 1 + 1 + 1 + 1 + 1 + 1 + 1 + 1 + 1, 9, none⟩ = some (.int .i64 8)
  c10x10 : w.cell? ⟨h + 1 + 1 + 1 + 1 + 1 + 1 + 1 + 1 + 1 + 1, 10, none⟩ = some (.int .i64 20)
  c10x11 : w.cell? ⟨h + 1 + 1 + 1 + 1 + 1 + 1 + 1 + 1 + 1 + 1, 11, none⟩ = some (.slice none 0 0)
  c10x12 : w.cell? ⟨h + 1 + 1 + 1 + 1 + 1 + 1 + 1 + 1 + 1 + 1, 12, none⟩ = some (.int .i64 i)
  c10x13 : w.cell? ⟨h + 1 + 1 + 1 + 1 + 1 + 1 + 1 + 1 + 1 + 1, 13, none⟩ = some (.slice (some ⟨h + 1 + 1, 0, none⟩) 2 2)
  c10x14 : w.cell? ⟨h + 1 + 1 + 1 + 1 + 1 + 1 + 1 + 1 + 1 + 1, 14, none⟩ = some (.slice (some ⟨h + 1 + 1 + 1, 0, none⟩) 2 2)
  c10x15 : w.cell? ⟨h + 1 + 1 + 1 + 1 + 1 + 1 + 1 + 1 + 1 + 1, 15, none⟩ = some (.slice (some ⟨h + 1 + 1 + 1 + 1 + 1 + 1, 0, none⟩) 2 2)
  c10x16 : w.cell? ⟨h + 1 + 1 + 1 + 1 + 1 + 1 + 1 + 1 + 1 + 1, 16, none⟩ = some (.slice (some ⟨h + 1 + 1 + 1 + 1 + 1 + 1 + 1, 0, none⟩) 2 2)
  c10x17 : w.cell? ⟨h + 1 + 1 + 1 + 1 + 1 + 1 + 1 + 1 + 1 + 1, 17, none⟩ = some (.slice none 0 0)
  c10x18 : w.cell? ⟨h + 1 + 1 + 1 + 1 + 1 + 1 + 1 + 1 + 1 + 1, 18, none⟩ = some (.int .i64 3)
  c10x19 : w.cell? ⟨h + 1 + 1 + 1 + 1 + 1 + 1 + 1 + 1 + 1 + 1, 19, none⟩ = some (.int .i64 2)
  c10x20 : w.cell? ⟨h + 1 + 1 + 1 + 1 + 1 + 1 + 1 + 1 + 1 + 1, 20, none⟩ = some (.int .i64 4)
  c10x21 : w.cell? ⟨h + 1 + 1 + 1 + 1 + 1 + 1 + 1 + 1 + 1 + 1, 21, none⟩ = some (.int .i64 8)
  c10x22 : w.cell? ⟨h + 1 + 1 + 1 + 1 + 1 + 1 + 1 + 1 + 1 + 1, 22, none⟩ = some (.int .i64 20)
  c10x23 : w.cell? ⟨h + 1 + 1 + 1 + 1 + 1 + 1 + 1 + 1 + 1 + 1, 23, none⟩ = some (.slice none 0 0)
  c11x0 : w.cell? ⟨h + 1 + 1 + 1 + 1 + 1 + 1 + 1 + 1 + 1 + 1 + 1, 0, none⟩ = some (.int .i64 0)
  c13x0 : w.cell? ⟨h + 1 + 1 + 1 + 1 + 1 + 1 + 1 + 1 + 1 + 1 + 1 + 1 + 1, 0, none⟩ = some (.slice (some ⟨h + 1 + 1 + 1 + 1 + 1 + 1 + 1 + 1 + 1 + 1 + 1, 0, none⟩) 1 1)
  c13x1 : w.cell? ⟨h + 1 + 1 + 1 + 1 + 1 + 1 + 1 + 1 + 1 + 1 + 1 + 1 + 1, 1, none⟩ = some (.int .i64 0)
  c13x2 : w.cell? ⟨h + 1 + 1 + 1 + 1 + 1 + 1 + 1 + 1 + 1 + 1 + 1 + 1 + 1, 2, none⟩ = some (.slice (some r) 1 1)
  c13x3 : w.cell? ⟨h + 1 + 1 + 1 + 1 + 1 + 1 + 1 + 1 + 1 + 1 + 1 + 1 + 1, 3, none⟩ = some (.int .i64 c)
  c14x0 : w.cell? ⟨h + 1 + 1 + 1 + 1 + 1 + 1 + 1 + 1 + 1 + 1 + 1 + 1 + 1 + 1, 0, none⟩ = some (.int .i64 0)
  c14x1 : w.cell? ⟨h + 1 + 1 + 1 + 1 + 1 + 1 + 1 + 1 + 1 + 1 + 1 + 1 + 1 + 1, 1, none⟩ = some (.int .i64 4)
  c15x0 : w.cell? ⟨h + 1 + 1 + 1 + 1 + 1 + 1 + 1 + 1 + 1 + 1 + 1 + 1 + 1 + 1 + 1, 0, none⟩ = some (.int .i64 a)
  c15x1 : w.cell? ⟨h + 1 + 1 + 1 + 1 + 1 + 1 + 1 + 1 + 1 + 1 + 1 + 1 + 1 + 1 + 1, 1, none⟩ = some (.int .i64 b)
  c15x2 : w.cell? ⟨h + 1 + 1 + 1 + 1 + 1 + 1 + 1 + 1 + 1 + 1 + 1 + 1 + 1 + 1 + 1, 2, none⟩ = some (.int .i64 3)
  c15x3 : w.cell? ⟨h + 1 + 1 + 1 + 1 + 1 + 1 + 1 + 1 + 1 + 1 + 1 + 1 + 1 + 1 + 1, 3, none⟩ = some (.slice (some ⟨h + 1 + 1 + 1 + 1 + 1 + 1 + 1 + 1 + 1 + 1 + 1 + 1 + 1 + 1, 0, none⟩) 2 2)
theorem TwN.kept {w w' : World} {h : Nat} {r : Addr} {i c a b : Int} (t : TwN w h r i c a b) (q : Kept w w' none) : TwN w' h r i c a b :=
  ⟨Nat.le_trans t.size q.size, t.two.kept q, cell_kept0 t.c10x0 q, cell_kept0 t.c10x1 q, cell_kept0 t.c10x2 q, cell_kept0 t.c10x3 q, cell_kept0 t.c10x4 q, cell_kept0 t.c10x5 q, cell_kept0 t.c10x6 q, cell_kept0 t.c10x7 q, cell_kept0 t.c10x8 q, cell_kept0 t.c10x9 q, cell_kept0 t.c10x10 q, cell_kept0 t.c10x11 q, cell_kept0 t.c10x12 q, cell_kept0 t.c10x13 q, cell_kept0 t.c10x14 q, cell_kept0 t.c10x15 q, cell_kept0 t.c10x16 q, cell_kept0 t.c10x17 q, cell_kept0 t.c10x18 q, cell_kept0 t.c10x19 q, cell_kept0 t.c10x20 q, cell_kept0 t.c10x21 q, cell_kept0 t.c10x22 q, cell_kept0 t.c10x23 q, cell_kept0 t.c11x0 q, cell_kept0 t.c13x0 q, cell_kept0 t.c13x1 q, cell_kept0 t.c13x2 q, cell_kept0 t.c13x3 q, cell_kept0 t.c14x0 q, cell_kept0 t.c14x1 q, cell_kept0 t.c15x0 q, cell_kept0 t.c15x1 q, cell_kept0 t.c15x2 q, cell_kept0 t.c15x3 q⟩
theorem one_case {P : Nat → Prop} (h0 : P 0) : ∀ i, i < 1 → P i := fun i hi => by
  have : i = 0 := by omega
  subst this; exact h0
theorem ints_one {w : World} {g : Nat} {x : Int} (h : w.cell? ⟨g, 0, none⟩ = some (.int .i64 x)) (hx : i64B x) : Ints w (some ⟨g, 0, none⟩) 1 1 [x] :=
  ⟨lie_of (block_lt h) (one_case (one_case h)), rfl, cap_some (by omega), fun y hy => by
    have : y = x := by simpa using hy
    subst this
    unfold i64B at hx; exact hx⟩
set_option maxRecDepth 100000 in
theorem net_two {w : World} {h : Nat} {r : Addr} {i x c a b lo hi st : Int} (t : TwN w h r i c a b) (hx : Ints w (some r) 1 1 [x]) (h1 : i64B i) (h2 : i64B c) (h3 : i64B a ∧ i64B b) (h4 : i64B lo ∧ i64B hi ∧ i64B st) : NetAt w (Y2 h r) (N2 i x c a b lo hi st) := by
  have hs := t.size
  have hS := sat_two t.two (by unfold i64B; omega)
  refine ⟨?_, ?_, ?_, ?_, ?_, ?_, cap_some (show 2 ≤ 1000 by omega), cap_some (show 2 ≤ 1000 by omega), cap_some (show 1 ≤ 1000 by omega), ?_, ?_, h4⟩
  · refine lie_of (by omega) (two_cases (fun j hj => ?_) (fun j hj => ?_))
    · have : j = 0 ∨ j = 1 ∨ j = 2 ∨ j = 3 ∨ j = 4 ∨ j = 5 ∨ j = 6 ∨ j = 7 ∨ j = 8 ∨ j = 9 ∨ j = 10 ∨ j = 11 := by omega
      rcases this with rfl | rfl | rfl | rfl | rfl | rfl | rfl | rfl | rfl | rfl | rfl | rfl
      · exact t.c10x0
      · exact t.c10x1
      · exact t.c10x2
      · exact t.c10x3
      · exact t.c10x4
      · exact t.c10x5
      · exact t.c10x6
      · exact t.c10x7
      · exact t.c10x8
      · exact t.c10x9
      · exact t.c10x10
      · exact t.c10x11
    · have : j = 0 ∨ j = 1 ∨ j = 2 ∨ j = 3 ∨ j = 4 ∨ j = 5 ∨ j = 6 ∨ j = 7 ∨ j = 8 ∨ j = 9 ∨ j = 10 ∨ j = 11 := by omega
      rcases this with rfl | rfl | rfl | rfl | rfl | rfl | rfl | rfl | rfl | rfl | rfl | rfl
      · exact t.c10x12
      · exact t.c10x13
      · exact t.c10x14
      · exact t.c10x15
      · exact t.c10x16
      · exact t.c10x17
      · exact t.c10x18
      · exact t.c10x19
      · exact t.c10x20
      · exact t.c10x21
      · exact t.c10x22
      · exact t.c10x23
  · exact two_cases hS (hS.withId i h1)
  · refine lie_of (by omega) (two_cases (two_cases t.c13x0 t.c13x1) (two_cases t.c13x2 t.c13x3))
  · exact two_cases (ints_one t.c11x0 (by unfold i64B; omega)) hx
  · refine lie_of (by omega) (one_case (fun j hj => ?_))
    have : j = 0 ∨ j = 1 ∨ j = 2 ∨ j = 3 := by omega
    rcases this with rfl | rfl | rfl | rfl
    · exact t.c15x0
    · exact t.c15x1
    · exact t.c15x2
    · exact t.c15x3
  · refine one_case ⟨lie_of (by omega) (two_cases (one_case t.c14x0) (one_case t.c14x1)), rfl, cap_some (show 2 ≤ 1000 by omega), fun y hy => ?_⟩
    have : y = 0 ∨ y = 4 := by simpa [N2] using hy
    omega
  · intro U hU
    have : U = ⟨[0], 0⟩ ∨ U = ⟨[x], c⟩ := by simpa [N2] using hU
    rcases this with rfl | rfl
    · exact i64_zero
    · exact h2
  · intro D hD
    have : D = ⟨a, b, 3, [0, 4]⟩ := by simpa [N2] using hD
    subst this
    exact ⟨h3.1, h3.2, by show i64B 3; unfold i64B; omega⟩
theorem frozen_new (w : World) (j q H : Nat) (cs : Array Value) (t : TypeId) (hj : H ≤ j) (h : ∀ q, w.frozen? ⟨j, q, none⟩ = false) : (w.alloc (.cells cs t)).frozen? ⟨j, q, none⟩ = false := by
  by_cases e : j = w.heap.size
  · subst e
    go_simp
  · by_cases hlt : j < w.heap.size
    · exact (frozen_block (Below.heap_alloc _ _ _ hlt)).trans (h q)
    · unfold World.frozen?
      rw [Array.getElem?_eq_none (by show (w.alloc (.cells cs t)).heap.size ≤ j; rw [World.size_alloc]; omega)]
theorem frozen_none (w : World) (j q : Nat) (hj : w.heap.size ≤ j) : w.frozen? ⟨j, q, none⟩ = false := by
  unfold World.frozen?
  rw [Array.getElem?_eq_none hj]
theorem frozen_new16 (w : World) (j q : Nat) (hj : w.heap.size ≤ j) (c0 : Array Value) (t0 : TypeId) (c1 : Array Value) (t1 : TypeId) (c2 : Array Value) (t2 : TypeId) (c3 : Array Value) (t3 : TypeId) (c4 : Array Value) (t4 : TypeId) (c5 : Array Value) (t5 : TypeId) (c6 : Array Value) (t6 : TypeId) (c7 : Array Value) (t7 : TypeId) (c8 : Array Value) (t8 : TypeId) (c9 : Array Value) (t9 : TypeId) (c10 : Array Value) (t10 : TypeId) (c11 : Array Value) (t11 : TypeId) (c12 : Array Value) (t12 : TypeId) (c13 : Array Value) (t13 : TypeId) (c14 : Array Value) (t14 : TypeId) (c15 : Array Value) (t15 : TypeId) : (((((((((((((((((w.alloc (.cells c0 t0)).alloc (.cells c1 t1)).alloc (.cells c2 t2)).alloc (.cells c3 t3)).alloc (.cells c4 t4)).alloc (.cells c5 t5)).alloc (.cells c6 t6)).alloc (.cells c7 t7)).alloc (.cells c8 t8)).alloc (.cells c9 t9)).alloc (.cells c10 t10)).alloc (.cells c11 t11)).alloc (.cells c12 t12)).alloc (.cells c13 t13)).alloc (.cells c14 t14)).alloc (.cells c15 t15))).frozen? ⟨j, q, none⟩ = false := (fun q => frozen_new _ j q w.heap.size c15 t15 hj (fun q => frozen_new _ j q w.heap.size c14 t14 hj (fun q => frozen_new _ j q w.heap.size c13 t13 hj (fun q => frozen_new _ j q w.heap.size c12 t12 hj (fun q => frozen_new _ j q w.heap.size c11 t11 hj (fun q => frozen_new _ j q w.heap.size c10 t10 hj (fun q => frozen_new _ j q w.heap.size c9 t9 hj (fun q => frozen_new _ j q w.heap.size c8 t8 hj (fun q => frozen_new _ j q w.heap.size c7 t7 hj (fun q => frozen_new _ j q w.heap.size c6 t6 hj (fun q => frozen_new _ j q w.heap.size c5 t5 hj (fun q => frozen_new _ j q w.heap.size c4 t4 hj (fun q => frozen_new _ j q w.heap.size c3 t3 hj (fun q => frozen_new _ j q w.heap.size c2 t2 hj (fun q => frozen_new _ j q w.heap.size c1 t1 hj (fun q => frozen_new _ j q w.heap.size c0 t0 hj (fun q => frozen_none w j q hj))))))))))))))))) q
set_option maxRecDepth 100000 in
set_option maxHeartbeats 4000000 in
theorem ntwo_any {w : World} : Calls Tryd.prog 8 #[] w fun e w' => e = .returned (netV (Y2 w.heap.size ⟨w.heap.size + 1 + 1 + 1 + 1 + 1 + 1 + 1 + 1 + 1 + 1 + 1 + 1, 0, none⟩) (N2 1 1 1 0 1 8 20 4)) ∧ TwN w' w.heap.size ⟨w.heap.size + 1 + 1 + 1 + 1 + 1 + 1 + 1 + 1 + 1 + 1 + 1 + 1, 0, none⟩ 1 1 0 1 ∧ w'.cell? ⟨w.heap.size + 1 + 1 + 1 + 1 + 1 + 1 + 1 + 1 + 1 + 1 + 1 + 1, 0, none⟩ = some (.int .i64 1) ∧ (∀ j, w.heap.size ≤ j → ∀ q, w'.frozen? ⟨j, q, none⟩ = false) ∧ Kept w w' none := by
  go_enter Tryd.func8, Tryd.ntmps8
  obtain ⟨W, hW⟩ : ∃ W, W = ((((((((((((((((w.alloc (.cells #[.slice (some ⟨w.heap.size + 1 + 1 + 1 + 1 + 1 + 1 + 1 + 1 + 1 + 1, 0, none⟩) 2 2, .slice (some ⟨w.heap.size + 1 + 1 + 1 + 1 + 1 + 1 + 1 + 1 + 1 + 1 + 1 + 1 + 1, 0, none⟩) 2 2, .slice (some ⟨w.heap.size + 1 + 1 + 1 + 1 + 1 + 1 + 1 + 1 + 1 + 1 + 1 + 1 + 1 + 1 + 1, 0, none⟩) 1 1, .int .i64 8, .int .i64 20, .int .i64 4] 26)).alloc (.cells #[.int .u8 1, .int .i64 2, .int .i64 1] 64)).alloc (.cells #[.int .u8 1, .int .i64 2, .int .i64 1, .int .u8 1, .int .i64 2, .int .i64 1] 64)).alloc (.cells #[.int .u32 2, .int .u32 1] 65)).alloc (.cells #[.int .i64 0, .int .i64 2] 3)).alloc (.cells #[.int .i64 2, .int .i64 0] 3)).alloc (.cells #[.slice (some ⟨w.heap.size + 1 + 1 + 1 + 1, 0, none⟩) 2 2, .slice (some ⟨w.heap.size + 1 + 1 + 1 + 1 + 1, 0, none⟩) 2 2] 31)).alloc (.cells #[.int .u32 1, .int .i64 2, .int .i64 5, .int .i64 1, .bool false, .int .u32 2, .int .i64 2, .int .i64 5, .int .i64 1, .bool false] 67)).alloc (.cells #[.int .i64 0, .slice (some ⟨w.heap.size + 1 + 1, 0, none⟩) 2 2, .slice (some ⟨w.heap.size + 1 + 1 + 1, 0, none⟩) 2 2, .slice (some ⟨w.heap.size + 1 + 1 + 1 + 1 + 1 + 1, 0, none⟩) 2 2, .slice (some ⟨w.heap.size + 1 + 1 + 1 + 1 + 1 + 1 + 1, 0, none⟩) 2 2, .slice none 0 0, .int .i64 3, .int .i64 2, .int .i64 4, .int .i64 8, .int .i64 20, .slice none 0 0] 48)).alloc (.cells #[.int .i64 1, .slice (some ⟨w.heap.size + 1 + 1, 0, none⟩) 2 2, .slice (some ⟨w.heap.size + 1 + 1 + 1, 0, none⟩) 2 2, .slice (some ⟨w.heap.size + 1 + 1 + 1 + 1 + 1 + 1, 0, none⟩) 2 2, .slice (some ⟨w.heap.size + 1 + 1 + 1 + 1 + 1 + 1 + 1, 0, none⟩) 2 2, .slice none 0 0, .int .i64 3, .int .i64 2, .int .i64 4, .int .i64 8, .int .i64 20, .slice none 0 0] 48)).alloc (.cells #[.int .i64 0, .slice (some ⟨w.heap.size + 1 + 1, 0, none⟩) 2 2, .slice (some ⟨w.heap.size + 1 + 1 + 1, 0, none⟩) 2 2, .slice (some ⟨w.heap.size + 1 + 1 + 1 + 1 + 1 + 1, 0, none⟩) 2 2, .slice (some ⟨w.heap.size + 1 + 1 + 1 + 1 + 1 + 1 + 1, 0, none⟩) 2 2, .slice none 0 0, .int .i64 3, .int .i64 2, .int .i64 4, .int .i64 8, .int .i64 20, .slice none 0 0, .int .i64 1, .slice (some ⟨w.heap.size + 1 + 1, 0, none⟩) 2 2, .slice (some ⟨w.heap.size + 1 + 1 + 1, 0, none⟩) 2 2, .slice (some ⟨w.heap.size + 1 + 1 + 1 + 1 + 1 + 1, 0, none⟩) 2 2, .slice (some ⟨w.heap.size + 1 + 1 + 1 + 1 + 1 + 1 + 1, 0, none⟩) 2 2, .slice none 0 0, .int .i64 3, .int .i64 2, .int .i64 4, .int .i64 8, .int .i64 20, .slice none 0 0] 48)).alloc (.cells #[.int .i64 0] 3)).alloc (.cells #[.int .i64 1] 3)).alloc (.cells #[.slice (some ⟨w.heap.size + 1 + 1 + 1 + 1 + 1 + 1 + 1 + 1 + 1 + 1 + 1, 0, none⟩) 1 1, .int .i64 0, .slice (some ⟨w.heap.size + 1 + 1 + 1 + 1 + 1 + 1 + 1 + 1 + 1 + 1 + 1 + 1, 0, none⟩) 1 1, .int .i64 1] 38)).alloc (.cells #[.int .i64 0, .int .i64 4] 3)).alloc (.cells #[.int .i64 0, .int .i64 1, .int .i64 3, .slice (some ⟨w.heap.size + 1 + 1 + 1 + 1 + 1 + 1 + 1 + 1 + 1 + 1 + 1 + 1 + 1 + 1, 0, none⟩) 2 2] 40)) := ⟨_, rfl⟩
  obtain ⟨W0, hW0⟩ : ∃ W0, W0 = w.alloc (.cells #[.slice (some ⟨w.heap.size + 1 + 1 + 1 + 1 + 1 + 1 + 1 + 1 + 1 + 1, 0, none⟩) 2 2, .slice (some ⟨w.heap.size + 1 + 1 + 1 + 1 + 1 + 1 + 1 + 1 + 1 + 1 + 1 + 1 + 1, 0, none⟩) 2 2, .slice (some ⟨w.heap.size + 1 + 1 + 1 + 1 + 1 + 1 + 1 + 1 + 1 + 1 + 1 + 1 + 1 + 1 + 1, 0, none⟩) 1 1, .int .i64 8, .int .i64 20, .int .i64 4] 26) := ⟨_, rfl⟩
  have k0 : Kept w W0 none := by rw [hW0]; exact Kept.alloc _ _ _ (0, 0) _
  have s0 : W0.heap.size = w.heap.size + 1 := by rw [hW0, World.size_alloc]
  have e0 : ∀ j v, #[.slice (some ⟨w.heap.size + 1 + 1 + 1 + 1 + 1 + 1 + 1 + 1 + 1 + 1, 0, none⟩) 2 2, .slice (some ⟨w.heap.size + 1 + 1 + 1 + 1 + 1 + 1 + 1 + 1 + 1 + 1 + 1 + 1 + 1, 0, none⟩) 2 2, .slice (some ⟨w.heap.size + 1 + 1 + 1 + 1 + 1 + 1 + 1 + 1 + 1 + 1 + 1 + 1 + 1 + 1 + 1, 0, none⟩) 1 1, .int .i64 8, .int .i64 20, .int .i64 4][j]? = some v → W0.cell? ⟨w.heap.size, j, none⟩ = some v := fun j v hv => by rw [hW0]; exact alloc_cell w _ _ rfl hv
  obtain ⟨W1, hW1⟩ : ∃ W1, W1 = W0.alloc (.cells #[.int .u8 1, .int .i64 2, .int .i64 1] 64) := ⟨_, rfl⟩
  have k1 : Kept W0 W1 none := by rw [hW1]; exact Kept.alloc _ _ _ (0, 0) _
  have s1 : W1.heap.size = w.heap.size + 1 + 1 := by rw [hW1, World.size_alloc, s0]
  have e1 : ∀ j v, #[.int .u8 1, .int .i64 2, .int .i64 1][j]? = some v → W1.cell? ⟨w.heap.size + 1, j, none⟩ = some v := fun j v hv => by rw [hW1]; exact alloc_cell W0 _ _ s0 hv
  obtain ⟨W2, hW2⟩ : ∃ W2, W2 = W1.alloc (.cells #[.int .u8 1, .int .i64 2, .int .i64 1, .int .u8 1, .int .i64 2, .int .i64 1] 64) := ⟨_, rfl⟩
  have k2 : Kept W1 W2 none := by rw [hW2]; exact Kept.alloc _ _ _ (0, 0) _
  have s2 : W2.heap.size = w.heap.size + 1 + 1 + 1 := by rw [hW2, World.size_alloc, s1]
  have e2 : ∀ j v, #[.int .u8 1, .int .i64 2, .int .i64 1, .int .u8 1, .int .i64 2, .int .i64 1][j]? = some v → W2.cell? ⟨w.heap.size + 1 + 1, j, none⟩ = some v := fun j v hv => by rw [hW2]; exact alloc_cell W1 _ _ s1 hv
  obtain ⟨W3, hW3⟩ : ∃ W3, W3 = W2.alloc (.cells #[.int .u32 2, .int .u32 1] 65) := ⟨_, rfl⟩
  have k3 : Kept W2 W3 none := by rw [hW3]; exact Kept.alloc _ _ _ (0, 0) _
  have s3 : W3.heap.size = w.heap.size + 1 + 1 + 1 + 1 := by rw [hW3, World.size_alloc, s2]
  have e3 : ∀ j v, #[.int .u32 2, .int .u32 1][j]? = some v → W3.cell? ⟨w.heap.size + 1 + 1 + 1, j, none⟩ = some v := fun j v hv => by rw [hW3]; exact alloc_cell W2 _ _ s2 hv
  obtain ⟨W4, hW4⟩ : ∃ W4, W4 = W3.alloc (.cells #[.int .i64 0, .int .i64 2] 3) := ⟨_, rfl⟩
  have k4 : Kept W3 W4 none := by rw [hW4]; exact Kept.alloc _ _ _ (0, 0) _
  have s4 : W4.heap.size = w.heap.size + 1 + 1 + 1 + 1 + 1 := by rw [hW4, World.size_alloc, s3]
  have e4 : ∀ j v, #[.int .i64 0, .int .i64 2][j]? = some v → W4.cell? ⟨w.heap.size + 1 + 1 + 1 + 1, j, none⟩ = some v := fun j v hv => by rw [hW4]; exact alloc_cell W3 _ _ s3 hv
  obtain ⟨W5, hW5⟩ : ∃ W5, W5 = W4.alloc (.cells #[.int .i64 2, .int .i64 0] 3) := ⟨_, rfl⟩
  have k5 : Kept W4 W5 none := by rw [hW5]; exact Kept.alloc _ _ _ (0, 0) _
  have s5 : W5.heap.size = w.heap.size + 1 + 1 + 1 + 1 + 1 + 1 := by rw [hW5, World.size_alloc, s4]
  have e5 : ∀ j v, #[.int .i64 2, .int .i64 0][j]? = some v → W5.cell? ⟨w.heap.size + 1 + 1 + 1 + 1 + 1, j, none⟩ = some v := fun j v hv => by rw [hW5]; exact alloc_cell W4 _ _ s4 hv
  obtain ⟨W6, hW6⟩ : ∃ W6, W6 = W5.alloc (.cells #[.slice (some ⟨w.heap.size + 1 + 1 + 1 + 1, 0, none⟩) 2 2, .slice (some ⟨w.heap.size + 1 + 1 + 1 + 1 + 1, 0, none⟩) 2 2] 31) := ⟨_, rfl⟩
  have k6 : Kept W5 W6 none := by rw [hW6]; exact Kept.alloc _ _ _ (0, 0) _
  have s6 : W6.heap.size = w.heap.size + 1 + 1 + 1 + 1 + 1 + 1 + 1 := by rw [hW6, World.size_alloc, s5]
  have e6 : ∀ j v, #[.slice (some ⟨w.heap.size + 1 + 1 + 1 + 1, 0, none⟩) 2 2, .slice (some ⟨w.heap.size + 1 + 1 + 1 + 1 + 1, 0, none⟩) 2 2][j]? = some v → W6.cell? ⟨w.heap.size + 1 + 1 + 1 + 1 + 1 + 1, j, none⟩ = some v := fun j v hv => by rw [hW6]; exact alloc_cell W5 _ _ s5 hv
  obtain ⟨W7, hW7⟩ : ∃ W7, W7 = W6.alloc (.cells #[.int .u32 1, .int .i64 2, .int .i64 5, .int .i64 1, .bool false, .int .u32 2, .int .i64 2, .int .i64 5, .int .i64 1, .bool false] 67) := ⟨_, rfl⟩
  have k7 : Kept W6 W7 none := by rw [hW7]; exact Kept.alloc _ _ _ (0, 0) _
  have s7 : W7.heap.size = w.heap.size + 1 + 1 + 1 + 1 + 1 + 1 + 1 + 1 := by rw [hW7, World.size_alloc, s6]
  have e7 : ∀ j v, #[.int .u32 1, .int .i64 2, .int .i64 5, .int .i64 1, .bool false, .int .u32 2, .int .i64 2, .int .i64 5, .int .i64 1, .bool false][j]? = some v → W7.cell? ⟨w.heap.size + 1 + 1 + 1 + 1 + 1 + 1 + 1, j, none⟩ = some v := fun j v hv => by rw [hW7]; exact alloc_cell W6 _ _ s6 hv
  obtain ⟨W8, hW8⟩ : ∃ W8, W8 = W7.alloc (.cells #[.int .i64 0, .slice (some ⟨w.heap.size + 1 + 1, 0, none⟩) 2 2, .slice (some ⟨w.heap.size + 1 + 1 + 1, 0, none⟩) 2 2, .slice (some ⟨w.heap.size + 1 + 1 + 1 + 1 + 1 + 1, 0, none⟩) 2 2, .slice (some ⟨w.heap.size + 1 + 1 + 1 + 1 + 1 + 1 + 1, 0, none⟩) 2 2, .slice none 0 0, .int .i64 3, .int .i64 2, .int .i64 4, .int .i64 8, .int .i64 20, .slice none 0 0] 48) := ⟨_, rfl⟩
  have k8 : Kept W7 W8 none := by rw [hW8]; exact Kept.alloc _ _ _ (0, 0) _
  have s8 : W8.heap.size = w.heap.size + 1 + 1 + 1 + 1 + 1 + 1 + 1 + 1 + 1 := by rw [hW8, World.size_alloc, s7]
  have e8 : ∀ j v, #[.int .i64 0, .slice (some ⟨w.heap.size + 1 + 1, 0, none⟩) 2 2, .slice (some ⟨w.heap.size + 1 + 1 + 1, 0, none⟩) 2 2, .slice (some ⟨w.heap.size + 1 + 1 + 1 + 1 + 1 + 1, 0, none⟩) 2 2, .slice (some ⟨w.heap.size + 1 + 1 + 1 + 1 + 1 + 1 + 1, 0, none⟩) 2 2, .slice none 0 0, .int .i64 3, .int .i64 2, .int .i64 4, .int .i64 8, .int .i64 20, .slice none 0 0][j]? = some v → W8.cell? ⟨w.heap.size + 1 + 1 + 1 + 1 + 1 + 1 + 1 + 1, j, none⟩ = some v := fun j v hv => by rw [hW8]; exact alloc_cell W7 _ _ s7 hv
  obtain ⟨W9, hW9⟩ : ∃ W9, W9 = W8.alloc (.cells #[.int .i64 1, .slice (some ⟨w.heap.size + 1 + 1, 0, none⟩) 2 2, .slice (some ⟨w.heap.size + 1 + 1 + 1, 0, none⟩) 2 2, .slice (some ⟨w.heap.size + 1 + 1 + 1 + 1 + 1 + 1, 0, none⟩) 2 2, .slice (some ⟨w.heap.size + 1 + 1 + 1 + 1 + 1 + 1 + 1, 0, none⟩) 2 2, .slice none 0 0, .int .i64 3, .int .i64 2, .int .i64 4, .int .i64 8, .int .i64 20, .slice none 0 0] 48) := ⟨_, rfl⟩
  have k9 : Kept W8 W9 none := by rw [hW9]; exact Kept.alloc _ _ _ (0, 0) _
  have s9 : W9.heap.size = w.heap.size + 1 + 1 + 1 + 1 + 1 + 1 + 1 + 1 + 1 + 1 := by rw [hW9, World.size_alloc, s8]
  have e9 : ∀ j v, #[.int .i64 1, .slice (some ⟨w.heap.size + 1 + 1, 0, none⟩) 2 2, .slice (some ⟨w.heap.size + 1 + 1 + 1, 0, none⟩) 2 2, .slice (some ⟨w.heap.size + 1 + 1 + 1 + 1 + 1 + 1, 0, none⟩) 2 2, .slice (some ⟨w.heap.size + 1 + 1 + 1 + 1 + 1 + 1 + 1, 0, none⟩) 2 2, .slice none 0 0, .int .i64 3, .int .i64 2, .int .i64 4, .int .i64 8, .int .i64 20, .slice none 0 0][j]? = some v → W9.cell? ⟨w.heap.size + 1 + 1 + 1 + 1 + 1 + 1 + 1 + 1 + 1, j, none⟩ = some v := fun j v hv => by rw [hW9]; exact alloc_cell W8 _ _ s8 hv
  obtain ⟨W10, hW10⟩ : ∃ W10, W10 = W9.alloc (.cells #[.int .i64 0, .slice (some ⟨w.heap.size + 1 + 1, 0, none⟩) 2 2, .slice (some ⟨w.heap.size + 1 + 1 + 1, 0, none⟩) 2 2, .slice (some ⟨w.heap.size + 1 + 1 + 1 + 1 + 1 + 1, 0, none⟩) 2 2, .slice (some ⟨w.heap.size + 1 + 1 + 1 + 1 + 1 + 1 + 1, 0, none⟩) 2 2, .slice none 0 0, .int .i64 3, .int .i64 2, .int .i64 4, .int .i64 8, .int .i64 20, .slice none 0 0, .int .i64 1, .slice (some ⟨w.heap.size + 1 + 1, 0, none⟩) 2 2, .slice (some ⟨w.heap.size + 1 + 1 + 1, 0, none⟩) 2 2, .slice (some ⟨w.heap.size + 1 + 1 + 1 + 1 + 1 + 1, 0, none⟩) 2 2, .slice (some ⟨w.heap.size + 1 + 1 + 1 + 1 + 1 + 1 + 1, 0, none⟩) 2 2, .slice none 0 0, .int .i64 3, .int .i64 2, .int .i64 4, .int .i64 8, .int .i64 20, .slice none 0 0] 48) := ⟨_, rfl⟩
  have k10 : Kept W9 W10 none := by rw [hW10]; exact Kept.alloc _ _ _ (0, 0) _
  have s10 : W10.heap.size = w.heap.size + 1 + 1 + 1 + 1 + 1 + 1 + 1 + 1 + 1 + 1 + 1 := by rw [hW10, World.size_alloc, s9]
  have e10 : ∀ j v, #[.int .i64 0, .slice (some ⟨w.heap.size + 1 + 1, 0, none⟩) 2 2, .slice (some ⟨w.heap.size + 1 + 1 + 1, 0, none⟩) 2 2, .slice (some ⟨w.heap.size + 1 + 1 + 1 + 1 + 1 + 1, 0, none⟩) 2 2, .slice (some ⟨w.heap.size + 1 + 1 + 1 + 1 + 1 + 1 + 1, 0, none⟩) 2 2, .slice none 0 0, .int .i64 3, .int .i64 2, .int .i64 4, .int .i64 8, .int .i64 20, .slice none 0 0, .int .i64 1, .slice (some ⟨w.heap.size + 1 + 1, 0, none⟩) 2 2, .slice (some ⟨w.heap.size + 1 + 1 + 1, 0, none⟩) 2 2, .slice (some ⟨w.heap.size + 1 + 1 + 1 + 1 + 1 + 1, 0, none⟩) 2 2, .slice (some ⟨w.heap.size + 1 + 1 + 1 + 1 + 1 + 1 + 1, 0, none⟩) 2 2, .slice none 0 0, .int .i64 3, .int .i64 2, .int .i64 4, .int .i64 8, .int .i64 20, .slice none 0 0][j]? = some v → W10.cell? ⟨w.heap.size + 1 + 1 + 1 + 1 + 1 + 1 + 1 + 1 + 1 + 1, j, none⟩ = some v := fun j v hv => by rw [hW10]; exact alloc_cell W9 _ _ s9 hv
  obtain ⟨W11, hW11⟩ : ∃ W11, W11 = W10.alloc (.cells #[.int .i64 0] 3) := ⟨_, rfl⟩
  have k11 : Kept W10 W11 none := by rw [hW11]; exact Kept.alloc _ _ _ (0, 0) _
  have s11 : W11.heap.size = w.heap.size + 1 + 1 + 1 + 1 + 1 + 1 + 1 + 1 + 1 + 1 + 1 + 1 := by rw [hW11, World.size_alloc, s10]
  have e11 : ∀ j v, #[.int .i64 0][j]? = some v → W11.cell? ⟨w.heap.size + 1 + 1 + 1 + 1 + 1 + 1 + 1 + 1 + 1 + 1 + 1, j, none⟩ = some v := fun j v hv => by rw [hW11]; exact alloc_cell W10 _ _ s10 hv
  obtain ⟨W12, hW12⟩ : ∃ W12, W12 = W11.alloc (.cells #[.int .i64 1] 3) := ⟨_, rfl⟩
  have k12 : Kept W11 W12 none := by rw [hW12]; exact Kept.alloc _ _ _ (0, 0) _
  have s12 : W12.heap.size = w.heap.size + 1 + 1 + 1 + 1 + 1 + 1 + 1 + 1 + 1 + 1 + 1 + 1 + 1 := by rw [hW12, World.size_alloc, s11]
  have e12 : ∀ j v, #[.int .i64 1][j]? = some v → W12.cell? ⟨w.heap.size + 1 + 1 + 1 + 1 + 1 + 1 + 1 + 1 + 1 + 1 + 1 + 1, j, none⟩ = some v := fun j v hv => by rw [hW12]; exact alloc_cell W11 _ _ s11 hv
  obtain ⟨W13, hW13⟩ : ∃ W13, W13 = W12.alloc (.cells #[.slice (some ⟨w.heap.size + 1 + 1 + 1 + 1 + 1 + 1 + 1 + 1 + 1 + 1 + 1, 0, none⟩) 1 1, .int .i64 0, .slice (some ⟨w.heap.size + 1 + 1 + 1 + 1 + 1 + 1 + 1 + 1 + 1 + 1 + 1 + 1, 0, none⟩) 1 1, .int .i64 1] 38) := ⟨_, rfl⟩
  have k13 : Kept W12 W13 none := by rw [hW13]; exact Kept.alloc _ _ _ (0, 0) _
  have s13 : W13.heap.size = w.heap.size + 1 + 1 + 1 + 1 + 1 + 1 + 1 + 1 + 1 + 1 + 1 + 1 + 1 + 1 := by rw [hW13, World.size_alloc, s12]
  have e13 : ∀ j v, #[.slice (some ⟨w.heap.size + 1 + 1 + 1 + 1 + 1 + 1 + 1 + 1 + 1 + 1 + 1, 0, none⟩) 1 1, .int .i64 0, .slice (some ⟨w.heap.size + 1 + 1 + 1 + 1 + 1 + 1 + 1 + 1 + 1 + 1 + 1 + 1, 0, none⟩) 1 1, .int .i64 1][j]? = some v → W13.cell? ⟨w.heap.size + 1 + 1 + 1 + 1 + 1 + 1 + 1 + 1 + 1 + 1 + 1 + 1 + 1, j, none⟩ = some v := fun j v hv => by rw [hW13]; exact alloc_cell W12 _ _ s12 hv
  obtain ⟨W14, hW14⟩ : ∃ W14, W14 = W13.alloc (.cells #[.int .i64 0, .int .i64 4] 3) := ⟨_, rfl⟩
  have k14 : Kept W13 W14 none := by rw [hW14]; exact Kept.alloc _ _ _ (0, 0) _
  have s14 : W14.heap.size = w.heap.size + 1 + 1 + 1 + 1 + 1 + 1 + 1 + 1 + 1 + 1 + 1 + 1 + 1 + 1 + 1 := by rw [hW14, World.size_alloc, s13]
  have e14 : ∀ j v, #[.int .i64 0, .int .i64 4][j]? = some v → W14.cell? ⟨w.heap.size + 1 + 1 + 1 + 1 + 1 + 1 + 1 + 1 + 1 + 1 + 1 + 1 + 1 + 1, j, none⟩ = some v := fun j v hv => by rw [hW14]; exact alloc_cell W13 _ _ s13 hv
  obtain ⟨W15, hW15⟩ : ∃ W15, W15 = W14.alloc (.cells #[.int .i64 0, .int .i64 1, .int .i64 3, .slice (some ⟨w.heap.size + 1 + 1 + 1 + 1 + 1 + 1 + 1 + 1 + 1 + 1 + 1 + 1 + 1 + 1, 0, none⟩) 2 2] 40) := ⟨_, rfl⟩
  have k15 : Kept W14 W15 none := by rw [hW15]; exact Kept.alloc _ _ _ (0, 0) _
  have s15 : W15.heap.size = w.heap.size + 1 + 1 + 1 + 1 + 1 + 1 + 1 + 1 + 1 + 1 + 1 + 1 + 1 + 1 + 1 + 1 := by rw [hW15, World.size_alloc, s14]
  have e15 : ∀ j v, #[.int .i64 0, .int .i64 1, .int .i64 3, .slice (some ⟨w.heap.size + 1 + 1 + 1 + 1 + 1 + 1 + 1 + 1 + 1 + 1 + 1 + 1 + 1 + 1, 0, none⟩) 2 2][j]? = some v → W15.cell? ⟨w.heap.size + 1 + 1 + 1 + 1 + 1 + 1 + 1 + 1 + 1 + 1 + 1 + 1 + 1 + 1 + 1, j, none⟩ = some v := fun j v hv => by rw [hW15]; exact alloc_cell W14 _ _ s14 hv
  have hWW : W = W15 := by rw [hW, hW15, hW14, hW13, hW12, hW11, hW10, hW9, hW8, hW7, hW6, hW5, hW4, hW3, hW2, hW1, hW0]
  have d0 : ∀ j v, #[.slice (some ⟨w.heap.size + 1 + 1 + 1 + 1 + 1 + 1 + 1 + 1 + 1 + 1, 0, none⟩) 2 2, .slice (some ⟨w.heap.size + 1 + 1 + 1 + 1 + 1 + 1 + 1 + 1 + 1 + 1 + 1 + 1 + 1, 0, none⟩) 2 2, .slice (some ⟨w.heap.size + 1 + 1 + 1 + 1 + 1 + 1 + 1 + 1 + 1 + 1 + 1 + 1 + 1 + 1 + 1, 0, none⟩) 1 1, .int .i64 8, .int .i64 20, .int .i64 4][j]? = some v → W15.cell? ⟨w.heap.size, j, none⟩ = some v := fun j v hv => cell_kept0 (e0 j v hv) (k1.tr (k2.tr (k3.tr (k4.tr (k5.tr (k6.tr (k7.tr (k8.tr (k9.tr (k10.tr (k11.tr (k12.tr (k13.tr (k14.tr (k15.tr (Kept.refl W15 none))))))))))))))))
  have d1 : ∀ j v, #[.int .u8 1, .int .i64 2, .int .i64 1][j]? = some v → W15.cell? ⟨w.heap.size + 1, j, none⟩ = some v := fun j v hv => cell_kept0 (e1 j v hv) (k2.tr (k3.tr (k4.tr (k5.tr (k6.tr (k7.tr (k8.tr (k9.tr (k10.tr (k11.tr (k12.tr (k13.tr (k14.tr (k15.tr (Kept.refl W15 none)))))))))))))))
  have d2 : ∀ j v, #[.int .u8 1, .int .i64 2, .int .i64 1, .int .u8 1, .int .i64 2, .int .i64 1][j]? = some v → W15.cell? ⟨w.heap.size + 1 + 1, j, none⟩ = some v := fun j v hv => cell_kept0 (e2 j v hv) (k3.tr (k4.tr (k5.tr (k6.tr (k7.tr (k8.tr (k9.tr (k10.tr (k11.tr (k12.tr (k13.tr (k14.tr (k15.tr (Kept.refl W15 none))))))))))))))
  have d3 : ∀ j v, #[.int .u32 2, .int .u32 1][j]? = some v → W15.cell? ⟨w.heap.size + 1 + 1 + 1, j, none⟩ = some v := fun j v hv => cell_kept0 (e3 j v hv) (k4.tr (k5.tr (k6.tr (k7.tr (k8.tr (k9.tr (k10.tr (k11.tr (k12.tr (k13.tr (k14.tr (k15.tr (Kept.refl W15 none)))))))))))))
  have d4 : ∀ j v, #[.int .i64 0, .int .i64 2][j]? = some v → W15.cell? ⟨w.heap.size + 1 + 1 + 1 + 1, j, none⟩ = some v := fun j v hv => cell_kept0 (e4 j v hv) (k5.tr (k6.tr (k7.tr (k8.tr (k9.tr (k10.tr (k11.tr (k12.tr (k13.tr (k14.tr (k15.tr (Kept.refl W15 none))))))))))))
  have d5 : ∀ j v, #[.int .i64 2, .int .i64 0][j]? = some v → W15.cell? ⟨w.heap.size + 1 + 1 + 1 + 1 + 1, j, none⟩ = some v := fun j v hv => cell_kept0 (e5 j v hv) (k6.tr (k7.tr (k8.tr (k9.tr (k10.tr (k11.tr (k12.tr (k13.tr (k14.tr (k15.tr (Kept.refl W15 none)))))))))))
  have d6 : ∀ j v, #[.slice (some ⟨w.heap.size + 1 + 1 + 1 + 1, 0, none⟩) 2 2, .slice (some ⟨w.heap.size + 1 + 1 + 1 + 1 + 1, 0, none⟩) 2 2][j]? = some v → W15.cell? ⟨w.heap.size + 1 + 1 + 1 + 1 + 1 + 1, j, none⟩ = some v := fun j v hv => cell_kept0 (e6 j v hv) (k7.tr (k8.tr (k9.tr (k10.tr (k11.tr (k12.tr (k13.tr (k14.tr (k15.tr (Kept.refl W15 none))))))))))
  have d7 : ∀ j v, #[.int .u32 1, .int .i64 2, .int .i64 5, .int .i64 1, .bool false, .int .u32 2, .int .i64 2, .int .i64 5, .int .i64 1, .bool false][j]? = some v → W15.cell? ⟨w.heap.size + 1 + 1 + 1 + 1 + 1 + 1 + 1, j, none⟩ = some v := fun j v hv => cell_kept0 (e7 j v hv) (k8.tr (k9.tr (k10.tr (k11.tr (k12.tr (k13.tr (k14.tr (k15.tr (Kept.refl W15 none)))))))))
  have d8 : ∀ j v, #[.int .i64 0, .slice (some ⟨w.heap.size + 1 + 1, 0, none⟩) 2 2, .slice (some ⟨w.heap.size + 1 + 1 + 1, 0, none⟩) 2 2, .slice (some ⟨w.heap.size + 1 + 1 + 1 + 1 + 1 + 1, 0, none⟩) 2 2, .slice (some ⟨w.heap.size + 1 + 1 + 1 + 1 + 1 + 1 + 1, 0, none⟩) 2 2, .slice none 0 0, .int .i64 3, .int .i64 2, .int .i64 4, .int .i64 8, .int .i64 20, .slice none 0 0][j]? = some v → W15.cell? ⟨w.heap.size + 1 + 1 + 1 + 1 + 1 + 1 + 1 + 1, j, none⟩ = some v := fun j v hv => cell_kept0 (e8 j v hv) (k9.tr (k10.tr (k11.tr (k12.tr (k13.tr (k14.tr (k15.tr (Kept.refl W15 none))))))))
  have d9 : ∀ j v, #[.int .i64 1, .slice (some ⟨w.heap.size + 1 + 1, 0, none⟩) 2 2, .slice (some ⟨w.heap.size + 1 + 1 + 1, 0, none⟩) 2 2, .slice (some ⟨w.heap.size + 1 + 1 + 1 + 1 + 1 + 1, 0, none⟩) 2 2, .slice (some ⟨w.heap.size + 1 + 1 + 1 + 1 + 1 + 1 + 1, 0, none⟩) 2 2, .slice none 0 0, .int .i64 3, .int .i64 2, .int .i64 4, .int .i64 8, .int .i64 20, .slice none 0 0][j]? = some v → W15.cell? ⟨w.heap.size + 1 + 1 + 1 + 1 + 1 + 1 + 1 + 1 + 1, j, none⟩ = some v := fun j v hv => cell_kept0 (e9 j v hv) (k10.tr (k11.tr (k12.tr (k13.tr (k14.tr (k15.tr (Kept.refl W15 none)))))))
  have d10 : ∀ j v, #[.int .i64 0, .slice (some ⟨w.heap.size + 1 + 1, 0, none⟩) 2 2, .slice (some ⟨w.heap.size + 1 + 1 + 1, 0, none⟩) 2 2, .slice (some ⟨w.heap.size + 1 + 1 + 1 + 1 + 1 + 1, 0, none⟩) 2 2, .slice (some ⟨w.heap.size + 1 + 1 + 1 + 1 + 1 + 1 + 1, 0, none⟩) 2 2, .slice none 0 0, .int .i64 3, .int .i64 2, .int .i64 4, .int .i64 8, .int .i64 20, .slice none 0 0, .int .i64 1, .slice (some ⟨w.heap.size + 1 + 1, 0, none⟩) 2 2, .slice (some ⟨w.heap.size + 1 + 1 + 1, 0, none⟩) 2 2, .slice (some ⟨w.heap.size + 1 + 1 + 1 + 1 + 1 + 1, 0, none⟩) 2 2, .slice (some ⟨w.heap.size + 1 + 1 + 1 + 1 + 1 + 1 + 1, 0, none⟩) 2 2, .slice none 0 0, .int .i64 3, .int .i64 2, .int .i64 4, .int .i64 8, .int .i64 20, .slice none 0 0][j]? = some v → W15.cell? ⟨w.heap.size + 1 + 1 + 1 + 1 + 1 + 1 + 1 + 1 + 1 + 1, j, none⟩ = some v := fun j v hv => cell_kept0 (e10 j v hv) (k11.tr (k12.tr (k13.tr (k14.tr (k15.tr (Kept.refl W15 none))))))
  have d11 : ∀ j v, #[.int .i64 0][j]? = some v → W15.cell? ⟨w.heap.size + 1 + 1 + 1 + 1 + 1 + 1 + 1 + 1 + 1 + 1 + 1, j, none⟩ = some v := fun j v hv => cell_kept0 (e11 j v hv) (k12.tr (k13.tr (k14.tr (k15.tr (Kept.refl W15 none)))))
  have d12 : ∀ j v, #[.int .i64 1][j]? = some v → W15.cell? ⟨w.heap.size + 1 + 1 + 1 + 1 + 1 + 1 + 1 + 1 + 1 + 1 + 1 + 1, j, none⟩ = some v := fun j v hv => cell_kept0 (e12 j v hv) (k13.tr (k14.tr (k15.tr (Kept.refl W15 none))))
  have d13 : ∀ j v, #[.slice (some ⟨w.heap.size + 1 + 1 + 1 + 1 + 1 + 1 + 1 + 1 + 1 + 1 + 1, 0, none⟩) 1 1, .int .i64 0, .slice (some ⟨w.heap.size + 1 + 1 + 1 + 1 + 1 + 1 + 1 + 1 + 1 + 1 + 1 + 1, 0, none⟩) 1 1, .int .i64 1][j]? = some v → W15.cell? ⟨w.heap.size + 1 + 1 + 1 + 1 + 1 + 1 + 1 + 1 + 1 + 1 + 1 + 1 + 1, j, none⟩ = some v := fun j v hv => cell_kept0 (e13 j v hv) (k14.tr (k15.tr (Kept.refl W15 none)))
  have d14 : ∀ j v, #[.int .i64 0, .int .i64 4][j]? = some v → W15.cell? ⟨w.heap.size + 1 + 1 + 1 + 1 + 1 + 1 + 1 + 1 + 1 + 1 + 1 + 1 + 1 + 1, j, none⟩ = some v := fun j v hv => cell_kept0 (e14 j v hv) (k15.tr (Kept.refl W15 none))
  have d15 : ∀ j v, #[.int .i64 0, .int .i64 1, .int .i64 3, .slice (some ⟨w.heap.size + 1 + 1 + 1 + 1 + 1 + 1 + 1 + 1 + 1 + 1 + 1 + 1 + 1 + 1, 0, none⟩) 2 2][j]? = some v → W15.cell? ⟨w.heap.size + 1 + 1 + 1 + 1 + 1 + 1 + 1 + 1 + 1 + 1 + 1 + 1 + 1 + 1 + 1, j, none⟩ = some v := fun j v hv => cell_kept0 (e15 j v hv) (Kept.refl W15 none)
  have hk : Kept w W15 none := k0.tr (k1.tr (k2.tr (k3.tr (k4.tr (k5.tr (k6.tr (k7.tr (k8.tr (k9.tr (k10.tr (k11.tr (k12.tr (k13.tr (k14.tr (k15.tr (Kept.refl W15 none))))))))))))))))
  have hz : W15.heap.size = w.heap.size + 1 + 1 + 1 + 1 + 1 + 1 + 1 + 1 + 1 + 1 + 1 + 1 + 1 + 1 + 1 + 1 := s15
  have hfz : ∀ j, w.heap.size ≤ j → ∀ q, W15.frozen? ⟨j, q, none⟩ = false := fun j hj q => by
    rw [hW15, hW14, hW13, hW12, hW11, hW10, hW9, hW8, hW7, hW6, hW5, hW4, hW3, hW2, hW1, hW0]
    exact frozen_new16 w j q hj _ _ _ _ _ _ _ _ _ _ _ _ _ _ _ _ _ _ _ _ _ _ _ _ _ _ _ _ _ _ _ _
  have hT : TwN W15 w.heap.size ⟨w.heap.size + 1 + 1 + 1 + 1 + 1 + 1 + 1 + 1 + 1 + 1 + 1 + 1, 0, none⟩ 1 1 0 1 := ⟨by omega, ⟨by omega, hfz _ (by omega) _, d2 0 _ rfl, d2 1 _ rfl, d2 2 _ rfl, d2 3 _ rfl, d2 4 _ rfl, d2 5 _ rfl, d3 0 _ rfl, d3 1 _ rfl, d4 0 _ rfl, d4 1 _ rfl, d5 0 _ rfl, d5 1 _ rfl, d6 0 _ rfl, d6 1 _ rfl, d7 0 _ rfl, d7 1 _ rfl, d7 2 _ rfl, d7 3 _ rfl, d7 4 _ rfl, d7 5 _ rfl, d7 6 _ rfl, d7 7 _ rfl, d7 8 _ rfl, d7 9 _ rfl⟩, d10 0 _ rfl, d10 1 _ rfl, d10 2 _ rfl, d10 3 _ rfl, d10 4 _ rfl, d10 5 _ rfl, d10 6 _ rfl, d10 7 _ rfl, d10 8 _ rfl, d10 9 _ rfl, d10 10 _ rfl, d10 11 _ rfl, d10 12 _ rfl, d10 13 _ rfl, d10 14 _ rfl, d10 15 _ rfl, d10 16 _ rfl, d10 17 _ rfl, d10 18 _ rfl, d10 19 _ rfl, d10 20 _ rfl, d10 21 _ rfl, d10 22 _ rfl, d10 23 _ rfl, d11 0 _ rfl, d13 0 _ rfl, d13 1 _ rfl, d13 2 _ rfl, d13 3 _ rfl, d14 0 _ rfl, d14 1 _ rfl, d15 0 _ rfl, d15 1 _ rfl, d15 2 _ rfl, d15 3 _ rfl⟩
  have c12 := d12 0 _ rfl
  have q0 := d0 0 _ rfl
  have q1 := d0 1 _ rfl
  have q2 := d0 2 _ rfl
  have q3 := d0 3 _ rfl
  have q4 := d0 4 _ rfl
  have q5 := d0 5 _ rfl
  have HT := Hid.mk' hT
  have HK := Hid.mk' hk
  have HFZ := Hid.mk' hfz
  have HC := Hid.mk' c12
  have HQ : Hid (W15.cell? ⟨w.heap.size, 0, none⟩ = some (.slice (some ⟨w.heap.size + 1 + 1 + 1 + 1 + 1 + 1 + 1 + 1 + 1 + 1, 0, none⟩) 2 2) ∧ W15.cell? ⟨w.heap.size, 1, none⟩ = some (.slice (some ⟨w.heap.size + 1 + 1 + 1 + 1 + 1 + 1 + 1 + 1 + 1 + 1 + 1 + 1 + 1, 0, none⟩) 2 2) ∧ W15.cell? ⟨w.heap.size, 2, none⟩ = some (.slice (some ⟨w.heap.size + 1 + 1 + 1 + 1 + 1 + 1 + 1 + 1 + 1 + 1 + 1 + 1 + 1 + 1 + 1, 0, none⟩) 1 1) ∧ W15.cell? ⟨w.heap.size, 3, none⟩ = some (.int .i64 8) ∧ W15.cell? ⟨w.heap.size, 4, none⟩ = some (.int .i64 20) ∧ W15.cell? ⟨w.heap.size, 5, none⟩ = some (.int .i64 4)) := ⟨q0, q1, q2, q3, q4, q5⟩
  have HW : Hid (W15 = ((((((((((((((((w.alloc (.cells #[.slice (some ⟨w.heap.size + 1 + 1 + 1 + 1 + 1 + 1 + 1 + 1 + 1 + 1, 0, none⟩) 2 2, .slice (some ⟨w.heap.size + 1 + 1 + 1 + 1 + 1 + 1 + 1 + 1 + 1 + 1 + 1 + 1 + 1, 0, none⟩) 2 2, .slice (some ⟨w.heap.size + 1 + 1 + 1 + 1 + 1 + 1 + 1 + 1 + 1 + 1 + 1 + 1 + 1 + 1 + 1, 0, none⟩) 1 1, .int .i64 8, .int .i64 20, .int .i64 4] 26)).alloc (.cells #[.int .u8 1, .int .i64 2, .int .i64 1] 64)).alloc (.cells #[.int .u8 1, .int .i64 2, .int .i64 1, .int .u8 1, .int .i64 2, .int .i64 1] 64)).alloc (.cells #[.int .u32 2, .int .u32 1] 65)).alloc (.cells #[.int .i64 0, .int .i64 2] 3)).alloc (.cells #[.int .i64 2, .int .i64 0] 3)).alloc (.cells #[.slice (some ⟨w.heap.size + 1 + 1 + 1 + 1, 0, none⟩) 2 2, .slice (some ⟨w.heap.size + 1 + 1 + 1 + 1 + 1, 0, none⟩) 2 2] 31)).alloc (.cells #[.int .u32 1, .int .i64 2, .int .i64 5, .int .i64 1, .bool false, .int .u32 2, .int .i64 2, .int .i64 5, .int .i64 1, .bool false] 67)).alloc (.cells #[.int .i64 0, .slice (some ⟨w.heap.size + 1 + 1, 0, none⟩) 2 2, .slice (some ⟨w.heap.size + 1 + 1 + 1, 0, none⟩) 2 2, .slice (some ⟨w.heap.size + 1 + 1 + 1 + 1 + 1 + 1, 0, none⟩) 2 2, .slice (some ⟨w.heap.size + 1 + 1 + 1 + 1 + 1 + 1 + 1, 0, none⟩) 2 2, .slice none 0 0, .int .i64 3, .int .i64 2, .int .i64 4, .int .i64 8, .int .i64 20, .slice none 0 0] 48)).alloc (.cells #[.int .i64 1, .slice (some ⟨w.heap.size + 1 + 1, 0, none⟩) 2 2, .slice (some ⟨w.heap.size + 1 + 1 + 1, 0, none⟩) 2 2, .slice (some ⟨w.heap.size + 1 + 1 + 1 + 1 + 1 + 1, 0, none⟩) 2 2, .slice (some ⟨w.heap.size + 1 + 1 + 1 + 1 + 1 + 1 + 1, 0, none⟩) 2 2, .slice none 0 0, .int .i64 3, .int .i64 2, .int .i64 4, .int .i64 8, .int .i64 20, .slice none 0 0] 48)).alloc (.cells #[.int .i64 0, .slice (some ⟨w.heap.size + 1 + 1, 0, none⟩) 2 2, .slice (some ⟨w.heap.size + 1 + 1 + 1, 0, none⟩) 2 2, .slice (some ⟨w.heap.size + 1 + 1 + 1 + 1 + 1 + 1, 0, none⟩) 2 2, .slice (some ⟨w.heap.size + 1 + 1 + 1 + 1 + 1 + 1 + 1, 0, none⟩) 2 2, .slice none 0 0, .int .i64 3, .int .i64 2, .int .i64 4, .int .i64 8, .int .i64 20, .slice none 0 0, .int .i64 1, .slice (some ⟨w.heap.size + 1 + 1, 0, none⟩) 2 2, .slice (some ⟨w.heap.size + 1 + 1 + 1, 0, none⟩) 2 2, .slice (some ⟨w.heap.size + 1 + 1 + 1 + 1 + 1 + 1, 0, none⟩) 2 2, .slice (some ⟨w.heap.size + 1 + 1 + 1 + 1 + 1 + 1 + 1, 0, none⟩) 2 2, .slice none 0 0, .int .i64 3, .int .i64 2, .int .i64 4, .int .i64 8, .int .i64 20, .slice none 0 0] 48)).alloc (.cells #[.int .i64 0] 3)).alloc (.cells #[.int .i64 1] 3)).alloc (.cells #[.slice (some ⟨w.heap.size + 1 + 1 + 1 + 1 + 1 + 1 + 1 + 1 + 1 + 1 + 1, 0, none⟩) 1 1, .int .i64 0, .slice (some ⟨w.heap.size + 1 + 1 + 1 + 1 + 1 + 1 + 1 + 1 + 1 + 1 + 1 + 1, 0, none⟩) 1 1, .int .i64 1] 38)).alloc (.cells #[.int .i64 0, .int .i64 4] 3)).alloc (.cells #[.int .i64 0, .int .i64 1, .int .i64 3, .slice (some ⟨w.heap.size + 1 + 1 + 1 + 1 + 1 + 1 + 1 + 1 + 1 + 1 + 1 + 1 + 1 + 1, 0, none⟩) 2 2] 40))) := hWW.symm.trans hW
  clear hT hk hfz c12 q0 q1 q2 q3 q4 q5 hWW hW hW0 k0 s0 e0 d0 hW1 k1 s1 e1 d1 hW2 k2 s2 e2 d2 hW3 k3 s3 e3 d3 hW4 k4 s4 e4 d4 hW5 k5 s5 e5 d5 hW6 k6 s6 e6 d6 hW7 k7 s7 e7 d7 hW8 k8 s8 e8 d8 hW9 k9 s9 e9 d9 hW10 k10 s10 e10 d10 hW11 k11 s11 e11 d11 hW12 k12 s12 e12 d12 hW13 k13 s13 e13 d13 hW14 k14 s14 e14 d14 k15 s15 e15 d15 hW15 hz
  go_wp2
  rw [← HW.out]
  obtain ⟨q0, q1, q2, q3, q4, q5⟩ := HQ.out
  refine bodyPost_ret (v := netV (Y2 w.heap.size ⟨w.heap.size + 1 + 1 + 1 + 1 + 1 + 1 + 1 + 1 + 1 + 1 + 1 + 1, 0, none⟩) (N2 1 1 1 0 1 8 20 4)) (by simp [results, Tryd.results8, go_sem, N2, q0, q1, q2, q3, q4, q5]) rfl ?_
  exact ⟨rfl, HT.out, HC.out, HFZ.out, HK.out⟩

end Go.Proofs.YtoahbpdgbiachaaDoor

/-
  THE CONTRACT of alive, of the statements: the chapter's region is written, and read.
-/
namespace Go.Proofs.YtoahbpdgbiachaaDoor
open Go.RowKit Go.Lib Go.Deep
set_option linter.unusedVariables false
set_option linter.unusedSimpArgs false

abbrev NN : Nt := N2 1 1 1 0 1 8 20 4
theorem nn_may : netB NN = true := by decide +kernel
theorem Mine.come {w : World} {base : Nat} {a : Option Addr} {n c : Nat} {L : List Nat} (h : Mine w base a n c L) (hl : ∀ x ∈ L, x < 256) : Come w a n c L := ⟨h.by hl, fun e => (h.nil e).2, h.room, h.max⟩
theorem Come.kept0 {w w' : World} {a : Option Addr} {n c : Nat} {L : List Nat} (h : Come w a n c L) (k : Kept w w' none) : Come w' a n c L := h.keptR k (fun _ _ _ => by simp)
theorem nreadP_yes {w w' : World} {e : Ending} {L : List Nat} (h : NReadP w L e w') (hr : nreadB L = true) : Kept w w' none ∧ ∃ Y, e = .returned (.tuple #[netV Y (readN L), .int .i64 0]) ∧ NetAt w' Y (readN L) := by
  obtain ⟨hk, ⟨_, Y, he, hq⟩ | ⟨hn, _⟩⟩ := h
  · exact ⟨hk, Y, he, hq⟩
  · rw [hr] at hn; cases hn
theorem nreadP_no {w w' : World} {e : Ending} {L : List Nat} (h : NReadP w L e w') (hr : nreadB L = false) : Kept w w' none ∧ e = .returned (.tuple #[netV Y0 N0, .int .i64 8]) := by
  obtain ⟨hk, ⟨hn, _⟩ | ⟨_, he⟩⟩ := h
  · rw [hr] at hn; cases hn
  · exact ⟨hk, he⟩
theorem writeL_few {w : World} {X : Sa} {S : St} (h : Sat w X S) (hs : siteB S = true) : (writeL S).length ≤ 6000 := by
  have := siteL_len h hs
  unfold writeL
  rw [if_pos hs, List.length_append, sum4_len]
  omega
/-- Each site of a region that may be is one that is read again. -/
def NRok (N : Nt) : Prop := ∀ i, i < N.sites.length → Rok (N.sites.getD i s0) ∧ (writeL (N.sites.getD i s0)).length ≤ 6000
theorem nrok_may {w : World} {Y : Na} {N : Nt} (h : NetAt w Y N) (hb : netB N = true) : NRok N := fun i hi => by
  have hs := (npos_may hb).st i hi
  exact ⟨rok_may (h.s2 i hi) hs, writeL_few (h.s2 i hi) hs⟩
theorem nreadP_write {w w' : World} {e : Ending} {N : Nt} {M : List Nat} (hM : nwriteL N = M) (h : NReadP w M e w') (hr : NRok N) (hb : netB N = true) : Kept w w' none ∧ ∃ Y, e = .returned (.tuple #[netV Y N, .int .i64 0]) ∧ NetAt w' Y N := by
  subst hM
  obtain ⟨h1, h2⟩ := nread_write hb hr
  obtain ⟨hk, Y, he, hq⟩ := nreadP_yes h h1
  rw [h2] at he hq
  exact ⟨hk, Y, he, hq⟩
set_option maxRecDepth 100000 in
set_option maxHeartbeats 2000000 in
theorem nalive_any {w : World} (hT : Tabb w) (hTb : Table w) : Calls Tryd.prog 14 #[] w fun e w' => e = .returned (.bool true) ∧ Kept w w' none := by
  have HT := Hid.mk' hT
  have HTb := Hid.mk' hTb
  have HE : Hid (netE NN = 0) := netE_yes nn_may
  obtain ⟨M, hM⟩ : ∃ M, nwriteL NN = M := ⟨_, rfl⟩
  have HM := Hid.mk' hM
  have HML : Hid (∀ x ∈ M, x < 256) := by show ∀ x ∈ M, x < 256; rw [← hM]; exact nwriteL_lt NN
  clear hT hTb hM
  have hi : ∀ x : Int, -1000 ≤ x → x ≤ 1000 → i64B x := fun x h1 h2 => by unfold i64B; omega
  have HI := Hid.mk' hi
  clear hi
  go_enter Tryd.func14, Tryd.ntmps14
  go_wp2_with (first
    | (have hgo := M2; clear hgo; go_at_call 12; refine (nread_any (M2.out.come HML.out) (HT.out.kept K2.out) (HTb.out.kept K2.out)).mono ?_; rintro e w3 hc; obtain ⟨hk3, Y3, rfl, hs3⟩ := nreadP_write HM.out hc RK.out nn_may)
    | (have hgo := SA; clear hgo; go_at_call 23; have hn := nwrite_any SA.out npos_may (HT.out.kept K1.out) (HTb.out.kept K1.out); rw [HE.out, HM.out] at hn; refine hn.mono ?_; rintro e w2 ⟨a2, c2, rfl, hm2, hk2⟩; have K2 := Hid.mk' (K1.out.tr hk2); have RK := Hid.mk' (nrok_may SA.out nn_may); have M2 := Hid.mk' hm2; clear hm2 hk2)
    | (go_at_call 8; refine ntwo_any.mono ?_; rintro e w1 ⟨rfl, htw, hcl, hfz, hk1⟩; have SA := Hid.mk' (net_two (x := 1) (lo := 8) (hi := 20) (st := 4) htw (ints_one hcl (HI.out _ (by omega) (by omega))) (HI.out _ (by omega) (by omega)) (HI.out _ (by omega) (by omega)) ⟨HI.out _ (by omega) (by omega), HI.out _ (by omega) (by omega)⟩ ⟨HI.out _ (by omega) (by omega), HI.out _ (by omega) (by omega), HI.out _ (by omega) (by omega)⟩); have K1 := Hid.mk' hk1; clear htw hcl hfz hk1))
  go_ret
  exact ⟨rfl, (K2.out.tr hk3).tr (Kept.alloc _ _ _ (0, 0) _)⟩

end Go.Proofs.YtoahbpdgbiachaaDoor

/-
  THE DOCUMENT'S OWN ANSWER, part one: numbers between others; what is apart and between; which sites are great.
-/
namespace Go.Proofs.YtoahbpdgbiachaaDoor
open Go.RowKit Go.Lib Go.Deep
set_option linter.unusedVariables false
set_option linter.unusedSimpArgs false

theorem rin_any (n lo hi : Int) (w : World) : Calls Tryd.prog 64 #[.int .i64 n, .int .i64 lo, .int .i64 hi] w fun e w' => e = .returned (.bool (inB n lo hi)) ∧ w' = w := by
  go_enter Tryd.func64, Tryd.ntmps64
  go_wp2
  all_goals
    go_ret
    refine ⟨?_, rfl⟩
    simp [inB, *] <;> (first | omega | (intros; omega))
theorem rin_is {n lo hi : Int} {b : Bool} {w : World} (h : inB n lo hi = b) : Calls Tryd.prog 64 #[.int .i64 n, .int .i64 lo, .int .i64 hi] w fun e w' => e = .returned (.bool b) ∧ w' = w := by
  rw [← h]; exact rin_any n lo hi w
set_option maxRecDepth 100000 in
set_option maxHeartbeats 1000000 in
theorem rapart_yes {X : Sa} {S : St} {w : World} (h : Sat w X S) (a b : Nat) (ha : a < S.apart.length) (hb : b < 32) : Calls Tryd.prog 92 #[siteV X S, .int .i64 a, .int .i64 b] w fun e w' => e = .returned (.bool ((S.ap a).testBit b)) ∧ Kept w w' none := by
  have hkA : Kept w (w.alloc (.cells #[.int .i64 S.id, .slice X.g S.groups.length X.gc, .slice X.a S.apart.length X.ac, .slice X.b S.between.length X.bc, .slice X.p S.phases.length X.pc, .slice X.e S.eyes.length X.ec, .int .i64 S.watch, .int .i64 S.feed, .int .i64 S.heal, .int .i64 S.low, .int .i64 S.high, .slice X.l S.plans.length X.lc] 48)) none := Kept.alloc _ _ _ _ _
  have HK := Hid.mk' hkA
  obtain ⟨xg, xgc, xa, xac, xb, xbc, xp, xpc, xe, xec, xl, xlc⟩ := X
  obtain ⟨ba, oa, ea, hca⟩ := h.apAt (n := S.apart.length) (by omega) (by omega)
  dsimp only at ea
  subst ea
  have ka := hca a ha
  have hba := block_lt ka
  have har := h.apr a
  have hak := h.ak.max
  have hal := h.ak.room
  have HB := Hid.mk' (has_in (S := S.ap a) hb)
  clear h hkA hca
  go_enter Tryd.func92, Tryd.ntmps92
  go_wp2_with (go_at_call 93; refine (rhas_any _ _ _ har).mono ?_; rintro e w3 ⟨rfl, rfl⟩; rw [HB.out])
  go_ret
  exact ⟨rfl, HK.out⟩
/-- No list of it is long. -/
structure Few (S : St) : Prop where
  g : S.groups.length ≤ 40
  a : S.apart.length ≤ 40
  b : S.between.length ≤ 40
  p : S.phases.length ≤ 40
  e : S.eyes.length ≤ 60
  l : S.plans.length ≤ 40
  br : ∀ i, i < S.between.length → (S.between.getD i []).length ≤ 40
  lr : ∀ i, i < S.plans.length → (S.plans.getD i q0).splits.length ≤ 40
def GreatP (S : St) (w : World) (e : Ending) (w' : World) : Prop := ∃ g, e = .returned (.bool g) ∧ (g = false → Few S) ∧ Kept w w' none
theorem GreatP.of {S : St} {w w' : World} (g : Bool) (h : g = false → Few S) (k : Kept w w' none) : GreatP S w (.returned (.bool g)) w' := ⟨g, rfl, h, k⟩
set_option maxRecDepth 100000 in
set_option maxHeartbeats 2000000 in
theorem rgreat_any {X : Sa} {S : St} {w : World} (h : Sat w X S) : Calls Tryd.prog 35 #[siteV X S] w fun e w' => GreatP S w e w' := by
  have hkA : Kept w (w.alloc (.cells #[.int .i64 S.id, .slice X.g S.groups.length X.gc, .slice X.a S.apart.length X.ac, .slice X.b S.between.length X.bc, .slice X.p S.phases.length X.pc, .slice X.e S.eyes.length X.ec, .int .i64 S.watch, .int .i64 S.feed, .int .i64 S.heal, .int .i64 S.low, .int .i64 S.high, .slice X.l S.plans.length X.lc] 48)) none := Kept.alloc _ _ _ _ _
  have HSB := Hid.mk' (sbox_alloc h 48)
  have HK := Hid.mk' hkA
  have hg9 : S.groups.length ≤ 9223372036854775807 := by have := h.gk.room; have := h.gk.max; omega
  have ha9 : S.apart.length ≤ 9223372036854775807 := by have := h.ak.room; have := h.ak.max; omega
  have hb9 : S.between.length ≤ 9223372036854775807 := by have := h.b.cap.room; have := h.b.cap.max; omega
  have hp9 : S.phases.length ≤ 9223372036854775807 := by have := h.pk.room; have := h.pk.max; omega
  have he9 : S.eyes.length ≤ 9223372036854775807 := by have := h.ek.room; have := h.ek.max; omega
  have hl9 : S.plans.length ≤ 9223372036854775807 := by have := h.l.cap.room; have := h.l.cap.max; omega
  clear h hkA
  go_enter Tryd.func35, Tryd.ntmps35
  by_cases h1 : 40 < S.groups.length
  case pos => go_wp2; go_ret; exact GreatP.of true (fun e => (nomatch e)) HK.out
  by_cases h2 : 40 < S.apart.length
  case pos => go_wp2; go_ret; exact GreatP.of true (fun e => (nomatch e)) HK.out
  by_cases h3 : 40 < S.between.length
  case pos => go_wp2; go_ret; exact GreatP.of true (fun e => (nomatch e)) HK.out
  by_cases h4 : 40 < S.phases.length
  case pos => go_wp2; go_ret; exact GreatP.of true (fun e => (nomatch e)) HK.out
  by_cases h5 : 60 < S.eyes.length
  case pos => go_wp2; go_ret; exact GreatP.of true (fun e => (nomatch e)) HK.out
  by_cases h6 : 40 < S.plans.length
  case pos => go_wp2; go_ret; exact GreatP.of true (fun e => (nomatch e)) HK.out
  go_wp2
  generalize hW : (w.alloc (.cells #[.int .i64 S.id, .slice X.g S.groups.length X.gc, .slice X.a S.apart.length X.ac, .slice X.b S.between.length X.bc, .slice X.p S.phases.length X.pc, .slice X.e S.eyes.length X.ec, .int .i64 S.watch, .int .i64 S.feed, .int .i64 S.heal, .int .i64 S.low, .int .i64 S.high, .slice X.l S.plans.length X.lc] 48)) = W at *
  clear hW
  go_loopw [3] (fun i wr => ∃ k : Nat, k ≤ S.between.length ∧ i = .int .i64 k ∧ Hid (∀ j, j < k → (S.between.getD j []).length ≤ 40) ∧ wr = W) (fun i _ => S.between.length - (intOf i).toNat)
  case atStart => exact ⟨0, Nat.zero_le _, rfl, (fun j hj => by omega), rfl⟩
  case round =>
    obtain ⟨k, hk, rfl, HJ, rfl⟩ := hrel
    by_cases hlt : k < S.between.length
    · have c3 := HSB.out.c3
      obtain ⟨ba, oa, ar, cr, ea, kb, hI⟩ := HSB.out.sat.b.at_ hlt
      have hI1 := hI.cap.room
      have hI2 := hI.cap.max
      clear hI
      rw [ea] at c3
      generalize hm : (S.between.getD k []).length = m at *
      have HM := Hid.mk' hm
      clear hm
      by_cases hx : 40 < m
      case pos => go_wp2; go_ret; exact GreatP.of true (fun e => (nomatch e)) HK.out
      go_wp2
      go_roundw
      case rel => exact ⟨k + 1, by omega, by go_num, (fun j hj => (by
        by_cases e : j = k
        · subst e; rw [HM.out]; omega
        · exact HJ.out j (by omega))), trivial⟩
      case measure => simp [intOf]; omega
    · have e : k = S.between.length := by omega
      subst e
      have c3 := HSB.out.c3
      go_wp2
      go_loopw [4] (fun i wx => ∃ k : Nat, k ≤ S.plans.length ∧ i = .int .i64 k ∧ Hid (∀ j, j < k → (S.plans.getD j q0).splits.length ≤ 40) ∧ wx = wr) (fun i _ => S.plans.length - (intOf i).toNat)
      case atStart => exact ⟨0, Nat.zero_le _, rfl, (fun j hj => by omega), rfl⟩
      case round =>
        obtain ⟨k, hk, rfl, HL, rfl⟩ := hrel
        clear c3
        have c11 := HSB.out.c11
        by_cases hlt : k < S.plans.length
        · obtain ⟨pb, off, a', c', ea, p0, p1, p2, hI⟩ := HSB.out.sat.l.at_ hlt
          have hI1 := hI.cap.room
          have hI2 := hI.cap.max
          clear hI p0 p1
          rw [ea] at c11
          generalize hm : (S.plans.getD k q0).splits.length = m at *
          have HM := Hid.mk' hm
          clear hm
          by_cases hx : 40 < m
          case pos => go_wp2; go_ret; exact GreatP.of true (fun e => (nomatch e)) HK.out
          go_wp2
          go_roundw
          case rel => exact ⟨k + 1, by omega, by go_num, (fun j hj => (by
            by_cases e : j = k
            · subst e; rw [HM.out]; omega
            · exact HL.out j (by omega))), trivial⟩
          case measure => simp [intOf]; omega
        · have e : k = S.plans.length := by omega
          subst e
          go_wp2
          go_ret
          exact GreatP.of false (fun _ => ⟨by omega, by omega, by omega, by omega, by omega, by omega, HJ.out, HL.out⟩) HK.out

end Go.Proofs.YtoahbpdgbiachaaDoor

/-
  A REGION'S BOX; the document's own word for regions that are great.
-/
namespace Go.Proofs.YtoahbpdgbiachaaDoor
open Go.RowKit Go.Lib Go.Deep
set_option linter.unusedVariables false
set_option linter.unusedSimpArgs false

/-- A region as a variable: its six cells. -/
structure Nbx (w : World) (f : Nat) (Y : Na) (N : Nt) : Prop where
  c0 : w.cell? ⟨f, 0, none⟩ = some (.slice Y.s N.sites.length Y.sc)
  c1 : w.cell? ⟨f, 1, none⟩ = some (.slice Y.u N.subs.length Y.uc)
  c2 : w.cell? ⟨f, 2, none⟩ = some (.slice Y.d N.weds.length Y.dc)
  c3 : w.cell? ⟨f, 3, none⟩ = some (.int .i64 N.low)
  c4 : w.cell? ⟨f, 4, none⟩ = some (.int .i64 N.high)
  c5 : w.cell? ⟨f, 5, none⟩ = some (.int .i64 N.step)
  net : NetAt w Y N
theorem Nbx.kept {w w' : World} {f : Nat} {Y : Na} {N : Nt} (h : Nbx w f Y N) (q : Kept w w' none) : Nbx w' f Y N :=
  ⟨cell_kept0 h.c0 q, cell_kept0 h.c1 q, cell_kept0 h.c2 q, cell_kept0 h.c3 q, cell_kept0 h.c4 q, cell_kept0 h.c5 q, h.net.kept q⟩
theorem nbx_alloc {w : World} {Y : Na} {N : Nt} (h : NetAt w Y N) (t : TypeId) : Nbx (w.alloc (.cells #[.slice Y.s N.sites.length Y.sc, .slice Y.u N.subs.length Y.uc, .slice Y.d N.weds.length Y.dc, .int .i64 N.low, .int .i64 N.high, .int .i64 N.step] t)) w.heap.size Y N :=
  ⟨by simp [World.cell?_alloc_mark], by simp [World.cell?_alloc_mark], by simp [World.cell?_alloc_mark], by simp [World.cell?_alloc_mark], by simp [World.cell?_alloc_mark], by simp [World.cell?_alloc_mark], h.kept (Kept.alloc _ _ _ _ _)⟩
/-- No list of it is long. -/
structure NFew (N : Nt) : Prop where
  s : N.sites.length ≤ 20
  u : N.subs.length ≤ 30
  d : N.weds.length ≤ 30
  st : ∀ i, i < N.sites.length → Few (N.sites.getD i s0)
  ur : ∀ i, i < N.subs.length → (N.subs.getD i u0).sites.length ≤ 60
  dr : ∀ i, i < N.weds.length → (N.weds.getD i d0).offsets.length ≤ 60
def NGreatP (N : Nt) (w : World) (e : Ending) (w' : World) : Prop := ∃ g, e = .returned (.bool g) ∧ (g = false → NFew N) ∧ Kept w w' none
theorem NGreatP.of {N : Nt} {w w' : World} (g : Bool) (h : g = false → NFew N) (k : Kept w w' none) : NGreatP N w (.returned (.bool g)) w' := ⟨g, rfl, h, k⟩
theorem NGreatP.yes {N : Nt} {w w' : World} (k : Kept w w' none) : NGreatP N w (.returned (.bool true)) w' := ⟨true, rfl, fun h => (nomatch h), k⟩
set_option maxRecDepth 100000 in
set_option maxHeartbeats 4000000 in
theorem ngreat_any {Y : Na} {N : Nt} {w : World} (h : NetAt w Y N) : Calls Tryd.prog 15 #[netV Y N] w fun e w' => NGreatP N w e w' := by
  have hkA : Kept w (w.alloc (.cells #[.slice Y.s N.sites.length Y.sc, .slice Y.u N.subs.length Y.uc, .slice Y.d N.weds.length Y.dc, .int .i64 N.low, .int .i64 N.high, .int .i64 N.step] 26)) none := Kept.alloc _ _ _ _ _
  have HNB := Hid.mk' (nbx_alloc h 26)
  have HK := Hid.mk' hkA
  have hs9 : N.sites.length ≤ 9223372036854775807 := by have := h.sk.room; have := h.sk.max; omega
  have hu9 : N.subs.length ≤ 9223372036854775807 := by have := h.uk.room; have := h.uk.max; omega
  have hd9 : N.weds.length ≤ 9223372036854775807 := by have := h.dk.room; have := h.dk.max; omega
  clear h hkA
  go_enter Tryd.func15, Tryd.ntmps15
  by_cases h1 : 20 < N.sites.length
  case pos => go_wp2; go_ret; exact NGreatP.yes HK.out
  by_cases h2 : 30 < N.subs.length
  case pos => go_wp2; go_ret; exact NGreatP.yes HK.out
  by_cases h3 : 30 < N.weds.length
  case pos => go_wp2; go_ret; exact NGreatP.yes HK.out
  go_wp2
  generalize hW : (w.alloc (.cells #[.slice Y.s N.sites.length Y.sc, .slice Y.u N.subs.length Y.uc, .slice Y.d N.weds.length Y.dc, .int .i64 N.low, .int .i64 N.high, .int .i64 N.step] 26)) = W at *
  clear hW
  go_loopw [3] (fun i wr => ∃ k : Nat, k ≤ N.sites.length ∧ i = .int .i64 k ∧ Hid (∀ j, j < k → Few (N.sites.getD j s0)) ∧ Kept W wr none) (fun i _ => N.sites.length - (intOf i).toNat)
  case atStart => exact ⟨0, Nat.zero_le _, rfl, (fun j hj => by omega), Kept.refl _ _⟩
  case round =>
    obtain ⟨k, hk, rfl, HJ, hkr⟩ := hrel
    have c0 := (HNB.out.kept hkr).c0
    by_cases hlt : k < N.sites.length
    · obtain ⟨sb, so, es, _, hc⟩ := (HNB.out.kept hkr).net.s1.at_ (by omega)
      rw [es] at c0
      have e0 := hc k hlt 0 (by omega)
      have e1 := hc k hlt 1 (by omega)
      have e2 := hc k hlt 2 (by omega)
      have e3 := hc k hlt 3 (by omega)
      have e4 := hc k hlt 4 (by omega)
      have e5 := hc k hlt 5 (by omega)
      have e6 := hc k hlt 6 (by omega)
      have e7 := hc k hlt 7 (by omega)
      have e8 := hc k hlt 8 (by omega)
      have e9 := hc k hlt 9 (by omega)
      have e10 := hc k hlt 10 (by omega)
      have e11 := hc k hlt 11 (by omega)
      have HSAT := Hid.mk' ((HNB.out.kept hkr).net.s2 k hlt)
      obtain ⟨S, hS⟩ : ∃ S, N.sites.getD k s0 = S := ⟨_, rfl⟩
      rw [hS] at e0 e1 e2 e3 e4 e5 e6 e7 e8 e9 e10 e11 HSAT
      have HSE := Hid.mk' hS
      clear hS hc es
      generalize Y.X k = Xk at *
      obtain ⟨xg, xgc, xa, xac, xb, xbc, xp, xpc, xe, xec, xl, xlc⟩ := Xk
      dsimp only [stV, Nat.add_zero] at e0 e1 e2 e3 e4 e5 e6 e7 e8 e9 e10 e11
      go_wp2_with (go_at_call 35; refine (rgreat_any HSAT.out).mono ?_; rintro e w3 ⟨g, rfl, hg, hk3⟩; clear c0 e0 e1 e2 e3 e4 e5 e6 e7 e8 e9 e10 e11; have HG := Hid.mk' hg; clear hg; cases g)
      · go_roundw
        case rel => exact ⟨k + 1, by omega, by go_num, (fun j hj => (by
          by_cases e : j = k
          · rw [e, HSE.out]; first | exact HG.out rfl | exact HG.out trivial
          · exact HJ.out j (by omega))), hkr.tr hk3⟩
        case measure => simp [intOf]; omega
      · go_ret
        exact NGreatP.yes (HK.out.tr (hkr.tr hk3))
    · have e : k = N.sites.length := by omega
      subst e
      go_wp2
      go_loopw [4] (fun i wx => ∃ k : Nat, k ≤ N.subs.length ∧ i = .int .i64 k ∧ Hid (∀ j, j < k → (N.subs.getD j u0).sites.length ≤ 60) ∧ wx = wr) (fun i _ => N.subs.length - (intOf i).toNat)
      case atStart => exact ⟨0, Nat.zero_le _, rfl, (fun j hj => by omega), rfl⟩
      case round =>
        obtain ⟨k, hk, rfl, HL, rfl⟩ := hrel
        clear c0
        have c1 := (HNB.out.kept hkr).c1
        by_cases hlt : k < N.subs.length
        · obtain ⟨sb, so, es, _, hc⟩ := (HNB.out.kept hkr).net.u1.at_ (by omega)
          rw [es] at c1
          have e0 := hc k hlt 0 (by omega)
          have hI := (HNB.out.kept hkr).net.u2 k hlt
          have hI1 := hI.cap.room
          have hI2 := hI.cap.max
          clear hI hc es
          dsimp only [sbV, Nat.add_zero] at e0
          generalize hm : (N.subs.getD k u0).sites.length = m at *
          have HM := Hid.mk' hm
          clear hm
          by_cases hx : 60 < m
          case pos => go_wp2; go_ret; exact NGreatP.yes (HK.out.tr hkr)
          go_wp2
          go_roundw
          case rel => exact ⟨k + 1, by omega, by go_num, (fun j hj => (by
            by_cases e : j = k
            · subst e; rw [HM.out]; omega
            · exact HL.out j (by omega))), trivial⟩
          case measure => simp [intOf]; omega
        · have e : k = N.subs.length := by omega
          subst e
          go_wp2
          go_loopw [5] (fun i wy => ∃ k : Nat, k ≤ N.weds.length ∧ i = .int .i64 k ∧ Hid (∀ j, j < k → (N.weds.getD j d0).offsets.length ≤ 60) ∧ wy = wr) (fun i _ => N.weds.length - (intOf i).toNat)
          case atStart => exact ⟨0, Nat.zero_le _, rfl, (fun j hj => by omega), rfl⟩
          case round =>
            obtain ⟨k, hk, rfl, HD, rfl⟩ := hrel
            clear c1
            have c2 := (HNB.out.kept hkr).c2
            by_cases hlt : k < N.weds.length
            · obtain ⟨sb, so, es, _, hc⟩ := (HNB.out.kept hkr).net.d1.at_ (by omega)
              rw [es] at c2
              have e3 := hc k hlt 3 (by omega)
              have hI := (HNB.out.kept hkr).net.d2 k hlt
              have hI1 := hI.cap.room
              have hI2 := hI.cap.max
              clear hI hc es
              dsimp only [wdV, Nat.add_zero] at e3
              generalize hm : (N.weds.getD k d0).offsets.length = m at *
              have HM := Hid.mk' hm
              clear hm
              by_cases hx : 60 < m
              case pos => go_wp2; go_ret; exact NGreatP.yes (HK.out.tr hkr)
              go_wp2
              go_roundw
              case rel => exact ⟨k + 1, by omega, by go_num, (fun j hj => (by
                by_cases e : j = k
                · subst e; rw [HM.out]; omega
                · exact HD.out j (by omega))), trivial⟩
              case measure => simp [intOf]; omega
            · have e : k = N.weds.length := by omega
              subst e
              go_wp2
              go_ret
              exact NGreatP.of false (fun _ => ⟨by omega, by omega, by omega, HJ.out, HL.out, HD.out⟩) (HK.out.tr hkr)

end Go.Proofs.YtoahbpdgbiachaaDoor

/-
  WHAT CAME IN: a site, plans, a plan, bytes, as the walks want them.
-/
namespace Go.Proofs.YtoahbpdgbiachaaDoor
open Go.ChangeShapes Go.WideShapes Go.ChangeAt Go.RowKit Go.Lib Go.Deep
set_option linter.unusedVariables false
set_option linter.unusedSimpArgs false

theorem nat_u8 {z : Int} (h : (Lit.int .u8 z).wf = true) : ∃ n : Nat, z = (n : Int) ∧ n < 256 := by
  have := bounds_u8 h
  exact ⟨z.toNat, by omega, by omega⟩
theorem nat_u32 {z : Int} (h : (Lit.int .u32 z).wf = true) : ∃ n : Nat, z = (n : Int) ∧ n < 4294967296 := by
  have := bounds_u32 h
  exact ⟨z.toNat, by omega, by omega⟩
theorem i64_of {z : Int} (h : (Lit.int .i64 z).wf = true) : i64B z := by
  have := bounds_i64 h
  unfold i64B
  omega
theorem addr_plain {w : World} {a : Addr} {v : Value} (h : w.cell? a = some v) : ∃ b off, a = ⟨b, off, none⟩ := by
  obtain ⟨b, off, s⟩ := a
  cases s with
  | none => exact ⟨b, off, rfl⟩
  | some x =>
    simp [World.cell?] at h
    split at h <;> simp at h
theorem add_add (a : Addr) (i j : Nat) : (a.add i).add j = a.add (i + j) := by
  unfold Addr.add
  by_cases h3 : i = 0
  · simp [h3]
  · by_cases hj : j = 0
    · simp [hj, h3]
    · simp [h3, hj, Nat.add_assoc]
section
variable {H : Type} {enc : TypeId × Value → H}
abbrev Tr (enc : TypeId × Value → H) (W : World) (n : Nat) (t : TypeId) (cs : List Value) (x : DataW H × List MemPlace) : Prop := DataW.trod enc Tryd.prog W 0 (fun _ => true) true n t cs = some x
theorem flds {W : World} {fuel : Nat} {t : TypeId} {fs : Array Field} {cs : List Value} {x : DataW H × List MemPlace} (ht : Tryd.prog.underlying t = some (.struct fs)) (h : Tr enc W fuel t cs x) : ∃ n, cs.length = Tryd.prog.cellsOf t ∧ ∀ (i : Nat) (f : Field), fs[i]? = some f → ∃ y, Tr enc W n f.type ((cs.drop f.offset).take (Tryd.prog.cellsOf f.type)) y := by
  obtain ⟨xs, n, _, _, hl, hlen, hf⟩ := DataW.trod_struct ht h
  refine ⟨n, hl, fun i f hi => ?_⟩
  have hi' : i < fs.size := (Array.getElem?_eq_some_iff.1 hi).1
  exact ⟨xs[i]'(by omega), (hf i f hi).trans (List.getElem?_eq_getElem (by omega))⟩
/-- A list of elements of K cells. -/
theorem open_list {α : Type} (d : α) {W : World} {fuel : Nat} {t e : TypeId} {K : Nat} {c : Value} {x : DataW H × List MemPlace} (hK : 0 < K) (f : α → Nat → Value) (Ok : α → Prop) (ht : Tryd.prog.underlying t = some (.slice e)) (hc : Tryd.prog.cellsOf e = K)
    (hel : ∀ n cs x, Tr enc W n e cs x → ∃ y : α, (∀ j, j < K → cs[j]? = some (f y j)) ∧ Ok y) (h : Tr enc W fuel t [c] x) :
    ∃ (a : Option Addr) (cap : Nat) (l : List α), c = .slice a l.length cap ∧ Lie W a l.length K (fun i j => f (l.getD i d) j) ∧ Cap a l.length cap ∧ ∀ y ∈ l, Ok y := by
  rcases open_slice ht h with ⟨hcs, _⟩ | ⟨a', len', cap', m, n, D, Pl, hcs, _, hl, hm, hmm, _, hx⟩
  · simp at hcs
    subst hcs
    exact ⟨none, 0, [], rfl, ⟨fun h => absurd h (by simp)⟩, ⟨fun _ => ⟨rfl, rfl⟩, Nat.le_refl _, by omega⟩, by simp⟩
  · simp at hcs
    subst hcs
    rw [hc] at hx
    have hmm : m = cap' := by simpa using hmm
    subst hmm
    unfold maxLen at hm
    have each : ∀ i, ∃ y : α, i < len' → (∀ j, j < K → W.cell? (a'.add (i * K + j)) = some (f y j)) ∧ Ok y := by
      intro i
      by_cases hi : i < len'
      · obtain ⟨cs', h1, h2⟩ := hx i (by omega)
        obtain ⟨_, hlen, hcell⟩ := World.cells?_some h1
        obtain ⟨y, hy, ho⟩ := hel _ _ _ h2
        refine ⟨y, fun _ => ⟨fun j hj => ?_, ho⟩⟩
        have q := hcell j (by omega)
        rw [add_add] at q
        rw [q]
        exact hy j hj
      · exact ⟨d, fun h => absurd h hi⟩
    have hcc := fun i => Classical.choose_spec (each i)
    obtain ⟨F, hcc⟩ : ∃ F : Nat → α, ∀ i, i < len' → (∀ j, j < K → W.cell? (a'.add (i * K + j)) = some (f (F i) j)) ∧ Ok (F i) := ⟨fun i => Classical.choose (each i), hcc⟩
    refine ⟨some a', m, (List.range len').map F, by simp, ⟨fun hp => ?_⟩, ⟨fun e => (nomatch e), by simpa using hl, by omega⟩, fun y hy => ?_⟩
    · have hp' : 0 < len' := by simpa using hp
      have q0 := (hcc 0 hp').1 0 hK
      rw [show a'.add (0 * K + 0) = a' by simp [Addr.add]] at q0
      obtain ⟨b, off, rfl⟩ := addr_plain q0
      refine ⟨b, off, rfl, block_lt q0, fun i hi j hj => ?_⟩
      have hi' : i < len' := by simpa using hi
      have q := (hcc i hi').1 j hj
      rw [Addr.add_lit, ← Nat.add_assoc] at q
      rw [q]
      simp [hi']
    · simp only [List.mem_map, List.mem_range] at hy
      obtain ⟨i, hi, rfl⟩ := hy
      exact (hcc i hi).2
theorem open_int1 {W : World} {n : Nat} {t : TypeId} {k : IntKind} {cs : List Value} {x : DataW H × List MemPlace} (ht : Tryd.prog.underlying t = some (.int k)) (h : Tr enc W n t cs x) : ∃ z, cs = [.int k z] ∧ (Lit.int k z).wf = true := by
  obtain ⟨z, e, _, hw⟩ := DataW.trod_int ht h
  exact ⟨z, e, hw⟩
/-- Numbers. -/
theorem open_nums {W : World} {fuel : Nat} {c : Value} {x : DataW H × List MemPlace} (h : Tr enc W fuel 31 [c] x) : ∃ (a : Option Addr) (cap : Nat) (l : List Int), c = .slice a l.length cap ∧ Ints W a l.length cap l := by
  obtain ⟨a, cap, l, rfl, h1, h2, h3⟩ := open_list (0 : Int) (e := 3) (K := 1) (by omega) (fun z _ => .int .i64 z) (fun z => i64B z) Tryd.underlying31 (by kernel_rfl) (fun n cs x h => by
    obtain ⟨z, rfl, hw⟩ := open_int1 Tryd.underlying3 h
    exact ⟨z, fun j hj => by rw [show j = 0 by omega]; rfl, i64_of hw⟩) h
  exact ⟨a, cap, l, rfl, h1, rfl, h2, h3⟩
set_option maxRecDepth 100000 in
theorem open_plan1 {W : World} {n : Nat} {cs : List Value} {x : DataW H × List MemPlace} (h : Tr enc W n 113 cs x) : ∃ y : Pl × Option Addr × Nat, (∀ j, j < 3 → cs[j]? = some (plV y.1 y.2.1 y.2.2 j)) ∧ Ints W y.2.1 y.1.splits.length y.2.2 y.1.splits ∧ i64B y.1.cycle ∧ i64B y.1.offset := by
  obtain ⟨n, hl, hf⟩ := flds Tryd.underlying113 h
  have hC : Tryd.prog.cellsOf 113 = 3 := by kernel_rfl
  have kI : Tryd.prog.cellsOf 3 = 1 := by kernel_rfl
  have kL : Tryd.prog.cellsOf 31 = 1 := by kernel_rfl
  rw [hC] at hl
  match cs, hl with
  | [c0, c1, c2], _ =>
    obtain ⟨y0, h0⟩ := hf 0 _ rfl
    obtain ⟨y1, h1⟩ := hf 1 _ rfl
    obtain ⟨y2, h2⟩ := hf 2 _ rfl
    simp [kI] at h0 h1
    simp [kL] at h2
    obtain ⟨z0, e0, w0⟩ := open_int1 Tryd.underlying3 h0
    obtain ⟨z1, e1, w1⟩ := open_int1 Tryd.underlying3 h1
    obtain ⟨a, cap, l, rfl, hI⟩ := open_nums h2
    simp at e0 e1
    subst e0 e1
    refine ⟨(⟨z0, z1, l⟩, a, cap), fun j hj => ?_, hI, i64_of w0, i64_of w1⟩
    match j, hj with
    | 0, _ => rfl
    | 1, _ => rfl
    | 2, _ => rfl
theorem open_plansC {W : World} {fuel : Nat} {c : Value} {x : DataW H × List MemPlace} (h : Tr enc W fuel 46 [c] x) : ∃ (a : Option Addr) (cap : Nat) (l : List Pl), c = .slice a l.length cap ∧ Plans W a l.length cap l := by
  obtain ⟨a, cap, l, rfl, h1, h2, h3⟩ := open_list ((q0, none, 0) : Pl × Option Addr × Nat) (e := 113) (K := 3) (by omega) (fun y j => plV y.1 y.2.1 y.2.2 j) (fun y => Ints W y.2.1 y.1.splits.length y.2.2 y.1.splits ∧ i64B y.1.cycle ∧ i64B y.1.offset) Tryd.underlying46 (by kernel_rfl) (fun n cs x h => open_plan1 h) h
  refine ⟨a, cap, l.map Prod.fst, by simp, ⟨⟨fun i => (l.getD i (q0, none, 0)).2, ?_, ?_⟩, by simp, by simpa using h2, ?_⟩⟩
  · rw [List.length_map]
    refine h1.congr (fun i hi j hj => ?_)
    simp [hi]
  · intro i hi
    rw [List.length_map] at hi
    have := (h3 (l[i]) (List.getElem_mem _)).1
    simpa [hi] using this
  · intro p hp
    simp only [List.mem_map] at hp
    obtain ⟨y, hy, rfl⟩ := hp
    exact (h3 y hy).2
theorem open_grid {W : World} {fuel : Nat} {c : Value} {x : DataW H × List MemPlace} (h : Tr enc W fuel 43 [c] x) : ∃ (a : Option Addr) (cap : Nat) (l : List (List Int)), c = .slice a l.length cap ∧ Grid W a l.length cap l := by
  obtain ⟨a, cap, l, rfl, h1, h2, h3⟩ := open_list (([], none, 0) : List Int × Option Addr × Nat) (e := 31) (K := 1) (by omega) (fun y _ => .slice y.2.1 y.1.length y.2.2) (fun y => Ints W y.2.1 y.1.length y.2.2 y.1) Tryd.underlying43 (by kernel_rfl) (fun n cs x h => by
    obtain ⟨a, len, cap', e⟩ : ∃ a len cap', cs = [.slice a len cap'] := by
      rcases open_slice Tryd.underlying31 h with ⟨hcs, _⟩ | ⟨a', len', cap', m, n, D, Pl, hcs, _⟩
      · exact ⟨_, _, _, hcs⟩
      · exact ⟨_, _, _, hcs⟩
    subst e
    obtain ⟨a2, c2, l2, e2, hI⟩ := open_nums h
    rw [e2]
    exact ⟨(l2, a2, c2), fun j hj => by rw [show j = 0 by omega]; rfl, hI⟩) h
  refine ⟨a, cap, l.map Prod.fst, by simp, ⟨⟨fun i => (l.getD i ([], none, 0)).2, ?_, ?_⟩, by simp, by simpa using h2⟩⟩
  · rw [List.length_map]
    refine h1.congr (fun i hi j hj => ?_)
    simp [hi]
  · intro i hi
    rw [List.length_map] at hi
    have := h3 (l[i]) (List.getElem_mem _)
    simpa [hi] using this
set_option maxRecDepth 100000 in
theorem open_groups {W : World} {fuel : Nat} {c : Value} {x : DataW H × List MemPlace} (h : Tr enc W fuel 41 [c] x) : ∃ (a : Option Addr) (cap : Nat) (l : List Gr), c = .slice a l.length cap ∧ Lie W a l.length 3 (fun i j => grV (l.getD i g0) j) ∧ Cap a l.length cap ∧ ∀ g ∈ l, g.kind < 256 ∧ i64B g.min ∧ i64B g.yellow :=
  open_list g0 (e := 64) (K := 3) (by omega) grV (fun g => g.kind < 256 ∧ i64B g.min ∧ i64B g.yellow) Tryd.underlying41 (by kernel_rfl) (fun n cs x h => by
    obtain ⟨n, hl, hf⟩ := flds Tryd.underlying64 h
    have hC : Tryd.prog.cellsOf 64 = 3 := by kernel_rfl
    have kI : Tryd.prog.cellsOf 3 = 1 := by kernel_rfl
    have k8 : Tryd.prog.cellsOf 5 = 1 := by kernel_rfl
    rw [hC] at hl
    match cs, hl with
    | [c0, c1, c2], _ =>
      obtain ⟨y0, h0⟩ := hf 0 _ rfl
      obtain ⟨y1, h1⟩ := hf 1 _ rfl
      obtain ⟨y2, h2⟩ := hf 2 _ rfl
      simp [k8] at h0
      simp [kI] at h1 h2
      obtain ⟨z0, e0, w0⟩ := open_int1 Tryd.underlying5 h0
      obtain ⟨z1, e1, w1⟩ := open_int1 Tryd.underlying3 h1
      obtain ⟨z2, e2, w2⟩ := open_int1 Tryd.underlying3 h2
      obtain ⟨n0, rfl, b0⟩ := nat_u8 w0
      simp at e0 e1 e2
      subst e0 e1 e2
      refine ⟨⟨n0, z1, z2⟩, fun j hj => ?_, b0, i64_of w1, i64_of w2⟩
      match j, hj with
      | 0, _ => rfl
      | 1, _ => rfl
      | 2, _ => rfl) h
theorem open_apart {W : World} {fuel : Nat} {c : Value} {x : DataW H × List MemPlace} (h : Tr enc W fuel 42 [c] x) : ∃ (a : Option Addr) (cap : Nat) (l : List Nat), c = .slice a l.length cap ∧ Lie W a l.length 1 (fun i _ => .int .u32 ((l.getD i 0 : Nat) : Int)) ∧ Cap a l.length cap ∧ ∀ x ∈ l, x < 4294967296 :=
  open_list (0 : Nat) (e := 65) (K := 1) (by omega) (fun y _ => .int .u32 (y : Int)) (fun y => y < 4294967296) Tryd.underlying42 (by kernel_rfl) (fun n cs x h => by
    obtain ⟨z, rfl, hw⟩ := open_int1 Tryd.underlying65 h
    obtain ⟨n0, rfl, b0⟩ := nat_u32 hw
    exact ⟨n0, fun j hj => by rw [show j = 0 by omega]; rfl, b0⟩) h
set_option maxRecDepth 100000 in
theorem open_phases {W : World} {fuel : Nat} {c : Value} {x : DataW H × List MemPlace} (h : Tr enc W fuel 44 [c] x) : ∃ (a : Option Addr) (cap : Nat) (l : List Ph), c = .slice a l.length cap ∧ Lie W a l.length 5 (fun i j => phV (l.getD i p0) j) ∧ Cap a l.length cap ∧ ∀ p ∈ l, p.groups < 4294967296 ∧ i64B p.min ∧ i64B p.max ∧ i64B p.gap :=
  open_list p0 (e := 67) (K := 5) (by omega) phV (fun p => p.groups < 4294967296 ∧ i64B p.min ∧ i64B p.max ∧ i64B p.gap) Tryd.underlying44 (by kernel_rfl) (fun n cs x h => by
    obtain ⟨n, hl, hf⟩ := flds Tryd.underlying67 h
    have hC : Tryd.prog.cellsOf 67 = 5 := by kernel_rfl
    have kI : Tryd.prog.cellsOf 3 = 1 := by kernel_rfl
    have k3 : Tryd.prog.cellsOf 65 = 1 := by kernel_rfl
    have kb : Tryd.prog.cellsOf 4 = 1 := by kernel_rfl
    rw [hC] at hl
    match cs, hl with
    | [c0, c1, c2, c3, c4], _ =>
      obtain ⟨y0, h0⟩ := hf 0 _ rfl
      obtain ⟨y1, h1⟩ := hf 1 _ rfl
      obtain ⟨y2, h2⟩ := hf 2 _ rfl
      obtain ⟨y3, h3⟩ := hf 3 _ rfl
      obtain ⟨y4, h4⟩ := hf 4 _ rfl
      simp [k3] at h0
      simp [kI] at h1 h2 h3
      simp [kb] at h4
      obtain ⟨z0, e0, w0⟩ := open_int1 Tryd.underlying65 h0
      obtain ⟨z1, e1, w1⟩ := open_int1 Tryd.underlying3 h1
      obtain ⟨z2, e2, w2⟩ := open_int1 Tryd.underlying3 h2
      obtain ⟨z3, e3, w3⟩ := open_int1 Tryd.underlying3 h3
      obtain ⟨b4, e4, _⟩ := DataW.trod_bool Tryd.underlying4 h4
      obtain ⟨n0, rfl, b0⟩ := nat_u32 w0
      simp at e0 e1 e2 e3 e4
      subst e0 e1 e2 e3 e4
      refine ⟨⟨n0, z1, z2, z3, b4⟩, fun j hj => ?_, b0, i64_of w1, i64_of w2, i64_of w3⟩
      match j, hj with
      | 0, _ => rfl
      | 1, _ => rfl
      | 2, _ => rfl
      | 3, _ => rfl
      | 4, _ => rfl) h
set_option maxRecDepth 100000 in
theorem open_eyes {W : World} {fuel : Nat} {c : Value} {x : DataW H × List MemPlace} (h : Tr enc W fuel 45 [c] x) : ∃ (a : Option Addr) (cap : Nat) (l : List Ey), c = .slice a l.length cap ∧ Lie W a l.length 4 (fun i j => eyV (l.getD i e0) j) ∧ Cap a l.length cap ∧ ∀ e ∈ l, i64B e.phase ∧ i64B e.on ∧ i64B e.off ∧ i64B e.turns :=
  open_list e0 (e := 116) (K := 4) (by omega) eyV (fun e => i64B e.phase ∧ i64B e.on ∧ i64B e.off ∧ i64B e.turns) Tryd.underlying45 (by kernel_rfl) (fun n cs x h => by
    obtain ⟨n, hl, hf⟩ := flds Tryd.underlying116 h
    have hC : Tryd.prog.cellsOf 116 = 4 := by kernel_rfl
    have kI : Tryd.prog.cellsOf 3 = 1 := by kernel_rfl
    rw [hC] at hl
    match cs, hl with
    | [c0, c1, c2, c3], _ =>
      obtain ⟨y0, h0⟩ := hf 0 _ rfl
      obtain ⟨y1, h1⟩ := hf 1 _ rfl
      obtain ⟨y2, h2⟩ := hf 2 _ rfl
      obtain ⟨y3, h3⟩ := hf 3 _ rfl
      simp [kI] at h0 h1 h2 h3
      obtain ⟨z0, q0, w0⟩ := open_int1 Tryd.underlying3 h0
      obtain ⟨z1, q1, w1⟩ := open_int1 Tryd.underlying3 h1
      obtain ⟨z2, q2, w2⟩ := open_int1 Tryd.underlying3 h2
      obtain ⟨z3, q3, w3⟩ := open_int1 Tryd.underlying3 h3
      simp at q0 q1 q2 q3
      subst q0 q1 q2 q3
      refine ⟨⟨z0, z1, z2, z3⟩, fun j hj => ?_, i64_of w0, i64_of w1, i64_of w2, i64_of w3⟩
      match j, hj with
      | 0, _ => rfl
      | 1, _ => rfl
      | 2, _ => rfl
      | 3, _ => rfl) h
set_option maxRecDepth 100000 in
theorem open_site {W : World} {base : Nat} {v : Value} {d : DataW H} {p : List MemPlace} (hv : Value.okWide Tryd.prog W .any base 48 v) (h : DataW.Trod enc Tryd.prog W 0 (fun _ => true) true 48 v d p) : ∃ (X : Sa) (S : St), v = siteV X S ∧ Sat W X S := by
  obtain ⟨cs, rfl, hsz⟩ := okWide_struct Tryd.underlying48 hv
  have hC : Tryd.prog.cellsOf 48 = 12 := by kernel_rfl
  rw [hC] at hsz
  obtain ⟨l⟩ := cs
  have kI : Tryd.prog.cellsOf 3 = 1 := by kernel_rfl
  have k1 : Tryd.prog.cellsOf 41 = 1 := by kernel_rfl
  have k2 : Tryd.prog.cellsOf 42 = 1 := by kernel_rfl
  have k3 : Tryd.prog.cellsOf 43 = 1 := by kernel_rfl
  have k4 : Tryd.prog.cellsOf 44 = 1 := by kernel_rfl
  have k5 : Tryd.prog.cellsOf 45 = 1 := by kernel_rfl
  have k6 : Tryd.prog.cellsOf 46 = 1 := by kernel_rfl
  match l, hsz with
  | [c0, c1, c2, c3, c4, c5, c6, c7, c8, c9, c10, c11], _ =>
    obtain ⟨fuel, hf0⟩ := h
    simp [Value.cells] at hf0
    obtain ⟨n, hl, hf⟩ := flds Tryd.underlying48 hf0
    obtain ⟨y0, h0⟩ := hf 0 _ rfl
    obtain ⟨y1, h1⟩ := hf 1 _ rfl
    obtain ⟨y2, h2⟩ := hf 2 _ rfl
    obtain ⟨y3, h3⟩ := hf 3 _ rfl
    obtain ⟨y4, h4⟩ := hf 4 _ rfl
    obtain ⟨y5, h5⟩ := hf 5 _ rfl
    obtain ⟨y6, h6⟩ := hf 6 _ rfl
    obtain ⟨y7, h7⟩ := hf 7 _ rfl
    obtain ⟨y8, h8⟩ := hf 8 _ rfl
    obtain ⟨y9, h9⟩ := hf 9 _ rfl
    obtain ⟨y10, h10⟩ := hf 10 _ rfl
    obtain ⟨y11, h11⟩ := hf 11 _ rfl
    simp [kI] at h0 h6 h7 h8 h9 h10
    simp [k1] at h1
    simp [k2] at h2
    simp [k3] at h3
    simp [k4] at h4
    simp [k5] at h5
    simp [k6] at h11
    obtain ⟨z0, q0, w0⟩ := open_int1 Tryd.underlying3 h0
    obtain ⟨z6, q6, w6⟩ := open_int1 Tryd.underlying3 h6
    obtain ⟨z7, q7, w7⟩ := open_int1 Tryd.underlying3 h7
    obtain ⟨z8, q8, w8⟩ := open_int1 Tryd.underlying3 h8
    obtain ⟨z9, q9, w9⟩ := open_int1 Tryd.underlying3 h9
    obtain ⟨z10, q10, w10⟩ := open_int1 Tryd.underlying3 h10
    simp at q0 q6 q7 q8 q9 q10
    subst q0 q6 q7 q8 q9 q10
    obtain ⟨a1, u1, l1, rfl, i1, j1, r1⟩ := open_groups h1
    obtain ⟨a2, u2, l2, rfl, i2, j2, r2⟩ := open_apart h2
    obtain ⟨a3, u3, l3, rfl, i3⟩ := open_grid h3
    obtain ⟨a4, u4, l4, rfl, i4, j4, r4⟩ := open_phases h4
    obtain ⟨a5, u5, l5, rfl, i5, j5, r5⟩ := open_eyes h5
    obtain ⟨a6, u6, l6, rfl, i6⟩ := open_plansC h11
    exact ⟨⟨a1, u1, a2, u2, a3, u3, a4, u4, a5, u5, a6, u6⟩, ⟨z0, l1, l2, l3, l4, l5, z6, z7, z8, z9, z10, l6⟩, rfl, i1, i2, i3, i4, i5, i6, j1, j2, j4, j5, r1, r2, r4, r5, i64_of w0, i64_of w6, i64_of w7, i64_of w8, i64_of w9, i64_of w10⟩
theorem open_plans {W : World} {a : Option Addr} {len cap : Nat} {d : DataW H} {p : List MemPlace} (h : DataW.Trod enc Tryd.prog W 0 (fun _ => true) true 46 (.slice a len cap) d p) : ∃ l : List Pl, Plans W a len cap l := by
  obtain ⟨fuel, hf⟩ := h
  simp [Value.cells] at hf
  obtain ⟨a', cap', l, e, hP⟩ := open_plansC hf
  injection e with e1 e2 e3
  subst e1 e2 e3
  exact ⟨l, hP⟩
set_option maxRecDepth 100000 in
theorem open_plan {W : World} {base : Nat} {v : Value} {d : DataW H} {p : List MemPlace} (hv : Value.okWide Tryd.prog W .any base 113 v) (h : DataW.Trod enc Tryd.prog W 0 (fun _ => true) true 113 v d p) : ∃ (P : Pl) (a : Option Addr) (c : Nat), v = planV P a c ∧ Ints W a P.splits.length c P.splits ∧ i64B P.cycle ∧ i64B P.offset := by
  obtain ⟨cs, rfl, hsz⟩ := okWide_struct Tryd.underlying113 hv
  have hC : Tryd.prog.cellsOf 113 = 3 := by kernel_rfl
  rw [hC] at hsz
  obtain ⟨l⟩ := cs
  match l, hsz with
  | [c0, c1, c2], _ =>
    obtain ⟨fuel, hf⟩ := h
    simp [Value.cells] at hf
    obtain ⟨⟨P, a, c⟩, hc, hI, h1, h2⟩ := open_plan1 hf
    have e0 := hc 0 (by omega)
    have e1 := hc 1 (by omega)
    have e2 := hc 2 (by omega)
    simp [plV] at e0 e1 e2
    subst e0 e1 e2
    exact ⟨P, a, c, rfl, hI, h1, h2⟩
theorem come_trod {W : World} {fuel : Nat} {c : Value} {x : DataW H × List MemPlace} (h : DataW.trod enc Tryd.prog W 0 (fun _ => true) true fuel 58 [c] = some x) : ∃ a len cap L, c = .slice a len cap ∧ L.length = len ∧ Come W a len cap L := by
  rcases open_ints Tryd.underlying58 Tryd.underlying5 (by kernel_rfl) h with ⟨hcs, _⟩ | ⟨x, l, c', zs, hcs, _, hl, hm, hz, _, hcell, hwz⟩
  · have e : c = .slice none 0 0 := by simpa using hcs
    exact ⟨none, 0, 0, [], e, rfl, By.nil _ _, fun _ => rfl, Nat.le_refl _, by omega⟩
  · have e : c = .slice (some x) l c' := by simpa using hcs
    have hC := come_of (w := W) (a := some x) (len := l) (cap := c') (zs := zs) (.inr ⟨x, rfl, hl, hm, by simpa using hz, hcell, hwz⟩)
    exact ⟨some x, l, c', _, e, hC.by_.size, hC⟩
end

end Go.Proofs.YtoahbpdgbiachaaDoor

/-
  WHAT CAME IN: a region, as the walks want it.
-/
namespace Go.Proofs.YtoahbpdgbiachaaDoor
open Go.ChangeShapes Go.WideShapes Go.ChangeAt Go.RowKit Go.Lib Go.Deep
set_option linter.unusedVariables false
set_option linter.unusedSimpArgs false

section
variable {H : Type} {enc : TypeId × Value → H}
set_option maxRecDepth 100000 in
theorem open_site1 {W : World} {n : Nat} {cs : List Value} {x : DataW H × List MemPlace} (h : Tr enc W n 48 cs x) : ∃ y : Sa × St, (∀ j, j < 12 → cs[j]? = some (stV y.1 y.2 j)) ∧ Sat W y.1 y.2 := by
  obtain ⟨n, hl, hf⟩ := flds Tryd.underlying48 h
  have hC : Tryd.prog.cellsOf 48 = 12 := by kernel_rfl
  rw [hC] at hl
  have kI : Tryd.prog.cellsOf 3 = 1 := by kernel_rfl
  have k1 : Tryd.prog.cellsOf 41 = 1 := by kernel_rfl
  have k2 : Tryd.prog.cellsOf 42 = 1 := by kernel_rfl
  have k3 : Tryd.prog.cellsOf 43 = 1 := by kernel_rfl
  have k4 : Tryd.prog.cellsOf 44 = 1 := by kernel_rfl
  have k5 : Tryd.prog.cellsOf 45 = 1 := by kernel_rfl
  have k6 : Tryd.prog.cellsOf 46 = 1 := by kernel_rfl
  match cs, hl with
  | [c0, c1, c2, c3, c4, c5, c6, c7, c8, c9, c10, c11], _ =>
    obtain ⟨y0, h0⟩ := hf 0 _ rfl
    obtain ⟨y1, h1⟩ := hf 1 _ rfl
    obtain ⟨y2, h2⟩ := hf 2 _ rfl
    obtain ⟨y3, h3⟩ := hf 3 _ rfl
    obtain ⟨y4, h4⟩ := hf 4 _ rfl
    obtain ⟨y5, h5⟩ := hf 5 _ rfl
    obtain ⟨y6, h6⟩ := hf 6 _ rfl
    obtain ⟨y7, h7⟩ := hf 7 _ rfl
    obtain ⟨y8, h8⟩ := hf 8 _ rfl
    obtain ⟨y9, h9⟩ := hf 9 _ rfl
    obtain ⟨y10, h10⟩ := hf 10 _ rfl
    obtain ⟨y11, h11⟩ := hf 11 _ rfl
    simp [kI] at h0 h6 h7 h8 h9 h10
    simp [k1] at h1
    simp [k2] at h2
    simp [k3] at h3
    simp [k4] at h4
    simp [k5] at h5
    simp [k6] at h11
    obtain ⟨z0, q0, w0⟩ := open_int1 Tryd.underlying3 h0
    obtain ⟨z6, q6, w6⟩ := open_int1 Tryd.underlying3 h6
    obtain ⟨z7, q7, w7⟩ := open_int1 Tryd.underlying3 h7
    obtain ⟨z8, q8, w8⟩ := open_int1 Tryd.underlying3 h8
    obtain ⟨z9, q9, w9⟩ := open_int1 Tryd.underlying3 h9
    obtain ⟨z10, q10, w10⟩ := open_int1 Tryd.underlying3 h10
    simp at q0 q6 q7 q8 q9 q10
    subst q0 q6 q7 q8 q9 q10
    obtain ⟨a1, u1, l1, rfl, i1, j1, r1⟩ := open_groups h1
    obtain ⟨a2, u2, l2, rfl, i2, j2, r2⟩ := open_apart h2
    obtain ⟨a3, u3, l3, rfl, i3⟩ := open_grid h3
    obtain ⟨a4, u4, l4, rfl, i4, j4, r4⟩ := open_phases h4
    obtain ⟨a5, u5, l5, rfl, i5, j5, r5⟩ := open_eyes h5
    obtain ⟨a6, u6, l6, rfl, i6⟩ := open_plansC h11
    refine ⟨(⟨a1, u1, a2, u2, a3, u3, a4, u4, a5, u5, a6, u6⟩, ⟨z0, l1, l2, l3, l4, l5, z6, z7, z8, z9, z10, l6⟩), fun j hj => ?_, i1, i2, i3, i4, i5, i6, j1, j2, j4, j5, r1, r2, r4, r5, i64_of w0, i64_of w6, i64_of w7, i64_of w8, i64_of w9, i64_of w10⟩
    match j, hj with
    | 0, _ => rfl
    | 1, _ => rfl
    | 2, _ => rfl
    | 3, _ => rfl
    | 4, _ => rfl
    | 5, _ => rfl
    | 6, _ => rfl
    | 7, _ => rfl
    | 8, _ => rfl
    | 9, _ => rfl
    | 10, _ => rfl
    | 11, _ => rfl
def sa0 : Sa := ⟨none, 0, none, 0, none, 0, none, 0, none, 0, none, 0⟩
theorem open_sites {W : World} {fuel : Nat} {c : Value} {x : DataW H × List MemPlace} (h : Tr enc W fuel 22 [c] x) : ∃ (a : Option Addr) (cap : Nat) (X : Nat → Sa) (l : List St), c = .slice a l.length cap ∧ Lie W a l.length 12 (fun i j => stV (X i) (l.getD i s0) j) ∧ (∀ i, i < l.length → Sat W (X i) (l.getD i s0)) ∧ Cap a l.length cap := by
  obtain ⟨a, cap, l, rfl, h1, h2, h3⟩ := open_list ((sa0, s0) : Sa × St) (e := 48) (K := 12) (by omega) (fun y j => stV y.1 y.2 j) (fun y => Sat W y.1 y.2) Tryd.underlying22 (by kernel_rfl) (fun n cs x h => open_site1 h) h
  refine ⟨a, cap, fun i => (l.getD i (sa0, s0)).1, l.map Prod.snd, by simp, ?_, ?_, by simpa using h2⟩
  · rw [List.length_map]
    refine h1.congr (fun i hi j hj => ?_)
    simp [hi]
  · intro i hi
    rw [List.length_map] at hi
    have := h3 (l[i]) (List.getElem_mem _)
    simpa [hi] using this
set_option maxRecDepth 100000 in
theorem open_subs {W : World} {fuel : Nat} {c : Value} {x : DataW H × List MemPlace} (h : Tr enc W fuel 23 [c] x) : ∃ (a : Option Addr) (cap : Nat) (r : Nat → Option Addr × Nat) (l : List Sb), c = .slice a l.length cap ∧ Lie W a l.length 2 (fun i j => sbV (l.getD i u0) (r i).1 (r i).2 j) ∧ (∀ i, i < l.length → Ints W (r i).1 (l.getD i u0).sites.length (r i).2 (l.getD i u0).sites) ∧ Cap a l.length cap ∧ ∀ x ∈ l, i64B x.critical := by
  obtain ⟨a, cap, l, rfl, h1, h2, h3⟩ := open_list ((u0, none, 0) : Sb × Option Addr × Nat) (e := 38) (K := 2) (by omega) (fun y j => sbV y.1 y.2.1 y.2.2 j) (fun y => Ints W y.2.1 y.1.sites.length y.2.2 y.1.sites ∧ i64B y.1.critical) Tryd.underlying23 (by kernel_rfl) (fun n cs x h => by
    obtain ⟨n, hl, hf⟩ := flds Tryd.underlying38 h
    have hC : Tryd.prog.cellsOf 38 = 2 := by kernel_rfl
    have kI : Tryd.prog.cellsOf 3 = 1 := by kernel_rfl
    have kL : Tryd.prog.cellsOf 31 = 1 := by kernel_rfl
    rw [hC] at hl
    match cs, hl with
    | [c0, c1], _ =>
      obtain ⟨y0, h0⟩ := hf 0 _ rfl
      obtain ⟨y1, h1⟩ := hf 1 _ rfl
      simp [kL] at h0
      simp [kI] at h1
      obtain ⟨a, cap, l, rfl, hI⟩ := open_nums h0
      obtain ⟨z1, e1, w1⟩ := open_int1 Tryd.underlying3 h1
      simp at e1
      subst e1
      refine ⟨(⟨l, z1⟩, a, cap), fun j hj => ?_, hI, i64_of w1⟩
      match j, hj with
      | 0, _ => rfl
      | 1, _ => rfl) h
  refine ⟨a, cap, fun i => (l.getD i (u0, none, 0)).2, l.map Prod.fst, by simp, ?_, ?_, by simpa using h2, ?_⟩
  · rw [List.length_map]
    refine h1.congr (fun i hi j hj => ?_)
    simp [hi]
  · intro i hi
    rw [List.length_map] at hi
    have := (h3 (l[i]) (List.getElem_mem _)).1
    simpa [hi] using this
  · intro p hp
    simp only [List.mem_map] at hp
    obtain ⟨y, hy, rfl⟩ := hp
    exact (h3 y hy).2
set_option maxRecDepth 100000 in
theorem open_weds {W : World} {fuel : Nat} {c : Value} {x : DataW H × List MemPlace} (h : Tr enc W fuel 24 [c] x) : ∃ (a : Option Addr) (cap : Nat) (r : Nat → Option Addr × Nat) (l : List Wd), c = .slice a l.length cap ∧ Lie W a l.length 4 (fun i j => wdV (l.getD i d0) (r i).1 (r i).2 j) ∧ (∀ i, i < l.length → Ints W (r i).1 (l.getD i d0).offsets.length (r i).2 (l.getD i d0).offsets) ∧ Cap a l.length cap ∧ ∀ x ∈ l, i64B x.a ∧ i64B x.b ∧ i64B x.votes := by
  obtain ⟨a, cap, l, rfl, h1, h2, h3⟩ := open_list ((d0, none, 0) : Wd × Option Addr × Nat) (e := 40) (K := 4) (by omega) (fun y j => wdV y.1 y.2.1 y.2.2 j) (fun y => Ints W y.2.1 y.1.offsets.length y.2.2 y.1.offsets ∧ i64B y.1.a ∧ i64B y.1.b ∧ i64B y.1.votes) Tryd.underlying24 (by kernel_rfl) (fun n cs x h => by
    obtain ⟨n, hl, hf⟩ := flds Tryd.underlying40 h
    have hC : Tryd.prog.cellsOf 40 = 4 := by kernel_rfl
    have kI : Tryd.prog.cellsOf 3 = 1 := by kernel_rfl
    have kL : Tryd.prog.cellsOf 31 = 1 := by kernel_rfl
    rw [hC] at hl
    match cs, hl with
    | [c0, c1, c2, c3], _ =>
      obtain ⟨y0, h0⟩ := hf 0 _ rfl
      obtain ⟨y1, h1⟩ := hf 1 _ rfl
      obtain ⟨y2, h2⟩ := hf 2 _ rfl
      obtain ⟨y3, h3⟩ := hf 3 _ rfl
      simp [kI] at h0 h1 h2
      simp [kL] at h3
      obtain ⟨z0, e0, w0⟩ := open_int1 Tryd.underlying3 h0
      obtain ⟨z1, e1, w1⟩ := open_int1 Tryd.underlying3 h1
      obtain ⟨z2, e2, w2⟩ := open_int1 Tryd.underlying3 h2
      obtain ⟨a, cap, l, rfl, hI⟩ := open_nums h3
      simp at e0 e1 e2
      subst e0 e1 e2
      refine ⟨(⟨z0, z1, z2, l⟩, a, cap), fun j hj => ?_, hI, i64_of w0, i64_of w1, i64_of w2⟩
      match j, hj with
      | 0, _ => rfl
      | 1, _ => rfl
      | 2, _ => rfl
      | 3, _ => rfl) h
  refine ⟨a, cap, fun i => (l.getD i (d0, none, 0)).2, l.map Prod.fst, by simp, ?_, ?_, by simpa using h2, ?_⟩
  · rw [List.length_map]
    refine h1.congr (fun i hi j hj => ?_)
    simp [hi]
  · intro i hi
    rw [List.length_map] at hi
    have := (h3 (l[i]) (List.getElem_mem _)).1
    simpa [hi] using this
  · intro p hp
    simp only [List.mem_map] at hp
    obtain ⟨y, hy, rfl⟩ := hp
    exact (h3 y hy).2
set_option maxRecDepth 100000 in
theorem open_net {W : World} {base : Nat} {v : Value} {d : DataW H} {p : List MemPlace} (hv : Value.okWide Tryd.prog W .any base 26 v) (h : DataW.Trod enc Tryd.prog W 0 (fun _ => true) true 26 v d p) : ∃ (Y : Na) (N : Nt), v = netV Y N ∧ NetAt W Y N := by
  obtain ⟨cs, rfl, hsz⟩ := okWide_struct Tryd.underlying26 hv
  have hC : Tryd.prog.cellsOf 26 = 6 := by kernel_rfl
  rw [hC] at hsz
  obtain ⟨l⟩ := cs
  have kI : Tryd.prog.cellsOf 3 = 1 := by kernel_rfl
  have k1 : Tryd.prog.cellsOf 22 = 1 := by kernel_rfl
  have k2 : Tryd.prog.cellsOf 23 = 1 := by kernel_rfl
  have k3 : Tryd.prog.cellsOf 24 = 1 := by kernel_rfl
  match l, hsz with
  | [c0, c1, c2, c3, c4, c5], _ =>
    obtain ⟨fuel, hf0⟩ := h
    simp [Value.cells] at hf0
    obtain ⟨n, hl, hf⟩ := flds Tryd.underlying26 hf0
    obtain ⟨y0, h0⟩ := hf 0 _ rfl
    obtain ⟨y1, h1⟩ := hf 1 _ rfl
    obtain ⟨y2, h2⟩ := hf 2 _ rfl
    obtain ⟨y3, h3⟩ := hf 3 _ rfl
    obtain ⟨y4, h4⟩ := hf 4 _ rfl
    obtain ⟨y5, h5⟩ := hf 5 _ rfl
    simp [k1] at h0
    simp [k2] at h1
    simp [k3] at h2
    simp [kI] at h3 h4 h5
    obtain ⟨z3, q3, w3⟩ := open_int1 Tryd.underlying3 h3
    obtain ⟨z4, q4, w4⟩ := open_int1 Tryd.underlying3 h4
    obtain ⟨z5, q5, w5⟩ := open_int1 Tryd.underlying3 h5
    simp at q3 q4 q5
    subst q3 q4 q5
    obtain ⟨a1, u1, X, l1, rfl, i1, s1, j1⟩ := open_sites h0
    obtain ⟨a2, u2, r2, l2, rfl, i2, s2, j2, k2'⟩ := open_subs h1
    obtain ⟨a3, u3, r3, l3, rfl, i3, s3, j3, k3'⟩ := open_weds h2
    exact ⟨⟨a1, u1, a2, u2, a3, u3, X, r2, r3⟩, ⟨l1, l2, l3, z3, z4, z5⟩, rfl, i1, s1, i2, s2, i3, s3, j1, j2, j3, k2', k3', i64_of w3, i64_of w4, i64_of w5⟩
end

end Go.Proofs.YtoahbpdgbiachaaDoor

/-
  FROM THE ROWS' CONDITION (the listed tables are as the program's text lays them) TO WHAT THE WALKS ASK; the witness's world.
-/
namespace Go.Proofs.YtoahbpdgbiachaaDoor
open Go.RowKit Go.Lib Go.Deep
set_option linter.unusedVariables false
set_option linter.unusedSimpArgs false

abbrev laid1 : List (String × DataW Unit) := [("math/bits.deBruijn32tab", Rows.laid_math_bits_deBruijn32tab)]
abbrev laid2 : List (String × DataW Unit) := [("math/bits.deBruijn32tab", Rows.laid_math_bits_deBruijn32tab), ("stopline/raw.halfSums", Rows.laid_stopline_raw_halfSums)]
theorem gTabb : Tryd.prog.globalNamed "math/bits.deBruijn32tab" = some 1 := by kernel_rfl
theorem tTabb : (Tryd.prog.globals[1]?).map (·.type) = some 171 := by kernel_rfl
theorem uTabb : Tryd.prog.underlying 171 = some (.array 32 5) := by kernel_rfl
theorem uByte : Tryd.prog.underlying 5 = some (.int .u8) := by kernel_rfl
theorem cByte : Tryd.prog.cellsOf 5 = 1 := by kernel_rfl
theorem cTabb : Tryd.prog.cellsOf 171 = 32 := by kernel_rfl
theorem gTab : Tryd.prog.globalNamed "stopline/raw.halfSums" = some 0 := by kernel_rfl
theorem tTab : (Tryd.prog.globals[0]?).map (·.type) = some 148 := by kernel_rfl
theorem uTab : Tryd.prog.underlying 148 = some (.array 16 65) := by kernel_rfl
theorem uWord : Tryd.prog.underlying 65 = some (.int .u32) := by kernel_rfl
theorem cWord : Tryd.prog.cellsOf 65 = 1 := by kernel_rfl
theorem cTab : Tryd.prog.cellsOf 148 = 16 := by kernel_rfl
theorem of_laid1 {W : World} (h : laidMetH Tryd.prog laid1 W) : Tabb W := by
  rw [MakeChecks.laidMetH_plain _ _ _ (by kernel_rfl)] at h
  have h' : laidMet Tryd.prog (("math/bits.deBruijn32tab", tabData .u8 deB) :: []) W := h
  have hT := tabIs_of_head gTabb tTabb uTabb uByte cByte cTabb h'
  exact fun i hi => hT.cell gTabb i hi
theorem of_laid2 {W : World} (h : laidMetH Tryd.prog laid2 W) : Tabb W ∧ Table W := by
  rw [MakeChecks.laidMetH_plain _ _ _ (by kernel_rfl)] at h
  have h1 : laidMet Tryd.prog (("math/bits.deBruijn32tab", tabData .u8 deB) :: []) W := h.filter (fun x => x.1 == "math/bits.deBruijn32tab")
  have h2 : laidMet Tryd.prog (("stopline/raw.halfSums", tabData .u32 halfs) :: []) W := h.filter (fun x => x.1 == "stopline/raw.halfSums")
  have hT := tabIs_of_head gTabb tTabb uTabb uByte cByte cTabb h1
  have hT2 := tabIs_of_head gTab tTab uTab uWord cWord cTab h2
  exact ⟨fun i hi => hT.cell gTabb i hi, fun i hi => hT2.cell gTab i hi⟩
theorem door_laid1 (os : Os) (args : Array Value) : laidMetH Tryd.prog laid1 ((World.doorLaid Tryd.prog 400 os).forCall (fun _ _ => 0) ⟨#[], args, []⟩).memory :=
  laidMetH_of_parts3 (fuel := 8) (laidMet_of_run' 8 (by kernel_rfl) (by kernel_rfl)) (by kernel_rfl) (by kernel_rfl)
theorem door_laid2 (os : Os) (args : Array Value) : laidMetH Tryd.prog laid2 ((World.doorLaid Tryd.prog 400 os).forCall (fun _ _ => 0) ⟨#[], args, []⟩).memory :=
  laidMetH_of_parts3 (fuel := 8) (laidMet_of_run' 8 (by kernel_rfl) (by kernel_rfl)) (by kernel_rfl) (by kernel_rfl)

end Go.Proofs.YtoahbpdgbiachaaDoor

