/-
  THE STATEMENTS' OWN: behind, alive (made by a program).
-/
import Derived.Test.YtjfajdmifjbblaaDoorEyeS0
import Derived.Test.YtjfajdmifjbblaaDoorEyeL
import Derived.Laws.StructEq
import Derived.Deep.RegionWith
import Derived.Deep.RegionHeld
namespace Go.Proofs.YtjfajdmifjbblaaDoor
open Go.RowKit Go.Lib Go.Deep
set_option linter.unusedVariables false
set_option linter.unusedSimpArgs false

def Rr (A : Nat → Act) (P : Nat → World → Prop) (e : Exit) (a : Act) (w : World) : Prop := match e with
  | .normal => ∃ B, a = A B ∧ P B w
  | _ => False
theorem Rr.out {A : Nat → Act} {P : Nat → World → Prop} {e : Exit} {a : Act} {w : World} (h : Rr A P e a w) : e = .normal ∧ ∃ B, a = A B ∧ P B w := by
  cases e with
  | normal => exact ⟨rfl, h⟩
  | _ => exact h.elim
/-- Truths lie where a slice leads. -/
structure Bs (w : World) (a : Option Addr) (n : Nat) (L : List Bool) : Prop where
  size : L.length = n
  lie : Lie w a n 1 (fun i _ => .bool (tr L i))
theorem Bs.kept {w w' : World} {a : Option Addr} {n : Nat} {L : List Bool} (h : Bs w a n L) (q : Kept w w' none) : Bs w' a n L := ⟨h.size, h.lie.kept q⟩
theorem Bs.at_ {w : World} {a : Option Addr} {n : Nat} {L : List Bool} (h : Bs w a n L) {k : Nat} (hk : k < n) : ∃ b off, a = some ⟨b, off, none⟩ ∧ b < w.heap.size ∧ w.cell? ⟨b, off + k, none⟩ = some (.bool (tr L k)) := by
  obtain ⟨b, off, e, hb, hc⟩ := h.lie.one (by omega)
  exact ⟨b, off, e, hb, hc k hk⟩
theorem kept_rto {a b c : World} {r : Option Nat} (h : Kept a b r) (k : Kept b c none) : Kept a c r :=
  ⟨k.os.trans h.os, k.tape.trans h.tape, k.output.trans h.output, Nat.le_trans h.size k.size, fun i hi hr => (k.block i (Nat.lt_of_lt_of_le hi h.size) (by simp)).trans (h.block i hi hr)⟩
theorem B5.keptR {w w' : World} {b : Nat} {v0 v1 v2 v3 v4 : Value} {r : Option Nat} (h : B5 w b v0 v1 v2 v3 v4) (k : Kept w w' r) (hr : some b ≠ r) : B5 w' b v0 v1 v2 v3 v4 := by
  have e := k.block b h.lt hr
  exact ⟨(World.cell?_of_block (w := w) (a := ⟨b, 0, none⟩) e).trans h.c0, (World.cell?_of_block (w := w) (a := ⟨b, 1, none⟩) e).trans h.c1, (World.cell?_of_block (w := w) (a := ⟨b, 2, none⟩) e).trans h.c2, (World.cell?_of_block (w := w) (a := ⟨b, 3, none⟩) e).trans h.c3, (World.cell?_of_block (w := w) (a := ⟨b, 4, none⟩) e).trans h.c4, (World.frozen?_of_block (w := w) (a := ⟨b, 0, none⟩) e).trans h.f0, (World.frozen?_of_block (w := w) (a := ⟨b, 1, none⟩) e).trans h.f1, (World.frozen?_of_block (w := w) (a := ⟨b, 2, none⟩) e).trans h.f2, (World.frozen?_of_block (w := w) (a := ⟨b, 3, none⟩) e).trans h.f3, (World.frozen?_of_block (w := w) (a := ⟨b, 4, none⟩) e).trans h.f4, Nat.lt_of_lt_of_le h.lt k.size⟩
theorem bs_alloc (w : World) (L : List Bool) (cs : Array Value) (hc : ∀ i, i < L.length → cs[i]? = some (.bool (tr L i))) : Bs (w.alloc (.cells cs 4)) (some ⟨w.heap.size, 0, none⟩) L.length L :=
  ⟨rfl, ⟨fun _ => ⟨_, 0, rfl, by simp, fun i hi j hj => by
    obtain rfl : j = 0 := by omega
    rw [Nat.zero_add, Nat.mul_one, Nat.add_zero, World.cell?_alloc_mark, hc i hi]⟩⟩⟩
abbrev L2 : List Bool := [true, true]
abbrev L3 : List Bool := [true, true, true]
theorem at_L2 : atK ⟨0, 3, 9, 2⟩ 4 L2 2 = ⟨true, 2, 2, false, 0⟩ := by rfl
theorem at_L3 : atK ⟨0, 3, 9, 2⟩ 4 L3 3 = ⟨true, 3, 4, true, 0⟩ := by rfl
theorem bools2 : ∀ i, i < L2.length → (#[Value.bool true, .bool true] : Array Value)[i]? = some (.bool (tr L2 i)) := fun i hi => by have hi' : i < 2 := hi; rcases i with _|_|i <;> first | rfl | omega
theorem bools3 : ∀ i, i < L3.length → (#[Value.bool true, .bool true, .bool true] : Array Value)[i]? = some (.bool (tr L3 i)) := fun i hi => by have hi' : i < 3 := hi; rcases i with _|_|_|i <;> first | rfl | omega
end Go.Proofs.YtjfajdmifjbblaaDoor
