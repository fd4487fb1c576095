/-
  THE CONTRACT of frame.Bare.
-/
import Derived.Test.YtflehhliddcfgabDoorTake
import Derived.Test.YtflehhliddcfgabDoorOpen
namespace Go.Proofs.YtflehhliddcfgabDoor
open Go.RowKit Go.Lib Go.Deep
set_option linter.unusedVariables false
set_option linter.unusedSimpArgs false

theorem own_raise {w : World} {base e size n : Nat} {v : Value} {xs : List Value} (h : w.ownsRow 0 e size v n xs) (hb : ∀ k, v.ownBlock = some k → base ≤ k) : w.ownsRow base e size v n xs := by
  refine ⟨h.1, ?_⟩
  rcases h.2 with hn | ⟨g, cap, cur, rfl, hbg, rest⟩
  · exact .inl hn
  · exact .inr ⟨g, cap, cur, rfl, hb g rfl, rest⟩
theorem Kept.sep {w wr w' : World} {S : Nat → Prop} (h : Kept w wr none) (k : Sep wr w' S) (hS : ∀ i, S i → w.heap.size ≤ i) : Kept w w' none :=
  ⟨k.os.trans h.os, k.tape.trans h.tape, k.output.trans h.output, Nat.le_trans h.size k.size, fun i hi _ => (k.block i (Nat.lt_of_lt_of_le hi h.size) (fun s => by have := hS i s; omega)).trans (h.block i hi (by simp))⟩
theorem rowIs_alloc (w : World) (c : Array Value) (t : TypeId) : (w.alloc (.cells c t)).rowIs w.heap.size t c.size (fun i => c.getD i default) :=
  ⟨c, heap_alloc_new w _, rfl, fun i hi => by simp [hi]⟩
/-- What a round of Bare keeps. -/
structure Under (w wr : World) (b : Nat) (s : Pc) : Prop where
  ex : ∃ v f, Pce wr b 0 54 3 v s f ∧ ∀ i, v.ownBlock = some i → w.heap.size ≤ i
  kept : Kept w wr none
  new : w.heap.size ≤ b
theorem Under.step {w wr w' : World} {b : Nat} {s s' : Pc} {v : Value} {f : Nat → Value} (h : Under w wr b s) (hp : Pce wr b 0 54 3 v s f) (hv : ∀ i, v.ownBlock = some i → w.heap.size ≤ i) (ht : Took wr w' b 0 54 3 v f s') : Under w w' b s' := by
  obtain ⟨v', f', h1, _, h3, h4⟩ := ht
  refine ⟨⟨v', f', h1, fun i hi => ?_⟩, h.kept.sep h4 (fun i hi => ?_), h.new⟩
  · rcases h3 with h3 | ⟨g, h3, h5⟩
    · exact hv i (by rw [← h3]; exact hi)
    · rw [h3] at hi; injection hi with hi; subst hi; exact Nat.le_trans h.kept.size h5
  · rcases hi with rfl | hi
    · exact h.new
    · exact hv i hi

end Go.Proofs.YtflehhliddcfgabDoor
