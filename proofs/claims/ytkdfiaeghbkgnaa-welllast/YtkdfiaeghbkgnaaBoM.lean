/-
  LISTS OF TRUTHS IN MEMORY, as the contracts of this stage want them.
-/
import Derived.Test.YtkdfiaeghbkgnaaLampM
import Derived.OwnWalk
import Derived.Deep.DeepAppendRoom
import Derived.Deep.AppendLies
import Derived.Laws.AppendOwnNone
namespace Go.Proofs.Ytkdfiaeghbkgnaa
open Go.RowKit Go.Lib Go.Deep
set_option linter.unusedVariables false
set_option linter.unusedSimpArgs false

def tr (L : List Bool) (i : Nat) : Bool := L.getD i false
abbrev boolV (x : Bool) : Value := .bool x
/-- The truths L lie where the slice leads. -/
structure Bo (w : World) (a : Option Addr) (len : Nat) (L : List Bool) : Prop where
  size : L.length = len
  max : len ≤ 9223372036854775807
  at_ : 0 < len → ∃ b off, a = some ⟨b, off, none⟩ ∧ b < w.heap.size ∧ ∀ i, i < len → w.cell? ⟨b, off + i, none⟩ = some (.bool (tr L i))
theorem Bo.nil (w : World) (a : Option Addr) : Bo w a 0 [] := ⟨rfl, by omega, fun h => absurd h (by omega)⟩
theorem Bo.below {w w' : World} {n : Nat} {a : Option Addr} {len : Nat} {L : List Bool} (h : Bo w a len L) (k : Below n w w') (hn : ∀ x, a = some x → x.block < n) : Bo w' a len L := by
  obtain ⟨h1, h2, h4⟩ := h
  refine ⟨h1, h2, fun hp => ?_⟩
  obtain ⟨b, off, rfl, hb, hc⟩ := h4 hp
  exact ⟨b, off, rfl, Nat.lt_of_lt_of_le hb k.size, fun i hi => (k.cell (p := ⟨b, off + i, none⟩) (hn ⟨b, off, none⟩ rfl)).trans (hc i hi)⟩
theorem Bo.keptR {w w' : World} {a : Option Addr} {len : Nat} {L : List Bool} {r : Option Nat} (h : Bo w a len L) (k : Kept w w' r) (hr : ∀ x, a = some x → some x.block ≠ r) : Bo w' a len L := by
  obtain ⟨h1, h2, h4⟩ := h
  refine ⟨h1, h2, fun hp => ?_⟩
  obtain ⟨b, off, rfl, hb, hc⟩ := h4 hp
  exact ⟨b, off, rfl, Nat.lt_of_lt_of_le hb k.size, fun i hi => (World.cell?_of_block (w := w) (a := ⟨b, off + i, none⟩) (k.block b hb (hr ⟨b, off, none⟩ rfl))).trans (hc i hi)⟩
theorem Bo.kept {w w' : World} {a : Option Addr} {len : Nat} {L : List Bool} (h : Bo w a len L) (k : Kept w w' none) : Bo w' a len L := h.keptR k (fun _ _ => by simp)
theorem tr_take {L : List Bool} {k i : Nat} (h : i < k) : tr (L.take k) i = tr L i := by
  unfold tr; simp [List.getElem?_take, h]
theorem tr_drop {L : List Bool} {k i : Nat} : tr (L.drop k) i = tr L (k + i) := by
  unfold tr; simp [List.getElem?_drop]
/-- The first k of them; what is behind them. -/
theorem Bo.take {w : World} {a : Option Addr} {len : Nat} {L : List Bool} (h : Bo w a len L) (k : Nat) (hk : k ≤ len) : Bo w a k (L.take k) := by
  obtain ⟨h1, h2, h4⟩ := h
  refine ⟨by simp; omega, by omega, fun hp => ?_⟩
  obtain ⟨b, off, rfl, hb, hc⟩ := h4 (by omega)
  exact ⟨b, off, rfl, hb, fun i hi => by rw [hc i (by omega), tr_take hi]⟩
theorem Bo.drop {w : World} {b off : Nat} {len : Nat} {L : List Bool} (h : Bo w (some ⟨b, off, none⟩) len L) (k : Nat) (hk : k ≤ len) : Bo w (some ⟨b, off + k, none⟩) (len - k) (L.drop k) := by
  obtain ⟨h1, h2, h4⟩ := h
  refine ⟨by simp; omega, by omega, fun hp => ?_⟩
  obtain ⟨b', off', e, hb, hc⟩ := h4 (by omega)
  injection e with e
  injection e with e1 e2
  subst e1 e2
  exact ⟨b, off + k, rfl, hb, fun i hi => by rw [tr_drop, Nat.add_assoc, hc (k + i) (by omega)]⟩
/-- A row of cells, just laid. -/
theorem Bo.alloc (w : World) (L : List Bool) (t : TypeId) (fr : Nat × Nat) (cs : Array Value) (hc : ∀ i, i < L.length → cs[i]? = some (.bool (tr L i))) (h2 : L.length ≤ 9223372036854775807) : Bo (w.alloc (.cells cs t fr)) (some ⟨w.heap.size, 0, none⟩) L.length L :=
  ⟨rfl, h2, fun _ => ⟨_, 0, rfl, by simp, fun i hi => by rw [Nat.zero_add, World.cell?_alloc_mark, hc i hi]⟩⟩
/-- A slice of the call's own, nil or not: its truths are L. -/
structure Bow (w : World) (base : Nat) (a : Option Addr) (n cap : Nat) (L : List Bool) : Prop where
  own : w.ownsRow base 4 1 (.slice a n cap) n (L.map boolV)
  nil : a = none → n = 0 ∧ cap = 0
  room : n ≤ cap
  max : cap ≤ 9223372036854775807
theorem bow_of {w : World} {base : Nat} {v : Value} {n : Nat} {L : List Bool} (h : w.ownsRow base 4 1 v n (L.map boolV)) : ∃ a cap, v = .slice a n cap ∧ Bow w base a n cap L := by
  rcases id h.2 with ⟨rfl, rfl⟩ | ⟨g, cap, cur, rfl, _, _, hle, hm, _, _⟩
  · exact ⟨none, 0, rfl, h, fun _ => ⟨rfl, rfl⟩, Nat.le_refl _, by omega⟩
  · unfold maxLen at hm
    exact ⟨some ⟨g, 0, none⟩, cap, rfl, h, fun e => (nomatch e), hle, by omega⟩
theorem Bow.bo {w : World} {base : Nat} {a : Option Addr} {n cap : Nat} {L : List Bool} (h : Bow w base a n cap L) : Bo w a n L := by
  have hm := h.max
  have hr := h.room
  have hl : L.length = n := by have := h.own.1; simpa using this
  rcases id h.own.2 with ⟨e, rfl⟩ | ⟨g, cap', cur, e, _⟩
  · have hl : L = [] := List.length_eq_zero_iff.1 hl
    subst hl
    exact Bo.nil _ _
  · injection e with e1 e2 e3
    subst e1 e3
    refine ⟨hl, by omega, fun hp => ⟨g, 0, rfl, (h.own.lt g rfl).2, fun i hi => ?_⟩⟩
    have := h.own.cellAt i (by omega)
    rw [Nat.zero_add, this]
    have hi' : i < L.length := by omega
    simp [tr, hi']
theorem Bow.new {w : World} {base : Nat} {a : Option Addr} {n cap : Nat} {L : List Bool} (h : Bow w base a n cap L) : ∀ x, a = some x → base ≤ x.block ∧ x.block < w.heap.size := fun x hx => by
  rcases id h.own.2 with ⟨e, _⟩ | ⟨g, cap', cur, e, _⟩
  · injection e with e1; rw [e1] at hx; cases hx
  · injection e with e1
    rw [e1] at hx
    injection hx with hx
    subst hx
    have e2 : (Value.slice a n cap).ownBlock = some g := by rw [e1]; rfl
    exact h.own.lt g e2
theorem own_keptB {w w' : World} {r : Option Nat} {base n k : Nat} {e : TypeId} {v : Value} {xs : List Value} (h : w.ownsRow base e k v n xs) (q : Kept w w' r) (hr : ∀ g, v.ownBlock = some g → some g ≠ r) : w'.ownsRow base e k v n xs := by
  refine ⟨h.1, ?_⟩
  rcases id h.2 with ⟨rfl, h0⟩ | ⟨b, cap, cur, rfl, hb, hh, h4⟩
  · exact .inl ⟨rfl, h0⟩
  · exact .inr ⟨b, cap, cur, rfl, hb, (q.block b (Array.getElem?_eq_some_iff.1 hh).1 (hr _ rfl)).trans hh, h4⟩
theorem Bow.kept {w w' : World} {base : Nat} {a : Option Addr} {n cap : Nat} {L : List Bool} (h : Bow w base a n cap L) (q : Kept w w' none) : Bow w' base a n cap L := ⟨own_keptB h.own q (fun _ _ => by simp), h.nil, h.room, h.max⟩
theorem truths_news {w : World} {b off m : Nat} {M : List Bool} (hl : M.length = m) (hc : ∀ i, i < m → w.cell? ⟨b, off + i, none⟩ = some (.bool (tr M i))) :
    ∀ j u, (M.map boolV)[j]? = some u → w.cell? ((⟨b, off, none⟩ : Addr).add j) = some u := by
  intro j u hu
  have hj : j < M.length := by have := (List.getElem?_eq_some_iff.1 hu).1; simpa using this
  rw [Addr.add_lit, hc j (by omega), ← hu]
  simp [tr, hj]
theorem truths_one (M : List Bool) : ∀ u ∈ M.map boolV, u.oneCell' = true := by
  intro u hu
  simp only [List.mem_map] at hu
  obtain ⟨x, _, rfl⟩ := hu
  rfl

end Go.Proofs.Ytkdfiaeghbkgnaa
