/-
  Of the text PlG: what this stage needs (culled by a program).
-/
import Derived.Test.YtnmfigcemknjbaaWorld
import Derived.Test.YtnmfigcemknjbaaMaths
import Derived.Test.YtnmfigcemknjbaaSTwinB
import Derived.Test.YtnmfigcemknjbaaSRefN
import Derived.Test.YtnmfigcemknjbaaSWhole2
namespace Go.Proofs.Ytnmfigcemknjbaa
open Go.RowKit Go.Lib Go.Deep
set_option linter.unusedVariables false
set_option linter.unusedSimpArgs false

/-- Nothing between two places has changed. -/
structure Stay (base : Nat) (w w' : World) : Prop where
  size : w.heap.size ≤ w'.heap.size
  block : ∀ i, base ≤ i → i < w.heap.size → w'.heap[i]? = w.heap[i]?
theorem Stay.refl (base : Nat) (w : World) : Stay base w w := ⟨Nat.le_refl _, fun _ _ _ => rfl⟩
/-- One more step: a row below the base, or behind the first world. -/
theorem Stay.step {base : Nat} {a w w' : World} {r : Option Nat} (h : Stay base a w) (k : Kept w w' r) (hr : ∀ g, r = some g → g < base ∨ a.heap.size ≤ g) : Stay base a w' :=
  ⟨Nat.le_trans h.size k.size, fun i hb hi => (k.block i (Nat.lt_of_lt_of_le hi h.size) (fun e => by rcases hr i e.symm with q | q <;> omega)).trans (h.block i hb hi)⟩
theorem own_stay {w w' : World} {base n k : Nat} {e : TypeId} {v : Value} {xs : List Value} (h : w.ownsRow base e k v n xs) (q : Stay base w w') : w'.ownsRow base e k v n xs := by
  refine ⟨h.1, ?_⟩
  rcases id h.2 with ⟨rfl, h0⟩ | ⟨b, cap, cur, rfl, hb, hh, h4⟩
  · exact .inl ⟨rfl, h0⟩
  · exact .inr ⟨b, cap, cur, rfl, hb, (q.block b hb (Array.getElem?_eq_some_iff.1 hh).1).trans hh, h4⟩
theorem Ints.stay {w w' : World} {base : Nat} {a : Option Addr} {n c : Nat} {l : List Int} (h : Ints w a n c l) (q : Stay base w w') (hb : ∀ b, a = some b → base ≤ b.block) : Ints w' a n c l :=
  ⟨⟨fun hp => by
    obtain ⟨b, off, rfl, hl, hc⟩ := h.lie.at_ hp
    exact ⟨b, off, rfl, Nat.lt_of_lt_of_le hl q.size, fun i hi j hj => (World.cell?_of_block (w := w) (a := ⟨b, off + i * 1 + j, none⟩) (q.block b (hb _ rfl) hl)).trans (hc i hi j hj)⟩⟩, h.size, h.cap, h.rng⟩
/-- A list of plans of one's own. -/
structure PlS (wr : World) (base : Nat) (v : Value) (l : List Pl) : Prop where
  ex : ∃ r : Nat → Option Addr × Nat, wr.ownsRow base 94 3 v l.length (cellsL l.length 3 (fun i j => plV (l.getD i q0) (r i).1 (r i).2 j)) ∧ (∀ i, i < l.length → Ints wr (r i).1 (l.getD i q0).splits.length (r i).2 (l.getD i q0).splits) ∧ (∀ i, i < l.length → ∀ b, (r i).1 = some b → v.ownBlock ≠ some b.block ∧ b.block < wr.heap.size ∧ base ≤ b.block)
theorem PlS.nil (w : World) (base : Nat) : PlS w base (.slice none 0 0) [] := ⟨⟨fun _ => (none, 0), World.ownsRow_nil _ _ _ _, fun i hi => by simp at hi, fun i hi => by simp at hi⟩⟩
theorem PlS.stay {w w' : World} {base : Nat} {v : Value} {l : List Pl} (h : PlS w base v l) (q : Stay base w w') : PlS w' base v l := by
  obtain ⟨r, h1, h2, h3⟩ := h.ex
  exact ⟨⟨r, own_stay h1 q, fun i hi => (h2 i hi).stay q (fun b e => (h3 i hi b e).2.2), fun i hi b e => ⟨(h3 i hi b e).1, Nat.lt_of_lt_of_le (h3 i hi b e).2.1 q.size, (h3 i hi b e).2.2⟩⟩⟩
theorem PlS.lt {w : World} {base : Nat} {v : Value} {l : List Pl} (h : PlS w base v l) : ∀ g, v.ownBlock = some g → base ≤ g ∧ g < w.heap.size := by
  obtain ⟨r, h1, _, _⟩ := h.ex
  exact own_lt h1
theorem PlS.shape {w : World} {base : Nat} {v : Value} {l : List Pl} (h : PlS w base v l) : ∃ a c, v = .slice a l.length c := by
  obtain ⟨r, h1, _, _⟩ := h.ex
  obtain ⟨a, c, e, _⟩ := lie_own (by omega) h1
  exact ⟨a, c, e⟩
theorem PlS.plans {w : World} {base : Nat} {v : Value} {l : List Pl} (h : PlS w base v l) (hr : ∀ p ∈ l, i64B p.cycle ∧ i64B p.offset) : ∃ a c, v = .slice a l.length c ∧ Plans w a l.length c l := by
  obtain ⟨r, h1, h2, _⟩ := h.ex
  obtain ⟨a, c, e, hl, hc, _⟩ := lie_own (by omega) h1
  exact ⟨a, c, e, ⟨⟨r, hl, h2⟩, rfl, hc, hr⟩⟩
theorem getD_snocP (l : List Pl) (p : Pl) (i : Nat) : (l ++ [p]).getD i q0 = if i = l.length then p else l.getD i q0 := by
  by_cases h : i = l.length
  · subst h; simp
  · rw [if_neg h]
    by_cases h2 : i < l.length
    · simp [h2, List.getElem?_append_left]
    · rw [List.getD_eq_getElem?_getD, List.getD_eq_getElem?_getD, List.getElem?_eq_none (by simp; omega), List.getElem?_eq_none (by omega)]
theorem PlS.grow {W : World} {base : Nat} {v : Value} {l : List Pl} {p : Pl} {a' : Option Addr} {cap : Nat} (h : PlS W base v l) (hI : Ints W a' p.splits.length cap p.splits) (hb : ∀ b, a' = some b → v.ownBlock ≠ some b.block ∧ b.block < W.heap.size ∧ base ≤ b.block) (hk : l.length ≤ 40) (hbase : base ≤ W.heap.size) :
    ∃ v' W5, (Builtin.append_ #[95, 95] 95 #[v, .slice (some ⟨W.heap.size, 0, none⟩) 1 1]).run Try.prog (W.alloc (plB p a' cap)) = .ok v' W5 ∧ PlS W5 base v' (l ++ [p]) ∧ Kept W W5 v.ownBlock := by
  obtain ⟨r, ho, hi, hbb⟩ := h.ex
  obtain ⟨i0, hi0, hz0, hz1, hz2⟩ := info_parts Try.infoPl
  have k4 : Kept W (W.alloc (plB p a' cap)) none := Kept.alloc _ _ _ _ _
  have z4 : (W.alloc (plB p a' cap)).heap.size = W.heap.size + 1 := by simp
  have q0' : ∀ j, j < 3 → (W.alloc (plB p a' cap)).cell? ⟨W.heap.size, 0 + j, none⟩ = some (plV p a' cap j) := fun j hj => by
    have : j = 0 ∨ j = 1 ∨ j = 2 := by omega
    rw [Nat.zero_add]
    refine alloc_at2 _ _ _ rfl ?_
    rcases this with rfl | rfl | rfl <;> rfl
  generalize W.alloc (plB p a' cap) = W4 at *
  have own4 := own_keptR' ho k4 (fun g _ => by simp)
  obtain ⟨v', W5, hr, g1, g2, g3⟩ := grow_run (t := 95) (ty := 95) (c := 1) Try.uPls hi0 hz0 hz1 hz2 rfl (by omega) (by omega) own4 q0' (fun j => by unfold plV; split <;> rfl) (by omega) (by omega)
  have g2' : Kept W4 W5 v.ownBlock := g2
  have hk45 : Kept W W5 v.ownBlock := ⟨g2'.os.trans k4.os, g2'.tape.trans k4.tape, g2'.output.trans k4.output, Nat.le_trans k4.size g2'.size, fun i hi hne => (g2'.block i (Nat.lt_of_lt_of_le hi k4.size) hne).trans (k4.block i hi (by simp))⟩
  have vfr : ∀ g, v'.ownBlock = some g → v.ownBlock = some g ∨ W.heap.size ≤ g := fun g hg => by
    rcases g3 with e | e
    · exact .inl (e.symm.trans hg)
    · rw [e] at hg; injection hg with hg; exact .inr (by omega)
  refine ⟨v', W5, hr, ⟨⟨fun i => if i = l.length then (a', cap) else r i, ?_, fun i hik => ?_, fun i hik b e => ?_⟩⟩, hk45⟩
  · rw [List.length_append]
    have he : cellsL (l.length + 1) 3 (fun i j => if i = l.length then plV p a' cap j else plV (l.getD i q0) (r i).1 (r i).2 j) = cellsL (l.length + [p].length) 3 (fun i j => plV ((l ++ [p]).getD i q0) ((if i = l.length then (a', cap) else r i) : Option Addr × Nat).1 ((if i = l.length then (a', cap) else r i) : Option Addr × Nat).2 j) := by
      show cellsL (l.length + 1) 3 _ = cellsL (l.length + 1) 3 _
      unfold cellsL
      refine List.map_congr_left fun q _ => ?_
      show (if q / 3 = l.length then plV p a' cap (q % 3) else plV (l.getD (q / 3) q0) (r (q / 3)).1 (r (q / 3)).2 (q % 3)) = plV ((l ++ [p]).getD (q / 3) q0) ((if q / 3 = l.length then (a', cap) else r (q / 3)) : Option Addr × Nat).1 ((if q / 3 = l.length then (a', cap) else r (q / 3)) : Option Addr × Nat).2 (q % 3)
      rw [getD_snocP]
      by_cases e : q / 3 = l.length
      · rw [if_pos e, if_pos e, if_pos e]
      · rw [if_neg e, if_neg e, if_neg e]
    rw [← he]
    exact g1
  · rw [getD_snocP]
    by_cases e : i = l.length
    · rw [if_pos e]
      simp only [if_pos e]
      exact hI.keptS hk45 (fun b eb ec => (hb b eb).1 ec.symm)
    · rw [if_neg e]
      simp only [if_neg e]
      have hil : i < l.length := by rw [List.length_append] at hik; simp at hik; omega
      exact (hi i hil).keptS hk45 (fun b eb ec => (hbb i hil b eb).1 ec.symm)
  · have hs5 := hk45.size
    by_cases ei : i = l.length
    · simp only [if_pos ei] at e
      obtain ⟨p1, p2, p3⟩ := hb b e
      exact ⟨fun ec => by rcases vfr _ ec with q | q; exact p1 q; omega, by omega, p3⟩
    · simp only [if_neg ei] at e
      have hil : i < l.length := by rw [List.length_append] at hik; simp at hik; omega
      obtain ⟨p1, p2, p3⟩ := hbb i hil b e
      exact ⟨fun ec => by rcases vfr _ ec with q | q; exact p1 q; omega, by omega, p3⟩
/-- A number is read as it was written. -/
theorem dn_fwd {most n : Nat} (hm : most < 18446744073709551616) (hn : n ≤ most) (T : List Nat) : dnM most (sml n ++ T, false) = (n, (T, false)) := by
  have h := (upC hm).fwd n T hn
  unfold upM at h
  unfold dnM
  split at h
  · rename_i hc
    simp only [Bool.not_false, Bool.true_and] at hc
    rw [if_pos hc]
    exact h
  · injection h with h1 h2
    injection h2 with h3 h4
    cases h4
theorem kept_two {a w w' : World} {r r' : Option Nat} (h : Kept a w r) (k : Kept w w' r') (hr : ∀ g, r' = some g → r = some g ∨ a.heap.size ≤ g) : Kept a w' r :=
  ⟨k.os.trans h.os, k.tape.trans h.tape, k.output.trans h.output, Nat.le_trans h.size k.size, fun i hi hne => (k.block i (Nat.lt_of_lt_of_le hi h.size) (fun e => by
    rcases hr i e.symm with q | q
    · exact hne q.symm
    · omega)).trans (h.block i hi hne)⟩

end Go.Proofs.Ytnmfigcemknjbaa
