/-
  Texts joined: some of those that the proofs of this seat stand on.
-/
import Derived.Test.YtmjkhafifemegabSmallJ
import Derived.Test.YtmjkhafifemegabRead
import Derived.Test.YtmjkhafifemegabWorld
import Derived.Test.YtmjkhafifemegabMaths
import Derived.Test.YtmjkhafifemegabCrcJ
import Derived.Test.YtmjkhafifemegabSSiteBJ
import Derived.Test.YtmjkhafifemegabSFitsJ
import Derived.Test.YtmjkhafifemegabSTwinB
import Derived.Test.YtmjkhafifemegabSWholeJ
/-
  THE CONTRACT of the document's Read (stoplineref03.Read).
-/
namespace Go.Proofs.Ytmjkhafifemegab
open Go.RowKit Go.Lib Go.Deep
set_option linter.unusedVariables false
set_option linter.unusedSimpArgs false

theorem v7_drop (L : List Nat) (i : Nat) (h : i < L.length) : v7 (L.drop i) = L.getD i 0 % 128 + 128 * v7 (L.drop (i + 1)) := by
  rw [List.drop_eq_getElem_cons h, v7]; simp [h]
theorem v7_drop_le : ∀ (L : List Nat) (i : Nat), v7 (L.drop i) ≤ v7 L
  | [], i => by simp
  | x :: L, 0 => by simp
  | x :: L, i + 1 => by
    have := v7_drop_le L i
    rw [List.drop_succ_cons, v7]
    omega


end Go.Proofs.Ytmjkhafifemegab

/-
  Of the text RefN: what this stage needs (culled by a program).
-/
namespace Go.Proofs.Ytmjkhafifemegab
open Go.RowKit Go.Lib Go.Deep
set_option linter.unusedVariables false
set_option linter.unusedSimpArgs false

/-- The next number, up to a bound. -/
def dnM (most : Nat) (s : Rd) : Nat × Rd := if (okR s.1 && decide (rdN s.1 ≤ most)) = true then (rdN s.1, (s.1.drop (rdK s.1), s.2)) else (0, (s.1, true))
theorem dnM_le (most : Nat) (s : Rd) : (dnM most s).1 ≤ most := by
  unfold dnM
  split
  · rename_i h
    simp only [Bool.and_eq_true, decide_eq_true_eq] at h
    exact h.2
  · omega
theorem dnM_no {most : Nat} {s : Rd} (h : (okR s.1 && decide (rdN s.1 ≤ most)) = false) : dnM most s = (0, (s.1, true)) := by unfold dnM; rw [if_neg (by rw [h]; decide)]
theorem dnM_yes {most : Nat} {s : Rd} (h : (okR s.1 && decide (rdN s.1 ≤ most)) = true) : dnM most s = (rdN s.1, (s.1.drop (rdK s.1), s.2)) := by unfold dnM; rw [if_pos h]
/-- A reader in block b, below block H; the bytes that it reads lie below H too, and not in b. -/
structure Drd (w : World) (H b : Nat) (s : Rd) : Prop where
  ex : ∃ a n c, w.cell? ⟨b, 0, none⟩ = some (.slice a n c) ∧ Come w a n c s.1 ∧ (0 < n → ∀ x, a = some x → x.block < H ∧ x.block ≠ b)
  c1 : w.cell? ⟨b, 1, none⟩ = some (.bool s.2)
  f0 : w.frozen? ⟨b, 0, none⟩ = false
  f1 : w.frozen? ⟨b, 1, none⟩ = false
  lt : b < H
theorem dfrozen_block {w w' : World} {b j : Nat} (h : w'.heap[b]? = w.heap[b]?) : w'.frozen? ⟨b, j, none⟩ = w.frozen? ⟨b, j, none⟩ := by
  unfold World.frozen?
  simp only [h]
theorem Come.dkeptR {w w' : World} {r : Option Nat} {a : Option Addr} {n c : Nat} {L : List Nat} (h : Come w a n c L) (q : Kept w w' r) (hr : 0 < n → ∀ x, a = some x → some x.block ≠ r) : Come w' a n c L := by
  refine ⟨?_, h.nil, h.room, h.max⟩
  obtain ⟨h1, h2, h3, h4⟩ := h.by_
  refine ⟨h1, h2, h3, fun hp => ?_⟩
  obtain ⟨b, off, rfl, hb, hc⟩ := h4 hp
  exact ⟨b, off, rfl, Nat.lt_of_lt_of_le hb q.size, fun i hi => (World.cell?_of_block (w := w) (a := ⟨b, off + i, none⟩) (q.block b hb (hr hp _ rfl))).trans (hc i hi)⟩
theorem Drd.kept {w w' : World} {H b : Nat} {s : Rd} {r : Option Nat} (h : Drd w H b s) (q : Kept w w' r) (hr : ∀ i, r = some i → H ≤ i) : Drd w' H b s := by
  have hb : some b ≠ r := fun e => by have := hr b e.symm; have := h.lt; omega
  obtain ⟨a, n, c, h1, h2, h3⟩ := h.ex
  have hbl := block_lt h1
  exact ⟨⟨a, n, c, cell_keptR h1 q hb, h2.dkeptR q (fun hp x hx e => by have := hr _ e.symm; have := (h3 hp x hx).1; omega), h3⟩, cell_keptR h.c1 q hb, (dfrozen_block (q.block b hbl hb)).trans h.f0, (dfrozen_block (q.block b hbl hb)).trans h.f1, h.lt⟩
theorem dkept_set (w : World) (b j : Nat) (v : Value) : Kept w (w.setCell ⟨b, j, none⟩ v) (some b) :=
  ⟨rfl, rfl, rfl, by simp [World.setCell], fun k hk hr => by
    simp only [World.setCell]
    rw [Array.getElem?_modify, if_neg (fun e => hr (by rw [e]))]⟩
theorem dfrozen_set (w : World) (p a : Addr) (v : Value) : (w.setCell p v).frozen? a = w.frozen? a := World.frozen?_setCell _ _ _ _
theorem Drd.bad {w : World} {H b : Nat} {s : Rd} (h : Drd w H b s) : Drd (w.setCell ⟨b, 1, none⟩ (.bool true)) H b (s.1, true) := by
  obtain ⟨a, n, c, h1, h2, h3⟩ := h.ex
  exact ⟨⟨a, n, c, (World.cell?_setCell_other _ _ _ _ (by simp)).trans h1, h2.dkeptR (dkept_set _ _ _ _) (fun hp x hx e => (h3 hp x hx).2 (by injection e)), h3⟩, World.cell?_setCell_same' _ _ _ (by rw [h.c1]; rfl), (dfrozen_set _ _ _ _).trans h.f0, (dfrozen_set _ _ _ _).trans h.f1, h.lt⟩
theorem By.ddrop {w : World} {b off n : Nat} {L : List Nat} (h : By w (some ⟨b, off, none⟩) n L) (k : Nat) (hk : k ≤ n) : By w (some ⟨b, off + k, none⟩) (n - k) (L.drop k) := by
  obtain ⟨h1, h2, h3, h4⟩ := h
  refine ⟨by simp; omega, by omega, fun x hx => h3 x (List.mem_of_mem_drop hx), fun hp => ?_⟩
  obtain ⟨b', off', e, hb, hc⟩ := h4 (by omega)
  injection e with e
  injection e with e1 e2
  subst e1 e2
  refine ⟨b, off + k, rfl, hb, fun i hi => ?_⟩
  rw [Nat.add_assoc, hc (k + i) (by omega)]
  simp
theorem Drd.set {w : World} {H b : Nat} {L L' : List Nat} {bd : Bool} {a : Option Addr} {n c : Nat} (h : Drd w H b (L, bd)) (hC : Come w a n c L') (hx : 0 < n → ∀ x, a = some x → x.block < H ∧ x.block ≠ b) : Drd (w.setCell ⟨b, 0, none⟩ (.slice a n c)) H b (L', bd) := by
  obtain ⟨a0, n0, c0, h1, _, _⟩ := h.ex
  exact ⟨⟨a, n, c, World.cell?_setCell_same' _ _ _ (by rw [h1]; rfl), hC.dkeptR (dkept_set _ _ _ _) (fun hp x hxx e => (hx hp x hxx).2 (by injection e)), hx⟩, (World.cell?_setCell_other _ _ _ _ (by simp)).trans h.c1, (dfrozen_set _ _ _ _).trans h.f0, (dfrozen_set _ _ _ _).trans h.f1, h.lt⟩
end Go.Proofs.Ytmjkhafifemegab

/-
  Of the text PlG: what this stage needs (culled by a program).
-/
namespace Go.Proofs.Ytmjkhafifemegab
open Go.RowKit Go.Lib Go.Deep
set_option linter.unusedVariables false
set_option linter.unusedSimpArgs false

/-- Nothing between two places has changed. -/
structure Stay (base : Nat) (w w' : World) : Prop where
  size : w.heap.size ≤ w'.heap.size
  block : ∀ i, base ≤ i → i < w.heap.size → w'.heap[i]? = w.heap[i]?
theorem Stay.refl (base : Nat) (w : World) : Stay base w w := ⟨Nat.le_refl _, fun _ _ _ => rfl⟩
/-- One more step: a row below the base, or behind the first world. -/
theorem Stay.step {base : Nat} {a w w' : World} {r : Option Nat} (h : Stay base a w) (k : Kept w w' r) (hr : ∀ g, r = some g → g < base ∨ a.heap.size ≤ g) : Stay base a w' :=
  ⟨Nat.le_trans h.size k.size, fun i hb hi => (k.block i (Nat.lt_of_lt_of_le hi h.size) (fun e => by rcases hr i e.symm with q | q <;> omega)).trans (h.block i hb hi)⟩
theorem own_stay {w w' : World} {base n k : Nat} {e : TypeId} {v : Value} {xs : List Value} (h : w.ownsRow base e k v n xs) (q : Stay base w w') : w'.ownsRow base e k v n xs := by
  refine ⟨h.1, ?_⟩
  rcases id h.2 with ⟨rfl, h0⟩ | ⟨b, cap, cur, rfl, hb, hh, h4⟩
  · exact .inl ⟨rfl, h0⟩
  · exact .inr ⟨b, cap, cur, rfl, hb, (q.block b hb (Array.getElem?_eq_some_iff.1 hh).1).trans hh, h4⟩
theorem Ints.stay {w w' : World} {base : Nat} {a : Option Addr} {n c : Nat} {l : List Int} (h : Ints w a n c l) (q : Stay base w w') (hb : ∀ b, a = some b → base ≤ b.block) : Ints w' a n c l :=
  ⟨⟨fun hp => by
    obtain ⟨b, off, rfl, hl, hc⟩ := h.lie.at_ hp
    exact ⟨b, off, rfl, Nat.lt_of_lt_of_le hl q.size, fun i hi j hj => (World.cell?_of_block (w := w) (a := ⟨b, off + i * 1 + j, none⟩) (q.block b (hb _ rfl) hl)).trans (hc i hi j hj)⟩⟩, h.size, h.cap, h.rng⟩
/-- A list of plans of one's own. -/
structure PlS (wr : World) (base : Nat) (v : Value) (l : List Pl) : Prop where
  ex : ∃ r : Nat → Option Addr × Nat, wr.ownsRow base 64 3 v l.length (cellsL l.length 3 (fun i j => plV (l.getD i q0) (r i).1 (r i).2 j)) ∧ (∀ i, i < l.length → Ints wr (r i).1 (l.getD i q0).splits.length (r i).2 (l.getD i q0).splits) ∧ (∀ i, i < l.length → ∀ b, (r i).1 = some b → v.ownBlock ≠ some b.block ∧ b.block < wr.heap.size ∧ base ≤ b.block)
theorem PlS.nil (w : World) (base : Nat) : PlS w base (.slice none 0 0) [] := ⟨⟨fun _ => (none, 0), World.ownsRow_nil _ _ _ _, fun i hi => by simp at hi, fun i hi => by simp at hi⟩⟩
theorem PlS.stay {w w' : World} {base : Nat} {v : Value} {l : List Pl} (h : PlS w base v l) (q : Stay base w w') : PlS w' base v l := by
  obtain ⟨r, h1, h2, h3⟩ := h.ex
  exact ⟨⟨r, own_stay h1 q, fun i hi => (h2 i hi).stay q (fun b e => (h3 i hi b e).2.2), fun i hi b e => ⟨(h3 i hi b e).1, Nat.lt_of_lt_of_le (h3 i hi b e).2.1 q.size, (h3 i hi b e).2.2⟩⟩⟩
theorem PlS.lt {w : World} {base : Nat} {v : Value} {l : List Pl} (h : PlS w base v l) : ∀ g, v.ownBlock = some g → base ≤ g ∧ g < w.heap.size := by
  obtain ⟨r, h1, _, _⟩ := h.ex
  exact own_lt h1
theorem PlS.shape {w : World} {base : Nat} {v : Value} {l : List Pl} (h : PlS w base v l) : ∃ a c, v = .slice a l.length c := by
  obtain ⟨r, h1, _, _⟩ := h.ex
  obtain ⟨a, c, e, _⟩ := lie_own (by omega) h1
  exact ⟨a, c, e⟩
theorem PlS.plans {w : World} {base : Nat} {v : Value} {l : List Pl} (h : PlS w base v l) (hr : ∀ p ∈ l, i64B p.cycle ∧ i64B p.offset) : ∃ a c, v = .slice a l.length c ∧ Plans w a l.length c l := by
  obtain ⟨r, h1, h2, _⟩ := h.ex
  obtain ⟨a, c, e, hl, hc, _⟩ := lie_own (by omega) h1
  exact ⟨a, c, e, ⟨⟨r, hl, h2⟩, rfl, hc, hr⟩⟩
theorem getD_snocP (l : List Pl) (p : Pl) (i : Nat) : (l ++ [p]).getD i q0 = if i = l.length then p else l.getD i q0 := by
  by_cases h : i = l.length
  · subst h; simp
  · rw [if_neg h]
    by_cases h2 : i < l.length
    · simp [h2, List.getElem?_append_left]
    · rw [List.getD_eq_getElem?_getD, List.getD_eq_getElem?_getD, List.getElem?_eq_none (by simp; omega), List.getElem?_eq_none (by omega)]
theorem PlS.grow {W : World} {base : Nat} {v : Value} {l : List Pl} {p : Pl} {a' : Option Addr} {cap : Nat} (h : PlS W base v l) (hI : Ints W a' p.splits.length cap p.splits) (hb : ∀ b, a' = some b → v.ownBlock ≠ some b.block ∧ b.block < W.heap.size ∧ base ≤ b.block) (hk : l.length ≤ 40) (hbase : base ≤ W.heap.size) :
    ∃ v' W5, (Builtin.append_ #[25, 25] 25 #[v, .slice (some ⟨W.heap.size, 0, none⟩) 1 1]).run Try.prog (W.alloc (plB p a' cap)) = .ok v' W5 ∧ PlS W5 base v' (l ++ [p]) ∧ Kept W W5 v.ownBlock := by
  obtain ⟨r, ho, hi, hbb⟩ := h.ex
  obtain ⟨i0, hi0, hz0, hz1, hz2⟩ := info_parts Try.infoPl
  have k4 : Kept W (W.alloc (plB p a' cap)) none := Kept.alloc _ _ _ _ _
  have z4 : (W.alloc (plB p a' cap)).heap.size = W.heap.size + 1 := by simp
  have q0' : ∀ j, j < 3 → (W.alloc (plB p a' cap)).cell? ⟨W.heap.size, 0 + j, none⟩ = some (plV p a' cap j) := fun j hj => by
    have : j = 0 ∨ j = 1 ∨ j = 2 := by omega
    rw [Nat.zero_add]
    refine alloc_at2 _ _ _ rfl ?_
    rcases this with rfl | rfl | rfl <;> rfl
  generalize W.alloc (plB p a' cap) = W4 at *
  have own4 := own_keptR' ho k4 (fun g _ => by simp)
  obtain ⟨v', W5, hr, g1, g2, g3⟩ := grow_run (t := 25) (ty := 25) (c := 1) Try.uPls hi0 hz0 hz1 hz2 rfl (by omega) (by omega) own4 q0' (fun j => by unfold plV; split <;> rfl) (by omega) (by omega)
  have g2' : Kept W4 W5 v.ownBlock := g2
  have hk45 : Kept W W5 v.ownBlock := ⟨g2'.os.trans k4.os, g2'.tape.trans k4.tape, g2'.output.trans k4.output, Nat.le_trans k4.size g2'.size, fun i hi hne => (g2'.block i (Nat.lt_of_lt_of_le hi k4.size) hne).trans (k4.block i hi (by simp))⟩
  have vfr : ∀ g, v'.ownBlock = some g → v.ownBlock = some g ∨ W.heap.size ≤ g := fun g hg => by
    rcases g3 with e | e
    · exact .inl (e.symm.trans hg)
    · rw [e] at hg; injection hg with hg; exact .inr (by omega)
  refine ⟨v', W5, hr, ⟨⟨fun i => if i = l.length then (a', cap) else r i, ?_, fun i hik => ?_, fun i hik b e => ?_⟩⟩, hk45⟩
  · rw [List.length_append]
    have he : cellsL (l.length + 1) 3 (fun i j => if i = l.length then plV p a' cap j else plV (l.getD i q0) (r i).1 (r i).2 j) = cellsL (l.length + [p].length) 3 (fun i j => plV ((l ++ [p]).getD i q0) ((if i = l.length then (a', cap) else r i) : Option Addr × Nat).1 ((if i = l.length then (a', cap) else r i) : Option Addr × Nat).2 j) := by
      show cellsL (l.length + 1) 3 _ = cellsL (l.length + 1) 3 _
      unfold cellsL
      refine List.map_congr_left fun q _ => ?_
      show (if q / 3 = l.length then plV p a' cap (q % 3) else plV (l.getD (q / 3) q0) (r (q / 3)).1 (r (q / 3)).2 (q % 3)) = plV ((l ++ [p]).getD (q / 3) q0) ((if q / 3 = l.length then (a', cap) else r (q / 3)) : Option Addr × Nat).1 ((if q / 3 = l.length then (a', cap) else r (q / 3)) : Option Addr × Nat).2 (q % 3)
      rw [getD_snocP]
      by_cases e : q / 3 = l.length
      · rw [if_pos e, if_pos e, if_pos e]
      · rw [if_neg e, if_neg e, if_neg e]
    rw [← he]
    exact g1
  · rw [getD_snocP]
    by_cases e : i = l.length
    · rw [if_pos e]
      simp only [if_pos e]
      exact hI.keptS hk45 (fun b eb ec => (hb b eb).1 ec.symm)
    · rw [if_neg e]
      simp only [if_neg e]
      have hil : i < l.length := by rw [List.length_append] at hik; simp at hik; omega
      exact (hi i hil).keptS hk45 (fun b eb ec => (hbb i hil b eb).1 ec.symm)
  · have hs5 := hk45.size
    by_cases ei : i = l.length
    · simp only [if_pos ei] at e
      obtain ⟨p1, p2, p3⟩ := hb b e
      exact ⟨fun ec => by rcases vfr _ ec with q | q; exact p1 q; omega, by omega, p3⟩
    · simp only [if_neg ei] at e
      have hil : i < l.length := by rw [List.length_append] at hik; simp at hik; omega
      obtain ⟨p1, p2, p3⟩ := hbb i hil b e
      exact ⟨fun ec => by rcases vfr _ ec with q | q; exact p1 q; omega, by omega, p3⟩
/-- A number is read as it was written. -/
theorem dn_fwd {most n : Nat} (hm : most < 18446744073709551616) (hn : n ≤ most) (T : List Nat) : dnM most (sml n ++ T, false) = (n, (T, false)) := by
  have h := (upC hm).fwd n T hn
  unfold upM at h
  unfold dnM
  split at h
  · rename_i hc
    simp only [Bool.not_false, Bool.true_and] at hc
    rw [if_pos hc]
    exact h
  · injection h with h1 h2
    injection h2 with h3 h4
    cases h4
theorem kept_two {a w w' : World} {r r' : Option Nat} (h : Kept a w r) (k : Kept w w' r') (hr : ∀ g, r' = some g → r = some g ∨ a.heap.size ≤ g) : Kept a w' r :=
  ⟨k.os.trans h.os, k.tape.trans h.tape, k.output.trans h.output, Nat.le_trans h.size k.size, fun i hi hne => (k.block i (Nat.lt_of_lt_of_le hi h.size) (fun e => by
    rcases hr i e.symm with q | q
    · exact hne q.symm
    · omega)).trans (h.block i hi hne)⟩

end Go.Proofs.Ytmjkhafifemegab

