/-
  Texts joined: some of those that the proofs of this seat stand on.
-/
import Derived.Test.YtlabjamkaebnjaaMathsJ
import Derived.Test.YtlabjamkaebnjaaSmallJ
import Derived.Test.YtlabjamkaebnjaaSFitsJ
import Derived.Laws.MakeOwn
/-
  Of the text SiteB: what this stage needs (culled by a program).
-/
namespace Go.Proofs.Ytlabjamkaebnjaa
open Go.RowKit Go.Lib Go.Deep
set_option linter.unusedVariables false
set_option linter.unusedSimpArgs false

def grI (g : Gr) : List Int := [(g.kind : Int), g.min, g.yellow]
def phI (p : Ph) : List Int := [(p.groups : Int), p.min, p.max, p.gap, if p.always = true then 1 else 0]
def eyI (e : Ey) : List Int := [e.phase, e.on, e.off, e.turns]
def apI (x : Nat) : List Int := [(x : Int)]
/-- A site's numbers, part by part. -/
def I1 (S : St) : List Int := [S.id, (S.groups.length : Int)]
def I2 (S : St) (k : Nat) : List Int := I1 S ++ (S.groups.take k).flatMap grI
def I3 (S : St) (k : Nat) : List Int := I2 S S.groups.length ++ (S.apart.take k).flatMap apI
def I4 (S : St) (k : Nat) : List Int := I3 S S.apart.length ++ (S.between.take k).flatten
def I5 (S : St) (k : Nat) : List Int := I4 S S.between.length ++ [(S.phases.length : Int)] ++ (S.phases.take k).flatMap phI
def I6 (S : St) (k : Nat) : List Int := I5 S S.phases.length ++ [(S.eyes.length : Int)] ++ (S.eyes.take k).flatMap eyI
def I7 (S : St) : List Int := I6 S S.eyes.length ++ [S.watch, S.feed, S.heal, S.low, S.high]
def siteI (S : St) : List Int := I7 S ++ plansI S.plans
def siteL (S : St) : List Nat := smlI (siteI S)

/-- The list so far. -/
structure Lst (w0 wr : World) (a : Option Addr) (n c : Nat) (P : List Int) (bd : Nat) : Prop where
  mine : Mine wr w0.heap.size a n c (smlI P)
  size : n = (smlI P).length
  le : n ≤ bd
  kept : Kept w0 wr none
theorem Lst.grow {w0 wr w' : World} {a a' : Option Addr} {n c c' : Nat} {P l Q : List Int} {bd bd' : Nat} (h : Lst w0 wr a n c P bd) (hm : Mine w' w0.heap.size a' (n + (smlI l).length) c' (smlI P ++ smlI l)) (hk : Kept w0 w' none) (hQ : Q = P ++ l) (hb : bd + (smlI l).length ≤ bd') : Lst w0 w' a' (n + (smlI l).length) c' Q bd' := by
  subst hQ
  refine ⟨by rw [smlI_append]; exact hm, by rw [smlI_append, List.length_append, h.size], by have := h.le; omega, hk⟩
end Go.Proofs.Ytlabjamkaebnjaa

/-
  Of the text CodM: what this stage needs (culled by a program).
-/
namespace Go.Proofs.Ytlabjamkaebnjaa
set_option linter.unusedVariables false
set_option linter.unusedSimpArgs false

/-- The bytes that are left, and whether something was bad. -/
abbrev Rd := List Nat × Bool
def upM (most : Nat) (s : Rd) : Nat × Rd := if (!s.2 && (okR s.1 && decide (rdN s.1 ≤ most))) = true then (rdN s.1, (s.1.drop (rdK s.1), false)) else (0, (s.1, true))
def numM (s : Rd) : Int × Rd := (((upM 1048576 s).1 : Int), (upM 1048576 s).2)
def listM {α : Type} (f : Rd → α × Rd) : Nat → Rd → List α × Rd
  | 0, s => ([], s)
  | n + 1, s => ((f s).1 :: (listM f n (f s).2).1, (listM f n (f s).2).2)
theorem listM_len {α : Type} (f : Rd → α × Rd) : ∀ n s, (listM f n s).1.length = n
  | 0, s => rfl
  | n + 1, s => by rw [listM, List.length_cons, listM_len f n]
theorem listM_snoc {α : Type} (f : Rd → α × Rd) : ∀ n s, listM f (n + 1) s = ((listM f n s).1 ++ [(f (listM f n s).2).1], (f (listM f n s).2).2)
  | 0, s => rfl
  | n + 1, s => by
    have h := listM_snoc f n (f s).2
    rw [listM, h]
    rfl
def bindM {α β : Type} (p : Rd → α × Rd) (q : α → Rd → β × Rd) (s : Rd) : (α × β) × Rd := (((p s).1, (q (p s).1 (p s).2).1), (q (p s).1 (p s).2).2)
def mapM' {α β : Type} (f : α → β) (p : Rd → α × Rd) (s : Rd) : β × Rd := (f (p s).1, (p s).2)
structure Cod {α : Type} (p : Rd → α × Rd) (enc : α → List Nat) (ok : α → Prop) : Prop where
  fwd : ∀ x T, ok x → p (enc x ++ T, false) = (x, (T, false))
  bwd : ∀ L, (∀ y ∈ L, y < 256) → (p (L, false)).2.2 = false → L = enc (p (L, false)).1 ++ (p (L, false)).2.1 ∧ ok (p (L, false)).1
  bad : ∀ L, (p (L, true)).2.2 = true
theorem Cod.bind {α β : Type} {p : Rd → α × Rd} {q : α → Rd → β × Rd} {ea : α → List Nat} {eb : α → β → List Nat} {oa : α → Prop} {ob : α → β → Prop} (hp : Cod p ea oa) (hq : ∀ x, Cod (q x) (eb x) (ob x)) : Cod (bindM p q) (fun z => ea z.1 ++ eb z.1 z.2) (fun z => oa z.1 ∧ ob z.1 z.2) := by
  refine ⟨fun z T h => ?_, fun L hL h => ?_, fun L => ?_⟩
  · unfold bindM
    rw [List.append_assoc, hp.fwd z.1 _ h.1]
    show (((z.1, (q z.1 (eb z.1 z.2 ++ T, false)).1), (q z.1 (eb z.1 z.2 ++ T, false)).2)) = _
    rw [(hq z.1).fwd z.2 T h.2]
  · unfold bindM at h ⊢
    have h1 : (p (L, false)).2.2 = false := by
      cases e : (p (L, false)).2.2 with
      | false => rfl
      | true =>
        have e2 : (p (L, false)).2 = ((p (L, false)).2.1, true) := Prod.ext rfl e
        have := (hq (p (L, false)).1).bad (p (L, false)).2.1
        rw [← e2] at this
        exact absurd (h.symm.trans this) (by simp)
    obtain ⟨g1, g2⟩ := hp.bwd L hL h1
    have e2 : (p (L, false)).2 = ((p (L, false)).2.1, false) := Prod.ext rfl h1
    have hL2 : ∀ y ∈ (p (L, false)).2.1, y < 256 := fun y hy => hL y (by rw [g1]; exact List.mem_append.2 (.inr hy))
    have h' : (q (p (L, false)).1 ((p (L, false)).2.1, false)).2.2 = false := by rw [← e2]; exact h
    obtain ⟨g3, g4⟩ := (hq (p (L, false)).1).bwd _ hL2 h'
    rw [← e2] at g3 g4
    refine ⟨?_, g2, g4⟩
    show L = ea (p (L, false)).1 ++ eb _ _ ++ _
    rw [List.append_assoc, ← g3]
    exact g1
  · unfold bindM
    have e2 : (p (L, true)).2 = ((p (L, true)).2.1, true) := Prod.ext rfl (hp.bad L)
    rw [e2]
    exact (hq _).bad _
theorem Cod.map {α β : Type} {p : Rd → α × Rd} {ea : α → List Nat} {oa : α → Prop} {eb : β → List Nat} {ob : β → Prop} (hp : Cod p ea oa) (f : α → β) (g : β → α) (h1 : ∀ y, ob y → f (g y) = y ∧ oa (g y) ∧ eb y = ea (g y)) (h2 : ∀ x, oa x → ob (f x) ∧ eb (f x) = ea x) : Cod (mapM' f p) eb ob := by
  refine ⟨fun y T h => ?_, fun L hL h => ?_, fun L => hp.bad L⟩
  · obtain ⟨a1, a2, a3⟩ := h1 y h
    unfold mapM'
    rw [a3, hp.fwd _ T a2, a1]
  · obtain ⟨g1, g2⟩ := hp.bwd L hL h
    obtain ⟨b1, b2⟩ := h2 _ g2
    refine ⟨?_, b1⟩
    show L = eb (f (p (L, false)).1) ++ _
    rw [b2]
    exact g1
theorem Cod.list {α : Type} {p : Rd → α × Rd} {ea : α → List Nat} {oa : α → Prop} (hp : Cod p ea oa) : ∀ n, Cod (listM p n) (fun l => l.flatMap ea) (fun l => l.length = n ∧ ∀ x ∈ l, oa x)
  | 0 => ⟨fun l T h => by
      have : l = [] := List.length_eq_zero_iff.1 h.1
      subst this; rfl, fun L hL h => ⟨rfl, rfl, fun x hx => (nomatch hx)⟩, fun L => rfl⟩
  | n + 1 => by
    have ih := Cod.list hp n
    refine ⟨fun l T h => ?_, fun L hL h => ?_, fun L => ?_⟩
    · cases l with
      | nil => simp at h
      | cons x l =>
        rw [listM, List.flatMap_cons, List.append_assoc, hp.fwd x _ (h.2 x (List.mem_cons_self ..))]
        show ((x :: (listM p n (l.flatMap ea ++ T, false)).1, (listM p n (l.flatMap ea ++ T, false)).2)) = _
        rw [ih.fwd l T ⟨by simpa using h.1, fun y hy => h.2 y (List.mem_cons_of_mem _ hy)⟩]
    · rw [listM] at h ⊢
      have h1 : (p (L, false)).2.2 = false := by
        cases e : (p (L, false)).2.2 with
        | false => rfl
        | true =>
          have e2 : (p (L, false)).2 = ((p (L, false)).2.1, true) := Prod.ext rfl e
          have := ih.bad (p (L, false)).2.1
          rw [← e2] at this
          exact absurd (h.symm.trans this) (by simp)
      obtain ⟨g1, g2⟩ := hp.bwd L hL h1
      have e2 : (p (L, false)).2 = ((p (L, false)).2.1, false) := Prod.ext rfl h1
      have hL2 : ∀ y ∈ (p (L, false)).2.1, y < 256 := fun y hy => hL y (by rw [g1]; exact List.mem_append.2 (.inr hy))
      have h' : (listM p n ((p (L, false)).2.1, false)).2.2 = false := by rw [← e2]; exact h
      obtain ⟨g3, g4⟩ := ih.bwd _ hL2 h'
      rw [← e2] at g3 g4
      refine ⟨?_, by simp [g4.1], fun x hx => ?_⟩
      · show L = ((p (L, false)).1 :: (listM p n (p (L, false)).2).1).flatMap ea ++ _
        rw [List.flatMap_cons, List.append_assoc, ← g3]
        exact g1
      · rcases List.mem_cons.1 hx with rfl | hx
        · exact g2
        · exact g4.2 x hx
    · rw [listM]
      have e2 : (p (L, true)).2 = ((p (L, true)).2.1, true) := Prod.ext rfl (hp.bad L)
      show (listM p n (p (L, true)).2).2.2 = true
      rw [e2]
      exact ih.bad _
theorem upC {most : Nat} (hm : most < 18446744073709551616) : Cod (upM most) sml (fun n => n ≤ most) := by
  refine ⟨fun n T h => ?_, fun L hL h => ?_, fun L => rfl⟩
  · obtain ⟨h1, h2, h3⟩ := read_sml n T (by omega)
    have h4 : okR (sml n ++ T) = true := by
      cases e : okR (sml n ++ T) with
      | true => rfl
      | false => unfold rdE at h1; rw [e] at h1; cases h1
    unfold upM
    rw [if_pos (by simp [h4, h2, h]), h2, h3]
    simp
  · unfold upM at h ⊢
    split at h
    · rename_i hc
      rw [if_pos hc]
      simp only [Bool.not_false, Bool.true_and, Bool.and_eq_true, decide_eq_true_eq] at hc
      obtain ⟨g1, _, _, _⟩ := read_only L hL hc.1
      exact ⟨by rw [g1, List.take_append_drop], hc.2⟩
    · cases h
theorem numC : Cod numM (fun x : Int => sml x.toNat) (fun x => 0 ≤ x ∧ x ≤ 1048576) :=
  (upC (most := 1048576) (by omega)).map (fun n : Nat => (n : Int)) Int.toNat (fun y hy => ⟨by omega, by omega, rfl⟩) (fun x hx => ⟨⟨by omega, by omega⟩, rfl⟩)
def countM {α : Type} (most : Nat) (f : Rd → α × Rd) (s : Rd) : List α × Rd := listM f (upM most s).1 (upM most s).2
theorem countC {α : Type} {p : Rd → α × Rd} {ea : α → List Nat} {oa : α → Prop} (hp : Cod p ea oa) {most : Nat} (hm : most < 18446744073709551616) : Cod (countM most p) (fun l => sml l.length ++ l.flatMap ea) (fun l => l.length ≤ most ∧ ∀ x ∈ l, oa x) :=
  ((upC hm).bind (fun n => hp.list n)).map (fun z => z.2) (fun l => (l.length, l)) (fun y hy => ⟨rfl, ⟨hy.1, rfl, hy.2⟩, rfl⟩) (fun x hx => ⟨⟨by rw [hx.2.1]; exact hx.1, hx.2.2⟩, by
    show sml x.2.length ++ _ = sml x.1 ++ _
    rw [hx.2.1]⟩)

/-! ### The parts of a site -/
def plM : Rd → Pl × Rd := mapM' (fun z : Int × (Int × List Int) => (⟨z.1, z.2.1, z.2.2⟩ : Pl)) (bindM numM (fun _ => bindM numM (fun _ => countM 8 numM)))
theorem plC : Cod plM (fun p => smlI (plI p)) (fun p => (0 ≤ p.cycle ∧ p.cycle ≤ 1048576) ∧ (0 ≤ p.offset ∧ p.offset ≤ 1048576) ∧ p.splits.length ≤ 8 ∧ ∀ x ∈ p.splits, 0 ≤ x ∧ x ≤ 1048576) := by
  unfold plM
  exact (numC.bind (fun _ => numC.bind (fun _ => countC numC (most := 8) (by omega)))).map _ (fun p : Pl => (p.cycle, (p.offset, p.splits))) (fun y hy => ⟨rfl, hy, by simp [smlI, plI]⟩) (fun x hx => ⟨hx, by simp [smlI, plI]⟩)
def plansM : Rd → List Pl × Rd := countM 8 plM
theorem smlI_flatMap {α : Type} (f : α → List Int) (l : List α) : l.flatMap (fun x => smlI (f x)) = smlI (l.flatMap f) := by
  induction l with
  | nil => rfl
  | cons x l ih => rw [List.flatMap_cons, List.flatMap_cons, smlI_append, ih]
theorem plansC : Cod plansM (fun l => smlI (plansI l)) (fun l => l.length ≤ 8 ∧ ∀ p ∈ l, (0 ≤ p.cycle ∧ p.cycle ≤ 1048576) ∧ (0 ≤ p.offset ∧ p.offset ≤ 1048576) ∧ p.splits.length ≤ 8 ∧ ∀ x ∈ p.splits, 0 ≤ x ∧ x ≤ 1048576) := by
  have h := countC plC (most := 8) (by omega)
  have e : ∀ l : List Pl, smlI (plansI l) = sml l.length ++ l.flatMap (fun p => smlI (plI p)) := fun l => by
    rw [smlI_flatMap]
    simp [plansI, smlI]
  exact ⟨fun x T hx => by rw [e]; exact h.fwd x T hx, fun L hL hh => by rw [e]; exact h.bwd L hL hh, h.bad⟩

def tickP (x : Int) : Prop := 0 ≤ x ∧ x ≤ 1048576
end Go.Proofs.Ytlabjamkaebnjaa

/-
  Of the text Rdr: what this stage needs (culled by a program).
-/
namespace Go.Proofs.Ytlabjamkaebnjaa
open Go.RowKit Go.Lib Go.Deep
set_option linter.unusedVariables false
set_option linter.unusedSimpArgs false

/-- A reader in block b, below block H; the bytes that it reads lie below H too, and not in b. -/
structure Rdr (w : World) (H b : Nat) (s : Rd) : Prop where
  ex : ∃ a n c, w.cell? ⟨b, 0, none⟩ = some (.slice a n c) ∧ Come w a n c s.1 ∧ (0 < n → ∀ x, a = some x → x.block < H ∧ x.block ≠ b)
  c1 : w.cell? ⟨b, 1, none⟩ = some (.bool s.2)
  f0 : w.frozen? ⟨b, 0, none⟩ = false
  f1 : w.frozen? ⟨b, 1, none⟩ = false
  c2 : ∃ v, w.cell? ⟨b, 2, none⟩ = some v
  f2 : w.frozen? ⟨b, 2, none⟩ = false
  lt : b < H
theorem frozen_block {w w' : World} {b j : Nat} (h : w'.heap[b]? = w.heap[b]?) : w'.frozen? ⟨b, j, none⟩ = w.frozen? ⟨b, j, none⟩ := by
  unfold World.frozen?
  simp only [h]
theorem Come.keptR {w w' : World} {r : Option Nat} {a : Option Addr} {n c : Nat} {L : List Nat} (h : Come w a n c L) (q : Kept w w' r) (hr : 0 < n → ∀ x, a = some x → some x.block ≠ r) : Come w' a n c L := by
  refine ⟨?_, h.nil, h.room, h.max⟩
  obtain ⟨h1, h2, h3, h4⟩ := h.by_
  refine ⟨h1, h2, h3, fun hp => ?_⟩
  obtain ⟨b, off, rfl, hb, hc⟩ := h4 hp
  exact ⟨b, off, rfl, Nat.lt_of_lt_of_le hb q.size, fun i hi => (World.cell?_of_block (w := w) (a := ⟨b, off + i, none⟩) (q.block b hb (hr hp _ rfl))).trans (hc i hi)⟩
/-- What changes neither b nor anything below H. -/
theorem Rdr.kept {w w' : World} {H b : Nat} {s : Rd} {r : Option Nat} (h : Rdr w H b s) (q : Kept w w' r) (hr : ∀ i, r = some i → H ≤ i) : Rdr w' H b s := by
  have hb : some b ≠ r := fun e => by have := hr b e.symm; have := h.lt; omega
  obtain ⟨a, n, c, h1, h2, h3⟩ := h.ex
  have hbl := block_lt h1
  refine ⟨⟨a, n, c, cell_keptR h1 q hb, h2.keptR q (fun hp x hx e => by have := hr _ e.symm; have := (h3 hp x hx).1; omega), h3⟩, cell_keptR h.c1 q hb, (frozen_block (q.block b hbl hb)).trans h.f0, (frozen_block (q.block b hbl hb)).trans h.f1, h.c2.imp (fun v hv => cell_keptR hv q hb), (frozen_block (q.block b hbl hb)).trans h.f2, h.lt⟩
theorem kept_set (w : World) (b j : Nat) (v : Value) : Kept w (w.setCell ⟨b, j, none⟩ v) (some b) :=
  ⟨rfl, rfl, rfl, by simp [World.setCell], fun k hk hr => by
    simp only [World.setCell]
    rw [Array.getElem?_modify, if_neg (fun e => hr (by rw [e]))]⟩
theorem frozen_set (w : World) (p a : Addr) (v : Value) : (w.setCell p v).frozen? a = w.frozen? a := World.frozen?_setCell _ _ _ _
theorem Rdr.bad {w : World} {H b : Nat} {s : Rd} (h : Rdr w H b s) : Rdr (w.setCell ⟨b, 1, none⟩ (.bool true)) H b (s.1, true) := by
  obtain ⟨a, n, c, h1, h2, h3⟩ := h.ex
  refine ⟨⟨a, n, c, (World.cell?_setCell_other _ _ _ _ (by simp)).trans h1, h2.keptR (kept_set _ _ _ _) (fun hp x hx e => (h3 hp x hx).2 (by injection e)), h3⟩, World.cell?_setCell_same' _ _ _ (by rw [h.c1]; rfl), (frozen_set _ _ _ _).trans h.f0, (frozen_set _ _ _ _).trans h.f1, h.c2.imp (fun v hv => (World.cell?_setCell_other _ _ _ _ (by simp)).trans hv), (frozen_set _ _ _ _).trans h.f2, h.lt⟩
theorem Rdr.put {w : World} {H b : Nat} {s : Rd} (h : Rdr w H b s) (v : Value) : Rdr (w.setCell ⟨b, 2, none⟩ v) H b s := by
  obtain ⟨a, n, c, h1, h2, h3⟩ := h.ex
  obtain ⟨u, hu⟩ := h.c2
  exact ⟨⟨a, n, c, (World.cell?_setCell_other _ _ _ _ (by simp)).trans h1, h2.keptR (kept_set _ _ _ _) (fun hp x hx e => (h3 hp x hx).2 (by injection e)), h3⟩, (World.cell?_setCell_other _ _ _ _ (by simp)).trans h.c1, (frozen_set _ _ _ _).trans h.f0, (frozen_set _ _ _ _).trans h.f1, ⟨v, World.cell?_setCell_same' _ _ _ (by rw [hu]; rfl)⟩, (frozen_set _ _ _ _).trans h.f2, h.lt⟩
theorem By.drop {w : World} {b off n : Nat} {L : List Nat} (h : By w (some ⟨b, off, none⟩) n L) (k : Nat) (hk : k ≤ n) : By w (some ⟨b, off + k, none⟩) (n - k) (L.drop k) := by
  obtain ⟨h1, h2, h3, h4⟩ := h
  refine ⟨by simp; omega, by omega, fun x hx => h3 x (List.mem_of_mem_drop hx), fun hp => ?_⟩
  obtain ⟨b', off', e, hb, hc⟩ := h4 (by omega)
  injection e with e
  injection e with e1 e2
  subst e1 e2
  refine ⟨b, off + k, rfl, hb, fun i hi => ?_⟩
  rw [Nat.add_assoc, hc (k + i) (by omega)]
  simp
theorem Rdr.set {w : World} {H b : Nat} {L L' : List Nat} {bd : Bool} {a : Option Addr} {n c : Nat} (h : Rdr w H b (L, bd)) (hC : Come w a n c L') (hx : 0 < n → ∀ x, a = some x → x.block < H ∧ x.block ≠ b) : Rdr (w.setCell ⟨b, 0, none⟩ (.slice a n c)) H b (L', bd) := by
  obtain ⟨a0, n0, c0, h1, _, _⟩ := h.ex
  refine ⟨⟨a, n, c, World.cell?_setCell_same' _ _ _ (by rw [h1]; rfl), hC.keptR (kept_set _ _ _ _) (fun hp x hxx e => (hx hp x hxx).2 (by injection e)), hx⟩, (World.cell?_setCell_other _ _ _ _ (by simp)).trans h.c1, (frozen_set _ _ _ _).trans h.f0, (frozen_set _ _ _ _).trans h.f1, h.c2.imp (fun v hv => (World.cell?_setCell_other _ _ _ _ (by simp)).trans hv), (frozen_set _ _ _ _).trans h.f2, h.lt⟩
theorem upM_no {most : Nat} {s : Rd} (h : (!s.2 && (okR s.1 && decide (rdN s.1 ≤ most))) = false) : upM most s = (0, (s.1, true)) := by unfold upM; rw [if_neg (by rw [h]; decide)]
theorem upM_yes {most : Nat} {s : Rd} (h : (!s.2 && (okR s.1 && decide (rdN s.1 ≤ most))) = true) : upM most s = (rdN s.1, (s.1.drop (rdK s.1), false)) := by unfold upM; rw [if_pos h]
set_option maxRecDepth 100000 in
set_option maxHeartbeats 1000000 in
theorem upTo_any {w : World} {H b : Nat} {s : Rd} (h : Rdr w H b s) (most : Nat) (hm : most < 18446744073709551616) : Calls Try.prog 93 #[.pointer (some ⟨b, 0, none⟩), .int .u64 most] w fun e w' => e = .returned (.int .u64 ((upM most s).1 : Int)) ∧ Rdr w' H b (upM most s).2 ∧ Kept w w' (some b) := by
  have HR := Hid.mk' h
  obtain ⟨a, n, c, h1, h2, h3⟩ := h.ex
  have c1 := h.c1
  have f0 := h.f0
  have f1 := h.f1
  have HC := Hid.mk' h2
  have HX := Hid.mk' h3
  have hnN := rdN_lt s.1
  have hroom := h2.room
  have hcap := h2.max
  obtain ⟨L, bd⟩ := s
  dsimp only at *
  clear h h2 h3
  cases bd with
  | true =>
    have hE : upM most (L, true) = (0, (L, true)) := upM_no rfl
    rw [hE]
    go_enter Try.func93, Try.ntmps93
    go_wp2_with (go_at_call 81; refine (read_any HC.out.by_ HC.out.nil hroom hcap).mono ?_; rintro e w2 ⟨rfl, m, rfl⟩)
    go_ret
    exact ⟨rfl, (HR.out.kept (Kept.drewN _ _ none) (fun i e => by cases e)).bad, (Kept.drewN _ _ _).tr (kept_set _ _ _ _)⟩
  | false =>
    cases hok : okR L with
    | false =>
      have hE : upM most (L, false) = (0, (L, true)) := upM_no (by rw [hok]; rfl)
      rw [hE]
      obtain ⟨d1, d2, d3⟩ := rd_none (L := L) (by rw [hok]; decide)
      go_enter Try.func93, Try.ntmps93
      go_wp2_with (go_at_call 81; refine (read_any HC.out.by_ HC.out.nil hroom hcap).mono ?_; rintro e w2 ⟨rfl, m, rfl⟩; rw [d1, d2, d3])
      go_ret
      exact ⟨rfl, (HR.out.kept (Kept.drewN _ _ none) (fun i e => by cases e)).bad, (Kept.drewN _ _ _).tr (kept_set _ _ _ _)⟩
    | true =>
      obtain ⟨d1, d2, d3⟩ := rd_some (L := L) hok
      have hro := read_only L HC.out.by_.lt hok
      have hsz := HC.out.by_.size
      have hkn : rdK L ≤ n := by have := hro.2.2.1; omega
      have hk1 := hro.2.1
      have d3' : ((rdE L : Nat) : Int) = 0 := by rw [d3]; rfl
      have HSZ := Hid.mk' hsz
      clear d1 d2 d3 hro hsz
      by_cases hle : rdN L ≤ most
      · have hE : upM most (L, false) = (rdN L, (L.drop (rdK L), false)) := upM_yes (by rw [hok]; simp [hle])
        rw [hE]
        clear hE
        obtain ⟨bb, off, rfl, hbb, _⟩ := HC.out.by_.at_ (by omega)
        generalize hK : rdK L = K at *
        have HK := Hid.mk' hK
        clear hK
        generalize hNN : rdN L = N at *
        have HN := Hid.mk' hNN
        clear hNN
        have hdrop : ∀ m, Rdr (w.drewN m) H b (L, false) := fun m => HR.out.kept (Kept.drewN _ _ none) (fun i e => by cases e)
        have HD := Hid.mk' hdrop
        have hCm : ∀ m, Come (w.drewN m) (some ⟨bb, off + K, none⟩) (n - K) (c - K) (L.drop K) := fun m => ⟨(HC.out.by_.drop K hkn).drewN m, fun e => (nomatch e), by omega, by omega⟩
        have HCm := Hid.mk' hCm
        have hXm : 0 < n - K → ∀ x, some (⟨bb, off + K, none⟩ : Addr) = some x → x.block < H ∧ x.block ≠ b := fun hp x hx => by
          injection hx with hx
          subst hx
          exact HX.out (by omega) ⟨bb, off, none⟩ rfl
        have HXm := Hid.mk' hXm
        clear hdrop hCm hXm
        by_cases hcK : K = c
        · have hnK : n = K := by omega
          have hL0 : L.drop K = [] := by rw [List.drop_eq_nil_iff]; have := HSZ.out; omega
          subst hnK
          subst hcK
          rw [hL0]
          clear hL0 HCm HXm
          go_enter Try.func93, Try.ntmps93
          go_wp2_with (go_at_call 81; refine (read_any HC.out.by_ HC.out.nil hroom hcap).mono ?_; rintro e w2 ⟨rfl, m, rfl⟩; rw [HK.out, HN.out, d3'])
          all_goals
            go_ret
            exact ⟨rfl, (HD.out _).set ⟨By.nil _ _, fun e => (by first | rfl | cases e), Nat.le_refl _, by omega⟩ (fun hp => absurd hp (by omega)), (Kept.drewN _ _ _).tr (kept_set _ _ _ _)⟩
        · have hcK2 : ¬ c = K := fun e => hcK e.symm
          have hcK3 : K < c := by omega
          go_enter Try.func93, Try.ntmps93
          go_wp2_with (go_at_call 81; refine (read_any HC.out.by_ HC.out.nil hroom hcap).mono ?_; rintro e w2 ⟨rfl, m, rfl⟩; rw [HK.out, HN.out, d3'])
          go_ret
          exact ⟨rfl, (HD.out _).set (HCm.out _) HXm.out, (Kept.drewN _ _ _).tr (kept_set _ _ _ _)⟩
      · have hE : upM most (L, false) = (0, (L, true)) := upM_no (by rw [hok]; simp [hle])
        rw [hE]
        have hgt : most < rdN L := by omega
        go_enter Try.func93, Try.ntmps93
        go_wp2_with (go_at_call 81; refine (read_any HC.out.by_ HC.out.nil hroom hcap).mono ?_; rintro e w2 ⟨rfl, m, rfl⟩; rw [d3'])
        go_ret
        exact ⟨rfl, (HR.out.kept (Kept.drewN _ _ none) (fun i e => by cases e)).bad, (Kept.drewN _ _ _).tr (kept_set _ _ _ _)⟩

theorem number_any {w : World} {H b : Nat} {s : Rd} (h : Rdr w H b s) : Calls Try.prog 94 #[.pointer (some ⟨b, 0, none⟩)] w fun e w' => e = .returned (.int .i64 (numM s).1) ∧ Rdr w' H b (numM s).2 ∧ Kept w w' (some b) := by
  have HR := Hid.mk' h
  have hle : (upM 1048576 s).1 ≤ 1048576 := by
    unfold upM
    split
    · rename_i hc
      simp only [Bool.and_eq_true, decide_eq_true_eq] at hc
      exact hc.2.2
    · omega
  have HE : Hid ((numM s).1 = ((upM 1048576 s).1 : Int) ∧ (numM s).2 = (upM 1048576 s).2) := ⟨rfl, rfl⟩
  have hU := upTo_any h 1048576 (by omega)
  have HU := Hid.mk' hU
  clear h hU
  generalize upM 1048576 s = u at *
  go_enter Try.func94, Try.ntmps94
  go_wp2_with (go_at_call 93; refine HU.out.mono ?_; rintro e w2 ⟨rfl, hr2, hk2⟩)
  go_ret
  exact ⟨by rw [HE.out.1]; rfl, by rw [HE.out.2]; exact hr2, hk2⟩
theorem upM_le (most : Nat) (s : Rd) : (upM most s).1 ≤ most := by
  unfold upM
  split
  · rename_i hc
    simp only [Bool.and_eq_true, decide_eq_true_eq] at hc
    exact hc.2.2
  · exact Nat.zero_le _
theorem many_any {w : World} {H b : Nat} {s : Rd} (h : Rdr w H b s) (most : Nat) (hm : most ≤ 1000) : Calls Try.prog 91 #[.pointer (some ⟨b, 0, none⟩), .int .i64 most] w fun e w' => e = .returned (.int .i64 ((upM most s).1 : Int)) ∧ Rdr w' H b (upM most s).2 ∧ Kept w w' (some b) := by
  have hle := upM_le most s
  have hU := upTo_any h most (by omega)
  have HU := Hid.mk' hU
  clear h hU
  generalize upM most s = u at *
  go_enter Try.func91, Try.ntmps91
  go_wp2_with (go_at_call 93; refine HU.out.mono ?_; rintro e w2 ⟨rfl, hr2, hk2⟩)
  go_ret
  exact ⟨rfl, hr2, hk2⟩
def doneB (s : Rd) : Bool := !s.2 && decide (s.1 = [])
theorem done_any {w : World} {H b : Nat} {s : Rd} (h : Rdr w H b s) : Calls Try.prog 89 #[.pointer (some ⟨b, 0, none⟩)] w fun e w' => e = .returned (.bool (doneB s)) ∧ w' = w := by
  obtain ⟨a, n, c, h1, h2, h3⟩ := h.ex
  have c1 := h.c1
  have hsz := h2.by_.size
  obtain ⟨L, bd⟩ := s
  dsimp only at *
  have HE : Hid (doneB (L, bd) = (!bd && decide (n = 0))) := by
    show doneB (L, bd) = _
    unfold doneB
    have : (L = []) = (n = 0) := by rw [← hsz]; simp
    simp [this]
  clear h h2 h3 hsz
  cases bd with
  | true =>
    go_enter Try.func89, Try.ntmps89
    go_wp2
    go_ret
    exact ⟨by rw [HE.out]; rfl, rfl⟩
  | false =>
    go_enter Try.func89, Try.ntmps89
    go_wp2
    go_ret
    refine ⟨by rw [HE.out]; simp; rw [Bool.eq_iff_iff]; simp; try omega, rfl⟩

end Go.Proofs.Ytlabjamkaebnjaa

/-
  Of the text Lists: what this stage needs (culled by a program).
-/
namespace Go.Proofs.Ytlabjamkaebnjaa
open Go.RowKit Go.Lib Go.Deep
set_option linter.unusedVariables false
set_option linter.unusedSimpArgs false

theorem lie_row {w : World} {g t n K : Nat} {f : Nat → Value} {F : Nat → Nat → Value} (h : w.rowIs g t (n * K) f) (hf : ∀ i, i < n → ∀ j, j < K → f (i * K + j) = F i j) : Lie w (some ⟨g, 0, none⟩) n K F :=
  ⟨fun hp => ⟨g, 0, rfl, h.lt, fun i hi j hj => by
    have hlt : i * K + j < n * K := by
      have : (i + 1) * K ≤ n * K := Nat.mul_le_mul_right K hi
      rw [Nat.add_mul] at this
      omega
    rw [Nat.zero_add, h.cell hlt, hf i hi j hj]⟩⟩
theorem madeRow (w : World) (z : Array Value) (n : Nat) (t : TypeId) : (w.alloc (.cells (madeCells z n) t)).rowIs w.heap.size t n (fun i => (madeCells z n)[i]?.getD undef) :=
  ⟨_, blk_alloc_new _ _, size_madeCells _ _, fun i hi => by
    have : i < (madeCells z n).size := by rw [size_madeCells]; exact hi
    simp [this]⟩
theorem idx_lt {i j n K : Nat} (hi : i < n) (hj : j < K) : i * K + j < n * K := by
  have : (i + 1) * K ≤ n * K := Nat.mul_le_mul_right K hi
  rw [Nat.add_mul] at this
  omega
theorem idx_ne {i j k q K : Nat} (hi : i < k) (hj : j < K) : i * K + j ≠ k * K + q := by
  have : (i + 1) * K ≤ k * K := Nat.mul_le_mul_right K hi
  rw [Nat.add_mul] at this
  omega
theorem Rdr.setNew {w : World} {H b : Nat} {s : Rd} (h : Rdr w H b s) {g : Nat} (hg : H ≤ g) (j : Nat) (v : Value) : Rdr (w.setCell ⟨g, j, none⟩ v) H b s := h.kept (kept_set _ _ _ _) (fun i e => by cases e; exact hg)
theorem kept_new {w w' : World} {r : Option Nat} (h : Kept w w' r) {g : Nat} (hg : w.heap.size ≤ g) (j : Nat) (v : Value) : Kept w (w'.setCell ⟨g, j, none⟩ v) r :=
  ⟨h.os, h.tape, h.output, by simpa [World.setCell] using h.size, fun k hk hr => (Below.heap_setCell _ _ _ _ (by show k ≠ g; omega)).trans (h.block k hk hr)⟩
theorem getD_snoc_lt {α : Type} {l : List α} {x d : α} {i : Nat} (h : i < l.length) : (l ++ [x]).getD i d = l.getD i d := by
  simp [List.getElem?_append, h]
theorem getD_snoc_eq {α : Type} {l : List α} {x d : α} {i : Nat} (h : i = l.length) : (l ++ [x]).getD i d = x := by
  subst h; simp
end Go.Proofs.Ytlabjamkaebnjaa

/-
  Of the text Lists2: what this stage needs (culled by a program).
-/
namespace Go.Proofs.Ytlabjamkaebnjaa
open Go.RowKit Go.Lib Go.Deep
set_option linter.unusedVariables false
set_option linter.unusedSimpArgs false

set_option maxRecDepth 100000 in
set_option maxHeartbeats 1000000 in
theorem list_int {w : World} {H b : Nat} {s : Rd} (h : Rdr w H b s) (hH : H ≤ w.heap.size) (n : Nat) (hn : n ≤ 24) : Calls Try.prog 95 #[.int .i64 n, .func (.func 94) #[.pointer (some ⟨b, 0, none⟩)] #[]] w fun e w' => e = .returned (.slice (some ⟨w.heap.size, 0, none⟩) n n) ∧ Lie w' (some ⟨w.heap.size, 0, none⟩) n 1 (fun i j => .int .i64 ((listM numM n s).1.getD i 0)) ∧ Rdr w' H b (listM numM n s).2 ∧ Kept w w' (some b) := by
  obtain ⟨i0, hi0, hz0, hz1, hz2⟩ := info_parts (show (Try.prog.info? 3).map (fun i => (i.zero, i.size, i.bytes)) = some (some (.int .i64 0), 1, 8) from by kernel_rfl)
  have hmk := run_make (P := Try.prog) w 61 3 i0 _ (by kernel_rfl) hi0 hz0 .i64 .i64 n n (by omega) (Int.le_refl _) (by rw [hz2]; omega) (by omega)
  rw [hz1, Int.toNat_natCast] at hmk
  have hrow0 := madeRow w (Value.cells (.int .i64 0)) (n * 1) 3
  have hr0 := h.kept (Kept.alloc w (madeCells (Value.cells (.int .i64 0)) (n * 1)) 3 (0, 0) none) (fun i e => by cases e)
  have hk0 : Kept w (w.alloc (.cells (madeCells (Value.cells (.int .i64 0)) (n * 1)) 3)) (some b) := Kept.alloc _ _ _ _ _
  have hbl := h.lt
  have hbs : some w.heap.size ≠ some b := fun e => by injection e; omega
  generalize hW0 : w.alloc (.cells (madeCells (Value.cells (.int .i64 0)) (n * 1)) 3) = W0 at *
  have HR0 := Hid.mk' hr0
  have HRow0 := Hid.mk' hrow0
  clear h hr0 hrow0 hW0
  go_enter Try.func95, Try.ntmps95
  go_wp2
  clear hmk
  go_loopw [11] (fun i wr => ∃ k : Nat, k ≤ n ∧ i = .int .i64 k ∧ (∃ f, wr.rowIs w.heap.size 3 (n * 1) f ∧ ∀ i, i < k → ∀ j, j < 1 → f (i * 1 + j) = (fun i j => .int .i64 ((listM numM k s).1.getD i 0)) i j) ∧ Rdr wr H b (listM numM k s).2 ∧ Kept w wr (some b)) (fun i _ => n - (intOf i).toNat)
  case atStart => exact ⟨0, Nat.zero_le _, rfl, ⟨_, HRow0.out, fun i hi => by omega⟩, HR0.out, hk0⟩
  case round =>
    obtain ⟨k, hk, rfl, ⟨f, hrow, hf⟩, hr, hkw⟩ := hrel
    by_cases hlt : k < n
    · have hcall := number_any hr
      have hsn := listM_snoc numM k s
      have hlen := listM_len numM k s
      have HF := Hid.mk' hf
      have HROW := Hid.mk' hrow
      have HSN := Hid.mk' hsn
      have HLEN := Hid.mk' hlen
      have HCALL := Hid.mk' hcall
      clear hf hrow hsn hlen hcall hr
      generalize hx : (numM (listM numM k s).2).1 = x at *
      clear hx
      go_wp2_with (refine HCALL.out.mono ?_; rintro e w2 ⟨rfl, hr2, hk2⟩; have hrow2 := row_kept HROW.out hk2 hbs; have k0 := hrow2.cell (i := k) (by have := idx_lt (j := 0) hlt (show 0 < 1 by omega); omega); have z0 := hrow2.frozen (k))
      go_roundw
      case rel =>
        refine ⟨k + 1, by omega, by go_num, ⟨_, (World.rowIs.set hrow2 (k) (.int .i64 x)), fun i hi j hj => ?_⟩, by rw [HSN.out]; exact (hr2.setNew hH (k) _), (kept_new (hkw.tr hk2) (Nat.le_refl _) (k) _)⟩
        rw [HSN.out]
        by_cases hik : i = k
        · subst hik
          have : j = 0 := by omega
          try dsimp only
          rw [getD_snoc_eq HLEN.out.symm]
          subst this; simp
        · have hne := fun q => idx_ne (q := q) (show i < k by omega) hj
          try dsimp only
          rw [getD_snoc_lt (by rw [HLEN.out]; omega)]
          have h0 := HF.out i (by omega) j hj
          try dsimp only at h0
          rw [← h0]
          rw [if_neg (by have := hne 0; omega)]
      case measure => simp [intOf]; omega
    · have hkk : k = n := by omega
      subst hkk
      have HL := Hid.mk' (lie_row hrow hf)
      clear hf hrow
      go_wp2
      go_ret
      exact ⟨rfl, HL.out, hr, hkw⟩
end Go.Proofs.Ytlabjamkaebnjaa

