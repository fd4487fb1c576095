/-
  Of the text CodM: what this stage needs (culled by a program).
-/
import Derived.Test.YtnmfigcemknjbaaMaths
import Derived.Test.YtnmfigcemknjbaaSSiteB
namespace Go.Proofs.Ytnmfigcemknjbaa
set_option linter.unusedVariables false
set_option linter.unusedSimpArgs false

/-- The bytes that are left, and whether something was bad. -/
abbrev Rd := List Nat × Bool
def upM (most : Nat) (s : Rd) : Nat × Rd := if (!s.2 && (okR s.1 && decide (rdN s.1 ≤ most))) = true then (rdN s.1, (s.1.drop (rdK s.1), false)) else (0, (s.1, true))
def numM (s : Rd) : Int × Rd := (((upM 1048576 s).1 : Int), (upM 1048576 s).2)
def listM {α : Type} (f : Rd → α × Rd) : Nat → Rd → List α × Rd
  | 0, s => ([], s)
  | n + 1, s => ((f s).1 :: (listM f n (f s).2).1, (listM f n (f s).2).2)
theorem listM_len {α : Type} (f : Rd → α × Rd) : ∀ n s, (listM f n s).1.length = n
  | 0, s => rfl
  | n + 1, s => by rw [listM, List.length_cons, listM_len f n]
theorem listM_snoc {α : Type} (f : Rd → α × Rd) : ∀ n s, listM f (n + 1) s = ((listM f n s).1 ++ [(f (listM f n s).2).1], (f (listM f n s).2).2)
  | 0, s => rfl
  | n + 1, s => by
    have h := listM_snoc f n (f s).2
    rw [listM, h]
    rfl
def bindM {α β : Type} (p : Rd → α × Rd) (q : α → Rd → β × Rd) (s : Rd) : (α × β) × Rd := (((p s).1, (q (p s).1 (p s).2).1), (q (p s).1 (p s).2).2)
def mapM' {α β : Type} (f : α → β) (p : Rd → α × Rd) (s : Rd) : β × Rd := (f (p s).1, (p s).2)
structure Cod {α : Type} (p : Rd → α × Rd) (enc : α → List Nat) (ok : α → Prop) : Prop where
  fwd : ∀ x T, ok x → p (enc x ++ T, false) = (x, (T, false))
  bwd : ∀ L, (∀ y ∈ L, y < 256) → (p (L, false)).2.2 = false → L = enc (p (L, false)).1 ++ (p (L, false)).2.1 ∧ ok (p (L, false)).1
  bad : ∀ L, (p (L, true)).2.2 = true
theorem Cod.bind {α β : Type} {p : Rd → α × Rd} {q : α → Rd → β × Rd} {ea : α → List Nat} {eb : α → β → List Nat} {oa : α → Prop} {ob : α → β → Prop} (hp : Cod p ea oa) (hq : ∀ x, Cod (q x) (eb x) (ob x)) : Cod (bindM p q) (fun z => ea z.1 ++ eb z.1 z.2) (fun z => oa z.1 ∧ ob z.1 z.2) := by
  refine ⟨fun z T h => ?_, fun L hL h => ?_, fun L => ?_⟩
  · unfold bindM
    rw [List.append_assoc, hp.fwd z.1 _ h.1]
    show (((z.1, (q z.1 (eb z.1 z.2 ++ T, false)).1), (q z.1 (eb z.1 z.2 ++ T, false)).2)) = _
    rw [(hq z.1).fwd z.2 T h.2]
  · unfold bindM at h ⊢
    have h1 : (p (L, false)).2.2 = false := by
      cases e : (p (L, false)).2.2 with
      | false => rfl
      | true =>
        have e2 : (p (L, false)).2 = ((p (L, false)).2.1, true) := Prod.ext rfl e
        have := (hq (p (L, false)).1).bad (p (L, false)).2.1
        rw [← e2] at this
        exact absurd (h.symm.trans this) (by simp)
    obtain ⟨g1, g2⟩ := hp.bwd L hL h1
    have e2 : (p (L, false)).2 = ((p (L, false)).2.1, false) := Prod.ext rfl h1
    have hL2 : ∀ y ∈ (p (L, false)).2.1, y < 256 := fun y hy => hL y (by rw [g1]; exact List.mem_append.2 (.inr hy))
    have h' : (q (p (L, false)).1 ((p (L, false)).2.1, false)).2.2 = false := by rw [← e2]; exact h
    obtain ⟨g3, g4⟩ := (hq (p (L, false)).1).bwd _ hL2 h'
    rw [← e2] at g3 g4
    refine ⟨?_, g2, g4⟩
    show L = ea (p (L, false)).1 ++ eb _ _ ++ _
    rw [List.append_assoc, ← g3]
    exact g1
  · unfold bindM
    have e2 : (p (L, true)).2 = ((p (L, true)).2.1, true) := Prod.ext rfl (hp.bad L)
    rw [e2]
    exact (hq _).bad _
theorem Cod.map {α β : Type} {p : Rd → α × Rd} {ea : α → List Nat} {oa : α → Prop} {eb : β → List Nat} {ob : β → Prop} (hp : Cod p ea oa) (f : α → β) (g : β → α) (h1 : ∀ y, ob y → f (g y) = y ∧ oa (g y) ∧ eb y = ea (g y)) (h2 : ∀ x, oa x → ob (f x) ∧ eb (f x) = ea x) : Cod (mapM' f p) eb ob := by
  refine ⟨fun y T h => ?_, fun L hL h => ?_, fun L => hp.bad L⟩
  · obtain ⟨a1, a2, a3⟩ := h1 y h
    unfold mapM'
    rw [a3, hp.fwd _ T a2, a1]
  · obtain ⟨g1, g2⟩ := hp.bwd L hL h
    obtain ⟨b1, b2⟩ := h2 _ g2
    refine ⟨?_, b1⟩
    show L = eb (f (p (L, false)).1) ++ _
    rw [b2]
    exact g1
theorem Cod.list {α : Type} {p : Rd → α × Rd} {ea : α → List Nat} {oa : α → Prop} (hp : Cod p ea oa) : ∀ n, Cod (listM p n) (fun l => l.flatMap ea) (fun l => l.length = n ∧ ∀ x ∈ l, oa x)
  | 0 => ⟨fun l T h => by
      have : l = [] := List.length_eq_zero_iff.1 h.1
      subst this; rfl, fun L hL h => ⟨rfl, rfl, fun x hx => (nomatch hx)⟩, fun L => rfl⟩
  | n + 1 => by
    have ih := Cod.list hp n
    refine ⟨fun l T h => ?_, fun L hL h => ?_, fun L => ?_⟩
    · cases l with
      | nil => simp at h
      | cons x l =>
        rw [listM, List.flatMap_cons, List.append_assoc, hp.fwd x _ (h.2 x (List.mem_cons_self ..))]
        show ((x :: (listM p n (l.flatMap ea ++ T, false)).1, (listM p n (l.flatMap ea ++ T, false)).2)) = _
        rw [ih.fwd l T ⟨by simpa using h.1, fun y hy => h.2 y (List.mem_cons_of_mem _ hy)⟩]
    · rw [listM] at h ⊢
      have h1 : (p (L, false)).2.2 = false := by
        cases e : (p (L, false)).2.2 with
        | false => rfl
        | true =>
          have e2 : (p (L, false)).2 = ((p (L, false)).2.1, true) := Prod.ext rfl e
          have := ih.bad (p (L, false)).2.1
          rw [← e2] at this
          exact absurd (h.symm.trans this) (by simp)
      obtain ⟨g1, g2⟩ := hp.bwd L hL h1
      have e2 : (p (L, false)).2 = ((p (L, false)).2.1, false) := Prod.ext rfl h1
      have hL2 : ∀ y ∈ (p (L, false)).2.1, y < 256 := fun y hy => hL y (by rw [g1]; exact List.mem_append.2 (.inr hy))
      have h' : (listM p n ((p (L, false)).2.1, false)).2.2 = false := by rw [← e2]; exact h
      obtain ⟨g3, g4⟩ := ih.bwd _ hL2 h'
      rw [← e2] at g3 g4
      refine ⟨?_, by simp [g4.1], fun x hx => ?_⟩
      · show L = ((p (L, false)).1 :: (listM p n (p (L, false)).2).1).flatMap ea ++ _
        rw [List.flatMap_cons, List.append_assoc, ← g3]
        exact g1
      · rcases List.mem_cons.1 hx with rfl | hx
        · exact g2
        · exact g4.2 x hx
    · rw [listM]
      have e2 : (p (L, true)).2 = ((p (L, true)).2.1, true) := Prod.ext rfl (hp.bad L)
      show (listM p n (p (L, true)).2).2.2 = true
      rw [e2]
      exact ih.bad _
theorem upC {most : Nat} (hm : most < 18446744073709551616) : Cod (upM most) sml (fun n => n ≤ most) := by
  refine ⟨fun n T h => ?_, fun L hL h => ?_, fun L => rfl⟩
  · obtain ⟨h1, h2, h3⟩ := read_sml n T (by omega)
    have h4 : okR (sml n ++ T) = true := by
      cases e : okR (sml n ++ T) with
      | true => rfl
      | false => unfold rdE at h1; rw [e] at h1; cases h1
    unfold upM
    rw [if_pos (by simp [h4, h2, h]), h2, h3]
    simp
  · unfold upM at h ⊢
    split at h
    · rename_i hc
      rw [if_pos hc]
      simp only [Bool.not_false, Bool.true_and, Bool.and_eq_true, decide_eq_true_eq] at hc
      obtain ⟨g1, _, _, _⟩ := read_only L hL hc.1
      exact ⟨by rw [g1, List.take_append_drop], hc.2⟩
    · cases h
theorem numC : Cod numM (fun x : Int => sml x.toNat) (fun x => 0 ≤ x ∧ x ≤ 1048576) :=
  (upC (most := 1048576) (by omega)).map (fun n : Nat => (n : Int)) Int.toNat (fun y hy => ⟨by omega, by omega, rfl⟩) (fun x hx => ⟨⟨by omega, by omega⟩, rfl⟩)
def countM {α : Type} (most : Nat) (f : Rd → α × Rd) (s : Rd) : List α × Rd := listM f (upM most s).1 (upM most s).2
theorem countC {α : Type} {p : Rd → α × Rd} {ea : α → List Nat} {oa : α → Prop} (hp : Cod p ea oa) {most : Nat} (hm : most < 18446744073709551616) : Cod (countM most p) (fun l => sml l.length ++ l.flatMap ea) (fun l => l.length ≤ most ∧ ∀ x ∈ l, oa x) :=
  ((upC hm).bind (fun n => hp.list n)).map (fun z => z.2) (fun l => (l.length, l)) (fun y hy => ⟨rfl, ⟨hy.1, rfl, hy.2⟩, rfl⟩) (fun x hx => ⟨⟨by rw [hx.2.1]; exact hx.1, hx.2.2⟩, by
    show sml x.2.length ++ _ = sml x.1 ++ _
    rw [hx.2.1]⟩)

/-! ### The parts of a site -/
def plM : Rd → Pl × Rd := mapM' (fun z : Int × (Int × List Int) => (⟨z.1, z.2.1, z.2.2⟩ : Pl)) (bindM numM (fun _ => bindM numM (fun _ => countM 8 numM)))
theorem plC : Cod plM (fun p => smlI (plI p)) (fun p => (0 ≤ p.cycle ∧ p.cycle ≤ 1048576) ∧ (0 ≤ p.offset ∧ p.offset ≤ 1048576) ∧ p.splits.length ≤ 8 ∧ ∀ x ∈ p.splits, 0 ≤ x ∧ x ≤ 1048576) := by
  unfold plM
  exact (numC.bind (fun _ => numC.bind (fun _ => countC numC (most := 8) (by omega)))).map _ (fun p : Pl => (p.cycle, (p.offset, p.splits))) (fun y hy => ⟨rfl, hy, by simp [smlI, plI]⟩) (fun x hx => ⟨hx, by simp [smlI, plI]⟩)
def plansM : Rd → List Pl × Rd := countM 8 plM
theorem smlI_flatMap {α : Type} (f : α → List Int) (l : List α) : l.flatMap (fun x => smlI (f x)) = smlI (l.flatMap f) := by
  induction l with
  | nil => rfl
  | cons x l ih => rw [List.flatMap_cons, List.flatMap_cons, smlI_append, ih]
theorem plansC : Cod plansM (fun l => smlI (plansI l)) (fun l => l.length ≤ 8 ∧ ∀ p ∈ l, (0 ≤ p.cycle ∧ p.cycle ≤ 1048576) ∧ (0 ≤ p.offset ∧ p.offset ≤ 1048576) ∧ p.splits.length ≤ 8 ∧ ∀ x ∈ p.splits, 0 ≤ x ∧ x ≤ 1048576) := by
  have h := countC plC (most := 8) (by omega)
  have e : ∀ l : List Pl, smlI (plansI l) = sml l.length ++ l.flatMap (fun p => smlI (plI p)) := fun l => by
    rw [smlI_flatMap]
    simp [plansI, smlI]
  exact ⟨fun x T hx => by rw [e]; exact h.fwd x T hx, fun L hL hh => by rw [e]; exact h.bwd L hL hh, h.bad⟩

def tickP (x : Int) : Prop := 0 ≤ x ∧ x ≤ 1048576
end Go.Proofs.Ytnmfigcemknjbaa
