/-
  Part 4 of the texts that the proofs of this seat stand on.
-/
import Derived.Test.YtoahbpdgbiachaaDoorPart3
import Derived.Laws.MakeOwn
/-
  READING AND WRITING, as mathematics: a reader of numbers that is bad for good where one may not be; what is written is read again, and nothing else.
-/
namespace Go.Proofs.YtoahbpdgbiachaaDoor
set_option linter.unusedVariables false
set_option linter.unusedSimpArgs false

/-- The bytes that are left, and whether something was bad. -/
abbrev Rd := List Nat × Bool
def upM (most : Nat) (s : Rd) : Nat × Rd := if (!s.2 && (okR s.1 && decide (rdN s.1 ≤ most))) = true then (rdN s.1, (s.1.drop (rdK s.1), false)) else (0, (s.1, true))
def numM (s : Rd) : Int × Rd := (((upM 1048576 s).1 : Int), (upM 1048576 s).2)
def listM {α : Type} (f : Rd → α × Rd) : Nat → Rd → List α × Rd
  | 0, s => ([], s)
  | n + 1, s => ((f s).1 :: (listM f n (f s).2).1, (listM f n (f s).2).2)
theorem listM_len {α : Type} (f : Rd → α × Rd) : ∀ n s, (listM f n s).1.length = n
  | 0, s => rfl
  | n + 1, s => by rw [listM, List.length_cons, listM_len f n]
theorem listM_snoc {α : Type} (f : Rd → α × Rd) : ∀ n s, listM f (n + 1) s = ((listM f n s).1 ++ [(f (listM f n s).2).1], (f (listM f n s).2).2)
  | 0, s => rfl
  | n + 1, s => by
    have h := listM_snoc f n (f s).2
    rw [listM, h]
    rfl
def bindM {α β : Type} (p : Rd → α × Rd) (q : α → Rd → β × Rd) (s : Rd) : (α × β) × Rd := (((p s).1, (q (p s).1 (p s).2).1), (q (p s).1 (p s).2).2)
def mapM' {α β : Type} (f : α → β) (p : Rd → α × Rd) (s : Rd) : β × Rd := (f (p s).1, (p s).2)
structure Cod {α : Type} (p : Rd → α × Rd) (enc : α → List Nat) (ok : α → Prop) : Prop where
  fwd : ∀ x T, ok x → p (enc x ++ T, false) = (x, (T, false))
  bwd : ∀ L, (∀ y ∈ L, y < 256) → (p (L, false)).2.2 = false → L = enc (p (L, false)).1 ++ (p (L, false)).2.1 ∧ ok (p (L, false)).1
  bad : ∀ L, (p (L, true)).2.2 = true
theorem Cod.bind {α β : Type} {p : Rd → α × Rd} {q : α → Rd → β × Rd} {ea : α → List Nat} {eb : α → β → List Nat} {oa : α → Prop} {ob : α → β → Prop} (hp : Cod p ea oa) (hq : ∀ x, Cod (q x) (eb x) (ob x)) : Cod (bindM p q) (fun z => ea z.1 ++ eb z.1 z.2) (fun z => oa z.1 ∧ ob z.1 z.2) := by
  refine ⟨fun z T h => ?_, fun L hL h => ?_, fun L => ?_⟩
  · unfold bindM
    rw [List.append_assoc, hp.fwd z.1 _ h.1]
    show (((z.1, (q z.1 (eb z.1 z.2 ++ T, false)).1), (q z.1 (eb z.1 z.2 ++ T, false)).2)) = _
    rw [(hq z.1).fwd z.2 T h.2]
  · unfold bindM at h ⊢
    have h1 : (p (L, false)).2.2 = false := by
      cases e : (p (L, false)).2.2 with
      | false => rfl
      | true =>
        have e2 : (p (L, false)).2 = ((p (L, false)).2.1, true) := Prod.ext rfl e
        have := (hq (p (L, false)).1).bad (p (L, false)).2.1
        rw [← e2] at this
        exact absurd (h.symm.trans this) (by simp)
    obtain ⟨g1, g2⟩ := hp.bwd L hL h1
    have e2 : (p (L, false)).2 = ((p (L, false)).2.1, false) := Prod.ext rfl h1
    have hL2 : ∀ y ∈ (p (L, false)).2.1, y < 256 := fun y hy => hL y (by rw [g1]; exact List.mem_append.2 (.inr hy))
    have h' : (q (p (L, false)).1 ((p (L, false)).2.1, false)).2.2 = false := by rw [← e2]; exact h
    obtain ⟨g3, g4⟩ := (hq (p (L, false)).1).bwd _ hL2 h'
    rw [← e2] at g3 g4
    refine ⟨?_, g2, g4⟩
    show L = ea (p (L, false)).1 ++ eb _ _ ++ _
    rw [List.append_assoc, ← g3]
    exact g1
  · unfold bindM
    have e2 : (p (L, true)).2 = ((p (L, true)).2.1, true) := Prod.ext rfl (hp.bad L)
    rw [e2]
    exact (hq _).bad _
theorem Cod.map {α β : Type} {p : Rd → α × Rd} {ea : α → List Nat} {oa : α → Prop} {eb : β → List Nat} {ob : β → Prop} (hp : Cod p ea oa) (f : α → β) (g : β → α) (h1 : ∀ y, ob y → f (g y) = y ∧ oa (g y) ∧ eb y = ea (g y)) (h2 : ∀ x, oa x → ob (f x) ∧ eb (f x) = ea x) : Cod (mapM' f p) eb ob := by
  refine ⟨fun y T h => ?_, fun L hL h => ?_, fun L => hp.bad L⟩
  · obtain ⟨a1, a2, a3⟩ := h1 y h
    unfold mapM'
    rw [a3, hp.fwd _ T a2, a1]
  · obtain ⟨g1, g2⟩ := hp.bwd L hL h
    obtain ⟨b1, b2⟩ := h2 _ g2
    refine ⟨?_, b1⟩
    show L = eb (f (p (L, false)).1) ++ _
    rw [b2]
    exact g1
theorem Cod.list {α : Type} {p : Rd → α × Rd} {ea : α → List Nat} {oa : α → Prop} (hp : Cod p ea oa) : ∀ n, Cod (listM p n) (fun l => l.flatMap ea) (fun l => l.length = n ∧ ∀ x ∈ l, oa x)
  | 0 => ⟨fun l T h => by
      have : l = [] := List.length_eq_zero_iff.1 h.1
      subst this; rfl, fun L hL h => ⟨rfl, rfl, fun x hx => (nomatch hx)⟩, fun L => rfl⟩
  | n + 1 => by
    have ih := Cod.list hp n
    refine ⟨fun l T h => ?_, fun L hL h => ?_, fun L => ?_⟩
    · cases l with
      | nil => simp at h
      | cons x l =>
        rw [listM, List.flatMap_cons, List.append_assoc, hp.fwd x _ (h.2 x (List.mem_cons_self ..))]
        show ((x :: (listM p n (l.flatMap ea ++ T, false)).1, (listM p n (l.flatMap ea ++ T, false)).2)) = _
        rw [ih.fwd l T ⟨by simpa using h.1, fun y hy => h.2 y (List.mem_cons_of_mem _ hy)⟩]
    · rw [listM] at h ⊢
      have h1 : (p (L, false)).2.2 = false := by
        cases e : (p (L, false)).2.2 with
        | false => rfl
        | true =>
          have e2 : (p (L, false)).2 = ((p (L, false)).2.1, true) := Prod.ext rfl e
          have := ih.bad (p (L, false)).2.1
          rw [← e2] at this
          exact absurd (h.symm.trans this) (by simp)
      obtain ⟨g1, g2⟩ := hp.bwd L hL h1
      have e2 : (p (L, false)).2 = ((p (L, false)).2.1, false) := Prod.ext rfl h1
      have hL2 : ∀ y ∈ (p (L, false)).2.1, y < 256 := fun y hy => hL y (by rw [g1]; exact List.mem_append.2 (.inr hy))
      have h' : (listM p n ((p (L, false)).2.1, false)).2.2 = false := by rw [← e2]; exact h
      obtain ⟨g3, g4⟩ := ih.bwd _ hL2 h'
      rw [← e2] at g3 g4
      refine ⟨?_, by simp [g4.1], fun x hx => ?_⟩
      · show L = ((p (L, false)).1 :: (listM p n (p (L, false)).2).1).flatMap ea ++ _
        rw [List.flatMap_cons, List.append_assoc, ← g3]
        exact g1
      · rcases List.mem_cons.1 hx with rfl | hx
        · exact g2
        · exact g4.2 x hx
    · rw [listM]
      have e2 : (p (L, true)).2 = ((p (L, true)).2.1, true) := Prod.ext rfl (hp.bad L)
      show (listM p n (p (L, true)).2).2.2 = true
      rw [e2]
      exact ih.bad _
theorem upC {most : Nat} (hm : most < 18446744073709551616) : Cod (upM most) sml (fun n => n ≤ most) := by
  refine ⟨fun n T h => ?_, fun L hL h => ?_, fun L => rfl⟩
  · obtain ⟨h1, h2, h3⟩ := read_sml n T (by omega)
    have h4 : okR (sml n ++ T) = true := by
      cases e : okR (sml n ++ T) with
      | true => rfl
      | false => unfold rdE at h1; rw [e] at h1; cases h1
    unfold upM
    rw [if_pos (by simp [h4, h2, h]), h2, h3]
    simp
  · unfold upM at h ⊢
    split at h
    · rename_i hc
      rw [if_pos hc]
      simp only [Bool.not_false, Bool.true_and, Bool.and_eq_true, decide_eq_true_eq] at hc
      obtain ⟨g1, _, _, _⟩ := read_only L hL hc.1
      exact ⟨by rw [g1, List.take_append_drop], hc.2⟩
    · cases h
theorem numC : Cod numM (fun x : Int => sml x.toNat) (fun x => 0 ≤ x ∧ x ≤ 1048576) :=
  (upC (most := 1048576) (by omega)).map (fun n : Nat => (n : Int)) Int.toNat (fun y hy => ⟨by omega, by omega, rfl⟩) (fun x hx => ⟨⟨by omega, by omega⟩, rfl⟩)
def countM {α : Type} (most : Nat) (f : Rd → α × Rd) (s : Rd) : List α × Rd := listM f (upM most s).1 (upM most s).2
theorem countC {α : Type} {p : Rd → α × Rd} {ea : α → List Nat} {oa : α → Prop} (hp : Cod p ea oa) {most : Nat} (hm : most < 18446744073709551616) : Cod (countM most p) (fun l => sml l.length ++ l.flatMap ea) (fun l => l.length ≤ most ∧ ∀ x ∈ l, oa x) :=
  ((upC hm).bind (fun n => hp.list n)).map (fun z => z.2) (fun l => (l.length, l)) (fun y hy => ⟨rfl, ⟨hy.1, rfl, hy.2⟩, rfl⟩) (fun x hx => ⟨⟨by rw [hx.2.1]; exact hx.1, hx.2.2⟩, by
    show sml x.2.length ++ _ = sml x.1 ++ _
    rw [hx.2.1]⟩)

/-! ### The parts of a site -/
def grM : Rd → Gr × Rd := mapM' (fun z : Nat × (Int × Int) => (⟨z.1, z.2.1, z.2.2⟩ : Gr)) (bindM (upM 255) (fun _ => bindM numM (fun _ => numM)))
theorem grC : Cod grM (fun g => smlI (grI g)) (fun g => g.kind ≤ 255 ∧ (0 ≤ g.min ∧ g.min ≤ 1048576) ∧ (0 ≤ g.yellow ∧ g.yellow ≤ 1048576)) := by
  unfold grM
  exact ((upC (most := 255) (by omega)).bind (fun _ => numC.bind (fun _ => numC))).map _ (fun g : Gr => (g.kind, (g.min, g.yellow))) (fun y hy => ⟨rfl, hy, by simp [smlI, grI]⟩) (fun x hx => ⟨hx, by simp [smlI, grI]⟩)
def phM : Rd → Ph × Rd := mapM' (fun z : Nat × (Int × (Int × (Int × Nat))) => (⟨z.1, z.2.1, z.2.2.1, z.2.2.2.1, decide (z.2.2.2.2 = 1)⟩ : Ph)) (bindM (upM 4294967295) (fun _ => bindM numM (fun _ => bindM numM (fun _ => bindM numM (fun _ => upM 1)))))
theorem phC : Cod phM (fun p => smlI (phI p)) (fun p => p.groups ≤ 4294967295 ∧ (0 ≤ p.min ∧ p.min ≤ 1048576) ∧ (0 ≤ p.max ∧ p.max ≤ 1048576) ∧ (0 ≤ p.gap ∧ p.gap ≤ 1048576)) := by
  unfold phM
  exact ((upC (most := 4294967295) (by omega)).bind (fun _ => numC.bind (fun _ => numC.bind (fun _ => numC.bind (fun _ => upC (most := 1) (by omega)))))).map _ (fun p : Ph => (p.groups, (p.min, (p.max, (p.gap, if p.always = true then 1 else 0)))))
    (fun y hy => ⟨by
      obtain ⟨a, b, c, d, e⟩ := y
      cases e <;> rfl, ⟨hy.1, hy.2.1, hy.2.2.1, hy.2.2.2, by show (if y.always = true then 1 else 0) ≤ 1; split <;> omega⟩, by
      obtain ⟨a, b, c, d, e⟩ := y
      cases e <;> simp [smlI, phI]⟩)
    (fun x hx => ⟨⟨hx.1, hx.2.1, hx.2.2.1, hx.2.2.2.1⟩, by
      obtain ⟨a, b, c, d, e⟩ := x
      have he : e ≤ 1 := hx.2.2.2.2
      have : e = 0 ∨ e = 1 := by omega
      rcases this with rfl | rfl <;> simp [smlI, phI]⟩)
def eyM : Rd → Ey × Rd := mapM' (fun z : Int × (Int × (Int × Int)) => (⟨z.1, z.2.1, z.2.2.1, z.2.2.2⟩ : Ey)) (bindM numM (fun _ => bindM numM (fun _ => bindM numM (fun _ => numM))))
theorem eyC : Cod eyM (fun e => smlI (eyI e)) (fun e => (0 ≤ e.phase ∧ e.phase ≤ 1048576) ∧ (0 ≤ e.on ∧ e.on ≤ 1048576) ∧ (0 ≤ e.off ∧ e.off ≤ 1048576) ∧ (0 ≤ e.turns ∧ e.turns ≤ 1048576)) := by
  unfold eyM
  exact (numC.bind (fun _ => numC.bind (fun _ => numC.bind (fun _ => numC)))).map _ (fun e : Ey => (e.phase, (e.on, (e.off, e.turns)))) (fun y hy => ⟨rfl, hy, by simp [smlI, eyI]⟩) (fun x hx => ⟨hx, by simp [smlI, eyI]⟩)
def plM : Rd → Pl × Rd := mapM' (fun z : Int × (Int × List Int) => (⟨z.1, z.2.1, z.2.2⟩ : Pl)) (bindM numM (fun _ => bindM numM (fun _ => countM 8 numM)))
theorem smlI_flat (l : List Int) : l.flatMap (fun x : Int => sml x.toNat) = smlI l := rfl
theorem plC : Cod plM (fun p => smlI (plI p)) (fun p => (0 ≤ p.cycle ∧ p.cycle ≤ 1048576) ∧ (0 ≤ p.offset ∧ p.offset ≤ 1048576) ∧ p.splits.length ≤ 8 ∧ ∀ x ∈ p.splits, 0 ≤ x ∧ x ≤ 1048576) := by
  unfold plM
  exact (numC.bind (fun _ => numC.bind (fun _ => countC numC (most := 8) (by omega)))).map _ (fun p : Pl => (p.cycle, (p.offset, p.splits))) (fun y hy => ⟨rfl, hy, by simp [smlI, plI]⟩) (fun x hx => ⟨hx, by simp [smlI, plI]⟩)
def plansM : Rd → List Pl × Rd := countM 8 plM
theorem smlI_flatMap {α : Type} (f : α → List Int) (l : List α) : l.flatMap (fun x => smlI (f x)) = smlI (l.flatMap f) := by
  induction l with
  | nil => rfl
  | cons x l ih => rw [List.flatMap_cons, List.flatMap_cons, smlI_append, ih]
theorem plansC : Cod plansM (fun l => smlI (plansI l)) (fun l => l.length ≤ 8 ∧ ∀ p ∈ l, (0 ≤ p.cycle ∧ p.cycle ≤ 1048576) ∧ (0 ≤ p.offset ∧ p.offset ≤ 1048576) ∧ p.splits.length ≤ 8 ∧ ∀ x ∈ p.splits, 0 ≤ x ∧ x ≤ 1048576) := by
  have h := countC plC (most := 8) (by omega)
  have e : ∀ l : List Pl, smlI (plansI l) = sml l.length ++ l.flatMap (fun p => smlI (plI p)) := fun l => by
    rw [smlI_flatMap]
    simp [plansI, smlI]
  exact ⟨fun x T hx => by rw [e]; exact h.fwd x T hx, fun L hL hh => by rw [e]; exact h.bwd L hL hh, h.bad⟩

abbrev Tup := Int × (List Gr × (List Nat × (List (List Int) × (List Ph × (List Ey × (Int × (Int × (Int × (Int × (Int × List Pl))))))))))
def mkS (z : Tup) : St := ⟨z.1, z.2.1, z.2.2.1, z.2.2.2.1, z.2.2.2.2.1, z.2.2.2.2.2.1, z.2.2.2.2.2.2.1, z.2.2.2.2.2.2.2.1, z.2.2.2.2.2.2.2.2.1, z.2.2.2.2.2.2.2.2.2.1, z.2.2.2.2.2.2.2.2.2.2.1, z.2.2.2.2.2.2.2.2.2.2.2⟩
def unS (S : St) : Tup := (S.id, (S.groups, (S.apart, (S.between, (S.phases, (S.eyes, (S.watch, (S.feed, (S.heal, (S.low, (S.high, S.plans)))))))))))
def siteM : Rd → St × Rd := mapM' mkS (bindM numM (fun _ => bindM (countM 16 grM) (fun g => bindM (listM (upM 4294967295) g.length) (fun _ => bindM (listM (listM numM g.length) g.length) (fun _ => bindM (countM 8 phM) (fun _ => bindM (countM 24 eyM) (fun _ => bindM numM (fun _ => bindM numM (fun _ => bindM numM (fun _ => bindM numM (fun _ => bindM numM (fun _ => plansM)))))))))))) 
def tickP (x : Int) : Prop := 0 ≤ x ∧ x ≤ 1048576
structure Rok (S : St) : Prop where
  id : tickP S.id
  gn : S.groups.length ≤ 16
  gr : ∀ g ∈ S.groups, g.kind ≤ 255 ∧ tickP g.min ∧ tickP g.yellow
  an : S.apart.length = S.groups.length
  ap : ∀ x ∈ S.apart, x ≤ 4294967295
  bn : S.between.length = S.groups.length
  bt : ∀ l ∈ S.between, l.length = S.groups.length ∧ ∀ x ∈ l, tickP x
  pn : S.phases.length ≤ 8
  ph : ∀ p ∈ S.phases, p.groups ≤ 4294967295 ∧ tickP p.min ∧ tickP p.max ∧ tickP p.gap
  en : S.eyes.length ≤ 24
  ey : ∀ e ∈ S.eyes, tickP e.phase ∧ tickP e.on ∧ tickP e.off ∧ tickP e.turns
  own : tickP S.watch ∧ tickP S.feed ∧ tickP S.heal ∧ tickP S.low ∧ tickP S.high
  ln : S.plans.length ≤ 8
  pl : ∀ p ∈ S.plans, tickP p.cycle ∧ tickP p.offset ∧ p.splits.length ≤ 8 ∧ ∀ x ∈ p.splits, tickP x
theorem siteL_eq (S : St) : siteL S = sml S.id.toNat ++ ((sml S.groups.length ++ S.groups.flatMap fun g => smlI (grI g)) ++ (S.apart.flatMap sml ++ (S.between.flatMap (fun l => l.flatMap fun x : Int => sml x.toNat) ++ ((sml S.phases.length ++ S.phases.flatMap fun p => smlI (phI p)) ++ ((sml S.eyes.length ++ S.eyes.flatMap fun e => smlI (eyI e)) ++ (sml S.watch.toNat ++ (sml S.feed.toNat ++ (sml S.heal.toNat ++ (sml S.low.toNat ++ (sml S.high.toNat ++ smlI (plansI S.plans))))))))))) := by
  unfold siteL siteI I7 I6 I5 I4 I3 I2 I1
  simp only [List.take_length]
  have ea : smlI (S.apart.flatMap apI) = S.apart.flatMap sml := by
    rw [← smlI_flatMap]
    congr 1
    funext x
    simp [smlI, apI]
  have eb : smlI S.between.flatten = S.between.flatMap (fun l => l.flatMap fun x : Int => sml x.toNat) := by
    have := smlI_flatMap (fun l : List Int => l) S.between
    rw [List.flatMap_id'] at this
    rw [← this]
    rfl
  simp only [smlI_append, smlI_flatMap, ea, eb]
  simp [smlI, List.append_assoc]
theorem siteC : Cod siteM siteL Rok := by
  unfold siteM
  have h := numC.bind (fun _ => (countC grC (most := 16) (by omega)).bind (fun g => ((upC (most := 4294967295) (by omega)).list g.length).bind (fun _ => ((numC.list g.length).list g.length).bind (fun _ => (countC phC (most := 8) (by omega)).bind (fun _ => (countC eyC (most := 24) (by omega)).bind (fun _ => numC.bind (fun _ => numC.bind (fun _ => numC.bind (fun _ => numC.bind (fun _ => numC.bind (fun _ => plansC))))))))))) 
  refine h.map mkS unS (fun S hS => ⟨rfl, ?_, ?_⟩) (fun z hz => ⟨?_, ?_⟩)
  · exact ⟨hS.id, ⟨hS.gn, hS.gr⟩, ⟨hS.an, hS.ap⟩, ⟨hS.bn, hS.bt⟩, ⟨hS.pn, hS.ph⟩, ⟨hS.en, hS.ey⟩, hS.own.1, hS.own.2.1, hS.own.2.2.1, hS.own.2.2.2.1, hS.own.2.2.2.2, hS.ln, hS.pl⟩
  · exact siteL_eq S
  · obtain ⟨h1, ⟨h2, h3⟩, ⟨h4, h5⟩, ⟨h6, h7⟩, ⟨h8, h9⟩, ⟨h10, h11⟩, h12, h13, h14, h15, h16, h17, h18⟩ := hz
    exact ⟨h1, h2, h3, h4, h5, h6, h7, h8, h9, h10, h11, ⟨h12, h13, h14, h15, h16⟩, h17, h18⟩
  · exact siteL_eq (mkS z)
/-- A site that may be can be read again. -/
theorem rok_may {X : Sa} {S : St} {w : Go.World} (h : Sat w X S) (hs : siteB S = true) : Rok S := by
  have hA := all_of hs
  have hP := pos_may hs
  have hSp := span_may hs
  have hO := hP.ok
  have h1 : ownB S = true := hA 1 (by omega) 0 Nat.zero_lt_one
  have h8 : cyclesB S = true := hA 8 (by omega) 0 Nat.zero_lt_one
  unfold ownB timeB at h1
  unfold cyclesB at h8
  simp only [Bool.and_eq_true, inB_iff] at h1 h8
  have hlow := hSp.low
  have hhi := hSp.high
  refine ⟨⟨by omega, by omega⟩, hO.ng.2, fun g hg => ?_, hO.na, fun x hx => ?_, hO.nb, fun l hl => ?_, hO.np.2, fun p hp => ?_, hO.ne, fun e he => ?_, ⟨⟨by omega, by omega⟩, ⟨by omega, by omega⟩, ⟨by omega, by omega⟩, ⟨by omega, by omega⟩, ⟨by omega, by omega⟩⟩, hO.nl, fun p hp => ?_⟩
  · obtain ⟨i, hi, rfl⟩ := List.getElem_of_mem hg
    have h2 : groupB S i = true := hA 2 (by omega) i hi
    have h3 := h.gr _ hg
    have e : S.gr i = S.groups[i] := by unfold St.gr; simp [hi]
    unfold groupB timeB at h2
    rw [e] at h2
    simp only [Bool.and_eq_true, inB_iff] at h2
    exact ⟨by omega, ⟨by omega, by omega⟩, ⟨by omega, by omega⟩⟩
  · have := h.ar x hx; omega
  · obtain ⟨i, hi, rfl⟩ := List.getElem_of_mem hl
    have e : S.between.getD i [] = S.between[i] := by simp [hi]
    have hb := hO.nb
    have h4 := hSp.base.sh.row i (by omega)
    rw [e] at h4
    refine ⟨h4, fun x hx => ?_⟩
    have h5 := hP.bt i hi x (by rw [e]; exact hx)
    obtain ⟨j, hj, rfl⟩ := List.getElem_of_mem hx
    have h6 := hSp.base.bt i j (by omega) (by omega)
    have e2 : S.bt i j = S.between[i][j] := by unfold St.bt; rw [e]; simp [hj]
    rw [e2] at h6
    exact ⟨h5, h6⟩
  · obtain ⟨i, hi, rfl⟩ := List.getElem_of_mem hp
    have h5 : phaseB S i = true := hA 5 (by omega) i hi
    have h6 := h.pr _ hp
    have e : S.ph i = S.phases[i] := by unfold St.ph; simp [hi]
    unfold phaseB timeB at h5
    rw [e] at h5
    simp only [Bool.and_eq_true, decide_eq_true_eq, inB_iff] at h5
    exact ⟨by omega, ⟨by omega, by omega⟩, ⟨by omega, by omega⟩, ⟨by omega, by omega⟩⟩
  · obtain ⟨i, hi, rfl⟩ := List.getElem_of_mem he
    have h7 : eyeB S i = true := hA 7 (by omega) i hi
    have e : S.ey i = S.eyes[i] := by unfold St.ey; simp [hi]
    have := hO.np
    unfold eyeB timeB at h7
    rw [e] at h7
    simp only [Bool.and_eq_true, inB_iff] at h7
    exact ⟨⟨by omega, by omega⟩, ⟨by omega, by omega⟩, ⟨by omega, by omega⟩, ⟨by omega, by omega⟩⟩
  · obtain ⟨h2, h3, h4, h5⟩ := hP.plans.one p hp
    obtain ⟨i, hi, rfl⟩ := List.getElem_of_mem hp
    have h9 : planB S (S.pl i) = true := hA 9 (by omega) i hi
    have e : S.pl i = S.plans[i] := by unfold St.pl; simp [hi]
    rw [e] at h9
    unfold planB at h9
    simp only [Bool.and_eq_true, decide_eq_true_eq, inB_iff] at h9
    have key : ∀ (l : List Int) (j : Nat) (left : Int), (∀ x ∈ l, 0 ≤ x) → left ≤ 1048576 → splitsB S j l left = true → ∀ x ∈ l, x ≤ 1048576 := by
      intro l
      induction l with
      | nil => intro j left _ _ _ x hx; cases hx
      | cons y l ih =>
        intro j left hp hl hs x hx
        rw [splitsB, Bool.and_eq_true, inB_iff] at hs
        rcases List.mem_cons.1 hx with rfl | hx
        · omega
        · have := hp y (List.mem_cons_self ..)
          exact ih (j + 1) _ (fun z hz => hp z (List.mem_cons_of_mem _ hz)) (by omega) hs.2 x hx
    exact ⟨⟨by omega, by omega⟩, ⟨by omega, by omega⟩, h4, fun x hx => ⟨h5 x hx, key _ 0 _ h5 (by omega) h9.2 x hx⟩⟩

end Go.Proofs.YtoahbpdgbiachaaDoor

/-
  THE CONTRACTS of raw.mayEnd and raw.Read.
-/
namespace Go.Proofs.YtoahbpdgbiachaaDoor
open Go.RowKit Go.Lib Go.Deep
set_option linter.unusedVariables false
set_option linter.unusedSimpArgs false

theorem may_yes (x i : Nat) (w : World) (hx : x < 256) (hi : i < 10) (h1 : 0 < x ∨ i = 0) (h2 : x < 2 ∨ i < 9) :
    Calls Tryd.prog 116 #[.int .u8 x, .int .i64 i] w fun e w' => e = .returned (.bool true) ∧ w' = w := by
  by_cases c1 : 0 < x
  · by_cases c2 : x < 2
    · go_enter Tryd.func116, Tryd.ntmps116
      go_wp2
      go_ret
      exact ⟨rfl, rfl⟩
    · have c3 : i < 9 := by omega
      go_enter Tryd.func116, Tryd.ntmps116
      go_wp2
      go_ret
      refine ⟨show Ending.returned (.bool (decide ((x : Int) < 2) || decide ((i : Int) < 9))) = _ from ret_bool ?_, rfl⟩
      simp
      omega
  · have c2 : x = 0 := by omega
    have c3 : i = 0 := by omega
    subst c2 c3
    go_enter Tryd.func116, Tryd.ntmps116
    go_wp2
    go_ret
    exact ⟨rfl, rfl⟩
theorem may_no (x i : Nat) (w : World) (hx : x < 256) (hi : i < 10) (h : (x = 0 ∧ 0 < i) ∨ (2 ≤ x ∧ 9 ≤ i)) :
    Calls Tryd.prog 116 #[.int .u8 x, .int .i64 i] w fun e w' => e = .returned (.bool false) ∧ w' = w := by
  rcases h with ⟨h1, h2⟩ | ⟨h1, h2⟩
  · subst h1
    have hne : ((i : Int) == 0) = false := by simp; omega
    go_enter Tryd.func116, Tryd.ntmps116
    go_wp2
    go_ret
    exact ⟨rfl, rfl⟩
  · go_enter Tryd.func116, Tryd.ntmps116
    go_wp2
    go_ret
    refine ⟨show Ending.returned (.bool (decide ((x : Int) < 2) || decide ((i : Int) < 9))) = _ from ret_bool ?_, rfl⟩
    simp
    omega
theorem wrapU64 (n : Int) : IntKind.u64.wrap n = n % 18446744073709551616 := by simp [IntKind.wrap, IntKind.bits, IntKind.signed]
theorem andn128 : ∀ x, x < 256 → x &&& (255 - 128) = x % 128 := by decide +kernel
theorem byte_andn (x : Nat) (hx : x < 256) : bits .andNot .u8 (x : Int) 128 = ((x % 128 : Nat) : Int) := by
  have h := u8_andNot_nat x 128 hx (by omega)
  rw [andn128 x hx] at h
  exact h
/-- Seven bits more. -/
theorem read_or (v x k : Nat) (hv : v < 128 ^ k) (hx : x < 128) (hk : k ≤ 8 ∨ (k = 9 ∧ x < 2)) : bits .or .u64 (v : Int) (IntKind.u64.wrap ((x : Int) * 2 ^ (7 * k))) = ((v + 128 ^ k * x : Nat) : Int) := by
  rw [wrapU64]
  have hp : (2 : Nat) ^ (7 * k) = 128 ^ k := by rw [Nat.pow_mul]
  have hm2 : 128 ^ k * x < 18446744073709551616 := by
    rcases hk with hk | ⟨rfl, hk⟩
    · have h7 : 128 ^ k ≤ 128 ^ 8 := Nat.pow_le_pow_right (by omega) (by omega)
      exact Nat.lt_of_le_of_lt (Nat.mul_le_mul h7 (show x ≤ 127 by omega)) (by decide)
    · exact Nat.lt_of_le_of_lt (Nat.mul_le_mul_left _ (show x ≤ 1 by omega)) (by decide)
  have hv2 : v < 18446744073709551616 := by
    have h9 : 128 ^ k ≤ 128 ^ 9 := Nat.pow_le_pow_right (by omega) (by omega)
    exact Nat.lt_of_lt_of_le hv (Nat.le_trans h9 (by decide))
  have e : ((x : Int) * 2 ^ (7 * k) % 18446744073709551616) = ((128 ^ k * x : Nat) : Int) := by
    have : ((x : Int) * 2 ^ (7 * k)) = ((128 ^ k * x : Nat) : Int) := by rw [← hp]; simp [Int.mul_comm]
    rw [this]
    omega
  rw [e, u64_or_nat v _ hv2 hm2, Nat.or_comm, nat_join (7 * k) (128 ^ k * x) v (by rw [hp]; exact Nat.mul_mod_right _ _) (by rw [hp]; exact hv), Nat.add_comm]

theorem rd_none {L : List Nat} (h : ¬ okR L = true) : rdN L = 0 ∧ rdK L = 0 ∧ rdE L = 8 := by
  unfold rdN rdK rdE; rw [if_neg h, if_neg h, if_neg h]; exact ⟨rfl, rfl, rfl⟩
theorem rd_some {L : List Nat} (h : okR L = true) : rdN L = v7 (L.take (fe L + 1)) ∧ rdK L = fe L + 1 ∧ rdE L = 0 := by
  unfold rdN rdK rdE; rw [if_pos h, if_pos h, if_pos h]; exact ⟨rfl, rfl, rfl⟩
theorem read_empty {a : Option Addr} (c : Nat) (w : World) (ha : a = none → c = 0) (hc : c ≤ 9223372036854775807) :
    Calls Tryd.prog 107 #[.slice a 0 c] w fun e w' => e = .returned (.tuple #[.int .u64 0, .int .i64 0, .int .i64 8]) ∧ ∃ m, w' = w.drewN m := by
  cases a with
  | none =>
    have := ha rfl
    subst this
    go_enter Tryd.func107, Tryd.ntmps107
    go_wp2
    go_loopw [14] (fun i wr => i = .int .i64 0 ∧ ∃ m, wr = w.drewN m) (fun _ _ => 0)
    case atStart => exact ⟨rfl, 0, rfl⟩
    case round =>
      obtain ⟨rfl, m, rfl⟩ := hrel
      go_wp2
      go_ret3
      exact ⟨rfl, _, rfl⟩
  | some x =>
    obtain ⟨b, off, p⟩ := x
    go_enter Tryd.func107, Tryd.ntmps107
    go_wp2
    go_loopw [14] (fun i wr => i = .int .i64 0 ∧ ∃ m, wr = w.drewN m) (fun _ _ => 0)
    case atStart => exact ⟨rfl, 0, rfl⟩
    case round =>
      obtain ⟨rfl, m, rfl⟩ := hrel
      go_wp2
      go_ret3
      exact ⟨rfl, _, rfl⟩
set_option maxRecDepth 100000 in
set_option maxHeartbeats 1000000 in
theorem read_short {b off len c : Nat} {L : List Nat} {w : World} (hB : By w (some ⟨b, off, none⟩) len L) (hp : 0 < len) (hc : len ≤ c) (hc2 : c ≤ 9223372036854775807) (hlen : len ≤ 10) :
    Calls Tryd.prog 107 #[.slice (some ⟨b, off, none⟩) len c] w fun e w' => e = .returned (.tuple #[.int .u64 ((rdN L : Nat) : Int), .int .i64 ((rdK L : Nat) : Int), .int .i64 ((rdE L : Nat) : Int)]) ∧ ∃ m, w' = w.drewN m := by
  obtain ⟨b', off', e, hb, hcell⟩ := hB.at_ hp
  injection e with e
  injection e with e1 e2
  subst e1 e2
  have HL : Hid (L.length = len) := hB.size
  have HG : Hid (∀ i, L.getD i 0 < 256) := hB.getD
  have HC : Hid (∀ i, i < len → w.cell? ⟨b, off + i, none⟩ = some (.int .u8 ((L.getD i 0 : Nat) : Int))) := hcell
  have hl2 := hB.max
  clear hB hcell
  obtain ⟨q, hq⟩ : ∃ q : Nat, q = len := ⟨_, rfl⟩
  have HQ : Hid (q = min len 10) := by show _ = _; omega
  go_enter Tryd.func107, Tryd.ntmps107
  go_wp2
  go_loopw [5, 14] (fun n i wr => ∃ k : Nat, ∃ v : Int, k ≤ q ∧ n = .int .u64 v ∧ (k ≤ 9 → v = ((v7 (L.take k) : Nat) : Int)) ∧ i = .int .i64 k ∧ (∀ j, j < k → 128 ≤ L.getD j 0) ∧ ∃ m, wr = w.drewN m) (fun _ i _ => q - (intOf i).toNat)
  case atStart => exact ⟨0, 0, Nat.zero_le _, rfl, fun _ => by simp [v7], rfl, fun j hj => absurd hj (by omega), 0, rfl⟩
  case round =>
    obtain ⟨k, v, hk, rfl, hv, rfl, hge, m, rfl⟩ := hrel
    have HGE : Hid (∀ j, j < k → 128 ≤ L.getD j 0) := hge
    clear hge
    by_cases hlt : k < q
    · have hkl : k < len := by omega
      have hcell := HC.out k hkl
      have hx := HG.out k
      have hv' := hv (by omega)
      subst hv'
      clear hv
      have hand := byte_andn (L.getD k 0) hx
      obtain ⟨V, hV⟩ : ∃ V : Int, V = bits .or .u64 ((v7 (L.take k) : Nat) : Int) (IntKind.u64.wrap (((L.getD k 0 % 128 : Nat) : Int) * 2 ^ (7 * k))) := ⟨_, rfl⟩
      have HV : Hid (k ≤ 8 ∨ (k = 9 ∧ L.getD k 0 % 128 < 2) → V = ((v7 (L.take (k + 1)) : Nat) : Int)) := by
        intro h
        rw [hV, read_or _ _ k (v7_take_lt L k (by rw [HL.out]; omega)) (by omega) h, ← v7_take L k (by rw [HL.out]; exact hkl)]
      have hV' := hV.symm
      clear hV
      obtain ⟨y, hy⟩ : ∃ y, y = L.getD k 0 % 128 := ⟨_, rfl⟩
      rw [← hy] at hand hV' HV
      obtain ⟨x, hxe⟩ : ∃ x, x = L.getD k 0 := ⟨_, rfl⟩
      rw [← hxe] at hcell hx hand hy
      have HY : Hid (y = x % 128) := hy
      have hy2 : y < 128 := by omega
      clear hy
      have HXE : Hid (x = L.getD k 0) := hxe
      clear hxe
      generalize v7 (L.take k) = v0 at hV' ⊢
      by_cases hx2 : x < 128
      · have HF : Hid (fe L = k) := fe_eq L k HGE.out (by rw [← HXE.out]; exact hx2)
        by_cases hok : (0 < x ∨ k = 0) ∧ (x < 2 ∨ k < 9)
        · obtain ⟨g1, g2⟩ := hok
          have HO : Hid (okR L = true) := by
            show _
            rw [okR_iff, HF.out, ← HXE.out, HL.out]
            exact ⟨hkl, by omega, g1, g2⟩
          go_wp2_with (go_at_call 116; refine (may_yes x k _ hx (by omega) g1 g2).mono ?_; rintro e w3 ⟨rfl, rfl⟩)
          go_ret3
          obtain ⟨r1, r2, r3⟩ := rd_some HO.out
          rw [r1, r2, r3, HF.out, ← HV.out (by have := HY.out; omega)]
          exact ⟨by simp, _, rfl⟩
        · have g : (x = 0 ∧ 0 < k) ∨ (2 ≤ x ∧ 9 ≤ k) := by omega
          have HO : Hid (¬ okR L = true) := by
            show _
            rw [okR_iff, HF.out, ← HXE.out, HL.out]
            rintro ⟨_, _, g1, g2⟩
            exact hok ⟨g1, g2⟩
          go_wp2_with (go_at_call 116; refine (may_no x k _ hx (by omega) g).mono ?_; rintro e w3 ⟨rfl, rfl⟩)
          go_ret3
          obtain ⟨r1, r2, r3⟩ := rd_none HO.out
          rw [r1, r2, r3]
          exact ⟨rfl, _, rfl⟩
      · go_wp2
        go_roundw
        case rel =>
          refine ⟨k + 1, V, by omega, rfl, fun h9 => HV.out (by omega), by go_num, fun j hj => ?_, _, rfl⟩
          by_cases hjk : j < k
          · exact HGE.out j hjk
          · have : j = k := by omega
            subst this
            rw [← HXE.out]; omega
        case measure => simp [intOf]; omega
    · have HO : Hid (¬ okR L = true) := by
        show _
        rw [okR_iff]
        have h1 := fe_low L k HGE.out
        have h2 := HL.out
        have h3 := HQ.out
        rintro ⟨a1, a2, _, _⟩
        omega
      go_wp2
      go_ret3
      obtain ⟨r1, r2, r3⟩ := rd_none HO.out
      rw [r1, r2, r3]
      exact ⟨rfl, _, rfl⟩
set_option maxRecDepth 100000 in
set_option maxHeartbeats 1000000 in
theorem read_long {b off len c : Nat} {L : List Nat} {w : World} (hB : By w (some ⟨b, off, none⟩) len L) (hp : 0 < len) (hc : len ≤ c) (hc2 : c ≤ 9223372036854775807) (hlen : 10 < len) :
    Calls Tryd.prog 107 #[.slice (some ⟨b, off, none⟩) len c] w fun e w' => e = .returned (.tuple #[.int .u64 ((rdN L : Nat) : Int), .int .i64 ((rdK L : Nat) : Int), .int .i64 ((rdE L : Nat) : Int)]) ∧ ∃ m, w' = w.drewN m := by
  obtain ⟨b', off', e, hb, hcell⟩ := hB.at_ hp
  injection e with e
  injection e with e1 e2
  subst e1 e2
  have HL : Hid (L.length = len) := hB.size
  have HG : Hid (∀ i, L.getD i 0 < 256) := hB.getD
  have HC : Hid (∀ i, i < len → w.cell? ⟨b, off + i, none⟩ = some (.int .u8 ((L.getD i 0 : Nat) : Int))) := hcell
  have hl2 := hB.max
  clear hB hcell
  obtain ⟨q, hq⟩ : ∃ q : Nat, q = 10 := ⟨_, rfl⟩
  have HQ : Hid (q = min len 10) := by show _ = _; omega
  go_enter Tryd.func107, Tryd.ntmps107
  go_wp2
  go_loopw [5, 14] (fun n i wr => ∃ k : Nat, ∃ v : Int, k ≤ q ∧ n = .int .u64 v ∧ (k ≤ 9 → v = ((v7 (L.take k) : Nat) : Int)) ∧ i = .int .i64 k ∧ (∀ j, j < k → 128 ≤ L.getD j 0) ∧ ∃ m, wr = w.drewN m) (fun _ i _ => q - (intOf i).toNat)
  case atStart => exact ⟨0, 0, Nat.zero_le _, rfl, fun _ => by simp [v7], rfl, fun j hj => absurd hj (by omega), 0, rfl⟩
  case round =>
    obtain ⟨k, v, hk, rfl, hv, rfl, hge, m, rfl⟩ := hrel
    have HGE : Hid (∀ j, j < k → 128 ≤ L.getD j 0) := hge
    clear hge
    by_cases hlt : k < q
    · have hkl : k < len := by omega
      have hcell := HC.out k hkl
      have hx := HG.out k
      have hv' := hv (by omega)
      subst hv'
      clear hv
      have hand := byte_andn (L.getD k 0) hx
      obtain ⟨V, hV⟩ : ∃ V : Int, V = bits .or .u64 ((v7 (L.take k) : Nat) : Int) (IntKind.u64.wrap (((L.getD k 0 % 128 : Nat) : Int) * 2 ^ (7 * k))) := ⟨_, rfl⟩
      have HV : Hid (k ≤ 8 ∨ (k = 9 ∧ L.getD k 0 % 128 < 2) → V = ((v7 (L.take (k + 1)) : Nat) : Int)) := by
        intro h
        rw [hV, read_or _ _ k (v7_take_lt L k (by rw [HL.out]; omega)) (by omega) h, ← v7_take L k (by rw [HL.out]; exact hkl)]
      have hV' := hV.symm
      clear hV
      obtain ⟨y, hy⟩ : ∃ y, y = L.getD k 0 % 128 := ⟨_, rfl⟩
      rw [← hy] at hand hV' HV
      obtain ⟨x, hxe⟩ : ∃ x, x = L.getD k 0 := ⟨_, rfl⟩
      rw [← hxe] at hcell hx hand hy
      have HY : Hid (y = x % 128) := hy
      have hy2 : y < 128 := by omega
      clear hy
      have HXE : Hid (x = L.getD k 0) := hxe
      clear hxe
      generalize v7 (L.take k) = v0 at hV' ⊢
      by_cases hx2 : x < 128
      · have HF : Hid (fe L = k) := fe_eq L k HGE.out (by rw [← HXE.out]; exact hx2)
        by_cases hok : (0 < x ∨ k = 0) ∧ (x < 2 ∨ k < 9)
        · obtain ⟨g1, g2⟩ := hok
          have HO : Hid (okR L = true) := by
            show _
            rw [okR_iff, HF.out, ← HXE.out, HL.out]
            exact ⟨hkl, by omega, g1, g2⟩
          go_wp2_with (go_at_call 116; refine (may_yes x k _ hx (by omega) g1 g2).mono ?_; rintro e w3 ⟨rfl, rfl⟩)
          go_ret3
          obtain ⟨r1, r2, r3⟩ := rd_some HO.out
          rw [r1, r2, r3, HF.out, ← HV.out (by have := HY.out; omega)]
          exact ⟨by simp, _, rfl⟩
        · have g : (x = 0 ∧ 0 < k) ∨ (2 ≤ x ∧ 9 ≤ k) := by omega
          have HO : Hid (¬ okR L = true) := by
            show _
            rw [okR_iff, HF.out, ← HXE.out, HL.out]
            rintro ⟨_, _, g1, g2⟩
            exact hok ⟨g1, g2⟩
          go_wp2_with (go_at_call 116; refine (may_no x k _ hx (by omega) g).mono ?_; rintro e w3 ⟨rfl, rfl⟩)
          go_ret3
          obtain ⟨r1, r2, r3⟩ := rd_none HO.out
          rw [r1, r2, r3]
          exact ⟨rfl, _, rfl⟩
      · go_wp2
        go_roundw
        case rel =>
          refine ⟨k + 1, V, by omega, rfl, fun h9 => HV.out (by omega), by go_num, fun j hj => ?_, _, rfl⟩
          by_cases hjk : j < k
          · exact HGE.out j hjk
          · have : j = k := by omega
            subst this
            rw [← HXE.out]; omega
        case measure => simp [intOf]; omega
    · have HO : Hid (¬ okR L = true) := by
        show _
        rw [okR_iff]
        have h1 := fe_low L k HGE.out
        have h2 := HL.out
        have h3 := HQ.out
        rintro ⟨a1, a2, _, _⟩
        omega
      go_wp2
      go_ret3
      obtain ⟨r1, r2, r3⟩ := rd_none HO.out
      rw [r1, r2, r3]
      exact ⟨rfl, _, rfl⟩
theorem read_any {a : Option Addr} {len c : Nat} {L : List Nat} {w : World} (hB : By w a len L) (ha : a = none → c = 0) (hc : len ≤ c) (hc2 : c ≤ 9223372036854775807) :
    Calls Tryd.prog 107 #[.slice a len c] w fun e w' => e = .returned (.tuple #[.int .u64 ((rdN L : Nat) : Int), .int .i64 ((rdK L : Nat) : Int), .int .i64 ((rdE L : Nat) : Int)]) ∧ ∃ m, w' = w.drewN m := by
  by_cases h : 0 < len
  · obtain ⟨b, off, rfl, _, _⟩ := hB.at_ h
    by_cases h10 : len ≤ 10
    · exact read_short hB h hc hc2 h10
    · exact read_long hB h hc hc2 (by omega)
  · have e0 : len = 0 := by omega
    subst e0
    have e1 : L = [] := List.length_eq_zero_iff.1 hB.size
    subst e1
    exact read_empty c w ha hc2

end Go.Proofs.YtoahbpdgbiachaaDoor

/-
  THE READER OF NUMBERS IN MEMORY; the contracts of upTo, number, many, set, done.
-/
namespace Go.Proofs.YtoahbpdgbiachaaDoor
open Go.RowKit Go.Lib Go.Deep
set_option linter.unusedVariables false
set_option linter.unusedSimpArgs false

/-- A reader in block b, below block H; the bytes that it reads lie below H too, and not in b. -/
structure Rdr (w : World) (H b : Nat) (s : Rd) : Prop where
  ex : ∃ a n c, w.cell? ⟨b, 0, none⟩ = some (.slice a n c) ∧ Come w a n c s.1 ∧ (0 < n → ∀ x, a = some x → x.block < H ∧ x.block ≠ b)
  c1 : w.cell? ⟨b, 1, none⟩ = some (.bool s.2)
  f0 : w.frozen? ⟨b, 0, none⟩ = false
  f1 : w.frozen? ⟨b, 1, none⟩ = false
  c2 : ∃ v, w.cell? ⟨b, 2, none⟩ = some v
  f2 : w.frozen? ⟨b, 2, none⟩ = false
  lt : b < H
theorem frozen_block {w w' : World} {b j : Nat} (h : w'.heap[b]? = w.heap[b]?) : w'.frozen? ⟨b, j, none⟩ = w.frozen? ⟨b, j, none⟩ := by
  unfold World.frozen?
  simp only [h]
theorem Come.keptR {w w' : World} {r : Option Nat} {a : Option Addr} {n c : Nat} {L : List Nat} (h : Come w a n c L) (q : Kept w w' r) (hr : 0 < n → ∀ x, a = some x → some x.block ≠ r) : Come w' a n c L := by
  refine ⟨?_, h.nil, h.room, h.max⟩
  obtain ⟨h1, h2, h3, h4⟩ := h.by_
  refine ⟨h1, h2, h3, fun hp => ?_⟩
  obtain ⟨b, off, rfl, hb, hc⟩ := h4 hp
  exact ⟨b, off, rfl, Nat.lt_of_lt_of_le hb q.size, fun i hi => (World.cell?_of_block (w := w) (a := ⟨b, off + i, none⟩) (q.block b hb (hr hp _ rfl))).trans (hc i hi)⟩
/-- What changes neither b nor anything below H. -/
theorem Rdr.kept {w w' : World} {H b : Nat} {s : Rd} {r : Option Nat} (h : Rdr w H b s) (q : Kept w w' r) (hr : ∀ i, r = some i → H ≤ i) : Rdr w' H b s := by
  have hb : some b ≠ r := fun e => by have := hr b e.symm; have := h.lt; omega
  obtain ⟨a, n, c, h1, h2, h3⟩ := h.ex
  have hbl := block_lt h1
  refine ⟨⟨a, n, c, cell_keptR h1 q hb, h2.keptR q (fun hp x hx e => by have := hr _ e.symm; have := (h3 hp x hx).1; omega), h3⟩, cell_keptR h.c1 q hb, (frozen_block (q.block b hbl hb)).trans h.f0, (frozen_block (q.block b hbl hb)).trans h.f1, h.c2.imp (fun v hv => cell_keptR hv q hb), (frozen_block (q.block b hbl hb)).trans h.f2, h.lt⟩
theorem kept_set (w : World) (b j : Nat) (v : Value) : Kept w (w.setCell ⟨b, j, none⟩ v) (some b) :=
  ⟨rfl, rfl, rfl, by simp [World.setCell], fun k hk hr => by
    simp only [World.setCell]
    rw [Array.getElem?_modify, if_neg (fun e => hr (by rw [e]))]⟩
theorem frozen_set (w : World) (p a : Addr) (v : Value) : (w.setCell p v).frozen? a = w.frozen? a := World.frozen?_setCell _ _ _ _
theorem Rdr.bad {w : World} {H b : Nat} {s : Rd} (h : Rdr w H b s) : Rdr (w.setCell ⟨b, 1, none⟩ (.bool true)) H b (s.1, true) := by
  obtain ⟨a, n, c, h1, h2, h3⟩ := h.ex
  refine ⟨⟨a, n, c, (World.cell?_setCell_other _ _ _ _ (by simp)).trans h1, h2.keptR (kept_set _ _ _ _) (fun hp x hx e => (h3 hp x hx).2 (by injection e)), h3⟩, World.cell?_setCell_same' _ _ _ (by rw [h.c1]; rfl), (frozen_set _ _ _ _).trans h.f0, (frozen_set _ _ _ _).trans h.f1, h.c2.imp (fun v hv => (World.cell?_setCell_other _ _ _ _ (by simp)).trans hv), (frozen_set _ _ _ _).trans h.f2, h.lt⟩
theorem Rdr.put {w : World} {H b : Nat} {s : Rd} (h : Rdr w H b s) (v : Value) : Rdr (w.setCell ⟨b, 2, none⟩ v) H b s := by
  obtain ⟨a, n, c, h1, h2, h3⟩ := h.ex
  obtain ⟨u, hu⟩ := h.c2
  exact ⟨⟨a, n, c, (World.cell?_setCell_other _ _ _ _ (by simp)).trans h1, h2.keptR (kept_set _ _ _ _) (fun hp x hx e => (h3 hp x hx).2 (by injection e)), h3⟩, (World.cell?_setCell_other _ _ _ _ (by simp)).trans h.c1, (frozen_set _ _ _ _).trans h.f0, (frozen_set _ _ _ _).trans h.f1, ⟨v, World.cell?_setCell_same' _ _ _ (by rw [hu]; rfl)⟩, (frozen_set _ _ _ _).trans h.f2, h.lt⟩
theorem By.drop {w : World} {b off n : Nat} {L : List Nat} (h : By w (some ⟨b, off, none⟩) n L) (k : Nat) (hk : k ≤ n) : By w (some ⟨b, off + k, none⟩) (n - k) (L.drop k) := by
  obtain ⟨h1, h2, h3, h4⟩ := h
  refine ⟨by simp; omega, by omega, fun x hx => h3 x (List.mem_of_mem_drop hx), fun hp => ?_⟩
  obtain ⟨b', off', e, hb, hc⟩ := h4 (by omega)
  injection e with e
  injection e with e1 e2
  subst e1 e2
  refine ⟨b, off + k, rfl, hb, fun i hi => ?_⟩
  rw [Nat.add_assoc, hc (k + i) (by omega)]
  simp
theorem Rdr.set {w : World} {H b : Nat} {L L' : List Nat} {bd : Bool} {a : Option Addr} {n c : Nat} (h : Rdr w H b (L, bd)) (hC : Come w a n c L') (hx : 0 < n → ∀ x, a = some x → x.block < H ∧ x.block ≠ b) : Rdr (w.setCell ⟨b, 0, none⟩ (.slice a n c)) H b (L', bd) := by
  obtain ⟨a0, n0, c0, h1, _, _⟩ := h.ex
  refine ⟨⟨a, n, c, World.cell?_setCell_same' _ _ _ (by rw [h1]; rfl), hC.keptR (kept_set _ _ _ _) (fun hp x hxx e => (hx hp x hxx).2 (by injection e)), hx⟩, (World.cell?_setCell_other _ _ _ _ (by simp)).trans h.c1, (frozen_set _ _ _ _).trans h.f0, (frozen_set _ _ _ _).trans h.f1, h.c2.imp (fun v hv => (World.cell?_setCell_other _ _ _ _ (by simp)).trans hv), (frozen_set _ _ _ _).trans h.f2, h.lt⟩
theorem upM_no {most : Nat} {s : Rd} (h : (!s.2 && (okR s.1 && decide (rdN s.1 ≤ most))) = false) : upM most s = (0, (s.1, true)) := by unfold upM; rw [if_neg (by rw [h]; decide)]
theorem upM_yes {most : Nat} {s : Rd} (h : (!s.2 && (okR s.1 && decide (rdN s.1 ≤ most))) = true) : upM most s = (rdN s.1, (s.1.drop (rdK s.1), false)) := by unfold upM; rw [if_pos h]
set_option maxRecDepth 100000 in
set_option maxHeartbeats 1000000 in
theorem upTo_any {w : World} {H b : Nat} {s : Rd} (h : Rdr w H b s) (most : Nat) (hm : most < 18446744073709551616) : Calls Tryd.prog 82 #[.pointer (some ⟨b, 0, none⟩), .int .u64 most] w fun e w' => e = .returned (.int .u64 ((upM most s).1 : Int)) ∧ Rdr w' H b (upM most s).2 ∧ Kept w w' (some b) := by
  have HR := Hid.mk' h
  obtain ⟨a, n, c, h1, h2, h3⟩ := h.ex
  have c1 := h.c1
  have f0 := h.f0
  have f1 := h.f1
  have HC := Hid.mk' h2
  have HX := Hid.mk' h3
  have hnN := rdN_lt s.1
  have hroom := h2.room
  have hcap := h2.max
  obtain ⟨L, bd⟩ := s
  dsimp only at *
  clear h h2 h3
  cases bd with
  | true =>
    have hE : upM most (L, true) = (0, (L, true)) := upM_no rfl
    rw [hE]
    go_enter Tryd.func82, Tryd.ntmps82
    go_wp2_with (go_at_call 107; refine (read_any HC.out.by_ HC.out.nil hroom hcap).mono ?_; rintro e w2 ⟨rfl, m, rfl⟩)
    go_ret
    exact ⟨rfl, (HR.out.kept (Kept.drewN _ _ none) (fun i e => by cases e)).bad, (Kept.drewN _ _ _).tr (kept_set _ _ _ _)⟩
  | false =>
    cases hok : okR L with
    | false =>
      have hE : upM most (L, false) = (0, (L, true)) := upM_no (by rw [hok]; rfl)
      rw [hE]
      obtain ⟨d1, d2, d3⟩ := rd_none (L := L) (by rw [hok]; decide)
      go_enter Tryd.func82, Tryd.ntmps82
      go_wp2_with (go_at_call 107; refine (read_any HC.out.by_ HC.out.nil hroom hcap).mono ?_; rintro e w2 ⟨rfl, m, rfl⟩; rw [d1, d2, d3])
      go_ret
      exact ⟨rfl, (HR.out.kept (Kept.drewN _ _ none) (fun i e => by cases e)).bad, (Kept.drewN _ _ _).tr (kept_set _ _ _ _)⟩
    | true =>
      obtain ⟨d1, d2, d3⟩ := rd_some (L := L) hok
      have hro := read_only L HC.out.by_.lt hok
      have hsz := HC.out.by_.size
      have hkn : rdK L ≤ n := by have := hro.2.2.1; omega
      have hk1 := hro.2.1
      have d3' : ((rdE L : Nat) : Int) = 0 := by rw [d3]; rfl
      have HSZ := Hid.mk' hsz
      clear d1 d2 d3 hro hsz
      by_cases hle : rdN L ≤ most
      · have hE : upM most (L, false) = (rdN L, (L.drop (rdK L), false)) := upM_yes (by rw [hok]; simp [hle])
        rw [hE]
        clear hE
        obtain ⟨bb, off, rfl, hbb, _⟩ := HC.out.by_.at_ (by omega)
        generalize hK : rdK L = K at *
        have HK := Hid.mk' hK
        clear hK
        generalize hNN : rdN L = N at *
        have HN := Hid.mk' hNN
        clear hNN
        have hdrop : ∀ m, Rdr (w.drewN m) H b (L, false) := fun m => HR.out.kept (Kept.drewN _ _ none) (fun i e => by cases e)
        have HD := Hid.mk' hdrop
        have hCm : ∀ m, Come (w.drewN m) (some ⟨bb, off + K, none⟩) (n - K) (c - K) (L.drop K) := fun m => ⟨(HC.out.by_.drop K hkn).drewN m, fun e => (nomatch e), by omega, by omega⟩
        have HCm := Hid.mk' hCm
        have hXm : 0 < n - K → ∀ x, some (⟨bb, off + K, none⟩ : Addr) = some x → x.block < H ∧ x.block ≠ b := fun hp x hx => by
          injection hx with hx
          subst hx
          exact HX.out (by omega) ⟨bb, off, none⟩ rfl
        have HXm := Hid.mk' hXm
        clear hdrop hCm hXm
        by_cases hcK : K = c
        · have hnK : n = K := by omega
          have hL0 : L.drop K = [] := by rw [List.drop_eq_nil_iff]; have := HSZ.out; omega
          subst hnK
          subst hcK
          rw [hL0]
          clear hL0 HCm HXm
          go_enter Tryd.func82, Tryd.ntmps82
          go_wp2_with (go_at_call 107; refine (read_any HC.out.by_ HC.out.nil hroom hcap).mono ?_; rintro e w2 ⟨rfl, m, rfl⟩; rw [HK.out, HN.out, d3'])
          all_goals
            go_ret
            exact ⟨rfl, (HD.out _).set ⟨By.nil _ _, fun e => (by first | rfl | cases e), Nat.le_refl _, by omega⟩ (fun hp => absurd hp (by omega)), (Kept.drewN _ _ _).tr (kept_set _ _ _ _)⟩
        · have hcK2 : ¬ c = K := fun e => hcK e.symm
          have hcK3 : K < c := by omega
          go_enter Tryd.func82, Tryd.ntmps82
          go_wp2_with (go_at_call 107; refine (read_any HC.out.by_ HC.out.nil hroom hcap).mono ?_; rintro e w2 ⟨rfl, m, rfl⟩; rw [HK.out, HN.out, d3'])
          go_ret
          exact ⟨rfl, (HD.out _).set (HCm.out _) HXm.out, (Kept.drewN _ _ _).tr (kept_set _ _ _ _)⟩
      · have hE : upM most (L, false) = (0, (L, true)) := upM_no (by rw [hok]; simp [hle])
        rw [hE]
        have hgt : most < rdN L := by omega
        go_enter Tryd.func82, Tryd.ntmps82
        go_wp2_with (go_at_call 107; refine (read_any HC.out.by_ HC.out.nil hroom hcap).mono ?_; rintro e w2 ⟨rfl, m, rfl⟩; rw [d3'])
        go_ret
        exact ⟨rfl, (HR.out.kept (Kept.drewN _ _ none) (fun i e => by cases e)).bad, (Kept.drewN _ _ _).tr (kept_set _ _ _ _)⟩

theorem number_any {w : World} {H b : Nat} {s : Rd} (h : Rdr w H b s) : Calls Tryd.prog 53 #[.pointer (some ⟨b, 0, none⟩)] w fun e w' => e = .returned (.int .i64 (numM s).1) ∧ Rdr w' H b (numM s).2 ∧ Kept w w' (some b) := by
  have HR := Hid.mk' h
  have hle : (upM 1048576 s).1 ≤ 1048576 := by
    unfold upM
    split
    · rename_i hc
      simp only [Bool.and_eq_true, decide_eq_true_eq] at hc
      exact hc.2.2
    · omega
  have HE : Hid ((numM s).1 = ((upM 1048576 s).1 : Int) ∧ (numM s).2 = (upM 1048576 s).2) := ⟨rfl, rfl⟩
  have hU := upTo_any h 1048576 (by omega)
  have HU := Hid.mk' hU
  clear h hU
  generalize upM 1048576 s = u at *
  go_enter Tryd.func53, Tryd.ntmps53
  go_wp2_with (go_at_call 82; refine HU.out.mono ?_; rintro e w2 ⟨rfl, hr2, hk2⟩)
  go_ret
  exact ⟨by rw [HE.out.1]; rfl, by rw [HE.out.2]; exact hr2, hk2⟩
theorem upM_le (most : Nat) (s : Rd) : (upM most s).1 ≤ most := by
  unfold upM
  split
  · rename_i hc
    simp only [Bool.and_eq_true, decide_eq_true_eq] at hc
    exact hc.2.2
  · exact Nat.zero_le _
theorem many_any {w : World} {H b : Nat} {s : Rd} (h : Rdr w H b s) (most : Nat) (hm : most ≤ 1000) : Calls Tryd.prog 49 #[.pointer (some ⟨b, 0, none⟩), .int .i64 most] w fun e w' => e = .returned (.int .i64 ((upM most s).1 : Int)) ∧ Rdr w' H b (upM most s).2 ∧ Kept w w' (some b) := by
  have hle := upM_le most s
  have hU := upTo_any h most (by omega)
  have HU := Hid.mk' hU
  clear h hU
  generalize upM most s = u at *
  go_enter Tryd.func49, Tryd.ntmps49
  go_wp2_with (go_at_call 82; refine HU.out.mono ?_; rintro e w2 ⟨rfl, hr2, hk2⟩)
  go_ret
  exact ⟨rfl, hr2, hk2⟩
theorem set_any {w : World} {H b : Nat} {s : Rd} (h : Rdr w H b s) : Calls Tryd.prog 120 #[.pointer (some ⟨b, 0, none⟩)] w fun e w' => e = .returned (.int .u32 ((upM 4294967295 s).1 : Int)) ∧ Rdr w' H b (upM 4294967295 s).2 ∧ Kept w w' (some b) := by
  have hle := upM_le 4294967295 s
  have hU := upTo_any h 4294967295 (by omega)
  have HU := Hid.mk' hU
  clear h hU
  generalize upM 4294967295 s = u at *
  go_enter Tryd.func120, Tryd.ntmps120
  go_wp2_with (go_at_call 82; refine HU.out.mono ?_; rintro e w2 ⟨rfl, hr2, hk2⟩)
  go_ret
  exact ⟨by first | rfl | exact ret_int (by omega), hr2, hk2⟩
def doneB (s : Rd) : Bool := !s.2 && decide (s.1 = [])
theorem done_any {w : World} {H b : Nat} {s : Rd} (h : Rdr w H b s) : Calls Tryd.prog 33 #[.pointer (some ⟨b, 0, none⟩)] w fun e w' => e = .returned (.bool (doneB s)) ∧ w' = w := by
  obtain ⟨a, n, c, h1, h2, h3⟩ := h.ex
  have c1 := h.c1
  have hsz := h2.by_.size
  obtain ⟨L, bd⟩ := s
  dsimp only at *
  have HE : Hid (doneB (L, bd) = (!bd && decide (n = 0))) := by
    show doneB (L, bd) = _
    unfold doneB
    have : (L = []) = (n = 0) := by rw [← hsz]; simp
    simp [this]
  clear h h2 h3 hsz
  cases bd with
  | true =>
    go_enter Tryd.func33, Tryd.ntmps33
    go_wp2
    go_ret
    exact ⟨by rw [HE.out]; rfl, rfl⟩
  | false =>
    go_enter Tryd.func33, Tryd.ntmps33
    go_wp2
    go_ret
    refine ⟨by rw [HE.out]; simp; rw [Bool.eq_iff_iff]; simp; try omega, rfl⟩

end Go.Proofs.YtoahbpdgbiachaaDoor

/-
  THE CONTRACTS of group, phase, eye, and of listOf over plain elements.
-/
namespace Go.Proofs.YtoahbpdgbiachaaDoor
open Go.RowKit Go.Lib Go.Deep
set_option linter.unusedVariables false
set_option linter.unusedSimpArgs false

theorem lie_row {w : World} {g t n K : Nat} {f : Nat → Value} {F : Nat → Nat → Value} (h : w.rowIs g t (n * K) f) (hf : ∀ i, i < n → ∀ j, j < K → f (i * K + j) = F i j) : Lie w (some ⟨g, 0, none⟩) n K F :=
  ⟨fun hp => ⟨g, 0, rfl, h.lt, fun i hi j hj => by
    have hlt : i * K + j < n * K := by
      have : (i + 1) * K ≤ n * K := Nat.mul_le_mul_right K hi
      rw [Nat.add_mul] at this
      omega
    rw [Nat.zero_add, h.cell hlt, hf i hi j hj]⟩⟩
theorem madeRow (w : World) (z : Array Value) (n : Nat) (t : TypeId) : (w.alloc (.cells (madeCells z n) t)).rowIs w.heap.size t n (fun i => (madeCells z n)[i]?.getD undef) :=
  ⟨_, blk_alloc_new _ _, size_madeCells _ _, fun i hi => by
    have : i < (madeCells z n).size := by rw [size_madeCells]; exact hi
    simp [this]⟩
theorem idx_lt {i j n K : Nat} (hi : i < n) (hj : j < K) : i * K + j < n * K := by
  have : (i + 1) * K ≤ n * K := Nat.mul_le_mul_right K hi
  rw [Nat.add_mul] at this
  omega
theorem idx_ne {i j k q K : Nat} (hi : i < k) (hj : j < K) : i * K + j ≠ k * K + q := by
  have : (i + 1) * K ≤ k * K := Nat.mul_le_mul_right K hi
  rw [Nat.add_mul] at this
  omega
theorem Rdr.setNew {w : World} {H b : Nat} {s : Rd} (h : Rdr w H b s) {g : Nat} (hg : H ≤ g) (j : Nat) (v : Value) : Rdr (w.setCell ⟨g, j, none⟩ v) H b s := h.kept (kept_set _ _ _ _) (fun i e => by cases e; exact hg)
theorem kept_new {w w' : World} {r : Option Nat} (h : Kept w w' r) {g : Nat} (hg : w.heap.size ≤ g) (j : Nat) (v : Value) : Kept w (w'.setCell ⟨g, j, none⟩ v) r :=
  ⟨h.os, h.tape, h.output, by simpa [World.setCell] using h.size, fun k hk hr => (Below.heap_setCell _ _ _ _ (by show k ≠ g; omega)).trans (h.block k hk hr)⟩
theorem one_eq (n : Nat) : ((n : Int) == 1) = decide (n = 1) := by
  rw [Bool.eq_iff_iff]; simp; omega
theorem getD_snoc_lt {α : Type} {l : List α} {x d : α} {i : Nat} (h : i < l.length) : (l ++ [x]).getD i d = l.getD i d := by
  simp [List.getElem?_append, h]
theorem getD_snoc_eq {α : Type} {l : List α} {x d : α} {i : Nat} (h : i = l.length) : (l ++ [x]).getD i d = x := by
  subst h; simp
set_option maxRecDepth 100000 in
set_option maxHeartbeats 1000000 in
theorem group_rd {w : World} {H b : Nat} {s : Rd} (h : Rdr w H b s) (hH : H ≤ w.heap.size) : Calls Tryd.prog 118 #[.pointer (some ⟨b, 0, none⟩)] w fun e w' => e = .returned (.agg #[.int .u8 ((grM s).1.kind : Int), .int .i64 (grM s).1.min, .int .i64 (grM s).1.yellow]) ∧ Rdr w' H b (grM s).2 ∧ Kept w w' (some b) := by
  have hbl := h.lt
  have HE : Hid (grM s = (⟨(upM 255 s).1, (numM (upM 255 s).2).1, (numM (numM (upM 255 s).2).2).1⟩, (numM (numM (upM 255 s).2).2).2)) := rfl
  have hle := upM_le 255 s
  have h0 := h.kept ((Kept.alloc w #[.int .u8 0, .int .i64 0, .int .i64 0] 64 (0, 0) none).tr (Kept.drew _ none)) (fun i e => by cases e)
  have H0 := Hid.mk' h0
  have hrw0 : (w.alloc (.cells #[.int .u8 0, .int .i64 0, .int .i64 0] 64)).rowIs w.heap.size 64 3 (fun i => #[.int .u8 0, .int .i64 0, .int .i64 0][i]?.getD undef) := World.rowIs_alloc w #[.int .u8 0, .int .i64 0, .int .i64 0] 64 _ (fun i hi => by simp at hi; simp [hi])
  have HRW := Hid.mk' hrw0
  clear h h0 hrw0
  generalize hu0 : upM 255 s = u0 at *
  have HU0 := Hid.mk' hu0
  clear hu0
  obtain ⟨v0, s0⟩ := u0
  dsimp only at *
  generalize hu1 : numM s0 = u1 at *
  have HU1 := Hid.mk' hu1
  clear hu1
  obtain ⟨v1, s1⟩ := u1
  dsimp only at *
  generalize hu2 : numM s1 = u2 at *
  have HU2 := Hid.mk' hu2
  clear hu2
  obtain ⟨v2, s2⟩ := u2
  dsimp only at *
  rw [HE.out]
  clear HE
  have hbs : some w.heap.size ≠ some b := fun e => by injection e; omega
  go_enter Tryd.func118, Tryd.ntmps118
  go_wp2
  refine wp_region_held_drew (S := fun _ => True) (by kernel_rfl) trivial (fun _ => ?_)
  refine held_take (i := 0) (v := ?vp1x0) rfl rfl (by kernel_rfl) (by kernel_rfl) (by kernel_rfl) (fun _ _ _ h => h) (Or.inl ⟨by rfl, ?hyp1x0⟩) trivial ?restp1x0
  case hyp1x0 => first | (intro w hSw; go_simp; done) | (intro w hSw; go_simp; with_reducible rfl)
  try simp only [List.setIfInBounds_toArray, List.set_cons_zero, List.set_cons_succ]
  refine held_take (i := 1) (v := ?vp1x1) rfl rfl (by kernel_rfl) (by kernel_rfl) (by kernel_rfl) (fun _ _ _ h => h) (Or.inl ⟨by rfl, ?hyp1x1⟩) trivial ?restp1x1
  case hyp1x1 => first | (intro w hSw; go_simp; done) | (intro w hSw; go_simp; with_reducible rfl)
  try simp only [List.setIfInBounds_toArray, List.set_cons_zero, List.set_cons_succ]
  refine held_take (i := 2) (v := ?vp1x2) rfl rfl (by kernel_rfl) (by kernel_rfl) (by kernel_rfl) (fun _ _ _ h => h) (Or.inl ⟨by rfl, ?hyp1x2⟩) trivial ?restp1x2
  case hyp1x2 => first | (intro w hSw; go_simp; done) | (intro w hSw; go_simp; with_reducible rfl)
  try simp only [List.setIfInBounds_toArray, List.set_cons_zero, List.set_cons_succ]
  refine held_take (i := 5) (v := ?vp1x5) rfl rfl (by kernel_rfl) (by kernel_rfl) (by kernel_rfl) (fun _ _ _ h => h) (Or.inl ⟨by rfl, ?hyp1x5⟩) trivial ?restp1x5
  case hyp1x5 => first | (intro w hSw; go_simp; done) | (intro w hSw; go_simp; with_reducible rfl)
  try simp only [List.setIfInBounds_toArray, List.set_cons_zero, List.set_cons_succ]
  refine held_take (i := 6) (v := ?vp1x6) rfl rfl (by kernel_rfl) (by kernel_rfl) (by kernel_rfl) (fun _ _ _ h => h) (Or.inl ⟨by rfl, ?hyp1x6⟩) trivial ?restp1x6
  case hyp1x6 => first | (intro w hSw; go_simp; done) | (intro w hSw; go_simp; with_reducible rfl)
  try simp only [List.setIfInBounds_toArray, List.set_cons_zero, List.set_cons_succ]
  refine held_take (i := 7) (v := ?vp1x7) rfl rfl (by kernel_rfl) (by kernel_rfl) (by kernel_rfl) (fun _ _ _ h => h) (Or.inl ⟨by rfl, ?hyp1x7⟩) trivial ?restp1x7
  case hyp1x7 => first | (intro w hSw; go_simp; done) | (intro w hSw; go_simp; with_reducible rfl)
  try simp only [List.setIfInBounds_toArray, List.set_cons_zero, List.set_cons_succ]
  refine held_take (i := 9) (v := ?vp1x9) rfl rfl (by kernel_rfl) (by kernel_rfl) (by kernel_rfl) (fun _ _ _ h => h) (Or.inl ⟨by rfl, ?hyp1x9⟩) trivial ?restp1x9
  case hyp1x9 => first | (intro w hSw; go_simp; done) | (intro w hSw; go_simp; with_reducible rfl)
  try simp only [List.setIfInBounds_toArray, List.set_cons_zero, List.set_cons_succ]
  refine held_take (i := 10) (v := ?vp1x10) rfl rfl (by kernel_rfl) (by kernel_rfl) (by kernel_rfl) (fun _ _ _ h => h) (Or.inl ⟨by rfl, ?hyp1x10⟩) trivial ?restp1x10
  case hyp1x10 => first | (intro w hSw; go_simp; done) | (intro w hSw; go_simp; with_reducible rfl)
  try simp only [List.setIfInBounds_toArray, List.set_cons_zero, List.set_cons_succ]
  refine held_take (i := 11) (v := ?vp1x11) rfl rfl (by kernel_rfl) (by kernel_rfl) (by kernel_rfl) (fun _ _ _ h => h) (Or.inl ⟨by rfl, ?hyp1x11⟩) trivial ?restp1x11
  case hyp1x11 => first | (intro w hSw; go_simp; done) | (intro w hSw; go_simp; with_reducible rfl)
  try simp only [List.setIfInBounds_toArray, List.set_cons_zero, List.set_cons_succ]
  refine wpAnyH_ready (rs := [3]) (by kernel_rfl) (by simp) ?_
  refine AllReadyH.cons rfl (fun K hK => ?_) AllReadyH.nil
  go_simp
  go_wp2_with (go_at_call 82; have hn := upTo_any H0.out 255 (by omega); rw [HU0.out] at hn; refine hn.mono ?_; rintro e w0 ⟨rfl, hr0, hk0⟩)
  refine hK.out _ _ trivial (fun _ => ?_)
  clear hK K
  have Q0 := Hid.mk' (row_kept (HRW.out.drew) hk0 hbs)
  refine held_take (i := 4) (v := ?vp2x4) rfl rfl (by kernel_rfl) (by kernel_rfl) (by kernel_rfl) (fun _ _ _ h => h) (Or.inl ⟨by rfl, ?hyp2x4⟩) trivial ?restp2x4
  case hyp2x4 => first | (intro w hSw; go_simp; done) | (intro w hSw; go_simp; with_reducible rfl)
  try simp only [List.setIfInBounds_toArray, List.set_cons_zero, List.set_cons_succ]
  refine wpAnyH_ready (rs := [8]) (by kernel_rfl) (by simp) ?_
  refine AllReadyH.cons rfl (fun K hK => ?_) AllReadyH.nil
  go_simp
  go_wp2_with (go_at_call 53; have hn := number_any hr0; rw [HU1.out] at hn; refine hn.mono ?_; rintro e w1 ⟨rfl, hr1, hk1⟩)
  refine hK.out _ _ trivial (fun _ => ?_)
  clear hK K
  have Q1 := Hid.mk' (row_kept (Q0.out) hk1 hbs)
  refine wpAnyH_ready (rs := [12]) (by kernel_rfl) (by simp) ?_
  refine AllReadyH.cons rfl (fun K hK => ?_) AllReadyH.nil
  go_simp
  go_wp2_with (go_at_call 53; have hn := number_any hr1; rw [HU2.out] at hn; refine hn.mono ?_; rintro e w2 ⟨rfl, hr2, hk2⟩)
  refine hK.out _ _ trivial (fun _ => ?_)
  clear hK K
  have Q2 := Hid.mk' (row_kept (Q1.out) hk2 hbs)
  refine held_take (i := 13) (v := ?vp3x13) rfl rfl (by kernel_rfl) (by kernel_rfl) (by kernel_rfl) (fun _ _ _ h => h) (Or.inl ⟨by rfl, ?hyp3x13⟩) trivial ?restp3x13
  case hyp3x13 => first | (intro w hSw; go_simp; done) | (intro w hSw; go_simp; with_reducible rfl)
  try simp only [List.setIfInBounds_toArray, List.set_cons_zero, List.set_cons_succ]
  have k0 := Q2.out.cell (i := 0) (by omega)
  have z0 := Q2.out.frozen 0
  have k1 := Q2.out.cell (i := 1) (by omega)
  have z1 := Q2.out.frozen 1
  have k2 := Q2.out.cell (i := 2) (by omega)
  have z2 := Q2.out.frozen 2
  refine wpAnyH_ready (rs := [14]) (by kernel_rfl) (by simp) ?_
  refine AllReadyH.cons rfl (fun K hK => ?_) AllReadyH.nil
  go_simp
  refine hK.out _ _ trivial (fun _ => ?_)
  clear hK K
  refine wpAnyH_done (by kernel_rfl) ?_ _
  go_wp2
  have hw8 : IntKind.u8.wrap (v0 : Int) = v0 := by
    simp [IntKind.wrap, IntKind.bits, IntKind.signed]
    omega
  rw [hw8]
  have hrw := (World.rowIs.set (World.rowIs.set (World.rowIs.set Q2.out 0 (.int .u8 (v0 : Int))) 1 (.int .i64 v1)) 2 (.int .i64 v2))
  have q0 := hrw.cell (i := 0) (by omega)
  have q1 := hrw.cell (i := 1) (by omega)
  have q2 := hrw.cell (i := 2) (by omega)
  exact bodyPost_ret (v := .agg #[.int .u8 (v0 : Int), .int .i64 v1, .int .i64 v2]) (by simp [results, Tryd.results118, go_sem, q0, q1, q2]) rfl ⟨by first | rfl | rw [one_eq], (((hr2.setNew hH 0 _).setNew hH 1 _).setNew hH 2 _), (kept_new (kept_new (kept_new (((((Kept.alloc w _ _ _ _ : Kept w _ (some b)).tr (Kept.drew _ _)).tr hk0).tr hk1).tr hk2) (Nat.le_refl _) 0 _) (Nat.le_refl _) 1 _) (Nat.le_refl _) 2 _)⟩
set_option maxRecDepth 100000 in
set_option maxHeartbeats 1000000 in
theorem phase_rd {w : World} {H b : Nat} {s : Rd} (h : Rdr w H b s) (hH : H ≤ w.heap.size) : Calls Tryd.prog 124 #[.pointer (some ⟨b, 0, none⟩)] w fun e w' => e = .returned (.agg #[.int .u32 ((phM s).1.groups : Int), .int .i64 (phM s).1.min, .int .i64 (phM s).1.max, .int .i64 (phM s).1.gap, .bool (phM s).1.always]) ∧ Rdr w' H b (phM s).2 ∧ Kept w w' (some b) := by
  have hbl := h.lt
  have HE : Hid (phM s = (⟨(upM 4294967295 s).1, (numM (upM 4294967295 s).2).1, (numM (numM (upM 4294967295 s).2).2).1, (numM (numM (numM (upM 4294967295 s).2).2).2).1, decide ((upM 1 (numM (numM (numM (upM 4294967295 s).2).2).2).2).1 = 1)⟩, (upM 1 (numM (numM (numM (upM 4294967295 s).2).2).2).2).2)) := rfl
  have h0 := h.kept ((Kept.alloc w #[.int .u32 0, .int .i64 0, .int .i64 0, .int .i64 0, .bool false] 67 (0, 0) none).tr (Kept.drew _ none)) (fun i e => by cases e)
  have H0 := Hid.mk' h0
  have hrw0 : (w.alloc (.cells #[.int .u32 0, .int .i64 0, .int .i64 0, .int .i64 0, .bool false] 67)).rowIs w.heap.size 67 5 (fun i => #[.int .u32 0, .int .i64 0, .int .i64 0, .int .i64 0, .bool false][i]?.getD undef) := World.rowIs_alloc w #[.int .u32 0, .int .i64 0, .int .i64 0, .int .i64 0, .bool false] 67 _ (fun i hi => by simp at hi; simp [hi])
  have HRW := Hid.mk' hrw0
  clear h h0 hrw0
  generalize hu0 : upM 4294967295 s = u0 at *
  have HU0 := Hid.mk' hu0
  clear hu0
  obtain ⟨v0, s0⟩ := u0
  dsimp only at *
  generalize hu1 : numM s0 = u1 at *
  have HU1 := Hid.mk' hu1
  clear hu1
  obtain ⟨v1, s1⟩ := u1
  dsimp only at *
  generalize hu2 : numM s1 = u2 at *
  have HU2 := Hid.mk' hu2
  clear hu2
  obtain ⟨v2, s2⟩ := u2
  dsimp only at *
  generalize hu3 : numM s2 = u3 at *
  have HU3 := Hid.mk' hu3
  clear hu3
  obtain ⟨v3, s3⟩ := u3
  dsimp only at *
  generalize hu4 : upM 1 s3 = u4 at *
  have HU4 := Hid.mk' hu4
  clear hu4
  obtain ⟨v4, s4⟩ := u4
  dsimp only at *
  rw [HE.out]
  clear HE
  have hbs : some w.heap.size ≠ some b := fun e => by injection e; omega
  go_enter Tryd.func124, Tryd.ntmps124
  go_wp2
  refine wp_region_held_drew (S := fun _ => True) (by kernel_rfl) trivial (fun _ => ?_)
  refine held_take (i := 0) (v := ?vp4x0) rfl rfl (by kernel_rfl) (by kernel_rfl) (by kernel_rfl) (fun _ _ _ h => h) (Or.inl ⟨by rfl, ?hyp4x0⟩) trivial ?restp4x0
  case hyp4x0 => first | (intro w hSw; go_simp; done) | (intro w hSw; go_simp; with_reducible rfl)
  try simp only [List.setIfInBounds_toArray, List.set_cons_zero, List.set_cons_succ]
  refine held_take (i := 2) (v := ?vp4x2) rfl rfl (by kernel_rfl) (by kernel_rfl) (by kernel_rfl) (fun _ _ _ h => h) (Or.inl ⟨by rfl, ?hyp4x2⟩) trivial ?restp4x2
  case hyp4x2 => first | (intro w hSw; go_simp; done) | (intro w hSw; go_simp; with_reducible rfl)
  try simp only [List.setIfInBounds_toArray, List.set_cons_zero, List.set_cons_succ]
  refine held_take (i := 3) (v := ?vp4x3) rfl rfl (by kernel_rfl) (by kernel_rfl) (by kernel_rfl) (fun _ _ _ h => h) (Or.inl ⟨by rfl, ?hyp4x3⟩) trivial ?restp4x3
  case hyp4x3 => first | (intro w hSw; go_simp; done) | (intro w hSw; go_simp; with_reducible rfl)
  try simp only [List.setIfInBounds_toArray, List.set_cons_zero, List.set_cons_succ]
  refine held_take (i := 4) (v := ?vp4x4) rfl rfl (by kernel_rfl) (by kernel_rfl) (by kernel_rfl) (fun _ _ _ h => h) (Or.inl ⟨by rfl, ?hyp4x4⟩) trivial ?restp4x4
  case hyp4x4 => first | (intro w hSw; go_simp; done) | (intro w hSw; go_simp; with_reducible rfl)
  try simp only [List.setIfInBounds_toArray, List.set_cons_zero, List.set_cons_succ]
  refine held_take (i := 6) (v := ?vp4x6) rfl rfl (by kernel_rfl) (by kernel_rfl) (by kernel_rfl) (fun _ _ _ h => h) (Or.inl ⟨by rfl, ?hyp4x6⟩) trivial ?restp4x6
  case hyp4x6 => first | (intro w hSw; go_simp; done) | (intro w hSw; go_simp; with_reducible rfl)
  try simp only [List.setIfInBounds_toArray, List.set_cons_zero, List.set_cons_succ]
  refine held_take (i := 7) (v := ?vp4x7) rfl rfl (by kernel_rfl) (by kernel_rfl) (by kernel_rfl) (fun _ _ _ h => h) (Or.inl ⟨by rfl, ?hyp4x7⟩) trivial ?restp4x7
  case hyp4x7 => first | (intro w hSw; go_simp; done) | (intro w hSw; go_simp; with_reducible rfl)
  try simp only [List.setIfInBounds_toArray, List.set_cons_zero, List.set_cons_succ]
  refine held_take (i := 8) (v := ?vp4x8) rfl rfl (by kernel_rfl) (by kernel_rfl) (by kernel_rfl) (fun _ _ _ h => h) (Or.inl ⟨by rfl, ?hyp4x8⟩) trivial ?restp4x8
  case hyp4x8 => first | (intro w hSw; go_simp; done) | (intro w hSw; go_simp; with_reducible rfl)
  try simp only [List.setIfInBounds_toArray, List.set_cons_zero, List.set_cons_succ]
  refine held_take (i := 10) (v := ?vp4x10) rfl rfl (by kernel_rfl) (by kernel_rfl) (by kernel_rfl) (fun _ _ _ h => h) (Or.inl ⟨by rfl, ?hyp4x10⟩) trivial ?restp4x10
  case hyp4x10 => first | (intro w hSw; go_simp; done) | (intro w hSw; go_simp; with_reducible rfl)
  try simp only [List.setIfInBounds_toArray, List.set_cons_zero, List.set_cons_succ]
  refine held_take (i := 11) (v := ?vp4x11) rfl rfl (by kernel_rfl) (by kernel_rfl) (by kernel_rfl) (fun _ _ _ h => h) (Or.inl ⟨by rfl, ?hyp4x11⟩) trivial ?restp4x11
  case hyp4x11 => first | (intro w hSw; go_simp; done) | (intro w hSw; go_simp; with_reducible rfl)
  try simp only [List.setIfInBounds_toArray, List.set_cons_zero, List.set_cons_succ]
  refine held_take (i := 12) (v := ?vp4x12) rfl rfl (by kernel_rfl) (by kernel_rfl) (by kernel_rfl) (fun _ _ _ h => h) (Or.inl ⟨by rfl, ?hyp4x12⟩) trivial ?restp4x12
  case hyp4x12 => first | (intro w hSw; go_simp; done) | (intro w hSw; go_simp; with_reducible rfl)
  try simp only [List.setIfInBounds_toArray, List.set_cons_zero, List.set_cons_succ]
  refine held_take (i := 14) (v := ?vp4x14) rfl rfl (by kernel_rfl) (by kernel_rfl) (by kernel_rfl) (fun _ _ _ h => h) (Or.inl ⟨by rfl, ?hyp4x14⟩) trivial ?restp4x14
  case hyp4x14 => first | (intro w hSw; go_simp; done) | (intro w hSw; go_simp; with_reducible rfl)
  try simp only [List.setIfInBounds_toArray, List.set_cons_zero, List.set_cons_succ]
  refine held_take (i := 15) (v := ?vp4x15) rfl rfl (by kernel_rfl) (by kernel_rfl) (by kernel_rfl) (fun _ _ _ h => h) (Or.inl ⟨by rfl, ?hyp4x15⟩) trivial ?restp4x15
  case hyp4x15 => first | (intro w hSw; go_simp; done) | (intro w hSw; go_simp; with_reducible rfl)
  try simp only [List.setIfInBounds_toArray, List.set_cons_zero, List.set_cons_succ]
  refine held_take (i := 16) (v := ?vp4x16) rfl rfl (by kernel_rfl) (by kernel_rfl) (by kernel_rfl) (fun _ _ _ h => h) (Or.inl ⟨by rfl, ?hyp4x16⟩) trivial ?restp4x16
  case hyp4x16 => first | (intro w hSw; go_simp; done) | (intro w hSw; go_simp; with_reducible rfl)
  try simp only [List.setIfInBounds_toArray, List.set_cons_zero, List.set_cons_succ]
  refine wpAnyH_ready (rs := [1]) (by kernel_rfl) (by simp) ?_
  refine AllReadyH.cons rfl (fun K hK => ?_) AllReadyH.nil
  go_simp
  go_wp2_with (go_at_call 120; have hn := set_any H0.out; rw [HU0.out] at hn; refine hn.mono ?_; rintro e w0 ⟨rfl, hr0, hk0⟩)
  refine hK.out _ _ trivial (fun _ => ?_)
  clear hK K
  have Q0 := Hid.mk' (row_kept (HRW.out.drew) hk0 hbs)
  refine wpAnyH_ready (rs := [5]) (by kernel_rfl) (by simp) ?_
  refine AllReadyH.cons rfl (fun K hK => ?_) AllReadyH.nil
  go_simp
  go_wp2_with (go_at_call 53; have hn := number_any hr0; rw [HU1.out] at hn; refine hn.mono ?_; rintro e w1 ⟨rfl, hr1, hk1⟩)
  refine hK.out _ _ trivial (fun _ => ?_)
  clear hK K
  have Q1 := Hid.mk' (row_kept (Q0.out) hk1 hbs)
  refine wpAnyH_ready (rs := [9]) (by kernel_rfl) (by simp) ?_
  refine AllReadyH.cons rfl (fun K hK => ?_) AllReadyH.nil
  go_simp
  go_wp2_with (go_at_call 53; have hn := number_any hr1; rw [HU2.out] at hn; refine hn.mono ?_; rintro e w2 ⟨rfl, hr2, hk2⟩)
  refine hK.out _ _ trivial (fun _ => ?_)
  clear hK K
  have Q2 := Hid.mk' (row_kept (Q1.out) hk2 hbs)
  refine wpAnyH_ready (rs := [13]) (by kernel_rfl) (by simp) ?_
  refine AllReadyH.cons rfl (fun K hK => ?_) AllReadyH.nil
  go_simp
  go_wp2_with (go_at_call 53; have hn := number_any hr2; rw [HU3.out] at hn; refine hn.mono ?_; rintro e w3 ⟨rfl, hr3, hk3⟩)
  refine hK.out _ _ trivial (fun _ => ?_)
  clear hK K
  have Q3 := Hid.mk' (row_kept (Q2.out) hk3 hbs)
  refine wpAnyH_ready (rs := [17]) (by kernel_rfl) (by simp) ?_
  refine AllReadyH.cons rfl (fun K hK => ?_) AllReadyH.nil
  go_simp
  go_wp2_with (go_at_call 82; have hn := upTo_any hr3 1 (by omega); rw [HU4.out] at hn; refine hn.mono ?_; rintro e w4 ⟨rfl, hr4, hk4⟩)
  refine hK.out _ _ trivial (fun _ => ?_)
  clear hK K
  have Q4 := Hid.mk' (row_kept (Q3.out) hk4 hbs)
  refine held_take (i := 18) (v := ?vp5x18) rfl rfl (by kernel_rfl) (by kernel_rfl) (by kernel_rfl) (fun _ _ _ h => h) (Or.inl ⟨by rfl, ?hyp5x18⟩) trivial ?restp5x18
  case hyp5x18 => first | (intro w hSw; go_simp; done) | (intro w hSw; go_simp; with_reducible rfl)
  try simp only [List.setIfInBounds_toArray, List.set_cons_zero, List.set_cons_succ]
  refine held_take (i := 19) (v := ?vp5x19) rfl rfl (by kernel_rfl) (by kernel_rfl) (by kernel_rfl) (fun _ _ _ h => h) (Or.inl ⟨by rfl, ?hyp5x19⟩) trivial ?restp5x19
  case hyp5x19 => first | (intro w hSw; go_simp; done) | (intro w hSw; go_simp; with_reducible rfl)
  try simp only [List.setIfInBounds_toArray, List.set_cons_zero, List.set_cons_succ]
  have k0 := Q4.out.cell (i := 0) (by omega)
  have z0 := Q4.out.frozen 0
  have k1 := Q4.out.cell (i := 1) (by omega)
  have z1 := Q4.out.frozen 1
  have k2 := Q4.out.cell (i := 2) (by omega)
  have z2 := Q4.out.frozen 2
  have k3 := Q4.out.cell (i := 3) (by omega)
  have z3 := Q4.out.frozen 3
  have k4 := Q4.out.cell (i := 4) (by omega)
  have z4 := Q4.out.frozen 4
  refine wpAnyH_ready (rs := [20]) (by kernel_rfl) (by simp) ?_
  refine AllReadyH.cons rfl (fun K hK => ?_) AllReadyH.nil
  go_simp
  refine hK.out _ _ trivial (fun _ => ?_)
  clear hK K
  refine wpAnyH_done (by kernel_rfl) ?_ _
  go_wp2
  have hrw := (World.rowIs.set (World.rowIs.set (World.rowIs.set (World.rowIs.set (World.rowIs.set Q4.out 0 (.int .u32 (v0 : Int))) 1 (.int .i64 v1)) 2 (.int .i64 v2)) 3 (.int .i64 v3)) 4 (.bool ((v4 : Int) == 1)))
  have q0 := hrw.cell (i := 0) (by omega)
  have q1 := hrw.cell (i := 1) (by omega)
  have q2 := hrw.cell (i := 2) (by omega)
  have q3 := hrw.cell (i := 3) (by omega)
  have q4 := hrw.cell (i := 4) (by omega)
  exact bodyPost_ret (v := .agg #[.int .u32 (v0 : Int), .int .i64 v1, .int .i64 v2, .int .i64 v3, .bool ((v4 : Int) == 1)]) (by simp [results, Tryd.results124, go_sem, q0, q1, q2, q3, q4]) rfl ⟨by first | rfl | rw [one_eq], (((((hr4.setNew hH 0 _).setNew hH 1 _).setNew hH 2 _).setNew hH 3 _).setNew hH 4 _), (kept_new (kept_new (kept_new (kept_new (kept_new (((((((Kept.alloc w _ _ _ _ : Kept w _ (some b)).tr (Kept.drew _ _)).tr hk0).tr hk1).tr hk2).tr hk3).tr hk4) (Nat.le_refl _) 0 _) (Nat.le_refl _) 1 _) (Nat.le_refl _) 2 _) (Nat.le_refl _) 3 _) (Nat.le_refl _) 4 _)⟩
set_option maxRecDepth 100000 in
set_option maxHeartbeats 1000000 in
theorem eye_rd {w : World} {H b : Nat} {s : Rd} (h : Rdr w H b s) (hH : H ≤ w.heap.size) : Calls Tryd.prog 126 #[.pointer (some ⟨b, 0, none⟩)] w fun e w' => e = .returned (.agg #[.int .i64 (eyM s).1.phase, .int .i64 (eyM s).1.on, .int .i64 (eyM s).1.off, .int .i64 (eyM s).1.turns]) ∧ Rdr w' H b (eyM s).2 ∧ Kept w w' (some b) := by
  have hbl := h.lt
  have HE : Hid (eyM s = (⟨(numM s).1, (numM (numM s).2).1, (numM (numM (numM s).2).2).1, (numM (numM (numM (numM s).2).2).2).1⟩, (numM (numM (numM (numM s).2).2).2).2)) := rfl
  have h0 := h.kept ((Kept.alloc w #[.int .i64 0, .int .i64 0, .int .i64 0, .int .i64 0] 116 (0, 0) none).tr (Kept.drew _ none)) (fun i e => by cases e)
  have H0 := Hid.mk' h0
  have hrw0 : (w.alloc (.cells #[.int .i64 0, .int .i64 0, .int .i64 0, .int .i64 0] 116)).rowIs w.heap.size 116 4 (fun i => #[.int .i64 0, .int .i64 0, .int .i64 0, .int .i64 0][i]?.getD undef) := World.rowIs_alloc w #[.int .i64 0, .int .i64 0, .int .i64 0, .int .i64 0] 116 _ (fun i hi => by simp at hi; simp [hi])
  have HRW := Hid.mk' hrw0
  clear h h0 hrw0
  generalize hu0 : numM s = u0 at *
  have HU0 := Hid.mk' hu0
  clear hu0
  obtain ⟨v0, s0⟩ := u0
  dsimp only at *
  generalize hu1 : numM s0 = u1 at *
  have HU1 := Hid.mk' hu1
  clear hu1
  obtain ⟨v1, s1⟩ := u1
  dsimp only at *
  generalize hu2 : numM s1 = u2 at *
  have HU2 := Hid.mk' hu2
  clear hu2
  obtain ⟨v2, s2⟩ := u2
  dsimp only at *
  generalize hu3 : numM s2 = u3 at *
  have HU3 := Hid.mk' hu3
  clear hu3
  obtain ⟨v3, s3⟩ := u3
  dsimp only at *
  rw [HE.out]
  clear HE
  have hbs : some w.heap.size ≠ some b := fun e => by injection e; omega
  go_enter Tryd.func126, Tryd.ntmps126
  go_wp2
  refine wp_region_held_drew (S := fun _ => True) (by kernel_rfl) trivial (fun _ => ?_)
  refine held_take (i := 0) (v := ?vp6x0) rfl rfl (by kernel_rfl) (by kernel_rfl) (by kernel_rfl) (fun _ _ _ h => h) (Or.inl ⟨by rfl, ?hyp6x0⟩) trivial ?restp6x0
  case hyp6x0 => first | (intro w hSw; go_simp; done) | (intro w hSw; go_simp; with_reducible rfl)
  try simp only [List.setIfInBounds_toArray, List.set_cons_zero, List.set_cons_succ]
  refine held_take (i := 1) (v := ?vp6x1) rfl rfl (by kernel_rfl) (by kernel_rfl) (by kernel_rfl) (fun _ _ _ h => h) (Or.inl ⟨by rfl, ?hyp6x1⟩) trivial ?restp6x1
  case hyp6x1 => first | (intro w hSw; go_simp; done) | (intro w hSw; go_simp; with_reducible rfl)
  try simp only [List.setIfInBounds_toArray, List.set_cons_zero, List.set_cons_succ]
  refine held_take (i := 2) (v := ?vp6x2) rfl rfl (by kernel_rfl) (by kernel_rfl) (by kernel_rfl) (fun _ _ _ h => h) (Or.inl ⟨by rfl, ?hyp6x2⟩) trivial ?restp6x2
  case hyp6x2 => first | (intro w hSw; go_simp; done) | (intro w hSw; go_simp; with_reducible rfl)
  try simp only [List.setIfInBounds_toArray, List.set_cons_zero, List.set_cons_succ]
  refine held_take (i := 4) (v := ?vp6x4) rfl rfl (by kernel_rfl) (by kernel_rfl) (by kernel_rfl) (fun _ _ _ h => h) (Or.inl ⟨by rfl, ?hyp6x4⟩) trivial ?restp6x4
  case hyp6x4 => first | (intro w hSw; go_simp; done) | (intro w hSw; go_simp; with_reducible rfl)
  try simp only [List.setIfInBounds_toArray, List.set_cons_zero, List.set_cons_succ]
  refine held_take (i := 5) (v := ?vp6x5) rfl rfl (by kernel_rfl) (by kernel_rfl) (by kernel_rfl) (fun _ _ _ h => h) (Or.inl ⟨by rfl, ?hyp6x5⟩) trivial ?restp6x5
  case hyp6x5 => first | (intro w hSw; go_simp; done) | (intro w hSw; go_simp; with_reducible rfl)
  try simp only [List.setIfInBounds_toArray, List.set_cons_zero, List.set_cons_succ]
  refine held_take (i := 6) (v := ?vp6x6) rfl rfl (by kernel_rfl) (by kernel_rfl) (by kernel_rfl) (fun _ _ _ h => h) (Or.inl ⟨by rfl, ?hyp6x6⟩) trivial ?restp6x6
  case hyp6x6 => first | (intro w hSw; go_simp; done) | (intro w hSw; go_simp; with_reducible rfl)
  try simp only [List.setIfInBounds_toArray, List.set_cons_zero, List.set_cons_succ]
  refine held_take (i := 8) (v := ?vp6x8) rfl rfl (by kernel_rfl) (by kernel_rfl) (by kernel_rfl) (fun _ _ _ h => h) (Or.inl ⟨by rfl, ?hyp6x8⟩) trivial ?restp6x8
  case hyp6x8 => first | (intro w hSw; go_simp; done) | (intro w hSw; go_simp; with_reducible rfl)
  try simp only [List.setIfInBounds_toArray, List.set_cons_zero, List.set_cons_succ]
  refine held_take (i := 9) (v := ?vp6x9) rfl rfl (by kernel_rfl) (by kernel_rfl) (by kernel_rfl) (fun _ _ _ h => h) (Or.inl ⟨by rfl, ?hyp6x9⟩) trivial ?restp6x9
  case hyp6x9 => first | (intro w hSw; go_simp; done) | (intro w hSw; go_simp; with_reducible rfl)
  try simp only [List.setIfInBounds_toArray, List.set_cons_zero, List.set_cons_succ]
  refine held_take (i := 10) (v := ?vp6x10) rfl rfl (by kernel_rfl) (by kernel_rfl) (by kernel_rfl) (fun _ _ _ h => h) (Or.inl ⟨by rfl, ?hyp6x10⟩) trivial ?restp6x10
  case hyp6x10 => first | (intro w hSw; go_simp; done) | (intro w hSw; go_simp; with_reducible rfl)
  try simp only [List.setIfInBounds_toArray, List.set_cons_zero, List.set_cons_succ]
  refine held_take (i := 12) (v := ?vp6x12) rfl rfl (by kernel_rfl) (by kernel_rfl) (by kernel_rfl) (fun _ _ _ h => h) (Or.inl ⟨by rfl, ?hyp6x12⟩) trivial ?restp6x12
  case hyp6x12 => first | (intro w hSw; go_simp; done) | (intro w hSw; go_simp; with_reducible rfl)
  try simp only [List.setIfInBounds_toArray, List.set_cons_zero, List.set_cons_succ]
  refine held_take (i := 13) (v := ?vp6x13) rfl rfl (by kernel_rfl) (by kernel_rfl) (by kernel_rfl) (fun _ _ _ h => h) (Or.inl ⟨by rfl, ?hyp6x13⟩) trivial ?restp6x13
  case hyp6x13 => first | (intro w hSw; go_simp; done) | (intro w hSw; go_simp; with_reducible rfl)
  try simp only [List.setIfInBounds_toArray, List.set_cons_zero, List.set_cons_succ]
  refine held_take (i := 14) (v := ?vp6x14) rfl rfl (by kernel_rfl) (by kernel_rfl) (by kernel_rfl) (fun _ _ _ h => h) (Or.inl ⟨by rfl, ?hyp6x14⟩) trivial ?restp6x14
  case hyp6x14 => first | (intro w hSw; go_simp; done) | (intro w hSw; go_simp; with_reducible rfl)
  try simp only [List.setIfInBounds_toArray, List.set_cons_zero, List.set_cons_succ]
  refine wpAnyH_ready (rs := [3]) (by kernel_rfl) (by simp) ?_
  refine AllReadyH.cons rfl (fun K hK => ?_) AllReadyH.nil
  go_simp
  go_wp2_with (go_at_call 53; have hn := number_any H0.out; rw [HU0.out] at hn; refine hn.mono ?_; rintro e w0 ⟨rfl, hr0, hk0⟩)
  refine hK.out _ _ trivial (fun _ => ?_)
  clear hK K
  have Q0 := Hid.mk' (row_kept (HRW.out.drew) hk0 hbs)
  refine wpAnyH_ready (rs := [7]) (by kernel_rfl) (by simp) ?_
  refine AllReadyH.cons rfl (fun K hK => ?_) AllReadyH.nil
  go_simp
  go_wp2_with (go_at_call 53; have hn := number_any hr0; rw [HU1.out] at hn; refine hn.mono ?_; rintro e w1 ⟨rfl, hr1, hk1⟩)
  refine hK.out _ _ trivial (fun _ => ?_)
  clear hK K
  have Q1 := Hid.mk' (row_kept (Q0.out) hk1 hbs)
  refine wpAnyH_ready (rs := [11]) (by kernel_rfl) (by simp) ?_
  refine AllReadyH.cons rfl (fun K hK => ?_) AllReadyH.nil
  go_simp
  go_wp2_with (go_at_call 53; have hn := number_any hr1; rw [HU2.out] at hn; refine hn.mono ?_; rintro e w2 ⟨rfl, hr2, hk2⟩)
  refine hK.out _ _ trivial (fun _ => ?_)
  clear hK K
  have Q2 := Hid.mk' (row_kept (Q1.out) hk2 hbs)
  refine wpAnyH_ready (rs := [15]) (by kernel_rfl) (by simp) ?_
  refine AllReadyH.cons rfl (fun K hK => ?_) AllReadyH.nil
  go_simp
  go_wp2_with (go_at_call 53; have hn := number_any hr2; rw [HU3.out] at hn; refine hn.mono ?_; rintro e w3 ⟨rfl, hr3, hk3⟩)
  refine hK.out _ _ trivial (fun _ => ?_)
  clear hK K
  have Q3 := Hid.mk' (row_kept (Q2.out) hk3 hbs)
  refine held_take (i := 16) (v := ?vp7x16) rfl rfl (by kernel_rfl) (by kernel_rfl) (by kernel_rfl) (fun _ _ _ h => h) (Or.inl ⟨by rfl, ?hyp7x16⟩) trivial ?restp7x16
  case hyp7x16 => first | (intro w hSw; go_simp; done) | (intro w hSw; go_simp; with_reducible rfl)
  try simp only [List.setIfInBounds_toArray, List.set_cons_zero, List.set_cons_succ]
  have k0 := Q3.out.cell (i := 0) (by omega)
  have z0 := Q3.out.frozen 0
  have k1 := Q3.out.cell (i := 1) (by omega)
  have z1 := Q3.out.frozen 1
  have k2 := Q3.out.cell (i := 2) (by omega)
  have z2 := Q3.out.frozen 2
  have k3 := Q3.out.cell (i := 3) (by omega)
  have z3 := Q3.out.frozen 3
  refine wpAnyH_ready (rs := [17]) (by kernel_rfl) (by simp) ?_
  refine AllReadyH.cons rfl (fun K hK => ?_) AllReadyH.nil
  go_simp
  refine hK.out _ _ trivial (fun _ => ?_)
  clear hK K
  refine wpAnyH_done (by kernel_rfl) ?_ _
  go_wp2
  have hrw := (World.rowIs.set (World.rowIs.set (World.rowIs.set (World.rowIs.set Q3.out 0 (.int .i64 v0)) 1 (.int .i64 v1)) 2 (.int .i64 v2)) 3 (.int .i64 v3))
  have q0 := hrw.cell (i := 0) (by omega)
  have q1 := hrw.cell (i := 1) (by omega)
  have q2 := hrw.cell (i := 2) (by omega)
  have q3 := hrw.cell (i := 3) (by omega)
  exact bodyPost_ret (v := .agg #[.int .i64 v0, .int .i64 v1, .int .i64 v2, .int .i64 v3]) (by simp [results, Tryd.results126, go_sem, q0, q1, q2, q3]) rfl ⟨by first | rfl | rw [one_eq], ((((hr3.setNew hH 0 _).setNew hH 1 _).setNew hH 2 _).setNew hH 3 _), (kept_new (kept_new (kept_new (kept_new ((((((Kept.alloc w _ _ _ _ : Kept w _ (some b)).tr (Kept.drew _ _)).tr hk0).tr hk1).tr hk2).tr hk3) (Nat.le_refl _) 0 _) (Nat.le_refl _) 1 _) (Nat.le_refl _) 2 _) (Nat.le_refl _) 3 _)⟩

end Go.Proofs.YtoahbpdgbiachaaDoor

/-
  THE CONTRACTS of listOf over plain elements.
-/
namespace Go.Proofs.YtoahbpdgbiachaaDoor
open Go.RowKit Go.Lib Go.Deep
set_option linter.unusedVariables false
set_option linter.unusedSimpArgs false

set_option maxRecDepth 100000 in
set_option maxHeartbeats 1000000 in
theorem list_int {w : World} {H b : Nat} {s : Rd} (h : Rdr w H b s) (hH : H ≤ w.heap.size) (n : Nat) (hn : n ≤ 24) : Calls Tryd.prog 85 #[.int .i64 n, .func (.func 53) #[.pointer (some ⟨b, 0, none⟩)] #[]] w fun e w' => e = .returned (.slice (some ⟨w.heap.size, 0, none⟩) n n) ∧ Lie w' (some ⟨w.heap.size, 0, none⟩) n 1 (fun i j => .int .i64 ((listM numM n s).1.getD i 0)) ∧ Rdr w' H b (listM numM n s).2 ∧ Kept w w' (some b) := by
  obtain ⟨i0, hi0, hz0, hz1, hz2⟩ := info_parts (show (Tryd.prog.info? 3).map (fun i => (i.zero, i.size, i.bytes)) = some (some (.int .i64 0), 1, 8) from by kernel_rfl)
  have hmk := run_make (P := Tryd.prog) w 31 3 i0 _ (by kernel_rfl) hi0 hz0 .i64 .i64 n n (by omega) (Int.le_refl _) (by rw [hz2]; omega) (by omega)
  rw [hz1, Int.toNat_natCast] at hmk
  have hrow0 := madeRow w (Value.cells (.int .i64 0)) (n * 1) 3
  have hr0 := h.kept (Kept.alloc w (madeCells (Value.cells (.int .i64 0)) (n * 1)) 3 (0, 0) none) (fun i e => by cases e)
  have hk0 : Kept w (w.alloc (.cells (madeCells (Value.cells (.int .i64 0)) (n * 1)) 3)) (some b) := Kept.alloc _ _ _ _ _
  have hbl := h.lt
  have hbs : some w.heap.size ≠ some b := fun e => by injection e; omega
  generalize hW0 : w.alloc (.cells (madeCells (Value.cells (.int .i64 0)) (n * 1)) 3) = W0 at *
  have HR0 := Hid.mk' hr0
  have HRow0 := Hid.mk' hrow0
  clear h hr0 hrow0 hW0
  go_enter Tryd.func85, Tryd.ntmps85
  go_wp2
  clear hmk
  go_loopw [11] (fun i wr => ∃ k : Nat, k ≤ n ∧ i = .int .i64 k ∧ (∃ f, wr.rowIs w.heap.size 3 (n * 1) f ∧ ∀ i, i < k → ∀ j, j < 1 → f (i * 1 + j) = (fun i j => .int .i64 ((listM numM k s).1.getD i 0)) i j) ∧ Rdr wr H b (listM numM k s).2 ∧ Kept w wr (some b)) (fun i _ => n - (intOf i).toNat)
  case atStart => exact ⟨0, Nat.zero_le _, rfl, ⟨_, HRow0.out, fun i hi => by omega⟩, HR0.out, hk0⟩
  case round =>
    obtain ⟨k, hk, rfl, ⟨f, hrow, hf⟩, hr, hkw⟩ := hrel
    by_cases hlt : k < n
    · have hcall := number_any hr
      have hsn := listM_snoc numM k s
      have hlen := listM_len numM k s
      have HF := Hid.mk' hf
      have HROW := Hid.mk' hrow
      have HSN := Hid.mk' hsn
      have HLEN := Hid.mk' hlen
      have HCALL := Hid.mk' hcall
      clear hf hrow hsn hlen hcall hr
      generalize hx : (numM (listM numM k s).2).1 = x at *
      clear hx
      go_wp2_with (refine HCALL.out.mono ?_; rintro e w2 ⟨rfl, hr2, hk2⟩; have hrow2 := row_kept HROW.out hk2 hbs; have k0 := hrow2.cell (i := k) (by have := idx_lt (j := 0) hlt (show 0 < 1 by omega); omega); have z0 := hrow2.frozen (k))
      go_roundw
      case rel =>
        refine ⟨k + 1, by omega, by go_num, ⟨_, (World.rowIs.set hrow2 (k) (.int .i64 x)), fun i hi j hj => ?_⟩, by rw [HSN.out]; exact (hr2.setNew hH (k) _), (kept_new (hkw.tr hk2) (Nat.le_refl _) (k) _)⟩
        rw [HSN.out]
        by_cases hik : i = k
        · subst hik
          have : j = 0 := by omega
          try dsimp only
          rw [getD_snoc_eq HLEN.out.symm]
          subst this; simp
        · have hne := fun q => idx_ne (q := q) (show i < k by omega) hj
          try dsimp only
          rw [getD_snoc_lt (by rw [HLEN.out]; omega)]
          have h0 := HF.out i (by omega) j hj
          try dsimp only at h0
          rw [← h0]
          rw [if_neg (by have := hne 0; omega)]
      case measure => simp [intOf]; omega
    · have hkk : k = n := by omega
      subst hkk
      have HL := Hid.mk' (lie_row hrow hf)
      clear hf hrow
      go_wp2
      go_ret
      exact ⟨rfl, HL.out, hr, hkw⟩
set_option maxRecDepth 100000 in
set_option maxHeartbeats 1000000 in
theorem list_set {w : World} {H b : Nat} {s : Rd} (h : Rdr w H b s) (hH : H ≤ w.heap.size) (n : Nat) (hn : n ≤ 24) : Calls Tryd.prog 119 #[.int .i64 n, .func (.func 120) #[.pointer (some ⟨b, 0, none⟩)] #[]] w fun e w' => e = .returned (.slice (some ⟨w.heap.size, 0, none⟩) n n) ∧ Lie w' (some ⟨w.heap.size, 0, none⟩) n 1 (fun i j => .int .u32 ((listM (upM 4294967295) n s).1.getD i 0 : Int)) ∧ Rdr w' H b (listM (upM 4294967295) n s).2 ∧ Kept w w' (some b) := by
  obtain ⟨i0, hi0, hz0, hz1, hz2⟩ := info_parts (show (Tryd.prog.info? 65).map (fun i => (i.zero, i.size, i.bytes)) = some (some (.int .u32 0), 1, 4) from by kernel_rfl)
  have hmk := run_make (P := Tryd.prog) w 42 65 i0 _ (by kernel_rfl) hi0 hz0 .i64 .i64 n n (by omega) (Int.le_refl _) (by rw [hz2]; omega) (by omega)
  rw [hz1, Int.toNat_natCast] at hmk
  have hrow0 := madeRow w (Value.cells (.int .u32 0)) (n * 1) 65
  have hr0 := h.kept (Kept.alloc w (madeCells (Value.cells (.int .u32 0)) (n * 1)) 65 (0, 0) none) (fun i e => by cases e)
  have hk0 : Kept w (w.alloc (.cells (madeCells (Value.cells (.int .u32 0)) (n * 1)) 65)) (some b) := Kept.alloc _ _ _ _ _
  have hbl := h.lt
  have hbs : some w.heap.size ≠ some b := fun e => by injection e; omega
  generalize hW0 : w.alloc (.cells (madeCells (Value.cells (.int .u32 0)) (n * 1)) 65) = W0 at *
  have HR0 := Hid.mk' hr0
  have HRow0 := Hid.mk' hrow0
  clear h hr0 hrow0 hW0
  go_enter Tryd.func119, Tryd.ntmps119
  go_wp2
  clear hmk
  go_loopw [11] (fun i wr => ∃ k : Nat, k ≤ n ∧ i = .int .i64 k ∧ (∃ f, wr.rowIs w.heap.size 65 (n * 1) f ∧ ∀ i, i < k → ∀ j, j < 1 → f (i * 1 + j) = (fun i j => .int .u32 ((listM (upM 4294967295) k s).1.getD i 0 : Int)) i j) ∧ Rdr wr H b (listM (upM 4294967295) k s).2 ∧ Kept w wr (some b)) (fun i _ => n - (intOf i).toNat)
  case atStart => exact ⟨0, Nat.zero_le _, rfl, ⟨_, HRow0.out, fun i hi => by omega⟩, HR0.out, hk0⟩
  case round =>
    obtain ⟨k, hk, rfl, ⟨f, hrow, hf⟩, hr, hkw⟩ := hrel
    by_cases hlt : k < n
    · have hcall := set_any hr
      have hsn := listM_snoc (upM 4294967295) k s
      have hlen := listM_len (upM 4294967295) k s
      have HF := Hid.mk' hf
      have HROW := Hid.mk' hrow
      have HSN := Hid.mk' hsn
      have HLEN := Hid.mk' hlen
      have HCALL := Hid.mk' hcall
      clear hf hrow hsn hlen hcall hr
      generalize hx : ((upM 4294967295) (listM (upM 4294967295) k s).2).1 = x at *
      clear hx
      go_wp2_with (refine HCALL.out.mono ?_; rintro e w2 ⟨rfl, hr2, hk2⟩; have hrow2 := row_kept HROW.out hk2 hbs; have k0 := hrow2.cell (i := k) (by have := idx_lt (j := 0) hlt (show 0 < 1 by omega); omega); have z0 := hrow2.frozen (k))
      go_roundw
      case rel =>
        refine ⟨k + 1, by omega, by go_num, ⟨_, (World.rowIs.set hrow2 (k) (.int .u32 (x : Int))), fun i hi j hj => ?_⟩, by rw [HSN.out]; exact (hr2.setNew hH (k) _), (kept_new (hkw.tr hk2) (Nat.le_refl _) (k) _)⟩
        rw [HSN.out]
        by_cases hik : i = k
        · subst hik
          have : j = 0 := by omega
          try dsimp only
          rw [getD_snoc_eq HLEN.out.symm]
          subst this; simp
        · have hne := fun q => idx_ne (q := q) (show i < k by omega) hj
          try dsimp only
          rw [getD_snoc_lt (by rw [HLEN.out]; omega)]
          have h0 := HF.out i (by omega) j hj
          try dsimp only at h0
          rw [← h0]
          rw [if_neg (by have := hne 0; omega)]
      case measure => simp [intOf]; omega
    · have hkk : k = n := by omega
      subst hkk
      have HL := Hid.mk' (lie_row hrow hf)
      clear hf hrow
      go_wp2
      go_ret
      exact ⟨rfl, HL.out, hr, hkw⟩
set_option maxRecDepth 100000 in
set_option maxHeartbeats 1000000 in
theorem list_group {w : World} {H b : Nat} {s : Rd} (h : Rdr w H b s) (hH : H ≤ w.heap.size) (n : Nat) (hn : n ≤ 24) : Calls Tryd.prog 117 #[.int .i64 n, .func (.func 118) #[.pointer (some ⟨b, 0, none⟩)] #[]] w fun e w' => e = .returned (.slice (some ⟨w.heap.size, 0, none⟩) n n) ∧ Lie w' (some ⟨w.heap.size, 0, none⟩) n 3 (fun i j => grV ((listM grM n s).1.getD i g0) j) ∧ Rdr w' H b (listM grM n s).2 ∧ Kept w w' (some b) := by
  obtain ⟨i0, hi0, hz0, hz1, hz2⟩ := info_parts (show (Tryd.prog.info? 64).map (fun i => (i.zero, i.size, i.bytes)) = some (some (.agg #[.int .u8 0, .int .i64 0, .int .i64 0]), 3, 24) from by kernel_rfl)
  have hmk := run_make (P := Tryd.prog) w 41 64 i0 _ (by kernel_rfl) hi0 hz0 .i64 .i64 n n (by omega) (Int.le_refl _) (by rw [hz2]; omega) (by omega)
  rw [hz1, Int.toNat_natCast] at hmk
  have hrow0 := madeRow w (Value.cells (.agg #[.int .u8 0, .int .i64 0, .int .i64 0])) (n * 3) 64
  have hr0 := h.kept (Kept.alloc w (madeCells (Value.cells (.agg #[.int .u8 0, .int .i64 0, .int .i64 0])) (n * 3)) 64 (0, 0) none) (fun i e => by cases e)
  have hk0 : Kept w (w.alloc (.cells (madeCells (Value.cells (.agg #[.int .u8 0, .int .i64 0, .int .i64 0])) (n * 3)) 64)) (some b) := Kept.alloc _ _ _ _ _
  have hbl := h.lt
  have hbs : some w.heap.size ≠ some b := fun e => by injection e; omega
  generalize hW0 : w.alloc (.cells (madeCells (Value.cells (.agg #[.int .u8 0, .int .i64 0, .int .i64 0])) (n * 3)) 64) = W0 at *
  have HR0 := Hid.mk' hr0
  have HRow0 := Hid.mk' hrow0
  clear h hr0 hrow0 hW0
  go_enter Tryd.func117, Tryd.ntmps117
  go_wp2
  clear hmk
  go_loopw [11] (fun i wr => ∃ k : Nat, k ≤ n ∧ i = .int .i64 k ∧ (∃ f, wr.rowIs w.heap.size 64 (n * 3) f ∧ ∀ i, i < k → ∀ j, j < 3 → f (i * 3 + j) = (fun i j => grV ((listM grM k s).1.getD i g0) j) i j) ∧ Rdr wr H b (listM grM k s).2 ∧ Kept w wr (some b)) (fun i _ => n - (intOf i).toNat)
  case atStart => exact ⟨0, Nat.zero_le _, rfl, ⟨_, HRow0.out, fun i hi => by omega⟩, HR0.out, hk0⟩
  case round =>
    obtain ⟨k, hk, rfl, ⟨f, hrow, hf⟩, hr, hkw⟩ := hrel
    by_cases hlt : k < n
    · have hcall := group_rd hr (by have := hkw.size; omega)
      have hsn := listM_snoc grM k s
      have hlen := listM_len grM k s
      have HF := Hid.mk' hf
      have HROW := Hid.mk' hrow
      have HSN := Hid.mk' hsn
      have HLEN := Hid.mk' hlen
      have HCALL := Hid.mk' hcall
      clear hf hrow hsn hlen hcall hr
      generalize hx : (grM (listM grM k s).2).1 = x at *
      clear hx
      go_wp2_with (refine HCALL.out.mono ?_; rintro e w2 ⟨rfl, hr2, hk2⟩; have hrow2 := row_kept HROW.out hk2 hbs; have k0 := hrow2.cell (i := k * 3) (by have := idx_lt (j := 0) hlt (show 0 < 3 by omega); omega); have z0 := hrow2.frozen (k * 3); have k1 := hrow2.cell (i := k * 3 + 1) (by have := idx_lt (j := 1) hlt (show 1 < 3 by omega); omega); have z1 := hrow2.frozen (k * 3 + 1); have k2 := hrow2.cell (i := k * 3 + 2) (by have := idx_lt (j := 2) hlt (show 2 < 3 by omega); omega); have z2 := hrow2.frozen (k * 3 + 2))
      go_roundw
      case rel =>
        refine ⟨k + 1, by omega, by go_num, ⟨_, (World.rowIs.set (World.rowIs.set (World.rowIs.set hrow2 (k * 3) (.int .u8 (x.kind : Int))) (k * 3 + 1) (.int .i64 x.min)) (k * 3 + 2) (.int .i64 x.yellow)), fun i hi j hj => ?_⟩, by rw [HSN.out]; exact (((hr2.setNew hH (k * 3) _).setNew hH (k * 3 + 1) _).setNew hH (k * 3 + 2) _), (kept_new (kept_new (kept_new (hkw.tr hk2) (Nat.le_refl _) (k * 3) _) (Nat.le_refl _) (k * 3 + 1) _) (Nat.le_refl _) (k * 3 + 2) _)⟩
        rw [HSN.out]
        by_cases hik : i = k
        · subst hik
          have : j = 0 ∨ j = 1 ∨ j = 2 := by omega
          try dsimp only
          rw [getD_snoc_eq HLEN.out.symm]
          rcases this with rfl | rfl | rfl <;> simp [grV]
        · have hne := fun q => idx_ne (q := q) (show i < k by omega) hj
          try dsimp only
          rw [getD_snoc_lt (by rw [HLEN.out]; omega)]
          have h0 := HF.out i (by omega) j hj
          try dsimp only at h0
          rw [← h0]
          rw [if_neg (by have := hne 2; omega)]; rw [if_neg (by have := hne 1; omega)]; rw [if_neg (by have := hne 0; omega)]
      case measure => simp [intOf]; omega
    · have hkk : k = n := by omega
      subst hkk
      have HL := Hid.mk' (lie_row hrow hf)
      clear hf hrow
      go_wp2
      go_ret
      exact ⟨rfl, HL.out, hr, hkw⟩
set_option maxRecDepth 100000 in
set_option maxHeartbeats 1000000 in
theorem list_phase {w : World} {H b : Nat} {s : Rd} (h : Rdr w H b s) (hH : H ≤ w.heap.size) (n : Nat) (hn : n ≤ 24) : Calls Tryd.prog 123 #[.int .i64 n, .func (.func 124) #[.pointer (some ⟨b, 0, none⟩)] #[]] w fun e w' => e = .returned (.slice (some ⟨w.heap.size, 0, none⟩) n n) ∧ Lie w' (some ⟨w.heap.size, 0, none⟩) n 5 (fun i j => phV ((listM phM n s).1.getD i p0) j) ∧ Rdr w' H b (listM phM n s).2 ∧ Kept w w' (some b) := by
  obtain ⟨i0, hi0, hz0, hz1, hz2⟩ := info_parts (show (Tryd.prog.info? 67).map (fun i => (i.zero, i.size, i.bytes)) = some (some (.agg #[.int .u32 0, .int .i64 0, .int .i64 0, .int .i64 0, .bool false]), 5, 40) from by kernel_rfl)
  have hmk := run_make (P := Tryd.prog) w 44 67 i0 _ (by kernel_rfl) hi0 hz0 .i64 .i64 n n (by omega) (Int.le_refl _) (by rw [hz2]; omega) (by omega)
  rw [hz1, Int.toNat_natCast] at hmk
  have hrow0 := madeRow w (Value.cells (.agg #[.int .u32 0, .int .i64 0, .int .i64 0, .int .i64 0, .bool false])) (n * 5) 67
  have hr0 := h.kept (Kept.alloc w (madeCells (Value.cells (.agg #[.int .u32 0, .int .i64 0, .int .i64 0, .int .i64 0, .bool false])) (n * 5)) 67 (0, 0) none) (fun i e => by cases e)
  have hk0 : Kept w (w.alloc (.cells (madeCells (Value.cells (.agg #[.int .u32 0, .int .i64 0, .int .i64 0, .int .i64 0, .bool false])) (n * 5)) 67)) (some b) := Kept.alloc _ _ _ _ _
  have hbl := h.lt
  have hbs : some w.heap.size ≠ some b := fun e => by injection e; omega
  generalize hW0 : w.alloc (.cells (madeCells (Value.cells (.agg #[.int .u32 0, .int .i64 0, .int .i64 0, .int .i64 0, .bool false])) (n * 5)) 67) = W0 at *
  have HR0 := Hid.mk' hr0
  have HRow0 := Hid.mk' hrow0
  clear h hr0 hrow0 hW0
  go_enter Tryd.func123, Tryd.ntmps123
  go_wp2
  clear hmk
  go_loopw [11] (fun i wr => ∃ k : Nat, k ≤ n ∧ i = .int .i64 k ∧ (∃ f, wr.rowIs w.heap.size 67 (n * 5) f ∧ ∀ i, i < k → ∀ j, j < 5 → f (i * 5 + j) = (fun i j => phV ((listM phM k s).1.getD i p0) j) i j) ∧ Rdr wr H b (listM phM k s).2 ∧ Kept w wr (some b)) (fun i _ => n - (intOf i).toNat)
  case atStart => exact ⟨0, Nat.zero_le _, rfl, ⟨_, HRow0.out, fun i hi => by omega⟩, HR0.out, hk0⟩
  case round =>
    obtain ⟨k, hk, rfl, ⟨f, hrow, hf⟩, hr, hkw⟩ := hrel
    by_cases hlt : k < n
    · have hcall := phase_rd hr (by have := hkw.size; omega)
      have hsn := listM_snoc phM k s
      have hlen := listM_len phM k s
      have HF := Hid.mk' hf
      have HROW := Hid.mk' hrow
      have HSN := Hid.mk' hsn
      have HLEN := Hid.mk' hlen
      have HCALL := Hid.mk' hcall
      clear hf hrow hsn hlen hcall hr
      generalize hx : (phM (listM phM k s).2).1 = x at *
      clear hx
      go_wp2_with (refine HCALL.out.mono ?_; rintro e w2 ⟨rfl, hr2, hk2⟩; have hrow2 := row_kept HROW.out hk2 hbs; have k0 := hrow2.cell (i := k * 5) (by have := idx_lt (j := 0) hlt (show 0 < 5 by omega); omega); have z0 := hrow2.frozen (k * 5); have k1 := hrow2.cell (i := k * 5 + 1) (by have := idx_lt (j := 1) hlt (show 1 < 5 by omega); omega); have z1 := hrow2.frozen (k * 5 + 1); have k2 := hrow2.cell (i := k * 5 + 2) (by have := idx_lt (j := 2) hlt (show 2 < 5 by omega); omega); have z2 := hrow2.frozen (k * 5 + 2); have k3 := hrow2.cell (i := k * 5 + 3) (by have := idx_lt (j := 3) hlt (show 3 < 5 by omega); omega); have z3 := hrow2.frozen (k * 5 + 3); have k4 := hrow2.cell (i := k * 5 + 4) (by have := idx_lt (j := 4) hlt (show 4 < 5 by omega); omega); have z4 := hrow2.frozen (k * 5 + 4))
      go_roundw
      case rel =>
        refine ⟨k + 1, by omega, by go_num, ⟨_, (World.rowIs.set (World.rowIs.set (World.rowIs.set (World.rowIs.set (World.rowIs.set hrow2 (k * 5) (.int .u32 (x.groups : Int))) (k * 5 + 1) (.int .i64 x.min)) (k * 5 + 2) (.int .i64 x.max)) (k * 5 + 3) (.int .i64 x.gap)) (k * 5 + 4) (.bool x.always)), fun i hi j hj => ?_⟩, by rw [HSN.out]; exact (((((hr2.setNew hH (k * 5) _).setNew hH (k * 5 + 1) _).setNew hH (k * 5 + 2) _).setNew hH (k * 5 + 3) _).setNew hH (k * 5 + 4) _), (kept_new (kept_new (kept_new (kept_new (kept_new (hkw.tr hk2) (Nat.le_refl _) (k * 5) _) (Nat.le_refl _) (k * 5 + 1) _) (Nat.le_refl _) (k * 5 + 2) _) (Nat.le_refl _) (k * 5 + 3) _) (Nat.le_refl _) (k * 5 + 4) _)⟩
        rw [HSN.out]
        by_cases hik : i = k
        · subst hik
          have : j = 0 ∨ j = 1 ∨ j = 2 ∨ j = 3 ∨ j = 4 := by omega
          try dsimp only
          rw [getD_snoc_eq HLEN.out.symm]
          rcases this with rfl | rfl | rfl | rfl | rfl <;> simp [phV]
        · have hne := fun q => idx_ne (q := q) (show i < k by omega) hj
          try dsimp only
          rw [getD_snoc_lt (by rw [HLEN.out]; omega)]
          have h0 := HF.out i (by omega) j hj
          try dsimp only at h0
          rw [← h0]
          rw [if_neg (by have := hne 4; omega)]; rw [if_neg (by have := hne 3; omega)]; rw [if_neg (by have := hne 2; omega)]; rw [if_neg (by have := hne 1; omega)]; rw [if_neg (by have := hne 0; omega)]
      case measure => simp [intOf]; omega
    · have hkk : k = n := by omega
      subst hkk
      have HL := Hid.mk' (lie_row hrow hf)
      clear hf hrow
      go_wp2
      go_ret
      exact ⟨rfl, HL.out, hr, hkw⟩
set_option maxRecDepth 100000 in
set_option maxHeartbeats 1000000 in
theorem list_eye {w : World} {H b : Nat} {s : Rd} (h : Rdr w H b s) (hH : H ≤ w.heap.size) (n : Nat) (hn : n ≤ 24) : Calls Tryd.prog 125 #[.int .i64 n, .func (.func 126) #[.pointer (some ⟨b, 0, none⟩)] #[]] w fun e w' => e = .returned (.slice (some ⟨w.heap.size, 0, none⟩) n n) ∧ Lie w' (some ⟨w.heap.size, 0, none⟩) n 4 (fun i j => eyV ((listM eyM n s).1.getD i e0) j) ∧ Rdr w' H b (listM eyM n s).2 ∧ Kept w w' (some b) := by
  obtain ⟨i0, hi0, hz0, hz1, hz2⟩ := info_parts (show (Tryd.prog.info? 116).map (fun i => (i.zero, i.size, i.bytes)) = some (some (.agg #[.int .i64 0, .int .i64 0, .int .i64 0, .int .i64 0]), 4, 32) from by kernel_rfl)
  have hmk := run_make (P := Tryd.prog) w 45 116 i0 _ (by kernel_rfl) hi0 hz0 .i64 .i64 n n (by omega) (Int.le_refl _) (by rw [hz2]; omega) (by omega)
  rw [hz1, Int.toNat_natCast] at hmk
  have hrow0 := madeRow w (Value.cells (.agg #[.int .i64 0, .int .i64 0, .int .i64 0, .int .i64 0])) (n * 4) 116
  have hr0 := h.kept (Kept.alloc w (madeCells (Value.cells (.agg #[.int .i64 0, .int .i64 0, .int .i64 0, .int .i64 0])) (n * 4)) 116 (0, 0) none) (fun i e => by cases e)
  have hk0 : Kept w (w.alloc (.cells (madeCells (Value.cells (.agg #[.int .i64 0, .int .i64 0, .int .i64 0, .int .i64 0])) (n * 4)) 116)) (some b) := Kept.alloc _ _ _ _ _
  have hbl := h.lt
  have hbs : some w.heap.size ≠ some b := fun e => by injection e; omega
  generalize hW0 : w.alloc (.cells (madeCells (Value.cells (.agg #[.int .i64 0, .int .i64 0, .int .i64 0, .int .i64 0])) (n * 4)) 116) = W0 at *
  have HR0 := Hid.mk' hr0
  have HRow0 := Hid.mk' hrow0
  clear h hr0 hrow0 hW0
  go_enter Tryd.func125, Tryd.ntmps125
  go_wp2
  clear hmk
  go_loopw [11] (fun i wr => ∃ k : Nat, k ≤ n ∧ i = .int .i64 k ∧ (∃ f, wr.rowIs w.heap.size 116 (n * 4) f ∧ ∀ i, i < k → ∀ j, j < 4 → f (i * 4 + j) = (fun i j => eyV ((listM eyM k s).1.getD i e0) j) i j) ∧ Rdr wr H b (listM eyM k s).2 ∧ Kept w wr (some b)) (fun i _ => n - (intOf i).toNat)
  case atStart => exact ⟨0, Nat.zero_le _, rfl, ⟨_, HRow0.out, fun i hi => by omega⟩, HR0.out, hk0⟩
  case round =>
    obtain ⟨k, hk, rfl, ⟨f, hrow, hf⟩, hr, hkw⟩ := hrel
    by_cases hlt : k < n
    · have hcall := eye_rd hr (by have := hkw.size; omega)
      have hsn := listM_snoc eyM k s
      have hlen := listM_len eyM k s
      have HF := Hid.mk' hf
      have HROW := Hid.mk' hrow
      have HSN := Hid.mk' hsn
      have HLEN := Hid.mk' hlen
      have HCALL := Hid.mk' hcall
      clear hf hrow hsn hlen hcall hr
      generalize hx : (eyM (listM eyM k s).2).1 = x at *
      clear hx
      go_wp2_with (refine HCALL.out.mono ?_; rintro e w2 ⟨rfl, hr2, hk2⟩; have hrow2 := row_kept HROW.out hk2 hbs; have k0 := hrow2.cell (i := k * 4) (by have := idx_lt (j := 0) hlt (show 0 < 4 by omega); omega); have z0 := hrow2.frozen (k * 4); have k1 := hrow2.cell (i := k * 4 + 1) (by have := idx_lt (j := 1) hlt (show 1 < 4 by omega); omega); have z1 := hrow2.frozen (k * 4 + 1); have k2 := hrow2.cell (i := k * 4 + 2) (by have := idx_lt (j := 2) hlt (show 2 < 4 by omega); omega); have z2 := hrow2.frozen (k * 4 + 2); have k3 := hrow2.cell (i := k * 4 + 3) (by have := idx_lt (j := 3) hlt (show 3 < 4 by omega); omega); have z3 := hrow2.frozen (k * 4 + 3))
      go_roundw
      case rel =>
        refine ⟨k + 1, by omega, by go_num, ⟨_, (World.rowIs.set (World.rowIs.set (World.rowIs.set (World.rowIs.set hrow2 (k * 4) (.int .i64 x.phase)) (k * 4 + 1) (.int .i64 x.on)) (k * 4 + 2) (.int .i64 x.off)) (k * 4 + 3) (.int .i64 x.turns)), fun i hi j hj => ?_⟩, by rw [HSN.out]; exact ((((hr2.setNew hH (k * 4) _).setNew hH (k * 4 + 1) _).setNew hH (k * 4 + 2) _).setNew hH (k * 4 + 3) _), (kept_new (kept_new (kept_new (kept_new (hkw.tr hk2) (Nat.le_refl _) (k * 4) _) (Nat.le_refl _) (k * 4 + 1) _) (Nat.le_refl _) (k * 4 + 2) _) (Nat.le_refl _) (k * 4 + 3) _)⟩
        rw [HSN.out]
        by_cases hik : i = k
        · subst hik
          have : j = 0 ∨ j = 1 ∨ j = 2 ∨ j = 3 := by omega
          try dsimp only
          rw [getD_snoc_eq HLEN.out.symm]
          rcases this with rfl | rfl | rfl | rfl <;> simp [eyV]
        · have hne := fun q => idx_ne (q := q) (show i < k by omega) hj
          try dsimp only
          rw [getD_snoc_lt (by rw [HLEN.out]; omega)]
          have h0 := HF.out i (by omega) j hj
          try dsimp only at h0
          rw [← h0]
          rw [if_neg (by have := hne 3; omega)]; rw [if_neg (by have := hne 2; omega)]; rw [if_neg (by have := hne 1; omega)]; rw [if_neg (by have := hne 0; omega)]
      case measure => simp [intOf]; omega
    · have hkk : k = n := by omega
      subst hkk
      have HL := Hid.mk' (lie_row hrow hf)
      clear hf hrow
      go_wp2
      go_ret
      exact ⟨rfl, HL.out, hr, hkw⟩

end Go.Proofs.YtoahbpdgbiachaaDoor

