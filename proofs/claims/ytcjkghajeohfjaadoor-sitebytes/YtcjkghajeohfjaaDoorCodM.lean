/-
  Texts joined: some of those that the proofs of this seat stand on.
-/
import Derived.Test.YtcjkghajeohfjaaDoorSiteBJ
/-
  READING AND WRITING, as mathematics: a reader of numbers that is bad for good where one may not be; what is written is read again, and nothing else.
-/
namespace Go.Proofs.YtcjkghajeohfjaaDoor
set_option linter.unusedVariables false
set_option linter.unusedSimpArgs false

/-- The bytes that are left, and whether something was bad. -/
abbrev Rd := List Nat × Bool
def upM (most : Nat) (s : Rd) : Nat × Rd := if (!s.2 && (okR s.1 && decide (rdN s.1 ≤ most))) = true then (rdN s.1, (s.1.drop (rdK s.1), false)) else (0, (s.1, true))
def numM (s : Rd) : Int × Rd := (((upM 1048576 s).1 : Int), (upM 1048576 s).2)
def listM {α : Type} (f : Rd → α × Rd) : Nat → Rd → List α × Rd
  | 0, s => ([], s)
  | n + 1, s => ((f s).1 :: (listM f n (f s).2).1, (listM f n (f s).2).2)
theorem listM_len {α : Type} (f : Rd → α × Rd) : ∀ n s, (listM f n s).1.length = n
  | 0, s => rfl
  | n + 1, s => by rw [listM, List.length_cons, listM_len f n]
theorem listM_snoc {α : Type} (f : Rd → α × Rd) : ∀ n s, listM f (n + 1) s = ((listM f n s).1 ++ [(f (listM f n s).2).1], (f (listM f n s).2).2)
  | 0, s => rfl
  | n + 1, s => by
    have h := listM_snoc f n (f s).2
    rw [listM, h]
    rfl
def bindM {α β : Type} (p : Rd → α × Rd) (q : α → Rd → β × Rd) (s : Rd) : (α × β) × Rd := (((p s).1, (q (p s).1 (p s).2).1), (q (p s).1 (p s).2).2)
def mapM' {α β : Type} (f : α → β) (p : Rd → α × Rd) (s : Rd) : β × Rd := (f (p s).1, (p s).2)
structure Cod {α : Type} (p : Rd → α × Rd) (enc : α → List Nat) (ok : α → Prop) : Prop where
  fwd : ∀ x T, ok x → p (enc x ++ T, false) = (x, (T, false))
  bwd : ∀ L, (∀ y ∈ L, y < 256) → (p (L, false)).2.2 = false → L = enc (p (L, false)).1 ++ (p (L, false)).2.1 ∧ ok (p (L, false)).1
  bad : ∀ L, (p (L, true)).2.2 = true
theorem Cod.bind {α β : Type} {p : Rd → α × Rd} {q : α → Rd → β × Rd} {ea : α → List Nat} {eb : α → β → List Nat} {oa : α → Prop} {ob : α → β → Prop} (hp : Cod p ea oa) (hq : ∀ x, Cod (q x) (eb x) (ob x)) : Cod (bindM p q) (fun z => ea z.1 ++ eb z.1 z.2) (fun z => oa z.1 ∧ ob z.1 z.2) := by
  refine ⟨fun z T h => ?_, fun L hL h => ?_, fun L => ?_⟩
  · unfold bindM
    rw [List.append_assoc, hp.fwd z.1 _ h.1]
    show (((z.1, (q z.1 (eb z.1 z.2 ++ T, false)).1), (q z.1 (eb z.1 z.2 ++ T, false)).2)) = _
    rw [(hq z.1).fwd z.2 T h.2]
  · unfold bindM at h ⊢
    have h1 : (p (L, false)).2.2 = false := by
      cases e : (p (L, false)).2.2 with
      | false => rfl
      | true =>
        have e2 : (p (L, false)).2 = ((p (L, false)).2.1, true) := Prod.ext rfl e
        have := (hq (p (L, false)).1).bad (p (L, false)).2.1
        rw [← e2] at this
        exact absurd (h.symm.trans this) (by simp)
    obtain ⟨g1, g2⟩ := hp.bwd L hL h1
    have e2 : (p (L, false)).2 = ((p (L, false)).2.1, false) := Prod.ext rfl h1
    have hL2 : ∀ y ∈ (p (L, false)).2.1, y < 256 := fun y hy => hL y (by rw [g1]; exact List.mem_append.2 (.inr hy))
    have h' : (q (p (L, false)).1 ((p (L, false)).2.1, false)).2.2 = false := by rw [← e2]; exact h
    obtain ⟨g3, g4⟩ := (hq (p (L, false)).1).bwd _ hL2 h'
    rw [← e2] at g3 g4
    refine ⟨?_, g2, g4⟩
    show L = ea (p (L, false)).1 ++ eb _ _ ++ _
    rw [List.append_assoc, ← g3]
    exact g1
  · unfold bindM
    have e2 : (p (L, true)).2 = ((p (L, true)).2.1, true) := Prod.ext rfl (hp.bad L)
    rw [e2]
    exact (hq _).bad _
theorem Cod.map {α β : Type} {p : Rd → α × Rd} {ea : α → List Nat} {oa : α → Prop} {eb : β → List Nat} {ob : β → Prop} (hp : Cod p ea oa) (f : α → β) (g : β → α) (h1 : ∀ y, ob y → f (g y) = y ∧ oa (g y) ∧ eb y = ea (g y)) (h2 : ∀ x, oa x → ob (f x) ∧ eb (f x) = ea x) : Cod (mapM' f p) eb ob := by
  refine ⟨fun y T h => ?_, fun L hL h => ?_, fun L => hp.bad L⟩
  · obtain ⟨a1, a2, a3⟩ := h1 y h
    unfold mapM'
    rw [a3, hp.fwd _ T a2, a1]
  · obtain ⟨g1, g2⟩ := hp.bwd L hL h
    obtain ⟨b1, b2⟩ := h2 _ g2
    refine ⟨?_, b1⟩
    show L = eb (f (p (L, false)).1) ++ _
    rw [b2]
    exact g1
theorem Cod.list {α : Type} {p : Rd → α × Rd} {ea : α → List Nat} {oa : α → Prop} (hp : Cod p ea oa) : ∀ n, Cod (listM p n) (fun l => l.flatMap ea) (fun l => l.length = n ∧ ∀ x ∈ l, oa x)
  | 0 => ⟨fun l T h => by
      have : l = [] := List.length_eq_zero_iff.1 h.1
      subst this; rfl, fun L hL h => ⟨rfl, rfl, fun x hx => (nomatch hx)⟩, fun L => rfl⟩
  | n + 1 => by
    have ih := Cod.list hp n
    refine ⟨fun l T h => ?_, fun L hL h => ?_, fun L => ?_⟩
    · cases l with
      | nil => simp at h
      | cons x l =>
        rw [listM, List.flatMap_cons, List.append_assoc, hp.fwd x _ (h.2 x (List.mem_cons_self ..))]
        show ((x :: (listM p n (l.flatMap ea ++ T, false)).1, (listM p n (l.flatMap ea ++ T, false)).2)) = _
        rw [ih.fwd l T ⟨by simpa using h.1, fun y hy => h.2 y (List.mem_cons_of_mem _ hy)⟩]
    · rw [listM] at h ⊢
      have h1 : (p (L, false)).2.2 = false := by
        cases e : (p (L, false)).2.2 with
        | false => rfl
        | true =>
          have e2 : (p (L, false)).2 = ((p (L, false)).2.1, true) := Prod.ext rfl e
          have := ih.bad (p (L, false)).2.1
          rw [← e2] at this
          exact absurd (h.symm.trans this) (by simp)
      obtain ⟨g1, g2⟩ := hp.bwd L hL h1
      have e2 : (p (L, false)).2 = ((p (L, false)).2.1, false) := Prod.ext rfl h1
      have hL2 : ∀ y ∈ (p (L, false)).2.1, y < 256 := fun y hy => hL y (by rw [g1]; exact List.mem_append.2 (.inr hy))
      have h' : (listM p n ((p (L, false)).2.1, false)).2.2 = false := by rw [← e2]; exact h
      obtain ⟨g3, g4⟩ := ih.bwd _ hL2 h'
      rw [← e2] at g3 g4
      refine ⟨?_, by simp [g4.1], fun x hx => ?_⟩
      · show L = ((p (L, false)).1 :: (listM p n (p (L, false)).2).1).flatMap ea ++ _
        rw [List.flatMap_cons, List.append_assoc, ← g3]
        exact g1
      · rcases List.mem_cons.1 hx with rfl | hx
        · exact g2
        · exact g4.2 x hx
    · rw [listM]
      have e2 : (p (L, true)).2 = ((p (L, true)).2.1, true) := Prod.ext rfl (hp.bad L)
      show (listM p n (p (L, true)).2).2.2 = true
      rw [e2]
      exact ih.bad _
theorem upC {most : Nat} (hm : most < 18446744073709551616) : Cod (upM most) sml (fun n => n ≤ most) := by
  refine ⟨fun n T h => ?_, fun L hL h => ?_, fun L => rfl⟩
  · obtain ⟨h1, h2, h3⟩ := read_sml n T (by omega)
    have h4 : okR (sml n ++ T) = true := by
      cases e : okR (sml n ++ T) with
      | true => rfl
      | false => unfold rdE at h1; rw [e] at h1; cases h1
    unfold upM
    rw [if_pos (by simp [h4, h2, h]), h2, h3]
    simp
  · unfold upM at h ⊢
    split at h
    · rename_i hc
      rw [if_pos hc]
      simp only [Bool.not_false, Bool.true_and, Bool.and_eq_true, decide_eq_true_eq] at hc
      obtain ⟨g1, _, _, _⟩ := read_only L hL hc.1
      exact ⟨by rw [g1, List.take_append_drop], hc.2⟩
    · cases h
theorem numC : Cod numM (fun x : Int => sml x.toNat) (fun x => 0 ≤ x ∧ x ≤ 1048576) :=
  (upC (most := 1048576) (by omega)).map (fun n : Nat => (n : Int)) Int.toNat (fun y hy => ⟨by omega, by omega, rfl⟩) (fun x hx => ⟨⟨by omega, by omega⟩, rfl⟩)
def countM {α : Type} (most : Nat) (f : Rd → α × Rd) (s : Rd) : List α × Rd := listM f (upM most s).1 (upM most s).2
theorem countC {α : Type} {p : Rd → α × Rd} {ea : α → List Nat} {oa : α → Prop} (hp : Cod p ea oa) {most : Nat} (hm : most < 18446744073709551616) : Cod (countM most p) (fun l => sml l.length ++ l.flatMap ea) (fun l => l.length ≤ most ∧ ∀ x ∈ l, oa x) :=
  ((upC hm).bind (fun n => hp.list n)).map (fun z => z.2) (fun l => (l.length, l)) (fun y hy => ⟨rfl, ⟨hy.1, rfl, hy.2⟩, rfl⟩) (fun x hx => ⟨⟨by rw [hx.2.1]; exact hx.1, hx.2.2⟩, by
    show sml x.2.length ++ _ = sml x.1 ++ _
    rw [hx.2.1]⟩)

/-! ### The parts of a site -/
def grM : Rd → Gr × Rd := mapM' (fun z : Nat × (Int × Int) => (⟨z.1, z.2.1, z.2.2⟩ : Gr)) (bindM (upM 255) (fun _ => bindM numM (fun _ => numM)))
theorem grC : Cod grM (fun g => smlI (grI g)) (fun g => g.kind ≤ 255 ∧ (0 ≤ g.min ∧ g.min ≤ 1048576) ∧ (0 ≤ g.yellow ∧ g.yellow ≤ 1048576)) := by
  unfold grM
  exact ((upC (most := 255) (by omega)).bind (fun _ => numC.bind (fun _ => numC))).map _ (fun g : Gr => (g.kind, (g.min, g.yellow))) (fun y hy => ⟨rfl, hy, by simp [smlI, grI]⟩) (fun x hx => ⟨hx, by simp [smlI, grI]⟩)
def phM : Rd → Ph × Rd := mapM' (fun z : Nat × (Int × (Int × (Int × Nat))) => (⟨z.1, z.2.1, z.2.2.1, z.2.2.2.1, decide (z.2.2.2.2 = 1)⟩ : Ph)) (bindM (upM 4294967295) (fun _ => bindM numM (fun _ => bindM numM (fun _ => bindM numM (fun _ => upM 1)))))
theorem phC : Cod phM (fun p => smlI (phI p)) (fun p => p.groups ≤ 4294967295 ∧ (0 ≤ p.min ∧ p.min ≤ 1048576) ∧ (0 ≤ p.max ∧ p.max ≤ 1048576) ∧ (0 ≤ p.gap ∧ p.gap ≤ 1048576)) := by
  unfold phM
  exact ((upC (most := 4294967295) (by omega)).bind (fun _ => numC.bind (fun _ => numC.bind (fun _ => numC.bind (fun _ => upC (most := 1) (by omega)))))).map _ (fun p : Ph => (p.groups, (p.min, (p.max, (p.gap, if p.always = true then 1 else 0)))))
    (fun y hy => ⟨by
      obtain ⟨a, b, c, d, e⟩ := y
      cases e <;> rfl, ⟨hy.1, hy.2.1, hy.2.2.1, hy.2.2.2, by show (if y.always = true then 1 else 0) ≤ 1; split <;> omega⟩, by
      obtain ⟨a, b, c, d, e⟩ := y
      cases e <;> simp [smlI, phI]⟩)
    (fun x hx => ⟨⟨hx.1, hx.2.1, hx.2.2.1, hx.2.2.2.1⟩, by
      obtain ⟨a, b, c, d, e⟩ := x
      have he : e ≤ 1 := hx.2.2.2.2
      have : e = 0 ∨ e = 1 := by omega
      rcases this with rfl | rfl <;> simp [smlI, phI]⟩)
def eyM : Rd → Ey × Rd := mapM' (fun z : Int × (Int × (Int × Int)) => (⟨z.1, z.2.1, z.2.2.1, z.2.2.2⟩ : Ey)) (bindM numM (fun _ => bindM numM (fun _ => bindM numM (fun _ => numM))))
theorem eyC : Cod eyM (fun e => smlI (eyI e)) (fun e => (0 ≤ e.phase ∧ e.phase ≤ 1048576) ∧ (0 ≤ e.on ∧ e.on ≤ 1048576) ∧ (0 ≤ e.off ∧ e.off ≤ 1048576) ∧ (0 ≤ e.turns ∧ e.turns ≤ 1048576)) := by
  unfold eyM
  exact (numC.bind (fun _ => numC.bind (fun _ => numC.bind (fun _ => numC)))).map _ (fun e : Ey => (e.phase, (e.on, (e.off, e.turns)))) (fun y hy => ⟨rfl, hy, by simp [smlI, eyI]⟩) (fun x hx => ⟨hx, by simp [smlI, eyI]⟩)
def plM : Rd → Pl × Rd := mapM' (fun z : Int × (Int × List Int) => (⟨z.1, z.2.1, z.2.2⟩ : Pl)) (bindM numM (fun _ => bindM numM (fun _ => countM 8 numM)))
theorem smlI_flat (l : List Int) : l.flatMap (fun x : Int => sml x.toNat) = smlI l := rfl
theorem plC : Cod plM (fun p => smlI (plI p)) (fun p => (0 ≤ p.cycle ∧ p.cycle ≤ 1048576) ∧ (0 ≤ p.offset ∧ p.offset ≤ 1048576) ∧ p.splits.length ≤ 8 ∧ ∀ x ∈ p.splits, 0 ≤ x ∧ x ≤ 1048576) := by
  unfold plM
  exact (numC.bind (fun _ => numC.bind (fun _ => countC numC (most := 8) (by omega)))).map _ (fun p : Pl => (p.cycle, (p.offset, p.splits))) (fun y hy => ⟨rfl, hy, by simp [smlI, plI]⟩) (fun x hx => ⟨hx, by simp [smlI, plI]⟩)
def plansM : Rd → List Pl × Rd := countM 8 plM
theorem smlI_flatMap {α : Type} (f : α → List Int) (l : List α) : l.flatMap (fun x => smlI (f x)) = smlI (l.flatMap f) := by
  induction l with
  | nil => rfl
  | cons x l ih => rw [List.flatMap_cons, List.flatMap_cons, smlI_append, ih]
theorem plansC : Cod plansM (fun l => smlI (plansI l)) (fun l => l.length ≤ 8 ∧ ∀ p ∈ l, (0 ≤ p.cycle ∧ p.cycle ≤ 1048576) ∧ (0 ≤ p.offset ∧ p.offset ≤ 1048576) ∧ p.splits.length ≤ 8 ∧ ∀ x ∈ p.splits, 0 ≤ x ∧ x ≤ 1048576) := by
  have h := countC plC (most := 8) (by omega)
  have e : ∀ l : List Pl, smlI (plansI l) = sml l.length ++ l.flatMap (fun p => smlI (plI p)) := fun l => by
    rw [smlI_flatMap]
    simp [plansI, smlI]
  exact ⟨fun x T hx => by rw [e]; exact h.fwd x T hx, fun L hL hh => by rw [e]; exact h.bwd L hL hh, h.bad⟩

abbrev Tup := Int × (List Gr × (List Nat × (List (List Int) × (List Ph × (List Ey × (Int × (Int × (Int × (Int × (Int × List Pl))))))))))
def mkS (z : Tup) : St := ⟨z.1, z.2.1, z.2.2.1, z.2.2.2.1, z.2.2.2.2.1, z.2.2.2.2.2.1, z.2.2.2.2.2.2.1, z.2.2.2.2.2.2.2.1, z.2.2.2.2.2.2.2.2.1, z.2.2.2.2.2.2.2.2.2.1, z.2.2.2.2.2.2.2.2.2.2.1, z.2.2.2.2.2.2.2.2.2.2.2⟩
def unS (S : St) : Tup := (S.id, (S.groups, (S.apart, (S.between, (S.phases, (S.eyes, (S.watch, (S.feed, (S.heal, (S.low, (S.high, S.plans)))))))))))
def siteM : Rd → St × Rd := mapM' mkS (bindM numM (fun _ => bindM (countM 16 grM) (fun g => bindM (listM (upM 4294967295) g.length) (fun _ => bindM (listM (listM numM g.length) g.length) (fun _ => bindM (countM 8 phM) (fun _ => bindM (countM 24 eyM) (fun _ => bindM numM (fun _ => bindM numM (fun _ => bindM numM (fun _ => bindM numM (fun _ => bindM numM (fun _ => plansM)))))))))))) 
def tickP (x : Int) : Prop := 0 ≤ x ∧ x ≤ 1048576
structure Rok (S : St) : Prop where
  id : tickP S.id
  gn : S.groups.length ≤ 16
  gr : ∀ g ∈ S.groups, g.kind ≤ 255 ∧ tickP g.min ∧ tickP g.yellow
  an : S.apart.length = S.groups.length
  ap : ∀ x ∈ S.apart, x ≤ 4294967295
  bn : S.between.length = S.groups.length
  bt : ∀ l ∈ S.between, l.length = S.groups.length ∧ ∀ x ∈ l, tickP x
  pn : S.phases.length ≤ 8
  ph : ∀ p ∈ S.phases, p.groups ≤ 4294967295 ∧ tickP p.min ∧ tickP p.max ∧ tickP p.gap
  en : S.eyes.length ≤ 24
  ey : ∀ e ∈ S.eyes, tickP e.phase ∧ tickP e.on ∧ tickP e.off ∧ tickP e.turns
  own : tickP S.watch ∧ tickP S.feed ∧ tickP S.heal ∧ tickP S.low ∧ tickP S.high
  ln : S.plans.length ≤ 8
  pl : ∀ p ∈ S.plans, tickP p.cycle ∧ tickP p.offset ∧ p.splits.length ≤ 8 ∧ ∀ x ∈ p.splits, tickP x
theorem siteL_eq (S : St) : siteL S = sml S.id.toNat ++ ((sml S.groups.length ++ S.groups.flatMap fun g => smlI (grI g)) ++ (S.apart.flatMap sml ++ (S.between.flatMap (fun l => l.flatMap fun x : Int => sml x.toNat) ++ ((sml S.phases.length ++ S.phases.flatMap fun p => smlI (phI p)) ++ ((sml S.eyes.length ++ S.eyes.flatMap fun e => smlI (eyI e)) ++ (sml S.watch.toNat ++ (sml S.feed.toNat ++ (sml S.heal.toNat ++ (sml S.low.toNat ++ (sml S.high.toNat ++ smlI (plansI S.plans))))))))))) := by
  unfold siteL siteI I7 I6 I5 I4 I3 I2 I1
  simp only [List.take_length]
  have ea : smlI (S.apart.flatMap apI) = S.apart.flatMap sml := by
    rw [← smlI_flatMap]
    congr 1
    funext x
    simp [smlI, apI]
  have eb : smlI S.between.flatten = S.between.flatMap (fun l => l.flatMap fun x : Int => sml x.toNat) := by
    have := smlI_flatMap (fun l : List Int => l) S.between
    rw [List.flatMap_id'] at this
    rw [← this]
    rfl
  simp only [smlI_append, smlI_flatMap, ea, eb]
  simp [smlI, List.append_assoc]
theorem siteC : Cod siteM siteL Rok := by
  unfold siteM
  have h := numC.bind (fun _ => (countC grC (most := 16) (by omega)).bind (fun g => ((upC (most := 4294967295) (by omega)).list g.length).bind (fun _ => ((numC.list g.length).list g.length).bind (fun _ => (countC phC (most := 8) (by omega)).bind (fun _ => (countC eyC (most := 24) (by omega)).bind (fun _ => numC.bind (fun _ => numC.bind (fun _ => numC.bind (fun _ => numC.bind (fun _ => numC.bind (fun _ => plansC))))))))))) 
  refine h.map mkS unS (fun S hS => ⟨rfl, ?_, ?_⟩) (fun z hz => ⟨?_, ?_⟩)
  · exact ⟨hS.id, ⟨hS.gn, hS.gr⟩, ⟨hS.an, hS.ap⟩, ⟨hS.bn, hS.bt⟩, ⟨hS.pn, hS.ph⟩, ⟨hS.en, hS.ey⟩, hS.own.1, hS.own.2.1, hS.own.2.2.1, hS.own.2.2.2.1, hS.own.2.2.2.2, hS.ln, hS.pl⟩
  · exact siteL_eq S
  · obtain ⟨h1, ⟨h2, h3⟩, ⟨h4, h5⟩, ⟨h6, h7⟩, ⟨h8, h9⟩, ⟨h10, h11⟩, h12, h13, h14, h15, h16, h17, h18⟩ := hz
    exact ⟨h1, h2, h3, h4, h5, h6, h7, h8, h9, h10, h11, ⟨h12, h13, h14, h15, h16⟩, h17, h18⟩
  · exact siteL_eq (mkS z)
/-- A site that may be can be read again. -/
theorem rok_may {X : Sa} {S : St} {w : Go.World} (h : Sat w X S) (hs : siteB S = true) : Rok S := by
  have hA := all_of hs
  have hP := pos_may hs
  have hSp := span_may hs
  have hO := hP.ok
  have h1 : ownB S = true := hA 1 (by omega) 0 Nat.zero_lt_one
  have h8 : cyclesB S = true := hA 8 (by omega) 0 Nat.zero_lt_one
  unfold ownB timeB at h1
  unfold cyclesB at h8
  simp only [Bool.and_eq_true, inB_iff] at h1 h8
  have hlow := hSp.low
  have hhi := hSp.high
  refine ⟨⟨by omega, by omega⟩, hO.ng.2, fun g hg => ?_, hO.na, fun x hx => ?_, hO.nb, fun l hl => ?_, hO.np.2, fun p hp => ?_, hO.ne, fun e he => ?_, ⟨⟨by omega, by omega⟩, ⟨by omega, by omega⟩, ⟨by omega, by omega⟩, ⟨by omega, by omega⟩, ⟨by omega, by omega⟩⟩, hO.nl, fun p hp => ?_⟩
  · obtain ⟨i, hi, rfl⟩ := List.getElem_of_mem hg
    have h2 : groupB S i = true := hA 2 (by omega) i hi
    have h3 := h.gr _ hg
    have e : S.gr i = S.groups[i] := by unfold St.gr; simp [hi]
    unfold groupB timeB at h2
    rw [e] at h2
    simp only [Bool.and_eq_true, inB_iff] at h2
    exact ⟨by omega, ⟨by omega, by omega⟩, ⟨by omega, by omega⟩⟩
  · have := h.ar x hx; omega
  · obtain ⟨i, hi, rfl⟩ := List.getElem_of_mem hl
    have e : S.between.getD i [] = S.between[i] := by simp [hi]
    have hb := hO.nb
    have h4 := hSp.base.sh.row i (by omega)
    rw [e] at h4
    refine ⟨h4, fun x hx => ?_⟩
    have h5 := hP.bt i hi x (by rw [e]; exact hx)
    obtain ⟨j, hj, rfl⟩ := List.getElem_of_mem hx
    have h6 := hSp.base.bt i j (by omega) (by omega)
    have e2 : S.bt i j = S.between[i][j] := by unfold St.bt; rw [e]; simp [hj]
    rw [e2] at h6
    exact ⟨h5, h6⟩
  · obtain ⟨i, hi, rfl⟩ := List.getElem_of_mem hp
    have h5 : phaseB S i = true := hA 5 (by omega) i hi
    have h6 := h.pr _ hp
    have e : S.ph i = S.phases[i] := by unfold St.ph; simp [hi]
    unfold phaseB timeB at h5
    rw [e] at h5
    simp only [Bool.and_eq_true, decide_eq_true_eq, inB_iff] at h5
    exact ⟨by omega, ⟨by omega, by omega⟩, ⟨by omega, by omega⟩, ⟨by omega, by omega⟩⟩
  · obtain ⟨i, hi, rfl⟩ := List.getElem_of_mem he
    have h7 : eyeB S i = true := hA 7 (by omega) i hi
    have e : S.ey i = S.eyes[i] := by unfold St.ey; simp [hi]
    have := hO.np
    unfold eyeB timeB at h7
    rw [e] at h7
    simp only [Bool.and_eq_true, inB_iff] at h7
    exact ⟨⟨by omega, by omega⟩, ⟨by omega, by omega⟩, ⟨by omega, by omega⟩, ⟨by omega, by omega⟩⟩
  · obtain ⟨h2, h3, h4, h5⟩ := hP.plans.one p hp
    obtain ⟨i, hi, rfl⟩ := List.getElem_of_mem hp
    have h9 : planB S (S.pl i) = true := hA 9 (by omega) i hi
    have e : S.pl i = S.plans[i] := by unfold St.pl; simp [hi]
    rw [e] at h9
    unfold planB at h9
    simp only [Bool.and_eq_true, decide_eq_true_eq, inB_iff] at h9
    have key : ∀ (l : List Int) (j : Nat) (left : Int), (∀ x ∈ l, 0 ≤ x) → left ≤ 1048576 → splitsB S j l left = true → ∀ x ∈ l, x ≤ 1048576 := by
      intro l
      induction l with
      | nil => intro j left _ _ _ x hx; cases hx
      | cons y l ih =>
        intro j left hp hl hs x hx
        rw [splitsB, Bool.and_eq_true, inB_iff] at hs
        rcases List.mem_cons.1 hx with rfl | hx
        · omega
        · have := hp y (List.mem_cons_self ..)
          exact ih (j + 1) _ (fun z hz => hp z (List.mem_cons_of_mem _ hz)) (by omega) hs.2 x hx
    exact ⟨⟨by omega, by omega⟩, ⟨by omega, by omega⟩, h4, fun x hx => ⟨h5 x hx, key _ 0 _ h5 (by omega) h9.2 x hx⟩⟩

end Go.Proofs.YtcjkghajeohfjaaDoor

