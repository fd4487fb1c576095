/-
  Texts joined: some of those that the proofs of this seat stand on.
-/
import Derived.Test.YtfhmfanmnhclfaaDoorGateMJ
/-
  PHASES BY THE CLOCK, in numbers: once each phase was full in time through a cycle, it is so from then on.
-/
namespace Go.Proofs.YtfhmfanmnhclfaaDoor
open Go.RowKit Go.Lib Go.Deep
set_option linter.unusedVariables false
set_option linter.unusedSimpArgs false

/-! ### Phases that go round -/
def nxP (n i : Nat) : Nat := if i + 1 = n then 0 else i + 1
def pvP (n j : Nat) : Nat := if j = 0 then n - 1 else j - 1
def bkP (n j l : Nat) : Nat := if l ≤ j then j - l else j + n - l
theorem nxP_lt {n i : Nat} (h : i < n) : nxP n i < n := by unfold nxP; split <;> omega
theorem pvP_lt {n i : Nat} (h : i < n) : pvP n i < n := by unfold pvP; split <;> omega
theorem pv_nx {n i : Nat} (h : i < n) : pvP n (nxP n i) = i := by unfold pvP nxP; split <;> split <;> omega
theorem nx_pv {n i : Nat} (h : i < n) : nxP n (pvP n i) = i := by unfold pvP nxP; split <;> split <;> omega
theorem bk_one {n j : Nat} (h : j < n) : bkP n j 1 = pvP n j := by unfold bkP pvP; split <;> split <;> omega
theorem bk_pv {n j l : Nat} (h : j < n) (hl : l + 1 < n) : bkP n (pvP n j) l = bkP n j (l + 1) := by
  unfold bkP pvP
  by_cases h0 : j = 0
  · rw [if_pos h0]; split <;> split <;> omega
  · rw [if_neg h0]; split <;> split <;> omega
theorem bk_all {n j i : Nat} (hj : j < n) (hi : i < n) : ∃ l, l < n ∧ bkP n j l = i ∧ (l = 0 → i = j) := by
  by_cases h : i ≤ j
  · exact ⟨j - i, by omega, by unfold bkP; rw [if_pos (by omega)]; omega, by omega⟩
  · exact ⟨j + n - i, by omega, by unfold bkP; rw [if_neg (by omega)]; omega, by omega⟩

/-! ### How groups stand, behind n ticks in which a phase asks -/
/-- Red, and for so long that nothing is held back by it. -/
structure Qt (S : St) (c : Nat) (s : Sn) : Prop where
  red : s.asp = 1
  bt : ∀ b, b < S.groups.length → S.bt c b ≤ s.ended
/-- Green for its Min, then not asked for n ticks. -/
structure Str (y : Int) (s : Sn) (n : Nat) : Prop where
  a : s.asp = 1 ∨ s.asp = 3
  ye : s.asp = 3 → stp s.since = (n : Int) ∧ (n : Int) ≤ y
  en : (n : Int) ≤ s.ended ∨ s.ended = 1048576
theorem at_g {S : St} {p : Nat} {F : Sf} {c : Nat} (hc : c < S.groups.length) (n : Nat) : (atT S p F (n + 1)).g c = sndV ((atT S p F n).g c) (letF S (atT S p F n) (askV S p) c) := by rw [atT_succ, step_g hc]
theorem more_ge {e b : Int} (h : b ≤ e) (hb : b ≤ 1048576) : b ≤ more e := by
  unfold more stp
  split <;> split <;> (try split) <;> omega
theorem qt_at {S : St} {p : Nat} {F : Sf} (hs : siteB S = true) (hc : Calm F) {c : Nat} (hcl : c < S.groups.length) (hp : inP S p c = false) (h : Qt S c (F.g c)) : ∀ n, Qt S c ((atT S p F n).g c)
  | 0 => h
  | n + 1 => by
    have ht := tur_facts hs
    have ih := qt_at hs hc hcl hp h n
    have hl := let_out ht.g0 (calm_at (p := p) ht.g0 hc n) hcl hp
    rw [ih.red] at hl
    unfold wantV at hl
    rw [if_pos (by decide), if_neg (by decide)] at hl
    have hl : letF S (atT S p F n) (askV S p) c = 1 := by omega
    rw [at_g hcl, hl]
    refine ⟨rfl, fun b hb => ?_⟩
    show S.bt c b ≤ endedV ((atT S p F n).g c).ended 1
    unfold endedV
    rw [if_neg (by decide)]
    have := ht.bt c b hcl hb
    have := ht.w1
    exact more_ge (ih.bt b hb) (by omega)
theorem str_at {S : St} {p : Nat} {F : Sf} (hs : siteB S = true) (hc : Calm F) {c : Nat} (hcl : c < S.groups.length) (hp : inP S p c = false) (h2 : (F.g c).asp = 2) (hm : (S.gr c).min ≤ stp (F.g c).since) : ∀ n : Nat, Str (S.gr c).yellow ((atT S p F (n + 1)).g c) (n + 1)
  | 0 => by
    have ht := tur_facts hs
    have hy := ht.yel c hcl
    have hl := let_out (p := p) ht.g0 hc hcl hp
    rw [h2] at hl
    unfold wantV at hl
    rw [if_neg (by decide), if_pos (by decide), if_neg (by decide), if_neg (by omega)] at hl
    have hl : letF S F (askV S p) c = 3 := by omega
    rw [at_g hcl]
    show Str _ (sndV (F.g c) (letF S F (askV S p) c)) 1
    rw [hl]
    have me := more_is (F.g c).ended
    refine ⟨.inr rfl, fun _ => ?_, .inl ?_⟩
    · show stp (sinceV (F.g c).asp (F.g c).since 3) = ((1 : Nat) : Int) ∧ ((1 : Nat) : Int) ≤ _
      unfold sinceV
      rw [h2, if_neg (by decide)]
      exact ⟨by decide, by omega⟩
    · show ((1 : Nat) : Int) ≤ endedV (F.g c).ended 3
      unfold endedV
      rw [if_neg (by decide)]
      omega
  | n + 1 => by
    have ht := tur_facts hs
    have hy := ht.yel c hcl
    have ih := str_at hs hc hcl hp h2 hm n
    have hl := let_out ht.g0 (calm_at (p := p) ht.g0 hc (n + 1)) hcl hp
    rw [at_g hcl (n + 1)]
    generalize (atT S p F (n + 1)).g c = s at *
    have me := more_is s.ended
    have ms := more_is s.since
    have s0 := stp_ge s.ended
    have hen : ((n + 1 + 1 : Nat) : Int) ≤ more s.ended ∨ more s.ended = 1048576 := by
      rcases ih.en with e | e
      · by_cases h9 : 1048576 ≤ s.ended
        · right
          unfold more stp
          split <;> split <;> (try split) <;> omega
        · left
          unfold more stp
          split <;> split <;> (try split) <;> omega
      · right
        rw [e]
        decide
    rcases ih.a with ha | ha
    · rw [ha] at hl
      unfold wantV at hl
      rw [if_pos (by decide), if_neg (by decide)] at hl
      have hl : letF S (atT S p F (n + 1)) (askV S p) c = 1 := by omega
      rw [hl]
      exact ⟨.inl rfl, fun e => (by cases e), by show _ ≤ endedV s.ended 1 ∨ endedV s.ended 1 = 1048576; unfold endedV; rw [if_neg (by decide)]; exact hen⟩
    · obtain ⟨hsi, hny⟩ := ih.ye ha
      rw [ha] at hl
      unfold wantV at hl
      rw [if_neg (by decide), if_neg (by decide), if_pos (by decide)] at hl
      by_cases hlt : stp s.since < (S.gr c).yellow
      · rw [if_pos hlt] at hl
        have hl : letF S (atT S p F (n + 1)) (askV S p) c = 3 := by omega
        rw [hl]
        refine ⟨.inr rfl, fun _ => ?_, by show _ ≤ endedV s.ended 3 ∨ endedV s.ended 3 = 1048576; unfold endedV; rw [if_neg (by decide)]; exact hen⟩
        show stp (sinceV s.asp s.since 3) = _ ∧ _
        unfold sinceV
        rw [ha, if_pos (by decide)]
        omega
      · rw [if_neg hlt] at hl
        have hl : letF S (atT S p F (n + 1)) (askV S p) c = 1 := by omega
        rw [hl]
        exact ⟨.inl rfl, fun e => (by cases e), by show _ ≤ endedV s.ended 1 ∨ endedV s.ended 1 = 1048576; unfold endedV; rw [if_neg (by decide)]; exact hen⟩
/-- Not asked for longer than its yellow and all betweens: red, and for so long that nothing is held back. -/
theorem str_qt {S : St} (hs : siteB S = true) {c : Nat} {s : Sn} {n : Nat} (hcl : c < S.groups.length) (h : Str (S.gr c).yellow s n) (hy : (S.gr c).yellow < (n : Int)) (hb : ∀ b, b < S.groups.length → S.bt c b ≤ (n : Int)) : Qt S c s := by
  have ht := tur_facts hs
  refine ⟨?_, fun b hbl => ?_⟩
  · rcases h.a with e | e
    · exact e
    · have := (h.ye e).2; omega
  · have h1 := hb b hbl
    have := ht.bt c b hcl hbl
    have := ht.w1
    rcases h.en with e | e <;> omega
/-- Green that is asked for stays, and is green for longer. -/
theorem grn_at {S : St} {p : Nat} {F : Sf} (hs : siteB S = true) (hc : Calm F) {c : Nat} (hcl : c < S.groups.length) (hp : inP S p c = true) (h2 : (F.g c).asp = 2) : ∀ n : Nat, ((atT S p F n).g c).asp = 2 ∧ (1 ≤ stp (F.g c).since → (n : Int) + 1 ≤ stp ((atT S p F n).g c).since ∨ stp ((atT S p F n).g c).since = 1048576)
  | 0 => ⟨h2, fun h => .inl (by show ((0 : Nat) : Int) + 1 ≤ stp (F.g c).since; omega)⟩
  | n + 1 => by
    have ht := tur_facts hs
    obtain ⟨ih, ih2⟩ := grn_at hs hc hcl hp h2 n
    have hg := green_next ht.g0 (calm_at (p := p) ht.g0 hc n) hcl hp ih
    refine ⟨by rw [atT_succ]; exact hg, fun h => ?_⟩
    have hg2 : letF S (atT S p F n) (askV S p) c = 2 := by rw [step_g hcl] at hg; exact hg
    rw [at_g hcl, hg2]
    have ih2 := ih2 h
    have ms := more_is ((atT S p F n).g c).since
    show ((n + 1 : Nat) : Int) + 1 ≤ stp (sinceV ((atT S p F n).g c).asp ((atT S p F n).g c).since 2) ∨ stp (sinceV ((atT S p F n).g c).asp ((atT S p F n).g c).since 2) = 1048576
    unfold sinceV
    rw [ih, if_pos (by decide)]
    omega
/-- Red or green, as long as it is asked for. -/
theorem rg_at {S : St} {p : Nat} {F : Sf} (hs : siteB S = true) (hc : Calm F) {c : Nat} (hcl : c < S.groups.length) (hp : inP S p c = true) (h : (F.g c).asp = 1 ∨ (F.g c).asp = 2) : ∀ n : Nat, ((atT S p F n).g c).asp = 1 ∨ ((atT S p F n).g c).asp = 2
  | 0 => h
  | n + 1 => by
    have ht := tur_facts hs
    have hcn := calm_at (p := p) ht.g0 hc n
    rcases rg_at hs hc hcl hp h n with e | e
    · rw [at_g hcl]
      show letF S (atT S p F n) (askV S p) c = 1 ∨ letF S (atT S p F n) (askV S p) c = 2
      rw [let_calm ht.g0 hcn]
      rcases p2F_red (S := S) (A := askV S p) (n := S.groups.length) e S.groups.length with q | q
      · exact .inl q.1
      · exact .inr q.1
    · right
      rw [atT_succ]
      exact green_next ht.g0 hcn hcl hp e
/-- Red that is asked for turns green, if all that are apart from it turn red, or are so, for long enough. -/
theorem red_turn {S : St} {p : Nat} {F : Sf} (hs : siteB S = true) (hc : Calm F) (hpl : p < S.phases.length) {i : Nat} (hi : i < S.groups.length) (hp : inP S p i = true) (h1 : (F.g i).asp = 1) (hj : ∀ j, j < S.groups.length → inP S p j = false → (S.ap i).testBit j = true → ((F.g j).asp = 1 ∨ ((F.g j).asp = 3 ∧ (S.gr j).yellow ≤ stp (F.g j).since)) ∧ S.bt j i ≤ (F.g j).ended) : ((stepT S p F).g i).asp = 2 := by
  have ht := tur_facts hs
  have hk := keeps_may hs
  rw [step_g hi]
  show letF S F (askV S p) i = 2
  rw [let_calm ht.g0 hc]
  rcases p2F_red (S := S) (A := askV S p) (n := S.groups.length) h1 S.groups.length with e | e
  · exfalso
    have e2 := e.2 hi
    have : turnB S F (askV S p) S.groups.length (p2F S F (askV S p) S.groups.length i) i = true := by
      unfold turnB
      rw [h1, ask_yes hi hp]
      simp
      refine allB_iff.2 (fun j hjl => ?_)
      cases hb : barB S F (p2F S F (askV S p) S.groups.length i) i j
      · rfl
      · exfalso
        unfold barB at hb
        rw [Bool.and_eq_true, Bool.or_eq_true] at hb
        obtain ⟨b1, b2⟩ := hb
        have hpj : inP S p j = false := by
          cases q : inP S p j
          · rfl
          · rw [hk.mate p i j hpl hi hjl hp q] at b1; cases b1
        obtain ⟨r1, r2⟩ := hj j hjl hpj b1
        rcases b2 with b2 | b2
        · have hr : p2F S F (askV S p) S.groups.length i j = 1 := by
            rcases r1 with r1 | ⟨r1, r3⟩
            · exact p2_not hjl hpj r1 _
            · have hw := wantN_int S F (askV S p) j
              rw [p2F_other (by omega)]
              rw [r1] at hw
              unfold wantV at hw
              rw [if_neg (by decide), if_neg (by decide), if_pos (by decide), if_neg (by omega)] at hw
              omega
          rw [hr] at b2
          cases b2
        · have := of_decide_eq_true b2; omega
    rw [this] at e2; cases e2
  · exact e.1

end Go.Proofs.YtfhmfanmnhclfaaDoor

/-
  PHASES BY THE CLOCK, in numbers: parts one behind the other; what is wanted; a phase that was in time stays so.
-/
namespace Go.Proofs.YtfhmfanmnhclfaaDoor
open Go.RowKit Go.Lib Go.Deep
set_option linter.unusedVariables false
set_option linter.unusedSimpArgs false

/-- Which phase is wanted. -/
def wanP (n : Nat) (sp gp ph into : Nat → Nat) (t : Nat) : Nat := if into t + gp (ph t) < sp (ph t) then ph t else nxP n (ph t)
/-- Tick by tick. -/
def runP (S : St) (wan : Nat → Nat) (F : Sf) : Nat → Sf
  | 0 => F
  | t + 1 => stepT S (wan t) (runP S wan F t)
/-- How many beginnings of parts in a row were in time, ahead of a tick. -/
def tmP (S : St) (G : Nat → Sf) (ph into : Nat → Nat) : Nat → Nat
  | 0 => 0
  | t + 1 => if into t = 0 then (if fullB S (G (t + 1)) (ph t) = true then tmP S G ph into t + 1 else 0) else tmP S G ph into t
/-- Parts one behind the other, of a site that may be and a plan that may be one of it; betweens and yellows are short. -/
structure PS (S : St) (sp gp ph into : Nat → Nat) : Prop where
  may : siteB S = true
  ok : ∀ t, ph t < S.phases.length ∧ into t < sp (ph t)
  st : ∀ t, (into t + 1 < sp (ph t) ∧ ph (t + 1) = ph t ∧ into (t + 1) = into t + 1) ∨ (into t + 1 = sp (ph t) ∧ ph (t + 1) = nxP S.phases.length (ph t) ∧ into (t + 1) = 0)
  le : ∀ i, i < S.phases.length → (S.ph i).min + (gp i : Int) ≤ (sp i : Int)
  gap : ∀ i, i < S.phases.length → (gp i : Int) = liesM S i (nxP S.phases.length i)
  yel : ∀ i, i < S.phases.length → ∀ a, a < S.groups.length → (S.gr a).yellow < (S.ph i).min
  bt : ∀ i, i < S.phases.length → ∀ a, a < S.groups.length → ∀ b, b < S.groups.length → S.bt a b < (S.ph i).min
theorem ph_min {S : St} (hs : siteB S = true) {k : Nat} (hk : k < S.phases.length) : 1 ≤ (S.ph k).min ∧ ∀ c, c < S.groups.length → inP S k c = true → (S.gr c).min ≤ (S.ph k).min := by
  have h : phaseB S k = true := all_of hs 5 (by omega) k hk
  obtain ⟨i, hi, hp⟩ := phase_one hs hk
  have hm := (tur_facts hs).min i hi
  unfold phaseB at h
  simp only [Bool.and_eq_true, decide_eq_true_eq, inB_iff] at h
  have hl : ∀ c, c < S.groups.length → inP S k c = true → (S.gr c).min ≤ (S.ph k).min := fun c hc hpc => by
    have hl := allB_iff.1 (show leastB S (S.ph k).groups (S.ph k).min = true from h.1.1.1.2) c hc
    have hp' : (S.ph k).groups.testBit c = true := hpc
    rw [hp'] at hl
    simpa using hl
  have := hl i hi hp
  exact ⟨by omega, hl⟩
section
variable {S : St} {sp gp ph into : Nat → Nat}
/-- Back within a part. -/
theorem PS.back (h : PS S sp gp ph into) : ∀ (d t : Nat), d ≤ into t → d ≤ t → ph (t - d) = ph t ∧ into (t - d) = into t - d
  | 0, t, _, _ => ⟨rfl, rfl⟩
  | d + 1, t, h1, h2 => by
    obtain ⟨u, rfl⟩ : ∃ u, t = u + 1 := ⟨t - 1, by omega⟩
    rcases h.st u with ⟨_, e2, e3⟩ | ⟨_, _, e3⟩
    · obtain ⟨a, b⟩ := h.back d u (by omega) (by omega)
      rw [show u + 1 - (d + 1) = u - d by omega]
      exact ⟨a.trans e2.symm, by omega⟩
    · omega
/-- The tick ahead of a beginning. -/
theorem PS.prev (h : PS S sp gp ph into) {t : Nat} (h0 : into (t + 1) = 0) : into t + 1 = sp (ph t) ∧ ph t = pvP S.phases.length (ph (t + 1)) := by
  rcases h.st t with ⟨_, _, e3⟩ | ⟨e1, e2, _⟩
  · omega
  · exact ⟨e1, by rw [e2, pv_nx (h.ok t).1]⟩
theorem PS.n1 (h : PS S sp gp ph into) : 1 ≤ S.phases.length := by have := (h.ok 0).1; omega
theorem PS.sp1 (h : PS S sp gp ph into) {i : Nat} (hi : i < S.phases.length) : 1 ≤ sp i ∧ gp i + 1 ≤ sp i := by
  have := h.le i hi
  have := (ph_min h.may hi).1
  omega
/-- The part ahead of a beginning: where it lies. -/
theorem PS.part (h : PS S sp gp ph into) {t : Nat} (h0 : into t = 0) (hj : sp (pvP S.phases.length (ph t)) ≤ t) : ∀ d, 1 ≤ d → d ≤ sp (pvP S.phases.length (ph t)) → ph (t - d) = pvP S.phases.length (ph t) ∧ into (t - d) + d = sp (pvP S.phases.length (ph t)) := by
  intro d d1 d2
  have hs := (h.sp1 (pvP_lt (h.ok t).1)).1
  obtain ⟨u, rfl⟩ : ∃ u, t = u + 1 := ⟨t - 1, by omega⟩
  obtain ⟨a, b⟩ := h.prev h0
  rw [← b] at hj d2 ⊢
  obtain ⟨x, y⟩ := h.back (d - 1) u (by omega) (by omega)
  rw [show u + 1 - d = u - (d - 1) by omega]
  exact ⟨x, by omega⟩
theorem PS.wan_own (h : PS S sp gp ph into) {t : Nat} (e : into t + gp (ph t) < sp (ph t)) : wanP S.phases.length sp gp ph into t = ph t := by unfold wanP; rw [if_pos e]
theorem PS.wan_nx (h : PS S sp gp ph into) {t : Nat} (e : ¬ into t + gp (ph t) < sp (ph t)) : wanP S.phases.length sp gp ph into t = nxP S.phases.length (ph t) := by unfold wanP; rw [if_neg e]
end
/-- Ticks in which one phase is wanted. -/
theorem run_seg {S : St} {wan : Nat → Nat} {F : Sf} {p u : Nat} : ∀ n, (∀ m, m < n → wan (u + m) = p) → runP S wan F (u + n) = atT S p (runP S wan F u) n
  | 0, _ => rfl
  | n + 1, h => by
    rw [← Nat.add_assoc]
    show stepT S (wan (u + n)) (runP S wan F (u + n)) = _
    rw [h n (by omega), run_seg n (fun m hm => h m (by omega))]
    rfl
theorem run_goesP {S : St} {wan : Nat → Nat} (hs : siteB S = true) : ∀ t, goesV S (runP S wan (firstV S) t) = true
  | 0 => goes_first hs
  | t + 1 => goes_step hs (run_goesP hs t)
section
variable {S : St} {sp gp ph into : Nat → Nat} {G : Nat → Sf}
/-- Within a part nothing is counted. -/
theorem tm_in (h : PS S sp gp ph into) : ∀ (x u : Nat), into u = x + 1 → (x + 1 ≤ u → tmP S G ph into u = tmP S G ph into (u - x)) ∧ (u < x + 1 → tmP S G ph into u = 0)
  | 0, u, _ => ⟨fun _ => rfl, fun e => by rw [show u = 0 by omega]; rfl⟩
  | x + 1, u, e => by
    by_cases hu : u = 0
    · subst hu
      exact ⟨fun e => by omega, fun _ => rfl⟩
    · obtain ⟨v, rfl⟩ : ∃ v, u = v + 1 := ⟨u - 1, by omega⟩
      have hv : into v = x + 1 := by
        rcases h.st v with ⟨_, _, e3⟩ | ⟨_, _, e3⟩ <;> omega
      have ht : tmP S G ph into (v + 1) = tmP S G ph into v := by
        show (if into v = 0 then _ else _) = _
        rw [if_neg (by omega)]
      obtain ⟨a, b⟩ := tm_in h x v hv
      exact ⟨fun e2 => by rw [ht, a (by omega), show v + 1 - (x + 1) = v - x by omega], fun e2 => by rw [ht]; exact b (by omega)⟩
/-- A beginning that counts: the one ahead of it was in time. -/
theorem tm_prev (h : PS S sp gp ph into) {t : Nat} (h0 : into t = 0) (h1 : 1 ≤ tmP S G ph into t) : sp (pvP S.phases.length (ph t)) ≤ t ∧ fullB S (G (t - sp (pvP S.phases.length (ph t)) + 1)) (pvP S.phases.length (ph t)) = true ∧ tmP S G ph into t = tmP S G ph into (t - sp (pvP S.phases.length (ph t))) + 1 := by
  have hu : t ≠ 0 := fun e => by subst e; exact absurd h1 (by show ¬ 1 ≤ 0; omega)
  obtain ⟨u, rfl⟩ : ∃ u, t = u + 1 := ⟨t - 1, by omega⟩
  obtain ⟨a, b⟩ := h.prev h0
  rw [← b]
  have hsp := (h.sp1 (h.ok u).1).1
  have key : sp (ph u) ≤ u + 1 ∧ tmP S G ph into (u + 1) = tmP S G ph into (u + 1 - sp (ph u) + 1) := by
    by_cases e : into u = 0
    · exact ⟨by omega, by rw [show u + 1 - sp (ph u) + 1 = u + 1 by omega]⟩
    · obtain ⟨x, hx⟩ : ∃ x, into u = x + 1 := ⟨into u - 1, by omega⟩
      have ht : tmP S G ph into (u + 1) = tmP S G ph into u := by
        show (if into u = 0 then _ else _) = _
        rw [if_neg e]
      obtain ⟨p, q⟩ := tm_in (G := G) h x u hx
      by_cases hux : x + 1 ≤ u
      · exact ⟨by omega, by rw [ht, p hux, show u + 1 - sp (ph u) + 1 = u - x by omega]⟩
      · rw [ht, q (by omega)] at h1; omega
  obtain ⟨hle, ht⟩ := key
  refine ⟨hle, ?_⟩
  have hb := (h.back (into u) u (Nat.le_refl _) (by omega))
  have hz : into (u + 1 - sp (ph u)) = 0 := by rw [show u + 1 - sp (ph u) = u - into u by omega, hb.2]; omega
  have hp : ph (u + 1 - sp (ph u)) = ph u := by rw [show u + 1 - sp (ph u) = u - into u by omega]; exact hb.1
  rw [ht] at h1 ⊢
  have hst : tmP S G ph into (u + 1 - sp (ph u) + 1) = if fullB S (G (u + 1 - sp (ph u) + 1)) (ph u) = true then tmP S G ph into (u + 1 - sp (ph u)) + 1 else 0 := by
    show (if into (u + 1 - sp (ph u)) = 0 then _ else _) = _
    rw [if_pos hz, hp]
  rw [hst] at h1 ⊢
  cases hf : fullB S (G (u + 1 - sp (ph u) + 1)) (ph u) with
  | false => rw [hf, if_neg (by decide)] at h1; omega
  | true => exact ⟨rfl, by rw [if_pos rfl]⟩
end
/-- How groups stand where the phase behind j begins to be wanted: m phases back all were in time. -/
structure Bq (S : St) (j m : Nat) (F : Sf) : Prop where
  full : ∀ c, c < S.groups.length → inP S j c = true → (F.g c).asp = 2 ∧ (S.gr c).min ≤ stp (F.g c).since
  quiet : ∀ c, c < S.groups.length → inP S j c = false → (∃ l, 1 ≤ l ∧ l < m ∧ inP S (bkP S.phases.length j l) c = true) → Qt S c (F.g c)
theorem Bq.calm {S : St} {j m : Nat} {F : Sf} (h : Bq S j m F) (hs : siteB S = true) (hg : goesV S F = true) (hj : j < S.phases.length) : Calm F := full_calm hs hg hj (fullB_iff.2 (fun i hi hp => (h.full i hi hp).1))
theorem bq_at {S : St} {sp gp ph into : Nat → Nat} (h : PS S sp gp ph into) : ∀ (m t : Nat), m + 1 ≤ S.phases.length → into t = 0 → m + 1 ≤ tmP S (runP S (wanP S.phases.length sp gp ph into) (firstV S)) ph into t → sp (pvP S.phases.length (ph t)) ≤ t ∧ Bq S (pvP S.phases.length (ph t)) (m + 1) (runP S (wanP S.phases.length sp gp ph into) (firstV S) (t - gp (pvP S.phases.length (ph t)))) := by
  intro m
  induction m with
  | zero => ?_
  | succ m ih => ?_
  all_goals
    intro t hm h0 htm
    have hs := h.may
    obtain ⟨hle, hfu, htp⟩ := tm_prev (G := runP S (wanP S.phases.length sp gp ph into) (firstV S)) h h0 (by omega)
    have hpart := h.part h0 hle
    obtain ⟨j, hj⟩ : ∃ j, pvP S.phases.length (ph t) = j := ⟨_, rfl⟩
    have hjl : j < S.phases.length := by rw [← hj]; exact pvP_lt (h.ok t).1
    rw [hj] at hle hfu htp hpart ⊢
    obtain ⟨s1, s2⟩ := h.sp1 hjl
    have hmin := ph_min hs hjl
    have hlj := h.le j hjl
    -- ticks of j's part in which j is wanted
    have hwan : ∀ u, t - sp j ≤ u → u < t - gp j → wanP S.phases.length sp gp ph into u = j := fun u h1 h2 => by
      obtain ⟨a, b⟩ := hpart (t - u) (by omega) (by omega)
      rw [show t - (t - u) = u by omega] at a b
      rw [h.wan_own (by rw [a]; omega), a]
    have hseg := run_seg (S := S) (wan := wanP S.phases.length sp gp ph into) (F := firstV S) (p := j) (u := t - sp j + 1) (sp j - gp j - 1) (fun x hx => hwan _ (by omega) (by omega))
    rw [show t - sp j + 1 + (sp j - gp j - 1) = t - gp j by omega] at hseg
    have hg1 := run_goesP (wan := wanP S.phases.length sp gp ph into) hs (t - sp j + 1)
    have hc1 := full_calm hs hg1 hjl hfu
    have hfull : ∀ c, c < S.groups.length → inP S j c = true → ((runP S (wanP S.phases.length sp gp ph into) (firstV S) (t - gp j)).g c).asp = 2 ∧ (S.gr c).min ≤ stp ((runP S (wanP S.phases.length sp gp ph into) (firstV S) (t - gp j)).g c).since := fun c hc hp => by
      rw [hseg]
      have h2 := fullB_iff.1 hfu c hc hp
      obtain ⟨a, b⟩ := grn_at hs hc1 hc hp h2 (sp j - gp j - 1)
      have hs1 : 1 ≤ stp ((runP S (wanP S.phases.length sp gp ph into) (firstV S) (t - sp j + 1)).g c).since := by
        show 1 ≤ stp ((stepT S (wanP S.phases.length sp gp ph into (t - sp j)) (runP S (wanP S.phases.length sp gp ph into) (firstV S) (t - sp j))).g c).since
        rw [step_g hc]
        show 1 ≤ stp (sinceV _ _ _)
        unfold sinceV
        split
        · have := more_is ((runP S (wanP S.phases.length sp gp ph into) (firstV S) (t - sp j)).g c).since
          omega
        · decide
      have hmc := hmin.2 c hc hp
      have hcap := ((tur_facts hs).min c hc).2
      refine ⟨a, ?_⟩
      rcases b hs1 with e | e <;> omega
  · exact ⟨hle, hfull, fun c hc hp ⟨l, l1, l2, _⟩ => by omega⟩
  · refine ⟨hle, hfull, fun c hc hp ⟨l, l1, l2, hl⟩ => ?_⟩
    have hz : into (t - sp j) = 0 ∧ ph (t - sp j) = j := by
      obtain ⟨a, b⟩ := hpart (sp j) (by omega) (Nat.le_refl _)
      exact ⟨by omega, a⟩
    obtain ⟨hle2, hB⟩ := ih (t - sp j) (by omega) hz.1 (by omega)
    have hpart2 := h.part hz.1 hle2
    rw [hz.2] at hle2 hB hpart2
    obtain ⟨i, hi⟩ : ∃ i, pvP S.phases.length j = i := ⟨_, rfl⟩
    have hil : i < S.phases.length := by rw [← hi]; exact pvP_lt hjl
    have hnx : nxP S.phases.length i = j := by rw [← hi]; exact nx_pv hjl
    rw [hi] at hle2 hB hpart2
    obtain ⟨s3, s4⟩ := h.sp1 hil
    have hcB := hB.calm hs (run_goesP hs _) hil
    have hseg2 := run_seg (S := S) (wan := wanP S.phases.length sp gp ph into) (F := firstV S) (p := j) (u := t - sp j - gp i) (gp i + (sp j - gp j)) (fun x hx => by
      by_cases e : x < gp i
      · obtain ⟨a, b⟩ := hpart2 (gp i - x) (by omega) (by omega)
        rw [show t - sp j - (gp i - x) = t - sp j - gp i + x by omega] at a b
        rw [h.wan_nx (by rw [a]; omega), a, hnx]
      · exact hwan _ (by omega) (by omega))
    rw [show t - sp j - gp i + (gp i + (sp j - gp j)) = t - gp j by omega] at hseg2
    rw [hseg2]
    cases hci : inP S i c with
    | true =>
      obtain ⟨f1, f2⟩ := hB.full c hc hci
      obtain ⟨n, hn⟩ : ∃ n, gp i + (sp j - gp j) = n + 1 := ⟨gp i + (sp j - gp j) - 1, by omega⟩
      have hst := str_at hs hcB hc hp f1 f2 n
      rw [hn]
      exact str_qt hs hc hst (by have := h.yel j hjl c hc; omega) (fun b hb => by have := h.bt j hjl c hc b hb; omega)
    | false =>
      refine qt_at hs hcB hc hp (hB.quiet c hc hci ⟨l - 1, ?_, ?_, ?_⟩) _
      · by_cases e : l = 1
        · subst e
          rw [bk_one hjl, hi, hci] at hl
          cases hl
        · omega
      · omega
      · have hl2 : l ≠ 1 := fun e => by
          subst e
          rw [bk_one hjl, hi, hci] at hl
          cases hl
        have := bk_pv (n := S.phases.length) (j := j) (l := l - 1) hjl (by omega)
        rw [hi, show l - 1 + 1 = l by omega] at this
        rw [this]
        exact hl
/-- At the first tick of a part, all phases back having been in time. -/
theorem locks_first {S : St} {sp gp ph into : Nat → Nat} (h : PS S sp gp ph into) {t : Nat} (h0 : into t = 0) (htm : S.phases.length ≤ tmP S (runP S (wanP S.phases.length sp gp ph into) (firstV S)) ph into t) : fullB S (runP S (wanP S.phases.length sp gp ph into) (firstV S) (t + 1)) (ph t) = true := by
  have hs := h.may
  have hk := keeps_may hs
  have ht := tur_facts hs
  have hn1 := h.n1
  obtain ⟨hle, hB⟩ := bq_at h (S.phases.length - 1) t (by omega) h0 (by omega)
  rw [show S.phases.length - 1 + 1 = S.phases.length by omega] at hB
  have hpart := h.part h0 hle
  obtain ⟨k, hkp⟩ : ∃ k, ph t = k := ⟨_, rfl⟩
  have hkl : k < S.phases.length := by rw [← hkp]; exact (h.ok t).1
  rw [hkp] at hle hB hpart ⊢
  obtain ⟨j, hj⟩ : ∃ j, pvP S.phases.length k = j := ⟨_, rfl⟩
  have hjl : j < S.phases.length := by rw [← hj]; exact pvP_lt hkl
  have hnx : nxP S.phases.length j = k := by rw [← hj]; exact nx_pv hkl
  rw [hj] at hle hB hpart
  obtain ⟨s1, s2⟩ := h.sp1 hjl
  obtain ⟨s3, s4⟩ := h.sp1 hkl
  have hcB := hB.calm hs (run_goesP hs _) hjl
  have hseg := run_seg (S := S) (wan := wanP S.phases.length sp gp ph into) (F := firstV S) (p := k) (u := t - gp j) (gp j) (fun x hx => by
    obtain ⟨a, b⟩ := hpart (gp j - x) (by omega) (by omega)
    rw [show t - (gp j - x) = t - gp j + x by omega] at a b
    rw [h.wan_nx (by rw [a]; omega), a, hnx])
  rw [show t - gp j + gp j = t by omega] at hseg
  have hwt : wanP S.phases.length sp gp ph into t = k := by rw [h.wan_own (by rw [hkp, h0]; omega), hkp]
  show fullB S (stepT S (wanP S.phases.length sp gp ph into t) (runP S (wanP S.phases.length sp gp ph into) (firstV S) t)) k = true
  rw [hwt, hseg]
  have hcn := calm_at (p := k) ht.g0 hcB (gp j)
  -- every group of another phase than j is quiet
  have hqu : ∀ c, c < S.groups.length → inP S j c = false → Qt S c ((runP S (wanP S.phases.length sp gp ph into) (firstV S) (t - gp j)).g c) := fun c hc hp => by
    obtain ⟨i, hi, hci⟩ := hk.srv c hc
    obtain ⟨l, l1, l2, l3⟩ := bk_all hjl hi
    refine hB.quiet c hc hp ⟨l, ?_, l1, by rw [l2]; exact hci⟩
    by_cases e : l = 0
    · have := l3 e
      subst this
      rw [show inP S i c = true from hci] at hp
      cases hp
    · omega
  refine fullB_iff.2 (fun b hb hpb => ?_)
  cases hbj : inP S j b with
  | true => exact green_next ht.g0 hcn hb hpb (grn_at hs hcB hb hpb (hB.full b hb hbj).1 (gp j)).1
  | false =>
    rcases rg_at hs hcB hb hpb (.inl (hqu b hb hbj).red) (gp j) with e | e
    · refine red_turn hs hcn hkl hb hpb e (fun c hc hpc hap => ?_)
      cases hcj : inP S j c with
      | true =>
        have hcb : (S.ap c).testBit b = true := by rw [hk.sym c b hc hb]; exact hap
        have hbt : S.bt c b ≤ (gp j : Int) := by
          rw [h.gap j hjl, hnx]
          exact (liesM_is S j k).2.2 _ ⟨c, b, hc, hb, hcj, hpb, hcb, rfl⟩
        have hy := hk.yel c b hc hb hcb
        have hy1 := (ht.yel c hc).1
        obtain ⟨n, hn⟩ : ∃ n, gp j = n + 1 := ⟨gp j - 1, by omega⟩
        obtain ⟨f1, f2⟩ := hB.full c hc hcj
        have hst := str_at hs hcB hc hpc f1 f2 n
        rw [← hn] at hst
        have h9 := ht.bt c b hc hb
        have h8 := ht.w1
        refine ⟨?_, ?_⟩
        · rcases hst.a with q | q
          · exact .inl q
          · exact .inr ⟨q, by have := (hst.ye q).1; omega⟩
        · rcases hst.en with q | q <;> omega
      | false =>
        have hq := qt_at hs hcB hc hpc (hqu c hc hcj) (gp j)
        exact ⟨.inl hq.red, hq.bt b hb⟩
    · exact green_next ht.g0 hcn hb hpb e
/-- THE STAGE'S THEOREM, in numbers. -/
theorem locks {S : St} {sp gp ph into : Nat → Nat} (h : PS S sp gp ph into) {t : Nat} (htm : S.phases.length ≤ tmP S (runP S (wanP S.phases.length sp gp ph into) (firstV S)) ph into t) (hw : wanP S.phases.length sp gp ph into t = ph t) : fullB S (runP S (wanP S.phases.length sp gp ph into) (firstV S) (t + 1)) (ph t) = true := by
  have hn1 := h.n1
  have hs := h.may
  by_cases h0 : into t = 0
  · exact locks_first h h0 htm
  · obtain ⟨x, hx⟩ : ∃ x, into t = x + 1 := ⟨into t - 1, by omega⟩
    obtain ⟨p, q⟩ := tm_in (G := runP S (wanP S.phases.length sp gp ph into) (firstV S)) h x t hx
    by_cases hlt : x + 1 ≤ t
    · rw [p hlt] at htm
      obtain ⟨u, hu⟩ : ∃ u, t = u + (x + 1) := ⟨t - (x + 1), by omega⟩
      obtain ⟨b1, b2⟩ := h.back (x + 1) t (by omega) hlt
      rw [show t - (x + 1) = u by omega] at b1 b2
      rw [show t - x = u + 1 by omega] at htm
      have hst : tmP S (runP S (wanP S.phases.length sp gp ph into) (firstV S)) ph into (u + 1) = if fullB S (runP S (wanP S.phases.length sp gp ph into) (firstV S) (u + 1)) (ph u) = true then tmP S (runP S (wanP S.phases.length sp gp ph into) (firstV S)) ph into u + 1 else 0 := by
        show (if into u = 0 then _ else _) = _
        rw [if_pos (by omega)]
      rw [hst] at htm
      have hfu : fullB S (runP S (wanP S.phases.length sp gp ph into) (firstV S) (u + 1)) (ph u) = true := by
        cases e : fullB S (runP S (wanP S.phases.length sp gp ph into) (firstV S) (u + 1)) (ph u) with
        | true => rfl
        | false => rw [e, if_neg (by decide)] at htm; omega
      rw [b1] at hfu
      have hseg := run_seg (S := S) (wan := wanP S.phases.length sp gp ph into) (F := firstV S) (p := ph t) (u := u + 1) (x + 1) (fun m hm => by
        obtain ⟨c1, c2⟩ := h.back (x - m) t (by omega) (by omega)
        rw [show t - (x - m) = u + 1 + m by omega] at c1 c2
        unfold wanP at hw ⊢
        rw [c1]
        split
        · rfl
        · rename_i hn
          by_cases e : into t + gp (ph t) < sp (ph t)
          · omega
          · rw [if_neg e] at hw
            exact hw)
      rw [show t + 1 = u + 1 + (x + 1) by omega, hseg]
      exact full_on hs (run_goesP hs _) (h.ok t).1 hfu (x + 1)
    · rw [q (by omega)] at htm
      omega

end Go.Proofs.YtfhmfanmnhclfaaDoor

/-
  PLANS, in numbers: what a plan that may be tells; whose part a tick is in; parts one behind the other.
-/
namespace Go.Proofs.YtfhmfanmnhclfaaDoor
open Go.RowKit Go.Lib Go.Deep
set_option linter.unusedVariables false
set_option linter.unusedSimpArgs false

/-! ### Sums -/
def sumF (f : Nat → Int) : Nat → Int
  | 0 => 0
  | k + 1 => sumF f k + f k
theorem sumF_succ (f : Nat → Int) (k : Nat) : sumF f (k + 1) = sumF f k + f k := rfl
theorem sumF_congr {f g : Nat → Int} : ∀ {n : Nat}, (∀ i, i < n → f i = g i) → sumF f n = sumF g n
  | 0, _ => rfl
  | n + 1, h => by rw [sumF_succ, sumF_succ, sumF_congr (fun i hi => h i (by omega)), h n (by omega)]
theorem sumF_cons (f : Nat → Int) : ∀ n, sumF f (n + 1) = f 0 + sumF (fun i => f (i + 1)) n
  | 0 => by show 0 + f 0 = f 0 + 0; omega
  | n + 1 => by rw [sumF_succ, sumF_cons f n, sumF_succ]; omega
theorem sumF_add (f g : Nat → Int) : ∀ n, sumF (fun i => f i + g i) n = sumF f n + sumF g n
  | 0 => rfl
  | n + 1 => by rw [sumF_succ, sumF_succ, sumF_succ, sumF_add f g n]; omega
theorem sumF_ge {f : Nat → Int} : ∀ {n : Nat}, (∀ i, i < n → 0 ≤ f i) → 0 ≤ sumF f n
  | 0, _ => Int.le_refl _
  | n + 1, h => by rw [sumF_succ]; have := sumF_ge (f := f) (n := n) (fun i hi => h i (by omega)); have := h n (by omega); omega
theorem sumF_le {f g : Nat → Int} : ∀ {n : Nat}, (∀ i, i < n → f i ≤ g i) → sumF f n ≤ sumF g n
  | 0, _ => Int.le_refl _
  | n + 1, h => by rw [sumF_succ, sumF_succ]; have := sumF_le (f := f) (g := g) (n := n) (fun i hi => h i (by omega)); have := h n (by omega); omega
theorem sumF_one {f : Nat → Int} : ∀ {n i : Nat}, (∀ i, i < n → 0 ≤ f i) → i < n → f i ≤ sumF f n
  | 0, i, _, hi => by omega
  | n + 1, i, h, hi => by
    rw [sumF_succ]
    by_cases e : i = n
    · subst e; have := sumF_ge (f := f) (n := i) (fun k hk => h k (by omega)); omega
    · have := sumF_one (f := f) (n := n) (i := i) (fun k hk => h k (by omega)) (by omega); have := h n (by omega); omega
theorem sumF_zero {f : Nat → Int} {n : Nat} (h : ∀ i, i < n → 0 ≤ f i) (h0 : sumF f n = 0) : ∀ i, i < n → f i = 0 := fun i hi => by
  have := sumF_one h hi
  have := h i hi
  omega
/-! ### Splits -/
theorem partM_ge {S : St} (hs : siteB S = true) {i : Nat} (hi : i < S.phases.length) : 1 ≤ partM S i ∧ liesM S i ((i + 1) % S.phases.length) + (S.ph i).min = partM S i := by
  have := (ph_min hs hi).1
  have := liesM_ge S i ((i + 1) % S.phases.length)
  unfold partM
  omega
theorem splits_of {S : St} : ∀ (l : List Int) (i : Nat) (left : Int), (∀ k, k < l.length → 0 ≤ partM S (i + k) ∧ partM S (i + k) ≤ l.getD k 0) → sumF (fun k => l.getD k 0) l.length = left → splitsB S i l left = true
  | [], i, left, _, h => by
    have : left = 0 := h.symm
    subst this
    rfl
  | x :: l, i, left, h, hs => by
    rw [List.length_cons, sumF_cons] at hs
    have hx := h 0 (by simp)
    have hr : ∀ k, k < l.length → 0 ≤ partM S (i + 1 + k) ∧ partM S (i + 1 + k) ≤ l.getD k 0 := fun k hk => by
      have := h (k + 1) (by simp; omega)
      rw [show i + (k + 1) = i + 1 + k by omega] at this
      simpa using this
    have h0 : 0 ≤ sumF (fun k => l.getD k 0) l.length := sumF_ge (fun k hk => by have := hr k hk; omega)
    have hs2 : x + sumF (fun k => l.getD k 0) l.length = left := by simpa using hs
    have hx2 : partM S i ≤ x := by simpa using hx.2
    show (inB x (partM S i) left && splitsB S (i + 1) l (left - x)) = true
    rw [Bool.and_eq_true]
    exact ⟨inB_iff.2 ⟨hx2, by omega⟩, splits_of l (i + 1) (left - x) hr (by omega)⟩
theorem splits_to {S : St} : ∀ (l : List Int) (i : Nat) (left : Int), splitsB S i l left = true → (∀ k, k < l.length → partM S (i + k) ≤ l.getD k 0) ∧ sumF (fun k => l.getD k 0) l.length = left
  | [], i, left, h => by
    have : left = 0 := of_decide_eq_true h
    exact ⟨fun k hk => by simp at hk, by rw [this]; rfl⟩
  | x :: l, i, left, h => by
    have h : (inB x (partM S i) left && splitsB S (i + 1) l (left - x)) = true := h
    rw [Bool.and_eq_true] at h
    obtain ⟨h1, h2⟩ := h
    have h1 := inB_iff.1 h1
    obtain ⟨a, b⟩ := splits_to l (i + 1) (left - x) h2
    refine ⟨fun k hk => ?_, ?_⟩
    · cases k with
      | zero => simpa using h1.1
      | succ k =>
        have := a k (by simp at hk; omega)
        rw [show i + (k + 1) = i + 1 + k by omega]
        simpa using this
    · rw [List.length_cons, sumF_cons]
      have : x + sumF (fun k => l.getD k 0) l.length = left := by omega
      simpa using this
/-- What a plan that may be one of a site tells. -/
structure PlF (S : St) (P : Pl) : Prop where
  n : P.splits.length = S.phases.length
  lo : S.low ≤ P.cycle
  hi : P.cycle ≤ S.high
  o0 : 0 ≤ P.offset
  o1 : P.offset < P.cycle
  sp : ∀ i, i < S.phases.length → partM S i ≤ P.splits.getD i 0
  tot : sumF (fun k => P.splits.getD k 0) S.phases.length = P.cycle
theorem plan_facts {S : St} {P : Pl} (h : planB S P = true) : PlF S P := by
  unfold planB at h
  simp only [Bool.and_eq_true, inB_iff, decide_eq_true_eq] at h
  obtain ⟨⟨⟨h1, h2⟩, h3⟩, h4⟩ := h
  obtain ⟨a, b⟩ := splits_to P.splits 0 P.cycle h4
  exact ⟨h3, h1.1, h1.2, h2.1, by omega, fun i hi => by have := a i (by omega); rwa [Nat.zero_add] at this, by rw [← h3]; exact b⟩
theorem plan_of {S : St} {P : Pl} (hs : siteB S = true) (h : PlF S P) : planB S P = true := by
  unfold planB
  simp only [Bool.and_eq_true, inB_iff, decide_eq_true_eq]
  have hk2 : ∀ k, k < P.splits.length → k < S.phases.length := fun k hk => by have := h.n; omega
  exact ⟨⟨⟨⟨h.lo, h.hi⟩, h.o0, by have := h.o1; omega⟩, h.n⟩, splits_of P.splits 0 P.cycle (fun k hk => by
    rw [Nat.zero_add]
    have := partM_ge hs (hk2 k hk)
    exact ⟨by omega, h.sp k (hk2 k hk)⟩) (by rw [h.n]; exact h.tot)⟩

/-! ### Whose part a tick is in -/
def spN (P : Pl) (i : Nat) : Nat := (P.splits.getD i 0).toNat
def preN (sp : Nat → Nat) : Nat → Nat
  | 0 => 0
  | k + 1 => preN sp k + sp k
theorem preN_succ (sp : Nat → Nat) (k : Nat) : preN sp (k + 1) = preN sp k + sp k := rfl
theorem preN_mono {sp : Nat → Nat} : ∀ {i j : Nat}, i ≤ j → preN sp i ≤ preN sp j
  | i, 0, h => by rw [show i = 0 by omega]; exact Nat.le_refl _
  | i, j + 1, h => by
    by_cases e : i = j + 1
    · rw [e]; exact Nat.le_refl _
    · have := preN_mono (sp := sp) (i := i) (j := j) (by omega); rw [preN_succ]; omega
/-- The part of a place, and how far in it: as many phases as there are left to look at. -/
def phF (sp : Nat → Nat) : Nat → Nat → Nat → Nat × Nat
  | 0, k, q => (k, q)
  | f + 1, k, q => if q < sp k then (k, q) else phF sp f (k + 1) (q - sp k)
theorem phF_at {sp : Nat → Nat} {i x : Nat} (hx : x < sp i) : ∀ (f k q : Nat), k ≤ i → i < k + f → preN sp i + x = preN sp k + q → phF sp f k q = (i, x)
  | 0, k, q, h1, h2, _ => by omega
  | f + 1, k, q, h1, h2, h3 => by
    show (if q < sp k then (k, q) else phF sp f (k + 1) (q - sp k)) = (i, x)
    by_cases e : k = i
    · subst e
      rw [if_pos (by omega), show q = x by omega]
    · have := preN_mono (sp := sp) (i := k + 1) (j := i) (by omega)
      rw [preN_succ] at this
      rw [if_neg (by omega)]
      exact phF_at hx f (k + 1) (q - sp k) (by omega) (by omega) (by rw [preN_succ]; omega)
theorem place_ex {sp : Nat → Nat} : ∀ {n q : Nat}, q < preN sp n → ∃ i x, i < n ∧ x < sp i ∧ q = preN sp i + x
  | 0, q, h => by exact absurd h (Nat.not_lt_zero _)
  | n + 1, q, h => by
    by_cases e : q < preN sp n
    · obtain ⟨i, x, a, b, c⟩ := place_ex e
      exact ⟨i, x, by omega, b, c⟩
    · rw [preN_succ] at h
      exact ⟨n, q - preN sp n, by omega, by omega, by omega⟩
/-- Where a tick lies in its cycle. -/
def placeN (P : Pl) (t : Nat) : Nat := (t + (P.cycle.toNat - P.offset.toNat)) % P.cycle.toNat
def partV (P : Pl) (t : Nat) : Nat × Nat := phF (spN P) P.splits.length 0 (placeN P t)
theorem pre_sum {S : St} {P : Pl} (hs : siteB S = true) (h : PlF S P) : ∀ k, k ≤ S.phases.length → ((preN (spN P) k : Nat) : Int) = sumF (fun i => P.splits.getD i 0) k
  | 0, _ => rfl
  | k + 1, hk => by
    have ih := pre_sum hs h k (by omega)
    have h1 := h.sp k (by omega)
    have h2 := partM_ge hs (i := k) (by omega)
    rw [preN_succ, sumF_succ, ← ih]
    unfold spN
    omega
theorem pre_tot {S : St} {P : Pl} (hs : siteB S = true) (h : PlF S P) : preN (spN P) S.phases.length = P.cycle.toNat ∧ 1 ≤ P.cycle.toNat ∧ P.offset.toNat < P.cycle.toNat := by
  have h1 := pre_sum hs h S.phases.length (Nat.le_refl _)
  rw [h.tot] at h1
  have := h.o0
  have := h.o1
  omega
theorem place_lt {S : St} {P : Pl} (hs : siteB S = true) (h : PlF S P) (t : Nat) : placeN P t < P.cycle.toNat := Nat.mod_lt _ (by have := pre_tot hs h; omega)
theorem part_is {S : St} {P : Pl} (hs : siteB S = true) (h : PlF S P) {t i x : Nat} (hi : i < S.phases.length) (hx : x < spN P i) (hp : placeN P t = preN (spN P) i + x) : partV P t = (i, x) :=
  phF_at hx P.splits.length 0 (placeN P t) (by omega) (by rw [h.n]; omega) (by rw [hp]; show _ = 0 + _; omega)
theorem part_ex {S : St} {P : Pl} (hs : siteB S = true) (h : PlF S P) (t : Nat) : ∃ i x, i < S.phases.length ∧ x < spN P i ∧ placeN P t = preN (spN P) i + x ∧ partV P t = (i, x) := by
  obtain ⟨i, x, a, b, c⟩ := place_ex (sp := spN P) (n := S.phases.length) (q := placeN P t) (by rw [(pre_tot hs h).1]; exact place_lt hs h t)
  exact ⟨i, x, a, b, c, part_is hs h a b c⟩
theorem place_succ {S : St} {P : Pl} (hs : siteB S = true) (h : PlF S P) (t : Nat) : placeN P (t + 1) = if placeN P t + 1 = P.cycle.toNat then 0 else placeN P t + 1 := by
  have hc := (pre_tot hs h).2.1
  have hl := place_lt hs h t
  have e : placeN P (t + 1) = (placeN P t + 1) % P.cycle.toNat := by
    unfold placeN
    rw [show t + 1 + (P.cycle.toNat - P.offset.toNat) = t + (P.cycle.toNat - P.offset.toNat) + 1 by omega, Nat.mod_add_mod]
  rw [e]
  split
  · rename_i h1; rw [h1]; exact Nat.mod_self _
  · exact Nat.mod_eq_of_lt (by omega)
theorem nx_mod {n i : Nat} (h : i < n) : nxP n i = (i + 1) % n := by
  unfold nxP
  split
  · rename_i e; rw [e, Nat.mod_self]
  · rw [Nat.mod_eq_of_lt (by omega)]
/-- Parts one behind the other. -/
theorem part_step {S : St} {P : Pl} (hs : siteB S = true) (h : PlF S P) (t : Nat) : ((partV P t).2 + 1 < spN P (partV P t).1 ∧ (partV P (t + 1)).1 = (partV P t).1 ∧ (partV P (t + 1)).2 = (partV P t).2 + 1) ∨ ((partV P t).2 + 1 = spN P (partV P t).1 ∧ (partV P (t + 1)).1 = nxP S.phases.length (partV P t).1 ∧ (partV P (t + 1)).2 = 0) := by
  obtain ⟨i, x, hi, hx, hp, e⟩ := part_ex hs h t
  obtain ⟨ht, hc, _⟩ := pre_tot hs h
  have hpos : ∀ k, k < S.phases.length → 1 ≤ spN P k := fun k hk => by
    have := h.sp k hk
    have := partM_ge hs hk
    unfold spN
    omega
  rw [e]
  have hps := place_succ hs h t
  have hmono := preN_mono (sp := spN P) (i := i + 1) (j := S.phases.length) (by omega)
  rw [preN_succ] at hmono
  by_cases h1 : x + 1 < spN P i
  · left
    rw [part_is hs h hi h1 (by rw [hps, if_neg (by omega)]; omega)]
    exact ⟨h1, rfl, rfl⟩
  · right
    have h1 : x + 1 = spN P i := by omega
    by_cases h2 : i + 1 = S.phases.length
    · have h3 : preN (spN P) (i + 1) = P.cycle.toNat := by rw [h2]; exact ht
      rw [preN_succ] at h3
      rw [part_is hs h (i := 0) (x := 0) (by omega) (hpos 0 (by omega)) (by rw [hps, if_pos (by omega)]; rfl)]
      exact ⟨h1, by unfold nxP; rw [if_pos h2], rfl⟩
    · have h4 := preN_mono (sp := spN P) (i := i + 1 + 1) (j := S.phases.length) (by omega)
      have h5 := hpos (i + 1) (by omega)
      rw [preN_succ, preN_succ] at h4
      rw [part_is hs h (i := i + 1) (x := 0) (by omega) h5 (by rw [hps, if_neg (by omega), preN_succ]; omega)]
      exact ⟨h1, by unfold nxP; rw [if_neg h2], rfl⟩
/-- What lies behind a phase. -/
def gpN (S : St) (i : Nat) : Nat := (liesM S i ((i + 1) % S.phases.length)).toNat
/-- A plan that may be one of a site whose betweens and yellows are short. -/
theorem plan_ps {S : St} {P : Pl} (hs : siteB S = true) (h : PlF S P) (hy : ∀ i, i < S.phases.length → ∀ a, a < S.groups.length → (S.gr a).yellow < (S.ph i).min) (hb : ∀ i, i < S.phases.length → ∀ a, a < S.groups.length → ∀ b, b < S.groups.length → S.bt a b < (S.ph i).min) : PS S (spN P) (gpN S) (fun t => (partV P t).1) (fun t => (partV P t).2) := by
  refine ⟨hs, fun t => ?_, part_step hs h, fun i hi => ?_, fun i hi => ?_, hy, hb⟩
  · obtain ⟨i, x, a, b, _, e⟩ := part_ex hs h t
    show (partV P t).1 < _ ∧ (partV P t).2 < spN P (partV P t).1
    rw [e]
    exact ⟨a, b⟩
  · have h1 := h.sp i hi
    have h2 := partM_ge hs hi
    have h3 := liesM_ge S i ((i + 1) % S.phases.length)
    unfold spN gpN
    omega
  · have h3 := liesM_ge S i ((i + 1) % S.phases.length)
    unfold gpN
    rw [nx_mod hi]
    omega

/-! ### As many ticks as the cycle has -/
def cntF (f : Nat → Bool) (t : Nat) : Nat → Nat
  | 0 => 0
  | n + 1 => cntF f t n + (if f (t + n) = true then 1 else 0)
theorem cntF_succ (f : Nat → Bool) (t n : Nat) : cntF f t (n + 1) = cntF f t n + (if f (t + n) = true then 1 else 0) := rfl
theorem cntF_front (f : Nat → Bool) (t : Nat) : ∀ n, cntF f t (n + 1) = (if f t = true then 1 else 0) + cntF f (t + 1) n
  | 0 => by show 0 + _ = _ + 0; rw [Nat.add_zero]; omega
  | n + 1 => by rw [cntF_succ, cntF_front f t n, cntF_succ, show t + 1 + n = t + (n + 1) by omega]; omega
theorem cntF_move {f : Nat → Bool} {C : Nat} (hp : ∀ t, f (t + C) = f t) (t : Nat) : cntF f (t + 1) C = cntF f t C := by
  have h1 := cntF_succ f t C
  have h2 := cntF_front f t C
  rw [hp t] at h1
  omega
theorem cntF_any {f : Nat → Bool} {C : Nat} (hp : ∀ t, f (t + C) = f t) : ∀ t, cntF f t C = cntF f 0 C
  | 0 => rfl
  | t + 1 => by rw [cntF_move hp, cntF_any hp t]
theorem part_period {S : St} {P : Pl} (hs : siteB S = true) (h : PlF S P) (t : Nat) : partV P (t + P.cycle.toNat) = partV P t := by
  unfold partV
  rw [show placeN P (t + P.cycle.toNat) = placeN P t by unfold placeN; rw [show t + P.cycle.toNat + (P.cycle.toNat - P.offset.toNat) = t + (P.cycle.toNat - P.offset.toNat) + P.cycle.toNat by omega, Nat.add_mod_right]]
theorem cnt_range {f : Nat → Bool} {t a b : Nat} (hab : a ≤ b) : ∀ n, (∀ i, i < n → f (t + i) = (decide (a ≤ i) && decide (i < b))) → cntF f t n = min n b - min n a
  | 0, _ => by show 0 = _; omega
  | n + 1, h => by
    rw [cntF_succ, cnt_range hab n (fun i hi => h i (by omega)), h n (by omega)]
    by_cases h1 : a ≤ n
    · by_cases h2 : n < b
      · rw [decide_eq_true h1, decide_eq_true h2, if_pos (by decide)]; omega
      · rw [decide_eq_true h1, decide_eq_false h2, if_neg (by decide)]; omega
    · rw [decide_eq_false h1, Bool.false_and, if_neg (by decide)]; omega
theorem part_count {S : St} {P : Pl} (hs : siteB S = true) (h : PlF S P) (t : Nat) {k : Nat} (hk : k < S.phases.length) : cntF (fun u => decide ((partV P u).1 = k)) t P.cycle.toNat = spN P k := by
  obtain ⟨ht, hc, ho⟩ := pre_tot hs h
  have hp : ∀ t, (fun u => decide ((partV P u).1 = k)) (t + P.cycle.toNat) = (fun u => decide ((partV P u).1 = k)) t := fun t => by show decide _ = decide _; rw [part_period hs h]
  rw [cntF_any hp t, ← cntF_any hp P.offset.toNat]
  have hm := preN_mono (sp := spN P) (i := k + 1) (j := S.phases.length) (by omega)
  rw [preN_succ] at hm
  rw [cnt_range (a := preN (spN P) k) (b := preN (spN P) k + spN P k) (by omega) P.cycle.toNat (fun i hi => ?_)]
  · omega
  · have hpl : placeN P (P.offset.toNat + i) = i := by
      unfold placeN
      rw [show P.offset.toNat + i + (P.cycle.toNat - P.offset.toNat) = i + P.cycle.toNat by omega, Nat.add_mod_right, Nat.mod_eq_of_lt hi]
    obtain ⟨j, x, hj, hx, hpj, e⟩ := part_ex hs h (P.offset.toNat + i)
    rw [hpl] at hpj
    show decide ((partV P (P.offset.toNat + i)).1 = k) = _
    rw [e]
    show decide (j = k) = _
    by_cases e1 : j = k
    · subst e1
      rw [decide_eq_true rfl, decide_eq_true (by omega), decide_eq_true (by omega)]
      rfl
    · rw [decide_eq_false e1]
      rcases Nat.lt_or_gt_of_ne e1 with e2 | e2
      · have := preN_mono (sp := spN P) (i := j + 1) (j := k) (by omega)
        rw [preN_succ] at this
        rw [decide_eq_false (show ¬ preN (spN P) k ≤ i by omega)]
        rfl
      · have := preN_mono (sp := spN P) (i := k + 1) (j := j) (by omega)
        rw [preN_succ] at this
        rw [decide_eq_false (show ¬ i < preN (spN P) k + spN P k by omega), Bool.and_false]

end Go.Proofs.YtfhmfanmnhclfaaDoor

/-
  THE PLAN NEXT TO ANY ONE, in numbers: it may be one of the site, and one that may be is next to itself.
-/
namespace Go.Proofs.YtfhmfanmnhclfaaDoor
open Go.RowKit Go.Lib Go.Deep
set_option linter.unusedVariables false
set_option linter.unusedSimpArgs false

theorem cyc_facts {S : St} (hs : siteB S = true) : sumF (partM S) S.phases.length ≤ S.low ∧ S.low ≤ S.high ∧ S.high ≤ 1048576 := by
  have h : cyclesB S = true := by
    unfold siteB at hs
    simp only [Bool.and_eq_true] at hs
    exact hs.1.2
  unfold cyclesB at h
  simp only [Bool.and_eq_true, inB_iff] at h
  have hr : ∀ k, roundN S k = sumF (partM S) k := fun k => by
    induction k with
    | zero => rfl
    | succ k ih => rw [roundN, ih]; rfl
  have : roundM S = sumF (partM S) S.phases.length := hr _
  omega
def cycC (S : St) (P : Pl) : Int := if P.cycle < S.low then S.low else if S.high < P.cycle then S.high else P.cycle
def offC (S : St) (P : Pl) : Int := P.offset % cycC S P
def wshC (S : St) (P : Pl) (i : Nat) : Int := if i < P.splits.length ∧ partM S i < P.splits.getD i 0 then (if S.high < P.splits.getD i 0 then S.high else P.splits.getD i 0) - partM S i else 0
def allC (S : St) (P : Pl) : Int := sumF (wshC S P) S.phases.length
def rstC (S : St) (P : Pl) : Int := cycC S P - sumF (partM S) S.phases.length
def shrC (S : St) (P : Pl) (i : Nat) : Int := rstC S P * wshC S P i / allC S P
def lefC (S : St) (P : Pl) : Int := rstC S P - sumF (shrC S P) S.phases.length
def fstC (S : St) (P : Pl) : Nat := (firstN (wshC S P) S.phases.length).getD 0
def extC (S : St) (P : Pl) (i : Nat) : Int := if allC S P = 0 then (if i = 0 then rstC S P else 0) else shrC S P i + (if i = fstC S P then lefC S P else 0)
def splC (S : St) (P : Pl) (i : Nat) : Int := partM S i + extC S P i
/-- The plan next to any one. -/
def nearP (S : St) (P : Pl) : Pl := ⟨cycC S P, offC S P, (List.range S.phases.length).map (splC S P)⟩
theorem cycC_rng {S : St} (hs : siteB S = true) (P : Pl) : S.low ≤ cycC S P ∧ cycC S P ≤ S.high := by
  have := cyc_facts hs
  unfold cycC
  split
  · omega
  · split <;> omega
theorem rst_ge {S : St} (hs : siteB S = true) (P : Pl) : 0 ≤ rstC S P ∧ rstC S P ≤ 1048576 := by
  have := cyc_facts hs
  have := cycC_rng hs P
  have := sumF_ge (f := partM S) (n := S.phases.length) (fun i hi => by have := partM_ge hs hi; omega)
  unfold rstC
  omega
theorem part_low {S : St} (hs : siteB S = true) {i : Nat} (hi : i < S.phases.length) : partM S i ≤ S.low := by
  have := cyc_facts hs
  have := sumF_one (f := partM S) (n := S.phases.length) (i := i) (fun i hi => by have := partM_ge hs hi; omega) hi
  omega
theorem wsh_rng {S : St} (hs : siteB S = true) (P : Pl) {i : Nat} (hi : i < S.phases.length) : 0 ≤ wshC S P i ∧ wshC S P i ≤ 1048576 := by
  have h1 := cyc_facts hs
  have h2 := part_low hs hi
  have h3 := partM_ge hs hi
  unfold wshC
  split
  · split <;> omega
  · omega
theorem all_ge {S : St} (hs : siteB S = true) (P : Pl) : 0 ≤ allC S P := sumF_ge (fun i hi => (wsh_rng hs P hi).1)
theorem sumF_mul (c : Int) (f : Nat → Int) : ∀ n, sumF (fun i => c * f i) n = c * sumF f n
  | 0 => by show (0 : Int) = c * 0; omega
  | n + 1 => by rw [sumF_succ, sumF_mul c f n, sumF_succ, Int.mul_add]
theorem sumF_single (v : Int) (k : Nat) : ∀ n, sumF (fun i => if i = k then v else 0) n = if k < n then v else 0
  | 0 => by rw [if_neg (by omega)]; rfl
  | n + 1 => by
    rw [sumF_succ, sumF_single v k n]
    by_cases h1 : k < n
    · rw [if_pos h1, if_neg (show ¬ n = k by omega), if_pos (show k < n + 1 by omega)]; omega
    · rw [if_neg h1]
      by_cases h2 : n = k
      · rw [if_pos h2, if_pos (show k < n + 1 by omega)]; omega
      · rw [if_neg h2, if_neg (show ¬ k < n + 1 by omega)]; omega
theorem fst_lt {S : St} (hs : siteB S = true) (P : Pl) (h : allC S P ≠ 0) : fstC S P < S.phases.length ∧ wshC S P (fstC S P) ≠ 0 ∧ ∀ j, j < fstC S P → wshC S P j = 0 := by
  unfold fstC
  rcases firstN_cases (wshC S P) S.phases.length with ⟨_, e⟩ | ⟨k, e, hk, hl, hne⟩
  · exfalso
    refine h ?_
    unfold allC
    rw [sumF_congr (g := fun _ => 0) e]
    have : ∀ n, sumF (fun _ => 0) n = 0 := fun n => by
      induction n with
      | zero => rfl
      | succ n ih => rw [sumF_succ, ih]; rfl
    exact this _
  · rw [e]
    exact ⟨hk, hne, hl⟩
theorem shr_ge {S : St} (hs : siteB S = true) (P : Pl) {i : Nat} (hi : i < S.phases.length) : 0 ≤ shrC S P i := Int.ediv_nonneg (Int.mul_nonneg (rst_ge hs P).1 (wsh_rng hs P hi).1) (all_ge hs P)
theorem lef_ge {S : St} (hs : siteB S = true) (P : Pl) (h : allC S P ≠ 0) : 0 ≤ lefC S P := by
  have ha : 0 < allC S P := by have := all_ge hs P; omega
  have h1 : sumF (fun i => allC S P * shrC S P i) S.phases.length ≤ sumF (fun i => rstC S P * wshC S P i) S.phases.length := sumF_le (fun i hi => Int.mul_ediv_self_le (by omega))
  rw [sumF_mul, sumF_mul] at h1
  have h2 : rstC S P * sumF (wshC S P) S.phases.length = allC S P * rstC S P := Int.mul_comm _ _
  rw [h2] at h1
  have := Int.le_of_mul_le_mul_left h1 ha
  unfold lefC
  omega
theorem spl_sum {S : St} (hs : siteB S = true) (P : Pl) : sumF (splC S P) S.phases.length = cycC S P := by
  have hn : 0 < S.phases.length := (span_may hs).base.sh.ok.np.1
  have e : sumF (splC S P) S.phases.length = sumF (partM S) S.phases.length + sumF (extC S P) S.phases.length := sumF_add _ _ _
  rw [e]
  by_cases h : allC S P = 0
  · have e2 : sumF (extC S P) S.phases.length = sumF (fun i => if i = 0 then rstC S P else 0) S.phases.length := sumF_congr (fun i _ => by unfold extC; rw [if_pos h])
    rw [e2, sumF_single, if_pos hn]
    unfold rstC
    omega
  · have e2 : sumF (extC S P) S.phases.length = sumF (fun i => shrC S P i + (if i = fstC S P then lefC S P else 0)) S.phases.length := sumF_congr (fun i _ => by unfold extC; rw [if_neg h])
    rw [e2, sumF_add, sumF_single, if_pos (fst_lt hs P h).1]
    unfold lefC rstC
    omega
theorem spl_ge {S : St} (hs : siteB S = true) (P : Pl) {i : Nat} (hi : i < S.phases.length) : partM S i ≤ splC S P i := by
  unfold splC extC
  have h1 := (rst_ge hs P).1
  by_cases h : allC S P = 0
  · rw [if_pos h]; split <;> omega
  · rw [if_neg h]
    have := shr_ge hs P hi
    have := lef_ge hs P h
    split <;> omega
theorem near_get {S : St} {P : Pl} {i : Nat} (hi : i < S.phases.length) : (nearP S P).splits.getD i 0 = splC S P i := by simp [nearP, hi]
/-- It may be one of the site. -/
theorem near_may {S : St} (hs : siteB S = true) (P : Pl) : PlF S (nearP S P) := by
  have hc := cycC_rng hs P
  have h1 := cyc_facts hs
  have hp : 0 < cycC S P := by
    have hn : 0 < S.phases.length := (span_may hs).base.sh.ok.np.1
    have := part_low hs hn
    have := partM_ge hs hn
    omega
  refine ⟨by simp [nearP], hc.1, hc.2, Int.emod_nonneg _ (by omega), Int.emod_lt_of_pos _ hp, fun i hi => ?_, ?_⟩
  · rw [near_get hi]; exact spl_ge hs P hi
  · rw [sumF_congr (g := splC S P) (fun i hi => near_get hi)]
    exact spl_sum hs P
/-- One that may be is next to itself. -/
theorem near_same {S : St} {P : Pl} (hs : siteB S = true) (h : PlF S P) : nearP S P = P := by
  have h1 := cyc_facts hs
  have hlo := h.lo
  have hhi := h.hi
  have hc : cycC S P = P.cycle := by unfold cycC; rw [if_neg (by omega), if_neg (by omega)]
  have ho : offC S P = P.offset := by unfold offC; rw [hc]; exact Int.emod_eq_of_lt h.o0 h.o1
  have hge : ∀ i, i < S.phases.length → 0 ≤ P.splits.getD i 0 := fun i hi => by have := h.sp i hi; have := partM_ge hs hi; omega
  have hw : ∀ i, i < S.phases.length → wshC S P i = P.splits.getD i 0 - partM S i := fun i hi => by
    have a := h.sp i hi
    have b := sumF_one (f := fun k => P.splits.getD k 0) hge hi
    rw [h.tot] at b
    have b : P.splits.getD i 0 ≤ P.cycle := b
    unfold wshC
    by_cases e : partM S i < P.splits.getD i 0
    · rw [if_pos ⟨by have := h.n; omega, e⟩, if_neg (by omega)]
    · rw [if_neg (fun q => e q.2)]; omega
  have hall : allC S P = rstC S P := by
    have e : sumF (fun i => wshC S P i + partM S i) S.phases.length = P.cycle := by
      rw [sumF_congr (g := fun i => P.splits.getD i 0) (fun i hi => by rw [hw i hi]; omega)]
      exact h.tot
    rw [sumF_add] at e
    have e : sumF (wshC S P) S.phases.length + sumF (partM S) S.phases.length = P.cycle := e
    unfold allC rstC
    rw [hc]
    omega
  have hs2 : ∀ i, i < S.phases.length → splC S P i = P.splits.getD i 0 := fun i hi => by
    unfold splC extC
    by_cases e : allC S P = 0
    · have hz := sumF_zero (fun i hi => (wsh_rng hs P hi).1) e i hi
      rw [hw i hi] at hz
      rw [if_pos e]
      split <;> omega
    · have hsh : ∀ k, k < S.phases.length → shrC S P k = wshC S P k := fun k hk => by
        unfold shrC
        rw [← hall, Int.mul_comm]
        exact Int.mul_ediv_cancel _ e
      have hlef : lefC S P = 0 := by
        unfold lefC
        rw [sumF_congr hsh]
        show rstC S P - allC S P = 0
        omega
      rw [if_neg e, hsh i hi, hw i hi, hlef]
      split <;> omega
  have hl : (List.range S.phases.length).map (splC S P) = P.splits := by
    refine List.ext_getElem (by simp [h.n]) (fun i a b => ?_)
    have hi : i < S.phases.length := by simpa using a
    have := hs2 i hi
    simp [this, b]
  show (⟨cycC S P, offC S P, (List.range S.phases.length).map (splC S P)⟩ : Pl) = P
  rw [hc, ho, hl]

end Go.Proofs.YtfhmfanmnhclfaaDoor

