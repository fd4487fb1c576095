/-
  Texts joined: some of those that the proofs of this seat stand on.
-/
import Derived.Test.YtchjbagipbmcoaaGreatDoorRefP
import Derived.Test.YtchjbagipbmcoaaGreatDoorAskJ
/-
  WHAT THE DOCUMENT ASKS, CONDITION BY CONDITION, is what may be.
-/
namespace Go.Proofs.YtchjbagipbmcoaaGreatDoor
open Go.RowKit Go.Lib Go.Deep
set_option linter.unusedVariables false
set_option linter.unusedSimpArgs false

def rchB (S : St) : Bool := rgrB S && rphB S && decide (S.eyes.length ≤ 24) && decide (S.plans.length ≤ 8) && allB S.eyes.length (eyeB S) && timeB S.watch && timeB S.feed && timeB S.heal && inB S.low (roundM S) 1048576 && inB S.high S.low 1048576 && allB S.plans.length (fun i => planB S (S.pl i))
theorem leastN_le {S : St} {G : Nat} {m : Int} : ∀ n, leastN S G n ≤ m ↔ 1 ≤ m ∧ ∀ a, a < n → G.testBit a = true → (S.gr a).min ≤ m
  | 0 => by simp [leastN]
  | n + 1 => by
    have ih := leastN_le (S := S) (G := G) (m := m) n
    cases h : G.testBit n with
    | true =>
      rw [leastN_yes h]
      constructor
      · intro hx
        have h1 : leastN S G n ≤ m := by omega
        have h2 := ih.1 h1
        refine ⟨h2.1, fun a ha hb => ?_⟩
        by_cases e : a = n
        · subst e; omega
        · exact h2.2 a (by omega) hb
      · rintro ⟨h1, h2⟩
        have h3 := ih.2 ⟨h1, fun a ha hb => h2 a (by omega) hb⟩
        have h4 := h2 n (by omega) h
        omega
    | false =>
      rw [leastN_no h, ih]
      constructor
      · rintro ⟨h1, h2⟩
        refine ⟨h1, fun a ha hb => ?_⟩
        by_cases e : a = n
        · subst e; rw [h] at hb; cases hb
        · exact h2 a (by omega) hb
      · rintro ⟨h1, h2⟩
        exact ⟨h1, fun a ha hb => h2 a (by omega) hb⟩
theorem bit_lt {G n a : Nat} (hG : G < 2 ^ n) (h : G.testBit a = true) : a < n := by
  by_cases hh : a < n
  · exact hh
  · have := Nat.testBit_lt_two_pow (Nat.lt_of_lt_of_le hG (Nat.pow_le_pow_right (n := 2) (by omega) (show n ≤ a by omega)))
    rw [this] at h; cases h
theorem bit_some {G : Nat} (h : G ≠ 0) : ∃ a, G.testBit a = true := by
  by_cases hh : ∃ a, G.testBit a = true
  · exact hh
  · exact absurd (Nat.eq_of_testBit_eq fun i => by
      rw [Nat.zero_testBit]
      cases hb : G.testBit i with
      | false => rfl
      | true => exact absurd ⟨i, hb⟩ hh) h
theorem meet_iff {S : St} {G a : Nat} (hG : G < 2 ^ S.groups.length) : meetB S G a = true ↔ S.ap a &&& G = 0 := by
  unfold meetB
  rw [allB_iff]
  constructor
  · intro h
    refine Nat.eq_of_testBit_eq fun i => ?_
    rw [Nat.testBit_and, Nat.zero_testBit]
    cases hb : G.testBit i with
    | false => simp
    | true =>
      have := h i (bit_lt hG hb)
      rw [hb] at this
      simpa using this
  · intro h b hb
    have := congrArg (fun x => Nat.testBit x b) h
    simp only [Nat.testBit_and, Nat.zero_testBit] at this
    rw [Bool.and_comm, this]
    rfl
theorem cnt_full {U : Nat} : ∀ n, cnt U n = n ↔ ∀ j, j < n → U.testBit j = true
  | 0 => by simp [cnt]
  | n + 1 => by
    have h1 := cnt_le U n
    rw [cnt_succ]
    constructor
    · intro h j hj
      have hb : U.testBit n = true := by
        cases hb : U.testBit n with
        | true => rfl
        | false => rw [hb] at h; simp at h; omega
      rw [hb] at h
      have h2 : cnt U n = n := by simp at h; omega
      by_cases e : j = n
      · subst e; exact hb
      · exact (cnt_full n).1 h2 j (by omega)
    · intro h
      rw [(cnt_full n).2 (fun j hj => h j (by omega)), h n (by omega)]
      rfl
theorem served_iff {U n : Nat} (hn : n ≤ 32) (hU : U < 2 ^ n) : cnt U 32 = n ↔ U = 2 ^ n - 1 := by
  have e : cnt U 32 = cnt U n := by
    have := cnt_flat U n (32 - n) (fun j h1 h2 => Nat.testBit_lt_two_pow (Nat.lt_of_lt_of_le hU (Nat.pow_le_pow_right (n := 2) (by omega) h1)))
    rwa [show n + (32 - n) = 32 by omega] at this
  rw [e, cnt_full]
  constructor
  · intro h
    refine Nat.eq_of_testBit_eq fun i => ?_
    rw [Nat.testBit_two_pow_sub_one]
    by_cases hi : i < n
    · rw [h i hi, decide_eq_true hi]
    · rw [decide_eq_false hi]
      exact Nat.testBit_lt_two_pow (Nat.lt_of_lt_of_le hU (Nat.pow_le_pow_right (n := 2) (by omega) (by omega)))
  · intro h j hj
    rw [h, Nat.testBit_two_pow_sub_one]
    exact decide_eq_true hj
theorem union_lt {S : St} {n : Nat} : ∀ k, (∀ i, i < k → (S.ph i).groups < 2 ^ n) → unionN S k < 2 ^ n
  | 0, _ => by simp [unionN]; exact Nat.two_pow_pos n
  | k + 1, h => Nat.or_lt_two_pow (union_lt k fun i hi => h i (by omega)) (h k (by omega))
theorem rphase_iff {S : St} (hg : ∀ i, i < S.groups.length → groupB S i = true) (i : Nat) : rphaseB S i = phaseB S i := by
  rw [Bool.eq_iff_iff]
  unfold rphaseB phaseB mateB leastB timeB
  simp only [Bool.and_eq_true, decide_eq_true_eq, allB_iff, Bool.or_eq_true, Bool.not_eq_true', inB_iff, leastN_le]
  generalize (S.ph i).groups = G
  generalize (S.ph i).min = m
  constructor
  · rintro ⟨⟨⟨⟨⟨h1, h2⟩, h3⟩, ⟨h4, h4'⟩, h5⟩, h6⟩, h7⟩
    refine ⟨⟨⟨⟨⟨⟨⟨h1, h2⟩, fun a ha => ?_⟩, by omega⟩, fun a ha => ?_⟩, h5⟩, h6⟩, h7⟩
    · rcases h3 a ha with h | h
      · exact .inl h
      · exact .inr ((meet_iff h2).1 h)
    · cases hb : G.testBit a with
      | false => exact .inl rfl
      | true => exact .inr (h4' a ha hb)
  · rintro ⟨⟨⟨⟨⟨⟨⟨h1, h2⟩, h3⟩, h4⟩, h4'⟩, h5⟩, h6⟩, h7⟩
    have hm : ∀ a, a < S.groups.length → G.testBit a = true → (S.gr a).min ≤ m := fun a ha hb => by
      rcases h4' a ha with h | h
      · rw [hb] at h; cases h
      · exact h
    refine ⟨⟨⟨⟨⟨h1, h2⟩, fun a ha => ?_⟩, ⟨?_, hm⟩, h5⟩, h6⟩, h7⟩
    · rcases h3 a ha with h | h
      · exact .inl h
      · exact .inr ((meet_iff h2).2 h)
    · obtain ⟨a, hb⟩ := bit_some h1
      have ha := bit_lt h2 hb
      have := hg a ha
      unfold groupB timeB at this
      simp only [Bool.and_eq_true, inB_iff] at this
      have := hm a ha hb
      omega
theorem rgr_iff {S : St} : rgrB S = true ↔ (inB S.id 0 65535 = true ∧ inB S.groups.length 1 16 = true ∧ S.apart.length = S.groups.length ∧ S.between.length = S.groups.length) ∧ (∀ i, i < S.groups.length → groupB S i = true) ∧ (∀ i, i < S.groups.length → apartB S i = true) ∧ (∀ i, i < S.groups.length → betweenB S i = true) := by
  unfold rgrB rowB pairB apartB betweenB
  simp only [Bool.and_eq_true, decide_eq_true_eq, allB_iff, beq_iff_eq, Bool.not_eq_true', Bool.and_eq_false_iff, decide_eq_false_iff_not]
  constructor
  · rintro ⟨⟨⟨⟨⟨h1, h2⟩, h3⟩, h4⟩, h5⟩, h6⟩
    refine ⟨⟨h1, h2, h3, h4⟩, fun i hi => (h5 i hi).1.1, fun a ha => ⟨⟨(h5 a ha).2, ?_⟩, fun b hb => (h6 a ha b hb).1.1⟩, fun a ha => ⟨(h5 a ha).1.2, fun b hb => (h6 a ha b hb).2⟩⟩
    rcases (h6 a ha a ha).1.2 with h | h
    · exact absurd rfl h
    · exact h
  · rintro ⟨⟨h1, h2, h3, h4⟩, h5, h6, h7⟩
    refine ⟨⟨⟨⟨⟨h1, h2⟩, h3⟩, h4⟩, fun i hi => ⟨⟨h5 i hi, (h7 i hi).1⟩, (h6 i hi).1.1⟩⟩, fun a ha b hb => ⟨⟨(h6 a ha).2 b hb, ?_⟩, (h7 a ha).2 b hb⟩⟩
    by_cases e : a = b
    · subst e
      exact .inr (h6 a ha).1.2
    · exact .inl e
theorem rch_site (S : St) : rchB S = siteB S := by
  rw [Bool.eq_iff_iff]
  unfold rchB siteB countsB ownB servedB cyclesB rphB
  simp only [Bool.and_eq_true, decide_eq_true_eq, allB_iff, rgr_iff]
  constructor
  · rintro ⟨⟨⟨⟨⟨⟨⟨⟨⟨⟨⟨⟨h1, h2, h3, h4⟩, h5, h6, h7⟩, ⟨h8, h9⟩, h10⟩, h11⟩, h12⟩, h13⟩, h14⟩, h15⟩, h16⟩, h17⟩, h18⟩, h19⟩
    have hp : ∀ i, i < S.phases.length → phaseB S i = true := fun i hi => by rw [← rphase_iff h5]; exact h9 i hi
    have hl : ∀ i, i < S.phases.length → (S.ph i).groups < 2 ^ S.groups.length := fun i hi => by
      have := hp i hi
      unfold phaseB at this
      simp only [Bool.and_eq_true, decide_eq_true_eq] at this
      exact this.1.1.1.1.1.1.2
    have hn := inB_iff.1 h2
    exact ⟨⟨⟨⟨⟨⟨⟨⟨⟨⟨⟨⟨⟨⟨h2, h3⟩, h4⟩, h8⟩, h11⟩, h12⟩, ⟨⟨h1, h14⟩, h15⟩, h16⟩, h5⟩, h6⟩, h7⟩, hp⟩, (served_iff (by omega) (union_lt _ hl)).1 h10⟩, h13⟩, h17, h18⟩, h19⟩
  · rintro ⟨⟨⟨⟨⟨⟨⟨⟨⟨⟨⟨⟨⟨⟨h2, h3⟩, h4⟩, h8⟩, h11⟩, h12⟩, ⟨⟨h1, h14⟩, h15⟩, h16⟩, h5⟩, h6⟩, h7⟩, hp⟩, h10⟩, h13⟩, h17, h18⟩, h19⟩
    have hl : ∀ i, i < S.phases.length → (S.ph i).groups < 2 ^ S.groups.length := fun i hi => by
      have := hp i hi
      unfold phaseB at this
      simp only [Bool.and_eq_true, decide_eq_true_eq] at this
      exact this.1.1.1.1.1.1.2
    have hn := inB_iff.1 h2
    exact ⟨⟨⟨⟨⟨⟨⟨⟨⟨⟨⟨⟨h1, h2, h3, h4⟩, h5, h6, h7⟩, ⟨h8, fun i hi => by rw [rphase_iff h5]; exact hp i hi⟩, (served_iff (by omega) (union_lt _ hl)).2 h10⟩, h11⟩, h12⟩, h13⟩, h14⟩, h15⟩, h16⟩, h17⟩, h18⟩, h19⟩

end Go.Proofs.YtchjbagipbmcoaaGreatDoor

