/-
  TURNS OF A PULSE, in numbers: what follows for holds of one, for two turns, for how long the same was said; Run from the beginning.
-/
import Derived.Test.YtbgnllpgogbmfaaPulJ
namespace Go.Proofs.Ytbgnllpgogbmfaa
open Go.RowKit Go.Lib Go.Deep
set_option linter.unusedVariables false
set_option linter.unusedSimpArgs false

theorem raw_at (h : Int) (p : Pu) {L : List Bool} {k : Nat} (hk : k < L.length) : (atP h p L (k + 1)).raw = tr L k := by rw [atP_succ h p hk]; rfl
theorem since_at (h : Int) (p : Pu) {L : List Bool} {k : Nat} (hk : k < L.length) : (atP h p L (k + 1)).since = sncP (atP h p L k) (tr L k) := by rw [atP_succ h p hk]; rfl
theorem up_at (h : Int) (p : Pu) {L : List Bool} {k : Nat} (hk : k < L.length) : (atP h p L (k + 1)).up = upP h (atP h p L k) (tr L k) := by rw [atP_succ h p hk]; rfl
theorem sncP_pos (p : Pu) (r : Bool) (hp : 0 ≤ p.since) : 1 ≤ sncP p r := by unfold sncP; repeat' split <;> omega
theorem zero_may : mayP Pu.zero = true := by decide
theorem at_ge (h : Int) {p : Pu} (L : List Bool) (k : Nat) (hp : mayP p = true) : 0 ≤ (atP h p L k).since := (of_decide_eq_true (may_at (h := h) (L := L) (k := k) hp)).1
theorem said_one {p : Pu} (hp : mayP p = true) (L : List Bool) : saidP 1 p L = L := by
  refine list_same (saidP_len _ _ _) fun j hj => ?_
  rw [saidP_len] at hj
  rw [tr_said 1 p hj, up_at 1 p hj]
  unfold upP
  rw [if_pos (sncP_pos _ _ (at_ge 1 L j hp))]
theorem turn_at {h : Int} {p : Pu} {L : List Bool} {k : Nat} (hk : k < L.length) (ht : (atP h p L (k + 1)).up ≠ (atP h p L k).up) : h ≤ (atP h p L (k + 1)).since ∧ (atP h p L (k + 1)).up = tr L k := by
  rw [up_at h p hk] at ht ⊢
  rw [since_at h p hk]
  unfold upP at ht ⊢
  by_cases hh : h ≤ sncP (atP h p L k) (tr L k)
  · exact ⟨hh, if_pos hh⟩
  · rw [if_neg hh] at ht
    exact absurd rfl ht
theorem since_far {h : Int} {p : Pu} {L : List Bool} {j : Nat} : ∀ d, j + d < L.length → tr L j ≠ tr L (j + d) → (atP h p L (j + d + 1)).since ≤ d
  | 0, _, hne => absurd rfl hne
  | d + 1, hk, hne => by
    have e : j + (d + 1) = j + d + 1 := by omega
    rw [since_at h p hk, e]
    rw [e] at hne hk
    unfold sncP
    by_cases hr : tr L (j + d + 1) = (atP h p L (j + d + 1)).raw
    · rw [if_pos hr]
      rw [raw_at h p (show j + d < L.length by omega)] at hr
      have ih := since_far (h := h) (p := p) (L := L) (j := j) d (by omega) (by rw [← hr]; exact hne)
      split <;> omega
    · rw [if_neg hr]; omega
/-- Two turns: the ticks between them. -/
theorem apart_at {h : Int} {p : Pu} {L : List Bool} {j k : Nat} (hk : k < L.length) (hj : j < k) (hu : (atP h p L k).up = tr L j) (ht : (atP h p L (k + 1)).up ≠ (atP h p L k).up) : h ≤ (k : Int) - (j : Int) := by
  obtain ⟨h1, h2⟩ := turn_at hk ht
  rw [h2, hu] at ht
  have h3 := since_far (h := h) (p := p) (L := L) (j := j) (k - j) (by omega) (by rw [show j + (k - j) = k by omega]; exact fun e => ht e.symm)
  rw [show j + (k - j) = k by omega] at h3
  omega
/-! ### Run from the beginning -/
theorem run0_ok {h : Int} {a : Option Addr} {n c : Nat} {L : List Bool} {w : World} (hA : Bo w a n L) (hn : n ≤ 400) (hh : holB h = true) : Calls Try.prog 9 #[puV Pu.zero, .slice a n c, .int .i64 h] w fun e w' => ∃ (R : Pu) (a' : Option Addr) (c' : Nat), e = .returned (.tuple #[puV R, .slice a' n c', .int .i64 0]) ∧ Bo w' a' n (saidP h Pu.zero L) ∧ Kept w w' none := by
  refine (run_any Pu.zero h hA).mono ?_
  rintro e w' ⟨a', c', he, hb, hk⟩
  obtain ⟨x1, x2, x3⟩ := rn_ok (p := Pu.zero) (L := L) (h := h) zero_may (by rw [hA.size]; omega) hh
  rw [x1, x2, x3] at he
  rw [x3] at hb
  have hb' := hb.bo
  rw [saidP_len, hA.size] at he hb'
  exact ⟨_, a', c', he, hb', hk⟩
theorem run0_arg {h : Int} {a : Option Addr} {n c : Nat} {L : List Bool} {w : World} (hA : Bo w a n L) (hn : n ≤ 400) (hh : holB h = false) : Calls Try.prog 9 #[puV Pu.zero, .slice a n c, .int .i64 h] w fun e w' => ∃ (a' : Option Addr) (c' : Nat), e = .returned (.tuple #[puV Pu.zero, .slice a' 0 c', .int .i64 2]) ∧ Kept w w' none := by
  refine (run_any Pu.zero h hA).mono ?_
  rintro e w' ⟨a', c', he, hb, hk⟩
  obtain ⟨x1, x2, x3⟩ := rn_arg (p := Pu.zero) (L := L) (h := h) zero_may (by rw [hA.size]; omega) hh
  rw [x1, x2, x3] at he
  exact ⟨a', c', he, hk⟩
theorem run0_one {a : Option Addr} {n c : Nat} {L : List Bool} {w : World} (hA : Bo w a n L) (hn : n ≤ 400) : Calls Try.prog 9 #[puV Pu.zero, .slice a n c, .int .i64 1] w fun e w' => ∃ (R : Pu) (a' : Option Addr) (c' : Nat), e = .returned (.tuple #[puV R, .slice a' n c', .int .i64 0]) ∧ Bo w' a' n L ∧ Kept w w' none := by
  have h := run0_ok (c := c) (h := 1) hA hn (by decide)
  rw [said_one zero_may] at h
  exact h

end Go.Proofs.Ytbgnllpgogbmfaa
