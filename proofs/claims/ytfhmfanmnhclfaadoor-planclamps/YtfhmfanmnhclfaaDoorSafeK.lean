/-
  THE CONTRACT of Check: a trace's first fault (made by a program).
-/
import Derived.Test.YtfhmfanmnhclfaaDoorSafeJ
namespace Go.Proofs.YtfhmfanmnhclfaaDoor
open Go.RowKit Go.Lib Go.Deep
set_option linter.unusedVariables false
set_option linter.unusedSimpArgs false

/-- A trace's lights lie where a slice leads. -/
structure Trc (w : World) (pa : Option Addr) (n : Nat) (T : List (List Nat)) : Prop where
  size : T.length = n
  max : n ≤ 9223372036854775807
  at_ : 0 < n → ∃ b off, pa = some ⟨b, off, none⟩ ∧ b < w.heap.size ∧ ∀ i, i < n → ∃ a c, w.cell? ⟨b, off + i, none⟩ = some (.slice a (tk T i).length c) ∧ By w a (tk T i).length (tk T i)
theorem Trc.kept {w w' : World} {pa : Option Addr} {n : Nat} {T : List (List Nat)} (h : Trc w pa n T) (k : Kept w w' none) : Trc w' pa n T := by
  refine ⟨h.size, h.max, fun hp => ?_⟩
  obtain ⟨b, off, rfl, hb, hc⟩ := h.at_ hp
  refine ⟨b, off, rfl, Nat.lt_of_lt_of_le hb k.size, fun i hi => ?_⟩
  obtain ⟨a, c, h1, h2⟩ := hc i hi
  exact ⟨a, c, cell_kept0 h1 k, h2.kept k⟩
theorem Trc.lt {w : World} {pa : Option Addr} {n : Nat} {T : List (List Nat)} (h : Trc w pa n T) (k : Nat) : ∀ x ∈ tk T k, x < 256 := by
  by_cases hk : k < n
  · obtain ⟨b, off, rfl, hb, hc⟩ := h.at_ (by omega)
    obtain ⟨a, c, h1, h2⟩ := hc k hk
    exact h2.lt
  · have : tk T k = [] := by unfold tk; simp [show T.length ≤ k by have := h.size; omega]
    rw [this]; simp
theorem atV_len {S : St} {T : List (List Nat)} : ∀ k, (∀ j, j < k → fltV S T j = 0) → (atV S T k).groups.length = S.groups.length
  | 0, _ => firstV_len S
  | k + 1, h => (behindV_len S (atV S T k) (tk T k)).trans (fault_len (h k (by omega)))
theorem startV_rng {S : St} {F : Sf} {L : List Nat} (hs : siteB S = true) (h : 0 ≤ F.start ∧ F.start ≤ 1048576) : 0 ≤ startV S F L ∧ startV S F L ≤ 1048576 := by
  have := worst_rng hs
  unfold startV
  split
  · exact this
  · split <;> omega
theorem atV_start {S : St} {T : List (List Nat)} (hs : siteB S = true) : ∀ k, 0 ≤ (atV S T k).start ∧ (atV S T k).start ≤ 1048576
  | 0 => worst_rng hs
  | k + 1 => startV_rng hs (atV_start hs k)
theorem more_rng (x : Int) : 0 ≤ more x ∧ more x ≤ 1048576 := by
  have := stp_ge x; have := stp_le x
  unfold more; split <;> omega
theorem sndV_rng (s : Sn) (b : Nat) (hb : b < 256) : (sndV s b).asp < 256 ∧ i64B (sndV s b).since ∧ i64B (sndV s b).ended := by
  refine ⟨hb, ?_, ?_⟩
  · have := more_rng s.since
    show i64B (sinceV _ _ _)
    unfold sinceV i64B; split <;> omega
  · have := more_rng s.ended
    show i64B (endedV _ _)
    unfold endedV i64B; split <;> omega
theorem atV_rng {S : St} {T : List (List Nat)} (h : ∀ k, ∀ x ∈ tk T k, x < 256) : ∀ k, ∀ s ∈ (atV S T k).groups, s.asp < 256 ∧ i64B s.since ∧ i64B s.ended
  | 0, s, hs => by
    have : s = seen1 := by
      unfold atV firstV at hs
      exact (List.mem_replicate.1 hs).2
    subst this
    unfold i64B; simp
  | k + 1, s, hs => by
    unfold atV behindV at hs
    simp only [List.mem_map, List.mem_range] at hs
    obtain ⟨i, hi, rfl⟩ := hs
    exact sndV_rng _ _ (h k _ (lg_mem hi))
theorem first_yes2 {X : Sa} {S : St} {w : World} (h : Sat w X S) (hT : Tabb w) (hs : siteB S = true) : Calls Tryd.prog 22 #[siteV X S] w fun e w' => ∃ b, e = .returned (.tuple #[.agg #[.slice (some ⟨b, 0, none⟩) S.groups.length S.groups.length, .int .i64 (worstM S), .bool false], .int .i64 0]) ∧ w.heap.size ≤ b ∧ OwnG w' b S.groups.length (fun _ => seen1) ∧ Kept w w' none := by
  refine (first_yes h hT hs).mono ?_
  rintro e w' ⟨b, rfl, h1, h2, h3⟩
  have hl := firstV_len S
  exact ⟨b, by rw [safeV, hl]; rfl, h1, h2, h3⟩
end Go.Proofs.YtfhmfanmnhclfaaDoor
