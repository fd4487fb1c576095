/-
  GAPS BEHIND MANY TICKS, in numbers: runs, shares.
-/
import Derived.Test.YtkdfiaeghbkgnaaBox5
namespace Go.Proofs.Ytkdfiaeghbkgnaa
open Go.RowKit Go.Lib Go.Deep
set_option linter.unusedVariables false
set_option linter.unusedSimpArgs false

theorem incG_id {n m : Int} (h : n < m) : incG n m = n + 1 := by unfold incG; split <;> omega
/-- How long the last run is. -/
def runG (g : Ga) : Int := if g.up = true then g.held else g.opn
theorem runG_zero : runG Ga.zero = 0 := rfl
theorem up_succ {L : List Bool} {k : Nat} (hk : k < L.length) : (atG L (k + 1)).up = tr L k := by rw [atG_succ hk]; rfl
theorem came_succ {L : List Bool} {k : Nat} (hk : k < L.length) : (atG L (k + 1)).came = if tr L k = true ∧ (atG L k).up = false then incG (atG L k).came 1073741824 else (atG L k).came := by rw [atG_succ hk]; rfl
theorem run_succ {L : List Bool} {k : Nat} (hk : k < L.length) : runG (atG L (k + 1)) = if tr L k = true then incG (atG L k).held 1048576 else incG (atG L k).opn 1048576 := by
  rw [atG_succ hk]
  unfold runG
  show (if tr L k = true then (if tr L k = true then incG (atG L k).held 1048576 else 0) else (if tr L k = true then 0 else incG (atG L k).opn 1048576)) = _
  cases tr L k <;> rfl
/-- Nothing is more than the ticks that have been. -/
theorem at_bd {L : List Bool} : ∀ k, k ≤ L.length → k ≤ 1000000 → (atG L k).held ≤ k ∧ (atG L k).opn ≤ k ∧ (atG L k).came ≤ k
  | 0, _, _ => ⟨Int.le_refl _, Int.le_refl _, Int.le_refl _⟩
  | k + 1, hk, hb => by
    obtain ⟨a, b, c⟩ := at_bd (L := L) k (by omega) (by omega)
    have hm := may_iff.1 (may_atG (L := L) k (by omega)).1
    have h0 := hm.h0
    have o0 := hm.o0
    have c0 := hm.c0
    rw [atG_succ (show k < L.length by omega)]
    refine ⟨?_, ?_, ?_⟩
    · show (if tr L k = true then incG (atG L k).held 1048576 else 0) ≤ _
      split
      · rw [incG_id (by omega)]; omega
      · omega
    · show (if tr L k = true then 0 else incG (atG L k).opn 1048576) ≤ _
      split
      · omega
      · rw [incG_id (by omega)]; omega
    · show (if tr L k = true ∧ (atG L k).up = false then incG (atG L k).came 1073741824 else (atG L k).came) ≤ _
      split
      · rw [incG_id (by omega)]; omega
      · omega
theorem run_bd {L : List Bool} {k : Nat} (hk : k ≤ L.length) (hb : k ≤ 1000000) : 0 ≤ runG (atG L k) ∧ runG (atG L k) ≤ k ∧ 0 ≤ (atG L k).came ∧ (atG L k).came ≤ k := by
  obtain ⟨a, b, c⟩ := at_bd (L := L) k hk hb
  have hm := may_iff.1 (may_atG (L := L) k hk).1
  have h0 := hm.h0
  have o0 := hm.o0
  have c0 := hm.c0
  unfold runG
  split <;> omega
theorem came_yes {L : List Bool} {k : Nat} (hk : k < L.length) (hb : k ≤ 1000000) (h1 : tr L k = true) (h2 : (atG L k).up = false) : (atG L (k + 1)).came = (atG L k).came + 1 := by
  have := (run_bd (L := L) (k := k) (by omega) hb).2.2.2
  rw [came_succ hk, if_pos ⟨h1, h2⟩, incG_id (by omega)]
theorem came_no {L : List Bool} {k : Nat} (hk : k < L.length) (h : ¬ (tr L k = true ∧ (atG L k).up = false)) : (atG L (k + 1)).came = (atG L k).came := by
  rw [came_succ hk, if_neg h]
theorem run_same {L : List Bool} {k : Nat} (hk : k < L.length) (hb : k ≤ 1000000) (h : tr L k = (atG L k).up) : runG (atG L (k + 1)) = runG (atG L k) + 1 := by
  obtain ⟨a, b, c⟩ := at_bd (L := L) k (by omega) hb
  rw [run_succ hk]
  unfold runG
  rw [← h]
  cases tr L k
  · exact incG_id (by omega)
  · exact incG_id (by omega)
theorem run_other {L : List Bool} {k : Nat} (hk : k < L.length) (h : tr L k ≠ (atG L k).up) : runG (atG L (k + 1)) = 1 := by
  have hm := may_iff.1 (may_atG (L := L) k (by omega)).1
  rw [run_succ hk]
  cases hu : (atG L k).up
  · rw [hu] at h
    have ht : tr L k = true := by simpa using h
    rw [if_pos ht, hm.hz hu]; rfl
  · rw [hu] at h
    have ht : tr L k = false := by simpa using h
    rw [if_neg (by rw [ht]; decide), hm.oz hu]; rfl
theorem run_first {L : List Bool} (hk : 0 < L.length) : runG (atG L 1) = 1 := by
  rw [run_succ hk]
  cases tr L 0 <;> rfl
/-- The ticks from behind on, of which the last k + 1 say that nothing stands there. -/
theorem opn_run {L : List Bool} {s : Nat} (hs : s = 0 ∨ tr L (s - 1) = true) : ∀ t, s + t ≤ L.length → s + t ≤ 1000000 → (∀ m, s ≤ m → m < s + t → tr L m = false) → (atG L (s + t)).opn = t
  | 0, h1, h2, h3 => by
    rw [Nat.add_zero]
    by_cases h0 : s = 0
    · subst h0; rfl
    · have hs' : tr L (s - 1) = true := by rcases hs with h | h; exact absurd h h0; exact h
      have hu : (atG L s).up = true := by
        have := up_succ (L := L) (k := s - 1) (by omega)
        rw [show s - 1 + 1 = s by omega] at this
        rw [this]; exact hs'
      exact (may_iff.1 (may_atG (L := L) s (by omega)).1).oz hu
  | t + 1, h1, h2, h3 => by
    have ih := opn_run hs t (by omega) (by omega) (fun m a b => h3 m a (by omega))
    rw [← Nat.add_assoc, atG_succ (show s + t < L.length by omega)]
    show (if tr L (s + t) = true then 0 else incG (atG L (s + t)).opn 1048576) = _
    rw [h3 (s + t) (by omega) (by omega), if_neg (by decide), ih, incG_id (by omega)]
    omega
theorem past_run {L : List Bool} {n r : Nat} (hn : 1 ≤ n) (hnl : n = L.length) (hb : n ≤ 1000000) (hr : r ≤ n) (hall : ∀ m, n - r ≤ m → m < n → tr L m = false) (hst : r = n ∨ tr L (n - r - 1) = true) {l : Int} (hl : 0 ≤ l) (hl2 : l ≤ 1048576) : paB (atG L n) l = (!tr L (n - 1) && decide (l ≤ r)) := by
  obtain ⟨hm, _, _⟩ := may_atG (L := L) n (by omega)
  have ho := opn_run (L := L) (s := n - r) (by rcases hst with h | h; exact .inl (by omega); exact .inr h) r (by omega) (by omega) (fun m a b => hall m a (by omega))
  rw [show n - r + r = n by omega] at ho
  have hu := up_succ (L := L) (k := n - 1) (by omega)
  rw [show n - 1 + 1 = n by omega] at hu
  unfold paB
  rw [hm, hu, ho, show wiB l 0 1048576 = true from decide_eq_true ⟨hl, hl2⟩]
  rfl
/-- How many of the last m of k ticks say that something stands there. -/
def tcB (L : List Bool) : Nat → Nat → Nat
  | _, 0 => 0
  | 0, _ + 1 => 0
  | k + 1, m + 1 => (if tr L k = true then 1 else 0) + tcB L k m
theorem tcB_succ (L : List Bool) (k m : Nat) : tcB L (k + 1) (m + 1) = (if tr L k = true then 1 else 0) + tcB L k m := rfl
/-- How many of t ticks from lo on. -/
def fbB (L : List Bool) (lo : Nat) : Nat → Nat
  | 0 => 0
  | t + 1 => fbB L lo t + (if tr L (lo + t) = true then 1 else 0)
theorem fbB_succ (L : List Bool) (lo t : Nat) : fbB L lo (t + 1) = fbB L lo t + (if tr L (lo + t) = true then 1 else 0) := rfl
theorem fbB_le (L : List Bool) (lo : Nat) : ∀ t, fbB L lo t ≤ t
  | 0 => Nat.le_refl _
  | t + 1 => by have := fbB_le L lo t; rw [fbB_succ]; split <;> omega
theorem stand_any0 (m : Nat) : stand 0 m = 0 := by
  unfold stand
  have := cnt_flat 0 0 m (fun j _ _ => Nat.zero_testBit j)
  rw [Nat.zero_add] at this
  show ((cnt (0 : Int).toNat (m : Int).toNat : Nat) : Int) = 0
  rw [show (0 : Int).toNat = 0 from rfl, show ((m : Nat) : Int).toNat = m by omega, this]
  rfl
theorem stand_tc {L : List Bool} : ∀ (k m : Nat), k ≤ L.length → m ≤ 64 → stand (atG L k).last (m : Int) = (tcB L k m : Int)
  | _, 0, _, _ => by simp only [tcB]; rfl
  | 0, m + 1, _, _ => stand_any0 (m + 1)
  | k + 1, m + 1, hk, hm => by
    have ih := stand_tc (L := L) k m (by omega) (by omega)
    obtain ⟨_, h0, _⟩ := may_atG (L := L) k (by omega)
    rw [atG_succ (show k < L.length by omega)]
    show stand (lasG (atG L k).last (tr L k)) ((m + 1 : Nat) : Int) = _
    rw [stand_las _ _ m h0 (by omega), ih]
    rw [tcB_succ]
    split <;> omega
theorem tc_fb (L : List Bool) : ∀ (k m : Nat), tcB L k m = fbB L (k - m) (min m k)
  | k, 0 => by rw [Nat.zero_min]; cases k <;> rfl
  | 0, m + 1 => by rw [Nat.min_zero]; rfl
  | k + 1, m + 1 => by
    have ih := tc_fb L k m
    rw [show k + 1 - (m + 1) = k - m by omega, show min (m + 1) (k + 1) = min m k + 1 by omega]
    rw [tcB_succ, fbB_succ, ih, show k - m + min m k = k by omega]
    omega
/-- The share. -/
def quo (s m : Int) : Int := s * 65536 / m
theorem share_quo {s m : Int} (h0 : 0 ≤ s) (h1 : s ≤ m) (h2 : 1 ≤ m) (h3 : m ≤ 64) : fDiv (fOf s) (fOf m) = quo s m := by
  have e1 : fOf s = s * 65536 := of_id (by omega) (by omega)
  have e2 : fOf m = m * 65536 := of_id (by omega) (by omega)
  unfold fDiv
  rw [e1, e2, stF_id (show -70368744177664 ≤ s * 65536 by omega) (by omega), stF_id (show -70368744177664 ≤ m * 65536 by omega) (by omega)]
  unfold qdn
  rw [if_neg (by omega), Int.mul_ediv_mul_of_pos_left _ _ (by decide : (0 : Int) < 65536)]
  unfold quo
  have g0 : 0 ≤ s * 65536 / m := Int.ediv_nonneg (by omega) (by omega)
  have g1 : s * 65536 / m ≤ s * 65536 := Int.ediv_le_self _ (by omega)
  exact stF_id (by omega) (by omega)
theorem quo_facts {s m : Int} (h0 : 0 ≤ s) (h1 : s ≤ m) (h2 : 1 ≤ m) (h3 : m ≤ 64) : 0 ≤ quo s m ∧ quo s m ≤ 65536 ∧ quo s m * m ≤ s * 65536 ∧ s * 65536 < (quo s m + 1) * m ∧ 0 ≤ quo s m * m ∧ (quo s m + 1) * m ≤ 5000000 := by
  unfold quo
  have g0 : 0 ≤ s * 65536 / m := Int.ediv_nonneg (by omega) (by omega)
  have g1 : s * 65536 / m ≤ 65536 := by
    have : s * 65536 / m ≤ m * 65536 / m := Int.ediv_le_ediv (by omega) (by omega)
    rw [Int.mul_comm m, Int.mul_ediv_cancel _ (by omega)] at this
    exact this
  have g2 : s * 65536 / m * m ≤ s * 65536 := Int.ediv_mul_le _ (by omega)
  have g3 : s * 65536 < (s * 65536 / m + 1) * m := Int.lt_ediv_add_one_mul_self _ (by omega)
  have g4 : 0 ≤ s * 65536 / m * m := Int.mul_nonneg g0 (by omega)
  refine ⟨g0, g1, g2, g3, g4, ?_⟩
  rw [Int.add_mul]
  omega

end Go.Proofs.Ytkdfiaeghbkgnaa
