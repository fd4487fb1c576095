/-
  THE STATEMENTS' OWN turns AND ill (made by a program).
-/
import Derived.Test.YtommijjacknkpaaDoorEyeT
import Derived.DeepKeys
import Derived.Deep.QuietTactic
import Derived.BigQuiet
namespace Go.Proofs.YtommijjacknkpaaDoor
open Go.RowKit Go.Lib Go.Deep
set_option linter.unusedVariables false
set_option linter.unusedSimpArgs false

set_option maxRecDepth 100000 in
set_option maxHeartbeats 2000000 in
theorem turns_a {a : Option Addr} {n c : Nat} {L : List Bool} {w : World} (hA : Bs w a n L) (hn : n ≤ 1000) {k : Nat} (hk : k < n) (h63 : k < 63) : Calls Tryd.prog 36 #[.slice a n c, .int .i64 (k : Int)] w fun e w' => e = .returned (.int .i64 ((fbF (tB L) (0) (k + 1 - (0)) : Nat) : Int)) ∧ w' = w := by
  obtain ⟨b, off, ea, hb, _⟩ := hA.at_ hk
  have HC0 : Hid (∀ i, i < n → w.cell? ⟨b, off + i, none⟩ = some (.bool (tr L i))) := fun i hi => by
    obtain ⟨b', off', e', _, hc⟩ := hA.at_ hi
    rw [ea] at e'
    injection e' with e'
    injection e' with e1 e2
    subst e1 e2
    exact hc
  subst ea
  clear hA
  go_enter Tryd.func36, Tryd.ntmps36
  go_wp2
  go_loop [5, 6, 7] (fun nv iv _ => ∃ i t : Nat, iv = .int .i64 (i : Int) ∧ Hid (i = (0) + t) ∧ nv = .int .i64 ((fbF (tB L) (0) t : Nat) : Int) ∧ i ≤ k + 1) (fun _ iv _ => k + 1 - (intOf iv).toNat)
  case atStart => exact ⟨0, 0, by go_num, rfl, rfl, by omega⟩
  case round =>
    obtain ⟨i, t, rfl, HI, rfl, ht⟩ := hrel
    have hle := fbF_le (tB L) (0) t
    have htk : t ≤ 2000 := by have := HI.out; omega
    by_cases hlt : i ≤ k
    · have hsu := fbF_succ (tB L) (0) t
      rw [← HI.out] at hsu
      have x1 := HC0.out i (by omega)
      generalize fbF (tB L) (0) t = N at *
      generalize hN' : fbF (tB L) (0) (t + 1) = N' at *
      have HN' := Hid.mk' hN'
      clear hN'
      by_cases h0 : i = 0
      · subst h0
        rw [tB_zero] at hsu
        rw [Nat.add_zero] at x1
        cases hy : tr L 0
        all_goals rw [hy] at x1 hsu
        · have HC : Hid (N' = N) := by show N' = N; simpa using hsu
          clear hsu hy
          go_wp2
          exact ⟨⟨1, t + 1, by go_num, (show 1 = (0) + (t + 1) by have := HI.out; omega), by rw [HN'.out, HC.out], by omega⟩, by simp [intOf] <;> omega⟩
        · have HC : Hid (N' = N + 1) := by show N' = N + 1; simpa using hsu
          clear hsu hy
          go_wp2
          exact ⟨⟨1, t + 1, by go_num, (show 1 = (0) + (t + 1) by have := HI.out; omega), by rw [HN'.out, HC.out]; go_num, by omega⟩, by simp [intOf] <;> omega⟩
      · obtain ⟨j, hj1⟩ : ∃ j : Nat, (i : Int) - 1 = (j : Int) := ⟨i - 1, by omega⟩
        have hij : i = j + 1 := by omega
        have hT : tB L i = (tr L i != tr L j) := by rw [hij, tB_succ]
        rw [hT] at hsu
        have x2 := HC0.out j (by omega)
        have hjn : j < n := by omega
        have hpos : (0 : Int) < (i : Int) := by omega
        have hpos2 : 0 < i := by omega
        clear hij hT
        cases hy : tr L i <;> cases hp : tr L j
        all_goals rw [hy] at x1 hsu
        all_goals rw [hp] at x2 hsu
        · have HC : Hid (N' = N) := by show N' = N; simpa using hsu
          clear hsu hy hp
          go_wp2
          exact ⟨⟨i + 1, t + 1, by go_num, (show i + 1 = (0) + (t + 1) by have := HI.out; omega), by rw [HN'.out, HC.out], by omega⟩, by simp [intOf] <;> omega⟩
        · have HC : Hid (N' = N + 1) := by show N' = N + 1; simpa using hsu
          clear hsu hy hp
          go_wp2
          exact ⟨⟨i + 1, t + 1, by go_num, (show i + 1 = (0) + (t + 1) by have := HI.out; omega), by rw [HN'.out, HC.out]; go_num, by omega⟩, by simp [intOf] <;> omega⟩
        · have HC : Hid (N' = N + 1) := by show N' = N + 1; simpa using hsu
          clear hsu hy hp
          go_wp2
          exact ⟨⟨i + 1, t + 1, by go_num, (show i + 1 = (0) + (t + 1) by have := HI.out; omega), by rw [HN'.out, HC.out]; go_num, by omega⟩, by simp [intOf] <;> omega⟩
        · have HC : Hid (N' = N) := by show N' = N; simpa using hsu
          clear hsu hy hp
          go_wp2
          exact ⟨⟨i + 1, t + 1, by go_num, (show i + 1 = (0) + (t + 1) by have := HI.out; omega), by rw [HN'.out, HC.out], by omega⟩, by simp [intOf] <;> omega⟩
    · have HT2 : Hid (t = k + 1 - (0)) := by show t = _; have := HI.out; omega
      go_wp2
      go_ret
      exact ⟨by rw [HT2.out]; rfl, rfl⟩
set_option maxRecDepth 100000 in
set_option maxHeartbeats 2000000 in
theorem turns_b {a : Option Addr} {n c : Nat} {L : List Bool} {w : World} (hA : Bs w a n L) (hn : n ≤ 1000) (hk : 63 < n)  : Calls Tryd.prog 36 #[.slice a n c, .int .i64 (63 : Int)] w fun e w' => e = .returned (.int .i64 ((fbF (tB L) (0) (63 + 1 - (0)) : Nat) : Int)) ∧ w' = w := by
  obtain ⟨b, off, ea, hb, _⟩ := hA.at_ hk
  have HC0 : Hid (∀ i, i < n → w.cell? ⟨b, off + i, none⟩ = some (.bool (tr L i))) := fun i hi => by
    obtain ⟨b', off', e', _, hc⟩ := hA.at_ hi
    rw [ea] at e'
    injection e' with e'
    injection e' with e1 e2
    subst e1 e2
    exact hc
  subst ea
  clear hA
  go_enter Tryd.func36, Tryd.ntmps36
  go_wp2
  go_loop [5, 6, 7] (fun nv iv _ => ∃ i t : Nat, iv = .int .i64 (i : Int) ∧ Hid (i = (0) + t) ∧ nv = .int .i64 ((fbF (tB L) (0) t : Nat) : Int) ∧ i ≤ 63 + 1) (fun _ iv _ => 63 + 1 - (intOf iv).toNat)
  case atStart => exact ⟨0, 0, by go_num, rfl, rfl, by omega⟩
  case round =>
    obtain ⟨i, t, rfl, HI, rfl, ht⟩ := hrel
    have hle := fbF_le (tB L) (0) t
    have htk : t ≤ 2000 := by have := HI.out; omega
    by_cases hlt : i ≤ 63
    · have hsu := fbF_succ (tB L) (0) t
      rw [← HI.out] at hsu
      have x1 := HC0.out i (by omega)
      generalize fbF (tB L) (0) t = N at *
      generalize hN' : fbF (tB L) (0) (t + 1) = N' at *
      have HN' := Hid.mk' hN'
      clear hN'
      by_cases h0 : i = 0
      · subst h0
        rw [tB_zero] at hsu
        rw [Nat.add_zero] at x1
        cases hy : tr L 0
        all_goals rw [hy] at x1 hsu
        · have HC : Hid (N' = N) := by show N' = N; simpa using hsu
          clear hsu hy
          go_wp2
          exact ⟨⟨1, t + 1, by go_num, (show 1 = (0) + (t + 1) by have := HI.out; omega), by rw [HN'.out, HC.out], by omega⟩, by simp [intOf] <;> omega⟩
        · have HC : Hid (N' = N + 1) := by show N' = N + 1; simpa using hsu
          clear hsu hy
          go_wp2
          exact ⟨⟨1, t + 1, by go_num, (show 1 = (0) + (t + 1) by have := HI.out; omega), by rw [HN'.out, HC.out]; go_num, by omega⟩, by simp [intOf] <;> omega⟩
      · obtain ⟨j, hj1⟩ : ∃ j : Nat, (i : Int) - 1 = (j : Int) := ⟨i - 1, by omega⟩
        have hij : i = j + 1 := by omega
        have hT : tB L i = (tr L i != tr L j) := by rw [hij, tB_succ]
        rw [hT] at hsu
        have x2 := HC0.out j (by omega)
        have hjn : j < n := by omega
        have hpos : (0 : Int) < (i : Int) := by omega
        have hpos2 : 0 < i := by omega
        clear hij hT
        cases hy : tr L i <;> cases hp : tr L j
        all_goals rw [hy] at x1 hsu
        all_goals rw [hp] at x2 hsu
        · have HC : Hid (N' = N) := by show N' = N; simpa using hsu
          clear hsu hy hp
          go_wp2
          exact ⟨⟨i + 1, t + 1, by go_num, (show i + 1 = (0) + (t + 1) by have := HI.out; omega), by rw [HN'.out, HC.out], by omega⟩, by simp [intOf] <;> omega⟩
        · have HC : Hid (N' = N + 1) := by show N' = N + 1; simpa using hsu
          clear hsu hy hp
          go_wp2
          exact ⟨⟨i + 1, t + 1, by go_num, (show i + 1 = (0) + (t + 1) by have := HI.out; omega), by rw [HN'.out, HC.out]; go_num, by omega⟩, by simp [intOf] <;> omega⟩
        · have HC : Hid (N' = N + 1) := by show N' = N + 1; simpa using hsu
          clear hsu hy hp
          go_wp2
          exact ⟨⟨i + 1, t + 1, by go_num, (show i + 1 = (0) + (t + 1) by have := HI.out; omega), by rw [HN'.out, HC.out]; go_num, by omega⟩, by simp [intOf] <;> omega⟩
        · have HC : Hid (N' = N) := by show N' = N; simpa using hsu
          clear hsu hy hp
          go_wp2
          exact ⟨⟨i + 1, t + 1, by go_num, (show i + 1 = (0) + (t + 1) by have := HI.out; omega), by rw [HN'.out, HC.out], by omega⟩, by simp [intOf] <;> omega⟩
    · have HT2 : Hid (t = 63 + 1 - (0)) := by show t = _; have := HI.out; omega
      go_wp2
      go_ret
      exact ⟨by rw [HT2.out]; rfl, rfl⟩
set_option maxRecDepth 100000 in
set_option maxHeartbeats 2000000 in
theorem turns_c {a : Option Addr} {n c : Nat} {L : List Bool} {w : World} (hA : Bs w a n L) (hn : n ≤ 1000) {k : Nat} (hk : k < n) (h63 : 63 < k) : Calls Tryd.prog 36 #[.slice a n c, .int .i64 (k : Int)] w fun e w' => e = .returned (.int .i64 ((fbF (tB L) (k - 63) (k + 1 - (k - 63)) : Nat) : Int)) ∧ w' = w := by
  obtain ⟨b, off, ea, hb, _⟩ := hA.at_ hk
  have HC0 : Hid (∀ i, i < n → w.cell? ⟨b, off + i, none⟩ = some (.bool (tr L i))) := fun i hi => by
    obtain ⟨b', off', e', _, hc⟩ := hA.at_ hi
    rw [ea] at e'
    injection e' with e'
    injection e' with e1 e2
    subst e1 e2
    exact hc
  subst ea
  clear hA
  go_enter Tryd.func36, Tryd.ntmps36
  go_wp2
  go_loop [5, 6, 7] (fun nv iv _ => ∃ i t : Nat, iv = .int .i64 (i : Int) ∧ Hid (i = (k - 63) + t) ∧ nv = .int .i64 ((fbF (tB L) (k - 63) t : Nat) : Int) ∧ i ≤ k + 1) (fun _ iv _ => k + 1 - (intOf iv).toNat)
  case atStart => exact ⟨k - 63, 0, by go_num, rfl, rfl, by omega⟩
  case round =>
    obtain ⟨i, t, rfl, HI, rfl, ht⟩ := hrel
    have hle := fbF_le (tB L) (k - 63) t
    have htk : t ≤ 2000 := by have := HI.out; omega
    by_cases hlt : i ≤ k
    · have hsu := fbF_succ (tB L) (k - 63) t
      rw [← HI.out] at hsu
      have x1 := HC0.out i (by omega)
      generalize fbF (tB L) (k - 63) t = N at *
      generalize hN' : fbF (tB L) (k - 63) (t + 1) = N' at *
      have HN' := Hid.mk' hN'
      clear hN'
      by_cases h0 : i = 0
      · subst h0
        rw [tB_zero] at hsu
        rw [Nat.add_zero] at x1
        cases hy : tr L 0
        all_goals rw [hy] at x1 hsu
        · have HC : Hid (N' = N) := by show N' = N; simpa using hsu
          clear hsu hy
          go_wp2
          exact ⟨⟨1, t + 1, by go_num, (show 1 = (k - 63) + (t + 1) by have := HI.out; omega), by rw [HN'.out, HC.out], by omega⟩, by simp [intOf] <;> omega⟩
        · have HC : Hid (N' = N + 1) := by show N' = N + 1; simpa using hsu
          clear hsu hy
          go_wp2
          exact ⟨⟨1, t + 1, by go_num, (show 1 = (k - 63) + (t + 1) by have := HI.out; omega), by rw [HN'.out, HC.out]; go_num, by omega⟩, by simp [intOf] <;> omega⟩
      · obtain ⟨j, hj1⟩ : ∃ j : Nat, (i : Int) - 1 = (j : Int) := ⟨i - 1, by omega⟩
        have hij : i = j + 1 := by omega
        have hT : tB L i = (tr L i != tr L j) := by rw [hij, tB_succ]
        rw [hT] at hsu
        have x2 := HC0.out j (by omega)
        have hjn : j < n := by omega
        have hpos : (0 : Int) < (i : Int) := by omega
        have hpos2 : 0 < i := by omega
        clear hij hT
        cases hy : tr L i <;> cases hp : tr L j
        all_goals rw [hy] at x1 hsu
        all_goals rw [hp] at x2 hsu
        · have HC : Hid (N' = N) := by show N' = N; simpa using hsu
          clear hsu hy hp
          go_wp2
          exact ⟨⟨i + 1, t + 1, by go_num, (show i + 1 = (k - 63) + (t + 1) by have := HI.out; omega), by rw [HN'.out, HC.out], by omega⟩, by simp [intOf] <;> omega⟩
        · have HC : Hid (N' = N + 1) := by show N' = N + 1; simpa using hsu
          clear hsu hy hp
          go_wp2
          exact ⟨⟨i + 1, t + 1, by go_num, (show i + 1 = (k - 63) + (t + 1) by have := HI.out; omega), by rw [HN'.out, HC.out]; go_num, by omega⟩, by simp [intOf] <;> omega⟩
        · have HC : Hid (N' = N + 1) := by show N' = N + 1; simpa using hsu
          clear hsu hy hp
          go_wp2
          exact ⟨⟨i + 1, t + 1, by go_num, (show i + 1 = (k - 63) + (t + 1) by have := HI.out; omega), by rw [HN'.out, HC.out]; go_num, by omega⟩, by simp [intOf] <;> omega⟩
        · have HC : Hid (N' = N) := by show N' = N; simpa using hsu
          clear hsu hy hp
          go_wp2
          exact ⟨⟨i + 1, t + 1, by go_num, (show i + 1 = (k - 63) + (t + 1) by have := HI.out; omega), by rw [HN'.out, HC.out], by omega⟩, by simp [intOf] <;> omega⟩
    · have HT2 : Hid (t = k + 1 - (k - 63)) := by show t = _; have := HI.out; omega
      go_wp2
      go_ret
      exact ⟨by rw [HT2.out]; rfl, rfl⟩
theorem turns_any {a : Option Addr} {n c : Nat} {L : List Bool} {w : World} (hA : Bs w a n L) (hn : n ≤ 1000) {k : Nat} (hk : k < n) : Calls Tryd.prog 36 #[.slice a n c, .int .i64 (k : Int)] w fun e w' => e = .returned (.int .i64 ((tuN L k : Nat) : Int)) ∧ w' = w := by
  by_cases h : k < 63
  · have hx := turns_a (c := c) hA hn hk h
    rw [show fbF (tB L) 0 (k + 1 - 0) = tuN L k by unfold tuN; rw [show k - 63 = 0 by omega, show min 63 k + 1 = k + 1 - 0 by omega]] at hx
    exact hx
  by_cases h2 : k = 63
  · subst h2
    have hx := turns_b (c := c) hA hn hk
    rw [show fbF (tB L) 0 (63 + 1 - 0) = tuN L 63 from rfl] at hx
    exact hx
  · have hx := turns_c (c := c) hA hn hk (by omega)
    rw [show fbF (tB L) (k - 63) (k + 1 - (k - 63)) = tuN L k by unfold tuN; rw [show min 63 k + 1 = k + 1 - (k - 63) by omega]] at hx
    exact hx

end Go.Proofs.YtommijjacknkpaaDoor
