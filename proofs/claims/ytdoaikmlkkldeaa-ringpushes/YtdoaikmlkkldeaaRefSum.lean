/-
  THE CONTRACT of the document's sum (stoplineref02.Sum): thousands of millions, and what is left of them, by themselves.
-/
import Derived.Test.YtdoaikmlkkldeaaRefs
namespace Go.Proofs.Ytdoaikmlkkldeaa
open Go.RowKit Go.Lib Go.Deep
set_option linter.unusedVariables false
set_option linter.unusedSimpArgs false

/-- Go's quotient by 2^31, and what is left. -/
def qt (x : Int) : Int := x.tdiv 2147483648
def lf (x : Int) : Int := x.tmod 2147483648
theorem qt_lf (x : Int) : qt x * 2147483648 + lf x = x := by unfold qt lf; have := Int.mul_tdiv_add_tmod x 2147483648; omega
theorem lf_bd (x : Int) : -2147483648 < lf x ∧ lf x < 2147483648 := by
  unfold lf
  exact ⟨Int.lt_tmod_of_pos x (by decide), Int.tmod_lt_of_pos x (by decide)⟩
theorem lf_eq (x : Int) : lf x = x - qt x * 2147483648 := by have := qt_lf x; omega
theorem qt_bd (x : Int) (h : -9223372036854775808 ≤ x ∧ x ≤ 9223372036854775807) : -4294967297 ≤ qt x ∧ qt x ≤ 4294967297 := by
  have := qt_lf x
  have := lf_bd x
  omega
theorem parts (g : Nat → Int) (k : Nat) : sm (fun j => qt (g j)) k * 2147483648 + sm (fun j => lf (g j)) k = sm g k := by
  induction k with
  | zero => rfl
  | succ k ih => rw [sm_succ, sm_succ, sm_succ]; have := qt_lf (g k); omega
/-- What is left is reckoned by way of a sum that may go round: it comes back. -/
theorem left_round (lo x : Int) (h1 : -1000000000000 ≤ lo) (h2 : lo ≤ 1000000000000) : wrap64 (wrap64 (lo + x) - wrap64 (qt x * 2147483648)) = lo + lf x := by
  have := lf_bd x
  have e : lf x = x - qt x * 2147483648 := lf_eq x
  unfold wrap64
  omega

set_option maxHeartbeats 1000000 in
theorem rsum_src {a : Option Addr} {c N : Nat} {L : List Int} {w : World} (h : Src w a c L) (h1 : 1 ≤ N) (h2 : N ≤ 1024) (h4 : L.length ≤ 200) (k0 : Nat) (hk0 : k0 = L.length) (hL : ∀ j, -9223372036854775808 ≤ (lastN N L).getD j 0 ∧ (lastN N L).getD j 0 ≤ 9223372036854775807) :
    Calls Try.prog 14 #[.agg #[.int .i64 N, .slice a k0 c]] w fun e w' => e = .returned (.int .i64 (stopS (lsum (lastN N L)))) ∧ w'.heap.size = w.heap.size + 2 ∧ Kept w w' none := by
  obtain ⟨q, hq⟩ : ∃ q, q = min L.length N := ⟨_, rfl⟩
  have hq2 : q ≤ 200 := by omega
  have HQ : Hid (q = min L.length N) := hq
  have HK : Hid (k0 = L.length) := hk0
  clear hq hk0
  have hA := h.keptN (Kept.alloc w #[.int .i64 N, .slice a k0 c] 28 none)
  obtain ⟨g, hg⟩ : ∃ g : Nat → Int, g = fun j => (lastN N L).getD j 0 := ⟨_, rfl⟩
  have HR : Hid (lsum (lastN N L) = sm g q) := by show _ = _; rw [hg, HQ.out, ← lastN_length N L]; rfl
  have HGB : Hid (∀ j, -9223372036854775808 ≤ g j ∧ g j ≤ 9223372036854775807) := fun j => by rw [hg]; exact hL j
  have HG : Hid (g = fun j => (lastN N L).getD j 0) := hg
  clear hg hL
  have htd : ∀ x : Int, x.tdiv 2147483648 = qt x := fun _ => rfl
  have htm : ∀ x : Int, x.tmod 2147483648 = lf x := fun _ => rfl
  go_enter Try.func14, Try.ntmps14
  go_wp2_with (go_at_call 13; refine (rlast_src hA h1 h2 h4 k0 q HK.out HQ.out).mono ?_; rintro e w1 ⟨a', c', rfl, hrd, hs, hkp⟩; rw [← HG.out] at hrd)
  have HRd : Hid (Rd w1 a' q g) := hrd
  have HE : Hid (w1.heap.size = w.heap.size + 2 ∧ Kept w w1 none) := ⟨by rw [hs]; simp, (Kept.alloc _ _ _ _).trans hkp⟩
  clear hrd hs hkp hA
  go_loop [4, 5, 6] (fun u v i => ∃ k : Nat, k ≤ q ∧ i = .int .i64 k ∧ u = .int .i64 (sm (fun j => qt (g j)) k) ∧ v = .int .i64 (sm (fun j => lf (g j)) k)) (fun _ _ i => q - (intOf i).toNat)
  case atStart => exact ⟨0, Nat.zero_le _, rfl, rfl, rfl⟩
  case round =>
    obtain ⟨k, hk, rfl, rfl, rfl⟩ := hrel
    have hb1 := sm_bound (fun j => qt (g j)) k (-4294967297) 4294967297 (fun j => qt_bd _ (HGB.out j))
    have hb2 := sm_bound (fun j => lf (g j)) k (-2147483648) 2147483648 (fun j => by have := lf_bd (g j); omega)
    by_cases hlt : k < q
    · have hx := HGB.out k
      obtain ⟨b, o, rfl, _, hc⟩ := HRd.out (by omega)
      have hcell := hc k hlt
      have HS1 : Hid (sm (fun j => qt (g j)) (k + 1) = sm (fun j => qt (g j)) k + qt (g k)) := sm_succ _ _
      have HS2 : Hid (sm (fun j => lf (g j)) (k + 1) = sm (fun j => lf (g j)) k + lf (g k)) := sm_succ _ _
      clear hc
      obtain ⟨x, hxe⟩ : ∃ x, x = g k := ⟨_, rfl⟩
      obtain ⟨hi, hhi⟩ : ∃ hi, hi = sm (fun j => qt (g j)) k := ⟨_, rfl⟩
      obtain ⟨lo, hlo⟩ : ∃ lo, lo = sm (fun j => lf (g j)) k := ⟨_, rfl⟩
      rw [← hxe] at hcell HS1 HS2 hx
      rw [← hhi] at hb1 HS1 ⊢
      rw [← hlo] at hb2 HS2 ⊢
      clear hxe hhi hlo
      have hqb := qt_bd x hx
      go_wp2
      go_round
      case rel => exact ⟨k + 1, by omega, by go_num, by rw [HS1.out], by rw [HS2.out, ← left_round lo x (by omega) (by omega)]⟩
      case measure => simp [intOf]; omega
    · have hkq : k = q := by omega
      subst hkq
      obtain ⟨hi, hhi⟩ : ∃ hi, hi = sm (fun j => qt (g j)) k := ⟨_, rfl⟩
      obtain ⟨lo, hlo⟩ : ∃ lo, lo = sm (fun j => lf (g j)) k := ⟨_, rfl⟩
      have HV : Hid (hi * 2147483648 + lo = sm g k) := by rw [hhi, hlo]; exact parts g k
      rw [← hhi] at hb1 ⊢
      rw [← hlo] at hb2 ⊢
      have hl1 := qt_lf lo
      have hl2 := lf_bd lo
      clear hhi hlo
      go_wp2
      all_goals go_ret
      all_goals
        refine ⟨ret_int ?_, HE.out⟩
        rw [HR.out, ← HV.out]
        unfold stopS
        repeat' split
        all_goals omega

end Go.Proofs.Ytdoaikmlkkldeaa
