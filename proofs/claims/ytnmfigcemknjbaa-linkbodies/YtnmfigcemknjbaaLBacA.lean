/-
  TWO COMMANDS, TWO REPORTS that are the same.
-/
import Derived.Test.YtnmfigcemknjbaaLnkW
import Derived.Test.YtnmfigcemknjbaaSRefG2J
import Derived.Test.YtnmfigcemknjbaaLnkD
namespace Go.Proofs.Ytnmfigcemknjbaa
open Go.RowKit Go.Lib Go.Deep
set_option linter.unusedVariables false
set_option linter.unusedSimpArgs false

theorem rsameC_yes {c : Cm} {w : World} {a a' : Option Addr} {k k' : Nat} (h1 : Cok w c a k) (h2 : Cok w c a' k') : Calls Try.prog 28 #[cmV c a k, cmV c a' k'] w fun e w' => e = .returned (.bool true) ∧ Kept w w' none := by
  have hkk : Kept w ((w.alloc (.cells (cmC4 c a k) 39)).alloc (.cells (cmC4 c a' k') 39)) none := (Kept.alloc _ _ _ _ _).tr (Kept.alloc _ _ _ _ _)
  have H1 := Hid.mk' (h1.kept hkk)
  have H2 := Hid.mk' (h2.kept hkk)
  have HK := Hid.mk' hkk
  clear h1 h2 hkk
  go_enter Try.func28, Try.ntmps28
  go_wp2_with (go_at_call 52; refine (rsamePlan_yes (p := c.plan) H1.out.ints H2.out.ints).mono ?_; rintro e w3 ⟨rfl, hk3⟩)
  go_ret
  exact ⟨rfl, HK.out.tr hk3⟩
set_option maxRecDepth 100000 in
set_option maxHeartbeats 4000000 in
theorem rsameR_yes {r : Rp} {w : World} {a a' : Option Addr} {k k' : Nat} (h1 : Rok w r a k) (h2 : Rok w r a' k') : Calls Try.prog 29 #[rpV r a k, rpV r a' k'] w fun e w' => e = .returned (.bool true) ∧ Kept w w' none := by
  have hkk : Kept w ((w.alloc (.cells (rpC4 r a k) 45)).alloc (.cells (rpC4 r a' k') 45)) none := (Kept.alloc _ _ _ _ _).tr (Kept.alloc _ _ _ _ _)
  have H1 := Hid.mk' (h1.kept hkk)
  have H2 := Hid.mk' (h2.kept hkk)
  have hmx : r.loads.length ≤ 9223372036854775807 := by have := h1.ints.cap.room; have := h1.ints.cap.max; omega
  have A1 := (c4_alloc w (.int .i64 r.site) (.int .u8 (r.mode : Int)) (.int .i64 r.tick) (.slice a r.loads.length k) 45).kept (Kept.alloc _ (rpC4 r a' k') 45 (0, 0) none) (by simp)
  have A2 := c4_alloc (w.alloc (.cells (rpC4 r a k) 45)) (.int .i64 r.site) (.int .u8 (r.mode : Int)) (.int .i64 r.tick) (.slice a' r.loads.length k') 45
  rw [World.size_alloc] at A2
  have HK := Hid.mk' hkk
  clear h1 h2 hkk
  go_enter Try.func29, Try.ntmps29
  have d2 : ((r.mode : Int) != (r.mode : Int)) = false := by simp
  go_wp2
  generalize hW : (w.alloc (.cells (rpC4 r a k) 45)).alloc (.cells (rpC4 r a' k') 45) = W at *
  clear hW
  obtain ⟨a0, a1, a2, a3⟩ := A1
  obtain ⟨b0, b1, b2, b3⟩ := A2
  go_loopw [5] (fun i wr => ∃ j : Nat, j ≤ r.loads.length ∧ i = .int .i64 j ∧ ∃ q, wr = W.drewN q) (fun i _ => r.loads.length - (intOf i).toNat)
  case atStart => exact ⟨0, Nat.zero_le _, rfl, 0, rfl⟩
  case round =>
    obtain ⟨j, hj, rfl, q, rfl⟩ := hrel
    by_cases hlt : j < r.loads.length
    · obtain ⟨b, off, e1, hb, hc⟩ := H1.out.ints.at_ (by omega)
      obtain ⟨b', off', e2, hb', hc'⟩ := H2.out.ints.at_ (by omega)
      have p1 := hc j hlt
      have p2 := hc' j hlt
      subst e1 e2
      have g1 : (0 : Int) ≤ (j : Int) := by omega
      have g2 : (j : Int) < (r.loads.length : Int) := by omega
      clear hc hc' hb hb'
      generalize r.loads.getD j 0 = x at *
      have d1 : (x != x) = false := by simp
      go_wp2
      go_quiet (fail)
      go_wp2
      go_roundw
      case rel => exact ⟨j + 1, by omega, by go_num, _, rfl⟩
      case measure => simp [intOf]; omega
    · go_wp2
      go_ret
      exact ⟨rfl, HK.out.tr (Kept.drewN _ _ _)⟩

end Go.Proofs.Ytnmfigcemknjbaa
