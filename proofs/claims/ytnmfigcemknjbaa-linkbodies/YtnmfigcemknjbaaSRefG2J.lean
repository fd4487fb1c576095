/-
  Texts joined: some of those that the proofs of this seat stand on.
-/
import Derived.Test.YtnmfigcemknjbaaWorld
import Derived.Test.YtnmfigcemknjbaaSRefWJ
import Derived.Test.YtnmfigcemknjbaaSFitsJ
import Derived.Deep.RegionHeld3
import Derived.Test.YtnmfigcemknjbaaMaths
/-
  Of the text RefG2: what this stage needs (culled by a program).
-/
namespace Go.Proofs.Ytnmfigcemknjbaa
open Go.RowKit Go.Lib Go.Deep
set_option linter.unusedVariables false
set_option linter.unusedSimpArgs false

def Rg (A : Act) (W : World) (e : Exit) (a : Act) (w : World) : Prop := match e with
  | .normal => a = A ∧ Kept W w none
  | _ => False
theorem Rg.out {A : Act} {W w : World} {e : Exit} {a : Act} (h : Rg A W e a w) : e = .normal ∧ a = A ∧ Kept W w none := by
  cases e with
  | normal => exact ⟨rfl, h.1, h.2⟩
  | _ => exact h.elim
end Go.Proofs.Ytnmfigcemknjbaa

/-
  Of the text SameA: what this stage needs (culled by a program).
-/
namespace Go.Proofs.Ytnmfigcemknjbaa
open Go.RowKit Go.Lib Go.Deep
set_option linter.unusedVariables false
set_option linter.unusedSimpArgs false

theorem rsame_ints {a a' : Option Addr} {n c c' : Nat} {l : List Int} {w : World} (h1 : Ints w a n c l) (h2 : Ints w a' n c' l) : Calls Try.prog 59 #[.slice a n c, .slice a' n c'] w fun e w' => e = .returned (.bool true) ∧ Kept w w' none := by
  have H1 := Hid.mk' h1
  have H2 := Hid.mk' h2
  have hn : n ≤ 9223372036854775807 := by have := h1.cap.room; have := h1.cap.max; omega
  clear h1 h2
  go_enter Try.func59, Try.ntmps59
  go_wp2
  go_loopw [5] (fun i wr => ∃ k : Nat, k ≤ n ∧ i = .int .i64 k ∧ ∃ m, wr = w.drewN m) (fun i _ => n - (intOf i).toNat)
  case atStart => exact ⟨0, Nat.zero_le _, rfl, 0, rfl⟩
  case round =>
    obtain ⟨k, hk, rfl, m, rfl⟩ := hrel
    by_cases hlt : k < n
    · obtain ⟨b, o, rfl, _, hc⟩ := H1.out.at_ (by omega)
      obtain ⟨b', o', rfl, _, hc'⟩ := H2.out.at_ (by omega)
      have hx := hc k hlt
      have hx' := hc' k hlt
      obtain ⟨x, hxe⟩ : ∃ x, x = l.getD k 0 := ⟨_, rfl⟩
      rw [← hxe] at hx hx'
      have hne : (x != x) = false := by simp
      clear hc hc' hxe
      go_wp2
      go_quiet (fail)
      go_wp2
      go_roundw
      case rel => exact ⟨k + 1, by omega, by go_num, _, rfl⟩
      case measure => simp [intOf]; omega
    · go_wp2
      go_ret
      exact ⟨rfl, Kept.drewN _ _ _⟩
set_option maxRecDepth 100000 in
theorem rsamePlan_yes {a a' : Option Addr} {c c' : Nat} {p : Pl} {w : World} (h1 : Ints w a p.splits.length c p.splits) (h2 : Ints w a' p.splits.length c' p.splits) : Calls Try.prog 52 #[planV p a c, planV p a' c'] w fun e w' => e = .returned (.bool true) ∧ Kept w w' none := by
  have k1 : Kept w ((w.alloc (.cells #[.int .i64 p.cycle, .int .i64 p.offset, .slice a p.splits.length c] 94)).alloc (.cells #[.int .i64 p.cycle, .int .i64 p.offset, .slice a' p.splits.length c'] 94)) none := (Kept.alloc _ _ _ _ _).tr (Kept.alloc _ _ _ _ _)
  have H1 := Hid.mk' (h1.kept k1)
  have H2 := Hid.mk' (h2.kept k1)
  have HK := Hid.mk' k1
  clear h1 h2 k1
  go_enter Try.func52, Try.ntmps52
  go_wp2_with (go_at_call 59; refine (rsame_ints H1.out H2.out).mono ?_; rintro e w2 ⟨rfl, hk2⟩)
  go_ret
  exact ⟨rfl, HK.out.tr hk2⟩
end Go.Proofs.Ytnmfigcemknjbaa

