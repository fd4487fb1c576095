import Derived.Test.YtfhmfanmnhclfaaDoorP25
namespace Go.Proofs.YtfhmfanmnhclfaaDoor
set_option linter.unusedVariables false
set_option linter.unusedSimpArgs false
open Go.RowKit Go.Lib Go.Deep

set_option maxRecDepth 100000 in
set_option maxHeartbeats 2000000 in
theorem rsame17_yes {w : World} {P : Pl} {a a' : Option Addr} {c c' : Nat} (h1 : Ints w a P.splits.length c P.splits) (h2 : Ints w a' P.splits.length c' P.splits) : Calls Tryd.prog 18 #[planV P a c, planV P a' c'] w fun e w' => e = .returned (.bool true) ∧ Kept w w' none := by
  have k1 : Kept w ((w.alloc (.cells #[.int .i64 P.cycle, .int .i64 P.offset, .slice a P.splits.length c] 24)).alloc (.cells #[.int .i64 P.cycle, .int .i64 P.offset, .slice a' P.splits.length c'] 24)) none := (Kept.alloc _ _ _ _ _).tr (Kept.alloc _ _ _ _ _)
  have b1 := (box_alloc w (.int .i64 P.cycle) (.int .i64 P.offset) (.slice a P.splits.length c) 24).kept (Kept.alloc _ #[.int .i64 P.cycle, .int .i64 P.offset, .slice a' P.splits.length c'] 24 (0, 0) none)
  have b2 := box_alloc (w.alloc (.cells #[.int .i64 P.cycle, .int .i64 P.offset, .slice a P.splits.length c] 24)) (.int .i64 P.cycle) (.int .i64 P.offset) (.slice a' P.splits.length c') 24
  rw [World.size_alloc] at b2
  have hn : P.splits.length ≤ 9223372036854775807 := by have := h1.cap.room; have := h1.cap.max; omega
  obtain ⟨WA, hWA⟩ : ∃ WA, ((w.alloc (.cells #[.int .i64 P.cycle, .int .i64 P.offset, .slice a P.splits.length c] 24)).alloc (.cells #[.int .i64 P.cycle, .int .i64 P.offset, .slice a' P.splits.length c'] 24)) = WA := ⟨_, rfl⟩
  have H1 := Hid.mk' (h1.kept k1)
  have H2 := Hid.mk' (h2.kept k1)
  rw [hWA] at k1 b1 b2 H1 H2
  have HK := Hid.mk' k1
  have x0 := b1.c0
  have x1 := b1.c1
  have x2 := b1.c2
  have y0 := b2.c0
  have y1 := b2.c1
  have y2 := b2.c2
  clear h1 h2 k1 b1 b2
  go_enter Tryd.func18, Tryd.ntmps18
  go_wp2_with (rw [hWA])
  go_loopw [5] (fun i wr => ∃ k : Nat, k ≤ P.splits.length ∧ i = .int .i64 k ∧ ∃ m, wr = WA.drewN m) (fun i _ => P.splits.length - (intOf i).toNat)
  case atStart => exact ⟨0, Nat.zero_le _, rfl, 0, rfl⟩
  case round =>
    obtain ⟨k, hk, rfl, m, rfl⟩ := hrel
    by_cases hlt : k < P.splits.length
    · obtain ⟨b, o, ea, _, hc⟩ := H1.out.at_ (by omega)
      obtain ⟨b', o', ea', _, hc'⟩ := H2.out.at_ (by omega)
      have hx := hc k hlt
      have hx' := hc' k hlt
      obtain ⟨x, hxe⟩ : ∃ x, x = P.splits.getD k 0 := ⟨_, rfl⟩
      rw [← hxe] at hx hx'
      rw [ea] at x2
      rw [ea'] at y2
      have hne : (x != x) = false := by simp
      clear hc hc' hxe
      go_wp2
      go_quiet (fail)
      go_wp2
      go_roundw
      case rel => exact ⟨k + 1, by omega, by go_num, _, rfl⟩
      case measure => simp [intOf]; omega
    · go_wp2
      go_ret
      exact ⟨rfl, HK.out.tr (Kept.drewN _ _ _)⟩


theorem ints_nil (w : World) : Ints w none 0 0 [] := ⟨⟨fun h => absurd h (by omega)⟩, rfl, ⟨fun _ => ⟨rfl, rfl⟩, Nat.le_refl _, by omega⟩, fun x hx => by cases hx⟩
end Go.Proofs.YtfhmfanmnhclfaaDoor
