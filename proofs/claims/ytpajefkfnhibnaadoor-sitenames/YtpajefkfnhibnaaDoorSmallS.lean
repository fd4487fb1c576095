/-
  THE CONTRACT of small, of the statements: it answers, whatever the site.
-/
import Derived.Test.YtpajefkfnhibnaaDoorLay
namespace Go.Proofs.YtpajefkfnhibnaaDoor
open Go.RowKit Go.Lib Go.Deep
set_option linter.unusedVariables false
set_option linter.unusedSimpArgs false

set_option maxRecDepth 100000 in
set_option maxHeartbeats 2000000 in
theorem smallS_any {X : Sa} {S : St} {w : World} (h : Sat w X S) : Calls Tryd.prog 36 #[siteV X S] w fun e w' => ∃ z : Int, e = .returned (.bool (decide (z < 150))) ∧ Kept w w' none := by
  have hkA : Kept w (w.alloc (.cells #[.int .i64 S.id, .slice X.g S.groups.length X.gc, .slice X.a S.apart.length X.ac, .slice X.b S.between.length X.bc, .slice X.p S.phases.length X.pc, .slice X.e S.eyes.length X.ec, .int .i64 S.watch, .int .i64 S.feed, .int .i64 S.heal, .int .i64 S.low, .int .i64 S.high, .slice X.l S.plans.length X.lc] 29)) none := Kept.alloc _ _ _ _ _
  have hsb := sbox_alloc h 29
  have HSB := Hid.mk' hsb
  have HK := Hid.mk' hkA
  have hb : S.between.length ≤ 9223372036854775807 := by have := h.b.cap.room; have := h.b.cap.max; omega
  have hl : S.plans.length ≤ 9223372036854775807 := by have := h.l.cap.room; have := h.l.cap.max; omega
  clear h hkA hsb
  go_enter Tryd.func36, Tryd.ntmps36
  go_wp2
  generalize w.alloc (.cells #[.int .i64 S.id, .slice X.g S.groups.length X.gc, .slice X.a S.apart.length X.ac, .slice X.b S.between.length X.bc, .slice X.p S.phases.length X.pc, .slice X.e S.eyes.length X.ec, .int .i64 S.watch, .int .i64 S.feed, .int .i64 S.heal, .int .i64 S.low, .int .i64 S.high, .slice X.l S.plans.length X.lc] 29) = W at *
  have c3 := HSB.out.c3
  have c11 := HSB.out.c11
  go_loop [3, 4] (fun n i => ∃ (k : Nat) (z : Int), k ≤ S.between.length ∧ i = .int .i64 k ∧ n = .int .i64 z) (fun _ i => S.between.length - (intOf i).toNat)
  case atStart => exact ⟨0, _, by omega, rfl, rfl⟩
  case round =>
    obtain ⟨k, z, hk, rfl, rfl⟩ := hrel
    by_cases hc : k < S.between.length ∧ z < 1000
    · obtain ⟨hlt, hz⟩ := hc
      obtain ⟨b, off, a', c', e, kb, hI⟩ := HSB.out.sat.b.at_ hlt
      have hN : (S.between.getD k []).length ≤ 9223372036854775807 := by have := hI.cap.room; have := hI.cap.max; omega
      rw [e] at c3 ⊢
      clear e hI
      generalize (S.between.getD k []).length = N at *
      go_wp2
      exact ⟨⟨k + 1, _, by omega, by go_num, rfl⟩, by simp [intOf]; omega⟩
    · by_cases hlt : k < S.between.length
      · have hz : ¬ z < 1000 := fun hz => hc ⟨hlt, hz⟩
        clear hc
        go_wp2
        go_loop [3, 5] (fun n i => ∃ (k : Nat) (z : Int), k ≤ S.plans.length ∧ i = .int .i64 k ∧ n = .int .i64 z) (fun _ i => S.plans.length - (intOf i).toNat)
        case atStart => exact ⟨0, _, by omega, rfl, rfl⟩
        case round =>
          clear hlt
          obtain ⟨k, z, hk, rfl, rfl⟩ := hrel
          by_cases hc : k < S.plans.length ∧ z < 1000
          · obtain ⟨hlt, hz⟩ := hc
            obtain ⟨b, off, a', c', e, _, _, kb, hI⟩ := HSB.out.sat.l.at_ hlt
            have hN : (S.plans.getD k q0).splits.length ≤ 9223372036854775807 := by have := hI.cap.room; have := hI.cap.max; omega
            rw [e] at c11 ⊢
            clear e hI
            generalize (S.plans.getD k q0).splits.length = N at *
            go_wp2
            exact ⟨⟨k + 1, _, by omega, by go_num, rfl⟩, by simp [intOf]; omega⟩
          · by_cases hlt : k < S.plans.length
            · have hz : ¬ z < 1000 := fun hz => hc ⟨hlt, hz⟩
              clear hc
              go_wp2
              go_ret
              exact ⟨⟨z, rfl⟩, HK.out⟩
            · clear hc
              go_wp2
              go_ret
              exact ⟨⟨z, rfl⟩, HK.out⟩
      · clear hc
        go_wp2
        go_loop [3, 5] (fun n i => ∃ (k : Nat) (z : Int), k ≤ S.plans.length ∧ i = .int .i64 k ∧ n = .int .i64 z) (fun _ i => S.plans.length - (intOf i).toNat)
        case atStart => exact ⟨0, _, by omega, rfl, rfl⟩
        case round =>
          clear hlt
          obtain ⟨k, z, hk, rfl, rfl⟩ := hrel
          by_cases hc : k < S.plans.length ∧ z < 1000
          · obtain ⟨hlt, hz⟩ := hc
            obtain ⟨b, off, a', c', e, _, _, kb, hI⟩ := HSB.out.sat.l.at_ hlt
            have hN : (S.plans.getD k q0).splits.length ≤ 9223372036854775807 := by have := hI.cap.room; have := hI.cap.max; omega
            rw [e] at c11 ⊢
            clear e hI
            generalize (S.plans.getD k q0).splits.length = N at *
            go_wp2
            exact ⟨⟨k + 1, _, by omega, by go_num, rfl⟩, by simp [intOf]; omega⟩
          · by_cases hlt : k < S.plans.length
            · have hz : ¬ z < 1000 := fun hz => hc ⟨hlt, hz⟩
              clear hc
              go_wp2
              go_ret
              exact ⟨⟨z, rfl⟩, HK.out⟩
            · clear hc
              go_wp2
              go_ret
              exact ⟨⟨z, rfl⟩, HK.out⟩

end Go.Proofs.YtpajefkfnhibnaaDoor
