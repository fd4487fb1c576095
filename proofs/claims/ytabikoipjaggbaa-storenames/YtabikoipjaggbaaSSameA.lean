/-
  Of the text SameA: what this stage needs (culled by a program).
-/
import Derived.Test.YtabikoipjaggbaaWorld
import Derived.Test.YtabikoipjaggbaaMaths
import Derived.Test.YtabikoipjaggbaaSGrGJ
import Derived.Test.YtabikoipjaggbaaSFitsJ
namespace Go.Proofs.Ytabikoipjaggbaa
open Go.RowKit Go.Lib Go.Deep
set_option linter.unusedVariables false
set_option linter.unusedSimpArgs false

theorem rsame_ints {a a' : Option Addr} {n c c' : Nat} {l : List Int} {w : World} (h1 : Ints w a n c l) (h2 : Ints w a' n c' l) : Calls Try.prog 66 #[.slice a n c, .slice a' n c'] w fun e w' => e = .returned (.bool true) ∧ Kept w w' none := by
  have H1 := Hid.mk' h1
  have H2 := Hid.mk' h2
  have hn : n ≤ 9223372036854775807 := by have := h1.cap.room; have := h1.cap.max; omega
  clear h1 h2
  go_enter Try.func66, Try.ntmps66
  go_wp2
  go_loopw [5] (fun i wr => ∃ k : Nat, k ≤ n ∧ i = .int .i64 k ∧ ∃ m, wr = w.drewN m) (fun i _ => n - (intOf i).toNat)
  case atStart => exact ⟨0, Nat.zero_le _, rfl, 0, rfl⟩
  case round =>
    obtain ⟨k, hk, rfl, m, rfl⟩ := hrel
    by_cases hlt : k < n
    · obtain ⟨b, o, rfl, _, hc⟩ := H1.out.at_ (by omega)
      obtain ⟨b', o', rfl, _, hc'⟩ := H2.out.at_ (by omega)
      have hx := hc k hlt
      have hx' := hc' k hlt
      obtain ⟨x, hxe⟩ : ∃ x, x = l.getD k 0 := ⟨_, rfl⟩
      rw [← hxe] at hx hx'
      have hne : (x != x) = false := by simp
      clear hc hc' hxe
      go_wp2
      go_quiet (fail)
      go_wp2
      go_roundw
      case rel => exact ⟨k + 1, by omega, by go_num, _, rfl⟩
      case measure => simp [intOf]; omega
    · go_wp2
      go_ret
      exact ⟨rfl, Kept.drewN _ _ _⟩
set_option maxRecDepth 100000 in
theorem rsamePlan_yes {a a' : Option Addr} {c c' : Nat} {p : Pl} {w : World} (h1 : Ints w a p.splits.length c p.splits) (h2 : Ints w a' p.splits.length c' p.splits) : Calls Try.prog 41 #[planV p a c, planV p a' c'] w fun e w' => e = .returned (.bool true) ∧ Kept w w' none := by
  have k1 : Kept w ((w.alloc (.cells #[.int .i64 p.cycle, .int .i64 p.offset, .slice a p.splits.length c] 44)).alloc (.cells #[.int .i64 p.cycle, .int .i64 p.offset, .slice a' p.splits.length c'] 44)) none := (Kept.alloc _ _ _ _ _).tr (Kept.alloc _ _ _ _ _)
  have H1 := Hid.mk' (h1.kept k1)
  have H2 := Hid.mk' (h2.kept k1)
  have HK := Hid.mk' k1
  clear h1 h2 k1
  go_enter Try.func41, Try.ntmps41
  go_wp2_with (go_at_call 66; refine (rsame_ints H1.out H2.out).mono ?_; rintro e w2 ⟨rfl, hk2⟩)
  go_ret
  exact ⟨rfl, HK.out.tr hk2⟩
set_option maxRecDepth 100000 in
set_option maxHeartbeats 2000000 in
theorem rsamePlans_yes {a a' : Option Addr} {n c c' : Nat} {l : List Pl} {w : World} (h1 : Plans w a n c l) (h2 : Plans w a' n c' l) : Calls Try.prog 21 #[.slice a n c, .slice a' n c'] w fun e w' => e = .returned (.bool true) ∧ Kept w w' none := by
  have H1 := Hid.mk' h1
  have H2 := Hid.mk' h2
  have hn : n ≤ 9223372036854775807 := by have := h1.cap.room; have := h1.cap.max; omega
  clear h1 h2
  go_enter Try.func21, Try.ntmps21
  go_wp2
  go_loopw [5] (fun i wr => ∃ k : Nat, k ≤ n ∧ i = .int .i64 k ∧ Kept w wr none) (fun i _ => n - (intOf i).toNat)
  case atStart => exact ⟨0, Nat.zero_le _, rfl, Kept.refl _ _⟩
  case round =>
    obtain ⟨k, hk, rfl, hkw⟩ := hrel
    by_cases hlt : k < n
    · obtain ⟨b, o, r, rc, rfl, p0, p1, p2, hI⟩ := H1.out.at_ hlt
      obtain ⟨b', o', r', rc', rfl, p0', p1', p2', hI'⟩ := H2.out.at_ hlt
      generalize l.getD k q0 = p at *
      have g0 : ∀ w', Kept w w' none → w'.cell? ⟨b, o + k * 3, none⟩ = some (.int .i64 p.cycle) := fun w' q => cell_kept0 p0 q
      have g1 : ∀ w', Kept w w' none → w'.cell? ⟨b, o + k * 3 + 1, none⟩ = some (.int .i64 p.offset) := fun w' q => cell_kept0 p1 q
      have g2 : ∀ w', Kept w w' none → w'.cell? ⟨b, o + k * 3 + 2, none⟩ = some (.slice r p.splits.length rc) := fun w' q => cell_kept0 p2 q
      have g3 : ∀ w', Kept w w' none → w'.cell? ⟨b', o' + k * 3, none⟩ = some (.int .i64 p.cycle) := fun w' q => cell_kept0 p0' q
      have g4 : ∀ w', Kept w w' none → w'.cell? ⟨b', o' + k * 3 + 1, none⟩ = some (.int .i64 p.offset) := fun w' q => cell_kept0 p1' q
      have g5 : ∀ w', Kept w w' none → w'.cell? ⟨b', o' + k * 3 + 2, none⟩ = some (.slice r' p.splits.length rc') := fun w' q => cell_kept0 p2' q
      have HI := Hid.mk' hI
      have HI' := Hid.mk' hI'
      clear hI hI' p0 p1 p2 p0' p1' p2'
      go_wp2
      refine Code.wp_mono (Q := Rg ?A1 w) ?cont1 ?reg1
      case reg1 =>
        repeat (rename_i hh; clear hh)
        refine wp_region_held_drew (S := fun w' => Kept w w' none) (by kernel_rfl) (Kept.tr hkw (Kept.drew _ _)) (fun hHeld => ?_)
        refine held_take (i := 0) (v := ?v2) rfl rfl (by kernel_rfl) (by kernel_rfl) (by kernel_rfl) (fun _ _ _ h => h) (Or.inl ⟨by rfl, ?hy2⟩) hHeld ?rest2
        case hy2 => first | (intro w hSw; (try dsimp only at hSw); go_simp; done) | (intro w hSw; (try dsimp only at hSw); go_simp; with_reducible rfl)
        try simp only [List.setIfInBounds_toArray, List.set_cons_zero, List.set_cons_succ]
        refine held_take (i := 1) (v := ?v3) rfl rfl (by kernel_rfl) (by kernel_rfl) (by kernel_rfl) (fun _ _ _ h => h) (Or.inl ⟨by rfl, ?hy3⟩) hHeld ?rest3
        case hy3 => first | (intro w hSw; (try dsimp only at hSw); go_simp; done) | (intro w hSw; (try dsimp only at hSw); go_simp; with_reducible rfl)
        try simp only [List.setIfInBounds_toArray, List.set_cons_zero, List.set_cons_succ]
        refine held_take (i := 2) (v := ?v4) rfl rfl (by kernel_rfl) (by kernel_rfl) (by kernel_rfl) (fun _ _ _ h => h) (Or.inl ⟨by rfl, ?hy4⟩) hHeld ?rest4
        case hy4 => first | (intro w hSw; (try dsimp only at hSw); go_simp; done) | (intro w hSw; (try dsimp only at hSw); go_simp; with_reducible rfl)
        try simp only [List.setIfInBounds_toArray, List.set_cons_zero, List.set_cons_succ]
        refine held_take (i := 3) (v := ?v5) rfl rfl (by kernel_rfl) (by kernel_rfl) (by kernel_rfl) (fun _ _ _ h => h) (Or.inl ⟨by rfl, ?hy5⟩) hHeld ?rest5
        case hy5 => first | (intro w hSw; (try dsimp only at hSw); go_simp; done) | (intro w hSw; (try dsimp only at hSw); go_simp; with_reducible rfl)
        try simp only [List.setIfInBounds_toArray, List.set_cons_zero, List.set_cons_succ]
        refine held_take (i := 4) (v := ?v6) rfl rfl (by kernel_rfl) (by kernel_rfl) (by kernel_rfl) (fun _ _ _ h => h) (Or.inl ⟨by rfl, ?hy6⟩) hHeld ?rest6
        case hy6 => first | (intro w hSw; (try dsimp only at hSw); go_simp; done) | (intro w hSw; (try dsimp only at hSw); go_simp; with_reducible rfl)
        try simp only [List.setIfInBounds_toArray, List.set_cons_zero, List.set_cons_succ]
        refine held_take (i := 5) (v := ?v7) rfl rfl (by kernel_rfl) (by kernel_rfl) (by kernel_rfl) (fun _ _ _ h => h) (Or.inl ⟨by rfl, ?hy7⟩) hHeld ?rest7
        case hy7 => first | (intro w hSw; (try dsimp only at hSw); go_simp; done) | (intro w hSw; (try dsimp only at hSw); go_simp; with_reducible rfl)
        try simp only [List.setIfInBounds_toArray, List.set_cons_zero, List.set_cons_succ]
        refine held_take (i := 6) (v := ?v8) rfl rfl (by kernel_rfl) (by kernel_rfl) (by kernel_rfl) (fun _ _ _ h => h) (Or.inl ⟨by rfl, ?hy8⟩) hHeld ?rest8
        case hy8 => first | (intro w hSw; (try dsimp only at hSw); go_simp; done) | (intro w hSw; (try dsimp only at hSw); go_simp; with_reducible rfl)
        try simp only [List.setIfInBounds_toArray, List.set_cons_zero, List.set_cons_succ]
        refine held_take (i := 7) (v := ?v9) rfl rfl (by kernel_rfl) (by kernel_rfl) (by kernel_rfl) (fun _ _ _ h => h) (Or.inl ⟨by rfl, ?hy9⟩) hHeld ?rest9
        case hy9 => first | (intro w hSw; (try dsimp only at hSw); go_simp; done) | (intro w hSw; (try dsimp only at hSw); go_simp; with_reducible rfl)
        try simp only [List.setIfInBounds_toArray, List.set_cons_zero, List.set_cons_succ]
        refine wpAnyH_ready (rs := [8]) (by kernel_rfl) (by simp) ?_
        refine AllReadyH.cons rfl (fun K hK => ?_) AllReadyH.nil
        go_simp
        go_wp2_with (go_at_call 41; refine (rsamePlan_yes (HI.out.kept hHeld) (HI'.out.kept hHeld)).mono ?_; rintro e wS ⟨rfl, hkS⟩; have hKS : Kept w wS none := Kept.tr hHeld hkS)
        replace hK := hK.out
        refine hK _ _ hKS (fun hHeld => ?_)
        clear hK K
        refine held_take (i := 9) (v := ?v10) rfl rfl (by kernel_rfl) (by kernel_rfl) (by kernel_rfl) (fun _ _ _ h => h) (Or.inl ⟨by rfl, ?hy10⟩) hHeld ?rest10
        case hy10 => first | (intro w hSw; (try dsimp only at hSw); go_simp; done) | (intro w hSw; (try dsimp only at hSw); go_simp; with_reducible rfl)
        try simp only [List.setIfInBounds_toArray, List.set_cons_zero, List.set_cons_succ]
        refine wpAnyH_done (by kernel_rfl) ?_ _
        refine And.intro ?_ hHeld
        with_reducible rfl
      case cont1 =>
      intro e a' w' hq
      obtain ⟨rfl, rfl, hkq⟩ := hq.out
      go_wp2
      go_roundw
      case rel => exact ⟨k + 1, by omega, by go_num, hkq⟩
      case measure => simp [intOf]; omega
    · go_wp2
      go_ret
      exact ⟨rfl, hkw⟩

end Go.Proofs.Ytabikoipjaggbaa
