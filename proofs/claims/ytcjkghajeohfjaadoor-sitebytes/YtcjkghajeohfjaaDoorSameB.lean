/-
  TWO SITES that are the same are told so.
-/
import Derived.Test.YtcjkghajeohfjaaDoorSameA
namespace Go.Proofs.YtcjkghajeohfjaaDoor
open Go.RowKit Go.Lib Go.Deep
set_option linter.unusedVariables false
set_option linter.unusedSimpArgs false

set_option maxRecDepth 100000 in
set_option maxHeartbeats 20000000 in
theorem rsame_site {X Y : Sa} {S : St} {w : World} (h1 : Sat w X S) (h2 : Sat w Y S) : Calls Tryd.prog 15 #[siteV X S, siteV Y S] w fun e w' => e = .returned (.bool true) ∧ Kept w w' none := by
  obtain ⟨xg, xgc, xa, xac, xb, xbc, xp, xpc, xe, xec, xl, xlc⟩ := X
  obtain ⟨yg, ygc, ya, yac, yb, ybc, yp, ypc, ye, yec, yl, ylc⟩ := Y
  have hg9 : S.groups.length ≤ 9223372036854775807 := by have := h1.gk.room; have := h1.gk.max; omega
  have ha9 : S.apart.length ≤ 9223372036854775807 := by have := h1.ak.room; have := h1.ak.max; omega
  have hb9 : S.between.length ≤ 9223372036854775807 := by have := h1.b.cap.room; have := h1.b.cap.max; omega
  have hp9 : S.phases.length ≤ 9223372036854775807 := by have := h1.pk.room; have := h1.pk.max; omega
  have he9 : S.eyes.length ≤ 9223372036854775807 := by have := h1.ek.room; have := h1.ek.max; omega
  have k1 : Kept w (w.alloc (.cells #[.int .i64 S.id, .slice xg S.groups.length xgc, .slice xa S.apart.length xac, .slice xb S.between.length xbc, .slice xp S.phases.length xpc, .slice xe S.eyes.length xec, .int .i64 S.watch, .int .i64 S.feed, .int .i64 S.heal, .int .i64 S.low, .int .i64 S.high, .slice xl S.plans.length xlc] 29)) none := Kept.alloc _ _ _ _ _
  have k2 : Kept (w.alloc (.cells #[.int .i64 S.id, .slice xg S.groups.length xgc, .slice xa S.apart.length xac, .slice xb S.between.length xbc, .slice xp S.phases.length xpc, .slice xe S.eyes.length xec, .int .i64 S.watch, .int .i64 S.feed, .int .i64 S.heal, .int .i64 S.low, .int .i64 S.high, .slice xl S.plans.length xlc] 29)) ((w.alloc (.cells #[.int .i64 S.id, .slice xg S.groups.length xgc, .slice xa S.apart.length xac, .slice xb S.between.length xbc, .slice xp S.phases.length xpc, .slice xe S.eyes.length xec, .int .i64 S.watch, .int .i64 S.feed, .int .i64 S.heal, .int .i64 S.low, .int .i64 S.high, .slice xl S.plans.length xlc] 29)).alloc (.cells #[.int .i64 S.id, .slice yg S.groups.length ygc, .slice ya S.apart.length yac, .slice yb S.between.length ybc, .slice yp S.phases.length ypc, .slice ye S.eyes.length yec, .int .i64 S.watch, .int .i64 S.feed, .int .i64 S.heal, .int .i64 S.low, .int .i64 S.high, .slice yl S.plans.length ylc] 29)) none := Kept.alloc _ _ _ _ _
  have HX := Hid.mk' ((sbox_alloc h1 29).kept k2)
  have hy := sbox_alloc (h2.kept k1) 29
  rw [show (w.alloc (.cells #[.int .i64 S.id, .slice xg S.groups.length xgc, .slice xa S.apart.length xac, .slice xb S.between.length xbc, .slice xp S.phases.length xpc, .slice xe S.eyes.length xec, .int .i64 S.watch, .int .i64 S.feed, .int .i64 S.heal, .int .i64 S.low, .int .i64 S.high, .slice xl S.plans.length xlc] 29)).heap.size = w.heap.size + 1 by simp] at hy
  have HY := Hid.mk' hy
  have HK := Hid.mk' (k1.tr k2)
  clear h1 h2 k1 k2 hy
  go_enter Tryd.func15, Tryd.ntmps15
  go_wp2
  generalize hW : ((w.alloc (.cells #[.int .i64 S.id, .slice xg S.groups.length xgc, .slice xa S.apart.length xac, .slice xb S.between.length xbc, .slice xp S.phases.length xpc, .slice xe S.eyes.length xec, .int .i64 S.watch, .int .i64 S.feed, .int .i64 S.heal, .int .i64 S.low, .int .i64 S.high, .slice xl S.plans.length xlc] 29)).alloc (.cells #[.int .i64 S.id, .slice yg S.groups.length ygc, .slice ya S.apart.length yac, .slice yb S.between.length ybc, .slice yp S.phases.length ypc, .slice ye S.eyes.length yec, .int .i64 S.watch, .int .i64 S.feed, .int .i64 S.heal, .int .i64 S.low, .int .i64 S.high, .slice yl S.plans.length ylc] 29)) = W at *
  clear hW
  go_loopw [5] (fun i wr => ∃ k : Nat, k ≤ S.groups.length ∧ i = .int .i64 k ∧ Kept W wr none) (fun i _ => S.groups.length - (intOf i).toNat)
  case atStart => exact ⟨0, Nat.zero_le _, rfl, Kept.refl _ _⟩
  case round =>
    obtain ⟨k, hk, rfl, hkw⟩ := hrel
    by_cases hlt : k < S.groups.length
    · have c1 := (HX.out.kept hkw).c1
      have d1 := (HY.out.kept hkw).c1
      obtain ⟨b1, o1, e1, p0, p1, p2⟩ := (HX.out.kept hkw).sat.grAt hlt
      obtain ⟨b2, o2, e2, r0, r1, r2⟩ := (HY.out.kept hkw).sat.grAt hlt
      rw [e1] at c1
      rw [e2] at d1
      clear e1 e2
      generalize (S.gr k).kind = v0 at *
      generalize (S.gr k).min = v1 at *
      generalize (S.gr k).yellow = v2 at *
      go_wp2
      go_quiet (fail)
      go_wp2
      go_roundw
      case rel => exact ⟨k + 1, by omega, by go_num, hkw.tr (Kept.drewN _ _ _)⟩
      case measure => simp [intOf]; omega
    · have c1 := (HX.out.kept hkw).c1
      have e : k = S.groups.length := by omega
      subst e
      go_wp2
      clear c1 hlt hk
      go_loopw [6] (fun i wr => ∃ k : Nat, k ≤ S.apart.length ∧ i = .int .i64 k ∧ Kept W wr none) (fun i _ => S.apart.length - (intOf i).toNat)
      case atStart => exact ⟨0, Nat.zero_le _, rfl, hkw⟩
      case round =>
        clear hkw
        obtain ⟨k, hk, rfl, hkw⟩ := hrel
        by_cases hlt : k < S.apart.length
        · have c2 := (HX.out.kept hkw).c2
          have d2 := (HY.out.kept hkw).c2
          obtain ⟨b1, o1, e1, hc1⟩ := (HX.out.kept hkw).sat.apAt (n := S.apart.length) (by omega) (by omega)
          obtain ⟨b2, o2, e2, hc2⟩ := (HY.out.kept hkw).sat.apAt (n := S.apart.length) (by omega) (by omega)
          have p0 := hc1 k hlt
          have r0 := hc2 k hlt
          clear hc1 hc2
          rw [e1] at c2
          rw [e2] at d2
          clear e1 e2
          generalize S.ap k = v0 at *
          go_wp2
          go_quiet (fail)
          go_wp2
          go_roundw
          case rel => exact ⟨k + 1, by omega, by go_num, hkw.tr (Kept.drewN _ _ _)⟩
          case measure => simp [intOf]; omega
        · have c2 := (HX.out.kept hkw).c2
          have e : k = S.apart.length := by omega
          subst e
          go_wp2
          clear c2 hlt hk
          go_loopw [7] (fun i wr => ∃ k : Nat, k ≤ S.between.length ∧ i = .int .i64 k ∧ Kept W wr none) (fun i _ => S.between.length - (intOf i).toNat)
          case atStart => exact ⟨0, Nat.zero_le _, rfl, hkw⟩
          case round =>
            clear hkw
            obtain ⟨k, hk, rfl, hkw⟩ := hrel
            by_cases hlt : k < S.between.length
            · have c3 := (HX.out.kept hkw).c3
              have d3 := (HY.out.kept hkw).c3
              obtain ⟨b1, o1, a1, n1, e1, p0, hI1⟩ := (HX.out.kept hkw).sat.b.at_ hlt
              obtain ⟨b2, o2, a2, n2, e2, r0, hI2⟩ := (HY.out.kept hkw).sat.b.at_ hlt
              have H1 := Hid.mk' hI1
              have H2 := Hid.mk' hI2
              clear hI1 hI2
              rw [e1] at c3
              rw [e2] at d3
              clear e1 e2
              generalize S.between.getD k [] = row at *
              have f1 : ∀ w', Kept wr w' none → w'.cell? ⟨w.heap.size, 3, none⟩ = some (.slice (some ⟨b1, o1, none⟩) S.between.length xbc) := fun w' q => cell_kept0 c3 q
              have f2 : ∀ w', Kept wr w' none → w'.cell? ⟨w.heap.size + 1, 3, none⟩ = some (.slice (some ⟨b2, o2, none⟩) S.between.length ybc) := fun w' q => cell_kept0 d3 q
              have f3 : ∀ w', Kept wr w' none → w'.cell? ⟨b1, o1 + k, none⟩ = some (.slice a1 row.length n1) := fun w' q => cell_kept0 p0 q
              have f4 : ∀ w', Kept wr w' none → w'.cell? ⟨b2, o2 + k, none⟩ = some (.slice a2 row.length n2) := fun w' q => cell_kept0 r0 q
              go_wp2
              refine Code.wp_mono (Q := Rg ?A11 wr) ?cont11 ?reg11
              case reg11 =>
                repeat (rename_i hh; clear hh)
                refine wp_region_held_drew (S := fun w' => Kept wr w' none) (by kernel_rfl) (Kept.tr (Kept.refl wr none) (Kept.drew _ _)) (fun hHeld => ?_)
                refine held_take (i := 0) (v := ?v12) rfl rfl (by kernel_rfl) (by kernel_rfl) (by kernel_rfl) (fun _ _ _ h => h) (Or.inl ⟨by rfl, ?hy12⟩) hHeld ?rest12
                case hy12 => first | (intro w hSw; (try dsimp only at hSw); go_simp; done) | (intro w hSw; (try dsimp only at hSw); go_simp; with_reducible rfl)
                try simp only [List.setIfInBounds_toArray, List.set_cons_zero, List.set_cons_succ]
                refine held_take (i := 1) (v := ?v13) rfl rfl (by kernel_rfl) (by kernel_rfl) (by kernel_rfl) (fun _ _ _ h => h) (Or.inl ⟨by rfl, ?hy13⟩) hHeld ?rest13
                case hy13 => first | (intro w hSw; (try dsimp only at hSw); go_simp; done) | (intro w hSw; (try dsimp only at hSw); go_simp; with_reducible rfl)
                try simp only [List.setIfInBounds_toArray, List.set_cons_zero, List.set_cons_succ]
                refine held_take (i := 2) (v := ?v14) rfl rfl (by kernel_rfl) (by kernel_rfl) (by kernel_rfl) (fun _ _ _ h => h) (Or.inl ⟨by rfl, ?hy14⟩) hHeld ?rest14
                case hy14 => first | (intro w hSw; (try dsimp only at hSw); go_simp; done) | (intro w hSw; (try dsimp only at hSw); go_simp; with_reducible rfl)
                try simp only [List.setIfInBounds_toArray, List.set_cons_zero, List.set_cons_succ]
                refine held_take (i := 3) (v := ?v15) rfl rfl (by kernel_rfl) (by kernel_rfl) (by kernel_rfl) (fun _ _ _ h => h) (Or.inl ⟨by rfl, ?hy15⟩) hHeld ?rest15
                case hy15 => first | (intro w hSw; (try dsimp only at hSw); go_simp; done) | (intro w hSw; (try dsimp only at hSw); go_simp; with_reducible rfl)
                try simp only [List.setIfInBounds_toArray, List.set_cons_zero, List.set_cons_succ]
                refine held_take (i := 4) (v := ?v16) rfl rfl (by kernel_rfl) (by kernel_rfl) (by kernel_rfl) (fun _ _ _ h => h) (Or.inl ⟨by rfl, ?hy16⟩) hHeld ?rest16
                case hy16 => first | (intro w hSw; (try dsimp only at hSw); go_simp; done) | (intro w hSw; (try dsimp only at hSw); go_simp; with_reducible rfl)
                try simp only [List.setIfInBounds_toArray, List.set_cons_zero, List.set_cons_succ]
                refine held_take (i := 5) (v := ?v17) rfl rfl (by kernel_rfl) (by kernel_rfl) (by kernel_rfl) (fun _ _ _ h => h) (Or.inl ⟨by rfl, ?hy17⟩) hHeld ?rest17
                case hy17 => first | (intro w hSw; (try dsimp only at hSw); go_simp; done) | (intro w hSw; (try dsimp only at hSw); go_simp; with_reducible rfl)
                try simp only [List.setIfInBounds_toArray, List.set_cons_zero, List.set_cons_succ]
                refine held_take (i := 6) (v := ?v18) rfl rfl (by kernel_rfl) (by kernel_rfl) (by kernel_rfl) (fun _ _ _ h => h) (Or.inl ⟨by rfl, ?hy18⟩) hHeld ?rest18
                case hy18 => first | (intro w hSw; (try dsimp only at hSw); go_simp; done) | (intro w hSw; (try dsimp only at hSw); go_simp; with_reducible rfl)
                try simp only [List.setIfInBounds_toArray, List.set_cons_zero, List.set_cons_succ]
                refine held_take (i := 7) (v := ?v19) rfl rfl (by kernel_rfl) (by kernel_rfl) (by kernel_rfl) (fun _ _ _ h => h) (Or.inl ⟨by rfl, ?hy19⟩) hHeld ?rest19
                case hy19 => first | (intro w hSw; (try dsimp only at hSw); go_simp; done) | (intro w hSw; (try dsimp only at hSw); go_simp; with_reducible rfl)
                try simp only [List.setIfInBounds_toArray, List.set_cons_zero, List.set_cons_succ]
                refine held_take (i := 8) (v := ?v20) rfl rfl (by kernel_rfl) (by kernel_rfl) (by kernel_rfl) (fun _ _ _ h => h) (Or.inl ⟨by rfl, ?hy20⟩) hHeld ?rest20
                case hy20 => first | (intro w hSw; (try dsimp only at hSw); go_simp; done) | (intro w hSw; (try dsimp only at hSw); go_simp; with_reducible rfl)
                try simp only [List.setIfInBounds_toArray, List.set_cons_zero, List.set_cons_succ]
                refine held_take (i := 9) (v := ?v21) rfl rfl (by kernel_rfl) (by kernel_rfl) (by kernel_rfl) (fun _ _ _ h => h) (Or.inl ⟨by rfl, ?hy21⟩) hHeld ?rest21
                case hy21 => first | (intro w hSw; (try dsimp only at hSw); go_simp; done) | (intro w hSw; (try dsimp only at hSw); go_simp; with_reducible rfl)
                try simp only [List.setIfInBounds_toArray, List.set_cons_zero, List.set_cons_succ]
                refine wpAnyH_ready (rs := [10]) (by kernel_rfl) (by simp) ?_
                refine AllReadyH.cons rfl (fun K hK => ?_) AllReadyH.nil
                go_simp
                go_wp2_with (go_at_call 34; refine (rsame_ints (H1.out.kept hHeld) (H2.out.kept hHeld)).mono ?_; rintro e wS ⟨rfl, hkS⟩; have hKS : Kept wr wS none := Kept.tr hHeld hkS)
                replace hK := hK.out
                refine hK _ _ hKS (fun hHeld => ?_)
                clear hK K
                refine held_take (i := 11) (v := ?v22) rfl rfl (by kernel_rfl) (by kernel_rfl) (by kernel_rfl) (fun _ _ _ h => h) (Or.inl ⟨by rfl, ?hy22⟩) hHeld ?rest22
                case hy22 => first | (intro w hSw; (try dsimp only at hSw); go_simp; done) | (intro w hSw; (try dsimp only at hSw); go_simp; with_reducible rfl)
                try simp only [List.setIfInBounds_toArray, List.set_cons_zero, List.set_cons_succ]
                refine wpAnyH_done (by kernel_rfl) ?_ _
                refine And.intro ?_ hHeld
                with_reducible rfl
              case cont11 =>
              intro e a' w' hq
              obtain ⟨rfl, rfl, hkq⟩ := hq.out
              go_wp2
              go_roundw
              case rel => exact ⟨k + 1, by omega, by go_num, hkw.tr hkq⟩
              case measure => simp [intOf]; omega
            · have c3 := (HX.out.kept hkw).c3
              have e : k = S.between.length := by omega
              subst e
              go_wp2
              clear c3 hlt hk
              go_loopw [8] (fun i wr => ∃ k : Nat, k ≤ S.phases.length ∧ i = .int .i64 k ∧ Kept W wr none) (fun i _ => S.phases.length - (intOf i).toNat)
              case atStart => exact ⟨0, Nat.zero_le _, rfl, hkw⟩
              case round =>
                clear hkw
                obtain ⟨k, hk, rfl, hkw⟩ := hrel
                by_cases hlt : k < S.phases.length
                · have c4 := (HX.out.kept hkw).c4
                  have d4 := (HY.out.kept hkw).c4
                  obtain ⟨b1, o1, e1, p0, p1, p2, p3, p4⟩ := (HX.out.kept hkw).sat.phAt hlt
                  obtain ⟨b2, o2, e2, r0, r1, r2, r3, r4⟩ := (HY.out.kept hkw).sat.phAt hlt
                  rw [e1] at c4
                  rw [e2] at d4
                  clear e1 e2
                  generalize (S.ph k).groups = v0 at *
                  generalize (S.ph k).min = v1 at *
                  generalize (S.ph k).max = v2 at *
                  generalize (S.ph k).gap = v3 at *
                  generalize (S.ph k).always = v4 at *
                  go_wp2
                  go_quiet (fail)
                  go_wp2
                  go_roundw
                  case rel => exact ⟨k + 1, by omega, by go_num, hkw.tr (Kept.drewN _ _ _)⟩
                  case measure => simp [intOf]; omega
                · have c4 := (HX.out.kept hkw).c4
                  have e : k = S.phases.length := by omega
                  subst e
                  go_wp2
                  clear c4 hlt hk
                  go_loopw [9] (fun i wr => ∃ k : Nat, k ≤ S.eyes.length ∧ i = .int .i64 k ∧ Kept W wr none) (fun i _ => S.eyes.length - (intOf i).toNat)
                  case atStart => exact ⟨0, Nat.zero_le _, rfl, hkw⟩
                  case round =>
                    clear hkw
                    obtain ⟨k, hk, rfl, hkw⟩ := hrel
                    by_cases hlt : k < S.eyes.length
                    · have c5 := (HX.out.kept hkw).c5
                      have d5 := (HY.out.kept hkw).c5
                      obtain ⟨b1, o1, e1, p0, p1, p2, p3⟩ := (HX.out.kept hkw).sat.eyAt hlt
                      obtain ⟨b2, o2, e2, r0, r1, r2, r3⟩ := (HY.out.kept hkw).sat.eyAt hlt
                      rw [e1] at c5
                      rw [e2] at d5
                      clear e1 e2
                      generalize (S.ey k).phase = v0 at *
                      generalize (S.ey k).on = v1 at *
                      generalize (S.ey k).off = v2 at *
                      generalize (S.ey k).turns = v3 at *
                      go_wp2
                      go_quiet (fail)
                      go_wp2
                      go_roundw
                      case rel => exact ⟨k + 1, by omega, by go_num, hkw.tr (Kept.drewN _ _ _)⟩
                      case measure => simp [intOf]; omega
                    · have e : k = S.eyes.length := by omega
                      subst e
                      clear hlt hk
                      obtain ⟨c0, c1, c2, c3, c4, c5, c6, c7, c8, c9, c10, c11, _⟩ := HX.out.kept hkw
                      obtain ⟨d0, d1, d2, d3, d4, d5, d6, d7, d8, d9, d10, d11, _⟩ := HY.out.kept hkw
                      go_wp2_with (go_at_call 16; refine (rsamePlans_yes (HX.out.sat.kept hkw).l (HY.out.sat.kept hkw).l).mono ?_; rintro e w9 ⟨rfl, hk9⟩)
                      go_ret
                      exact ⟨rfl, HK.out.tr (hkw.tr hk9)⟩

end Go.Proofs.YtcjkghajeohfjaaDoor
