/-
  Texts joined: some of those that the proofs of this seat stand on.
-/
import Derived.Test.YtkgimccffggfdaaDoorSAli
import Derived.Test.YtkgimccffggfdaaDoorTurWJ
import Derived.Deep.RegionHeld
/-
  THE WALK of SeqNames (made by a program).
-/
namespace Go.Proofs.YtkgimccffggfdaaDoor
open Go.RowKit Go.Lib Go.Deep
set_option linter.unusedVariables false
set_option linter.unusedSimpArgs false

def S00 : St := ⟨0, [], [], [], [], [], 0, 0, 0, 0, 0, []⟩
def X00 : Sa := ⟨none, 0, none, 0, none, 0, none, 0, none, 0, none, 0⟩
theorem cap00 : Cap none 0 0 := ⟨fun _ => ⟨rfl, rfl⟩, Nat.le_refl _, Nat.zero_le _⟩
theorem sat00 (w : World) : Sat w X00 S00 := by
  have hi : i64B 0 := by unfold i64B; omega
  refine ⟨⟨fun h => absurd h (by decide)⟩, ⟨fun h => absurd h (by decide)⟩, ⟨⟨fun _ => (none, 0), ⟨fun h => absurd h (by decide)⟩, fun i h => absurd h (Nat.not_lt_zero i)⟩, rfl, cap00⟩, ⟨fun h => absurd h (by decide)⟩, ⟨fun h => absurd h (by decide)⟩, ⟨⟨fun _ => (none, 0), ⟨fun h => absurd h (by decide)⟩, fun i h => absurd h (Nat.not_lt_zero i)⟩, rfl, cap00, fun p h => (nomatch h)⟩, cap00, cap00, cap00, cap00, fun g h => (nomatch h), fun g h => (nomatch h), fun g h => (nomatch h), fun g h => (nomatch h), hi, hi, hi, hi, hi, hi⟩
theorem s00_no : siteB S00 = false := by decide +kernel
theorem e0a : (goQ S15 ⟨0, 1⟩ F16 2 0).ph = 0 := by decide +kernel
theorem e0b : (goQ S15 ⟨0, 1⟩ F16 2 0).since = 2 := by decide +kernel
theorem e1a : (goQ S15 ⟨0, 8⟩ F16 2 0).ph = 1 := by decide +kernel
theorem e1b : (goQ S15 ⟨0, 8⟩ F16 2 0).since = 0 := by decide +kernel
theorem e2a : (goQ S15 ⟨1, 8⟩ F16 0 0).ph = 1 := by decide +kernel
theorem e2b : (goQ S15 ⟨1, 8⟩ F16 0 0).since = 0 := by decide +kernel
theorem bou15 : bouM S15 = 49 := by decide +kernel
theorem pla15 : plaB S15 2 0 = false := by decide +kernel
theorem pla150 : plaB S15 0 0 = true := by decide +kernel
theorem safe_nil16 (w : World) : SafeAt w none 0 ⟨[], 0, false⟩ := ⟨⟨fun hp => absurd hp (by simp)⟩, ⟨fun _ => ⟨rfl, rfl⟩, by simp, by omega⟩, by simp⟩
set_option maxRecDepth 100000 in
set_option maxHeartbeats 8000000 in
theorem snames_any {w : World} (hT : Tabb w) : Calls Tryd.prog 3 #[] w fun e w' => e = .returned (.bool true) ∧ Below w.heap.size w w' := by
  obtain ⟨hsf, hbn, hkn⟩ := f16_at w
  obtain ⟨WN, hWN⟩ : ∃ WN, ((w.alloc (.cells #[.int .u8 2, .int .i64 5, .int .i64 0, .int .u8 1, .int .i64 0, .int .i64 0, .int .u8 1, .int .i64 0, .int .i64 0] 23)).alloc (.cells #[.slice (some ⟨w.heap.size, 0, none⟩) 3 3, .int .i64 0, .bool false] 26)) = WN := ⟨_, rfl⟩
  rw [hWN] at hsf hbn hkn
  have HT := Hid.mk' (hT.kept hkn)
  have HBN := Hid.mk' hbn
  have HK := Hid.mk' hkn
  have HSF := Hid.mk' hsf
  have HWN := Hid.mk' hWN
  clear hT hsf hbn hkn hWN
  go_enter Tryd.func3, Tryd.ntmps3
  go_wp2_with (fail)
  rw [HWN.out]
  go_wp2_with (first | (have hgo := SA1; clear hgo; go_at_call 7; have hx := sbou_yes SA1.out (HT.out.kept hv1) s15_may; rw [bou15] at hx; refine hx.mono ?_; rintro e wB ⟨rfl, hkB⟩; have hKB : Kept WN wB none := hv1.tr hkB; clear hx) | (go_at_call 8; refine three_any.mono ?_; rintro e v1 ⟨Y1, rfl, hsat, hj1⟩; have SA1 := Hid.mk' hsat; have hv1 : Kept WN v1 none := hj1; clear hsat))
  have HKB := Hid.mk' hKB
  clear hkB hKB hv1 hj1 SA1
  have n0_ : ∀ w', Kept wB w' none → w'.cell? ⟨w.heap.size + 1, 0, none⟩ = some (.slice (some ⟨w.heap.size, 0, none⟩) 3 3) := fun w' q => (HBN.out.kept (HKB.out.tr q)).c0
  have n1_ : ∀ w', Kept wB w' none → w'.cell? ⟨w.heap.size + 1, 1, none⟩ = some (.int .i64 0) := fun w' q => (HBN.out.kept (HKB.out.tr q)).c1
  have n2_ : ∀ w', Kept wB w' none → w'.cell? ⟨w.heap.size + 1, 2, none⟩ = some (.bool false) := fun w' q => (HBN.out.kept (HKB.out.tr q)).c2
  have HNX : Hid (∀ w' X, Kept wB w' none → Sat w' X S15 → Calls Tryd.prog 9 #[siteV X S15, .agg #[.int .i64 0, .int .i64 1], .agg #[.slice (some ⟨w.heap.size, 0, none⟩) 3 3, .int .i64 0, .bool false], .int .u32 2, .int .u32 0] w' fun e w2 => ∃ b, e = .returned (.tuple #[.agg #[.int .i64 0, .int .i64 2], .slice (some ⟨b, 0, none⟩) 3 3, .int .i64 0]) ∧ w'.heap.size ≤ b ∧ w2.rowIs b 5 3 (fun i => .int .u8 ((lg (askV S15 0) i : Nat) : Int)) ∧ Kept w' w2 none) := fun w' X q hs => snx16 HSF.out (HKB.out.tr q) HT.out hs 0 1 2 0 0 2 (by omega) (by omega) (by omega) (by omega) (by omega) e0a e0b
  refine Code.wp_mono (Q := Rz ?A1 (fun u b w' => Nz wB w' u b 0 2 (fun i => .int .u8 ((lg (askV S15 0) i : Nat) : Int)))) ?cont1 ?reg1
  case reg1 =>
    repeat (rename_i hh; clear hh)
    refine wp_region_held_drew (S := fun w' => Kept wB w' none) (by kernel_rfl) (Kept.drew _ _) (fun hHeld => ?_)
    refine held_take (i := 1) (v := ?v1) rfl rfl (by kernel_rfl) (by kernel_rfl) (by kernel_rfl) (fun _ _ _ h => h) (Or.inl ⟨by rfl, ?hy1⟩) hHeld ?rest1
    case hy1 => first | (intro w hSw; (try dsimp only at hSw); go_simp; done) | (intro w hSw; (try dsimp only at hSw); go_simp; with_reducible rfl)
    try simp only [List.setIfInBounds_toArray, List.set_cons_zero, List.set_cons_succ]
    refine held_take (i := 2) (v := ?v2) rfl rfl (by kernel_rfl) (by kernel_rfl) (by kernel_rfl) (fun _ _ _ h => h) (Or.inl ⟨by rfl, ?hy2⟩) hHeld ?rest2
    case hy2 => first | (intro w hSw; (try dsimp only at hSw); go_simp; done) | (intro w hSw; (try dsimp only at hSw); go_simp; with_reducible rfl)
    try simp only [List.setIfInBounds_toArray, List.set_cons_zero, List.set_cons_succ]
    refine wpAnyH_ready (rs := [0, 8]) (by kernel_rfl) (by simp) ?_
    refine (AllReadyH.cons rfl (fun K hK => ?z2x0) (AllReadyH.cons rfl (fun K hK => ?z2x8) AllReadyH.nil))
    case z2x0 =>
      go_simp
      go_wp2_with (go_at_call 8; refine three_any.mono ?_; rintro e v2x0 ⟨X, rfl, hsat, hj⟩)
      have SA := Hid.mk' hsat
      have hnew : Kept wB v2x0 none := hHeld.tr hj
      refine hK.out _ _ hnew (fun hHeld => ?_)
      clear hK K hsat hj hnew
      refine wpAnyH_ready (rs := [3, 8]) (by kernel_rfl) (by simp) ?_
      refine (AllReadyH.cons rfl (fun K hK => ?z3x3) (AllReadyH.cons rfl (fun K hK => ?z3x8) AllReadyH.nil))
      case z3x3 =>
        go_simp
        go_wp2_with (go_at_call 9; refine (HNX.out _ _ hHeld SA.out).mono ?_; rintro e v3x3 ⟨b, rfl, hb, hr, hkn⟩)
        have hnew : Kept wB v3x3 none := hHeld.tr hkn
        have HR := hr
        refine hK.out _ _ hnew (fun hHeld => ?_)
        clear hK K hkn hnew SA
        refine held_take (i := 4) (v := ?v3) rfl rfl (by kernel_rfl) (by kernel_rfl) (by kernel_rfl) (fun _ _ _ h => h) (Or.inl ⟨by rfl, ?hy3⟩) hHeld ?rest3
        case hy3 => first | (intro w hSw; (try dsimp only at hSw); go_simp; done) | (intro w hSw; (try dsimp only at hSw); go_simp; with_reducible rfl)
        try simp only [List.setIfInBounds_toArray, List.set_cons_zero, List.set_cons_succ]
        refine held_take (i := 5) (v := ?v4) rfl rfl (by kernel_rfl) (by kernel_rfl) (by kernel_rfl) (fun _ _ _ h => h) (Or.inl ⟨by rfl, ?hy4⟩) hHeld ?rest4
        case hy4 => first | (intro w hSw; (try dsimp only at hSw); go_simp; done) | (intro w hSw; (try dsimp only at hSw); go_simp; with_reducible rfl)
        try simp only [List.setIfInBounds_toArray, List.set_cons_zero, List.set_cons_succ]
        refine held_take (i := 6) (v := ?v5) rfl rfl (by kernel_rfl) (by kernel_rfl) (by kernel_rfl) (fun _ _ _ h => h) (Or.inl ⟨by rfl, ?hy5⟩) hHeld ?rest5
        case hy5 => first | (intro w hSw; (try dsimp only at hSw); go_simp; done) | (intro w hSw; (try dsimp only at hSw); go_simp; with_reducible rfl)
        try simp only [List.setIfInBounds_toArray, List.set_cons_zero, List.set_cons_succ]
        refine held_take (i := 7) (v := ?v6) rfl rfl (by kernel_rfl) (by kernel_rfl) (by kernel_rfl) (fun _ _ _ h => h) (Or.inl ⟨by rfl, ?hy6⟩) hHeld ?rest6
        case hy6 => first | (intro w hSw; (try dsimp only at hSw); go_simp; done) | (intro w hSw; (try dsimp only at hSw); go_simp; with_reducible rfl)
        try simp only [List.setIfInBounds_toArray, List.set_cons_zero, List.set_cons_succ]
        refine wpAnyH_ready (rs := [8]) (by kernel_rfl) (by simp) ?_
        refine (AllReadyH.cons rfl (fun K hK => ?z4x8) AllReadyH.nil)
        case z4x8 =>
          go_simp
          have hBw : wB.heap.size ≤ v3x3.heap.size := hHeld.size
          have hk : Kept v3x3 (v3x3.alloc (.cells #[.int .i64 0, .int .i64 0] 40)) none := Kept.alloc _ _ _ _ _
          refine hK.out _ _ (hHeld.tr hk) (fun hHeld => ?_)
          clear hK K
          have BX : Bx2 (v3x3.alloc (.cells #[.int .i64 0, .int .i64 0] 40)) v3x3.heap.size (.int .i64 0) (.int .i64 0) := bx2_alloc _ _ _ _
          have hbu : b ≠ v3x3.heap.size := Nat.ne_of_lt HR.lt
          have HR := row_kept HR hk (by simp)
          obtain ⟨v4x8, hv4x8⟩ : ∃ v, (v3x3.alloc (.cells #[.int .i64 0, .int .i64 0] 40)) = v := ⟨_, rfl⟩
          rw [hv4x8] at hHeld BX HR ⊢
          clear hv4x8 hk
          have d0 := BX.c0
          have d1 := BX.c1
          have e0 := BX.f0
          have e1 := BX.f1
          refine wpAnyH_ready (rs := [9]) (by kernel_rfl) (by simp) ?_
          refine AllReadyH.cons rfl (fun K hK => ?_) AllReadyH.nil
          go_simp
          refine hK.out _ _ ((hHeld.setNew (p := ⟨v3x3.heap.size, 0, none⟩) hBw _).setNew (p := ⟨v3x3.heap.size, 1, none⟩) hBw _) (fun hHeld => ?_)
          clear hK K
          refine held_take (i := 10) (v := ?v7) rfl rfl (by kernel_rfl) (by kernel_rfl) (by kernel_rfl) (fun _ _ _ h => h) (Or.inl ⟨by rfl, ?hy7⟩) hHeld ?rest7
          case hy7 => first | (intro w hSw; (try dsimp only at hSw); go_simp; done) | (intro w hSw; (try dsimp only at hSw); go_simp; with_reducible rfl)
          try simp only [List.setIfInBounds_toArray, List.set_cons_zero, List.set_cons_succ]
          refine held_take (i := 11) (v := ?v8) rfl rfl (by kernel_rfl) (by kernel_rfl) (by kernel_rfl) (fun _ _ _ h => h) (Or.inl ⟨by rfl, ?hy8⟩) hHeld ?rest8
          case hy8 => first | (intro w hSw; (try dsimp only at hSw); go_simp; done) | (intro w hSw; (try dsimp only at hSw); go_simp; with_reducible rfl)
          try simp only [List.setIfInBounds_toArray, List.set_cons_zero, List.set_cons_succ]
          refine wpAnyH_done (by kernel_rfl) ?_ _
          have kz : Kept v4x8 ((v4x8.setCell ⟨v3x3.heap.size, 0, none⟩ (.int .i64 0)).setCell ⟨v3x3.heap.size, 1, none⟩ (.int .i64 2)) (some (v3x3.heap.size)) := ((Kept.refl v4x8 (some (v3x3.heap.size))).setRow _ _).setRow _ _
          refine ⟨X, v3x3.heap.size, b, ?_, ⟨hHeld, BX.set _ _, hBw, row_kept HR kz (fun e => hbu (Option.some.inj e))⟩⟩
          generalize v3x3.heap.size = u'
          with_reducible rfl
      case z3x8 =>
        go_simp
        have hBw : wB.heap.size ≤ v2x0.heap.size := hHeld.size
        have hk : Kept v2x0 (v2x0.alloc (.cells #[.int .i64 0, .int .i64 0] 40)) none := Kept.alloc _ _ _ _ _
        refine hK.out _ _ (hHeld.tr hk) (fun hHeld => ?_)
        clear hK K
        have BX : Bx2 (v2x0.alloc (.cells #[.int .i64 0, .int .i64 0] 40)) v2x0.heap.size (.int .i64 0) (.int .i64 0) := bx2_alloc _ _ _ _
        have SA := Hid.mk' (SA.out.kept hk)
        obtain ⟨v3x8, hv3x8⟩ : ∃ v, (v2x0.alloc (.cells #[.int .i64 0, .int .i64 0] 40)) = v := ⟨_, rfl⟩
        rw [hv3x8] at hHeld BX SA ⊢
        clear hv3x8 hk
        refine wpAnyH_ready (rs := [3]) (by kernel_rfl) (by simp) ?_
        refine (AllReadyH.cons rfl (fun K hK => ?z5x3) AllReadyH.nil)
        case z5x3 =>
          go_simp
          go_wp2_with (go_at_call 9; refine (HNX.out _ _ hHeld SA.out).mono ?_; rintro e v5x3 ⟨b, rfl, hb, hr, hkn⟩)
          have hnew : Kept wB v5x3 none := hHeld.tr hkn
          have HR := hr
          have hlu := BX.lt
          have BX := BX.kept hkn
          have hbu : b ≠ v2x0.heap.size := by omega
          refine hK.out _ _ hnew (fun hHeld => ?_)
          clear hK K hkn hnew SA
          refine held_take (i := 4) (v := ?v9) rfl rfl (by kernel_rfl) (by kernel_rfl) (by kernel_rfl) (fun _ _ _ h => h) (Or.inl ⟨by rfl, ?hy9⟩) hHeld ?rest9
          case hy9 => first | (intro w hSw; (try dsimp only at hSw); go_simp; done) | (intro w hSw; (try dsimp only at hSw); go_simp; with_reducible rfl)
          try simp only [List.setIfInBounds_toArray, List.set_cons_zero, List.set_cons_succ]
          refine held_take (i := 5) (v := ?v10) rfl rfl (by kernel_rfl) (by kernel_rfl) (by kernel_rfl) (fun _ _ _ h => h) (Or.inl ⟨by rfl, ?hy10⟩) hHeld ?rest10
          case hy10 => first | (intro w hSw; (try dsimp only at hSw); go_simp; done) | (intro w hSw; (try dsimp only at hSw); go_simp; with_reducible rfl)
          try simp only [List.setIfInBounds_toArray, List.set_cons_zero, List.set_cons_succ]
          refine held_take (i := 6) (v := ?v11) rfl rfl (by kernel_rfl) (by kernel_rfl) (by kernel_rfl) (fun _ _ _ h => h) (Or.inl ⟨by rfl, ?hy11⟩) hHeld ?rest11
          case hy11 => first | (intro w hSw; (try dsimp only at hSw); go_simp; done) | (intro w hSw; (try dsimp only at hSw); go_simp; with_reducible rfl)
          try simp only [List.setIfInBounds_toArray, List.set_cons_zero, List.set_cons_succ]
          refine held_take (i := 7) (v := ?v12) rfl rfl (by kernel_rfl) (by kernel_rfl) (by kernel_rfl) (fun _ _ _ h => h) (Or.inl ⟨by rfl, ?hy12⟩) hHeld ?rest12
          case hy12 => first | (intro w hSw; (try dsimp only at hSw); go_simp; done) | (intro w hSw; (try dsimp only at hSw); go_simp; with_reducible rfl)
          try simp only [List.setIfInBounds_toArray, List.set_cons_zero, List.set_cons_succ]
          have d0 := BX.c0
          have d1 := BX.c1
          have e0 := BX.f0
          have e1 := BX.f1
          refine wpAnyH_ready (rs := [9]) (by kernel_rfl) (by simp) ?_
          refine AllReadyH.cons rfl (fun K hK => ?_) AllReadyH.nil
          go_simp
          refine hK.out _ _ ((hHeld.setNew (p := ⟨v2x0.heap.size, 0, none⟩) hBw _).setNew (p := ⟨v2x0.heap.size, 1, none⟩) hBw _) (fun hHeld => ?_)
          clear hK K
          refine held_take (i := 10) (v := ?v13) rfl rfl (by kernel_rfl) (by kernel_rfl) (by kernel_rfl) (fun _ _ _ h => h) (Or.inl ⟨by rfl, ?hy13⟩) hHeld ?rest13
          case hy13 => first | (intro w hSw; (try dsimp only at hSw); go_simp; done) | (intro w hSw; (try dsimp only at hSw); go_simp; with_reducible rfl)
          try simp only [List.setIfInBounds_toArray, List.set_cons_zero, List.set_cons_succ]
          refine held_take (i := 11) (v := ?v14) rfl rfl (by kernel_rfl) (by kernel_rfl) (by kernel_rfl) (fun _ _ _ h => h) (Or.inl ⟨by rfl, ?hy14⟩) hHeld ?rest14
          case hy14 => first | (intro w hSw; (try dsimp only at hSw); go_simp; done) | (intro w hSw; (try dsimp only at hSw); go_simp; with_reducible rfl)
          try simp only [List.setIfInBounds_toArray, List.set_cons_zero, List.set_cons_succ]
          refine wpAnyH_done (by kernel_rfl) ?_ _
          have kz : Kept v5x3 ((v5x3.setCell ⟨v2x0.heap.size, 0, none⟩ (.int .i64 0)).setCell ⟨v2x0.heap.size, 1, none⟩ (.int .i64 2)) (some (v2x0.heap.size)) := ((Kept.refl v5x3 (some (v2x0.heap.size))).setRow _ _).setRow _ _
          refine ⟨X, v2x0.heap.size, b, ?_, ⟨hHeld, BX.set _ _, hBw, row_kept HR kz (fun e => hbu (Option.some.inj e))⟩⟩
          generalize v2x0.heap.size = u'
          with_reducible rfl
    case z2x8 =>
      go_simp
      have hBw : wB.heap.size ≤ wB.heap.size := Nat.le_refl _
      have hk : Kept wB (wB.alloc (.cells #[.int .i64 0, .int .i64 0] 40)).drew none := (Kept.alloc _ _ _ _ _).tr (Kept.drew _ _)
      refine hK.out _ _ (hk) (fun hHeld => ?_)
      clear hK K
      have BX : Bx2 (wB.alloc (.cells #[.int .i64 0, .int .i64 0] 40)).drew wB.heap.size (.int .i64 0) (.int .i64 0) := (bx2_alloc _ _ _ _).kept (Kept.drew _ _)
      obtain ⟨v2x8, hv2x8⟩ : ∃ v, (wB.alloc (.cells #[.int .i64 0, .int .i64 0] 40)).drew = v := ⟨_, rfl⟩
      rw [hv2x8] at hHeld BX ⊢
      clear hv2x8 hk
      refine wpAnyH_ready (rs := [0]) (by kernel_rfl) (by simp) ?_
      refine (AllReadyH.cons rfl (fun K hK => ?z6x0) AllReadyH.nil)
      case z6x0 =>
        go_simp
        go_wp2_with (go_at_call 8; refine three_any.mono ?_; rintro e v6x0 ⟨X, rfl, hsat, hj⟩)
        have SA := Hid.mk' hsat
        have hnew : Kept wB v6x0 none := hHeld.tr hj
        have BX := BX.kept hj
        refine hK.out _ _ hnew (fun hHeld => ?_)
        clear hK K hsat hj hnew
        refine wpAnyH_ready (rs := [3]) (by kernel_rfl) (by simp) ?_
        refine (AllReadyH.cons rfl (fun K hK => ?z7x3) AllReadyH.nil)
        case z7x3 =>
          go_simp
          go_wp2_with (go_at_call 9; refine (HNX.out _ _ hHeld SA.out).mono ?_; rintro e v7x3 ⟨b, rfl, hb, hr, hkn⟩)
          have hnew : Kept wB v7x3 none := hHeld.tr hkn
          have HR := hr
          have hlu := BX.lt
          have BX := BX.kept hkn
          have hbu : b ≠ wB.heap.size := by omega
          refine hK.out _ _ hnew (fun hHeld => ?_)
          clear hK K hkn hnew SA
          refine held_take (i := 4) (v := ?v15) rfl rfl (by kernel_rfl) (by kernel_rfl) (by kernel_rfl) (fun _ _ _ h => h) (Or.inl ⟨by rfl, ?hy15⟩) hHeld ?rest15
          case hy15 => first | (intro w hSw; (try dsimp only at hSw); go_simp; done) | (intro w hSw; (try dsimp only at hSw); go_simp; with_reducible rfl)
          try simp only [List.setIfInBounds_toArray, List.set_cons_zero, List.set_cons_succ]
          refine held_take (i := 5) (v := ?v16) rfl rfl (by kernel_rfl) (by kernel_rfl) (by kernel_rfl) (fun _ _ _ h => h) (Or.inl ⟨by rfl, ?hy16⟩) hHeld ?rest16
          case hy16 => first | (intro w hSw; (try dsimp only at hSw); go_simp; done) | (intro w hSw; (try dsimp only at hSw); go_simp; with_reducible rfl)
          try simp only [List.setIfInBounds_toArray, List.set_cons_zero, List.set_cons_succ]
          refine held_take (i := 6) (v := ?v17) rfl rfl (by kernel_rfl) (by kernel_rfl) (by kernel_rfl) (fun _ _ _ h => h) (Or.inl ⟨by rfl, ?hy17⟩) hHeld ?rest17
          case hy17 => first | (intro w hSw; (try dsimp only at hSw); go_simp; done) | (intro w hSw; (try dsimp only at hSw); go_simp; with_reducible rfl)
          try simp only [List.setIfInBounds_toArray, List.set_cons_zero, List.set_cons_succ]
          refine held_take (i := 7) (v := ?v18) rfl rfl (by kernel_rfl) (by kernel_rfl) (by kernel_rfl) (fun _ _ _ h => h) (Or.inl ⟨by rfl, ?hy18⟩) hHeld ?rest18
          case hy18 => first | (intro w hSw; (try dsimp only at hSw); go_simp; done) | (intro w hSw; (try dsimp only at hSw); go_simp; with_reducible rfl)
          try simp only [List.setIfInBounds_toArray, List.set_cons_zero, List.set_cons_succ]
          have d0 := BX.c0
          have d1 := BX.c1
          have e0 := BX.f0
          have e1 := BX.f1
          refine wpAnyH_ready (rs := [9]) (by kernel_rfl) (by simp) ?_
          refine AllReadyH.cons rfl (fun K hK => ?_) AllReadyH.nil
          go_simp
          refine hK.out _ _ ((hHeld.setNew (p := ⟨wB.heap.size, 0, none⟩) hBw _).setNew (p := ⟨wB.heap.size, 1, none⟩) hBw _) (fun hHeld => ?_)
          clear hK K
          refine held_take (i := 10) (v := ?v19) rfl rfl (by kernel_rfl) (by kernel_rfl) (by kernel_rfl) (fun _ _ _ h => h) (Or.inl ⟨by rfl, ?hy19⟩) hHeld ?rest19
          case hy19 => first | (intro w hSw; (try dsimp only at hSw); go_simp; done) | (intro w hSw; (try dsimp only at hSw); go_simp; with_reducible rfl)
          try simp only [List.setIfInBounds_toArray, List.set_cons_zero, List.set_cons_succ]
          refine held_take (i := 11) (v := ?v20) rfl rfl (by kernel_rfl) (by kernel_rfl) (by kernel_rfl) (fun _ _ _ h => h) (Or.inl ⟨by rfl, ?hy20⟩) hHeld ?rest20
          case hy20 => first | (intro w hSw; (try dsimp only at hSw); go_simp; done) | (intro w hSw; (try dsimp only at hSw); go_simp; with_reducible rfl)
          try simp only [List.setIfInBounds_toArray, List.set_cons_zero, List.set_cons_succ]
          refine wpAnyH_done (by kernel_rfl) ?_ _
          have kz : Kept v7x3 ((v7x3.setCell ⟨wB.heap.size, 0, none⟩ (.int .i64 0)).setCell ⟨wB.heap.size, 1, none⟩ (.int .i64 2)) (some (wB.heap.size)) := ((Kept.refl v7x3 (some (wB.heap.size))).setRow _ _).setRow _ _
          refine ⟨X, wB.heap.size, b, ?_, ⟨hHeld, BX.set _ _, hBw, row_kept HR kz (fun e => hbu (Option.some.inj e))⟩⟩
          generalize wB.heap.size = u'
          with_reducible rfl
  case cont1 =>
  intro e a' w1' hq'
  obtain ⟨rfl, X1', u1', b1', rfl, hz1⟩ := hq'.out
  have HB0 := Hid.mk' hz1.bx
  have HK0 := Hid.mk' (HKB.out.tr hz1.kept)
  have HZ0 := Hid.mk' hz1.kept
  clear hz1 n0_ n1_ n2_ HNX
  go_wp2_with (fail)
  have n0_ : ∀ w', Kept w1' w' none → w'.cell? ⟨w.heap.size + 1, 0, none⟩ = some (.slice (some ⟨w.heap.size, 0, none⟩) 3 3) := fun w' q => (HBN.out.kept (HK0.out.tr q)).c0
  have n1_ : ∀ w', Kept w1' w' none → w'.cell? ⟨w.heap.size + 1, 1, none⟩ = some (.int .i64 0) := fun w' q => (HBN.out.kept (HK0.out.tr q)).c1
  have n2_ : ∀ w', Kept w1' w' none → w'.cell? ⟨w.heap.size + 1, 2, none⟩ = some (.bool false) := fun w' q => (HBN.out.kept (HK0.out.tr q)).c2
  have HNX : Hid (∀ w' X, Kept w1' w' none → Sat w' X S15 → Calls Tryd.prog 9 #[siteV X S15, .agg #[.int .i64 0, .int .i64 8], .agg #[.slice (some ⟨w.heap.size, 0, none⟩) 3 3, .int .i64 0, .bool false], .int .u32 2, .int .u32 0] w' fun e w2 => ∃ b, e = .returned (.tuple #[.agg #[.int .i64 1, .int .i64 0], .slice (some ⟨b, 0, none⟩) 3 3, .int .i64 0]) ∧ w'.heap.size ≤ b ∧ w2.rowIs b 5 3 (fun i => .int .u8 ((lg (askV S15 1) i : Nat) : Int)) ∧ Kept w' w2 none) := fun w' X q hs => snx16 HSF.out (HK0.out.tr q) HT.out hs 0 8 2 0 1 0 (by omega) (by omega) (by omega) (by omega) (by omega) e1a e1b
  refine Code.wp_mono (Q := Rz ?A8 (fun u b w' => Nz w1' w' u b 1 0 (fun i => .int .u8 ((lg (askV S15 1) i : Nat) : Int)))) ?cont8 ?reg8
  case reg8 =>
    repeat (rename_i hh; clear hh)
    refine wp_region_held_drew (S := fun w' => Kept w1' w' none) (by kernel_rfl) (Kept.drew _ _) (fun hHeld => ?_)
    refine held_take (i := 1) (v := ?v21) rfl rfl (by kernel_rfl) (by kernel_rfl) (by kernel_rfl) (fun _ _ _ h => h) (Or.inl ⟨by rfl, ?hy21⟩) hHeld ?rest21
    case hy21 => first | (intro w hSw; (try dsimp only at hSw); go_simp; done) | (intro w hSw; (try dsimp only at hSw); go_simp; with_reducible rfl)
    try simp only [List.setIfInBounds_toArray, List.set_cons_zero, List.set_cons_succ]
    refine held_take (i := 2) (v := ?v22) rfl rfl (by kernel_rfl) (by kernel_rfl) (by kernel_rfl) (fun _ _ _ h => h) (Or.inl ⟨by rfl, ?hy22⟩) hHeld ?rest22
    case hy22 => first | (intro w hSw; (try dsimp only at hSw); go_simp; done) | (intro w hSw; (try dsimp only at hSw); go_simp; with_reducible rfl)
    try simp only [List.setIfInBounds_toArray, List.set_cons_zero, List.set_cons_succ]
    refine wpAnyH_ready (rs := [0, 8]) (by kernel_rfl) (by simp) ?_
    refine (AllReadyH.cons rfl (fun K hK => ?z9x0) (AllReadyH.cons rfl (fun K hK => ?z9x8) AllReadyH.nil))
    case z9x0 =>
      go_simp
      go_wp2_with (go_at_call 8; refine three_any.mono ?_; rintro e v9x0 ⟨X, rfl, hsat, hj⟩)
      have SA := Hid.mk' hsat
      have hnew : Kept w1' v9x0 none := hHeld.tr hj
      refine hK.out _ _ hnew (fun hHeld => ?_)
      clear hK K hsat hj hnew
      refine wpAnyH_ready (rs := [3, 8]) (by kernel_rfl) (by simp) ?_
      refine (AllReadyH.cons rfl (fun K hK => ?z10x3) (AllReadyH.cons rfl (fun K hK => ?z10x8) AllReadyH.nil))
      case z10x3 =>
        go_simp
        go_wp2_with (go_at_call 9; refine (HNX.out _ _ hHeld SA.out).mono ?_; rintro e v10x3 ⟨b, rfl, hb, hr, hkn⟩)
        have hnew : Kept w1' v10x3 none := hHeld.tr hkn
        have HR := hr
        refine hK.out _ _ hnew (fun hHeld => ?_)
        clear hK K hkn hnew SA
        refine held_take (i := 4) (v := ?v23) rfl rfl (by kernel_rfl) (by kernel_rfl) (by kernel_rfl) (fun _ _ _ h => h) (Or.inl ⟨by rfl, ?hy23⟩) hHeld ?rest23
        case hy23 => first | (intro w hSw; (try dsimp only at hSw); go_simp; done) | (intro w hSw; (try dsimp only at hSw); go_simp; with_reducible rfl)
        try simp only [List.setIfInBounds_toArray, List.set_cons_zero, List.set_cons_succ]
        refine held_take (i := 5) (v := ?v24) rfl rfl (by kernel_rfl) (by kernel_rfl) (by kernel_rfl) (fun _ _ _ h => h) (Or.inl ⟨by rfl, ?hy24⟩) hHeld ?rest24
        case hy24 => first | (intro w hSw; (try dsimp only at hSw); go_simp; done) | (intro w hSw; (try dsimp only at hSw); go_simp; with_reducible rfl)
        try simp only [List.setIfInBounds_toArray, List.set_cons_zero, List.set_cons_succ]
        refine held_take (i := 6) (v := ?v25) rfl rfl (by kernel_rfl) (by kernel_rfl) (by kernel_rfl) (fun _ _ _ h => h) (Or.inl ⟨by rfl, ?hy25⟩) hHeld ?rest25
        case hy25 => first | (intro w hSw; (try dsimp only at hSw); go_simp; done) | (intro w hSw; (try dsimp only at hSw); go_simp; with_reducible rfl)
        try simp only [List.setIfInBounds_toArray, List.set_cons_zero, List.set_cons_succ]
        refine held_take (i := 7) (v := ?v26) rfl rfl (by kernel_rfl) (by kernel_rfl) (by kernel_rfl) (fun _ _ _ h => h) (Or.inl ⟨by rfl, ?hy26⟩) hHeld ?rest26
        case hy26 => first | (intro w hSw; (try dsimp only at hSw); go_simp; done) | (intro w hSw; (try dsimp only at hSw); go_simp; with_reducible rfl)
        try simp only [List.setIfInBounds_toArray, List.set_cons_zero, List.set_cons_succ]
        refine wpAnyH_ready (rs := [8]) (by kernel_rfl) (by simp) ?_
        refine (AllReadyH.cons rfl (fun K hK => ?z11x8) AllReadyH.nil)
        case z11x8 =>
          go_simp
          have hBw : w1'.heap.size ≤ v10x3.heap.size := hHeld.size
          have hk : Kept v10x3 (v10x3.alloc (.cells #[.int .i64 0, .int .i64 0] 40)) none := Kept.alloc _ _ _ _ _
          refine hK.out _ _ (hHeld.tr hk) (fun hHeld => ?_)
          clear hK K
          have BX : Bx2 (v10x3.alloc (.cells #[.int .i64 0, .int .i64 0] 40)) v10x3.heap.size (.int .i64 0) (.int .i64 0) := bx2_alloc _ _ _ _
          have hbu : b ≠ v10x3.heap.size := Nat.ne_of_lt HR.lt
          have HR := row_kept HR hk (by simp)
          obtain ⟨v11x8, hv11x8⟩ : ∃ v, (v10x3.alloc (.cells #[.int .i64 0, .int .i64 0] 40)) = v := ⟨_, rfl⟩
          rw [hv11x8] at hHeld BX HR ⊢
          clear hv11x8 hk
          have d0 := BX.c0
          have d1 := BX.c1
          have e0 := BX.f0
          have e1 := BX.f1
          refine wpAnyH_ready (rs := [9]) (by kernel_rfl) (by simp) ?_
          refine AllReadyH.cons rfl (fun K hK => ?_) AllReadyH.nil
          go_simp
          refine hK.out _ _ ((hHeld.setNew (p := ⟨v10x3.heap.size, 0, none⟩) hBw _).setNew (p := ⟨v10x3.heap.size, 1, none⟩) hBw _) (fun hHeld => ?_)
          clear hK K
          refine held_take (i := 10) (v := ?v27) rfl rfl (by kernel_rfl) (by kernel_rfl) (by kernel_rfl) (fun _ _ _ h => h) (Or.inl ⟨by rfl, ?hy27⟩) hHeld ?rest27
          case hy27 => first | (intro w hSw; (try dsimp only at hSw); go_simp; done) | (intro w hSw; (try dsimp only at hSw); go_simp; with_reducible rfl)
          try simp only [List.setIfInBounds_toArray, List.set_cons_zero, List.set_cons_succ]
          refine held_take (i := 11) (v := ?v28) rfl rfl (by kernel_rfl) (by kernel_rfl) (by kernel_rfl) (fun _ _ _ h => h) (Or.inl ⟨by rfl, ?hy28⟩) hHeld ?rest28
          case hy28 => first | (intro w hSw; (try dsimp only at hSw); go_simp; done) | (intro w hSw; (try dsimp only at hSw); go_simp; with_reducible rfl)
          try simp only [List.setIfInBounds_toArray, List.set_cons_zero, List.set_cons_succ]
          refine wpAnyH_done (by kernel_rfl) ?_ _
          have kz : Kept v11x8 ((v11x8.setCell ⟨v10x3.heap.size, 0, none⟩ (.int .i64 1)).setCell ⟨v10x3.heap.size, 1, none⟩ (.int .i64 0)) (some (v10x3.heap.size)) := ((Kept.refl v11x8 (some (v10x3.heap.size))).setRow _ _).setRow _ _
          refine ⟨X, v10x3.heap.size, b, ?_, ⟨hHeld, BX.set _ _, hBw, row_kept HR kz (fun e => hbu (Option.some.inj e))⟩⟩
          generalize v10x3.heap.size = u'
          with_reducible rfl
      case z10x8 =>
        go_simp
        have hBw : w1'.heap.size ≤ v9x0.heap.size := hHeld.size
        have hk : Kept v9x0 (v9x0.alloc (.cells #[.int .i64 0, .int .i64 0] 40)) none := Kept.alloc _ _ _ _ _
        refine hK.out _ _ (hHeld.tr hk) (fun hHeld => ?_)
        clear hK K
        have BX : Bx2 (v9x0.alloc (.cells #[.int .i64 0, .int .i64 0] 40)) v9x0.heap.size (.int .i64 0) (.int .i64 0) := bx2_alloc _ _ _ _
        have SA := Hid.mk' (SA.out.kept hk)
        obtain ⟨v10x8, hv10x8⟩ : ∃ v, (v9x0.alloc (.cells #[.int .i64 0, .int .i64 0] 40)) = v := ⟨_, rfl⟩
        rw [hv10x8] at hHeld BX SA ⊢
        clear hv10x8 hk
        refine wpAnyH_ready (rs := [3]) (by kernel_rfl) (by simp) ?_
        refine (AllReadyH.cons rfl (fun K hK => ?z12x3) AllReadyH.nil)
        case z12x3 =>
          go_simp
          go_wp2_with (go_at_call 9; refine (HNX.out _ _ hHeld SA.out).mono ?_; rintro e v12x3 ⟨b, rfl, hb, hr, hkn⟩)
          have hnew : Kept w1' v12x3 none := hHeld.tr hkn
          have HR := hr
          have hlu := BX.lt
          have BX := BX.kept hkn
          have hbu : b ≠ v9x0.heap.size := by omega
          refine hK.out _ _ hnew (fun hHeld => ?_)
          clear hK K hkn hnew SA
          refine held_take (i := 4) (v := ?v29) rfl rfl (by kernel_rfl) (by kernel_rfl) (by kernel_rfl) (fun _ _ _ h => h) (Or.inl ⟨by rfl, ?hy29⟩) hHeld ?rest29
          case hy29 => first | (intro w hSw; (try dsimp only at hSw); go_simp; done) | (intro w hSw; (try dsimp only at hSw); go_simp; with_reducible rfl)
          try simp only [List.setIfInBounds_toArray, List.set_cons_zero, List.set_cons_succ]
          refine held_take (i := 5) (v := ?v30) rfl rfl (by kernel_rfl) (by kernel_rfl) (by kernel_rfl) (fun _ _ _ h => h) (Or.inl ⟨by rfl, ?hy30⟩) hHeld ?rest30
          case hy30 => first | (intro w hSw; (try dsimp only at hSw); go_simp; done) | (intro w hSw; (try dsimp only at hSw); go_simp; with_reducible rfl)
          try simp only [List.setIfInBounds_toArray, List.set_cons_zero, List.set_cons_succ]
          refine held_take (i := 6) (v := ?v31) rfl rfl (by kernel_rfl) (by kernel_rfl) (by kernel_rfl) (fun _ _ _ h => h) (Or.inl ⟨by rfl, ?hy31⟩) hHeld ?rest31
          case hy31 => first | (intro w hSw; (try dsimp only at hSw); go_simp; done) | (intro w hSw; (try dsimp only at hSw); go_simp; with_reducible rfl)
          try simp only [List.setIfInBounds_toArray, List.set_cons_zero, List.set_cons_succ]
          refine held_take (i := 7) (v := ?v32) rfl rfl (by kernel_rfl) (by kernel_rfl) (by kernel_rfl) (fun _ _ _ h => h) (Or.inl ⟨by rfl, ?hy32⟩) hHeld ?rest32
          case hy32 => first | (intro w hSw; (try dsimp only at hSw); go_simp; done) | (intro w hSw; (try dsimp only at hSw); go_simp; with_reducible rfl)
          try simp only [List.setIfInBounds_toArray, List.set_cons_zero, List.set_cons_succ]
          have d0 := BX.c0
          have d1 := BX.c1
          have e0 := BX.f0
          have e1 := BX.f1
          refine wpAnyH_ready (rs := [9]) (by kernel_rfl) (by simp) ?_
          refine AllReadyH.cons rfl (fun K hK => ?_) AllReadyH.nil
          go_simp
          refine hK.out _ _ ((hHeld.setNew (p := ⟨v9x0.heap.size, 0, none⟩) hBw _).setNew (p := ⟨v9x0.heap.size, 1, none⟩) hBw _) (fun hHeld => ?_)
          clear hK K
          refine held_take (i := 10) (v := ?v33) rfl rfl (by kernel_rfl) (by kernel_rfl) (by kernel_rfl) (fun _ _ _ h => h) (Or.inl ⟨by rfl, ?hy33⟩) hHeld ?rest33
          case hy33 => first | (intro w hSw; (try dsimp only at hSw); go_simp; done) | (intro w hSw; (try dsimp only at hSw); go_simp; with_reducible rfl)
          try simp only [List.setIfInBounds_toArray, List.set_cons_zero, List.set_cons_succ]
          refine held_take (i := 11) (v := ?v34) rfl rfl (by kernel_rfl) (by kernel_rfl) (by kernel_rfl) (fun _ _ _ h => h) (Or.inl ⟨by rfl, ?hy34⟩) hHeld ?rest34
          case hy34 => first | (intro w hSw; (try dsimp only at hSw); go_simp; done) | (intro w hSw; (try dsimp only at hSw); go_simp; with_reducible rfl)
          try simp only [List.setIfInBounds_toArray, List.set_cons_zero, List.set_cons_succ]
          refine wpAnyH_done (by kernel_rfl) ?_ _
          have kz : Kept v12x3 ((v12x3.setCell ⟨v9x0.heap.size, 0, none⟩ (.int .i64 1)).setCell ⟨v9x0.heap.size, 1, none⟩ (.int .i64 0)) (some (v9x0.heap.size)) := ((Kept.refl v12x3 (some (v9x0.heap.size))).setRow _ _).setRow _ _
          refine ⟨X, v9x0.heap.size, b, ?_, ⟨hHeld, BX.set _ _, hBw, row_kept HR kz (fun e => hbu (Option.some.inj e))⟩⟩
          generalize v9x0.heap.size = u'
          with_reducible rfl
    case z9x8 =>
      go_simp
      have hBw : w1'.heap.size ≤ w1'.heap.size := Nat.le_refl _
      have hk : Kept w1' (w1'.alloc (.cells #[.int .i64 0, .int .i64 0] 40)).drew none := (Kept.alloc _ _ _ _ _).tr (Kept.drew _ _)
      refine hK.out _ _ (hk) (fun hHeld => ?_)
      clear hK K
      have BX : Bx2 (w1'.alloc (.cells #[.int .i64 0, .int .i64 0] 40)).drew w1'.heap.size (.int .i64 0) (.int .i64 0) := (bx2_alloc _ _ _ _).kept (Kept.drew _ _)
      obtain ⟨v9x8, hv9x8⟩ : ∃ v, (w1'.alloc (.cells #[.int .i64 0, .int .i64 0] 40)).drew = v := ⟨_, rfl⟩
      rw [hv9x8] at hHeld BX ⊢
      clear hv9x8 hk
      refine wpAnyH_ready (rs := [0]) (by kernel_rfl) (by simp) ?_
      refine (AllReadyH.cons rfl (fun K hK => ?z13x0) AllReadyH.nil)
      case z13x0 =>
        go_simp
        go_wp2_with (go_at_call 8; refine three_any.mono ?_; rintro e v13x0 ⟨X, rfl, hsat, hj⟩)
        have SA := Hid.mk' hsat
        have hnew : Kept w1' v13x0 none := hHeld.tr hj
        have BX := BX.kept hj
        refine hK.out _ _ hnew (fun hHeld => ?_)
        clear hK K hsat hj hnew
        refine wpAnyH_ready (rs := [3]) (by kernel_rfl) (by simp) ?_
        refine (AllReadyH.cons rfl (fun K hK => ?z14x3) AllReadyH.nil)
        case z14x3 =>
          go_simp
          go_wp2_with (go_at_call 9; refine (HNX.out _ _ hHeld SA.out).mono ?_; rintro e v14x3 ⟨b, rfl, hb, hr, hkn⟩)
          have hnew : Kept w1' v14x3 none := hHeld.tr hkn
          have HR := hr
          have hlu := BX.lt
          have BX := BX.kept hkn
          have hbu : b ≠ w1'.heap.size := by omega
          refine hK.out _ _ hnew (fun hHeld => ?_)
          clear hK K hkn hnew SA
          refine held_take (i := 4) (v := ?v35) rfl rfl (by kernel_rfl) (by kernel_rfl) (by kernel_rfl) (fun _ _ _ h => h) (Or.inl ⟨by rfl, ?hy35⟩) hHeld ?rest35
          case hy35 => first | (intro w hSw; (try dsimp only at hSw); go_simp; done) | (intro w hSw; (try dsimp only at hSw); go_simp; with_reducible rfl)
          try simp only [List.setIfInBounds_toArray, List.set_cons_zero, List.set_cons_succ]
          refine held_take (i := 5) (v := ?v36) rfl rfl (by kernel_rfl) (by kernel_rfl) (by kernel_rfl) (fun _ _ _ h => h) (Or.inl ⟨by rfl, ?hy36⟩) hHeld ?rest36
          case hy36 => first | (intro w hSw; (try dsimp only at hSw); go_simp; done) | (intro w hSw; (try dsimp only at hSw); go_simp; with_reducible rfl)
          try simp only [List.setIfInBounds_toArray, List.set_cons_zero, List.set_cons_succ]
          refine held_take (i := 6) (v := ?v37) rfl rfl (by kernel_rfl) (by kernel_rfl) (by kernel_rfl) (fun _ _ _ h => h) (Or.inl ⟨by rfl, ?hy37⟩) hHeld ?rest37
          case hy37 => first | (intro w hSw; (try dsimp only at hSw); go_simp; done) | (intro w hSw; (try dsimp only at hSw); go_simp; with_reducible rfl)
          try simp only [List.setIfInBounds_toArray, List.set_cons_zero, List.set_cons_succ]
          refine held_take (i := 7) (v := ?v38) rfl rfl (by kernel_rfl) (by kernel_rfl) (by kernel_rfl) (fun _ _ _ h => h) (Or.inl ⟨by rfl, ?hy38⟩) hHeld ?rest38
          case hy38 => first | (intro w hSw; (try dsimp only at hSw); go_simp; done) | (intro w hSw; (try dsimp only at hSw); go_simp; with_reducible rfl)
          try simp only [List.setIfInBounds_toArray, List.set_cons_zero, List.set_cons_succ]
          have d0 := BX.c0
          have d1 := BX.c1
          have e0 := BX.f0
          have e1 := BX.f1
          refine wpAnyH_ready (rs := [9]) (by kernel_rfl) (by simp) ?_
          refine AllReadyH.cons rfl (fun K hK => ?_) AllReadyH.nil
          go_simp
          refine hK.out _ _ ((hHeld.setNew (p := ⟨w1'.heap.size, 0, none⟩) hBw _).setNew (p := ⟨w1'.heap.size, 1, none⟩) hBw _) (fun hHeld => ?_)
          clear hK K
          refine held_take (i := 10) (v := ?v39) rfl rfl (by kernel_rfl) (by kernel_rfl) (by kernel_rfl) (fun _ _ _ h => h) (Or.inl ⟨by rfl, ?hy39⟩) hHeld ?rest39
          case hy39 => first | (intro w hSw; (try dsimp only at hSw); go_simp; done) | (intro w hSw; (try dsimp only at hSw); go_simp; with_reducible rfl)
          try simp only [List.setIfInBounds_toArray, List.set_cons_zero, List.set_cons_succ]
          refine held_take (i := 11) (v := ?v40) rfl rfl (by kernel_rfl) (by kernel_rfl) (by kernel_rfl) (fun _ _ _ h => h) (Or.inl ⟨by rfl, ?hy40⟩) hHeld ?rest40
          case hy40 => first | (intro w hSw; (try dsimp only at hSw); go_simp; done) | (intro w hSw; (try dsimp only at hSw); go_simp; with_reducible rfl)
          try simp only [List.setIfInBounds_toArray, List.set_cons_zero, List.set_cons_succ]
          refine wpAnyH_done (by kernel_rfl) ?_ _
          have kz : Kept v14x3 ((v14x3.setCell ⟨w1'.heap.size, 0, none⟩ (.int .i64 1)).setCell ⟨w1'.heap.size, 1, none⟩ (.int .i64 0)) (some (w1'.heap.size)) := ((Kept.refl v14x3 (some (w1'.heap.size))).setRow _ _).setRow _ _
          refine ⟨X, w1'.heap.size, b, ?_, ⟨hHeld, BX.set _ _, hBw, row_kept HR kz (fun e => hbu (Option.some.inj e))⟩⟩
          generalize w1'.heap.size = u'
          with_reducible rfl
  case cont8 =>
  intro e a' w8' hq'
  obtain ⟨rfl, X8', u8', b8', rfl, hz8⟩ := hq'.out
  have HB1 := Hid.mk' hz8.bx
  have HK1 := Hid.mk' (HK0.out.tr hz8.kept)
  have HZ1 := Hid.mk' hz8.kept
  clear hz8 n0_ n1_ n2_ HNX
  go_wp2_with (fail)
  have n0_ : ∀ w', Kept w8' w' none → w'.cell? ⟨w.heap.size + 1, 0, none⟩ = some (.slice (some ⟨w.heap.size, 0, none⟩) 3 3) := fun w' q => (HBN.out.kept (HK1.out.tr q)).c0
  have n1_ : ∀ w', Kept w8' w' none → w'.cell? ⟨w.heap.size + 1, 1, none⟩ = some (.int .i64 0) := fun w' q => (HBN.out.kept (HK1.out.tr q)).c1
  have n2_ : ∀ w', Kept w8' w' none → w'.cell? ⟨w.heap.size + 1, 2, none⟩ = some (.bool false) := fun w' q => (HBN.out.kept (HK1.out.tr q)).c2
  have HNX : Hid (∀ w' X, Kept w8' w' none → Sat w' X S15 → Calls Tryd.prog 9 #[siteV X S15, .agg #[.int .i64 1, .int .i64 8], .agg #[.slice (some ⟨w.heap.size, 0, none⟩) 3 3, .int .i64 0, .bool false], .int .u32 0, .int .u32 0] w' fun e w2 => ∃ b, e = .returned (.tuple #[.agg #[.int .i64 1, .int .i64 0], .slice (some ⟨b, 0, none⟩) 3 3, .int .i64 0]) ∧ w'.heap.size ≤ b ∧ w2.rowIs b 5 3 (fun i => .int .u8 ((lg (askV S15 1) i : Nat) : Int)) ∧ Kept w' w2 none) := fun w' X q hs => snx16 HSF.out (HK1.out.tr q) HT.out hs 1 8 0 0 1 0 (by omega) (by omega) (by omega) (by omega) (by omega) e2a e2b
  refine Code.wp_mono (Q := Rz ?A15 (fun u b w' => Nz w8' w' u b 1 0 (fun i => .int .u8 ((lg (askV S15 1) i : Nat) : Int)))) ?cont15 ?reg15
  case reg15 =>
    repeat (rename_i hh; clear hh)
    refine wp_region_held_drew (S := fun w' => Kept w8' w' none) (by kernel_rfl) (Kept.drew _ _) (fun hHeld => ?_)
    refine held_take (i := 1) (v := ?v41) rfl rfl (by kernel_rfl) (by kernel_rfl) (by kernel_rfl) (fun _ _ _ h => h) (Or.inl ⟨by rfl, ?hy41⟩) hHeld ?rest41
    case hy41 => first | (intro w hSw; (try dsimp only at hSw); go_simp; done) | (intro w hSw; (try dsimp only at hSw); go_simp; with_reducible rfl)
    try simp only [List.setIfInBounds_toArray, List.set_cons_zero, List.set_cons_succ]
    refine held_take (i := 2) (v := ?v42) rfl rfl (by kernel_rfl) (by kernel_rfl) (by kernel_rfl) (fun _ _ _ h => h) (Or.inl ⟨by rfl, ?hy42⟩) hHeld ?rest42
    case hy42 => first | (intro w hSw; (try dsimp only at hSw); go_simp; done) | (intro w hSw; (try dsimp only at hSw); go_simp; with_reducible rfl)
    try simp only [List.setIfInBounds_toArray, List.set_cons_zero, List.set_cons_succ]
    refine wpAnyH_ready (rs := [0, 8]) (by kernel_rfl) (by simp) ?_
    refine (AllReadyH.cons rfl (fun K hK => ?z16x0) (AllReadyH.cons rfl (fun K hK => ?z16x8) AllReadyH.nil))
    case z16x0 =>
      go_simp
      go_wp2_with (go_at_call 8; refine three_any.mono ?_; rintro e v16x0 ⟨X, rfl, hsat, hj⟩)
      have SA := Hid.mk' hsat
      have hnew : Kept w8' v16x0 none := hHeld.tr hj
      refine hK.out _ _ hnew (fun hHeld => ?_)
      clear hK K hsat hj hnew
      refine wpAnyH_ready (rs := [3, 8]) (by kernel_rfl) (by simp) ?_
      refine (AllReadyH.cons rfl (fun K hK => ?z17x3) (AllReadyH.cons rfl (fun K hK => ?z17x8) AllReadyH.nil))
      case z17x3 =>
        go_simp
        go_wp2_with (go_at_call 9; refine (HNX.out _ _ hHeld SA.out).mono ?_; rintro e v17x3 ⟨b, rfl, hb, hr, hkn⟩)
        have hnew : Kept w8' v17x3 none := hHeld.tr hkn
        have HR := hr
        refine hK.out _ _ hnew (fun hHeld => ?_)
        clear hK K hkn hnew SA
        refine held_take (i := 4) (v := ?v43) rfl rfl (by kernel_rfl) (by kernel_rfl) (by kernel_rfl) (fun _ _ _ h => h) (Or.inl ⟨by rfl, ?hy43⟩) hHeld ?rest43
        case hy43 => first | (intro w hSw; (try dsimp only at hSw); go_simp; done) | (intro w hSw; (try dsimp only at hSw); go_simp; with_reducible rfl)
        try simp only [List.setIfInBounds_toArray, List.set_cons_zero, List.set_cons_succ]
        refine held_take (i := 5) (v := ?v44) rfl rfl (by kernel_rfl) (by kernel_rfl) (by kernel_rfl) (fun _ _ _ h => h) (Or.inl ⟨by rfl, ?hy44⟩) hHeld ?rest44
        case hy44 => first | (intro w hSw; (try dsimp only at hSw); go_simp; done) | (intro w hSw; (try dsimp only at hSw); go_simp; with_reducible rfl)
        try simp only [List.setIfInBounds_toArray, List.set_cons_zero, List.set_cons_succ]
        refine held_take (i := 6) (v := ?v45) rfl rfl (by kernel_rfl) (by kernel_rfl) (by kernel_rfl) (fun _ _ _ h => h) (Or.inl ⟨by rfl, ?hy45⟩) hHeld ?rest45
        case hy45 => first | (intro w hSw; (try dsimp only at hSw); go_simp; done) | (intro w hSw; (try dsimp only at hSw); go_simp; with_reducible rfl)
        try simp only [List.setIfInBounds_toArray, List.set_cons_zero, List.set_cons_succ]
        refine held_take (i := 7) (v := ?v46) rfl rfl (by kernel_rfl) (by kernel_rfl) (by kernel_rfl) (fun _ _ _ h => h) (Or.inl ⟨by rfl, ?hy46⟩) hHeld ?rest46
        case hy46 => first | (intro w hSw; (try dsimp only at hSw); go_simp; done) | (intro w hSw; (try dsimp only at hSw); go_simp; with_reducible rfl)
        try simp only [List.setIfInBounds_toArray, List.set_cons_zero, List.set_cons_succ]
        refine wpAnyH_ready (rs := [8]) (by kernel_rfl) (by simp) ?_
        refine (AllReadyH.cons rfl (fun K hK => ?z18x8) AllReadyH.nil)
        case z18x8 =>
          go_simp
          have hBw : w8'.heap.size ≤ v17x3.heap.size := hHeld.size
          have hk : Kept v17x3 (v17x3.alloc (.cells #[.int .i64 0, .int .i64 0] 40)) none := Kept.alloc _ _ _ _ _
          refine hK.out _ _ (hHeld.tr hk) (fun hHeld => ?_)
          clear hK K
          have BX : Bx2 (v17x3.alloc (.cells #[.int .i64 0, .int .i64 0] 40)) v17x3.heap.size (.int .i64 0) (.int .i64 0) := bx2_alloc _ _ _ _
          have hbu : b ≠ v17x3.heap.size := Nat.ne_of_lt HR.lt
          have HR := row_kept HR hk (by simp)
          obtain ⟨v18x8, hv18x8⟩ : ∃ v, (v17x3.alloc (.cells #[.int .i64 0, .int .i64 0] 40)) = v := ⟨_, rfl⟩
          rw [hv18x8] at hHeld BX HR ⊢
          clear hv18x8 hk
          have d0 := BX.c0
          have d1 := BX.c1
          have e0 := BX.f0
          have e1 := BX.f1
          refine wpAnyH_ready (rs := [9]) (by kernel_rfl) (by simp) ?_
          refine AllReadyH.cons rfl (fun K hK => ?_) AllReadyH.nil
          go_simp
          refine hK.out _ _ ((hHeld.setNew (p := ⟨v17x3.heap.size, 0, none⟩) hBw _).setNew (p := ⟨v17x3.heap.size, 1, none⟩) hBw _) (fun hHeld => ?_)
          clear hK K
          refine held_take (i := 10) (v := ?v47) rfl rfl (by kernel_rfl) (by kernel_rfl) (by kernel_rfl) (fun _ _ _ h => h) (Or.inl ⟨by rfl, ?hy47⟩) hHeld ?rest47
          case hy47 => first | (intro w hSw; (try dsimp only at hSw); go_simp; done) | (intro w hSw; (try dsimp only at hSw); go_simp; with_reducible rfl)
          try simp only [List.setIfInBounds_toArray, List.set_cons_zero, List.set_cons_succ]
          refine held_take (i := 11) (v := ?v48) rfl rfl (by kernel_rfl) (by kernel_rfl) (by kernel_rfl) (fun _ _ _ h => h) (Or.inl ⟨by rfl, ?hy48⟩) hHeld ?rest48
          case hy48 => first | (intro w hSw; (try dsimp only at hSw); go_simp; done) | (intro w hSw; (try dsimp only at hSw); go_simp; with_reducible rfl)
          try simp only [List.setIfInBounds_toArray, List.set_cons_zero, List.set_cons_succ]
          refine wpAnyH_done (by kernel_rfl) ?_ _
          have kz : Kept v18x8 ((v18x8.setCell ⟨v17x3.heap.size, 0, none⟩ (.int .i64 1)).setCell ⟨v17x3.heap.size, 1, none⟩ (.int .i64 0)) (some (v17x3.heap.size)) := ((Kept.refl v18x8 (some (v17x3.heap.size))).setRow _ _).setRow _ _
          refine ⟨X, v17x3.heap.size, b, ?_, ⟨hHeld, BX.set _ _, hBw, row_kept HR kz (fun e => hbu (Option.some.inj e))⟩⟩
          generalize v17x3.heap.size = u'
          with_reducible rfl
      case z17x8 =>
        go_simp
        have hBw : w8'.heap.size ≤ v16x0.heap.size := hHeld.size
        have hk : Kept v16x0 (v16x0.alloc (.cells #[.int .i64 0, .int .i64 0] 40)) none := Kept.alloc _ _ _ _ _
        refine hK.out _ _ (hHeld.tr hk) (fun hHeld => ?_)
        clear hK K
        have BX : Bx2 (v16x0.alloc (.cells #[.int .i64 0, .int .i64 0] 40)) v16x0.heap.size (.int .i64 0) (.int .i64 0) := bx2_alloc _ _ _ _
        have SA := Hid.mk' (SA.out.kept hk)
        obtain ⟨v17x8, hv17x8⟩ : ∃ v, (v16x0.alloc (.cells #[.int .i64 0, .int .i64 0] 40)) = v := ⟨_, rfl⟩
        rw [hv17x8] at hHeld BX SA ⊢
        clear hv17x8 hk
        refine wpAnyH_ready (rs := [3]) (by kernel_rfl) (by simp) ?_
        refine (AllReadyH.cons rfl (fun K hK => ?z19x3) AllReadyH.nil)
        case z19x3 =>
          go_simp
          go_wp2_with (go_at_call 9; refine (HNX.out _ _ hHeld SA.out).mono ?_; rintro e v19x3 ⟨b, rfl, hb, hr, hkn⟩)
          have hnew : Kept w8' v19x3 none := hHeld.tr hkn
          have HR := hr
          have hlu := BX.lt
          have BX := BX.kept hkn
          have hbu : b ≠ v16x0.heap.size := by omega
          refine hK.out _ _ hnew (fun hHeld => ?_)
          clear hK K hkn hnew SA
          refine held_take (i := 4) (v := ?v49) rfl rfl (by kernel_rfl) (by kernel_rfl) (by kernel_rfl) (fun _ _ _ h => h) (Or.inl ⟨by rfl, ?hy49⟩) hHeld ?rest49
          case hy49 => first | (intro w hSw; (try dsimp only at hSw); go_simp; done) | (intro w hSw; (try dsimp only at hSw); go_simp; with_reducible rfl)
          try simp only [List.setIfInBounds_toArray, List.set_cons_zero, List.set_cons_succ]
          refine held_take (i := 5) (v := ?v50) rfl rfl (by kernel_rfl) (by kernel_rfl) (by kernel_rfl) (fun _ _ _ h => h) (Or.inl ⟨by rfl, ?hy50⟩) hHeld ?rest50
          case hy50 => first | (intro w hSw; (try dsimp only at hSw); go_simp; done) | (intro w hSw; (try dsimp only at hSw); go_simp; with_reducible rfl)
          try simp only [List.setIfInBounds_toArray, List.set_cons_zero, List.set_cons_succ]
          refine held_take (i := 6) (v := ?v51) rfl rfl (by kernel_rfl) (by kernel_rfl) (by kernel_rfl) (fun _ _ _ h => h) (Or.inl ⟨by rfl, ?hy51⟩) hHeld ?rest51
          case hy51 => first | (intro w hSw; (try dsimp only at hSw); go_simp; done) | (intro w hSw; (try dsimp only at hSw); go_simp; with_reducible rfl)
          try simp only [List.setIfInBounds_toArray, List.set_cons_zero, List.set_cons_succ]
          refine held_take (i := 7) (v := ?v52) rfl rfl (by kernel_rfl) (by kernel_rfl) (by kernel_rfl) (fun _ _ _ h => h) (Or.inl ⟨by rfl, ?hy52⟩) hHeld ?rest52
          case hy52 => first | (intro w hSw; (try dsimp only at hSw); go_simp; done) | (intro w hSw; (try dsimp only at hSw); go_simp; with_reducible rfl)
          try simp only [List.setIfInBounds_toArray, List.set_cons_zero, List.set_cons_succ]
          have d0 := BX.c0
          have d1 := BX.c1
          have e0 := BX.f0
          have e1 := BX.f1
          refine wpAnyH_ready (rs := [9]) (by kernel_rfl) (by simp) ?_
          refine AllReadyH.cons rfl (fun K hK => ?_) AllReadyH.nil
          go_simp
          refine hK.out _ _ ((hHeld.setNew (p := ⟨v16x0.heap.size, 0, none⟩) hBw _).setNew (p := ⟨v16x0.heap.size, 1, none⟩) hBw _) (fun hHeld => ?_)
          clear hK K
          refine held_take (i := 10) (v := ?v53) rfl rfl (by kernel_rfl) (by kernel_rfl) (by kernel_rfl) (fun _ _ _ h => h) (Or.inl ⟨by rfl, ?hy53⟩) hHeld ?rest53
          case hy53 => first | (intro w hSw; (try dsimp only at hSw); go_simp; done) | (intro w hSw; (try dsimp only at hSw); go_simp; with_reducible rfl)
          try simp only [List.setIfInBounds_toArray, List.set_cons_zero, List.set_cons_succ]
          refine held_take (i := 11) (v := ?v54) rfl rfl (by kernel_rfl) (by kernel_rfl) (by kernel_rfl) (fun _ _ _ h => h) (Or.inl ⟨by rfl, ?hy54⟩) hHeld ?rest54
          case hy54 => first | (intro w hSw; (try dsimp only at hSw); go_simp; done) | (intro w hSw; (try dsimp only at hSw); go_simp; with_reducible rfl)
          try simp only [List.setIfInBounds_toArray, List.set_cons_zero, List.set_cons_succ]
          refine wpAnyH_done (by kernel_rfl) ?_ _
          have kz : Kept v19x3 ((v19x3.setCell ⟨v16x0.heap.size, 0, none⟩ (.int .i64 1)).setCell ⟨v16x0.heap.size, 1, none⟩ (.int .i64 0)) (some (v16x0.heap.size)) := ((Kept.refl v19x3 (some (v16x0.heap.size))).setRow _ _).setRow _ _
          refine ⟨X, v16x0.heap.size, b, ?_, ⟨hHeld, BX.set _ _, hBw, row_kept HR kz (fun e => hbu (Option.some.inj e))⟩⟩
          generalize v16x0.heap.size = u'
          with_reducible rfl
    case z16x8 =>
      go_simp
      have hBw : w8'.heap.size ≤ w8'.heap.size := Nat.le_refl _
      have hk : Kept w8' (w8'.alloc (.cells #[.int .i64 0, .int .i64 0] 40)).drew none := (Kept.alloc _ _ _ _ _).tr (Kept.drew _ _)
      refine hK.out _ _ (hk) (fun hHeld => ?_)
      clear hK K
      have BX : Bx2 (w8'.alloc (.cells #[.int .i64 0, .int .i64 0] 40)).drew w8'.heap.size (.int .i64 0) (.int .i64 0) := (bx2_alloc _ _ _ _).kept (Kept.drew _ _)
      obtain ⟨v16x8, hv16x8⟩ : ∃ v, (w8'.alloc (.cells #[.int .i64 0, .int .i64 0] 40)).drew = v := ⟨_, rfl⟩
      rw [hv16x8] at hHeld BX ⊢
      clear hv16x8 hk
      refine wpAnyH_ready (rs := [0]) (by kernel_rfl) (by simp) ?_
      refine (AllReadyH.cons rfl (fun K hK => ?z20x0) AllReadyH.nil)
      case z20x0 =>
        go_simp
        go_wp2_with (go_at_call 8; refine three_any.mono ?_; rintro e v20x0 ⟨X, rfl, hsat, hj⟩)
        have SA := Hid.mk' hsat
        have hnew : Kept w8' v20x0 none := hHeld.tr hj
        have BX := BX.kept hj
        refine hK.out _ _ hnew (fun hHeld => ?_)
        clear hK K hsat hj hnew
        refine wpAnyH_ready (rs := [3]) (by kernel_rfl) (by simp) ?_
        refine (AllReadyH.cons rfl (fun K hK => ?z21x3) AllReadyH.nil)
        case z21x3 =>
          go_simp
          go_wp2_with (go_at_call 9; refine (HNX.out _ _ hHeld SA.out).mono ?_; rintro e v21x3 ⟨b, rfl, hb, hr, hkn⟩)
          have hnew : Kept w8' v21x3 none := hHeld.tr hkn
          have HR := hr
          have hlu := BX.lt
          have BX := BX.kept hkn
          have hbu : b ≠ w8'.heap.size := by omega
          refine hK.out _ _ hnew (fun hHeld => ?_)
          clear hK K hkn hnew SA
          refine held_take (i := 4) (v := ?v55) rfl rfl (by kernel_rfl) (by kernel_rfl) (by kernel_rfl) (fun _ _ _ h => h) (Or.inl ⟨by rfl, ?hy55⟩) hHeld ?rest55
          case hy55 => first | (intro w hSw; (try dsimp only at hSw); go_simp; done) | (intro w hSw; (try dsimp only at hSw); go_simp; with_reducible rfl)
          try simp only [List.setIfInBounds_toArray, List.set_cons_zero, List.set_cons_succ]
          refine held_take (i := 5) (v := ?v56) rfl rfl (by kernel_rfl) (by kernel_rfl) (by kernel_rfl) (fun _ _ _ h => h) (Or.inl ⟨by rfl, ?hy56⟩) hHeld ?rest56
          case hy56 => first | (intro w hSw; (try dsimp only at hSw); go_simp; done) | (intro w hSw; (try dsimp only at hSw); go_simp; with_reducible rfl)
          try simp only [List.setIfInBounds_toArray, List.set_cons_zero, List.set_cons_succ]
          refine held_take (i := 6) (v := ?v57) rfl rfl (by kernel_rfl) (by kernel_rfl) (by kernel_rfl) (fun _ _ _ h => h) (Or.inl ⟨by rfl, ?hy57⟩) hHeld ?rest57
          case hy57 => first | (intro w hSw; (try dsimp only at hSw); go_simp; done) | (intro w hSw; (try dsimp only at hSw); go_simp; with_reducible rfl)
          try simp only [List.setIfInBounds_toArray, List.set_cons_zero, List.set_cons_succ]
          refine held_take (i := 7) (v := ?v58) rfl rfl (by kernel_rfl) (by kernel_rfl) (by kernel_rfl) (fun _ _ _ h => h) (Or.inl ⟨by rfl, ?hy58⟩) hHeld ?rest58
          case hy58 => first | (intro w hSw; (try dsimp only at hSw); go_simp; done) | (intro w hSw; (try dsimp only at hSw); go_simp; with_reducible rfl)
          try simp only [List.setIfInBounds_toArray, List.set_cons_zero, List.set_cons_succ]
          have d0 := BX.c0
          have d1 := BX.c1
          have e0 := BX.f0
          have e1 := BX.f1
          refine wpAnyH_ready (rs := [9]) (by kernel_rfl) (by simp) ?_
          refine AllReadyH.cons rfl (fun K hK => ?_) AllReadyH.nil
          go_simp
          refine hK.out _ _ ((hHeld.setNew (p := ⟨w8'.heap.size, 0, none⟩) hBw _).setNew (p := ⟨w8'.heap.size, 1, none⟩) hBw _) (fun hHeld => ?_)
          clear hK K
          refine held_take (i := 10) (v := ?v59) rfl rfl (by kernel_rfl) (by kernel_rfl) (by kernel_rfl) (fun _ _ _ h => h) (Or.inl ⟨by rfl, ?hy59⟩) hHeld ?rest59
          case hy59 => first | (intro w hSw; (try dsimp only at hSw); go_simp; done) | (intro w hSw; (try dsimp only at hSw); go_simp; with_reducible rfl)
          try simp only [List.setIfInBounds_toArray, List.set_cons_zero, List.set_cons_succ]
          refine held_take (i := 11) (v := ?v60) rfl rfl (by kernel_rfl) (by kernel_rfl) (by kernel_rfl) (fun _ _ _ h => h) (Or.inl ⟨by rfl, ?hy60⟩) hHeld ?rest60
          case hy60 => first | (intro w hSw; (try dsimp only at hSw); go_simp; done) | (intro w hSw; (try dsimp only at hSw); go_simp; with_reducible rfl)
          try simp only [List.setIfInBounds_toArray, List.set_cons_zero, List.set_cons_succ]
          refine wpAnyH_done (by kernel_rfl) ?_ _
          have kz : Kept v21x3 ((v21x3.setCell ⟨w8'.heap.size, 0, none⟩ (.int .i64 1)).setCell ⟨w8'.heap.size, 1, none⟩ (.int .i64 0)) (some (w8'.heap.size)) := ((Kept.refl v21x3 (some (w8'.heap.size))).setRow _ _).setRow _ _
          refine ⟨X, w8'.heap.size, b, ?_, ⟨hHeld, BX.set _ _, hBw, row_kept HR kz (fun e => hbu (Option.some.inj e))⟩⟩
          generalize w8'.heap.size = u'
          with_reducible rfl
  case cont15 =>
  intro e a' w15' hq'
  obtain ⟨rfl, X15', u15', b15', rfl, hz15⟩ := hq'.out
  have HB2 := Hid.mk' hz15.bx
  have HK2 := Hid.mk' (HK1.out.tr hz15.kept)
  have HZ2 := Hid.mk' hz15.kept
  clear hz15 n0_ n1_ n2_ HNX
  go_wp2_with (fail)
  have n0_ : ∀ w', Kept w15' w' none → w'.cell? ⟨w.heap.size + 1, 0, none⟩ = some (.slice (some ⟨w.heap.size, 0, none⟩) 3 3) := fun w' q => (HBN.out.kept (HK2.out.tr q)).c0
  have n1_ : ∀ w', Kept w15' w' none → w'.cell? ⟨w.heap.size + 1, 1, none⟩ = some (.int .i64 0) := fun w' q => (HBN.out.kept (HK2.out.tr q)).c1
  have n2_ : ∀ w', Kept w15' w' none → w'.cell? ⟨w.heap.size + 1, 2, none⟩ = some (.bool false) := fun w' q => (HBN.out.kept (HK2.out.tr q)).c2
  have HNX : Hid (∀ w' X, Kept w15' w' none → Sat w' X S15 → Calls Tryd.prog 9 #[siteV X S15, .agg #[.int .i64 2, .int .i64 0], .agg #[.slice (some ⟨w.heap.size, 0, none⟩) 3 3, .int .i64 0, .bool false], .int .u32 0, .int .u32 0] w' fun e w2 => e = .returned (.tuple #[.agg #[.int .i64 0, .int .i64 0], .slice none 0 0, .int .i64 2]) ∧ Kept w' w2 none) := fun w' X q hs => snext_arg hs (HT.out.kept (HK2.out.tr q)) (HSF.out.kept (HK2.out.tr q)) 2 0 0 0 (by omega) (by omega) s15_may pla15
  refine Code.wp_mono (Q := Rz ?A22 (fun u b w' => Nz0 w15' w' u 0 0)) ?cont22 ?reg22
  case reg22 =>
    repeat (rename_i hh; clear hh)
    refine wp_region_held_drew (S := fun w' => Kept w15' w' none) (by kernel_rfl) (Kept.drew _ _) (fun hHeld => ?_)
    refine held_take (i := 1) (v := ?v61) rfl rfl (by kernel_rfl) (by kernel_rfl) (by kernel_rfl) (fun _ _ _ h => h) (Or.inl ⟨by rfl, ?hy61⟩) hHeld ?rest61
    case hy61 => first | (intro w hSw; (try dsimp only at hSw); go_simp; done) | (intro w hSw; (try dsimp only at hSw); go_simp; with_reducible rfl)
    try simp only [List.setIfInBounds_toArray, List.set_cons_zero, List.set_cons_succ]
    refine held_take (i := 2) (v := ?v62) rfl rfl (by kernel_rfl) (by kernel_rfl) (by kernel_rfl) (fun _ _ _ h => h) (Or.inl ⟨by rfl, ?hy62⟩) hHeld ?rest62
    case hy62 => first | (intro w hSw; (try dsimp only at hSw); go_simp; done) | (intro w hSw; (try dsimp only at hSw); go_simp; with_reducible rfl)
    try simp only [List.setIfInBounds_toArray, List.set_cons_zero, List.set_cons_succ]
    refine wpAnyH_ready (rs := [0, 8]) (by kernel_rfl) (by simp) ?_
    refine (AllReadyH.cons rfl (fun K hK => ?z23x0) (AllReadyH.cons rfl (fun K hK => ?z23x8) AllReadyH.nil))
    case z23x0 =>
      go_simp
      go_wp2_with (go_at_call 8; refine three_any.mono ?_; rintro e v23x0 ⟨X, rfl, hsat, hj⟩)
      have SA := Hid.mk' hsat
      have hnew : Kept w15' v23x0 none := hHeld.tr hj
      refine hK.out _ _ hnew (fun hHeld => ?_)
      clear hK K hsat hj hnew
      refine wpAnyH_ready (rs := [3, 8]) (by kernel_rfl) (by simp) ?_
      refine (AllReadyH.cons rfl (fun K hK => ?z24x3) (AllReadyH.cons rfl (fun K hK => ?z24x8) AllReadyH.nil))
      case z24x3 =>
        go_simp
        go_wp2_with (go_at_call 9; refine (HNX.out _ _ hHeld SA.out).mono ?_; rintro e v24x3 ⟨rfl, hkn⟩)
        have hnew : Kept w15' v24x3 none := hHeld.tr hkn
        refine hK.out _ _ hnew (fun hHeld => ?_)
        clear hK K hkn hnew SA
        refine held_take (i := 4) (v := ?v63) rfl rfl (by kernel_rfl) (by kernel_rfl) (by kernel_rfl) (fun _ _ _ h => h) (Or.inl ⟨by rfl, ?hy63⟩) hHeld ?rest63
        case hy63 => first | (intro w hSw; (try dsimp only at hSw); go_simp; done) | (intro w hSw; (try dsimp only at hSw); go_simp; with_reducible rfl)
        try simp only [List.setIfInBounds_toArray, List.set_cons_zero, List.set_cons_succ]
        refine held_take (i := 5) (v := ?v64) rfl rfl (by kernel_rfl) (by kernel_rfl) (by kernel_rfl) (fun _ _ _ h => h) (Or.inl ⟨by rfl, ?hy64⟩) hHeld ?rest64
        case hy64 => first | (intro w hSw; (try dsimp only at hSw); go_simp; done) | (intro w hSw; (try dsimp only at hSw); go_simp; with_reducible rfl)
        try simp only [List.setIfInBounds_toArray, List.set_cons_zero, List.set_cons_succ]
        refine held_take (i := 6) (v := ?v65) rfl rfl (by kernel_rfl) (by kernel_rfl) (by kernel_rfl) (fun _ _ _ h => h) (Or.inl ⟨by rfl, ?hy65⟩) hHeld ?rest65
        case hy65 => first | (intro w hSw; (try dsimp only at hSw); go_simp; done) | (intro w hSw; (try dsimp only at hSw); go_simp; with_reducible rfl)
        try simp only [List.setIfInBounds_toArray, List.set_cons_zero, List.set_cons_succ]
        refine held_take (i := 7) (v := ?v66) rfl rfl (by kernel_rfl) (by kernel_rfl) (by kernel_rfl) (fun _ _ _ h => h) (Or.inl ⟨by rfl, ?hy66⟩) hHeld ?rest66
        case hy66 => first | (intro w hSw; (try dsimp only at hSw); go_simp; done) | (intro w hSw; (try dsimp only at hSw); go_simp; with_reducible rfl)
        try simp only [List.setIfInBounds_toArray, List.set_cons_zero, List.set_cons_succ]
        refine wpAnyH_ready (rs := [8]) (by kernel_rfl) (by simp) ?_
        refine (AllReadyH.cons rfl (fun K hK => ?z25x8) AllReadyH.nil)
        case z25x8 =>
          go_simp
          have hBw : w15'.heap.size ≤ v24x3.heap.size := hHeld.size
          have hk : Kept v24x3 (v24x3.alloc (.cells #[.int .i64 0, .int .i64 0] 40)) none := Kept.alloc _ _ _ _ _
          refine hK.out _ _ (hHeld.tr hk) (fun hHeld => ?_)
          clear hK K
          have BX : Bx2 (v24x3.alloc (.cells #[.int .i64 0, .int .i64 0] 40)) v24x3.heap.size (.int .i64 0) (.int .i64 0) := bx2_alloc _ _ _ _
          obtain ⟨v25x8, hv25x8⟩ : ∃ v, (v24x3.alloc (.cells #[.int .i64 0, .int .i64 0] 40)) = v := ⟨_, rfl⟩
          rw [hv25x8] at hHeld BX ⊢
          clear hv25x8 hk
          have d0 := BX.c0
          have d1 := BX.c1
          have e0 := BX.f0
          have e1 := BX.f1
          refine wpAnyH_ready (rs := [9]) (by kernel_rfl) (by simp) ?_
          refine AllReadyH.cons rfl (fun K hK => ?_) AllReadyH.nil
          go_simp
          refine hK.out _ _ ((hHeld.setNew (p := ⟨v24x3.heap.size, 0, none⟩) hBw _).setNew (p := ⟨v24x3.heap.size, 1, none⟩) hBw _) (fun hHeld => ?_)
          clear hK K
          refine held_take (i := 10) (v := ?v67) rfl rfl (by kernel_rfl) (by kernel_rfl) (by kernel_rfl) (fun _ _ _ h => h) (Or.inl ⟨by rfl, ?hy67⟩) hHeld ?rest67
          case hy67 => first | (intro w hSw; (try dsimp only at hSw); go_simp; done) | (intro w hSw; (try dsimp only at hSw); go_simp; with_reducible rfl)
          try simp only [List.setIfInBounds_toArray, List.set_cons_zero, List.set_cons_succ]
          refine held_take (i := 11) (v := ?v68) rfl rfl (by kernel_rfl) (by kernel_rfl) (by kernel_rfl) (fun _ _ _ h => h) (Or.inl ⟨by rfl, ?hy68⟩) hHeld ?rest68
          case hy68 => first | (intro w hSw; (try dsimp only at hSw); go_simp; done) | (intro w hSw; (try dsimp only at hSw); go_simp; with_reducible rfl)
          try simp only [List.setIfInBounds_toArray, List.set_cons_zero, List.set_cons_succ]
          refine wpAnyH_done (by kernel_rfl) ?_ _
          obtain ⟨zz, hzz⟩ : ∃ zz : Nat, zz = 0 := ⟨_, rfl⟩
          clear hzz
          refine ⟨X, v24x3.heap.size, zz, ?_, ⟨hHeld, BX.set _ _, hBw⟩⟩
          generalize v24x3.heap.size = u'
          with_reducible rfl
      case z24x8 =>
        go_simp
        have hBw : w15'.heap.size ≤ v23x0.heap.size := hHeld.size
        have hk : Kept v23x0 (v23x0.alloc (.cells #[.int .i64 0, .int .i64 0] 40)) none := Kept.alloc _ _ _ _ _
        refine hK.out _ _ (hHeld.tr hk) (fun hHeld => ?_)
        clear hK K
        have BX : Bx2 (v23x0.alloc (.cells #[.int .i64 0, .int .i64 0] 40)) v23x0.heap.size (.int .i64 0) (.int .i64 0) := bx2_alloc _ _ _ _
        have SA := Hid.mk' (SA.out.kept hk)
        obtain ⟨v24x8, hv24x8⟩ : ∃ v, (v23x0.alloc (.cells #[.int .i64 0, .int .i64 0] 40)) = v := ⟨_, rfl⟩
        rw [hv24x8] at hHeld BX SA ⊢
        clear hv24x8 hk
        refine wpAnyH_ready (rs := [3]) (by kernel_rfl) (by simp) ?_
        refine (AllReadyH.cons rfl (fun K hK => ?z26x3) AllReadyH.nil)
        case z26x3 =>
          go_simp
          go_wp2_with (go_at_call 9; refine (HNX.out _ _ hHeld SA.out).mono ?_; rintro e v26x3 ⟨rfl, hkn⟩)
          have hnew : Kept w15' v26x3 none := hHeld.tr hkn
          have hlu := BX.lt
          have BX := BX.kept hkn
          refine hK.out _ _ hnew (fun hHeld => ?_)
          clear hK K hkn hnew SA
          refine held_take (i := 4) (v := ?v69) rfl rfl (by kernel_rfl) (by kernel_rfl) (by kernel_rfl) (fun _ _ _ h => h) (Or.inl ⟨by rfl, ?hy69⟩) hHeld ?rest69
          case hy69 => first | (intro w hSw; (try dsimp only at hSw); go_simp; done) | (intro w hSw; (try dsimp only at hSw); go_simp; with_reducible rfl)
          try simp only [List.setIfInBounds_toArray, List.set_cons_zero, List.set_cons_succ]
          refine held_take (i := 5) (v := ?v70) rfl rfl (by kernel_rfl) (by kernel_rfl) (by kernel_rfl) (fun _ _ _ h => h) (Or.inl ⟨by rfl, ?hy70⟩) hHeld ?rest70
          case hy70 => first | (intro w hSw; (try dsimp only at hSw); go_simp; done) | (intro w hSw; (try dsimp only at hSw); go_simp; with_reducible rfl)
          try simp only [List.setIfInBounds_toArray, List.set_cons_zero, List.set_cons_succ]
          refine held_take (i := 6) (v := ?v71) rfl rfl (by kernel_rfl) (by kernel_rfl) (by kernel_rfl) (fun _ _ _ h => h) (Or.inl ⟨by rfl, ?hy71⟩) hHeld ?rest71
          case hy71 => first | (intro w hSw; (try dsimp only at hSw); go_simp; done) | (intro w hSw; (try dsimp only at hSw); go_simp; with_reducible rfl)
          try simp only [List.setIfInBounds_toArray, List.set_cons_zero, List.set_cons_succ]
          refine held_take (i := 7) (v := ?v72) rfl rfl (by kernel_rfl) (by kernel_rfl) (by kernel_rfl) (fun _ _ _ h => h) (Or.inl ⟨by rfl, ?hy72⟩) hHeld ?rest72
          case hy72 => first | (intro w hSw; (try dsimp only at hSw); go_simp; done) | (intro w hSw; (try dsimp only at hSw); go_simp; with_reducible rfl)
          try simp only [List.setIfInBounds_toArray, List.set_cons_zero, List.set_cons_succ]
          have d0 := BX.c0
          have d1 := BX.c1
          have e0 := BX.f0
          have e1 := BX.f1
          refine wpAnyH_ready (rs := [9]) (by kernel_rfl) (by simp) ?_
          refine AllReadyH.cons rfl (fun K hK => ?_) AllReadyH.nil
          go_simp
          refine hK.out _ _ ((hHeld.setNew (p := ⟨v23x0.heap.size, 0, none⟩) hBw _).setNew (p := ⟨v23x0.heap.size, 1, none⟩) hBw _) (fun hHeld => ?_)
          clear hK K
          refine held_take (i := 10) (v := ?v73) rfl rfl (by kernel_rfl) (by kernel_rfl) (by kernel_rfl) (fun _ _ _ h => h) (Or.inl ⟨by rfl, ?hy73⟩) hHeld ?rest73
          case hy73 => first | (intro w hSw; (try dsimp only at hSw); go_simp; done) | (intro w hSw; (try dsimp only at hSw); go_simp; with_reducible rfl)
          try simp only [List.setIfInBounds_toArray, List.set_cons_zero, List.set_cons_succ]
          refine held_take (i := 11) (v := ?v74) rfl rfl (by kernel_rfl) (by kernel_rfl) (by kernel_rfl) (fun _ _ _ h => h) (Or.inl ⟨by rfl, ?hy74⟩) hHeld ?rest74
          case hy74 => first | (intro w hSw; (try dsimp only at hSw); go_simp; done) | (intro w hSw; (try dsimp only at hSw); go_simp; with_reducible rfl)
          try simp only [List.setIfInBounds_toArray, List.set_cons_zero, List.set_cons_succ]
          refine wpAnyH_done (by kernel_rfl) ?_ _
          obtain ⟨zz, hzz⟩ : ∃ zz : Nat, zz = 0 := ⟨_, rfl⟩
          clear hzz
          refine ⟨X, v23x0.heap.size, zz, ?_, ⟨hHeld, BX.set _ _, hBw⟩⟩
          generalize v23x0.heap.size = u'
          with_reducible rfl
    case z23x8 =>
      go_simp
      have hBw : w15'.heap.size ≤ w15'.heap.size := Nat.le_refl _
      have hk : Kept w15' (w15'.alloc (.cells #[.int .i64 0, .int .i64 0] 40)).drew none := (Kept.alloc _ _ _ _ _).tr (Kept.drew _ _)
      refine hK.out _ _ (hk) (fun hHeld => ?_)
      clear hK K
      have BX : Bx2 (w15'.alloc (.cells #[.int .i64 0, .int .i64 0] 40)).drew w15'.heap.size (.int .i64 0) (.int .i64 0) := (bx2_alloc _ _ _ _).kept (Kept.drew _ _)
      obtain ⟨v23x8, hv23x8⟩ : ∃ v, (w15'.alloc (.cells #[.int .i64 0, .int .i64 0] 40)).drew = v := ⟨_, rfl⟩
      rw [hv23x8] at hHeld BX ⊢
      clear hv23x8 hk
      refine wpAnyH_ready (rs := [0]) (by kernel_rfl) (by simp) ?_
      refine (AllReadyH.cons rfl (fun K hK => ?z27x0) AllReadyH.nil)
      case z27x0 =>
        go_simp
        go_wp2_with (go_at_call 8; refine three_any.mono ?_; rintro e v27x0 ⟨X, rfl, hsat, hj⟩)
        have SA := Hid.mk' hsat
        have hnew : Kept w15' v27x0 none := hHeld.tr hj
        have BX := BX.kept hj
        refine hK.out _ _ hnew (fun hHeld => ?_)
        clear hK K hsat hj hnew
        refine wpAnyH_ready (rs := [3]) (by kernel_rfl) (by simp) ?_
        refine (AllReadyH.cons rfl (fun K hK => ?z28x3) AllReadyH.nil)
        case z28x3 =>
          go_simp
          go_wp2_with (go_at_call 9; refine (HNX.out _ _ hHeld SA.out).mono ?_; rintro e v28x3 ⟨rfl, hkn⟩)
          have hnew : Kept w15' v28x3 none := hHeld.tr hkn
          have hlu := BX.lt
          have BX := BX.kept hkn
          refine hK.out _ _ hnew (fun hHeld => ?_)
          clear hK K hkn hnew SA
          refine held_take (i := 4) (v := ?v75) rfl rfl (by kernel_rfl) (by kernel_rfl) (by kernel_rfl) (fun _ _ _ h => h) (Or.inl ⟨by rfl, ?hy75⟩) hHeld ?rest75
          case hy75 => first | (intro w hSw; (try dsimp only at hSw); go_simp; done) | (intro w hSw; (try dsimp only at hSw); go_simp; with_reducible rfl)
          try simp only [List.setIfInBounds_toArray, List.set_cons_zero, List.set_cons_succ]
          refine held_take (i := 5) (v := ?v76) rfl rfl (by kernel_rfl) (by kernel_rfl) (by kernel_rfl) (fun _ _ _ h => h) (Or.inl ⟨by rfl, ?hy76⟩) hHeld ?rest76
          case hy76 => first | (intro w hSw; (try dsimp only at hSw); go_simp; done) | (intro w hSw; (try dsimp only at hSw); go_simp; with_reducible rfl)
          try simp only [List.setIfInBounds_toArray, List.set_cons_zero, List.set_cons_succ]
          refine held_take (i := 6) (v := ?v77) rfl rfl (by kernel_rfl) (by kernel_rfl) (by kernel_rfl) (fun _ _ _ h => h) (Or.inl ⟨by rfl, ?hy77⟩) hHeld ?rest77
          case hy77 => first | (intro w hSw; (try dsimp only at hSw); go_simp; done) | (intro w hSw; (try dsimp only at hSw); go_simp; with_reducible rfl)
          try simp only [List.setIfInBounds_toArray, List.set_cons_zero, List.set_cons_succ]
          refine held_take (i := 7) (v := ?v78) rfl rfl (by kernel_rfl) (by kernel_rfl) (by kernel_rfl) (fun _ _ _ h => h) (Or.inl ⟨by rfl, ?hy78⟩) hHeld ?rest78
          case hy78 => first | (intro w hSw; (try dsimp only at hSw); go_simp; done) | (intro w hSw; (try dsimp only at hSw); go_simp; with_reducible rfl)
          try simp only [List.setIfInBounds_toArray, List.set_cons_zero, List.set_cons_succ]
          have d0 := BX.c0
          have d1 := BX.c1
          have e0 := BX.f0
          have e1 := BX.f1
          refine wpAnyH_ready (rs := [9]) (by kernel_rfl) (by simp) ?_
          refine AllReadyH.cons rfl (fun K hK => ?_) AllReadyH.nil
          go_simp
          refine hK.out _ _ ((hHeld.setNew (p := ⟨w15'.heap.size, 0, none⟩) hBw _).setNew (p := ⟨w15'.heap.size, 1, none⟩) hBw _) (fun hHeld => ?_)
          clear hK K
          refine held_take (i := 10) (v := ?v79) rfl rfl (by kernel_rfl) (by kernel_rfl) (by kernel_rfl) (fun _ _ _ h => h) (Or.inl ⟨by rfl, ?hy79⟩) hHeld ?rest79
          case hy79 => first | (intro w hSw; (try dsimp only at hSw); go_simp; done) | (intro w hSw; (try dsimp only at hSw); go_simp; with_reducible rfl)
          try simp only [List.setIfInBounds_toArray, List.set_cons_zero, List.set_cons_succ]
          refine held_take (i := 11) (v := ?v80) rfl rfl (by kernel_rfl) (by kernel_rfl) (by kernel_rfl) (fun _ _ _ h => h) (Or.inl ⟨by rfl, ?hy80⟩) hHeld ?rest80
          case hy80 => first | (intro w hSw; (try dsimp only at hSw); go_simp; done) | (intro w hSw; (try dsimp only at hSw); go_simp; with_reducible rfl)
          try simp only [List.setIfInBounds_toArray, List.set_cons_zero, List.set_cons_succ]
          refine wpAnyH_done (by kernel_rfl) ?_ _
          obtain ⟨zz, hzz⟩ : ∃ zz : Nat, zz = 0 := ⟨_, rfl⟩
          clear hzz
          refine ⟨X, w15'.heap.size, zz, ?_, ⟨hHeld, BX.set _ _, hBw⟩⟩
          generalize w15'.heap.size = u'
          with_reducible rfl
  case cont22 =>
  intro e a' w22' hq'
  obtain ⟨rfl, X22', u22', b22', rfl, hz22⟩ := hq'.out
  have HK3 := Hid.mk' (HK2.out.tr hz22.kept)
  have HZ3 := Hid.mk' hz22.kept
  clear hz22 n0_ n1_ n2_ HNX
  have KC0 := Hid.mk' ((HZ1.out.tr HZ2.out).tr HZ3.out)
  have KC1 := Hid.mk' (HZ2.out.tr HZ3.out)
  have KC2 := Hid.mk' HZ3.out
  go_wp2_with (first | (have hgo := hKZ; clear hgo; go_at_call 10; refine (salive_any (HT.out.kept (HK3.out.tr hKZ))).mono ?_; rintro e wA ⟨rfl, hkA⟩; have hKA : Kept w22' wA none := hKZ.tr hkA) | (have hgo := hKE; clear hgo; go_at_call 7; have kz : Kept wE (wE.alloc (.cells #[.int .i64 0, .int .i64 0] 40)) none := Kept.alloc _ _ _ _ _; refine (sbou_no (X := X00) (S := S00) (sat00 _) (HT.out.kept ((HK3.out.tr hKE).tr kz)) s00_no).mono ?_; rintro e wZ ⟨rfl, hkZ⟩; have hKZ : Kept w22' wZ none := (hKE.tr kz).tr hkZ; have y0a := (HB0.out.kept (KC0.out.tr hKZ)).c0; have y0b := (HB0.out.kept (KC0.out.tr hKZ)).c1; have y1a := (HB1.out.kept (KC1.out.tr hKZ)).c0; have y1b := (HB1.out.kept (KC1.out.tr hKZ)).c1; have y2a := (HB2.out.kept (KC2.out.tr hKZ)).c0; have y2b := (HB2.out.kept (KC2.out.tr hKZ)).c1) | (have hgo := SA2; clear hgo; go_at_call 9; refine (snext_bad (F := ⟨[], 0, false⟩) (ca := 0) SA2.out (HT.out.kept (HK3.out.tr hv2)) (safe_nil16 _) 0 0 0 0 (by omega) (by omega) s15_may pla150 (by decide)).mono ?_; rintro e wE ⟨rfl, hkE⟩; have hKE : Kept w22' wE none := hv2.tr hkE) | (go_at_call 8; refine three_any.mono ?_; rintro e v2 ⟨Y2, rfl, hsat, hj2⟩; have SA2 := Hid.mk' hsat; have hv2 : Kept w22' v2 none := hj2; clear hsat))
  go_ret
  exact ⟨by simp, (HK.out.tr (HK3.out.tr hKA)).below⟩

end Go.Proofs.YtkgimccffggfdaaDoor

