/-
  Texts joined: some of those that the proofs of this seat stand on.
-/
import Derived.Test.YtkgimccffggfdaaDoorSeqD
import Derived.Test.YtkgimccffggfdaaDoorThreeS
import Derived.Test.YtkgimccffggfdaaDoorSafeCJ
import Derived.Deep.RegionHeld
/-
  THE CONTRACT of alive, of the statements (made by a program).
-/
namespace Go.Proofs.YtkgimccffggfdaaDoor
open Go.RowKit Go.Lib Go.Deep
set_option linter.unusedVariables false
set_option linter.unusedSimpArgs false

/-- Behind a region that asks Next: what it told, in a box of its own. -/
structure Nz (W w' : World) (u b : Nat) (x y : Int) (f : Nat → Value) : Prop where
  kept : Kept W w' none
  bx : Bx2 w' u (.int .i64 x) (.int .i64 y)
  new : W.heap.size ≤ u
  row : w'.rowIs b 5 3 f
structure Nz0 (W w' : World) (u : Nat) (x y : Int) : Prop where
  kept : Kept W w' none
  bx : Bx2 w' u (.int .i64 x) (.int .i64 y)
  new : W.heap.size ≤ u
def Rz (A : Sa → Nat → Nat → Act) (P : Nat → Nat → World → Prop) (e : Exit) (a : Act) (w : World) : Prop := match e with
  | .normal => ∃ X u b, a = A X u b ∧ P u b w
  | _ => False
theorem Rz.out {A : Sa → Nat → Nat → Act} {P : Nat → Nat → World → Prop} {e : Exit} {a : Act} {w : World} (h : Rz A P e a w) : e = .normal ∧ ∃ X u b, a = A X u b ∧ P u b w := by
  cases e with
  | normal => exact ⟨rfl, h⟩
  | _ => exact h.elim

/-- The standing of the examples. -/
def F16 : Sf := ⟨[⟨2, 5, 0⟩, ⟨1, 0, 0⟩, ⟨1, 0, 0⟩], 0, false⟩
theorem f16_at (w : World) : SafeAt ((w.alloc (.cells #[.int .u8 2, .int .i64 5, .int .i64 0, .int .u8 1, .int .i64 0, .int .i64 0, .int .u8 1, .int .i64 0, .int .i64 0] 23)).alloc (.cells #[.slice (some ⟨w.heap.size, 0, none⟩) 3 3, .int .i64 0, .bool false] 26)) (some ⟨w.heap.size, 0, none⟩) 3 F16 ∧ Box ((w.alloc (.cells #[.int .u8 2, .int .i64 5, .int .i64 0, .int .u8 1, .int .i64 0, .int .i64 0, .int .u8 1, .int .i64 0, .int .i64 0] 23)).alloc (.cells #[.slice (some ⟨w.heap.size, 0, none⟩) 3 3, .int .i64 0, .bool false] 26)) (w.heap.size + 1) (.slice (some ⟨w.heap.size, 0, none⟩) 3 3) (.int .i64 0) (.bool false) ∧ Kept w ((w.alloc (.cells #[.int .u8 2, .int .i64 5, .int .i64 0, .int .u8 1, .int .i64 0, .int .i64 0, .int .u8 1, .int .i64 0, .int .i64 0] 23)).alloc (.cells #[.slice (some ⟨w.heap.size, 0, none⟩) 3 3, .int .i64 0, .bool false] 26)) none := by
  have k1 : Kept w (w.alloc (.cells #[.int .u8 2, .int .i64 5, .int .i64 0, .int .u8 1, .int .i64 0, .int .i64 0, .int .u8 1, .int .i64 0, .int .i64 0] 23)) none := Kept.alloc _ _ _ _ _
  have k2 : Kept (w.alloc (.cells #[.int .u8 2, .int .i64 5, .int .i64 0, .int .u8 1, .int .i64 0, .int .i64 0, .int .u8 1, .int .i64 0, .int .i64 0] 23)) ((w.alloc (.cells #[.int .u8 2, .int .i64 5, .int .i64 0, .int .u8 1, .int .i64 0, .int .i64 0, .int .u8 1, .int .i64 0, .int .i64 0] 23)).alloc (.cells #[.slice (some ⟨w.heap.size, 0, none⟩) 3 3, .int .i64 0, .bool false] 26)) none := Kept.alloc _ _ _ _ _
  have bx := box_alloc (w.alloc (.cells #[.int .u8 2, .int .i64 5, .int .i64 0, .int .u8 1, .int .i64 0, .int .i64 0, .int .u8 1, .int .i64 0, .int .i64 0] 23)) (.slice (some ⟨w.heap.size, 0, none⟩) 3 3) (.int .i64 0) (.bool false) 26
  rw [World.size_alloc] at bx
  refine ⟨⟨?_, ⟨fun e => absurd e (by simp), Nat.le_refl _, by show (3 : Nat) ≤ _; omega⟩, fun s hs => ?_⟩, bx, k1.tr k2⟩
  · refine lie_of8 (by simp; omega) (three_cases (three_cases ?_ ?_ ?_) (three_cases ?_ ?_ ?_) (three_cases ?_ ?_ ?_)) <;> (first | rfl | (go_simp; done) | (go_simp; rfl))
  · have : s = ⟨2, 5, 0⟩ ∨ s = ⟨1, 0, 0⟩ := by simpa [F16] using hs
    rcases this with rfl | rfl <;> exact ⟨by decide, by unfold i64B; decide, by unfold i64B; decide⟩
theorem go_16 (p : Nat) (s : Int) (c g : Nat) (k : Nat) (t : Int) (h1 : (goQ S15 ⟨p, s⟩ F16 c g).ph = k) (h2 : (goQ S15 ⟨p, s⟩ F16 c g).since = t) : goQ S15 ⟨p, s⟩ F16 c g = ⟨k, t⟩ := by
  generalize goQ S15 ⟨p, s⟩ F16 c g = q at *
  obtain ⟨a, b⟩ := q
  dsimp only at h1 h2
  subst h1 h2
  rfl
/-- Next of the examples. -/
theorem snx16 {w w' : World} {X : Sa} {a : Option Addr} (hF : SafeAt w a 3 F16) (q : Kept w w' none) (hT : Tabb w) (hs : Sat w' X S15) (p : Nat) (s : Int) (c g : Nat) (k : Nat) (t : Int) (hp : p < 2) (hs0 : 0 ≤ s) (hs9 : s ≤ 1048576) (hc : c < 4294967296) (hg : g < 4294967296) (h1 : (goQ S15 ⟨p, s⟩ F16 c g).ph = k) (h2 : (goQ S15 ⟨p, s⟩ F16 c g).since = t) : Calls Tryd.prog 9 #[siteV X S15, .agg #[.int .i64 (p : Int), .int .i64 s], .agg #[.slice a 3 3, .int .i64 0, .bool false], .int .u32 (c : Int), .int .u32 (g : Int)] w' fun e w2 => ∃ b, e = .returned (.tuple #[.agg #[.int .i64 (k : Int), .int .i64 t], .slice (some ⟨b, 0, none⟩) 3 3, .int .i64 0]) ∧ w'.heap.size ≤ b ∧ w2.rowIs b 5 3 (fun i => .int .u8 ((lg (askV S15 k) i : Nat) : Int)) ∧ Kept w' w2 none :=
  snext_go hs (hT.kept q) (hF.kept q) p s c g hc hg s15_may hp hs0 hs9 rfl ⟨k, t⟩ (go_16 p s c g k t h1 h2)
theorem q1a : (goQ S15 ⟨0, 1⟩ F16 2 1).ph = 1 := by decide +kernel
theorem q1b : (goQ S15 ⟨0, 1⟩ F16 2 1).since = 0 := by decide +kernel
theorem a10 : lg (askV S15 1) 0 = 1 := by decide +kernel
theorem a11 : lg (askV S15 1) 1 = 2 := by decide +kernel
theorem a12 : lg (askV S15 1) 2 = 2 := by decide +kernel
set_option maxRecDepth 100000 in
set_option maxHeartbeats 2000000 in
theorem salive_any {w : World} (hT : Tabb w) : Calls Tryd.prog 10 #[] w fun e w' => e = .returned (.bool true) ∧ Kept w w' none := by
  obtain ⟨hsf, hbn, hkn⟩ := f16_at w
  obtain ⟨WN, hWN⟩ : ∃ WN, ((w.alloc (.cells #[.int .u8 2, .int .i64 5, .int .i64 0, .int .u8 1, .int .i64 0, .int .i64 0, .int .u8 1, .int .i64 0, .int .i64 0] 23)).alloc (.cells #[.slice (some ⟨w.heap.size, 0, none⟩) 3 3, .int .i64 0, .bool false] 26)) = WN := ⟨_, rfl⟩
  rw [hWN] at hsf hbn hkn
  have HT := Hid.mk' (hT.kept hkn)
  have HBN := Hid.mk' hbn
  have HK := Hid.mk' hkn
  have HSF := Hid.mk' hsf
  have n0_ : ∀ w', Kept WN w' none → w'.cell? ⟨w.heap.size + 1, 0, none⟩ = some (.slice (some ⟨w.heap.size, 0, none⟩) 3 3) := fun w' q => (HBN.out.kept q).c0
  have n1_ : ∀ w', Kept WN w' none → w'.cell? ⟨w.heap.size + 1, 1, none⟩ = some (.int .i64 0) := fun w' q => (HBN.out.kept q).c1
  have n2_ : ∀ w', Kept WN w' none → w'.cell? ⟨w.heap.size + 1, 2, none⟩ = some (.bool false) := fun w' q => (HBN.out.kept q).c2
  have HNX : Hid (∀ w' X, Kept WN w' none → Sat w' X S15 → Calls Tryd.prog 9 #[siteV X S15, .agg #[.int .i64 0, .int .i64 1], .agg #[.slice (some ⟨w.heap.size, 0, none⟩) 3 3, .int .i64 0, .bool false], .int .u32 2, .int .u32 1] w' fun e w2 => ∃ b, e = .returned (.tuple #[.agg #[.int .i64 1, .int .i64 0], .slice (some ⟨b, 0, none⟩) 3 3, .int .i64 0]) ∧ w'.heap.size ≤ b ∧ w2.rowIs b 5 3 (fun i => .int .u8 ((lg (askV S15 1) i : Nat) : Int)) ∧ Kept w' w2 none) := fun w' X q hs => snx16 HSF.out q HT.out hs 0 1 2 1 1 0 (by omega) (by omega) (by omega) (by omega) (by omega) q1a q1b
  have HWN := Hid.mk' hWN
  clear hT hsf hbn hkn hWN
  go_enter Tryd.func10, Tryd.ntmps10
  go_wp2
  rw [HWN.out]
  refine Code.wp_mono (Q := Rz ?A1 (fun u b w' => Nz WN w' u b 1 0 (fun i => .int .u8 ((lg (askV S15 1) i : Nat) : Int)))) ?cont1 ?reg1
  case reg1 =>
    repeat (rename_i hh; clear hh)
    refine wp_region_held_drew (S := fun w' => Kept WN w' none) (by kernel_rfl) (Kept.drew _ _) (fun hHeld => ?_)
    refine held_take (i := 1) (v := ?v1) rfl rfl (by kernel_rfl) (by kernel_rfl) (by kernel_rfl) (fun _ _ _ h => h) (Or.inl ⟨by rfl, ?hy1⟩) hHeld ?rest1
    case hy1 => first | (intro w hSw; (try dsimp only at hSw); go_simp; done) | (intro w hSw; (try dsimp only at hSw); go_simp; with_reducible rfl)
    try simp only [List.setIfInBounds_toArray, List.set_cons_zero, List.set_cons_succ]
    refine held_take (i := 2) (v := ?v2) rfl rfl (by kernel_rfl) (by kernel_rfl) (by kernel_rfl) (fun _ _ _ h => h) (Or.inl ⟨by rfl, ?hy2⟩) hHeld ?rest2
    case hy2 => first | (intro w hSw; (try dsimp only at hSw); go_simp; done) | (intro w hSw; (try dsimp only at hSw); go_simp; with_reducible rfl)
    try simp only [List.setIfInBounds_toArray, List.set_cons_zero, List.set_cons_succ]
    refine wpAnyH_ready (rs := [0, 8]) (by kernel_rfl) (by simp) ?_
    refine (AllReadyH.cons rfl (fun K hK => ?z2x0) (AllReadyH.cons rfl (fun K hK => ?z2x8) AllReadyH.nil))
    case z2x0 =>
      go_simp
      go_wp2_with (go_at_call 8; refine three_any.mono ?_; rintro e v2x0 ⟨X, rfl, hsat, hj⟩)
      have SA := Hid.mk' hsat
      have hnew : Kept WN v2x0 none := hHeld.tr hj
      refine hK.out _ _ hnew (fun hHeld => ?_)
      clear hK K hsat hj hnew
      refine wpAnyH_ready (rs := [3, 8]) (by kernel_rfl) (by simp) ?_
      refine (AllReadyH.cons rfl (fun K hK => ?z3x3) (AllReadyH.cons rfl (fun K hK => ?z3x8) AllReadyH.nil))
      case z3x3 =>
        go_simp
        go_wp2_with (go_at_call 9; refine (HNX.out _ _ hHeld SA.out).mono ?_; rintro e v3x3 ⟨b, rfl, hb, hr, hkn⟩)
        have hnew : Kept WN v3x3 none := hHeld.tr hkn
        have HR := hr
        refine hK.out _ _ hnew (fun hHeld => ?_)
        clear hK K hkn hnew SA
        refine held_take (i := 4) (v := ?v3) rfl rfl (by kernel_rfl) (by kernel_rfl) (by kernel_rfl) (fun _ _ _ h => h) (Or.inl ⟨by rfl, ?hy3⟩) hHeld ?rest3
        case hy3 => first | (intro w hSw; (try dsimp only at hSw); go_simp; done) | (intro w hSw; (try dsimp only at hSw); go_simp; with_reducible rfl)
        try simp only [List.setIfInBounds_toArray, List.set_cons_zero, List.set_cons_succ]
        refine held_take (i := 5) (v := ?v4) rfl rfl (by kernel_rfl) (by kernel_rfl) (by kernel_rfl) (fun _ _ _ h => h) (Or.inl ⟨by rfl, ?hy4⟩) hHeld ?rest4
        case hy4 => first | (intro w hSw; (try dsimp only at hSw); go_simp; done) | (intro w hSw; (try dsimp only at hSw); go_simp; with_reducible rfl)
        try simp only [List.setIfInBounds_toArray, List.set_cons_zero, List.set_cons_succ]
        refine held_take (i := 6) (v := ?v5) rfl rfl (by kernel_rfl) (by kernel_rfl) (by kernel_rfl) (fun _ _ _ h => h) (Or.inl ⟨by rfl, ?hy5⟩) hHeld ?rest5
        case hy5 => first | (intro w hSw; (try dsimp only at hSw); go_simp; done) | (intro w hSw; (try dsimp only at hSw); go_simp; with_reducible rfl)
        try simp only [List.setIfInBounds_toArray, List.set_cons_zero, List.set_cons_succ]
        refine held_take (i := 7) (v := ?v6) rfl rfl (by kernel_rfl) (by kernel_rfl) (by kernel_rfl) (fun _ _ _ h => h) (Or.inl ⟨by rfl, ?hy6⟩) hHeld ?rest6
        case hy6 => first | (intro w hSw; (try dsimp only at hSw); go_simp; done) | (intro w hSw; (try dsimp only at hSw); go_simp; with_reducible rfl)
        try simp only [List.setIfInBounds_toArray, List.set_cons_zero, List.set_cons_succ]
        refine wpAnyH_ready (rs := [8]) (by kernel_rfl) (by simp) ?_
        refine (AllReadyH.cons rfl (fun K hK => ?z4x8) AllReadyH.nil)
        case z4x8 =>
          go_simp
          have hBw : WN.heap.size ≤ v3x3.heap.size := hHeld.size
          have hk : Kept v3x3 (v3x3.alloc (.cells #[.int .i64 0, .int .i64 0] 40)) none := Kept.alloc _ _ _ _ _
          refine hK.out _ _ (hHeld.tr hk) (fun hHeld => ?_)
          clear hK K
          have BX : Bx2 (v3x3.alloc (.cells #[.int .i64 0, .int .i64 0] 40)) v3x3.heap.size (.int .i64 0) (.int .i64 0) := bx2_alloc _ _ _ _
          have hbu : b ≠ v3x3.heap.size := Nat.ne_of_lt HR.lt
          have HR := row_kept HR hk (by simp)
          obtain ⟨v4x8, hv4x8⟩ : ∃ v, (v3x3.alloc (.cells #[.int .i64 0, .int .i64 0] 40)) = v := ⟨_, rfl⟩
          rw [hv4x8] at hHeld BX HR ⊢
          clear hv4x8 hk
          have d0 := BX.c0
          have d1 := BX.c1
          have e0 := BX.f0
          have e1 := BX.f1
          refine wpAnyH_ready (rs := [9]) (by kernel_rfl) (by simp) ?_
          refine AllReadyH.cons rfl (fun K hK => ?_) AllReadyH.nil
          go_simp
          refine hK.out _ _ ((hHeld.setNew (p := ⟨v3x3.heap.size, 0, none⟩) hBw _).setNew (p := ⟨v3x3.heap.size, 1, none⟩) hBw _) (fun hHeld => ?_)
          clear hK K
          refine held_take (i := 10) (v := ?v7) rfl rfl (by kernel_rfl) (by kernel_rfl) (by kernel_rfl) (fun _ _ _ h => h) (Or.inl ⟨by rfl, ?hy7⟩) hHeld ?rest7
          case hy7 => first | (intro w hSw; (try dsimp only at hSw); go_simp; done) | (intro w hSw; (try dsimp only at hSw); go_simp; with_reducible rfl)
          try simp only [List.setIfInBounds_toArray, List.set_cons_zero, List.set_cons_succ]
          refine held_take (i := 11) (v := ?v8) rfl rfl (by kernel_rfl) (by kernel_rfl) (by kernel_rfl) (fun _ _ _ h => h) (Or.inl ⟨by rfl, ?hy8⟩) hHeld ?rest8
          case hy8 => first | (intro w hSw; (try dsimp only at hSw); go_simp; done) | (intro w hSw; (try dsimp only at hSw); go_simp; with_reducible rfl)
          try simp only [List.setIfInBounds_toArray, List.set_cons_zero, List.set_cons_succ]
          refine wpAnyH_done (by kernel_rfl) ?_ _
          have kz : Kept v4x8 ((v4x8.setCell ⟨v3x3.heap.size, 0, none⟩ (.int .i64 1)).setCell ⟨v3x3.heap.size, 1, none⟩ (.int .i64 0)) (some (v3x3.heap.size)) := ((Kept.refl v4x8 (some (v3x3.heap.size))).setRow _ _).setRow _ _
          refine ⟨X, v3x3.heap.size, b, ?_, ⟨hHeld, BX.set _ _, hBw, row_kept HR kz (fun e => hbu (Option.some.inj e))⟩⟩
          generalize v3x3.heap.size = u'
          with_reducible rfl
      case z3x8 =>
        go_simp
        have hBw : WN.heap.size ≤ v2x0.heap.size := hHeld.size
        have hk : Kept v2x0 (v2x0.alloc (.cells #[.int .i64 0, .int .i64 0] 40)) none := Kept.alloc _ _ _ _ _
        refine hK.out _ _ (hHeld.tr hk) (fun hHeld => ?_)
        clear hK K
        have BX : Bx2 (v2x0.alloc (.cells #[.int .i64 0, .int .i64 0] 40)) v2x0.heap.size (.int .i64 0) (.int .i64 0) := bx2_alloc _ _ _ _
        have SA := Hid.mk' (SA.out.kept hk)
        obtain ⟨v3x8, hv3x8⟩ : ∃ v, (v2x0.alloc (.cells #[.int .i64 0, .int .i64 0] 40)) = v := ⟨_, rfl⟩
        rw [hv3x8] at hHeld BX SA ⊢
        clear hv3x8 hk
        refine wpAnyH_ready (rs := [3]) (by kernel_rfl) (by simp) ?_
        refine (AllReadyH.cons rfl (fun K hK => ?z5x3) AllReadyH.nil)
        case z5x3 =>
          go_simp
          go_wp2_with (go_at_call 9; refine (HNX.out _ _ hHeld SA.out).mono ?_; rintro e v5x3 ⟨b, rfl, hb, hr, hkn⟩)
          have hnew : Kept WN v5x3 none := hHeld.tr hkn
          have HR := hr
          have hlu := BX.lt
          have BX := BX.kept hkn
          have hbu : b ≠ v2x0.heap.size := by omega
          refine hK.out _ _ hnew (fun hHeld => ?_)
          clear hK K hkn hnew SA
          refine held_take (i := 4) (v := ?v9) rfl rfl (by kernel_rfl) (by kernel_rfl) (by kernel_rfl) (fun _ _ _ h => h) (Or.inl ⟨by rfl, ?hy9⟩) hHeld ?rest9
          case hy9 => first | (intro w hSw; (try dsimp only at hSw); go_simp; done) | (intro w hSw; (try dsimp only at hSw); go_simp; with_reducible rfl)
          try simp only [List.setIfInBounds_toArray, List.set_cons_zero, List.set_cons_succ]
          refine held_take (i := 5) (v := ?v10) rfl rfl (by kernel_rfl) (by kernel_rfl) (by kernel_rfl) (fun _ _ _ h => h) (Or.inl ⟨by rfl, ?hy10⟩) hHeld ?rest10
          case hy10 => first | (intro w hSw; (try dsimp only at hSw); go_simp; done) | (intro w hSw; (try dsimp only at hSw); go_simp; with_reducible rfl)
          try simp only [List.setIfInBounds_toArray, List.set_cons_zero, List.set_cons_succ]
          refine held_take (i := 6) (v := ?v11) rfl rfl (by kernel_rfl) (by kernel_rfl) (by kernel_rfl) (fun _ _ _ h => h) (Or.inl ⟨by rfl, ?hy11⟩) hHeld ?rest11
          case hy11 => first | (intro w hSw; (try dsimp only at hSw); go_simp; done) | (intro w hSw; (try dsimp only at hSw); go_simp; with_reducible rfl)
          try simp only [List.setIfInBounds_toArray, List.set_cons_zero, List.set_cons_succ]
          refine held_take (i := 7) (v := ?v12) rfl rfl (by kernel_rfl) (by kernel_rfl) (by kernel_rfl) (fun _ _ _ h => h) (Or.inl ⟨by rfl, ?hy12⟩) hHeld ?rest12
          case hy12 => first | (intro w hSw; (try dsimp only at hSw); go_simp; done) | (intro w hSw; (try dsimp only at hSw); go_simp; with_reducible rfl)
          try simp only [List.setIfInBounds_toArray, List.set_cons_zero, List.set_cons_succ]
          have d0 := BX.c0
          have d1 := BX.c1
          have e0 := BX.f0
          have e1 := BX.f1
          refine wpAnyH_ready (rs := [9]) (by kernel_rfl) (by simp) ?_
          refine AllReadyH.cons rfl (fun K hK => ?_) AllReadyH.nil
          go_simp
          refine hK.out _ _ ((hHeld.setNew (p := ⟨v2x0.heap.size, 0, none⟩) hBw _).setNew (p := ⟨v2x0.heap.size, 1, none⟩) hBw _) (fun hHeld => ?_)
          clear hK K
          refine held_take (i := 10) (v := ?v13) rfl rfl (by kernel_rfl) (by kernel_rfl) (by kernel_rfl) (fun _ _ _ h => h) (Or.inl ⟨by rfl, ?hy13⟩) hHeld ?rest13
          case hy13 => first | (intro w hSw; (try dsimp only at hSw); go_simp; done) | (intro w hSw; (try dsimp only at hSw); go_simp; with_reducible rfl)
          try simp only [List.setIfInBounds_toArray, List.set_cons_zero, List.set_cons_succ]
          refine held_take (i := 11) (v := ?v14) rfl rfl (by kernel_rfl) (by kernel_rfl) (by kernel_rfl) (fun _ _ _ h => h) (Or.inl ⟨by rfl, ?hy14⟩) hHeld ?rest14
          case hy14 => first | (intro w hSw; (try dsimp only at hSw); go_simp; done) | (intro w hSw; (try dsimp only at hSw); go_simp; with_reducible rfl)
          try simp only [List.setIfInBounds_toArray, List.set_cons_zero, List.set_cons_succ]
          refine wpAnyH_done (by kernel_rfl) ?_ _
          have kz : Kept v5x3 ((v5x3.setCell ⟨v2x0.heap.size, 0, none⟩ (.int .i64 1)).setCell ⟨v2x0.heap.size, 1, none⟩ (.int .i64 0)) (some (v2x0.heap.size)) := ((Kept.refl v5x3 (some (v2x0.heap.size))).setRow _ _).setRow _ _
          refine ⟨X, v2x0.heap.size, b, ?_, ⟨hHeld, BX.set _ _, hBw, row_kept HR kz (fun e => hbu (Option.some.inj e))⟩⟩
          generalize v2x0.heap.size = u'
          with_reducible rfl
    case z2x8 =>
      go_simp
      have hBw : WN.heap.size ≤ WN.heap.size := Nat.le_refl _
      have hk : Kept WN (WN.alloc (.cells #[.int .i64 0, .int .i64 0] 40)).drew none := (Kept.alloc _ _ _ _ _).tr (Kept.drew _ _)
      refine hK.out _ _ (hk) (fun hHeld => ?_)
      clear hK K
      have BX : Bx2 (WN.alloc (.cells #[.int .i64 0, .int .i64 0] 40)).drew WN.heap.size (.int .i64 0) (.int .i64 0) := (bx2_alloc _ _ _ _).kept (Kept.drew _ _)
      obtain ⟨v2x8, hv2x8⟩ : ∃ v, (WN.alloc (.cells #[.int .i64 0, .int .i64 0] 40)).drew = v := ⟨_, rfl⟩
      rw [hv2x8] at hHeld BX ⊢
      clear hv2x8 hk
      refine wpAnyH_ready (rs := [0]) (by kernel_rfl) (by simp) ?_
      refine (AllReadyH.cons rfl (fun K hK => ?z6x0) AllReadyH.nil)
      case z6x0 =>
        go_simp
        go_wp2_with (go_at_call 8; refine three_any.mono ?_; rintro e v6x0 ⟨X, rfl, hsat, hj⟩)
        have SA := Hid.mk' hsat
        have hnew : Kept WN v6x0 none := hHeld.tr hj
        have BX := BX.kept hj
        refine hK.out _ _ hnew (fun hHeld => ?_)
        clear hK K hsat hj hnew
        refine wpAnyH_ready (rs := [3]) (by kernel_rfl) (by simp) ?_
        refine (AllReadyH.cons rfl (fun K hK => ?z7x3) AllReadyH.nil)
        case z7x3 =>
          go_simp
          go_wp2_with (go_at_call 9; refine (HNX.out _ _ hHeld SA.out).mono ?_; rintro e v7x3 ⟨b, rfl, hb, hr, hkn⟩)
          have hnew : Kept WN v7x3 none := hHeld.tr hkn
          have HR := hr
          have hlu := BX.lt
          have BX := BX.kept hkn
          have hbu : b ≠ WN.heap.size := by omega
          refine hK.out _ _ hnew (fun hHeld => ?_)
          clear hK K hkn hnew SA
          refine held_take (i := 4) (v := ?v15) rfl rfl (by kernel_rfl) (by kernel_rfl) (by kernel_rfl) (fun _ _ _ h => h) (Or.inl ⟨by rfl, ?hy15⟩) hHeld ?rest15
          case hy15 => first | (intro w hSw; (try dsimp only at hSw); go_simp; done) | (intro w hSw; (try dsimp only at hSw); go_simp; with_reducible rfl)
          try simp only [List.setIfInBounds_toArray, List.set_cons_zero, List.set_cons_succ]
          refine held_take (i := 5) (v := ?v16) rfl rfl (by kernel_rfl) (by kernel_rfl) (by kernel_rfl) (fun _ _ _ h => h) (Or.inl ⟨by rfl, ?hy16⟩) hHeld ?rest16
          case hy16 => first | (intro w hSw; (try dsimp only at hSw); go_simp; done) | (intro w hSw; (try dsimp only at hSw); go_simp; with_reducible rfl)
          try simp only [List.setIfInBounds_toArray, List.set_cons_zero, List.set_cons_succ]
          refine held_take (i := 6) (v := ?v17) rfl rfl (by kernel_rfl) (by kernel_rfl) (by kernel_rfl) (fun _ _ _ h => h) (Or.inl ⟨by rfl, ?hy17⟩) hHeld ?rest17
          case hy17 => first | (intro w hSw; (try dsimp only at hSw); go_simp; done) | (intro w hSw; (try dsimp only at hSw); go_simp; with_reducible rfl)
          try simp only [List.setIfInBounds_toArray, List.set_cons_zero, List.set_cons_succ]
          refine held_take (i := 7) (v := ?v18) rfl rfl (by kernel_rfl) (by kernel_rfl) (by kernel_rfl) (fun _ _ _ h => h) (Or.inl ⟨by rfl, ?hy18⟩) hHeld ?rest18
          case hy18 => first | (intro w hSw; (try dsimp only at hSw); go_simp; done) | (intro w hSw; (try dsimp only at hSw); go_simp; with_reducible rfl)
          try simp only [List.setIfInBounds_toArray, List.set_cons_zero, List.set_cons_succ]
          have d0 := BX.c0
          have d1 := BX.c1
          have e0 := BX.f0
          have e1 := BX.f1
          refine wpAnyH_ready (rs := [9]) (by kernel_rfl) (by simp) ?_
          refine AllReadyH.cons rfl (fun K hK => ?_) AllReadyH.nil
          go_simp
          refine hK.out _ _ ((hHeld.setNew (p := ⟨WN.heap.size, 0, none⟩) hBw _).setNew (p := ⟨WN.heap.size, 1, none⟩) hBw _) (fun hHeld => ?_)
          clear hK K
          refine held_take (i := 10) (v := ?v19) rfl rfl (by kernel_rfl) (by kernel_rfl) (by kernel_rfl) (fun _ _ _ h => h) (Or.inl ⟨by rfl, ?hy19⟩) hHeld ?rest19
          case hy19 => first | (intro w hSw; (try dsimp only at hSw); go_simp; done) | (intro w hSw; (try dsimp only at hSw); go_simp; with_reducible rfl)
          try simp only [List.setIfInBounds_toArray, List.set_cons_zero, List.set_cons_succ]
          refine held_take (i := 11) (v := ?v20) rfl rfl (by kernel_rfl) (by kernel_rfl) (by kernel_rfl) (fun _ _ _ h => h) (Or.inl ⟨by rfl, ?hy20⟩) hHeld ?rest20
          case hy20 => first | (intro w hSw; (try dsimp only at hSw); go_simp; done) | (intro w hSw; (try dsimp only at hSw); go_simp; with_reducible rfl)
          try simp only [List.setIfInBounds_toArray, List.set_cons_zero, List.set_cons_succ]
          refine wpAnyH_done (by kernel_rfl) ?_ _
          have kz : Kept v7x3 ((v7x3.setCell ⟨WN.heap.size, 0, none⟩ (.int .i64 1)).setCell ⟨WN.heap.size, 1, none⟩ (.int .i64 0)) (some (WN.heap.size)) := ((Kept.refl v7x3 (some (WN.heap.size))).setRow _ _).setRow _ _
          refine ⟨X, WN.heap.size, b, ?_, ⟨hHeld, BX.set _ _, hBw, row_kept HR kz (fun e => hbu (Option.some.inj e))⟩⟩
          generalize WN.heap.size = u'
          with_reducible rfl
  case cont1 =>
  intro e a' w1' hq'
  obtain ⟨rfl, X1', u1', b1', rfl, hz1⟩ := hq'.out
  have c0 := hz1.bx.c0
  have c1 := hz1.bx.c1
  have g0 := hz1.row.cell (i := 0) (by decide)
  have g1 := hz1.row.cell (i := 1) (by decide)
  have g2 := hz1.row.cell (i := 2) (by decide)
  have hbl := hz1.row.lt
  rw [a10] at g0
  rw [a11] at g1
  rw [a12] at g2
  have HZ := Hid.mk' hz1.kept
  clear hz1 n0_ n1_ n2_
  go_wp2
  go_ret
  exact ⟨rfl, HK.out.tr HZ.out⟩

end Go.Proofs.YtkgimccffggfdaaDoor

