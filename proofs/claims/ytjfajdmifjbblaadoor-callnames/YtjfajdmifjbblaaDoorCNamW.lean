/-
  THE WALK of CallNames (made by a program).
-/
import Derived.Test.YtjfajdmifjbblaaDoorCallT
import Derived.Test.YtjfajdmifjbblaaDoorCallS1
import Derived.Test.YtjfajdmifjbblaaDoorEyeT
import Derived.Deep.RegionWith
import Derived.Deep.RegionHeld
import Derived.Laws.MakeOwn
import Derived.OwnWalk
namespace Go.Proofs.YtjfajdmifjbblaaDoor
open Go.RowKit Go.Lib Go.Deep
set_option linter.unusedVariables false
set_option linter.unusedSimpArgs false

def S00 : St := ⟨0, [], [], [], [], [], 0, 0, 0, 0, 0, []⟩
def X00 : Sa := ⟨none, 0, none, 0, none, 0, none, 0, none, 0, none, 0⟩
theorem cap00 : Cap none 0 0 := ⟨fun _ => ⟨rfl, rfl⟩, Nat.le_refl _, Nat.zero_le _⟩
theorem sat00 (w : World) : Sat w X00 S00 := by
  have hi : i64B 0 := by unfold i64B; omega
  refine ⟨⟨fun h => absurd h (by decide)⟩, ⟨fun h => absurd h (by decide)⟩, ⟨⟨fun _ => (none, 0), ⟨fun h => absurd h (by decide)⟩, fun i h => absurd h (Nat.not_lt_zero i)⟩, rfl, cap00⟩, ⟨fun h => absurd h (by decide)⟩, ⟨fun h => absurd h (by decide)⟩, ⟨⟨fun _ => (none, 0), ⟨fun h => absurd h (by decide)⟩, fun i h => absurd h (Nat.not_lt_zero i)⟩, rfl, cap00, fun p h => (nomatch h)⟩, cap00, cap00, cap00, cap00, fun g h => (nomatch h), fun g h => (nomatch h), fun g h => (nomatch h), fun g h => (nomatch h), hi, hi, hi, hi, hi, hi⟩
theorem s00_no : siteB S00 = false := by decide +kernel
/-- Behind the first region: the site in a box, a list of one. -/
structure NmP (w0 w' : World) (X : Sa) (B M : Nat) : Prop where
  kept : Kept w0 w' none
  box : Sbox w' B X S14
  kb : Kbox w' M Lk.zero
def Rn (A : Sa → Nat → Nat → Act) (w0 : World) (e : Exit) (a : Act) (w : World) : Prop := match e with
  | .normal => ∃ X B M, a = A X B M ∧ NmP w0 w X B M
  | _ => False
theorem Rn.out {A : Sa → Nat → Nat → Act} {w0 : World} {e : Exit} {a : Act} {w : World} (h : Rn A w0 e a w) : e = .normal ∧ ∃ X B M, a = A X B M ∧ NmP w0 w X B M := by
  cases e with
  | normal => exact ⟨rfl, h⟩
  | _ => exact h.elim
theorem zrow14 : ∀ i, i < zSZ.size → zSZ[i]? = some (fSZ zSZ i) := fun i hi => by
  unfold fSZ
  rw [Array.getElem?_eq_getElem hi]
  rfl
theorem Tryd.infoLooked14 : (Tryd.prog.info? 56).map (fun i => (i.zero, i.size, i.bytes)) = some (some (.agg #[.bool false, .int .i64 0, .int .u64 0, .bool false, .int .i64 0]), 5, 40) := by kernel_rfl
theorem made5 : madeCells (Value.cells (.agg #[.bool false, .int .i64 0, .int .u64 0, .bool false, .int .i64 0])) (Int.toNat 1 * 5) = #[.bool false, .int .i64 0, .int .u64 0, .bool false, .int .i64 0] := by
  show madeCells #[.bool false, .int .i64 0, .int .u64 0, .bool false, .int .i64 0] 5 = #[.bool false, .int .i64 0, .int .u64 0, .bool false, .int .i64 0]
  unfold madeCells
  rw [show Array.range 5 = #[0, 1, 2, 3, 4] from by decide]
  simp
theorem mk_one (w : World) : (Instr.makeSlice 31 (.int .i64 1) (.int .i64 1)).run Tryd.prog w = .ok (.slice (some ⟨w.heap.size, 0, none⟩) 1 1) (w.alloc (.cells #[.bool false, .int .i64 0, .int .u64 0, .bool false, .int .i64 0] 56)) := by
  obtain ⟨i0, hi0, hz0, hz1, hz2⟩ := info_parts Tryd.infoLooked14
  have hr := run_make (P := Tryd.prog) w 31 56 i0 _ (by kernel_rfl) hi0 hz0 .i64 .i64 1 1 (by omega) (Int.le_refl _) (by rw [hz2]; omega) (by omega)
  rw [hz1, made5] at hr
  exact hr
theorem kept12 (w : World) (B : Nat) (v0 v1 v2 v3 v4 v5 v6 v7 v8 v9 v10 v11 : Value) : Kept w ((((((((((((w.setCell ⟨B, 0, none⟩ v0).setCell ⟨B, 1, none⟩ v1).setCell ⟨B, 2, none⟩ v2).setCell ⟨B, 3, none⟩ v3).setCell ⟨B, 4, none⟩ v4).setCell ⟨B, 5, none⟩ v5).setCell ⟨B, 6, none⟩ v6).setCell ⟨B, 7, none⟩ v7).setCell ⟨B, 8, none⟩ v8).setCell ⟨B, 9, none⟩ v9).setCell ⟨B, 10, none⟩ v10).setCell ⟨B, 11, none⟩ v11) (some B) :=
  kept_own (kept_own (kept_own (kept_own (kept_own (kept_own (kept_own (kept_own (kept_own (kept_own (kept_own (kept_setZ w B 0 v0) 1 v1) 2 v2) 3 v3) 4 v4) 5 v5) 6 v6) 7 v7) 8 v8) 9 v9) 10 v10) 11 v11
theorem LtrZ.of_kept {lo : Nat} {w w' : World} (h : Kept w w' none) : LtrZ lo w w' := ⟨h.size, fun k _ hl => h.block k hl (by simp)⟩
set_option maxRecDepth 100000 in
set_option maxHeartbeats 4000000 in
theorem cnam_any {w : World} (hT : Tabb w) : Calls Tryd.prog 3 #[] w fun e w' => e = .returned (.bool true) ∧ Below w.heap.size w w' := by
  have HT := Hid.mk' hT
  have hmk := mk_one
  clear hT
  go_enter Tryd.func3, Tryd.ntmps3
  go_wp2
  refine Code.wp_mono (Q := Rn ?A1 w) ?cont1 ?reg1
  case reg1 =>
    repeat (rename_i hh; clear hh)
    refine wp_region_held_drew (S := fun w' => Kept w w' none) (by kernel_rfl) (Kept.drew _ _) (fun hHeld => ?_)
    refine wpAnyH_ready (rs := [0, 1, 2]) (by kernel_rfl) (by simp) ?_
    refine (AllReadyH.cons rfl (fun K hK => ?c1x0) (AllReadyH.cons rfl (fun K hK => ?c1x1) (AllReadyH.cons rfl (fun K hK => ?c1x2) AllReadyH.nil)))
    case c1x0 =>
      go_simp
      go_wp2_with (go_at_call 8; refine seen14_st.mono ?_; rintro e u1x0 ⟨X, rfl, hst, hk⟩)
      have hnew : Kept w u1x0 none := hHeld.tr hk
      have hzu1x0 : w.heap.size ≤ u1x0.heap.size := hk.size
      have hKS := Kept.refl u1x0 none
      refine hK.out _ _ hnew (fun hHeld => ?_)
      clear hK K
      refine wpAnyH_ready (rs := [1, 2]) (by kernel_rfl) (by simp) ?_
      refine (AllReadyH.cons rfl (fun K hK => ?c2x1) (AllReadyH.cons rfl (fun K hK => ?c2x2) AllReadyH.nil))
      case c2x1 =>
        go_simp
        have hk : Kept u1x0 (u1x0.alloc (.cells #[.bool false, .int .i64 0, .int .u64 0, .bool false, .int .i64 0] 56)) none := Kept.alloc _ _ _ _ _
        refine hK.out _ _ (hHeld.tr hk) (fun hHeld => ?_)
        clear hK K
        have KB : Kbox (u1x0.alloc (.cells #[.bool false, .int .i64 0, .int .u64 0, .bool false, .int .i64 0] 56)) u1x0.heap.size Lk.zero := b5_alloc _ _ _ _ _ _ _
        have hKS := hKS.tr hk
        have hzu2x1 : u1x0.heap.size < (u1x0.alloc (.cells #[.bool false, .int .i64 0, .int .u64 0, .bool false, .int .i64 0] 56)).heap.size := by simp
        obtain ⟨u2x1, hu2x1⟩ : ∃ u, u1x0.alloc (.cells #[.bool false, .int .i64 0, .int .u64 0, .bool false, .int .i64 0] 56) = u := ⟨_, rfl⟩
        rw [hu2x1] at hk hHeld hzu2x1 KB hKS
        rw [hu2x1]
        clear hu2x1
        refine wpAnyH_ready (rs := [2]) (by kernel_rfl) (by simp) ?_
        refine (AllReadyH.cons rfl (fun K hK => ?c3x2) AllReadyH.nil)
        case c3x2 =>
          go_simp
          have hBw : w.heap.size ≤ u2x1.heap.size := hHeld.size
          have hk : Kept u2x1 (u2x1.alloc (.cells zSZ 29)) none := Kept.alloc _ _ _ _ _
          refine hK.out _ _ (hHeld.tr hk) (fun hHeld => ?_)
          clear hK K
          have HR : (u2x1.alloc (.cells zSZ 29)).rowIs u2x1.heap.size 29 12 (fSZ zSZ) := World.rowIs_alloc _ _ _ _ zrow14
          have KB := KB.kept hk
          have hKS := hKS.tr hk
          have hzu3x2 : u2x1.heap.size < (u2x1.alloc (.cells zSZ 29)).heap.size := by simp
          obtain ⟨u3x2, hu3x2⟩ : ∃ u, u2x1.alloc (.cells zSZ 29) = u := ⟨_, rfl⟩
          rw [hu3x2] at hk hHeld hzu3x2 KB HR hKS
          rw [hu3x2]
          clear hu3x2
          refine wpAnyH_ready (rs := [3]) (by kernel_rfl) (by simp) ?_
          refine (AllReadyH.cons rfl (fun K hK => ?c4x3) AllReadyH.nil)
          case c4x3 =>
            have z0 := HR.cell (i := 0) (by omega)
            have y0 := HR.frozen 0
            have z1 := HR.cell (i := 1) (by omega)
            have y1 := HR.frozen 1
            have z2 := HR.cell (i := 2) (by omega)
            have y2 := HR.frozen 2
            have z3 := HR.cell (i := 3) (by omega)
            have y3 := HR.frozen 3
            have z4 := HR.cell (i := 4) (by omega)
            have y4 := HR.frozen 4
            have z5 := HR.cell (i := 5) (by omega)
            have y5 := HR.frozen 5
            have z6 := HR.cell (i := 6) (by omega)
            have y6 := HR.frozen 6
            have z7 := HR.cell (i := 7) (by omega)
            have y7 := HR.frozen 7
            have z8 := HR.cell (i := 8) (by omega)
            have y8 := HR.frozen 8
            have z9 := HR.cell (i := 9) (by omega)
            have y9 := HR.frozen 9
            have z10 := HR.cell (i := 10) (by omega)
            have y10 := HR.frozen 10
            have z11 := HR.cell (i := 11) (by omega)
            have y11 := HR.frozen 11
            have hlb := HR.lt
            go_simp
            obtain ⟨q1, q2, p0, p1, p2, p3, p4, p5, p6, p7, p8, p9, p10, p11⟩ := row12Z (lo := u2x1.heap.size + 1) HR hHeld (by first | exact Nat.le_refl _ | exact hBw) (by omega) (.int .i64 S14.id) (.slice X.g S14.groups.length X.gc) (.slice X.a S14.apart.length X.ac) (.slice X.b S14.between.length X.bc) (.slice X.p S14.phases.length X.pc) (.slice X.e S14.eyes.length X.ec) (.int .i64 S14.watch) (.int .i64 S14.feed) (.int .i64 S14.heal) (.int .i64 S14.low) (.int .i64 S14.high) (.slice X.l S14.plans.length X.lc)
            have hsat := (hst _ LtrZ.rfl').kept (row12Z (lo := u2x1.heap.size + 1) HR hKS (by omega) (by omega) (.int .i64 S14.id) (.slice X.g S14.groups.length X.gc) (.slice X.a S14.apart.length X.ac) (.slice X.b S14.between.length X.bc) (.slice X.p S14.phases.length X.pc) (.slice X.e S14.eyes.length X.ec) (.int .i64 S14.watch) (.int .i64 S14.feed) (.int .i64 S14.heal) (.int .i64 S14.low) (.int .i64 S14.high) (.slice X.l S14.plans.length X.lc)).1
            have SB : Sbox _ u2x1.heap.size X S14 := ⟨p0, p1, p2, p3, p4, p5, p6, p7, p8, p9, p10, p11, hsat⟩
            have KB := KB.keptR (kept12 u3x2 u2x1.heap.size (.int .i64 S14.id) (.slice X.g S14.groups.length X.gc) (.slice X.a S14.apart.length X.ac) (.slice X.b S14.between.length X.bc) (.slice X.p S14.phases.length X.pc) (.slice X.e S14.eyes.length X.ec) (.int .i64 S14.watch) (.int .i64 S14.feed) (.int .i64 S14.heal) (.int .i64 S14.low) (.int .i64 S14.high) (.slice X.l S14.plans.length X.lc)) (by simp <;> omega)
            refine hK.out _ _ q1 (fun hHeld => ?_)
            clear hK K q1 q2 hsat p0 p1 p2 p3 p4 p5 p6 p7 p8 p9 p10 p11
            refine held_take (i := 4) (v := ?v13) rfl rfl (by kernel_rfl) (by kernel_rfl) (by kernel_rfl) (fun _ _ _ h => h) (Or.inl ⟨by rfl, ?hy13⟩) hHeld ?rest13
            case hy13 => first | (intro w hSw; (try dsimp only at hSw); go_simp; done) | (intro w hSw; (try dsimp only at hSw); go_simp; with_reducible rfl)
            try simp only [List.setIfInBounds_toArray, List.set_cons_zero, List.set_cons_succ]
            refine wpAnyH_done (by kernel_rfl) ?_ _
            refine ⟨X, u2x1.heap.size, u1x0.heap.size, ?_, hHeld, SB, KB⟩
            generalize u2x1.heap.size = B'
            generalize u1x0.heap.size = M'
            with_reducible rfl
      case c2x2 =>
        go_simp
        have hBw : w.heap.size ≤ u1x0.heap.size := hHeld.size
        have hk : Kept u1x0 (u1x0.alloc (.cells zSZ 29)) none := Kept.alloc _ _ _ _ _
        refine hK.out _ _ (hHeld.tr hk) (fun hHeld => ?_)
        clear hK K
        have HR : (u1x0.alloc (.cells zSZ 29)).rowIs u1x0.heap.size 29 12 (fSZ zSZ) := World.rowIs_alloc _ _ _ _ zrow14
        have hKS := hKS.tr hk
        have hzu2x2 : u1x0.heap.size < (u1x0.alloc (.cells zSZ 29)).heap.size := by simp
        obtain ⟨u2x2, hu2x2⟩ : ∃ u, u1x0.alloc (.cells zSZ 29) = u := ⟨_, rfl⟩
        rw [hu2x2] at hk hHeld hzu2x2 HR hKS
        rw [hu2x2]
        clear hu2x2
        refine wpAnyH_ready (rs := [1, 3]) (by kernel_rfl) (by simp) ?_
        refine (AllReadyH.cons rfl (fun K hK => ?c5x1) (AllReadyH.cons rfl (fun K hK => ?c5x3) AllReadyH.nil))
        case c5x1 =>
          go_simp
          have hk : Kept u2x2 (u2x2.alloc (.cells #[.bool false, .int .i64 0, .int .u64 0, .bool false, .int .i64 0] 56)) none := Kept.alloc _ _ _ _ _
          refine hK.out _ _ (hHeld.tr hk) (fun hHeld => ?_)
          clear hK K
          have KB : Kbox (u2x2.alloc (.cells #[.bool false, .int .i64 0, .int .u64 0, .bool false, .int .i64 0] 56)) u2x2.heap.size Lk.zero := b5_alloc _ _ _ _ _ _ _
          have HR := row_kept HR hk (by simp)
          have hKS := hKS.tr hk
          have hzu5x1 : u2x2.heap.size < (u2x2.alloc (.cells #[.bool false, .int .i64 0, .int .u64 0, .bool false, .int .i64 0] 56)).heap.size := by simp
          obtain ⟨u5x1, hu5x1⟩ : ∃ u, u2x2.alloc (.cells #[.bool false, .int .i64 0, .int .u64 0, .bool false, .int .i64 0] 56) = u := ⟨_, rfl⟩
          rw [hu5x1] at hk hHeld hzu5x1 KB HR hKS
          rw [hu5x1]
          clear hu5x1
          refine wpAnyH_ready (rs := [3]) (by kernel_rfl) (by simp) ?_
          refine (AllReadyH.cons rfl (fun K hK => ?c6x3) AllReadyH.nil)
          case c6x3 =>
            have z0 := HR.cell (i := 0) (by omega)
            have y0 := HR.frozen 0
            have z1 := HR.cell (i := 1) (by omega)
            have y1 := HR.frozen 1
            have z2 := HR.cell (i := 2) (by omega)
            have y2 := HR.frozen 2
            have z3 := HR.cell (i := 3) (by omega)
            have y3 := HR.frozen 3
            have z4 := HR.cell (i := 4) (by omega)
            have y4 := HR.frozen 4
            have z5 := HR.cell (i := 5) (by omega)
            have y5 := HR.frozen 5
            have z6 := HR.cell (i := 6) (by omega)
            have y6 := HR.frozen 6
            have z7 := HR.cell (i := 7) (by omega)
            have y7 := HR.frozen 7
            have z8 := HR.cell (i := 8) (by omega)
            have y8 := HR.frozen 8
            have z9 := HR.cell (i := 9) (by omega)
            have y9 := HR.frozen 9
            have z10 := HR.cell (i := 10) (by omega)
            have y10 := HR.frozen 10
            have z11 := HR.cell (i := 11) (by omega)
            have y11 := HR.frozen 11
            have hlb := HR.lt
            go_simp
            obtain ⟨q1, q2, p0, p1, p2, p3, p4, p5, p6, p7, p8, p9, p10, p11⟩ := row12Z (lo := u1x0.heap.size + 1) HR hHeld (by first | exact Nat.le_refl _ | exact hBw) (by omega) (.int .i64 S14.id) (.slice X.g S14.groups.length X.gc) (.slice X.a S14.apart.length X.ac) (.slice X.b S14.between.length X.bc) (.slice X.p S14.phases.length X.pc) (.slice X.e S14.eyes.length X.ec) (.int .i64 S14.watch) (.int .i64 S14.feed) (.int .i64 S14.heal) (.int .i64 S14.low) (.int .i64 S14.high) (.slice X.l S14.plans.length X.lc)
            have hsat := (hst _ LtrZ.rfl').kept (row12Z (lo := u1x0.heap.size + 1) HR hKS (by omega) (by omega) (.int .i64 S14.id) (.slice X.g S14.groups.length X.gc) (.slice X.a S14.apart.length X.ac) (.slice X.b S14.between.length X.bc) (.slice X.p S14.phases.length X.pc) (.slice X.e S14.eyes.length X.ec) (.int .i64 S14.watch) (.int .i64 S14.feed) (.int .i64 S14.heal) (.int .i64 S14.low) (.int .i64 S14.high) (.slice X.l S14.plans.length X.lc)).1
            have SB : Sbox _ u1x0.heap.size X S14 := ⟨p0, p1, p2, p3, p4, p5, p6, p7, p8, p9, p10, p11, hsat⟩
            have KB := KB.keptR (kept12 u5x1 u1x0.heap.size (.int .i64 S14.id) (.slice X.g S14.groups.length X.gc) (.slice X.a S14.apart.length X.ac) (.slice X.b S14.between.length X.bc) (.slice X.p S14.phases.length X.pc) (.slice X.e S14.eyes.length X.ec) (.int .i64 S14.watch) (.int .i64 S14.feed) (.int .i64 S14.heal) (.int .i64 S14.low) (.int .i64 S14.high) (.slice X.l S14.plans.length X.lc)) (by simp <;> omega)
            refine hK.out _ _ q1 (fun hHeld => ?_)
            clear hK K q1 q2 hsat p0 p1 p2 p3 p4 p5 p6 p7 p8 p9 p10 p11
            refine held_take (i := 4) (v := ?v14) rfl rfl (by kernel_rfl) (by kernel_rfl) (by kernel_rfl) (fun _ _ _ h => h) (Or.inl ⟨by rfl, ?hy14⟩) hHeld ?rest14
            case hy14 => first | (intro w hSw; (try dsimp only at hSw); go_simp; done) | (intro w hSw; (try dsimp only at hSw); go_simp; with_reducible rfl)
            try simp only [List.setIfInBounds_toArray, List.set_cons_zero, List.set_cons_succ]
            refine wpAnyH_done (by kernel_rfl) ?_ _
            refine ⟨X, u1x0.heap.size, u2x2.heap.size, ?_, hHeld, SB, KB⟩
            generalize u1x0.heap.size = B'
            generalize u2x2.heap.size = M'
            with_reducible rfl
        case c5x3 =>
          have z0 := HR.cell (i := 0) (by omega)
          have y0 := HR.frozen 0
          have z1 := HR.cell (i := 1) (by omega)
          have y1 := HR.frozen 1
          have z2 := HR.cell (i := 2) (by omega)
          have y2 := HR.frozen 2
          have z3 := HR.cell (i := 3) (by omega)
          have y3 := HR.frozen 3
          have z4 := HR.cell (i := 4) (by omega)
          have y4 := HR.frozen 4
          have z5 := HR.cell (i := 5) (by omega)
          have y5 := HR.frozen 5
          have z6 := HR.cell (i := 6) (by omega)
          have y6 := HR.frozen 6
          have z7 := HR.cell (i := 7) (by omega)
          have y7 := HR.frozen 7
          have z8 := HR.cell (i := 8) (by omega)
          have y8 := HR.frozen 8
          have z9 := HR.cell (i := 9) (by omega)
          have y9 := HR.frozen 9
          have z10 := HR.cell (i := 10) (by omega)
          have y10 := HR.frozen 10
          have z11 := HR.cell (i := 11) (by omega)
          have y11 := HR.frozen 11
          have hlb := HR.lt
          go_simp
          obtain ⟨q1, q2, p0, p1, p2, p3, p4, p5, p6, p7, p8, p9, p10, p11⟩ := row12Z (lo := u1x0.heap.size + 1) HR hHeld (by first | exact Nat.le_refl _ | exact hBw) (by omega) (.int .i64 S14.id) (.slice X.g S14.groups.length X.gc) (.slice X.a S14.apart.length X.ac) (.slice X.b S14.between.length X.bc) (.slice X.p S14.phases.length X.pc) (.slice X.e S14.eyes.length X.ec) (.int .i64 S14.watch) (.int .i64 S14.feed) (.int .i64 S14.heal) (.int .i64 S14.low) (.int .i64 S14.high) (.slice X.l S14.plans.length X.lc)
          have hsat := (hst _ LtrZ.rfl').kept (row12Z (lo := u1x0.heap.size + 1) HR hKS (by omega) (by omega) (.int .i64 S14.id) (.slice X.g S14.groups.length X.gc) (.slice X.a S14.apart.length X.ac) (.slice X.b S14.between.length X.bc) (.slice X.p S14.phases.length X.pc) (.slice X.e S14.eyes.length X.ec) (.int .i64 S14.watch) (.int .i64 S14.feed) (.int .i64 S14.heal) (.int .i64 S14.low) (.int .i64 S14.high) (.slice X.l S14.plans.length X.lc)).1
          have SB : Sbox _ u1x0.heap.size X S14 := ⟨p0, p1, p2, p3, p4, p5, p6, p7, p8, p9, p10, p11, hsat⟩
          refine hK.out _ _ q1 (fun hHeld => ?_)
          clear hK K q1 q2 hsat p0 p1 p2 p3 p4 p5 p6 p7 p8 p9 p10 p11
          obtain ⟨v5, hv5⟩ : ∃ u, ((((((((((((u2x2.setCell ⟨u1x0.heap.size, 0, none⟩ (.int .i64 S14.id)).setCell ⟨u1x0.heap.size, 1, none⟩ (.slice X.g S14.groups.length X.gc)).setCell ⟨u1x0.heap.size, 2, none⟩ (.slice X.a S14.apart.length X.ac)).setCell ⟨u1x0.heap.size, 3, none⟩ (.slice X.b S14.between.length X.bc)).setCell ⟨u1x0.heap.size, 4, none⟩ (.slice X.p S14.phases.length X.pc)).setCell ⟨u1x0.heap.size, 5, none⟩ (.slice X.e S14.eyes.length X.ec)).setCell ⟨u1x0.heap.size, 6, none⟩ (.int .i64 S14.watch)).setCell ⟨u1x0.heap.size, 7, none⟩ (.int .i64 S14.feed)).setCell ⟨u1x0.heap.size, 8, none⟩ (.int .i64 S14.heal)).setCell ⟨u1x0.heap.size, 9, none⟩ (.int .i64 S14.low)).setCell ⟨u1x0.heap.size, 10, none⟩ (.int .i64 S14.high)).setCell ⟨u1x0.heap.size, 11, none⟩ (.slice X.l S14.plans.length X.lc)) = u := ⟨_, rfl⟩
          rw [hv5] at hHeld SB
          rw [hv5]
          clear hv5 z0 z1 z2 z3 z4 z5 z6 z7 z8 z9 z10 z11 y0 y1 y2 y3 y4 y5 y6 y7 y8 y9 y10 y11
          refine wpAnyH_ready (rs := [1]) (by kernel_rfl) (by simp) ?_
          refine (AllReadyH.cons rfl (fun K hK => ?c7x1) AllReadyH.nil)
          case c7x1 =>
            go_simp
            have hk : Kept v5 (v5.alloc (.cells #[.bool false, .int .i64 0, .int .u64 0, .bool false, .int .i64 0] 56)) none := Kept.alloc _ _ _ _ _
            refine hK.out _ _ (hHeld.tr hk) (fun hHeld => ?_)
            clear hK K
            have KB : Kbox (v5.alloc (.cells #[.bool false, .int .i64 0, .int .u64 0, .bool false, .int .i64 0] 56)) v5.heap.size Lk.zero := b5_alloc _ _ _ _ _ _ _
            have SB := SB.kept hk
            have hzu7x1 : v5.heap.size < (v5.alloc (.cells #[.bool false, .int .i64 0, .int .u64 0, .bool false, .int .i64 0] 56)).heap.size := by simp
            obtain ⟨u7x1, hu7x1⟩ : ∃ u, v5.alloc (.cells #[.bool false, .int .i64 0, .int .u64 0, .bool false, .int .i64 0] 56) = u := ⟨_, rfl⟩
            rw [hu7x1] at hk hHeld hzu7x1 KB SB
            rw [hu7x1]
            clear hu7x1
            refine held_take (i := 4) (v := ?v15) rfl rfl (by kernel_rfl) (by kernel_rfl) (by kernel_rfl) (fun _ _ _ h => h) (Or.inl ⟨by rfl, ?hy15⟩) hHeld ?rest15
            case hy15 => first | (intro w hSw; (try dsimp only at hSw); go_simp; done) | (intro w hSw; (try dsimp only at hSw); go_simp; with_reducible rfl)
            try simp only [List.setIfInBounds_toArray, List.set_cons_zero, List.set_cons_succ]
            refine wpAnyH_done (by kernel_rfl) ?_ _
            refine ⟨X, u1x0.heap.size, v5.heap.size, ?_, hHeld, SB, KB⟩
            generalize u1x0.heap.size = B'
            generalize v5.heap.size = M'
            with_reducible rfl
    case c1x1 =>
      go_simp
      have hk : Kept w ((w.alloc (.cells #[.bool false, .int .i64 0, .int .u64 0, .bool false, .int .i64 0] 56)).drew) none := (Kept.alloc _ _ _ _ _).tr (Kept.drew _ _)
      refine hK.out _ _ (hk) (fun hHeld => ?_)
      clear hK K
      have KB : Kbox ((w.alloc (.cells #[.bool false, .int .i64 0, .int .u64 0, .bool false, .int .i64 0] 56)).drew) w.heap.size Lk.zero := (b5_alloc w _ _ _ _ _ _).kept (Kept.drew _ _)
      have hzu1x1 : w.heap.size < ((w.alloc (.cells #[.bool false, .int .i64 0, .int .u64 0, .bool false, .int .i64 0] 56)).drew).heap.size := by simp
      obtain ⟨u1x1, hu1x1⟩ : ∃ u, (w.alloc (.cells #[.bool false, .int .i64 0, .int .u64 0, .bool false, .int .i64 0] 56)).drew = u := ⟨_, rfl⟩
      rw [hu1x1] at hk hHeld hzu1x1 KB
      rw [hu1x1]
      clear hu1x1
      refine wpAnyH_ready (rs := [0, 2]) (by kernel_rfl) (by simp) ?_
      refine (AllReadyH.cons rfl (fun K hK => ?c8x0) (AllReadyH.cons rfl (fun K hK => ?c8x2) AllReadyH.nil))
      case c8x0 =>
        go_simp
        go_wp2_with (go_at_call 8; refine seen14_st.mono ?_; rintro e u8x0 ⟨X, rfl, hst, hk⟩)
        have hnew : Kept w u8x0 none := hHeld.tr hk
        have hzu8x0 : u1x1.heap.size ≤ u8x0.heap.size := hk.size
        have KB := KB.kept hk
        have hKS := Kept.refl u8x0 none
        refine hK.out _ _ hnew (fun hHeld => ?_)
        clear hK K
        refine wpAnyH_ready (rs := [2]) (by kernel_rfl) (by simp) ?_
        refine (AllReadyH.cons rfl (fun K hK => ?c9x2) AllReadyH.nil)
        case c9x2 =>
          go_simp
          have hBw : w.heap.size ≤ u8x0.heap.size := hHeld.size
          have hk : Kept u8x0 (u8x0.alloc (.cells zSZ 29)) none := Kept.alloc _ _ _ _ _
          refine hK.out _ _ (hHeld.tr hk) (fun hHeld => ?_)
          clear hK K
          have HR : (u8x0.alloc (.cells zSZ 29)).rowIs u8x0.heap.size 29 12 (fSZ zSZ) := World.rowIs_alloc _ _ _ _ zrow14
          have KB := KB.kept hk
          have hKS := hKS.tr hk
          have hzu9x2 : u8x0.heap.size < (u8x0.alloc (.cells zSZ 29)).heap.size := by simp
          obtain ⟨u9x2, hu9x2⟩ : ∃ u, u8x0.alloc (.cells zSZ 29) = u := ⟨_, rfl⟩
          rw [hu9x2] at hk hHeld hzu9x2 KB HR hKS
          rw [hu9x2]
          clear hu9x2
          refine wpAnyH_ready (rs := [3]) (by kernel_rfl) (by simp) ?_
          refine (AllReadyH.cons rfl (fun K hK => ?c10x3) AllReadyH.nil)
          case c10x3 =>
            have z0 := HR.cell (i := 0) (by omega)
            have y0 := HR.frozen 0
            have z1 := HR.cell (i := 1) (by omega)
            have y1 := HR.frozen 1
            have z2 := HR.cell (i := 2) (by omega)
            have y2 := HR.frozen 2
            have z3 := HR.cell (i := 3) (by omega)
            have y3 := HR.frozen 3
            have z4 := HR.cell (i := 4) (by omega)
            have y4 := HR.frozen 4
            have z5 := HR.cell (i := 5) (by omega)
            have y5 := HR.frozen 5
            have z6 := HR.cell (i := 6) (by omega)
            have y6 := HR.frozen 6
            have z7 := HR.cell (i := 7) (by omega)
            have y7 := HR.frozen 7
            have z8 := HR.cell (i := 8) (by omega)
            have y8 := HR.frozen 8
            have z9 := HR.cell (i := 9) (by omega)
            have y9 := HR.frozen 9
            have z10 := HR.cell (i := 10) (by omega)
            have y10 := HR.frozen 10
            have z11 := HR.cell (i := 11) (by omega)
            have y11 := HR.frozen 11
            have hlb := HR.lt
            go_simp
            obtain ⟨q1, q2, p0, p1, p2, p3, p4, p5, p6, p7, p8, p9, p10, p11⟩ := row12Z (lo := u8x0.heap.size + 1) HR hHeld (by first | exact Nat.le_refl _ | exact hBw) (by omega) (.int .i64 S14.id) (.slice X.g S14.groups.length X.gc) (.slice X.a S14.apart.length X.ac) (.slice X.b S14.between.length X.bc) (.slice X.p S14.phases.length X.pc) (.slice X.e S14.eyes.length X.ec) (.int .i64 S14.watch) (.int .i64 S14.feed) (.int .i64 S14.heal) (.int .i64 S14.low) (.int .i64 S14.high) (.slice X.l S14.plans.length X.lc)
            have hsat := (hst _ LtrZ.rfl').kept (row12Z (lo := u8x0.heap.size + 1) HR hKS (by omega) (by omega) (.int .i64 S14.id) (.slice X.g S14.groups.length X.gc) (.slice X.a S14.apart.length X.ac) (.slice X.b S14.between.length X.bc) (.slice X.p S14.phases.length X.pc) (.slice X.e S14.eyes.length X.ec) (.int .i64 S14.watch) (.int .i64 S14.feed) (.int .i64 S14.heal) (.int .i64 S14.low) (.int .i64 S14.high) (.slice X.l S14.plans.length X.lc)).1
            have SB : Sbox _ u8x0.heap.size X S14 := ⟨p0, p1, p2, p3, p4, p5, p6, p7, p8, p9, p10, p11, hsat⟩
            have KB := KB.keptR (kept12 u9x2 u8x0.heap.size (.int .i64 S14.id) (.slice X.g S14.groups.length X.gc) (.slice X.a S14.apart.length X.ac) (.slice X.b S14.between.length X.bc) (.slice X.p S14.phases.length X.pc) (.slice X.e S14.eyes.length X.ec) (.int .i64 S14.watch) (.int .i64 S14.feed) (.int .i64 S14.heal) (.int .i64 S14.low) (.int .i64 S14.high) (.slice X.l S14.plans.length X.lc)) (by simp <;> omega)
            refine hK.out _ _ q1 (fun hHeld => ?_)
            clear hK K q1 q2 hsat p0 p1 p2 p3 p4 p5 p6 p7 p8 p9 p10 p11
            refine held_take (i := 4) (v := ?v16) rfl rfl (by kernel_rfl) (by kernel_rfl) (by kernel_rfl) (fun _ _ _ h => h) (Or.inl ⟨by rfl, ?hy16⟩) hHeld ?rest16
            case hy16 => first | (intro w hSw; (try dsimp only at hSw); go_simp; done) | (intro w hSw; (try dsimp only at hSw); go_simp; with_reducible rfl)
            try simp only [List.setIfInBounds_toArray, List.set_cons_zero, List.set_cons_succ]
            refine wpAnyH_done (by kernel_rfl) ?_ _
            refine ⟨X, u8x0.heap.size, w.heap.size, ?_, hHeld, SB, KB⟩
            generalize u8x0.heap.size = B'
            generalize w.heap.size = M'
            with_reducible rfl
      case c8x2 =>
        go_simp
        have hBw : w.heap.size ≤ u1x1.heap.size := hHeld.size
        have hk : Kept u1x1 (u1x1.alloc (.cells zSZ 29)) none := Kept.alloc _ _ _ _ _
        refine hK.out _ _ (hHeld.tr hk) (fun hHeld => ?_)
        clear hK K
        have HR : (u1x1.alloc (.cells zSZ 29)).rowIs u1x1.heap.size 29 12 (fSZ zSZ) := World.rowIs_alloc _ _ _ _ zrow14
        have KB := KB.kept hk
        have hzu8x2 : u1x1.heap.size < (u1x1.alloc (.cells zSZ 29)).heap.size := by simp
        obtain ⟨u8x2, hu8x2⟩ : ∃ u, u1x1.alloc (.cells zSZ 29) = u := ⟨_, rfl⟩
        rw [hu8x2] at hk hHeld hzu8x2 KB HR
        rw [hu8x2]
        clear hu8x2
        refine wpAnyH_ready (rs := [0]) (by kernel_rfl) (by simp) ?_
        refine (AllReadyH.cons rfl (fun K hK => ?c11x0) AllReadyH.nil)
        case c11x0 =>
          go_simp
          go_wp2_with (go_at_call 8; refine seen14_st.mono ?_; rintro e u11x0 ⟨X, rfl, hst, hk⟩)
          have hnew : Kept w u11x0 none := hHeld.tr hk
          have hzu11x0 : u8x2.heap.size ≤ u11x0.heap.size := hk.size
          have HR := row_kept HR hk (by simp)
          have KB := KB.kept hk
          have hKS := Kept.refl u11x0 none
          refine hK.out _ _ hnew (fun hHeld => ?_)
          clear hK K
          refine wpAnyH_ready (rs := [3]) (by kernel_rfl) (by simp) ?_
          refine (AllReadyH.cons rfl (fun K hK => ?c12x3) AllReadyH.nil)
          case c12x3 =>
            have z0 := HR.cell (i := 0) (by omega)
            have y0 := HR.frozen 0
            have z1 := HR.cell (i := 1) (by omega)
            have y1 := HR.frozen 1
            have z2 := HR.cell (i := 2) (by omega)
            have y2 := HR.frozen 2
            have z3 := HR.cell (i := 3) (by omega)
            have y3 := HR.frozen 3
            have z4 := HR.cell (i := 4) (by omega)
            have y4 := HR.frozen 4
            have z5 := HR.cell (i := 5) (by omega)
            have y5 := HR.frozen 5
            have z6 := HR.cell (i := 6) (by omega)
            have y6 := HR.frozen 6
            have z7 := HR.cell (i := 7) (by omega)
            have y7 := HR.frozen 7
            have z8 := HR.cell (i := 8) (by omega)
            have y8 := HR.frozen 8
            have z9 := HR.cell (i := 9) (by omega)
            have y9 := HR.frozen 9
            have z10 := HR.cell (i := 10) (by omega)
            have y10 := HR.frozen 10
            have z11 := HR.cell (i := 11) (by omega)
            have y11 := HR.frozen 11
            have hlb := HR.lt
            go_simp
            obtain ⟨q1, q2, p0, p1, p2, p3, p4, p5, p6, p7, p8, p9, p10, p11⟩ := row12Z (lo := u1x1.heap.size + 1) HR hHeld (by first | exact Nat.le_refl _ | exact hBw) (by omega) (.int .i64 S14.id) (.slice X.g S14.groups.length X.gc) (.slice X.a S14.apart.length X.ac) (.slice X.b S14.between.length X.bc) (.slice X.p S14.phases.length X.pc) (.slice X.e S14.eyes.length X.ec) (.int .i64 S14.watch) (.int .i64 S14.feed) (.int .i64 S14.heal) (.int .i64 S14.low) (.int .i64 S14.high) (.slice X.l S14.plans.length X.lc)
            have hsat := hst _ ((LtrZ.of_kept hKS).tr (q2.up (by omega)))
            have SB : Sbox _ u1x1.heap.size X S14 := ⟨p0, p1, p2, p3, p4, p5, p6, p7, p8, p9, p10, p11, hsat⟩
            have KB := KB.keptR (kept12 u11x0 u1x1.heap.size (.int .i64 S14.id) (.slice X.g S14.groups.length X.gc) (.slice X.a S14.apart.length X.ac) (.slice X.b S14.between.length X.bc) (.slice X.p S14.phases.length X.pc) (.slice X.e S14.eyes.length X.ec) (.int .i64 S14.watch) (.int .i64 S14.feed) (.int .i64 S14.heal) (.int .i64 S14.low) (.int .i64 S14.high) (.slice X.l S14.plans.length X.lc)) (by simp <;> omega)
            refine hK.out _ _ q1 (fun hHeld => ?_)
            clear hK K q1 q2 hsat p0 p1 p2 p3 p4 p5 p6 p7 p8 p9 p10 p11
            refine held_take (i := 4) (v := ?v17) rfl rfl (by kernel_rfl) (by kernel_rfl) (by kernel_rfl) (fun _ _ _ h => h) (Or.inl ⟨by rfl, ?hy17⟩) hHeld ?rest17
            case hy17 => first | (intro w hSw; (try dsimp only at hSw); go_simp; done) | (intro w hSw; (try dsimp only at hSw); go_simp; with_reducible rfl)
            try simp only [List.setIfInBounds_toArray, List.set_cons_zero, List.set_cons_succ]
            refine wpAnyH_done (by kernel_rfl) ?_ _
            refine ⟨X, u1x1.heap.size, w.heap.size, ?_, hHeld, SB, KB⟩
            generalize u1x1.heap.size = B'
            generalize w.heap.size = M'
            with_reducible rfl
    case c1x2 =>
      go_simp
      have hBw : w.heap.size ≤ w.heap.size := hHeld.size
      have hk : Kept w ((w.alloc (.cells zSZ 29)).drew) none := (Kept.alloc _ _ _ _ _).tr (Kept.drew _ _)
      refine hK.out _ _ (hk) (fun hHeld => ?_)
      clear hK K
      have HR : ((w.alloc (.cells zSZ 29)).drew).rowIs w.heap.size 29 12 (fSZ zSZ) := row_kept (World.rowIs_alloc w _ _ _ zrow14) (Kept.drew _ none) (by simp)
      have hzu1x2 : w.heap.size < ((w.alloc (.cells zSZ 29)).drew).heap.size := by simp
      obtain ⟨u1x2, hu1x2⟩ : ∃ u, (w.alloc (.cells zSZ 29)).drew = u := ⟨_, rfl⟩
      rw [hu1x2] at hk hHeld hzu1x2 HR
      rw [hu1x2]
      clear hu1x2
      refine wpAnyH_ready (rs := [0, 1]) (by kernel_rfl) (by simp) ?_
      refine (AllReadyH.cons rfl (fun K hK => ?c13x0) (AllReadyH.cons rfl (fun K hK => ?c13x1) AllReadyH.nil))
      case c13x0 =>
        go_simp
        go_wp2_with (go_at_call 8; refine seen14_st.mono ?_; rintro e u13x0 ⟨X, rfl, hst, hk⟩)
        have hnew : Kept w u13x0 none := hHeld.tr hk
        have hzu13x0 : u1x2.heap.size ≤ u13x0.heap.size := hk.size
        have HR := row_kept HR hk (by simp)
        have hKS := Kept.refl u13x0 none
        refine hK.out _ _ hnew (fun hHeld => ?_)
        clear hK K
        refine wpAnyH_ready (rs := [1, 3]) (by kernel_rfl) (by simp) ?_
        refine (AllReadyH.cons rfl (fun K hK => ?c14x1) (AllReadyH.cons rfl (fun K hK => ?c14x3) AllReadyH.nil))
        case c14x1 =>
          go_simp
          have hk : Kept u13x0 (u13x0.alloc (.cells #[.bool false, .int .i64 0, .int .u64 0, .bool false, .int .i64 0] 56)) none := Kept.alloc _ _ _ _ _
          refine hK.out _ _ (hHeld.tr hk) (fun hHeld => ?_)
          clear hK K
          have KB : Kbox (u13x0.alloc (.cells #[.bool false, .int .i64 0, .int .u64 0, .bool false, .int .i64 0] 56)) u13x0.heap.size Lk.zero := b5_alloc _ _ _ _ _ _ _
          have HR := row_kept HR hk (by simp)
          have hKS := hKS.tr hk
          have hzu14x1 : u13x0.heap.size < (u13x0.alloc (.cells #[.bool false, .int .i64 0, .int .u64 0, .bool false, .int .i64 0] 56)).heap.size := by simp
          obtain ⟨u14x1, hu14x1⟩ : ∃ u, u13x0.alloc (.cells #[.bool false, .int .i64 0, .int .u64 0, .bool false, .int .i64 0] 56) = u := ⟨_, rfl⟩
          rw [hu14x1] at hk hHeld hzu14x1 KB HR hKS
          rw [hu14x1]
          clear hu14x1
          refine wpAnyH_ready (rs := [3]) (by kernel_rfl) (by simp) ?_
          refine (AllReadyH.cons rfl (fun K hK => ?c15x3) AllReadyH.nil)
          case c15x3 =>
            have z0 := HR.cell (i := 0) (by omega)
            have y0 := HR.frozen 0
            have z1 := HR.cell (i := 1) (by omega)
            have y1 := HR.frozen 1
            have z2 := HR.cell (i := 2) (by omega)
            have y2 := HR.frozen 2
            have z3 := HR.cell (i := 3) (by omega)
            have y3 := HR.frozen 3
            have z4 := HR.cell (i := 4) (by omega)
            have y4 := HR.frozen 4
            have z5 := HR.cell (i := 5) (by omega)
            have y5 := HR.frozen 5
            have z6 := HR.cell (i := 6) (by omega)
            have y6 := HR.frozen 6
            have z7 := HR.cell (i := 7) (by omega)
            have y7 := HR.frozen 7
            have z8 := HR.cell (i := 8) (by omega)
            have y8 := HR.frozen 8
            have z9 := HR.cell (i := 9) (by omega)
            have y9 := HR.frozen 9
            have z10 := HR.cell (i := 10) (by omega)
            have y10 := HR.frozen 10
            have z11 := HR.cell (i := 11) (by omega)
            have y11 := HR.frozen 11
            have hlb := HR.lt
            go_simp
            obtain ⟨q1, q2, p0, p1, p2, p3, p4, p5, p6, p7, p8, p9, p10, p11⟩ := row12Z (lo := w.heap.size + 1) HR hHeld (by first | exact Nat.le_refl _ | exact hBw) (by omega) (.int .i64 S14.id) (.slice X.g S14.groups.length X.gc) (.slice X.a S14.apart.length X.ac) (.slice X.b S14.between.length X.bc) (.slice X.p S14.phases.length X.pc) (.slice X.e S14.eyes.length X.ec) (.int .i64 S14.watch) (.int .i64 S14.feed) (.int .i64 S14.heal) (.int .i64 S14.low) (.int .i64 S14.high) (.slice X.l S14.plans.length X.lc)
            have hsat := hst _ ((LtrZ.of_kept hKS).tr (q2.up (by omega)))
            have SB : Sbox _ w.heap.size X S14 := ⟨p0, p1, p2, p3, p4, p5, p6, p7, p8, p9, p10, p11, hsat⟩
            have KB := KB.keptR (kept12 u14x1 w.heap.size (.int .i64 S14.id) (.slice X.g S14.groups.length X.gc) (.slice X.a S14.apart.length X.ac) (.slice X.b S14.between.length X.bc) (.slice X.p S14.phases.length X.pc) (.slice X.e S14.eyes.length X.ec) (.int .i64 S14.watch) (.int .i64 S14.feed) (.int .i64 S14.heal) (.int .i64 S14.low) (.int .i64 S14.high) (.slice X.l S14.plans.length X.lc)) (by simp <;> omega)
            refine hK.out _ _ q1 (fun hHeld => ?_)
            clear hK K q1 q2 hsat p0 p1 p2 p3 p4 p5 p6 p7 p8 p9 p10 p11
            refine held_take (i := 4) (v := ?v18) rfl rfl (by kernel_rfl) (by kernel_rfl) (by kernel_rfl) (fun _ _ _ h => h) (Or.inl ⟨by rfl, ?hy18⟩) hHeld ?rest18
            case hy18 => first | (intro w hSw; (try dsimp only at hSw); go_simp; done) | (intro w hSw; (try dsimp only at hSw); go_simp; with_reducible rfl)
            try simp only [List.setIfInBounds_toArray, List.set_cons_zero, List.set_cons_succ]
            refine wpAnyH_done (by kernel_rfl) ?_ _
            refine ⟨X, w.heap.size, u13x0.heap.size, ?_, hHeld, SB, KB⟩
            generalize w.heap.size = B'
            generalize u13x0.heap.size = M'
            with_reducible rfl
        case c14x3 =>
          have z0 := HR.cell (i := 0) (by omega)
          have y0 := HR.frozen 0
          have z1 := HR.cell (i := 1) (by omega)
          have y1 := HR.frozen 1
          have z2 := HR.cell (i := 2) (by omega)
          have y2 := HR.frozen 2
          have z3 := HR.cell (i := 3) (by omega)
          have y3 := HR.frozen 3
          have z4 := HR.cell (i := 4) (by omega)
          have y4 := HR.frozen 4
          have z5 := HR.cell (i := 5) (by omega)
          have y5 := HR.frozen 5
          have z6 := HR.cell (i := 6) (by omega)
          have y6 := HR.frozen 6
          have z7 := HR.cell (i := 7) (by omega)
          have y7 := HR.frozen 7
          have z8 := HR.cell (i := 8) (by omega)
          have y8 := HR.frozen 8
          have z9 := HR.cell (i := 9) (by omega)
          have y9 := HR.frozen 9
          have z10 := HR.cell (i := 10) (by omega)
          have y10 := HR.frozen 10
          have z11 := HR.cell (i := 11) (by omega)
          have y11 := HR.frozen 11
          have hlb := HR.lt
          go_simp
          obtain ⟨q1, q2, p0, p1, p2, p3, p4, p5, p6, p7, p8, p9, p10, p11⟩ := row12Z (lo := w.heap.size + 1) HR hHeld (by first | exact Nat.le_refl _ | exact hBw) (by omega) (.int .i64 S14.id) (.slice X.g S14.groups.length X.gc) (.slice X.a S14.apart.length X.ac) (.slice X.b S14.between.length X.bc) (.slice X.p S14.phases.length X.pc) (.slice X.e S14.eyes.length X.ec) (.int .i64 S14.watch) (.int .i64 S14.feed) (.int .i64 S14.heal) (.int .i64 S14.low) (.int .i64 S14.high) (.slice X.l S14.plans.length X.lc)
          have hsat := hst _ ((LtrZ.of_kept hKS).tr (q2.up (by omega)))
          have SB : Sbox _ w.heap.size X S14 := ⟨p0, p1, p2, p3, p4, p5, p6, p7, p8, p9, p10, p11, hsat⟩
          refine hK.out _ _ q1 (fun hHeld => ?_)
          clear hK K q1 q2 hsat p0 p1 p2 p3 p4 p5 p6 p7 p8 p9 p10 p11
          obtain ⟨v14, hv14⟩ : ∃ u, ((((((((((((u13x0.setCell ⟨w.heap.size, 0, none⟩ (.int .i64 S14.id)).setCell ⟨w.heap.size, 1, none⟩ (.slice X.g S14.groups.length X.gc)).setCell ⟨w.heap.size, 2, none⟩ (.slice X.a S14.apart.length X.ac)).setCell ⟨w.heap.size, 3, none⟩ (.slice X.b S14.between.length X.bc)).setCell ⟨w.heap.size, 4, none⟩ (.slice X.p S14.phases.length X.pc)).setCell ⟨w.heap.size, 5, none⟩ (.slice X.e S14.eyes.length X.ec)).setCell ⟨w.heap.size, 6, none⟩ (.int .i64 S14.watch)).setCell ⟨w.heap.size, 7, none⟩ (.int .i64 S14.feed)).setCell ⟨w.heap.size, 8, none⟩ (.int .i64 S14.heal)).setCell ⟨w.heap.size, 9, none⟩ (.int .i64 S14.low)).setCell ⟨w.heap.size, 10, none⟩ (.int .i64 S14.high)).setCell ⟨w.heap.size, 11, none⟩ (.slice X.l S14.plans.length X.lc)) = u := ⟨_, rfl⟩
          rw [hv14] at hHeld SB
          rw [hv14]
          clear hv14 z0 z1 z2 z3 z4 z5 z6 z7 z8 z9 z10 z11 y0 y1 y2 y3 y4 y5 y6 y7 y8 y9 y10 y11
          refine wpAnyH_ready (rs := [1]) (by kernel_rfl) (by simp) ?_
          refine (AllReadyH.cons rfl (fun K hK => ?c16x1) AllReadyH.nil)
          case c16x1 =>
            go_simp
            have hk : Kept v14 (v14.alloc (.cells #[.bool false, .int .i64 0, .int .u64 0, .bool false, .int .i64 0] 56)) none := Kept.alloc _ _ _ _ _
            refine hK.out _ _ (hHeld.tr hk) (fun hHeld => ?_)
            clear hK K
            have KB : Kbox (v14.alloc (.cells #[.bool false, .int .i64 0, .int .u64 0, .bool false, .int .i64 0] 56)) v14.heap.size Lk.zero := b5_alloc _ _ _ _ _ _ _
            have SB := SB.kept hk
            have hzu16x1 : v14.heap.size < (v14.alloc (.cells #[.bool false, .int .i64 0, .int .u64 0, .bool false, .int .i64 0] 56)).heap.size := by simp
            obtain ⟨u16x1, hu16x1⟩ : ∃ u, v14.alloc (.cells #[.bool false, .int .i64 0, .int .u64 0, .bool false, .int .i64 0] 56) = u := ⟨_, rfl⟩
            rw [hu16x1] at hk hHeld hzu16x1 KB SB
            rw [hu16x1]
            clear hu16x1
            refine held_take (i := 4) (v := ?v19) rfl rfl (by kernel_rfl) (by kernel_rfl) (by kernel_rfl) (fun _ _ _ h => h) (Or.inl ⟨by rfl, ?hy19⟩) hHeld ?rest19
            case hy19 => first | (intro w hSw; (try dsimp only at hSw); go_simp; done) | (intro w hSw; (try dsimp only at hSw); go_simp; with_reducible rfl)
            try simp only [List.setIfInBounds_toArray, List.set_cons_zero, List.set_cons_succ]
            refine wpAnyH_done (by kernel_rfl) ?_ _
            refine ⟨X, w.heap.size, v14.heap.size, ?_, hHeld, SB, KB⟩
            generalize w.heap.size = B'
            generalize v14.heap.size = M'
            with_reducible rfl
      case c13x1 =>
        go_simp
        have hk : Kept u1x2 (u1x2.alloc (.cells #[.bool false, .int .i64 0, .int .u64 0, .bool false, .int .i64 0] 56)) none := Kept.alloc _ _ _ _ _
        refine hK.out _ _ (hHeld.tr hk) (fun hHeld => ?_)
        clear hK K
        have KB : Kbox (u1x2.alloc (.cells #[.bool false, .int .i64 0, .int .u64 0, .bool false, .int .i64 0] 56)) u1x2.heap.size Lk.zero := b5_alloc _ _ _ _ _ _ _
        have HR := row_kept HR hk (by simp)
        have hzu13x1 : u1x2.heap.size < (u1x2.alloc (.cells #[.bool false, .int .i64 0, .int .u64 0, .bool false, .int .i64 0] 56)).heap.size := by simp
        obtain ⟨u13x1, hu13x1⟩ : ∃ u, u1x2.alloc (.cells #[.bool false, .int .i64 0, .int .u64 0, .bool false, .int .i64 0] 56) = u := ⟨_, rfl⟩
        rw [hu13x1] at hk hHeld hzu13x1 KB HR
        rw [hu13x1]
        clear hu13x1
        refine wpAnyH_ready (rs := [0]) (by kernel_rfl) (by simp) ?_
        refine (AllReadyH.cons rfl (fun K hK => ?c17x0) AllReadyH.nil)
        case c17x0 =>
          go_simp
          go_wp2_with (go_at_call 8; refine seen14_st.mono ?_; rintro e u17x0 ⟨X, rfl, hst, hk⟩)
          have hnew : Kept w u17x0 none := hHeld.tr hk
          have hzu17x0 : u13x1.heap.size ≤ u17x0.heap.size := hk.size
          have HR := row_kept HR hk (by simp)
          have KB := KB.kept hk
          have hKS := Kept.refl u17x0 none
          refine hK.out _ _ hnew (fun hHeld => ?_)
          clear hK K
          refine wpAnyH_ready (rs := [3]) (by kernel_rfl) (by simp) ?_
          refine (AllReadyH.cons rfl (fun K hK => ?c18x3) AllReadyH.nil)
          case c18x3 =>
            have z0 := HR.cell (i := 0) (by omega)
            have y0 := HR.frozen 0
            have z1 := HR.cell (i := 1) (by omega)
            have y1 := HR.frozen 1
            have z2 := HR.cell (i := 2) (by omega)
            have y2 := HR.frozen 2
            have z3 := HR.cell (i := 3) (by omega)
            have y3 := HR.frozen 3
            have z4 := HR.cell (i := 4) (by omega)
            have y4 := HR.frozen 4
            have z5 := HR.cell (i := 5) (by omega)
            have y5 := HR.frozen 5
            have z6 := HR.cell (i := 6) (by omega)
            have y6 := HR.frozen 6
            have z7 := HR.cell (i := 7) (by omega)
            have y7 := HR.frozen 7
            have z8 := HR.cell (i := 8) (by omega)
            have y8 := HR.frozen 8
            have z9 := HR.cell (i := 9) (by omega)
            have y9 := HR.frozen 9
            have z10 := HR.cell (i := 10) (by omega)
            have y10 := HR.frozen 10
            have z11 := HR.cell (i := 11) (by omega)
            have y11 := HR.frozen 11
            have hlb := HR.lt
            go_simp
            obtain ⟨q1, q2, p0, p1, p2, p3, p4, p5, p6, p7, p8, p9, p10, p11⟩ := row12Z (lo := w.heap.size + 1) HR hHeld (by first | exact Nat.le_refl _ | exact hBw) (by omega) (.int .i64 S14.id) (.slice X.g S14.groups.length X.gc) (.slice X.a S14.apart.length X.ac) (.slice X.b S14.between.length X.bc) (.slice X.p S14.phases.length X.pc) (.slice X.e S14.eyes.length X.ec) (.int .i64 S14.watch) (.int .i64 S14.feed) (.int .i64 S14.heal) (.int .i64 S14.low) (.int .i64 S14.high) (.slice X.l S14.plans.length X.lc)
            have hsat := hst _ ((LtrZ.of_kept hKS).tr (q2.up (by omega)))
            have SB : Sbox _ w.heap.size X S14 := ⟨p0, p1, p2, p3, p4, p5, p6, p7, p8, p9, p10, p11, hsat⟩
            have KB := KB.keptR (kept12 u17x0 w.heap.size (.int .i64 S14.id) (.slice X.g S14.groups.length X.gc) (.slice X.a S14.apart.length X.ac) (.slice X.b S14.between.length X.bc) (.slice X.p S14.phases.length X.pc) (.slice X.e S14.eyes.length X.ec) (.int .i64 S14.watch) (.int .i64 S14.feed) (.int .i64 S14.heal) (.int .i64 S14.low) (.int .i64 S14.high) (.slice X.l S14.plans.length X.lc)) (by simp <;> omega)
            refine hK.out _ _ q1 (fun hHeld => ?_)
            clear hK K q1 q2 hsat p0 p1 p2 p3 p4 p5 p6 p7 p8 p9 p10 p11
            refine held_take (i := 4) (v := ?v20) rfl rfl (by kernel_rfl) (by kernel_rfl) (by kernel_rfl) (fun _ _ _ h => h) (Or.inl ⟨by rfl, ?hy20⟩) hHeld ?rest20
            case hy20 => first | (intro w hSw; (try dsimp only at hSw); go_simp; done) | (intro w hSw; (try dsimp only at hSw); go_simp; with_reducible rfl)
            try simp only [List.setIfInBounds_toArray, List.set_cons_zero, List.set_cons_succ]
            refine wpAnyH_done (by kernel_rfl) ?_ _
            refine ⟨X, w.heap.size, u1x2.heap.size, ?_, hHeld, SB, KB⟩
            generalize w.heap.size = B'
            generalize u1x2.heap.size = M'
            with_reducible rfl
  case cont1 =>
  intro e1 act1 W1 hq1
  obtain ⟨rfl, X, B, M, rfl, hN⟩ := Rn.out hq1
  clear hq1 hmk
  have HN := Hid.mk' hN
  have HS := Hid.mk' hN.box.sat
  have HL := Hid.mk' (lks_one hN.kb typ_zero)
  have HTT := Hid.mk' (HT.out.kept hN.kept)
  have hBl : B < W1.heap.size := hN.box.lt
  clear hN
  have s0_ : ∀ w', Kept W1 w' none → w'.cell? ⟨B, 0, none⟩ = some (.int .i64 S14.id) := fun w' q => (HN.out.box.kept q).c0
  have s1_ : ∀ w', Kept W1 w' none → w'.cell? ⟨B, 1, none⟩ = some (.slice X.g S14.groups.length X.gc) := fun w' q => (HN.out.box.kept q).c1
  have s2_ : ∀ w', Kept W1 w' none → w'.cell? ⟨B, 2, none⟩ = some (.slice X.a S14.apart.length X.ac) := fun w' q => (HN.out.box.kept q).c2
  have s3_ : ∀ w', Kept W1 w' none → w'.cell? ⟨B, 3, none⟩ = some (.slice X.b S14.between.length X.bc) := fun w' q => (HN.out.box.kept q).c3
  have s4_ : ∀ w', Kept W1 w' none → w'.cell? ⟨B, 4, none⟩ = some (.slice X.p S14.phases.length X.pc) := fun w' q => (HN.out.box.kept q).c4
  have s5_ : ∀ w', Kept W1 w' none → w'.cell? ⟨B, 5, none⟩ = some (.slice X.e S14.eyes.length X.ec) := fun w' q => (HN.out.box.kept q).c5
  have s6_ : ∀ w', Kept W1 w' none → w'.cell? ⟨B, 6, none⟩ = some (.int .i64 S14.watch) := fun w' q => (HN.out.box.kept q).c6
  have s7_ : ∀ w', Kept W1 w' none → w'.cell? ⟨B, 7, none⟩ = some (.int .i64 S14.feed) := fun w' q => (HN.out.box.kept q).c7
  have s8_ : ∀ w', Kept W1 w' none → w'.cell? ⟨B, 8, none⟩ = some (.int .i64 S14.heal) := fun w' q => (HN.out.box.kept q).c8
  have s9_ : ∀ w', Kept W1 w' none → w'.cell? ⟨B, 9, none⟩ = some (.int .i64 S14.low) := fun w' q => (HN.out.box.kept q).c9
  have s10_ : ∀ w', Kept W1 w' none → w'.cell? ⟨B, 10, none⟩ = some (.int .i64 S14.high) := fun w' q => (HN.out.box.kept q).c10
  have s11_ : ∀ w', Kept W1 w' none → w'.cell? ⟨B, 11, none⟩ = some (.slice X.l S14.plans.length X.lc) := fun w' q => (HN.out.box.kept q).c11
  have K1 := Kept.refl W1 none
  have m1 := Hid.mk' trivial
  go_wp2_with (have hgo := m1; clear hgo; go_at_call 9; refine (crea_at (HS.out.kept K1) (HTT.out.kept K1) (HL.out.kept K1) cap_one 2 0 (by decide +kernel) (by decide +kernel)).mono ?_; rintro e v2 ⟨rfl, hk⟩; have K2 : Kept W1 v2 none := K1.tr hk; have lb2 : B < v2.heap.size := Nat.lt_of_lt_of_le hBl K2.size; clear m1 hk; have m2 := Hid.mk' trivial)
  refine wp_region_held_drew (S := fun w' => Kept W1 w' none) (by kernel_rfl) (K2.tr (Kept.drew _ _)) (fun hHeld => ?_)
  refine held_take (i := 0) (v := ?v1) rfl rfl (by kernel_rfl) (by kernel_rfl) (by kernel_rfl) (fun _ _ _ h => h) (Or.inl ⟨by rfl, ?hy1⟩) hHeld ?rest1
  case hy1 => first | (intro w hSw; (try dsimp only at hSw); go_simp; done) | (intro w hSw; (try dsimp only at hSw); go_simp; with_reducible rfl)
  try simp only [List.setIfInBounds_toArray, List.set_cons_zero, List.set_cons_succ]
  refine wpAnyH_ready (rs := [1]) (by kernel_rfl) (by simp) ?_
  refine AllReadyH.cons rfl (fun K hK => ?_) AllReadyH.nil
  go_simp
  go_wp2_with (go_at_call 10; refine up_any.mono ?_; rintro e v3 ⟨ub2, rfl, hl, hk⟩; have K3 : Kept W1 v3 none := hHeld.tr hk; have HL2 := Hid.mk' hl; have lb3 : B < v3.heap.size := Nat.lt_of_lt_of_le hBl K3.size; clear m2 hk hl; have m3 := Hid.mk' trivial)
  refine hK.out _ _ K3 (fun hHeld => ?_)
  clear hK K
  refine wpAnyH_ready (rs := [2]) (by kernel_rfl) (by simp) ?_
  refine AllReadyH.cons rfl (fun K hK => ?_) AllReadyH.nil
  go_simp
  go_wp2_with (have hgo := m3; clear hgo; go_at_call 9; refine (crea_at (HS.out.kept K3) (HTT.out.kept K3) HL2.out cap_one 3 0 (by decide +kernel) (by decide +kernel)).mono ?_; rintro e v4 ⟨rfl, hk⟩; have K4 : Kept W1 v4 none := K3.tr hk; have lb4 : B < v4.heap.size := Nat.lt_of_lt_of_le hBl K4.size; clear m3 hk; have m4 := Hid.mk' trivial)
  refine hK.out _ _ K4 (fun hHeld => ?_)
  clear hK K
  refine held_take (i := 3) (v := ?v2) rfl rfl (by kernel_rfl) (by kernel_rfl) (by kernel_rfl) (fun _ _ _ h => h) (Or.inl ⟨by rfl, ?hy2⟩) hHeld ?rest2
  case hy2 => first | (intro w hSw; (try dsimp only at hSw); go_simp; done) | (intro w hSw; (try dsimp only at hSw); go_simp; with_reducible rfl)
  try simp only [List.setIfInBounds_toArray, List.set_cons_zero, List.set_cons_succ]
  refine held_take (i := 4) (v := ?v3) rfl rfl (by kernel_rfl) (by kernel_rfl) (by kernel_rfl) (fun _ _ _ h => h) (Or.inl ⟨by rfl, ?hy3⟩) hHeld ?rest3
  case hy3 => first | (intro w hSw; (try dsimp only at hSw); go_simp; done) | (intro w hSw; (try dsimp only at hSw); go_simp; with_reducible rfl)
  try simp only [List.setIfInBounds_toArray, List.set_cons_zero, List.set_cons_succ]
  refine held_take (i := 5) (v := ?v4) rfl rfl (by kernel_rfl) (by kernel_rfl) (by kernel_rfl) (fun _ _ _ h => h) (Or.inl ⟨by rfl, ?hy4⟩) hHeld ?rest4
  case hy4 => first | (intro w hSw; (try dsimp only at hSw); go_simp; done) | (intro w hSw; (try dsimp only at hSw); go_simp; with_reducible rfl)
  try simp only [List.setIfInBounds_toArray, List.set_cons_zero, List.set_cons_succ]
  refine held_take (i := 6) (v := ?v5) rfl rfl (by kernel_rfl) (by kernel_rfl) (by kernel_rfl) (fun _ _ _ h => h) (Or.inl ⟨by rfl, ?hy5⟩) hHeld ?rest5
  case hy5 => first | (intro w hSw; (try dsimp only at hSw); go_simp; done) | (intro w hSw; (try dsimp only at hSw); go_simp; with_reducible rfl)
  try simp only [List.setIfInBounds_toArray, List.set_cons_zero, List.set_cons_succ]
  refine held_take (i := 7) (v := ?v6) rfl rfl (by kernel_rfl) (by kernel_rfl) (by kernel_rfl) (fun _ _ _ h => h) (Or.inl ⟨by rfl, ?hy6⟩) hHeld ?rest6
  case hy6 => first | (intro w hSw; (try dsimp only at hSw); go_simp; done) | (intro w hSw; (try dsimp only at hSw); go_simp; with_reducible rfl)
  try simp only [List.setIfInBounds_toArray, List.set_cons_zero, List.set_cons_succ]
  refine wpAnyH_done (by kernel_rfl) ?_ _
  go_wp2
  refine wp_region_held_drew (S := fun w' => Kept W1 w' none) (by kernel_rfl) (K4.tr (Kept.drew _ _)) (fun hHeld => ?_)
  refine held_take (i := 0) (v := ?v7) rfl rfl (by kernel_rfl) (by kernel_rfl) (by kernel_rfl) (fun _ _ _ h => h) (Or.inl ⟨by rfl, ?hy7⟩) hHeld ?rest7
  case hy7 => first | (intro w hSw; (try dsimp only at hSw); go_simp; done) | (intro w hSw; (try dsimp only at hSw); go_simp; with_reducible rfl)
  try simp only [List.setIfInBounds_toArray, List.set_cons_zero, List.set_cons_succ]
  refine wpAnyH_ready (rs := [1]) (by kernel_rfl) (by simp) ?_
  refine AllReadyH.cons rfl (fun K hK => ?_) AllReadyH.nil
  go_simp
  go_wp2_with (go_at_call 10; refine up_any.mono ?_; rintro e v5 ⟨ub4, rfl, hl, hk⟩; have K5 : Kept W1 v5 none := hHeld.tr hk; have HL4 := Hid.mk' hl; have lb5 : B < v5.heap.size := Nat.lt_of_lt_of_le hBl K5.size; clear m4 hk hl; have m5 := Hid.mk' trivial)
  refine hK.out _ _ K5 (fun hHeld => ?_)
  clear hK K
  refine wpAnyH_ready (rs := [2]) (by kernel_rfl) (by simp) ?_
  refine AllReadyH.cons rfl (fun K hK => ?_) AllReadyH.nil
  go_simp
  go_wp2_with (have hgo := m5; clear hgo; go_at_call 11; refine (cnext_at (HS.out.kept K5) (HTT.out.kept K5) 0 (by decide) 0 rfl (0) HL4.out cap_one 2 0 (by decide +kernel) (by decide +kernel)).mono ?_; rintro e v6 ⟨rfl, hk⟩; have K6 : Kept W1 v6 none := K5.tr hk; have lb6 : B < v6.heap.size := Nat.lt_of_lt_of_le hBl K6.size; clear m5 hk; have m6 := Hid.mk' trivial)
  refine hK.out _ _ K6 (fun hHeld => ?_)
  clear hK K
  refine held_take (i := 3) (v := ?v8) rfl rfl (by kernel_rfl) (by kernel_rfl) (by kernel_rfl) (fun _ _ _ h => h) (Or.inl ⟨by rfl, ?hy8⟩) hHeld ?rest8
  case hy8 => first | (intro w hSw; (try dsimp only at hSw); go_simp; done) | (intro w hSw; (try dsimp only at hSw); go_simp; with_reducible rfl)
  try simp only [List.setIfInBounds_toArray, List.set_cons_zero, List.set_cons_succ]
  refine held_take (i := 4) (v := ?v9) rfl rfl (by kernel_rfl) (by kernel_rfl) (by kernel_rfl) (fun _ _ _ h => h) (Or.inl ⟨by rfl, ?hy9⟩) hHeld ?rest9
  case hy9 => first | (intro w hSw; (try dsimp only at hSw); go_simp; done) | (intro w hSw; (try dsimp only at hSw); go_simp; with_reducible rfl)
  try simp only [List.setIfInBounds_toArray, List.set_cons_zero, List.set_cons_succ]
  refine held_take (i := 5) (v := ?v10) rfl rfl (by kernel_rfl) (by kernel_rfl) (by kernel_rfl) (fun _ _ _ h => h) (Or.inl ⟨by rfl, ?hy10⟩) hHeld ?rest10
  case hy10 => first | (intro w hSw; (try dsimp only at hSw); go_simp; done) | (intro w hSw; (try dsimp only at hSw); go_simp; with_reducible rfl)
  try simp only [List.setIfInBounds_toArray, List.set_cons_zero, List.set_cons_succ]
  refine held_take (i := 6) (v := ?v11) rfl rfl (by kernel_rfl) (by kernel_rfl) (by kernel_rfl) (fun _ _ _ h => h) (Or.inl ⟨by rfl, ?hy11⟩) hHeld ?rest11
  case hy11 => first | (intro w hSw; (try dsimp only at hSw); go_simp; done) | (intro w hSw; (try dsimp only at hSw); go_simp; with_reducible rfl)
  try simp only [List.setIfInBounds_toArray, List.set_cons_zero, List.set_cons_succ]
  refine held_take (i := 7) (v := ?v12) rfl rfl (by kernel_rfl) (by kernel_rfl) (by kernel_rfl) (fun _ _ _ h => h) (Or.inl ⟨by rfl, ?hy12⟩) hHeld ?rest12
  case hy12 => first | (intro w hSw; (try dsimp only at hSw); go_simp; done) | (intro w hSw; (try dsimp only at hSw); go_simp; with_reducible rfl)
  try simp only [List.setIfInBounds_toArray, List.set_cons_zero, List.set_cons_succ]
  refine wpAnyH_done (by kernel_rfl) ?_ _
  go_wp2_with (first
    | (have hgo := m15; clear hgo; go_at_call 13; refine (alive14_any (HTT.out.kept K15)).mono ?_; rintro e v16 ⟨rfl, hk⟩; have K16 : Kept W1 v16 none := K15.tr hk; have lb16 : B < v16.heap.size := Nat.lt_of_lt_of_le hBl K16.size; clear m15 hk; have m16 := Hid.mk' trivial)
    | (have hgo := m14; clear hgo; go_at_call 12; refine (cfst_at (X := X00) (S := S00) (sat00 _) (HTT.out.kept K14) 0 (by decide) 0 rfl (0) (0) 50 (by decide +kernel) (by decide +kernel)).mono ?_; rintro e v15 ⟨rfl, hk⟩; have K15 : Kept W1 v15 none := K14.tr hk; have lb15 : B < v15.heap.size := Nat.lt_of_lt_of_le hBl K15.size; clear m14 hk; have m15 := Hid.mk' trivial)
    | (have hgo := m13; clear hgo; go_at_call 9; refine (crea_at (HS.out.kept K13) (HTT.out.kept K13) (Lks.nil _ none) ⟨fun _ => ⟨rfl, rfl⟩, Nat.le_refl _, Nat.zero_le _⟩ 0 4 (by decide +kernel) (by decide +kernel)).mono ?_; rintro e v14 ⟨rfl, hk⟩; have K14 : Kept W1 v14 none := K13.tr hk; have lb14 : B < v14.heap.size := Nat.lt_of_lt_of_le hBl K14.size; clear m13 hk; have m14 := Hid.mk' trivial)
    | (have hgo := m12; clear hgo; go_at_call 12; refine (cfst_at (HS.out.kept K12) (HTT.out.kept K12) 0 (by decide) 0 rfl (2) (0) 2 (by decide +kernel) (by decide +kernel)).mono ?_; rintro e v13 ⟨rfl, hk⟩; have K13 : Kept W1 v13 none := K12.tr hk; have lb13 : B < v13.heap.size := Nat.lt_of_lt_of_le hBl K13.size; clear m12 hk; have m13 := Hid.mk' trivial)
    | (have hgo := m11; clear hgo; go_at_call 11; refine (cnext_at (HS.out.kept K11) (HTT.out.kept K11) 4 (by decide) 4 rfl (0) (HL.out.kept K11) cap_one 0 8 (by decide +kernel) (by decide +kernel)).mono ?_; rintro e v12 ⟨rfl, hk⟩; have K12 : Kept W1 v12 none := K11.tr hk; have lb12 : B < v12.heap.size := Nat.lt_of_lt_of_le hBl K12.size; clear m11 hk; have m12 := Hid.mk' trivial)
    | (have hgo := m10; clear hgo; go_at_call 12; refine (cfst_at (HS.out.kept K10) (HTT.out.kept K10) 3 (by decide) 3 rfl (-1) (0) 0 (by decide +kernel) (by decide +kernel)).mono ?_; rintro e v11 ⟨rfl, hk⟩; have K11 : Kept W1 v11 none := K10.tr hk; have lb11 : B < v11.heap.size := Nat.lt_of_lt_of_le hBl K11.size; clear m10 hk; have m11 := Hid.mk' trivial)
    | (have hgo := m9; clear hgo; go_at_call 12; refine (cfst_at (HS.out.kept K9) (HTT.out.kept K9) 0 (by decide) 0 rfl (1) (-1) 0 (by decide +kernel) (by decide +kernel)).mono ?_; rintro e v10 ⟨rfl, hk⟩; have K10 : Kept W1 v10 none := K9.tr hk; have lb10 : B < v10.heap.size := Nat.lt_of_lt_of_le hBl K10.size; clear m9 hk; have m10 := Hid.mk' trivial)
    | (have hgo := m8; clear hgo; go_at_call 12; refine (cfst_at (HS.out.kept K8) (HTT.out.kept K8) 1 (by decide) 1 rfl (0) (0) 0 (by decide +kernel) (by decide +kernel)).mono ?_; rintro e v9 ⟨rfl, hk⟩; have K9 : Kept W1 v9 none := K8.tr hk; have lb9 : B < v9.heap.size := Nat.lt_of_lt_of_le hBl K9.size; clear m8 hk; have m9 := Hid.mk' trivial)
    | (have hgo := m7; clear hgo; go_at_call 11; refine (cnext_at (HS.out.kept K7) (HTT.out.kept K7) 1 (by decide) 1 rfl (1) (HL.out.kept K7) cap_one 1 0 (by decide +kernel) (by decide +kernel)).mono ?_; rintro e v8 ⟨rfl, hk⟩; have K8 : Kept W1 v8 none := K7.tr hk; have lb8 : B < v8.heap.size := Nat.lt_of_lt_of_le hBl K8.size; clear m7 hk; have m8 := Hid.mk' trivial)
    | (have hgo := m6; clear hgo; go_at_call 11; refine (cnext_at (HS.out.kept K6) (HTT.out.kept K6) 1 (by decide) 1 rfl (-1) (HL.out.kept K6) cap_one 3 0 (by decide +kernel) (by decide +kernel)).mono ?_; rintro e v7 ⟨rfl, hk⟩; have K7 : Kept W1 v7 none := K6.tr hk; have lb7 : B < v7.heap.size := Nat.lt_of_lt_of_le hBl K7.size; clear m6 hk; have m7 := Hid.mk' trivial))
  go_ret
  exact ⟨by simp, (HN.out.kept.tr K16).below⟩

end Go.Proofs.YtjfajdmifjbblaaDoor
