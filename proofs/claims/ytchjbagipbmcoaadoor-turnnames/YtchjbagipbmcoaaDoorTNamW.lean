/-
  Texts joined: some of those that the proofs of this seat stand on.
-/
import Derived.Test.YtchjbagipbmcoaaDoorTurDJ
import Derived.Test.YtchjbagipbmcoaaDoorTurB
import Derived.Test.YtchjbagipbmcoaaDoorTurW
import Derived.Deep.RegionHeld
/-
  THE WALK of TurnNames (made by a program).
-/
namespace Go.Proofs.YtchjbagipbmcoaaDoor
open Go.RowKit Go.Lib Go.Deep
set_option linter.unusedVariables false
set_option linter.unusedSimpArgs false


theorem nadm_at {X : Sa} {S : St} {w : World} {p bl : Nat} {ag : Option Addr} {cg : Nat} {G : Sf} (h : Sat w X S) (hT : Tabb w) (hsf : SafeAt w ag cg G) (hrow : w.rowIs bl 5 S.groups.length (fun i => .int .u8 ((lg (askV S p) i : Nat) : Int))) (hs : siteB S = true) (hg : goesV S G = true) : Calls Tryd.prog 10 #[siteV X S, (.agg #[.slice ag S.groups.length cg, .int .i64 G.start, .bool G.flashed]), .slice (some ⟨bl, 0, none⟩) S.groups.length S.groups.length] w fun e w2 => ∃ b, e = .returned (.tuple #[.slice (some ⟨b, 0, none⟩) S.groups.length S.groups.length, .int .i64 0]) ∧ By w2 (some ⟨b, 0, none⟩) S.groups.length (letV S G (askV S p)) ∧ Kept w w2 none := by
  have hng := (span_may hs).base.sh.ok.ng
  have hz : goesE S G = 0 := by unfold goesE; rw [hs, hg]; rfl
  have hfn := (mayS_parts (goes_parts hg).1).1
  have hx := gadmit_go (cl := S.groups.length) h hT hsf (By.row hrow (askV S p) S.groups.length (Nat.le_refl _) (askV_len S p) (by omega) (askV_ltt S p) (fun i hi => rfl)) hz rfl
  rw [safeV, hfn] at hx
  refine hx.mono ?_
  rintro e w2 ⟨b, rfl, h1, h2, h3⟩
  exact ⟨b, rfl, By.row h2 _ S.groups.length (Nat.le_refl _) ((letV_len S G _).trans (askV_len S p)) (by omega) (letV_ltt _ _ _) (fun i hi => by rw [show (letV S G (askV S p)).getD i 0 = lg (letV S G (askV S p)) i from rfl, letV_lg (by rw [askV_len]; exact hi)]), h3⟩
theorem nnxt_at {X : Sa} {S : St} {w : World} {p b : Nat} {ag : Option Addr} {cg : Nat} {G : Sf} (h : Sat w X S) (hT : Tabb w) (hsf : SafeAt w ag cg G) (hB : By w (some ⟨b, 0, none⟩) S.groups.length (letV S G (askV S p))) (hs : siteB S = true) (hg : goesV S G = true) : Calls Tryd.prog 11 #[siteV X S, (.agg #[.slice ag S.groups.length cg, .int .i64 G.start, .bool G.flashed]), .slice (some ⟨b, 0, none⟩) S.groups.length S.groups.length] w fun e w2 => ∃ b2, e = .returned (.tuple #[.agg #[.slice (some ⟨b2, 0, none⟩) S.groups.length S.groups.length, .int .i64 (stepT S p G).start, .bool (stepT S p G).flashed], .int .u8 0, .int .i64 0]) ∧ w.heap.size ≤ b2 ∧ SafeAt w2 (some ⟨b2, 0, none⟩) S.groups.length (stepT S p G) ∧ Kept w w2 none := by
  have hng := (span_may hs).base.sh.ok.ng
  refine (next_got h hT hsf hB hs (goes_parts hg).1 (let_safe hs hg (askV_len S p))).mono ?_
  rintro e w2 ⟨b2, rfl, h1, h2, h3⟩
  exact ⟨b2, rfl, h1, OwnG.safe h2 (step_len S p G) (fun _ _ => rfl) (by omega) (step_rngt S p G), h3⟩
theorem wor15 : worT S15 = 9 := by decide +kernel
theorem l10 : lg (askV S15 1) 0 = 1 := by decide +kernel
theorem l11 : lg (askV S15 1) 1 = 2 := by decide +kernel
theorem l12 : lg (askV S15 1) 2 = 2 := by decide +kernel
theorem goes_z15 : goesE S15 ⟨[], 0, false⟩ = 8 := by decide +kernel
theorem goes_515 : goesE S15 (atT S15 0 (firstV S15) 5) = 0 := by decide +kernel
theorem stp_515 : stpO S15 (atT S15 0 (firstV S15) 5) 1 = some 5 := stpO_at (by omega) (by decide +kernel) (by decide +kernel)
theorem goes_at15 (k : Nat) : goesV S15 (atT S15 0 (firstV S15) k) = true := goes_at s15_may (goesE_ok goes_f15).2 k
theorem safe_nil15 (w : World) : SafeAt w none 0 ⟨[], 0, false⟩ := ⟨⟨fun hp => absurd hp (by simp)⟩, ⟨fun _ => ⟨rfl, rfl⟩, by simp, by omega⟩, by simp⟩
/-- What the ticks go by. -/
structure Tv (w wr : World) (bn bl : Nat) (G : Sf) : Prop where
  kp : Kept w wr none
  bx : ∃ ag cg, Box wr bn (.slice ag S15.groups.length cg) (.int .i64 G.start) (.bool G.flashed) ∧ SafeAt wr ag cg G ∧ ∀ b, ag = some b → b.block ≠ bn
  row : wr.rowIs bl 5 S15.groups.length (fun i => .int .u8 ((lg (askV S15 0) i : Nat) : Int))
theorem Lie.keptV {w w' : World} {r : Option Nat} {a : Option Addr} {n k : Nat} {f : Nat → Nat → Value} (h : Lie w a n k f) (q : Kept w w' r) (hr : 0 < n → ∀ x, a = some x → some x.block ≠ r) : Lie w' a n k f :=
  ⟨fun hp => by
    obtain ⟨b, off, e, hb, hc⟩ := h.at_ hp
    exact ⟨b, off, e, Nat.lt_of_lt_of_le hb q.size, fun i hi j hj => cell_keptS (hc i hi j hj) q (hr hp _ e)⟩⟩
theorem Tv.step {w wr w7 : World} {bn bl b2 : Nat} {G G' : Sf} (h : Tv w wr bn bl G) (d1 : bl ≠ bn) (d2 : w.heap.size ≤ bn) (k : Kept wr w7 none) (hs2 : SafeAt w7 (some ⟨b2, 0, none⟩) S15.groups.length G') (hb2 : wr.heap.size ≤ b2) : Tv w (((w7.setCell ⟨bn, 0, none⟩ (.slice (some ⟨b2, 0, none⟩) S15.groups.length S15.groups.length)).setCell ⟨bn, 1, none⟩ (.int .i64 G'.start)).setCell ⟨bn, 2, none⟩ (.bool G'.flashed)) bn bl G' := by
  obtain ⟨ag, cg, hb, hs, hne⟩ := h.bx
  have k7 : Kept w7 (((w7.setCell ⟨bn, 0, none⟩ (.slice (some ⟨b2, 0, none⟩) S15.groups.length S15.groups.length)).setCell ⟨bn, 1, none⟩ (.int .i64 G'.start)).setCell ⟨bn, 2, none⟩ (.bool G'.flashed)) (some bn) := (((Kept.refl w7 (some bn)).setRow _ _).setRow _ _).setRow _ _
  have kn := (k.weakS (some bn)).tr k7
  have kw := (((h.kp.tr k).setNew (p := ⟨bn, 0, none⟩) d2 (.slice (some ⟨b2, 0, none⟩) S15.groups.length S15.groups.length)).setNew (p := ⟨bn, 1, none⟩) d2 (.int .i64 G'.start)).setNew (p := ⟨bn, 2, none⟩) d2 (.bool G'.flashed)
  have h2 : b2 ≠ bn := by have := hb.lt; omega
  exact ⟨kw, ⟨some ⟨b2, 0, none⟩, S15.groups.length, (hb.kept k).set3t _ _ _, ⟨hs2.lie.keptV k7 (fun _ x e => by injection e with e; subst e; exact fun e => h2 (Option.some.inj e)), hs2.cap, hs2.rng⟩, fun b e => by injection e with e; subst e; exact h2⟩, row_kept h.row kn (fun e => d1 (Option.some.inj e))⟩
/-- A drawn region's one way, a site and a block left open. -/
def Rv15 (A : Sa → Nat → Act) (P : World → Prop) (e : Exit) (a : Act) (w : World) : Prop := match e with
  | .normal => ∃ u v, a = A u v ∧ P w
  | _ => False
theorem Rv15.out {A : Sa → Nat → Act} {P : World → Prop} {w : World} {e : Exit} {a : Act} (h : Rv15 A P e a w) : e = .normal ∧ ∃ u v, a = A u v ∧ P w := by
  cases e with
  | normal => exact ⟨rfl, h⟩
  | _ => exact h.elim
set_option maxRecDepth 100000 in
set_option maxHeartbeats 8000000 in
theorem tnames_any {w : World} (hT : Tabb w) : Calls Tryd.prog 3 #[] w fun e w' => e = .returned (.bool true) ∧ Below w.heap.size w w' := by
  have HT := Hid.mk' hT
  have h00 := Kept.refl w none
  have hN3 : (((S15.groups.length : Nat) : Int) == 3) = true := by decide +kernel
  have hN0 : 0 < S15.groups.length := by decide
  have hN1 : 1 < S15.groups.length := by decide
  have hN2 : 2 < S15.groups.length := by decide
  clear hT
  go_enter Tryd.func3, Tryd.ntmps3
  go_wp2_with (first | (have hgo := SA4; clear hgo; go_at_call 6; have hx : Calls Tryd.prog 6 #[siteV Y4 S15, .int .i64 0] v4 _ := tasks_go SA4.out (HT.out.kept hv4) 0 s15_may (by decide); refine hx.mono ?_; rintro e u4 ⟨b4, rfl, hb4, hr4, hk4⟩; have hu4 : Kept w u4 none := hv4.tr hk4; clear hx) | (have hgo := hw5; clear hgo; go_at_call 7; refine three_any.mono ?_; rintro e v4 ⟨Y4, rfl, hsat, hj4⟩; rw [HW5.out] at hj4; have SA4 := Hid.mk' hsat; have hv4 : Kept w v4 none := hw5.tr hj4; clear hsat) | (have hgo := SA3; clear hgo; go_at_call 9; refine (first_yes2t SA3.out (HT.out.kept hv3) s15_may).mono ?_; rintro e u3 ⟨b5, rfl, hb5, hog5, hk3⟩; have hu3 : Kept w u3 none := hv3.tr hk3; have kL : Kept u3 (u3.alloc (.cells #[.slice (some ⟨b5, 0, none⟩) S15.groups.length S15.groups.length, .int .i64 (worstM S15), .bool false] 39)) none := Kept.alloc _ _ _ _ _; have bx := box_alloc u3 (.slice (some ⟨b5, 0, none⟩) S15.groups.length S15.groups.length) (.int .i64 (worstM S15)) (.bool false) 39; have hr3 := row_kept hr1 (((hj2.tr hk2).tr hj3).tr hk3) (by simp); have q0 := hr3.cell (i := 0) (by decide); have q1 := hr3.cell (i := 1) (by decide); have q2 := hr3.cell (i := 2) (by decide); have hbl1 := hr3.lt; have HB5 := Hid.mk' hog5.lt; have HSF0 := Hid.mk' (first_safe (row_kept hog5 kL (by simp))); obtain ⟨W5, hW5⟩ : ∃ W5, u3.alloc (.cells #[.slice (some ⟨b5, 0, none⟩) S15.groups.length S15.groups.length, .int .i64 (worstM S15), .bool false] 39) = W5 := ⟨_, rfl⟩; rw [hW5] at kL bx HSF0; have hw5 : Kept w W5 none := hu3.tr kL; have HBX := Hid.mk' bx; have HSF := HSF0; have HW5 := Hid.mk' hW5; rw [l10] at q0; rw [l11] at q1; rw [l12] at q2; clear bx hog5 hW5 HSF0 hr1 hr3 kL) | (have hgo := hu2; clear hgo; go_at_call 7; refine three_any.mono ?_; rintro e v3 ⟨Y3, rfl, hsat, hj3⟩; have SA3 := Hid.mk' hsat; have hv3 : Kept w v3 none := hu2.tr hj3; clear hsat) | (have hgo := SA2; clear hgo; go_at_call 8; have hx := twor_yes SA2.out (HT.out.kept hv2) s15_may; rw [wor15] at hx; refine hx.mono ?_; rintro e u2 ⟨rfl, hk2⟩; have hu2 : Kept w u2 none := hv2.tr hk2; clear hx) | (have hgo := hu1; clear hgo; go_at_call 7; refine three_any.mono ?_; rintro e v2 ⟨Y2, rfl, hsat, hj2⟩; have SA2 := Hid.mk' hsat; have hv2 : Kept w v2 none := hu1.tr hj2; clear hsat) | (have hgo := SA1; clear hgo; go_at_call 6; have hx : Calls Tryd.prog 6 #[siteV Y1 S15, .int .i64 1] v1 _ := tasks_go SA1.out (HT.out.kept hv1) 1 s15_may (by decide); refine hx.mono ?_; rintro e u1 ⟨b1, rfl, hb1, hr1, hk1⟩; have hu1 : Kept w u1 none := hv1.tr hk1; clear hx) | (have hgo := h00; clear hgo; go_at_call 7; refine three_any.mono ?_; rintro e v1 ⟨Y1, rfl, hsat, hj1⟩; have SA1 := Hid.mk' hsat; have hv1 : Kept w v1 none := h00.tr hj1; clear hsat))
  have HT0 : Hid (Tv w u4 u3.heap.size b4 (atT S15 0 (firstV S15) 0)) := ⟨hu4, ⟨some ⟨b5, 0, none⟩, S15.groups.length, HBX.out.kept (hj4.tr hk4), HSF.out.kept (hj4.tr hk4), fun b e => by injection e with e; subst e; exact Nat.ne_of_lt HB5.out⟩, hr4⟩
  have HD1 : Hid (b4 ≠ u3.heap.size) := by show _ ≠ _; have h1 := HBX.out.lt; have h2 := hj4.size; omega
  have HD2 : Hid (w.heap.size ≤ u3.heap.size) := hu3.size
  clear h00 hj1 hv1 hb1 hk1 hu1 hj2 hv2 hk2 hu2 hj3 hv3 hb5 hk3 hu3 hw5 q0 q1 q2 hbl1 HB5 HSF HW5 hj4 hv4 hb4 hr4 hk4 hu4 HBX hN3 hN1 hN2 SA1 SA2 SA3 SA4
  generalize u3.heap.size = bN at *
  go_loopw [10, 11, 12] (fun i _ _ wr => ∃ k : Nat, k ≤ 5 ∧ i = .int .i64 k ∧ Tv w wr bN b4 (atT S15 0 (firstV S15) k)) (fun i _ _ _ => 5 - (intOf i).toNat)
  case atStart => exact ⟨0, by omega, rfl, HT0.out⟩
  case round =>
    obtain ⟨k, hk, rfl, htv⟩ := hrel
    obtain ⟨ag, cg, hb, hsf, hne⟩ := htv.bx
    have HBW := Hid.mk' hb
    have HTV := Hid.mk' htv
    have hK0 := Kept.refl wr none
    by_cases hlt : k < 5
    · have n0_ : ∀ w', Kept wr w' none → w'.cell? ⟨bN, 0, none⟩ = some (.slice ag S15.groups.length cg) := fun w' q => (HBW.out.kept q).c0
      have n1_ : ∀ w', Kept wr w' none → w'.cell? ⟨bN, 1, none⟩ = some (.int .i64 (atT S15 0 (firstV S15) k).start) := fun w' q => (HBW.out.kept q).c1
      have n2_ : ∀ w', Kept wr w' none → w'.cell? ⟨bN, 2, none⟩ = some (.bool (atT S15 0 (firstV S15) k).flashed) := fun w' q => (HBW.out.kept q).c2
      have HAD : Hid (∀ w' X, Kept wr w' none → Sat w' X S15 → Calls Tryd.prog 10 #[siteV X S15, .agg #[.slice ag S15.groups.length cg, .int .i64 (atT S15 0 (firstV S15) k).start, .bool (atT S15 0 (firstV S15) k).flashed], .slice (some ⟨b4, 0, none⟩) S15.groups.length S15.groups.length] w' fun e w2 => ∃ b, e = .returned (.tuple #[.slice (some ⟨b, 0, none⟩) S15.groups.length S15.groups.length, .int .i64 0]) ∧ By w2 (some ⟨b, 0, none⟩) S15.groups.length (letV S15 (atT S15 0 (firstV S15) k) (askV S15 0)) ∧ Kept w' w2 none) := fun w' X q hs => nadm_at hs ((HT.out.kept htv.kp).kept q) (hsf.kept q) (row_kept htv.row q (by simp)) s15_may (goes_at15 k)
      have HNX0 : Hid (∀ w' X b, Kept wr w' none → Sat w' X S15 → By w' (some ⟨b, 0, none⟩) S15.groups.length (letV S15 (atT S15 0 (firstV S15) k) (askV S15 0)) → Calls Tryd.prog 11 #[siteV X S15, .agg #[.slice ag S15.groups.length cg, .int .i64 (atT S15 0 (firstV S15) k).start, .bool (atT S15 0 (firstV S15) k).flashed], .slice (some ⟨b, 0, none⟩) S15.groups.length S15.groups.length] w' fun e w2 => ∃ b2, e = .returned (.tuple #[.agg #[.slice (some ⟨b2, 0, none⟩) S15.groups.length S15.groups.length, .int .i64 (atT S15 0 (firstV S15) (k + 1)).start, .bool (atT S15 0 (firstV S15) (k + 1)).flashed], .int .u8 0, .int .i64 0]) ∧ w'.heap.size ≤ b2 ∧ SafeAt w2 (some ⟨b2, 0, none⟩) S15.groups.length (atT S15 0 (firstV S15) (k + 1)) ∧ Kept w' w2 none) := fun w' X b q hs hB => nnxt_at hs ((HT.out.kept htv.kp).kept q) (hsf.kept q) hB s15_may (goes_at15 k)
      have HST0 : Hid (∀ w7 b2, Kept wr w7 none → SafeAt w7 (some ⟨b2, 0, none⟩) S15.groups.length (atT S15 0 (firstV S15) (k + 1)) → wr.heap.size ≤ b2 → Tv w (((w7.setCell ⟨bN, 0, none⟩ (.slice (some ⟨b2, 0, none⟩) S15.groups.length S15.groups.length)).setCell ⟨bN, 1, none⟩ (.int .i64 (atT S15 0 (firstV S15) (k + 1)).start)).setCell ⟨bN, 2, none⟩ (.bool (atT S15 0 (firstV S15) (k + 1)).flashed)) bN b4 (atT S15 0 (firstV S15) (k + 1))) := fun w7 b2 q hs2 hb2 => htv.step HD1.out HD2.out q hs2 hb2
      clear htv hb hsf hne
      obtain ⟨G', hG'⟩ : ∃ G', atT S15 0 (firstV S15) (k + 1) = G' := ⟨_, rfl⟩
      rw [hG'] at HNX0 HST0
      have HGE := Hid.mk' hG'
      clear hG' HTV
      generalize letV S15 (atT S15 0 (firstV S15) k) (askV S15 0) = LV at *
      generalize atT S15 0 (firstV S15) k = G at *
      go_wp2
      go_region_held (fun w' => Kept wr w' none)
        ((first | exact hK0 | exact Kept.tr hK0 (Kept.drew _ _) | assumption | exact Kept.tr (by assumption) (Kept.drew _ _)))
        ((first
          | (go_at_call 10; refine (HAD.out _ _ hKa SA.out).mono ?_; rintro e wM ⟨bL, rfl, hbL, hkM⟩; have hKM : Kept wr wM none := Kept.tr hKa hkM)
          | (go_at_call 7; refine three_any.mono ?_; rintro e vA ⟨YA, rfl, hsat, hkA⟩; have SA := Hid.mk' hsat; have hKa : Kept wr vA none := Kept.tr (by assumption) hkA; clear hsat)))
      all_goals
      go_wp2
      have HBM := Hid.mk' (HBW.out.kept hKM)
      have HNX : Hid (∀ w' X, Kept wM w' none → Sat w' X S15 → Calls Tryd.prog 11 #[siteV X S15, .agg #[.slice ag S15.groups.length cg, .int .i64 G.start, .bool G.flashed], .slice (some ⟨bL, 0, none⟩) S15.groups.length S15.groups.length] w' fun e w2 => ∃ b2, e = .returned (.tuple #[.agg #[.slice (some ⟨b2, 0, none⟩) S15.groups.length S15.groups.length, .int .i64 G'.start, .bool G'.flashed], .int .u8 0, .int .i64 0]) ∧ w'.heap.size ≤ b2 ∧ SafeAt w2 (some ⟨b2, 0, none⟩) S15.groups.length G' ∧ Kept w' w2 none) := fun w' X q hs => HNX0.out w' X bL (hKM.tr q) hs (hbL.kept q)
      have HST : Hid (∀ w7 b2, Kept wM w7 none → SafeAt w7 (some ⟨b2, 0, none⟩) S15.groups.length G' → wM.heap.size ≤ b2 → Tv w (((w7.setCell ⟨bN, 0, none⟩ (.slice (some ⟨b2, 0, none⟩) S15.groups.length S15.groups.length)).setCell ⟨bN, 1, none⟩ (.int .i64 G'.start)).setCell ⟨bN, 2, none⟩ (.bool G'.flashed)) bN b4 G') := fun w7 b2 q hs2 hb2 => HST0.out w7 b2 (hKM.tr q) hs2 (Nat.le_trans hKM.size hb2)
      have x0 : ∀ w', Kept wM w' none → w'.cell? ⟨bN, 0, none⟩ = some (.slice ag S15.groups.length cg) := fun w' q => (HBM.out.kept q).c0
      have x1 : ∀ w', Kept wM w' none → w'.cell? ⟨bN, 1, none⟩ = some (.int .i64 G.start) := fun w' q => (HBM.out.kept q).c1
      have x2 : ∀ w', Kept wM w' none → w'.cell? ⟨bN, 2, none⟩ = some (.bool G.flashed) := fun w' q => (HBM.out.kept q).c2
      have hKd : Kept wM wM.drew none := Kept.drew _ _
      clear n0_ n1_ n2_ hK0 hbL hKM hkM hKa hkA SA HAD HNX0 HST0
      refine Code.wp_mono (Q := Rv15 ?A (fun w' => Tv w w' bN b4 G')) ?cont ?reg
      case reg =>
          repeat (rename_i hh; clear hh)
          refine wp_region_held_drew (S := fun w' => Kept wM w' (some bN)) (by kernel_rfl) (Kept.drew _ _) (fun hHeld => ?_)
          refine held_take (i := 2) (v := ?v1) rfl rfl (by kernel_rfl) (by kernel_rfl) (by kernel_rfl) (fun _ _ _ h => h) (Or.inl ⟨by rfl, ?hy1⟩) hHeld ?rest1
          case hy1 => first | (intro w hSw; (try dsimp only at hSw); go_simp; done) | (intro w hSw; (try dsimp only at hSw); go_simp; with_reducible rfl)
          try simp only [List.setIfInBounds_toArray, List.set_cons_zero, List.set_cons_succ]
          refine wpAnyH_ready (rs := [0, 1]) (by kernel_rfl) (by simp) ?_
          refine (AllReadyH.cons rfl (fun K hK => ?c1x0) (AllReadyH.cons rfl (fun K hK => ?c1x1) AllReadyH.nil))
          case c1x0 =>
            go_simp
            go_wp2_with (go_at_call 7; refine three_any.mono ?_; rintro e vB ⟨YB, rfl, hsat, hjB⟩)
            have SB := Hid.mk' hsat
            have hKB : Kept wM vB none := hKd.tr hjB
            clear hsat
            refine hK.out _ _ (hKB.weakS _) (fun hHeld => ?_)
            clear hK K
            refine wpAnyH_ready (rs := [1]) (by kernel_rfl) (by simp) ?_
            refine (AllReadyH.cons rfl (fun K hK => ?c2x1) AllReadyH.nil)
            case c2x1 =>
              go_simp
              refine hK.out _ _ hHeld (fun hHeld => ?_)
              clear hK K
              refine wpAnyH_ready (rs := [3]) (by kernel_rfl) (by simp) ?_
              refine AllReadyH.cons rfl (fun K hK => ?_) AllReadyH.nil
              go_simp
              go_wp2_with (go_at_call 11; refine (HNX.out _ _ hKB SB.out).mono ?_; rintro e w6 ⟨b2, rfl, hb2, hsf6, hk6⟩)
              have hK6 : Kept wM w6 none := hKB.tr hk6
              refine hK.out _ _ (hK6.weakS _) (fun hHeld => ?_)
              clear hK K
              refine held_take (i := 4) (v := ?v2) rfl rfl (by kernel_rfl) (by kernel_rfl) (by kernel_rfl) (fun _ _ _ h => h) (Or.inl ⟨by rfl, ?hy2⟩) hHeld ?rest2
              case hy2 => first | (intro w hSw; (try dsimp only at hSw); go_simp; done) | (intro w hSw; (try dsimp only at hSw); go_simp; with_reducible rfl)
              try simp only [List.setIfInBounds_toArray, List.set_cons_zero, List.set_cons_succ]
              refine held_take (i := 5) (v := ?v3) rfl rfl (by kernel_rfl) (by kernel_rfl) (by kernel_rfl) (fun _ _ _ h => h) (Or.inl ⟨by rfl, ?hy3⟩) hHeld ?rest3
              case hy3 => first | (intro w hSw; (try dsimp only at hSw); go_simp; done) | (intro w hSw; (try dsimp only at hSw); go_simp; with_reducible rfl)
              try simp only [List.setIfInBounds_toArray, List.set_cons_zero, List.set_cons_succ]
              refine held_take (i := 6) (v := ?v4) rfl rfl (by kernel_rfl) (by kernel_rfl) (by kernel_rfl) (fun _ _ _ h => h) (Or.inl ⟨by rfl, ?hy4⟩) hHeld ?rest4
              case hy4 => first | (intro w hSw; (try dsimp only at hSw); go_simp; done) | (intro w hSw; (try dsimp only at hSw); go_simp; with_reducible rfl)
              try simp only [List.setIfInBounds_toArray, List.set_cons_zero, List.set_cons_succ]
              refine held_take (i := 7) (v := ?v5) rfl rfl (by kernel_rfl) (by kernel_rfl) (by kernel_rfl) (fun _ _ _ h => h) (Or.inl ⟨by rfl, ?hy5⟩) hHeld ?rest5
              case hy5 => first | (intro w hSw; (try dsimp only at hSw); go_simp; done) | (intro w hSw; (try dsimp only at hSw); go_simp; with_reducible rfl)
              try simp only [List.setIfInBounds_toArray, List.set_cons_zero, List.set_cons_succ]
              have BX6 := HBM.out.kept hK6
              have d0 := BX6.c0
              have d1 := BX6.c1
              have d2 := BX6.c2
              have e0 := BX6.f0
              have e1 := BX6.f1
              have e2 := BX6.f2
              refine wpAnyH_ready (rs := [8]) (by kernel_rfl) (by simp) ?_
              refine AllReadyH.cons rfl (fun K hK => ?_) AllReadyH.nil
              go_simp
              refine hK.out _ _ (((hHeld.setRow _ _).setRow _ _).setRow _ _) (fun hHeld => ?_)
              clear hK K
              refine wpAnyH_done (by kernel_rfl) ?_ _
              refine ⟨YB, b2, ?_, HST.out w6 b2 hK6 hsf6 (Nat.le_trans hKB.size hb2)⟩
              with_reducible rfl
          case c1x1 =>
            go_simp
            refine hK.out _ _ hHeld (fun hHeld => ?_)
            clear hK K
            refine wpAnyH_ready (rs := [0]) (by kernel_rfl) (by simp) ?_
            refine (AllReadyH.cons rfl (fun K hK => ?c3x0) AllReadyH.nil)
            case c3x0 =>
              go_simp
              go_wp2_with (go_at_call 7; refine three_any.mono ?_; rintro e vB ⟨YB, rfl, hsat, hjB⟩)
              have SB := Hid.mk' hsat
              have hKB : Kept wM vB none := hKd.tr hjB
              clear hsat
              refine hK.out _ _ (hKB.weakS _) (fun hHeld => ?_)
              clear hK K
              refine wpAnyH_ready (rs := [3]) (by kernel_rfl) (by simp) ?_
              refine AllReadyH.cons rfl (fun K hK => ?_) AllReadyH.nil
              go_simp
              go_wp2_with (go_at_call 11; refine (HNX.out _ _ hKB SB.out).mono ?_; rintro e w6 ⟨b2, rfl, hb2, hsf6, hk6⟩)
              have hK6 : Kept wM w6 none := hKB.tr hk6
              refine hK.out _ _ (hK6.weakS _) (fun hHeld => ?_)
              clear hK K
              refine held_take (i := 4) (v := ?v6) rfl rfl (by kernel_rfl) (by kernel_rfl) (by kernel_rfl) (fun _ _ _ h => h) (Or.inl ⟨by rfl, ?hy6⟩) hHeld ?rest6
              case hy6 => first | (intro w hSw; (try dsimp only at hSw); go_simp; done) | (intro w hSw; (try dsimp only at hSw); go_simp; with_reducible rfl)
              try simp only [List.setIfInBounds_toArray, List.set_cons_zero, List.set_cons_succ]
              refine held_take (i := 5) (v := ?v7) rfl rfl (by kernel_rfl) (by kernel_rfl) (by kernel_rfl) (fun _ _ _ h => h) (Or.inl ⟨by rfl, ?hy7⟩) hHeld ?rest7
              case hy7 => first | (intro w hSw; (try dsimp only at hSw); go_simp; done) | (intro w hSw; (try dsimp only at hSw); go_simp; with_reducible rfl)
              try simp only [List.setIfInBounds_toArray, List.set_cons_zero, List.set_cons_succ]
              refine held_take (i := 6) (v := ?v8) rfl rfl (by kernel_rfl) (by kernel_rfl) (by kernel_rfl) (fun _ _ _ h => h) (Or.inl ⟨by rfl, ?hy8⟩) hHeld ?rest8
              case hy8 => first | (intro w hSw; (try dsimp only at hSw); go_simp; done) | (intro w hSw; (try dsimp only at hSw); go_simp; with_reducible rfl)
              try simp only [List.setIfInBounds_toArray, List.set_cons_zero, List.set_cons_succ]
              refine held_take (i := 7) (v := ?v9) rfl rfl (by kernel_rfl) (by kernel_rfl) (by kernel_rfl) (fun _ _ _ h => h) (Or.inl ⟨by rfl, ?hy9⟩) hHeld ?rest9
              case hy9 => first | (intro w hSw; (try dsimp only at hSw); go_simp; done) | (intro w hSw; (try dsimp only at hSw); go_simp; with_reducible rfl)
              try simp only [List.setIfInBounds_toArray, List.set_cons_zero, List.set_cons_succ]
              have BX6 := HBM.out.kept hK6
              have d0 := BX6.c0
              have d1 := BX6.c1
              have d2 := BX6.c2
              have e0 := BX6.f0
              have e1 := BX6.f1
              have e2 := BX6.f2
              refine wpAnyH_ready (rs := [8]) (by kernel_rfl) (by simp) ?_
              refine AllReadyH.cons rfl (fun K hK => ?_) AllReadyH.nil
              go_simp
              refine hK.out _ _ (((hHeld.setRow _ _).setRow _ _).setRow _ _) (fun hHeld => ?_)
              clear hK K
              refine wpAnyH_done (by kernel_rfl) ?_ _
              refine ⟨YB, b2, ?_, HST.out w6 b2 hK6 hsf6 (Nat.le_trans hKB.size hb2)⟩
              with_reducible rfl
      case cont =>
      intro e a' w' hq'
      obtain ⟨rfl, u1', u2', rfl, htq⟩ := hq'.out
      go_wp2
      go_roundw
      case rel => exact ⟨k + 1, by omega, by go_num, by rw [HGE.out]; exact htq⟩
      case measure => simp [intOf]; omega
    · have e : k = 5 := by omega
      subst e
      have n0_ : ∀ w', Kept wr w' none → w'.cell? ⟨bN, 0, none⟩ = some (.slice ag S15.groups.length cg) := fun w' q => (HBW.out.kept q).c0
      have n1_ : ∀ w', Kept wr w' none → w'.cell? ⟨bN, 1, none⟩ = some (.int .i64 (atT S15 0 (firstV S15) 5).start) := fun w' q => (HBW.out.kept q).c1
      have n2_ : ∀ w', Kept wr w' none → w'.cell? ⟨bN, 2, none⟩ = some (.bool (atT S15 0 (firstV S15) 5).flashed) := fun w' q => (HBW.out.kept q).c2
      have HO : Hid (∀ w' X, Kept wr w' none → Sat w' X S15 → Calls Tryd.prog 12 #[siteV X S15, .agg #[.slice ag S15.groups.length cg, .int .i64 (atT S15 0 (firstV S15) 5).start, .bool (atT S15 0 (firstV S15) 5).flashed], .int .i64 1] w' fun e w2 => e = .returned (.tuple #[.int .i64 5, .int .i64 0]) ∧ Kept w' w2 none) := fun w' X q hs => by
        have hfl := (mayS_parts (goes_parts (goes_at15 5)).1).1
        have hx := tstps_go hs ((HT.out.kept htv.kp).kept q) (hsf.kept q) 1 goes_515 (by decide)
        obtain ⟨e1, e2⟩ := ste_go (p := 1) goes_515 (by decide) stp_515
        rw [safeV, hfl, e1, e2] at hx
        exact hx
      have KPW := Hid.mk' htv.kp
      clear htv hb hsf hne HTV
      generalize atT S15 0 (firstV S15) 5 = G at *
      go_wp2
      go_region_held (fun w' => Kept wr w' none)
        ((first | exact hK0 | exact Kept.tr hK0 (Kept.drew _ _) | assumption | exact Kept.tr (by assumption) (Kept.drew _ _)))
        ((first
          | (go_at_call 12; refine (HO.out _ _ hKa SA.out).mono ?_; rintro e wM ⟨rfl, hkM⟩; have hKM : Kept wr wM none := Kept.tr hKa hkM)
          | (go_at_call 7; refine three_any.mono ?_; rintro e vA ⟨YA, rfl, hsat, hkA⟩; have SA := Hid.mk' hsat; have hKa : Kept wr vA none := Kept.tr (by assumption) hkA; clear hsat)))
      all_goals
      have hu5 : Kept w wM none := KPW.out.tr hKM
      clear n0_ n1_ n2_ hK0 hKM hkM hKa hkA SA
      go_wp2_with (first | (have hgo := hu8; clear hgo; go_at_call 14; refine (talive_any (HT.out.kept hu8)).mono ?_; rintro e u9 ⟨rfl, hk9⟩; have hu9 : Kept w u9 none := hu8.tr hk9) | (have hgo := SA8; clear hgo; go_at_call 12; have hx : Calls Tryd.prog 12 #[siteV Y8 S15, safe0, .int .i64 0] v8 _ := tstps_no SA8.out (HT.out.kept hv8) (safe_nil15 v8) 0 (by rw [goes_z15]; decide); rw [goes_z15] at hx; refine hx.mono ?_; rintro e u8 ⟨rfl, hk8⟩; have hu8 : Kept w u8 none := hv8.tr hk8; clear hx) | (have hgo := hu7; clear hgo; go_at_call 7; refine three_any.mono ?_; rintro e v8 ⟨Y8, rfl, hsat, hj8⟩; have SA8 := Hid.mk' hsat; have hv8 : Kept w v8 none := hu7.tr hj8; clear hsat) | (have hgo := SA7; clear hgo; go_at_call 13; have hx : Calls Tryd.prog 13 #[siteV Y7 S15, safe0, .int .i64 0] v7 _ := tfull_bad SA7.out (HT.out.kept hv7) (safe_nil15 v7) 0 s15_may (by decide); refine hx.mono ?_; rintro e u7 ⟨rfl, hk7⟩; have hu7 : Kept w u7 none := hv7.tr hk7; clear hx) | (have hgo := hu6; clear hgo; go_at_call 7; refine three_any.mono ?_; rintro e v7 ⟨Y7, rfl, hsat, hj7⟩; have SA7 := Hid.mk' hsat; have hv7 : Kept w v7 none := hu6.tr hj7; clear hsat) | (have hgo := SA6; clear hgo; go_at_call 6; refine (tasks_arg SA6.out (HT.out.kept hv6) 2 s15_may (by decide +kernel)).mono ?_; rintro e u6 ⟨rfl, hk6⟩; have hu6 : Kept w u6 none := hv6.tr hk6) | (have hgo := hu5; clear hgo; go_at_call 7; refine three_any.mono ?_; rintro e v6 ⟨Y6, rfl, hsat, hj6⟩; have SA6 := Hid.mk' hsat; have hv6 : Kept w v6 none := hu5.tr hj6; clear hsat))
      go_ret
      exact ⟨by simp, hu9.below⟩

end Go.Proofs.YtchjbagipbmcoaaDoor

