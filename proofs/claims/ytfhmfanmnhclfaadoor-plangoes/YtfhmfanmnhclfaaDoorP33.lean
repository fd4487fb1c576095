import Derived.Deep.RegionHeld
import Derived.Test.YtfhmfanmnhclfaaDoorP21
namespace Go.Proofs.YtfhmfanmnhclfaaDoor
set_option linter.unusedVariables false
set_option linter.unusedSimpArgs false
open Go.RowKit Go.Lib Go.Deep Go.Shelf
attribute [local go_sem] Oper.semAt_some

theorem boxed_far {w : World} {D : Nat} {t : TypeId} {v : Value} (h : Boxed w D t v) {p : Addr} (hne : D ≠ p.block) (x : Value) : Boxed (w.setCell p x) D t v := (Below.heap_setCell _ _ _ _ hne).trans h
set_option maxRecDepth 100000 in
set_option maxHeartbeats 4000000 in
theorem pwho_any {S : St} {P : Pl} (hs : siteB S = true) (h : PlF S P) {w : World} {a : Option Addr} {c : Nat} (hI : Ints w a P.splits.length c P.splits) (t : Nat) (ht : t ≤ 1073741824) : Calls Tryd.prog 32 #[planV P a c, .int .i64 (t : Int)] w fun e w' => e = .returned (.tuple #[.int .i64 ((partV P t).1 : Int), .int .i64 ((partV P t).2 : Int)]) ∧ Kept w w' none := by
  refine (callsIn_wide (n := 8)).1 ?_
  have hn := (span_may hs).base.sh.ok.np
  have hc := cyc_facts hs
  have hlo := h.lo
  have hhi := h.hi
  have ho0 := h.o0
  have ho1 := h.o1
  have hcy : 1 ≤ P.cycle ∧ P.cycle ≤ 1048576 := by omega
  have hpl := place_lt hs h t
  have hpi := place_is hs h t
  have HN := Hid.mk' h.n
  have HREM : Hid (∀ w' : World, Calls Tryd.prog 29 #[.int .i64 ((t : Int) - P.offset), .int .i64 P.cycle] w' fun e w2 => e = .returned (.int .i64 (placeN P t : Int)) ∧ w2 = w') := fun w' => by
    have := prem_any ((t : Int) - P.offset) P.cycle (by unfold i64B; omega) hcy.1 hcy.2 w'
    rw [hpi] at this
    exact this
  have HBG : Hid (∀ k, k ≤ P.splits.length → i64B (bgI P.splits k)) := fun k hk => by
    rw [h.n] at hk
    rw [bg_pre hs h hk]
    have := preN_mono (sp := spN P) hk
    have := (pre_tot hs h).1
    unfold i64B
    omega
  have HBR : Hid (∀ k, k < P.splits.length → 0 ≤ bgI P.splits k ∧ bgI P.splits k ≤ 1048576) := fun k hk => by
    rw [h.n] at hk
    rw [bg_pre hs h (by omega)]
    have := preN_mono (sp := spN P) (i := k) (j := S.phases.length) (by omega)
    have := (pre_tot hs h).1
    omega
  have hq0 : (placeN P t : Int) ≤ 1048576 := by omega
  have HPO : Hid (∀ k, k < P.splits.length → bgI P.splits k ≤ (placeN P t : Int) → (k + 1 < P.splits.length → (placeN P t : Int) < bgI P.splits (k + 1)) → ((k : Int), (placeN P t : Int) - bgI P.splits k) = (((partV P t).1 : Int), ((partV P t).2 : Int))) := fun k hk h1 h2 => by
    rw [h.n] at hk h2
    exact part_of hs h hk h1 h2
  have hn1 : 1 ≤ P.splits.length := by rw [h.n]; omega
  have hq1 : (0 : Int) ≤ (placeN P t : Int) := by omega
  have hsub : IntKind.i64.wrap ((t : Int) - P.offset) = (t : Int) - P.offset := wrap_in (by omega) (by omega)
  have HI := Hid.mk' hI
  clear hs h hI hpl hpi
  generalize (placeN P t : Int) = q at *
  obtain ⟨R, hR⟩ : ∃ R, partV P t = R := ⟨_, rfl⟩
  rw [hR] at HPO ⊢
  clear hR
  refine callsIn_of_wp_marks Tryd.func32 rfl trivial ?_ rfl
  simp only [Tryd.ntmps32, List.size_toArray, List.length_cons, List.length_nil, Nat.reduceAdd, Nat.reduceSub, Array.replicate_succ, Array.replicate_zero, List.push_toArray, List.append_toArray, List.nil_append, List.cons_append]
  gi_wp2_with (first
    | (refine ⟨trivial, ?_⟩; gi_at_call 29; refine (callsIn_wide.2 (HREM.out _)).mono ?_; rintro e w9 ⟨rfl, h9⟩; have h9' := h9.symm; clear h9; subst h9')
    | (refine ⟨trivial, ?_⟩; gi_at_call 56; refine (parts_in _ _ _ _ _).mono ?_; rintro e w' ⟨rfl, rfl⟩))
  have b1 := ((Boxed.new (w.alloc (.cells #[.int .i64 P.cycle, .int .i64 P.offset, .slice a P.splits.length c] 24)) 3 (.int .i64 0)).alloc (.cells #[.int .i64 0] 3)).alloc (.cells #[.int .i64 q] 3) |>.alloc (.cells #[.slice a P.splits.length c] 22)
  have b2 := ((Boxed.new ((w.alloc (.cells #[.int .i64 P.cycle, .int .i64 P.offset, .slice a P.splits.length c] 24)).alloc (.cells #[.int .i64 0] 3)) 3 (.int .i64 0)).alloc (.cells #[.int .i64 q] 3)).alloc (.cells #[.slice a P.splits.length c] 22)
  have b3 := (Boxed.new (((w.alloc (.cells #[.int .i64 P.cycle, .int .i64 P.offset, .slice a P.splits.length c] 24)).alloc (.cells #[.int .i64 0] 3)).alloc (.cells #[.int .i64 0] 3)) 3 (.int .i64 q)).alloc (.cells #[.slice a P.splits.length c] 22)
  have b4 := Boxed.new ((((w.alloc (.cells #[.int .i64 P.cycle, .int .i64 P.offset, .slice a P.splits.length c] 24)).alloc (.cells #[.int .i64 0] 3)).alloc (.cells #[.int .i64 0] 3)).alloc (.cells #[.int .i64 q] 3)) 22 (.slice a P.splits.length c)
  simp only [World.size_alloc] at b1 b2 b3 b4
  have hB0 : Below w.heap.size w (((((w.alloc (.cells #[.int .i64 P.cycle, .int .i64 P.offset, .slice a P.splits.length c] 24)).alloc (.cells #[.int .i64 0] 3)).alloc (.cells #[.int .i64 0] 3)).alloc (.cells #[.int .i64 q] 3)).alloc (.cells #[.slice a P.splits.length c] 22)) := (((((Below.refl _ w).alloc (Nat.le_refl _) _).alloc (by simp) _).alloc (by simp; omega) _).alloc (by simp; omega) _).alloc (by simp; omega) _
  have hsz : (((((w.alloc (.cells #[.int .i64 P.cycle, .int .i64 P.offset, .slice a P.splits.length c] 24)).alloc (.cells #[.int .i64 0] 3)).alloc (.cells #[.int .i64 0] 3)).alloc (.cells #[.int .i64 q] 3)).alloc (.cells #[.slice a P.splits.length c] 22)).heap.size = w.heap.size + 5 := by simp
  obtain ⟨W0, hW0⟩ : ∃ W0, (((((w.alloc (.cells #[.int .i64 P.cycle, .int .i64 P.offset, .slice a P.splits.length c] 24)).alloc (.cells #[.int .i64 0] 3)).alloc (.cells #[.int .i64 0] 3)).alloc (.cells #[.int .i64 q] 3)).alloc (.cells #[.slice a P.splits.length c] 22)) = W0 := ⟨_, rfl⟩
  rw [hW0] at b1 b2 b3 b4 hB0 hsz ⊢
  have hsz1 : W0.heap.size ≤ w.heap.size + 5 := by omega
  have hsz2 : w.heap.size + 5 ≤ W0.heap.size := by omega
  clear hW0 hsz
  refine wpIn_rangeFunc_ownH rfl (by omega) (gf := 93) (lb := #[.pointer (some ⟨w.heap.size + 1 + 1 + 1 + 1, 0, none⟩)]) rfl trivial (enters_of Tryd.func93 (by kernel_rfl) rfl)
    (parts_stops 7 (by omega) (w.heap.size + 1 + 1 + 1 + 1) w W0 HI.out hB0 HBG.out b4.cell) belowK_t (belowK_b (by omega)) (Below.refl _ _) (fun _ => rfl)
    (fun pre W => ((((∀ i ∈ ivals pre, bgI P.splits i ≤ q) ∧ Boxed W (w.heap.size + 1) 3 (.int .i64 (atI P.splits q (ivals pre)).1)) ∧ Boxed W (w.heap.size + 1 + 1) 3 (.int .i64 (atI P.splits q (ivals pre)).2)) ∧ Boxed W (w.heap.size + 1 + 1 + 1) 3 (.int .i64 q)) ∧ Below w.heap.size w W)
    (fun c pre W => ((((c = .exit 0 ∧ (∀ i ∈ (ivals pre).dropLast, bgI P.splits i ≤ q) ∧ ∃ x, (ivals pre).getLast? = some x ∧ q < bgI P.splits x) ∧ Boxed W (w.heap.size + 1) 3 (.int .i64 (atI P.splits q (ivals pre).dropLast).1)) ∧ Boxed W (w.heap.size + 1 + 1) 3 (.int .i64 (atI P.splits q (ivals pre).dropLast).2)) ∧ Boxed W (w.heap.size + 1 + 1 + 1) 3 (.int .i64 q)) ∧ Below w.heap.size w W)
    (OwnFrom.and (OwnFrom.and (OwnFrom.and (OwnFrom.and (ownFrom_pure _ _) (Own.from (boxed_own _ _ _) _)) (Own.from (boxed_own _ _ _) _)) (Own.from (boxed_own _ _ _) _)) (ownFrom_below (Nat.le_refl _) (by omega)))
    (fun c => OwnFrom.and (OwnFrom.and (OwnFrom.and (OwnFrom.and (ownFrom_pure _ _) (Own.from (boxed_own _ _ _) _)) (Own.from (boxed_own _ _ _) _)) (Own.from (boxed_own _ _ _) _)) (ownFrom_below (Nat.le_refl _) (by omega)))
    ⟨⟨⟨⟨by simp [ivals], b1⟩, b2⟩, b3⟩, hB0⟩
    (fun x a' _ => a' = { tmps := #[planV P a c, .int .i64 (t : Int), .pointer (some ⟨w.heap.size, 0, none⟩), undef, .pointer (some ⟨w.heap.size + 1, 0, none⟩), .pointer (some ⟨w.heap.size + 1 + 1, 0, none⟩), .pointer (some ⟨w.heap.size + 1 + 1 + 1, 0, none⟩), .int .i64 (x.1 : Int), .int .i64 (bgI P.splits x.1), .int .i64 (t : Int), .pointer (some ⟨w.heap.size, 1, none⟩), .int .i64 P.offset, .int .i64 ((t : Int) - P.offset), .pointer (some ⟨w.heap.size, 0, none⟩), .int .i64 P.cycle, .int .i64 q, .pointer (some ⟨w.heap.size, 2, none⟩), .slice a P.splits.length c, .func (.func 93) #[] #[.pointer (some ⟨w.heap.size + 1 + 1 + 1 + 1, 0, none⟩)], .int .i64 (x.1 : Int), .int .i64 (bgI P.splits x.1), undef, undef, undef, undef, undef, undef, undef, undef, undef], defers := [] })
    (fun _ _ _ _ _ _ hs _ _ => hs)
    ?assign ?body ?done ?stop
  case assign =>
    rintro l pre x W K hi hK
    unfold partsV
    gi_wp2
    exact hK _ _ (KeepsFrom.refl _ _) (Below.refl _ _) hi rfl
  case body =>
    rintro l pre x a' W hl ⟨r, hr⟩ ⟨⟨⟨⟨hall, bP1⟩, bI1⟩, bQ1⟩, hBW⟩ rfl hlt
    have cP := bP1.cell
    have fP := bP1.frozen
    have cI := bI1.cell
    have fI := bI1.frozen
    have cQ := bQ1.cell
    obtain ⟨x, hx⟩ := x
    have HALL := Hid.mk' hall
    have hbr := HBR.out x hx
    clear hall
    dsimp only at *
    have HAT : Hid (atI P.splits q (ivals (pre ++ [⟨x, hx⟩])) = ((x : Int), q - bgI P.splits x)) := by show _ = _; rw [ivals_snoc, atI_snoc]
    have HD : Hid ((ivals (pre ++ [(⟨x, hx⟩ : Ix P.splits.length)])).dropLast = ivals pre) := by show _ = _; rw [ivals_snoc]; simp
    have HL : Hid ((ivals (pre ++ [(⟨x, hx⟩ : Ix P.splits.length)])).getLast? = some x) := by show _ = _; rw [ivals_snoc]; simp
    have HM : Hid (bgI P.splits x ≤ q → ∀ i ∈ ivals (pre ++ [(⟨x, hx⟩ : Ix P.splits.length)]), bgI P.splits i ≤ q) := fun hle i hi => by
      rw [ivals_snoc] at hi
      rcases List.mem_append.1 hi with hi | hi
      · exact HALL.out i hi
      · have e : i = x := by simpa using hi
        rw [e]; exact hle
    have HBP := Hid.mk' bP1
    have HBI := Hid.mk' bI1
    clear bP1 bI1
    obtain ⟨v1, hv1⟩ : ∃ v, (atI P.splits q (ivals pre)).1 = v := ⟨_, rfl⟩
    rw [hv1] at cP
    obtain ⟨v2, hv2⟩ : ∃ v, (atI P.splits q (ivals pre)).2 = v := ⟨_, rfl⟩
    rw [hv2] at cI
    clear hv1 hv2
    generalize hbg : bgI P.splits x = g at *
    by_cases hgt : q < g
    · gi_wp2
      refine ⟨KeepsFrom.refl _ _, ⟨⟨⟨⟨rfl, ?_, x, HL.out, by rw [hbg]; exact hgt⟩, ?_⟩, ?_⟩, bQ1⟩, hBW⟩
      · rw [HD.out]; exact HALL.out
      · rw [HD.out]; exact HBP.out
      · rw [HD.out]; exact HBI.out
    · have hle : g ≤ q := by omega
      have hwq : IntKind.i64.wrap (q - g) = q - g := wrap_in (by omega) (by omega)
      gi_wp2
      refine held_round (S := fun w' => w'.cell? ⟨w.heap.size + 1 + 1 + 1, 0, none⟩ = some (.int .i64 q)) (by kernel_rfl) (by kernel_rfl) cQ (fun hHeld => ?_)
      refine held_take (i := 0) (v := ?vb0) rfl rfl (by kernel_rfl) (by kernel_rfl) (by kernel_rfl) (fun _ _ _ h => (by cases h.1)) (Or.inl ⟨by rfl, ?hyb0⟩) (by assumption) ?restb0
      case hyb0 => first | (intro w hSw; go_simp; done) | (intro w hSw; go_simp; with_reducible rfl)
      try simp only [List.setIfInBounds_toArray, List.set_cons_zero, List.set_cons_succ]
      refine held_take (i := 1) (v := ?vb1) rfl rfl (by kernel_rfl) (by kernel_rfl) (by kernel_rfl) (fun _ _ _ h => (by cases h.1)) (Or.inl ⟨by rfl, ?hyb1⟩) (by assumption) ?restb1
      case hyb1 => first | (intro w hSw; go_simp; done) | (intro w hSw; go_simp; with_reducible rfl)
      try simp only [List.setIfInBounds_toArray, List.set_cons_zero, List.set_cons_succ]
      refine held_take (i := 2) (v := ?vb2) rfl rfl (by kernel_rfl) (by kernel_rfl) (by kernel_rfl) (fun _ _ _ h => (by cases h.1)) (Or.inl ⟨by rfl, ?hyb2⟩) (by assumption) ?restb2
      case hyb2 => first | (intro w hSw; go_simp; done) | (intro w hSw; go_simp; with_reducible rfl)
      try simp only [List.setIfInBounds_toArray, List.set_cons_zero, List.set_cons_succ]
      refine held_take (i := 3) (v := ?vb3) rfl rfl (by kernel_rfl) (by kernel_rfl) (by kernel_rfl) (fun _ _ _ h => (by cases h.1)) (Or.inl ⟨by rfl, ?hyb3⟩) (by assumption) ?restb3
      case hyb3 => first | (intro w hSw; go_simp; done) | (intro w hSw; go_simp; with_reducible rfl)
      try simp only [List.setIfInBounds_toArray, List.set_cons_zero, List.set_cons_succ]
      refine wpAnyH_ready (rs := [4]) (by kernel_rfl) (by simp) ?_
      refine AllReadyH.cons rfl (fun K hK => ?_) AllReadyH.nil
      go_simp
      refine hK.out _ _ ((World.cell?_setCell_far _ _ _ _ (by simp)).trans cQ) (fun hHeld2 => ?_)
      clear hK K hHeld2
      refine wpAnyH_ready (rs := [5]) (by kernel_rfl) (by simp) ?_
      refine AllReadyH.cons rfl (fun K hK => ?_) AllReadyH.nil
      go_simp
      refine hK.out _ _ ((World.cell?_setCell_far _ _ _ _ (by simp)).trans ((World.cell?_setCell_far _ _ _ _ (by simp)).trans cQ)) (fun hHeld3 => ?_)
      clear hK K hHeld3
      refine wpAnyH_done (by kernel_rfl) ⟨rfl, ?_⟩ _
      gi_wp2
      refine ⟨(((KeepsOthers.setCell _ _ _).trans (KeepsOthers.setCell _ _ _)).trans (KeepsOthers.drew _)).from _, (((Below.refl _ W).setCell (p := ⟨w.heap.size + 1, 0, none⟩) (by simp) _).setCell (p := ⟨w.heap.size + 1 + 1, 0, none⟩) (by simp <;> omega) _).drew, ⟨⟨⟨HM.out hle, ?_⟩, ?_⟩, ?_⟩, ((hBW.setCell (p := ⟨w.heap.size + 1, 0, none⟩) (by simp) _).setCell (p := ⟨w.heap.size + 1 + 1, 0, none⟩) (by simp <;> omega) _).drew⟩
      · rw [HAT.out]; exact boxed_far (HBP.out.set _) (p := ⟨w.heap.size + 1 + 1, 0, none⟩) (by simp <;> omega) _
      · rw [HAT.out]; exact (boxed_far HBI.out (p := ⟨w.heap.size + 1, 0, none⟩) (by simp <;> omega) _).set _
      · exact boxed_far (boxed_far bQ1 (p := ⟨w.heap.size + 1, 0, none⟩) (by simp <;> omega) _) (p := ⟨w.heap.size + 1 + 1, 0, none⟩) (by simp <;> omega) _
  case done =>
    rintro D zs W hD hzs ⟨⟨⟨⟨hall, bP1⟩, bI1⟩, bQ1⟩, hBW⟩ hK9
    have hP1 : atI P.splits q (ivals zs) = ((R.1 : Int), (R.2 : Int)) := by
      obtain ⟨k, hk⟩ : ∃ k, P.splits.length = k + 1 := ⟨P.splits.length - 1, by omega⟩
      rw [hzs, hk, atI_upto]
      exact HPO.out k (by omega) (hall k (by rw [hzs, hk]; simp)) (fun e => by omega)
    rw [hP1] at bP1 bI1
    dsimp only at bP1 bI1
    have cP := bP1.cell
    have fP := bP1.frozen
    have cI := bI1.cell
    have fI := bI1.frozen
    have hS0 : W.drew.cell? ⟨w.heap.size + 1, 0, none⟩ = some (.int .i64 (R.1 : Int)) ∧ W.drew.cell? ⟨w.heap.size + 1 + 1, 0, none⟩ = some (.int .i64 (R.2 : Int)) := ⟨cP, cI⟩
    have hS1 : (W.drew.setCell ⟨w.heap.size + 1, 0, none⟩ (.int .i64 (R.1 : Int))).cell? ⟨w.heap.size + 1, 0, none⟩ = some (.int .i64 (R.1 : Int)) ∧ (W.drew.setCell ⟨w.heap.size + 1, 0, none⟩ (.int .i64 (R.1 : Int))).cell? ⟨w.heap.size + 1 + 1, 0, none⟩ = some (.int .i64 (R.2 : Int)) := ⟨World.cell?_setCell_same _ _ _ cP, (World.cell?_setCell_far _ _ _ _ (by simp)).trans cI⟩
    have hS2 : ((W.drew.setCell ⟨w.heap.size + 1, 0, none⟩ (.int .i64 (R.1 : Int))).setCell ⟨w.heap.size + 1 + 1, 0, none⟩ (.int .i64 (R.2 : Int))).cell? ⟨w.heap.size + 1, 0, none⟩ = some (.int .i64 (R.1 : Int)) ∧ ((W.drew.setCell ⟨w.heap.size + 1, 0, none⟩ (.int .i64 (R.1 : Int))).setCell ⟨w.heap.size + 1 + 1, 0, none⟩ (.int .i64 (R.2 : Int))).cell? ⟨w.heap.size + 1 + 1, 0, none⟩ = some (.int .i64 (R.2 : Int)) := ⟨(World.cell?_setCell_far _ _ _ _ (by simp)).trans hS1.1, World.cell?_setCell_same _ _ _ hS1.2⟩
    clear hall hP1
    gi_wp2
    refine held_wide (S := fun w' => w'.cell? ⟨w.heap.size + 1, 0, none⟩ = some (.int .i64 (R.1 : Int)) ∧ w'.cell? ⟨w.heap.size + 1 + 1, 0, none⟩ = some (.int .i64 (R.2 : Int))) (by kernel_rfl) (by kernel_rfl) hS0 (fun hHeld => ?_)
    refine held_take (i := 0) (v := ?vc0) rfl rfl (by kernel_rfl) (by kernel_rfl) (by kernel_rfl) (fun _ _ _ h => (by cases h.1)) (Or.inl ⟨by rfl, ?hyc0⟩) (by assumption) ?restc0
    case hyc0 => first | (intro w hSw; go_simp; done) | (intro w hSw; go_simp; with_reducible rfl)
    try simp only [List.setIfInBounds_toArray, List.set_cons_zero, List.set_cons_succ]
    refine held_take (i := 1) (v := ?vc1) rfl rfl (by kernel_rfl) (by kernel_rfl) (by kernel_rfl) (fun _ _ _ h => (by cases h.1)) (Or.inl ⟨by rfl, ?hyc1⟩) (by assumption) ?restc1
    case hyc1 => first | (intro w hSw; go_simp; done) | (intro w hSw; go_simp; with_reducible rfl)
    try simp only [List.setIfInBounds_toArray, List.set_cons_zero, List.set_cons_succ]
    refine wpAnyH_ready (rs := [2]) (by kernel_rfl) (by simp) ?_
    refine AllReadyH.cons rfl (fun K hK => ?_) AllReadyH.nil
    go_simp
    refine hK.out _ _ hS1 (fun hHeld2 => ?_)
    clear hK K hHeld2
    refine wpAnyH_ready (rs := [3]) (by kernel_rfl) (by simp) ?_
    refine AllReadyH.cons rfl (fun K hK => ?_) AllReadyH.nil
    go_simp
    refine hK.out _ _ hS2 (fun hHeld3 => ?_)
    clear hK K hHeld3 hHeld
    refine wpAnyH_done (by kernel_rfl) ⟨rfl, ?_⟩ _
    gi_wp2
    have hkD := (((KeepsOthers.setCell W ⟨w.heap.size + 1, 0, none⟩ (.int .i64 (R.1 : Int))).trans (KeepsOthers.setCell _ ⟨w.heap.size + 1 + 1, 0, none⟩ (.int .i64 (R.2 : Int)))).trans (KeepsOthers.drew _)).same D _ hK9 rfl
    refine ⟨by simp, .inl ⟨_, _, rfl, run_takeDeferred hkD, ?_⟩⟩
    have hS3 : (((W.setCell ⟨w.heap.size + 1, 0, none⟩ (.int .i64 (R.1 : Int))).setCell ⟨w.heap.size + 1 + 1, 0, none⟩ (.int .i64 (R.2 : Int))).drew).cell? ⟨w.heap.size + 1, 0, none⟩ = some (.int .i64 (R.1 : Int)) ∧ (((W.setCell ⟨w.heap.size + 1, 0, none⟩ (.int .i64 (R.1 : Int))).setCell ⟨w.heap.size + 1 + 1, 0, none⟩ (.int .i64 (R.2 : Int))).drew).cell? ⟨w.heap.size + 1 + 1, 0, none⟩ = some (.int .i64 (R.2 : Int)) := hS2
    have hc5 := cell_kept hS3.1 (grownBy_putObj' _ D (.deferred none)) (fun r e => by cases e; exact ⟨_, hkD, rfl⟩)
    have hc6 := cell_kept hS3.2 (grownBy_putObj' _ D (.deferred none)) (fun r e => by cases e; exact ⟨_, hkD, rfl⟩)
    refine ⟨.tuple #[.int .i64 (R.1 : Int), .int .i64 (R.2 : Int)], ?_, rfl, Kept.of_below ((((hBW.setCell (p := ⟨w.heap.size + 1, 0, none⟩) (by simp) _).setCell (p := ⟨w.heap.size + 1 + 1, 0, none⟩) (by simp <;> omega) _).drew).trans (belowK_b (w := w) (Nat.le_refl _) _ D _ _ (by omega) hkD rfl rfl))⟩
    simp [results, Tryd.results32, go_sem, hc5, hc6]
  case stop =>
    rintro D c pre W hD ⟨k, hk, hpre⟩ ⟨⟨⟨⟨⟨rfl, hall, x, hx, hgt⟩, bP1⟩, bI1⟩, bQ1⟩, hBW⟩ hK9
    rw [hpre] at hall bP1 bI1 hx
    have hxk : k = x := by rw [List.range_succ] at hx; simpa using hx
    subst hxk
    have hdl : (List.range (k + 1)).dropLast = List.range k := by rw [List.range_succ]; simp
    rw [hdl] at hall bP1 bI1
    have hk0 : k ≠ 0 := fun e => by
      rw [e, show bgI P.splits 0 = 0 from rfl] at hgt
      omega
    have hP1 : atI P.splits q (List.range k) = ((R.1 : Int), (R.2 : Int)) := by
      obtain ⟨j, rfl⟩ : ∃ j, k = j + 1 := ⟨k - 1, by omega⟩
      rw [atI_upto]
      exact HPO.out j (by omega) (hall j (by simp)) (fun e => hgt)
    rw [hP1] at bP1 bI1
    dsimp only at bP1 bI1
    have cP := bP1.cell
    have fP := bP1.frozen
    have cI := bI1.cell
    have fI := bI1.frozen
    have hS0 : W.drew.cell? ⟨w.heap.size + 1, 0, none⟩ = some (.int .i64 (R.1 : Int)) ∧ W.drew.cell? ⟨w.heap.size + 1 + 1, 0, none⟩ = some (.int .i64 (R.2 : Int)) := ⟨cP, cI⟩
    have hS1 : (W.drew.setCell ⟨w.heap.size + 1, 0, none⟩ (.int .i64 (R.1 : Int))).cell? ⟨w.heap.size + 1, 0, none⟩ = some (.int .i64 (R.1 : Int)) ∧ (W.drew.setCell ⟨w.heap.size + 1, 0, none⟩ (.int .i64 (R.1 : Int))).cell? ⟨w.heap.size + 1 + 1, 0, none⟩ = some (.int .i64 (R.2 : Int)) := ⟨World.cell?_setCell_same _ _ _ cP, (World.cell?_setCell_far _ _ _ _ (by simp)).trans cI⟩
    have hS2 : ((W.drew.setCell ⟨w.heap.size + 1, 0, none⟩ (.int .i64 (R.1 : Int))).setCell ⟨w.heap.size + 1 + 1, 0, none⟩ (.int .i64 (R.2 : Int))).cell? ⟨w.heap.size + 1, 0, none⟩ = some (.int .i64 (R.1 : Int)) ∧ ((W.drew.setCell ⟨w.heap.size + 1, 0, none⟩ (.int .i64 (R.1 : Int))).setCell ⟨w.heap.size + 1 + 1, 0, none⟩ (.int .i64 (R.2 : Int))).cell? ⟨w.heap.size + 1 + 1, 0, none⟩ = some (.int .i64 (R.2 : Int)) := ⟨(World.cell?_setCell_far _ _ _ _ (by simp)).trans hS1.1, World.cell?_setCell_same _ _ _ hS1.2⟩
    clear hall hP1 hx hpre hdl hgt
    gi_wp2
    refine held_wide (S := fun w' => w'.cell? ⟨w.heap.size + 1, 0, none⟩ = some (.int .i64 (R.1 : Int)) ∧ w'.cell? ⟨w.heap.size + 1 + 1, 0, none⟩ = some (.int .i64 (R.2 : Int))) (by kernel_rfl) (by kernel_rfl) hS0 (fun hHeld => ?_)
    refine held_take (i := 0) (v := ?vd0) rfl rfl (by kernel_rfl) (by kernel_rfl) (by kernel_rfl) (fun _ _ _ h => (by cases h.1)) (Or.inl ⟨by rfl, ?hyd0⟩) (by assumption) ?restd0
    case hyd0 => first | (intro w hSw; go_simp; done) | (intro w hSw; go_simp; with_reducible rfl)
    try simp only [List.setIfInBounds_toArray, List.set_cons_zero, List.set_cons_succ]
    refine held_take (i := 1) (v := ?vd1) rfl rfl (by kernel_rfl) (by kernel_rfl) (by kernel_rfl) (fun _ _ _ h => (by cases h.1)) (Or.inl ⟨by rfl, ?hyd1⟩) (by assumption) ?restd1
    case hyd1 => first | (intro w hSw; go_simp; done) | (intro w hSw; go_simp; with_reducible rfl)
    try simp only [List.setIfInBounds_toArray, List.set_cons_zero, List.set_cons_succ]
    refine wpAnyH_ready (rs := [2]) (by kernel_rfl) (by simp) ?_
    refine AllReadyH.cons rfl (fun K hK => ?_) AllReadyH.nil
    go_simp
    refine hK.out _ _ hS1 (fun hHeld2 => ?_)
    clear hK K hHeld2
    refine wpAnyH_ready (rs := [3]) (by kernel_rfl) (by simp) ?_
    refine AllReadyH.cons rfl (fun K hK => ?_) AllReadyH.nil
    go_simp
    refine hK.out _ _ hS2 (fun hHeld3 => ?_)
    clear hK K hHeld3 hHeld
    refine wpAnyH_done (by kernel_rfl) ⟨rfl, ?_⟩ _
    gi_wp2
    have hkD := (((KeepsOthers.setCell W ⟨w.heap.size + 1, 0, none⟩ (.int .i64 (R.1 : Int))).trans (KeepsOthers.setCell _ ⟨w.heap.size + 1 + 1, 0, none⟩ (.int .i64 (R.2 : Int)))).trans (KeepsOthers.drew _)).same D _ hK9 rfl
    refine ⟨by simp, .inl ⟨_, _, rfl, run_takeDeferred hkD, ?_⟩⟩
    have hS3 : (((W.setCell ⟨w.heap.size + 1, 0, none⟩ (.int .i64 (R.1 : Int))).setCell ⟨w.heap.size + 1 + 1, 0, none⟩ (.int .i64 (R.2 : Int))).drew).cell? ⟨w.heap.size + 1, 0, none⟩ = some (.int .i64 (R.1 : Int)) ∧ (((W.setCell ⟨w.heap.size + 1, 0, none⟩ (.int .i64 (R.1 : Int))).setCell ⟨w.heap.size + 1 + 1, 0, none⟩ (.int .i64 (R.2 : Int))).drew).cell? ⟨w.heap.size + 1 + 1, 0, none⟩ = some (.int .i64 (R.2 : Int)) := hS2
    have hc5 := cell_kept hS3.1 (grownBy_putObj' _ D (.deferred none)) (fun r e => by cases e; exact ⟨_, hkD, rfl⟩)
    have hc6 := cell_kept hS3.2 (grownBy_putObj' _ D (.deferred none)) (fun r e => by cases e; exact ⟨_, hkD, rfl⟩)
    refine ⟨.tuple #[.int .i64 (R.1 : Int), .int .i64 (R.2 : Int)], ?_, rfl, Kept.of_below ((((hBW.setCell (p := ⟨w.heap.size + 1, 0, none⟩) (by simp) _).setCell (p := ⟨w.heap.size + 1 + 1, 0, none⟩) (by simp <;> omega) _).drew).trans (belowK_b (w := w) (Nat.le_refl _) _ D _ _ (by omega) hkD rfl rfl))⟩
    simp [results, Tryd.results32, go_sem, hc5, hc6]

end Go.Proofs.YtfhmfanmnhclfaaDoor
