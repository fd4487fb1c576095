import Derived.Deep.RegionHeld
import Derived.Test.YtfhmfanmnhclfaaDoorP21
namespace Go.Proofs.YtfhmfanmnhclfaaDoor
set_option linter.unusedVariables false
set_option linter.unusedSimpArgs false
open Go.RowKit Go.Lib Go.Deep


/-- As many of a list's numbers as were reckoned, noughts behind. -/
def upTo (f : Nat → Int) (k i : Nat) : Int := if i < k then f i else 0
theorem upTo_set {f : Nat → Int} {k : Nat} {x : Int} (hx : x = f k) : (fun j => if j = k then x else upTo f k j) = upTo f (k + 1) := by
  funext j
  unfold upTo
  by_cases h : j = k
  · subst h; rw [if_pos rfl, if_pos (show j < j + 1 by omega), hx]
  · rw [if_neg h]
    by_cases h2 : j < k
    · rw [if_pos h2, if_pos (show j < k + 1 by omega)]
    · rw [if_neg h2, if_neg (show ¬ j < k + 1 by omega)]
theorem made_row {w : World} {n : Nat} {f : Nat → Int} (hn : n ≤ 1000) : RowI (w.alloc (.cells (madeCells #[.int .i64 0] n) 3)) w.heap.size n n (upTo f 0) :=
  RowI.of ((World.rowIs_made w (.int .i64 0) n 3).congr (fun i hi => by unfold upTo; simp)) hn
theorem alloc_one {w : World} {cs : Array Value} {t : TypeId} {j : Nat} {v : Value} (hv : cs[j]? = some v) : (w.alloc (.cells cs t)).cell? ⟨w.heap.size, j, none⟩ = some v := by simp [World.cell?_alloc_mark, hv]
set_option maxRecDepth 100000 in
set_option maxHeartbeats 2000000 in
theorem pleast_any {w : World} {B : Nat} {X : Sa} {S : St} (h : Sbox w B X S) (hT : Tabb w) (hs : siteB S = true) : Calls Tryd.prog 28 #[.pointer (some ⟨B, 0, none⟩)] w fun e w' => e = .returned (.slice (some ⟨w.heap.size, 0, none⟩) S.phases.length S.phases.length) ∧ RowI w' w.heap.size S.phases.length S.phases.length (partM S) ∧ Kept w w' none := by
  have hn := (span_may hs).base.sh.ok.np.2
  have hmk := run_make_row' (P := Tryd.prog) 22 3 (.int .i64 0) 8 Tryd.uIns Tryd.infoIn rfl .i64 .i64 S.phases.length (by omega) (by omega)
  have c4 := h.c4
  have c4m := (h.kept (Kept.alloc w (madeCells #[.int .i64 0] S.phases.length) 3 (0, 0) none)).c4
  have HB := Hid.mk' h
  have HT := Hid.mk' hT
  have HPR := Hid.mk' (fun k hk => (span_may hs).base.mn k hk)
  have HSI := Hid.mk' hs
  have HGM : Hid (∀ k, k < S.phases.length → 0 ≤ gapM S k ∧ gapM S k ≤ 1048576) := fun k hk => (span_may hs).base.lies _ _
  clear h hT hs
  go_enter Tryd.func28, Tryd.ntmps28
  go_wp2
  have kM : Kept w (w.alloc (.cells (madeCells #[.int .i64 0] S.phases.length) 3)) none := Kept.alloc _ _ _ _ _
  have hrw : RowI (w.alloc (.cells (madeCells #[.int .i64 0] S.phases.length) 3)) w.heap.size S.phases.length S.phases.length (upTo (partM S) 0) := made_row (by omega)
  obtain ⟨W3, hW3⟩ : ∃ W3, w.alloc (.cells (madeCells #[.int .i64 0] S.phases.length) 3) = W3 := ⟨_, rfl⟩
  rw [hW3] at hrw kM ⊢
  have HRW := Hid.mk' hrw
  have KM := Hid.mk' kM
  clear hW3 hrw kM hmk c4 c4m
  go_loopw [4, 5, 17] (fun _ _ i wr => ∃ k : Nat, k ≤ S.phases.length ∧ i = .int .i64 k ∧ Kept w wr none ∧ RowI wr w.heap.size S.phases.length S.phases.length (upTo (partM S) k)) (fun _ _ i _ => S.phases.length - (intOf i).toNat)
  case atStart => exact ⟨0, by omega, rfl, KM.out, HRW.out⟩
  case round =>
    obtain ⟨k, hk, rfl, hkw, hrow⟩ := hrel
    have HKW := Hid.mk' hkw
    have HRO := Hid.mk' hrow
    by_cases hlt : k < S.phases.length
    · obtain ⟨pb, po, ep, q0, q1, q2, q3, q4⟩ := (HB.out.kept hkw).sat.phAt hlt
      have hpb := block_lt q0
      have hlr := hrow.lt
      have kS : Kept wr (wr.alloc (.cells #[.int .u32 ((S.ph k).groups : Int), .int .i64 (S.ph k).min, .int .i64 (S.ph k).max, .int .i64 (S.ph k).gap, .bool (S.ph k).always] 80)) none := Kept.alloc _ _ _ _ _
      have HCL := Hid.mk' (pclr_any (((HB.out.kept hkw).kept kS).kept (Kept.drew _ none)) (((HT.out.kept hkw).kept kS).kept (Kept.drew _ none)) HSI.out hlt)
      have hg := HGM.out k hlt
      have hm := HPR.out k hlt
      have HPM : Hid ((S.ph k).min + gapM S k = partM S k) := rfl
      have HSET : Hid (∀ wC, Kept wr wC none → RowI (wC.setCell ⟨w.heap.size, k, none⟩ (.int .i64 (partM S k))) w.heap.size S.phases.length S.phases.length (upTo (partM S) (k + 1))) := fun wC q => by
        rw [← upTo_set rfl]
        exact (HRO.out.kept q (by simp)).set hlt _
      have HY : Hid (∀ wC, Kept wr wC none → wC.cell? ⟨w.heap.size, k, none⟩ = some (.int .i64 (upTo (partM S) k k))) := fun wC q => (HRO.out.kept q (by simp)).cell hlt
      have HZ : Hid (∀ wC, Kept wr wC none → wC.frozen? ⟨w.heap.size, k, none⟩ = false) := fun wC q => (HRO.out.kept q (by simp)).fz k
      rw [ep] at *
      clear hkw hrow
      generalize partM S k = pm at *
      generalize upTo (partM S) k k = u0 at *
      generalize gapM S k = gm at *
      generalize S.ph k = x at *
      obtain ⟨x0', x1', x2', x3', x4'⟩ := x
      dsimp only at q0 q1 q2 q3 q4 hm HPM kS HCL
      have f1 : (wr.alloc (.cells #[.int .u32 (x0' : Int), .int .i64 x1', .int .i64 x2', .int .i64 x3', .bool x4'] 80)).cell? ⟨wr.heap.size, 1, none⟩ = some (.int .i64 x1') := alloc_one rfl
      have hsum : IntKind.i64.wrap (x1' + gm) = pm := by rw [wrap_in (by omega) (by omega)]; exact HPM.out
      go_wp2
      obtain ⟨W1, hW1⟩ : ∃ W1, wr.alloc (.cells #[.int .u32 (x0' : Int), .int .i64 x1', .int .i64 x2', .int .i64 x3', .bool x4'] 80) = W1 := ⟨_, rfl⟩
      rw [hW1] at kS f1 HCL ⊢
      have hS0 : Kept w W1.drew none ∧ W1.drew.cell? ⟨wr.heap.size, 1, none⟩ = some (.int .i64 x1') := ⟨(HKW.out.tr kS).tr (Kept.drew _ _), f1⟩
      have kS2 := kS.tr (Kept.drew W1 none)
      have hne : w.heap.size ≠ wr.heap.size := by omega
      go_region_held (fun w' => Kept w w' none ∧ w'.cell? ⟨wr.heap.size, 1, none⟩ = some (.int .i64 x1'))
        ((first | exact hS0 | assumption | exact ⟨hKC.1.setNew (p := ⟨w.heap.size, k, none⟩) (Nat.le_refl _) _, (World.cell?_setCell_other _ _ _ _ (by simp [hne])).trans hKC.2⟩))
        ((go_at_call 33; refine HCL.out.mono ?_; rintro e wC ⟨rfl, hkC⟩; have hkF : Kept wr wC none := kS2.tr hkC; have hKC : Kept w wC none ∧ wC.cell? ⟨wr.heap.size, 1, none⟩ = some (.int .i64 x1') := ⟨HKW.out.tr hkF, cell_kept0 hS0.2 hkC⟩; have y0 := HY.out wC hkF; have z0 := HZ.out wC hkF))
      all_goals
        go_wp2
        go_roundw
        case rel => exact ⟨k + 1, by omega, by go_num, hKC.1.setNew (p := ⟨w.heap.size, k, none⟩) (Nat.le_refl _) _, by first | exact HSET.out _ hkF | (rw [hsum]; exact HSET.out _ hkF)⟩
        case measure => simp [intOf]; omega
    · obtain rfl : k = S.phases.length := by omega
      clear hkw hrow
      go_wp2
      go_ret
      exact ⟨rfl, HRO.out.congr (fun i hi => by unfold upTo; rw [if_pos hi]), HKW.out⟩

/-! ### wishesOf -/
theorem wsh_in {S : St} {P : Pl} {k : Nat} (hm : partM S k ≤ S.high) (h : k < P.splits.length) : wshC S P k = max (min (P.splits.getD k 0) S.high) (partM S k) - partM S k := by
  unfold wshC
  by_cases h1 : partM S k < P.splits.getD k 0
  · rw [if_pos ⟨h, h1⟩]; split <;> omega
  · rw [if_neg (fun e => h1 e.2)]; omega
theorem wsh_out {S : St} {P : Pl} {k : Nat} (h : ¬ k < P.splits.length) : wshC S P k = 0 := by unfold wshC; rw [if_neg (fun e => h e.1)]
set_option maxRecDepth 100000 in
set_option maxHeartbeats 2000000 in
theorem pwish_any {w : World} {B : Nat} {X : Sa} {S : St} {P : Pl} (h : Sbox w B X S) (hs : siteB S = true) {lb cap : Nat} (hL : RowI w lb S.phases.length cap (partM S)) {a : Option Addr} {c : Nat} (hI : Ints w a P.splits.length c P.splits) : Calls Tryd.prog 31 #[.pointer (some ⟨B, 0, none⟩), .slice (some ⟨lb, 0, none⟩) S.phases.length cap, .slice a P.splits.length c] w fun e w' => e = .returned (.slice (some ⟨w.heap.size, 0, none⟩) S.phases.length S.phases.length) ∧ RowI w' w.heap.size S.phases.length S.phases.length (wshC S P) ∧ Kept w w' none := by
  have hn := (span_may hs).base.sh.ok.np.2
  have hmk := run_make_row' (P := Tryd.prog) 22 3 (.int .i64 0) 8 Tryd.uIns Tryd.infoIn rfl .i64 .i64 S.phases.length (by omega) (by omega)
  have hBl := h.lt
  have HB := Hid.mk' h
  have HL := Hid.mk' hL
  have HI := Hid.mk' hI
  have HCF := Hid.mk' (cyc_facts hs)
  have HPG : Hid (∀ k, k < S.phases.length → 1 ≤ partM S k ∧ partM S k ≤ S.low) := fun k hk => ⟨(partM_ge hs hk).1, part_low hs hk⟩
  have hgl : P.splits.length ≤ 9223372036854775807 := by have := hI.cap.room; have := hI.cap.max; omega
  have hcapl := hL.mx
  clear h hL hI hs
  go_enter Tryd.func31, Tryd.ntmps31
  go_wp2
  have kM : Kept w (w.alloc (.cells (madeCells #[.int .i64 0] S.phases.length) 3)) none := Kept.alloc _ _ _ _ _
  have hrw : RowI (w.alloc (.cells (madeCells #[.int .i64 0] S.phases.length) 3)) w.heap.size S.phases.length S.phases.length (upTo (wshC S P) 0) := made_row (by omega)
  obtain ⟨W3, hW3⟩ : ∃ W3, w.alloc (.cells (madeCells #[.int .i64 0] S.phases.length) 3) = W3 := ⟨_, rfl⟩
  rw [hW3] at hrw kM ⊢
  have HRW := Hid.mk' hrw
  have KM := Hid.mk' kM
  clear hW3 hrw kM hmk
  go_loopw [8, 9, 15] (fun _ _ i wr => ∃ k : Nat, k ≤ S.phases.length ∧ i = .int .i64 k ∧ Kept w wr none ∧ RowI wr w.heap.size S.phases.length S.phases.length (upTo (wshC S P) k)) (fun _ _ i _ => S.phases.length - (intOf i).toNat)
  case atStart => exact ⟨0, by omega, rfl, KM.out, HRW.out⟩
  case round =>
    obtain ⟨k, hk, rfl, hkw, hrow⟩ := hrel
    have HKW := Hid.mk' hkw
    have HRO := Hid.mk' hrow
    by_cases hlt : k < S.phases.length
    · have lc := (HL.out.kept hkw (by simp)).cell hlt
      have hlr := hrow.lt
      have hcf := HCF.out
      have hpg := HPG.out k hlt
      have HSET : Hid (∀ v, v = wshC S P k → RowI (wr.drew.setCell ⟨w.heap.size, k, none⟩ (.int .i64 v)) w.heap.size S.phases.length S.phases.length (upTo (wshC S P) (k + 1))) := fun v e => by
        rw [← upTo_set e]
        exact (HRO.out.kept (Kept.drew _ none) (by simp)).set hlt _
      by_cases hgv : k < P.splits.length
      · obtain ⟨gb, go_, ea, hgb, hgc⟩ := (HI.out.kept hkw).at_ (by omega)
        have ea := Hid.mk' ea
        have gc := hgc k hgv
        have hgb2 : gb < w.heap.size := by
          obtain ⟨gb', go', ea', hgb', _⟩ := HI.out.at_ (by omega)
          have := ea.out
          rw [ea'] at this
          injection this with this
          injection this with this
          omega
        have b10 := (HB.out.kept hkw).c10
        have y0 := HRO.out.cell hlt
        have z0 := HRO.out.fz k
        have HW := Hid.mk' (wsh_in (S := S) (P := P) (k := k) (by omega) hgv)
        obtain rfl := ea.out
        clear hkw hrow hgc
        generalize wshC S P k = wv at *
        generalize upTo (wshC S P) k k = u0 at *
        generalize partM S k = m at *
        generalize P.splits.getD k 0 = x at *
        have hS0 : wr.drew.cell? ⟨gb, go_ + k, none⟩ = some (.int .i64 x) ∧ wr.drew.cell? ⟨B, 10, none⟩ = some (.int .i64 S.high) := ⟨gc, b10⟩
        have hS1 : ∀ v, (wr.drew.setCell ⟨w.heap.size, k, none⟩ v).cell? ⟨gb, go_ + k, none⟩ = some (.int .i64 x) ∧ (wr.drew.setCell ⟨w.heap.size, k, none⟩ v).cell? ⟨B, 10, none⟩ = some (.int .i64 S.high) := fun v => ⟨(World.cell?_setCell_other _ _ _ _ (by simp <;> omega)).trans hS0.1, (World.cell?_setCell_other _ _ _ _ (by simp <;> omega)).trans hS0.2⟩
        generalize S.high = H at *
        by_cases h1 : H < x
        · have h2 : ¬ H < m := by omega
          have HV : Hid (H - m = wv) := by show _ = _; rw [HW.out]; omega
          clear HW
          go_wp2
          go_region_held (fun w' => w'.cell? ⟨gb, go_ + k, none⟩ = some (.int .i64 x) ∧ w'.cell? ⟨B, 10, none⟩ = some (.int .i64 H))
            ((first | exact hS0 | assumption | exact hS1 _))
            (fail)
          all_goals
            go_wp2
            go_roundw
            case rel => exact ⟨k + 1, by omega, by go_num, (HKW.out.tr (Kept.drew _ _)).setNew (p := ⟨w.heap.size, k, none⟩) (Nat.le_refl _) _, HSET.out _ HV.out⟩
            case measure => simp [intOf]; omega
        · by_cases h2 : x < m
          · have HV : Hid (0 = wv) := by show _ = _; rw [HW.out]; omega
            clear HW
            go_wp2
            go_region_held (fun w' => w'.cell? ⟨gb, go_ + k, none⟩ = some (.int .i64 x) ∧ w'.cell? ⟨B, 10, none⟩ = some (.int .i64 H))
              ((first | exact hS0 | assumption | exact hS1 _))
              (fail)
            all_goals
              go_wp2
              go_roundw
              case rel => exact ⟨k + 1, by omega, by go_num, (HKW.out.tr (Kept.drew _ _)).setNew (p := ⟨w.heap.size, k, none⟩) (Nat.le_refl _) _, HSET.out _ HV.out⟩
              case measure => simp [intOf]; omega
          · have HV : Hid (x - m = wv) := by show _ = _; rw [HW.out]; omega
            clear HW
            go_wp2
            go_region_held (fun w' => w'.cell? ⟨gb, go_ + k, none⟩ = some (.int .i64 x) ∧ w'.cell? ⟨B, 10, none⟩ = some (.int .i64 H))
              ((first | exact hS0 | assumption | exact hS1 _))
              (fail)
            all_goals
              go_wp2
              go_roundw
              case rel => exact ⟨k + 1, by omega, by go_num, (HKW.out.tr (Kept.drew _ _)).setNew (p := ⟨w.heap.size, k, none⟩) (Nat.le_refl _) _, HSET.out _ HV.out⟩
              case measure => simp [intOf]; omega
      · have HV := Hid.mk' (wsh_out (S := S) (P := P) hgv)
        have hup : upTo (wshC S P) k = upTo (wshC S P) (k + 1) := by
          rw [← upTo_set (f := wshC S P) (k := k) (x := 0) HV.out.symm]
          funext j
          by_cases e : j = k
          · rw [if_pos e]; unfold upTo; rw [if_neg (by omega)]
          · rw [if_neg e]
        have HUP := Hid.mk' hup
        clear hkw hrow hup
        generalize partM S k = m at *
        go_wp2
        go_roundw
        case rel => exact ⟨k + 1, by omega, by go_num, HKW.out, by rw [← HUP.out]; exact HRO.out⟩
        case measure => simp [intOf]; omega
    · obtain rfl : k = S.phases.length := by omega
      clear hkw hrow
      go_wp2
      go_ret
      exact ⟨rfl, HRO.out.congr (fun i hi => by unfold upTo; rw [if_pos hi]), HKW.out⟩

end Go.Proofs.YtfhmfanmnhclfaaDoor
