/-
  Texts joined: some of those that the proofs of this seat stand on.
-/
import Derived.Test.YtfhmfanmnhclfaaDoorPlnA
import Derived.Deep.RegionHeld
import Derived.Lib.SliceRun
/-
  THE CONTRACTS of plan's leastParts and wishesOf (made by a program).
-/
namespace Go.Proofs.YtfhmfanmnhclfaaDoor
open Go.RowKit Go.Lib Go.Deep
set_option linter.unusedVariables false
set_option linter.unusedSimpArgs false


/-- As many of a list's numbers as were reckoned, noughts behind. -/
def upTo (f : Nat → Int) (k i : Nat) : Int := if i < k then f i else 0
theorem upTo_set {f : Nat → Int} {k : Nat} {x : Int} (hx : x = f k) : (fun j => if j = k then x else upTo f k j) = upTo f (k + 1) := by
  funext j
  unfold upTo
  by_cases h : j = k
  · subst h; rw [if_pos rfl, if_pos (show j < j + 1 by omega), hx]
  · rw [if_neg h]
    by_cases h2 : j < k
    · rw [if_pos h2, if_pos (show j < k + 1 by omega)]
    · rw [if_neg h2, if_neg (show ¬ j < k + 1 by omega)]
theorem made_row {w : World} {n : Nat} {f : Nat → Int} (hn : n ≤ 1000) : RowI (w.alloc (.cells (madeCells #[.int .i64 0] n) 3)) w.heap.size n n (upTo f 0) :=
  RowI.of ((World.rowIs_made w (.int .i64 0) n 3).congr (fun i hi => by unfold upTo; simp)) hn
theorem Sbox.setN {w wr : World} {B : Nat} {X : Sa} {S : St} (h : Sbox w B X S) (k : Kept w wr none) {p : Addr} (hp : w.heap.size ≤ p.block) (v : Value) : Sbox (wr.setCell p v) B X S := h.kept (k.setNew hp v)
theorem alloc_one {w : World} {cs : Array Value} {t : TypeId} {j : Nat} {v : Value} (hv : cs[j]? = some v) : (w.alloc (.cells cs t)).cell? ⟨w.heap.size, j, none⟩ = some v := by simp [World.cell?_alloc_mark, hv]
set_option maxRecDepth 100000 in
set_option maxHeartbeats 2000000 in
theorem pleast_any {w : World} {B : Nat} {X : Sa} {S : St} (h : Sbox w B X S) (hT : Tabb w) (hs : siteB S = true) : Calls Tryd.prog 28 #[.pointer (some ⟨B, 0, none⟩)] w fun e w' => e = .returned (.slice (some ⟨w.heap.size, 0, none⟩) S.phases.length S.phases.length) ∧ RowI w' w.heap.size S.phases.length S.phases.length (partM S) ∧ Kept w w' none := by
  have hn := (span_may hs).base.sh.ok.np.2
  have hmk := run_make_row' (P := Tryd.prog) 22 3 (.int .i64 0) 8 Tryd.uIns Tryd.infoIn rfl .i64 .i64 S.phases.length (by omega) (by omega)
  have c4 := h.c4
  have c4m := (h.kept (Kept.alloc w (madeCells #[.int .i64 0] S.phases.length) 3 (0, 0) none)).c4
  have HB := Hid.mk' h
  have HT := Hid.mk' hT
  have HPR := Hid.mk' (fun k hk => (span_may hs).base.mn k hk)
  have HSI := Hid.mk' hs
  have HGM : Hid (∀ k, k < S.phases.length → 0 ≤ gapM S k ∧ gapM S k ≤ 1048576) := fun k hk => (span_may hs).base.lies _ _
  clear h hT hs
  go_enter Tryd.func28, Tryd.ntmps28
  go_wp2
  have kM : Kept w (w.alloc (.cells (madeCells #[.int .i64 0] S.phases.length) 3)) none := Kept.alloc _ _ _ _ _
  have hrw : RowI (w.alloc (.cells (madeCells #[.int .i64 0] S.phases.length) 3)) w.heap.size S.phases.length S.phases.length (upTo (partM S) 0) := made_row (by omega)
  obtain ⟨W3, hW3⟩ : ∃ W3, w.alloc (.cells (madeCells #[.int .i64 0] S.phases.length) 3) = W3 := ⟨_, rfl⟩
  rw [hW3] at hrw kM ⊢
  have HRW := Hid.mk' hrw
  have KM := Hid.mk' kM
  clear hW3 hrw kM hmk c4 c4m
  go_loopw [4, 5, 17] (fun _ _ i wr => ∃ k : Nat, k ≤ S.phases.length ∧ i = .int .i64 k ∧ Kept w wr none ∧ RowI wr w.heap.size S.phases.length S.phases.length (upTo (partM S) k)) (fun _ _ i _ => S.phases.length - (intOf i).toNat)
  case atStart => exact ⟨0, by omega, rfl, KM.out, HRW.out⟩
  case round =>
    obtain ⟨k, hk, rfl, hkw, hrow⟩ := hrel
    have HKW := Hid.mk' hkw
    have HRO := Hid.mk' hrow
    by_cases hlt : k < S.phases.length
    · obtain ⟨pb, po, ep, q0, q1, q2, q3, q4⟩ := (HB.out.kept hkw).sat.phAt hlt
      have hpb := block_lt q0
      have hlr := hrow.lt
      have kS : Kept wr (wr.alloc (.cells #[.int .u32 ((S.ph k).groups : Int), .int .i64 (S.ph k).min, .int .i64 (S.ph k).max, .int .i64 (S.ph k).gap, .bool (S.ph k).always] 80)) none := Kept.alloc _ _ _ _ _
      have HCL := Hid.mk' (pclr_any (((HB.out.kept hkw).kept kS).kept (Kept.drew _ none)) (((HT.out.kept hkw).kept kS).kept (Kept.drew _ none)) HSI.out hlt)
      have hg := HGM.out k hlt
      have hm := HPR.out k hlt
      have HPM : Hid ((S.ph k).min + gapM S k = partM S k) := rfl
      have HSET : Hid (∀ wC, Kept wr wC none → RowI (wC.setCell ⟨w.heap.size, k, none⟩ (.int .i64 (partM S k))) w.heap.size S.phases.length S.phases.length (upTo (partM S) (k + 1))) := fun wC q => by
        rw [← upTo_set rfl]
        exact (HRO.out.kept q (by simp)).set hlt _
      have HY : Hid (∀ wC, Kept wr wC none → wC.cell? ⟨w.heap.size, k, none⟩ = some (.int .i64 (upTo (partM S) k k))) := fun wC q => (HRO.out.kept q (by simp)).cell hlt
      have HZ : Hid (∀ wC, Kept wr wC none → wC.frozen? ⟨w.heap.size, k, none⟩ = false) := fun wC q => (HRO.out.kept q (by simp)).fz k
      rw [ep] at *
      clear hkw hrow
      generalize partM S k = pm at *
      generalize upTo (partM S) k k = u0 at *
      generalize gapM S k = gm at *
      generalize S.ph k = x at *
      obtain ⟨x0', x1', x2', x3', x4'⟩ := x
      dsimp only at q0 q1 q2 q3 q4 hm HPM kS HCL
      have f1 : (wr.alloc (.cells #[.int .u32 (x0' : Int), .int .i64 x1', .int .i64 x2', .int .i64 x3', .bool x4'] 80)).cell? ⟨wr.heap.size, 1, none⟩ = some (.int .i64 x1') := alloc_one rfl
      have hsum : IntKind.i64.wrap (x1' + gm) = pm := by rw [wrap_in (by omega) (by omega)]; exact HPM.out
      go_wp2
      obtain ⟨W1, hW1⟩ : ∃ W1, wr.alloc (.cells #[.int .u32 (x0' : Int), .int .i64 x1', .int .i64 x2', .int .i64 x3', .bool x4'] 80) = W1 := ⟨_, rfl⟩
      rw [hW1] at kS f1 HCL ⊢
      have hS0 : Kept w W1.drew none ∧ W1.drew.cell? ⟨wr.heap.size, 1, none⟩ = some (.int .i64 x1') := ⟨(HKW.out.tr kS).tr (Kept.drew _ _), f1⟩
      have kS2 := kS.tr (Kept.drew W1 none)
      have hne : w.heap.size ≠ wr.heap.size := by omega
      go_region_held (fun w' => Kept w w' none ∧ w'.cell? ⟨wr.heap.size, 1, none⟩ = some (.int .i64 x1'))
        ((first | exact hS0 | assumption | exact ⟨hKC.1.setNew (p := ⟨w.heap.size, k, none⟩) (Nat.le_refl _) _, (World.cell?_setCell_other _ _ _ _ (by simp [hne])).trans hKC.2⟩))
        ((go_at_call 33; refine HCL.out.mono ?_; rintro e wC ⟨rfl, hkC⟩; have hkF : Kept wr wC none := kS2.tr hkC; have hKC : Kept w wC none ∧ wC.cell? ⟨wr.heap.size, 1, none⟩ = some (.int .i64 x1') := ⟨HKW.out.tr hkF, cell_kept0 hS0.2 hkC⟩; have y0 := HY.out wC hkF; have z0 := HZ.out wC hkF))
      all_goals
        go_wp2
        go_roundw
        case rel => exact ⟨k + 1, by omega, by go_num, hKC.1.setNew (p := ⟨w.heap.size, k, none⟩) (Nat.le_refl _) _, by first | exact HSET.out _ hkF | (rw [hsum]; exact HSET.out _ hkF)⟩
        case measure => simp [intOf]; omega
    · obtain rfl : k = S.phases.length := by omega
      clear hkw hrow
      go_wp2
      go_ret
      exact ⟨rfl, HRO.out.congr (fun i hi => by unfold upTo; rw [if_pos hi]), HKW.out⟩

/-! ### wishesOf -/
theorem wsh_in {S : St} {P : Pl} {k : Nat} (hm : partM S k ≤ S.high) (h : k < P.splits.length) : wshC S P k = max (min (P.splits.getD k 0) S.high) (partM S k) - partM S k := by
  unfold wshC
  by_cases h1 : partM S k < P.splits.getD k 0
  · rw [if_pos ⟨h, h1⟩]; split <;> omega
  · rw [if_neg (fun e => h1 e.2)]; omega
theorem wsh_out {S : St} {P : Pl} {k : Nat} (h : ¬ k < P.splits.length) : wshC S P k = 0 := by unfold wshC; rw [if_neg (fun e => h e.1)]
set_option maxRecDepth 100000 in
set_option maxHeartbeats 2000000 in
theorem pwish_any {w : World} {B : Nat} {X : Sa} {S : St} {P : Pl} (h : Sbox w B X S) (hs : siteB S = true) {lb cap : Nat} (hL : RowI w lb S.phases.length cap (partM S)) {a : Option Addr} {c : Nat} (hI : Ints w a P.splits.length c P.splits) : Calls Tryd.prog 31 #[.pointer (some ⟨B, 0, none⟩), .slice (some ⟨lb, 0, none⟩) S.phases.length cap, .slice a P.splits.length c] w fun e w' => e = .returned (.slice (some ⟨w.heap.size, 0, none⟩) S.phases.length S.phases.length) ∧ RowI w' w.heap.size S.phases.length S.phases.length (wshC S P) ∧ Kept w w' none := by
  have hn := (span_may hs).base.sh.ok.np.2
  have hmk := run_make_row' (P := Tryd.prog) 22 3 (.int .i64 0) 8 Tryd.uIns Tryd.infoIn rfl .i64 .i64 S.phases.length (by omega) (by omega)
  have hBl := h.lt
  have HB := Hid.mk' h
  have HL := Hid.mk' hL
  have HI := Hid.mk' hI
  have HCF := Hid.mk' (cyc_facts hs)
  have HPG : Hid (∀ k, k < S.phases.length → 1 ≤ partM S k ∧ partM S k ≤ S.low) := fun k hk => ⟨(partM_ge hs hk).1, part_low hs hk⟩
  have hgl : P.splits.length ≤ 9223372036854775807 := by have := hI.cap.room; have := hI.cap.max; omega
  have hcapl := hL.mx
  clear h hL hI hs
  go_enter Tryd.func31, Tryd.ntmps31
  go_wp2
  have kM : Kept w (w.alloc (.cells (madeCells #[.int .i64 0] S.phases.length) 3)) none := Kept.alloc _ _ _ _ _
  have hrw : RowI (w.alloc (.cells (madeCells #[.int .i64 0] S.phases.length) 3)) w.heap.size S.phases.length S.phases.length (upTo (wshC S P) 0) := made_row (by omega)
  obtain ⟨W3, hW3⟩ : ∃ W3, w.alloc (.cells (madeCells #[.int .i64 0] S.phases.length) 3) = W3 := ⟨_, rfl⟩
  rw [hW3] at hrw kM ⊢
  have HRW := Hid.mk' hrw
  have KM := Hid.mk' kM
  clear hW3 hrw kM hmk
  go_loopw [8, 9, 15] (fun _ _ i wr => ∃ k : Nat, k ≤ S.phases.length ∧ i = .int .i64 k ∧ Kept w wr none ∧ RowI wr w.heap.size S.phases.length S.phases.length (upTo (wshC S P) k)) (fun _ _ i _ => S.phases.length - (intOf i).toNat)
  case atStart => exact ⟨0, by omega, rfl, KM.out, HRW.out⟩
  case round =>
    obtain ⟨k, hk, rfl, hkw, hrow⟩ := hrel
    have HKW := Hid.mk' hkw
    have HRO := Hid.mk' hrow
    by_cases hlt : k < S.phases.length
    · have lc := (HL.out.kept hkw (by simp)).cell hlt
      have hlr := hrow.lt
      have hcf := HCF.out
      have hpg := HPG.out k hlt
      have HSET : Hid (∀ v, v = wshC S P k → RowI (wr.drew.setCell ⟨w.heap.size, k, none⟩ (.int .i64 v)) w.heap.size S.phases.length S.phases.length (upTo (wshC S P) (k + 1))) := fun v e => by
        rw [← upTo_set e]
        exact (HRO.out.kept (Kept.drew _ none) (by simp)).set hlt _
      by_cases hgv : k < P.splits.length
      · obtain ⟨gb, go_, ea, hgb, hgc⟩ := (HI.out.kept hkw).at_ (by omega)
        have ea := Hid.mk' ea
        have gc := hgc k hgv
        have hgb2 : gb < w.heap.size := by
          obtain ⟨gb', go', ea', hgb', _⟩ := HI.out.at_ (by omega)
          have := ea.out
          rw [ea'] at this
          injection this with this
          injection this with this
          omega
        have b10 := (HB.out.kept hkw).c10
        have y0 := HRO.out.cell hlt
        have z0 := HRO.out.fz k
        have HW := Hid.mk' (wsh_in (S := S) (P := P) (k := k) (by omega) hgv)
        obtain rfl := ea.out
        clear hkw hrow hgc
        generalize wshC S P k = wv at *
        generalize upTo (wshC S P) k k = u0 at *
        generalize partM S k = m at *
        generalize P.splits.getD k 0 = x at *
        have hS0 : wr.drew.cell? ⟨gb, go_ + k, none⟩ = some (.int .i64 x) ∧ wr.drew.cell? ⟨B, 10, none⟩ = some (.int .i64 S.high) := ⟨gc, b10⟩
        have hS1 : ∀ v, (wr.drew.setCell ⟨w.heap.size, k, none⟩ v).cell? ⟨gb, go_ + k, none⟩ = some (.int .i64 x) ∧ (wr.drew.setCell ⟨w.heap.size, k, none⟩ v).cell? ⟨B, 10, none⟩ = some (.int .i64 S.high) := fun v => ⟨(World.cell?_setCell_other _ _ _ _ (by simp <;> omega)).trans hS0.1, (World.cell?_setCell_other _ _ _ _ (by simp <;> omega)).trans hS0.2⟩
        generalize S.high = H at *
        by_cases h1 : H < x
        · have h2 : ¬ H < m := by omega
          have HV : Hid (H - m = wv) := by show _ = _; rw [HW.out]; omega
          clear HW
          go_wp2
          go_region_held (fun w' => w'.cell? ⟨gb, go_ + k, none⟩ = some (.int .i64 x) ∧ w'.cell? ⟨B, 10, none⟩ = some (.int .i64 H))
            ((first | exact hS0 | assumption | exact hS1 _))
            (fail)
          all_goals
            go_wp2
            go_roundw
            case rel => exact ⟨k + 1, by omega, by go_num, (HKW.out.tr (Kept.drew _ _)).setNew (p := ⟨w.heap.size, k, none⟩) (Nat.le_refl _) _, HSET.out _ HV.out⟩
            case measure => simp [intOf]; omega
        · by_cases h2 : x < m
          · have HV : Hid (0 = wv) := by show _ = _; rw [HW.out]; omega
            clear HW
            go_wp2
            go_region_held (fun w' => w'.cell? ⟨gb, go_ + k, none⟩ = some (.int .i64 x) ∧ w'.cell? ⟨B, 10, none⟩ = some (.int .i64 H))
              ((first | exact hS0 | assumption | exact hS1 _))
              (fail)
            all_goals
              go_wp2
              go_roundw
              case rel => exact ⟨k + 1, by omega, by go_num, (HKW.out.tr (Kept.drew _ _)).setNew (p := ⟨w.heap.size, k, none⟩) (Nat.le_refl _) _, HSET.out _ HV.out⟩
              case measure => simp [intOf]; omega
          · have HV : Hid (x - m = wv) := by show _ = _; rw [HW.out]; omega
            clear HW
            go_wp2
            go_region_held (fun w' => w'.cell? ⟨gb, go_ + k, none⟩ = some (.int .i64 x) ∧ w'.cell? ⟨B, 10, none⟩ = some (.int .i64 H))
              ((first | exact hS0 | assumption | exact hS1 _))
              (fail)
            all_goals
              go_wp2
              go_roundw
              case rel => exact ⟨k + 1, by omega, by go_num, (HKW.out.tr (Kept.drew _ _)).setNew (p := ⟨w.heap.size, k, none⟩) (Nat.le_refl _) _, HSET.out _ HV.out⟩
              case measure => simp [intOf]; omega
      · have HV := Hid.mk' (wsh_out (S := S) (P := P) hgv)
        have hup : upTo (wshC S P) k = upTo (wshC S P) (k + 1) := by
          rw [← upTo_set (f := wshC S P) (k := k) (x := 0) HV.out.symm]
          funext j
          by_cases e : j = k
          · rw [if_pos e]; unfold upTo; rw [if_neg (by omega)]
          · rw [if_neg e]
        have HUP := Hid.mk' hup
        clear hkw hrow hup
        generalize partM S k = m at *
        go_wp2
        go_roundw
        case rel => exact ⟨k + 1, by omega, by go_num, HKW.out, by rw [← HUP.out]; exact HRO.out⟩
        case measure => simp [intOf]; omega
    · obtain rfl : k = S.phases.length := by omega
      clear hkw hrow
      go_wp2
      go_ret
      exact ⟨rfl, HRO.out.congr (fun i hi => by unfold upTo; rw [if_pos hi]), HKW.out⟩

end Go.Proofs.YtfhmfanmnhclfaaDoor

/-
  THE CONTRACTS of slices.Clone, slices.IndexFunc and plan's splitsOf (made by a program).
-/
namespace Go.Proofs.YtfhmfanmnhclfaaDoor
open Go.RowKit Go.Lib Go.Deep
set_option linter.unusedVariables false
set_option linter.unusedSimpArgs false


theorem cells_map {n : Nat} {f : Nat → Int} : cellsL n 1 (fun i _ => .int .i64 (f i)) = (List.range n).map (fun i => Value.int .i64 (f i)) := by
  unfold cellsL
  rw [Nat.mul_one]
  refine List.map_congr_left fun q hq => ?_
  rw [Nat.div_one]
/-- A row that grew by append, as a row of numbers. -/
theorem own_row {w : World} {base n : Nat} {v : Value} {f : Nat → Int} (h : w.ownsRow base 3 1 v n (cellsL n 1 (fun i _ => .int .i64 (f i)))) (hn : 0 < n) : ∃ g cap, v = .slice (some ⟨g, 0, none⟩) n cap ∧ base ≤ g ∧ RowI w g n cap f := by
  obtain ⟨_, ⟨rfl, e⟩ | ⟨g, cap, cur, rfl, hb, hh, hle, hmx, hsz, htk⟩⟩ := h
  · omega
  · unfold maxLen at hmx
    refine ⟨g, cap, rfl, hb, hle, by omega, fun j => (cur[j]?).getD (.bool false), cur, hh, by omega, fun i hi => ?_⟩
    show cur[i]? = some (if i < n then _ else _)
    by_cases hin : i < n
    · rw [if_pos hin]
      have h2 : (cur.toList.take (n * 1))[i]? = some (.int .i64 (f i)) := by
        rw [htk, cells_map, List.getElem?_map, List.getElem?_range hin]
        rfl
      rw [List.getElem?_take_of_lt (by omega), Array.getElem?_toList] at h2
      exact h2
    · rw [if_neg hin]
      have : i < cur.size := by omega
      show cur[i]? = some ((cur[i]?).getD (.bool false))
      rw [Array.getElem?_eq_getElem this]
      rfl
set_option maxRecDepth 100000 in
set_option maxHeartbeats 2000000 in
theorem clone_any {w : World} {lb n cap : Nat} {f : Nat → Int} (hL : RowI w lb n cap f) (h0 : 0 < n) (hn : n ≤ 1000) : Calls Tryd.prog 53 #[.slice (some ⟨lb, 0, none⟩) n cap] w fun e w' => ∃ g cp, e = .returned (.slice (some ⟨g, 0, none⟩) n cp) ∧ w.heap.size ≤ g ∧ RowI w' g n cp f ∧ Kept w w' none := by
  obtain ⟨i0, hi0, hz0, hz1, hz2⟩ := info_parts Tryd.infoIn
  have kA : Kept w (w.alloc (.cells #[] 3)) none := Kept.alloc _ _ _ _ _
  have hown : (w.alloc (.cells #[] 3)).ownsRow w.heap.size 3 1 (.slice (some ⟨w.heap.size, 0, none⟩) 0 0) 0 (cellsL 0 1 (fun i _ => .int .i64 (f i))) := World.ownsRow_lit w #[] 0 (Nat.le_refl _) (by unfold maxLen; omega) rfl
  have hnews : ∀ j u, (cellsL n 1 (fun i _ => Value.int .i64 (f i)))[j]? = some u → (w.alloc (.cells #[] 3)).cell? ((⟨lb, 0, none⟩ : Addr).add j) = some u := cellsL_news (by omega) (fun i hi j hj => by
    obtain rfl : j = 0 := by omega
    have := (hL.kept kA (by simp)).cell hi
    rw [Nat.zero_add, Nat.mul_one, Nat.add_zero]
    exact this)
  obtain ⟨v', w', hr, h2, h3, _⟩ := run_append_own (P := Tryd.prog) (w.alloc (.cells #[] 3)) w.heap.size 22 22 3 i0 _ 1 _ Tryd.uIns hi0 hz0 hz1 hz2 rfl (by omega) (.slice (some ⟨w.heap.size, 0, none⟩) 0 0) 0 _ hown ⟨lb, 0, none⟩ n cap (cellsL n 1 (fun i _ => .int .i64 (f i))) (cellsL_len _ _ _) hnews (cellsL_one (fun i j => rfl)) (by unfold maxLen; omega) (by omega) (by simp)
  rw [Nat.zero_add, show cellsL 0 1 (fun i _ => Value.int .i64 (f i)) = [] from rfl, List.nil_append] at h2
  obtain ⟨g, cp, rfl, hg, hrow⟩ := own_row h2 h0
  have hk : Kept w w' none := ⟨h3.os.trans kA.os, h3.tape.trans kA.tape, h3.output.trans kA.output, Nat.le_trans kA.size h3.size, fun i hi _ => (h3.block i (Nat.lt_of_lt_of_le hi kA.size) (fun e => by have e : i = w.heap.size := Option.some.inj e; omega)).trans (kA.block i hi (by simp))⟩
  have HR := Hid.mk' hrow
  have HK := Hid.mk' hk
  have HRN := Hid.mk' hr
  have hq : ∀ w, (binOp .eql 22 (.slice (some ⟨lb, 0, none⟩) n cap) (.slice none 0 0)).run Tryd.prog w = .ok (.bool false) w := fun w => Go.Lib.run_eql_slice_nil w _ _ _ _ _ _ _ Tryd.uIns
  clear hr hL kA hown hnews h2 h3 hrow hk hi0 hz0 hz1 hz2
  go_enter Tryd.func53, Tryd.ntmps53
  go_wp2_with (at_builtin; refine wpList_app (by rfl) _ _ _ (by rfl) (by rfl) (by rfl) HRN.out ?_)
  go_ret
  exact ⟨g, cp, rfl, hg, HR.out, HK.out⟩
theorem idx_none {f : Nat → Int} {n : Nat} (h : ∀ i, i < n → ¬ 0 < f i) : firstN f n = none ∨ True := .inr trivial
set_option maxRecDepth 100000 in
set_option maxHeartbeats 2000000 in
theorem idxw_any {w : World} {lb n cap : Nat} {f : Nat → Int} (hL : RowI w lb n cap f) (hn : n ≤ 1000) : Calls Tryd.prog 54 #[.slice (some ⟨lb, 0, none⟩) n cap, .func (.func 55) #[] #[]] w fun e w' => (∃ z : Int, e = .returned (.int .i64 z) ∧ ((z = -1 ∧ ∀ i, i < n → ¬ 0 < f i) ∨ ∃ k : Nat, z = k ∧ k < n ∧ 0 < f k ∧ ∀ i, i < k → ¬ 0 < f i)) ∧ w' = w := by
  have HL := Hid.mk' hL
  have hmx := hL.mx
  clear hL
  go_enter Tryd.func54, Tryd.ntmps54
  go_wp2
  go_loop [5, 8] (fun _ i => ∃ k : Nat, k ≤ n ∧ i = .int .i64 k ∧ ∀ j, j < k → ¬ 0 < f j) (fun _ i => n - (intOf i).toNat)
  case atStart => exact ⟨0, by omega, rfl, fun j hj => by omega⟩
  case round =>
    obtain ⟨k, hk, rfl, hno⟩ := hrel
    have HN := Hid.mk' hno
    clear hno
    by_cases hlt : k < n
    · have kc := HL.out.cell hlt
      by_cases e : 0 < f k
      · have HY : Hid (0 < f k) := e
        have HV : Hid (∀ i, i < k → ¬ 0 < f i) := HN.out
        obtain ⟨y, hy⟩ : ∃ y, f k = y := ⟨_, rfl⟩
        rw [hy] at kc e
        have HE := Hid.mk' hy
        clear hy
        go_wp2_with (go_at_call 55; go_in)
        go_ret
        exact ⟨⟨_, rfl, .inr ⟨k, rfl, hlt, HY.out, HV.out⟩⟩, rfl⟩
      · have HV : Hid (∀ i, i < k + 1 → ¬ 0 < f i) := fun i hi => by
          by_cases e2 : i = k
          · subst e2; exact e
          · exact HN.out i (by omega)
        obtain ⟨y, hy⟩ : ∃ y, f k = y := ⟨_, rfl⟩
        rw [hy] at kc e
        clear hy
        go_wp2_with (go_at_call 55; go_in)
        exact ⟨⟨k + 1, by omega, by go_num, HV.out⟩, by simp [intOf]; omega⟩
    · go_wp2
      go_ret
      exact ⟨⟨_, rfl, .inl ⟨rfl, fun i hi => HN.out i (by omega)⟩⟩, rfl⟩

/-! ### splitsOf -/
theorem sumF_part {f : Nat → Int} {n : Nat} (h : ∀ i, i < n → 0 ≤ f i) : ∀ {k : Nat}, k ≤ n → 0 ≤ sumF f k ∧ sumF f k ≤ sumF f n := by
  induction n with
  | zero => intro k hk; obtain rfl : k = 0 := by omega
            exact ⟨Int.le_refl _, Int.le_refl _⟩
  | succ n ih =>
    intro k hk
    have hn := h n (by omega)
    by_cases e : k = n + 1
    · subst e; exact ⟨sumF_ge h, Int.le_refl _⟩
    · have := ih (fun i hi => h i (by omega)) (k := k) (by omega)
      rw [sumF_succ]
      omega
theorem sumF_bd {f : Nat → Int} {M : Int} (h0 : 0 ≤ M) : ∀ {k : Nat}, (∀ i, i < k → 0 ≤ f i ∧ f i ≤ M) → 0 ≤ sumF f k ∧ sumF f k ≤ M * k
  | 0, _ => by show 0 ≤ (0 : Int) ∧ (0 : Int) ≤ M * (0 : Nat); omega
  | k + 1, h => by
    have ih := sumF_bd h0 (k := k) (fun i hi => h i (by omega))
    have hk := h k (by omega)
    rw [sumF_succ, show M * ((k + 1 : Nat) : Int) = M * k + M by rw [show ((k + 1 : Nat) : Int) = (k : Int) + 1 by omega, Int.mul_add, Int.mul_one]]
    omega
/-- The share of a phase, as the program reckons it. -/
def shrP (rest all w : Int) : Int := (rest * w).tdiv (max all 1)
theorem shrP_is {S : St} (hs : siteB S = true) (P : Pl) {i : Nat} (hi : i < S.phases.length) : shrP (rstC S P) (allC S P) (wshC S P i) = (if allC S P = 0 then 0 else shrC S P i) := by
  unfold shrP
  have h0 := all_ge hs P
  by_cases h : allC S P = 0
  · rw [if_pos h]
    have hz := sumF_zero (fun i hi => (wsh_rng hs P hi).1) h i hi
    rw [hz, Int.mul_zero, Int.zero_tdiv]
  · rw [if_neg h, show max (allC S P) 1 = allC S P by omega]
    unfold shrC
    rw [Int.tdiv_eq_ediv_of_nonneg (Int.mul_nonneg (rst_ge hs P).1 (wsh_rng hs P hi).1)]
theorem shr_rng {S : St} (hs : siteB S = true) (P : Pl) (h : allC S P ≠ 0) : ∀ k, k ≤ S.phases.length → 0 ≤ sumF (shrC S P) k ∧ sumF (shrC S P) k ≤ rstC S P := fun k hk => by
  have h1 := sumF_part (f := shrC S P) (n := S.phases.length) (fun i hi => shr_ge hs P hi) hk
  have h2 := lef_ge hs P h
  unfold lefC at h2
  omega
def shrQ (S : St) (P : Pl) (i : Nat) : Int := if allC S P = 0 then 0 else shrC S P i
theorem shrQ_rng {S : St} (hs : siteB S = true) (P : Pl) : ∀ k, k ≤ S.phases.length → 0 ≤ sumF (shrQ S P) k ∧ sumF (shrQ S P) k ≤ rstC S P := fun k hk => by
  by_cases h : allC S P = 0
  · have : ∀ n, sumF (shrQ S P) n = 0 := fun n => by
      induction n with
      | zero => rfl
      | succ n ih => rw [sumF_succ, ih]; unfold shrQ; rw [if_pos h]; rfl
    rw [this]
    have := (rst_ge hs P).1
    omega
  · have : sumF (shrQ S P) k = sumF (shrC S P) k := sumF_congr (fun i _ => by unfold shrQ; rw [if_neg h])
    rw [this]
    exact shr_rng hs P h k hk
theorem shrQ_one {S : St} (hs : siteB S = true) (P : Pl) {k : Nat} (hk : k < S.phases.length) : 0 ≤ shrQ S P k ∧ shrQ S P k ≤ 1048576 := by
  have h1 := shrQ_rng hs P k (by omega)
  have h2 := shrQ_rng hs P (k + 1) (by omega)
  have h4 := (rst_ge hs P).2
  rw [sumF_succ] at h2
  have h3 : 0 ≤ shrQ S P k := by
    unfold shrQ
    split
    · omega
    · exact shr_ge hs P hk
  omega
/-- What splits there are behind k rounds. -/
def spQ (S : St) (P : Pl) (k i : Nat) : Int := if i < k then partM S i + shrQ S P i else partM S i
theorem spQ_set {S : St} {P : Pl} {k : Nat} : (fun j => if j = k then partM S k + shrQ S P k else spQ S P k j) = spQ S P (k + 1) := by
  funext j
  unfold spQ
  by_cases h : j = k
  · subst h; rw [if_pos rfl, if_pos (show j < j + 1 by omega)]
  · rw [if_neg h]
    by_cases h2 : j < k
    · rw [if_pos h2, if_pos (show j < k + 1 by omega)]
    · rw [if_neg h2, if_neg (show ¬ j < k + 1 by omega)]
/-- Who takes what is left. -/
def tkQ (S : St) (P : Pl) : Nat := if allC S P = 0 then 0 else fstC S P
theorem tk_lt {S : St} (hs : siteB S = true) (P : Pl) : tkQ S P < S.phases.length := by
  unfold tkQ
  have hn := (span_may hs).base.sh.ok.np
  split
  · omega
  · rename_i h; exact (fst_lt hs P h).1
theorem spl_fin {S : St} {P : Pl} {i : Nat} (hi : i < S.phases.length) : (if i = tkQ S P then spQ S P S.phases.length i + (rstC S P - sumF (shrQ S P) S.phases.length) else spQ S P S.phases.length i) = splC S P i := by
  unfold spQ splC extC shrQ tkQ lefC
  rw [if_pos hi]
  by_cases h : allC S P = 0
  · have : ∀ n, sumF (fun i => if allC S P = 0 then 0 else shrC S P i) n = 0 := fun n => by
      induction n with
      | zero => rfl
      | succ n ih => rw [sumF_succ, ih, if_pos h]; rfl
    rw [if_pos h, if_pos h, if_pos h, this]
    split <;> omega
  · have : sumF (fun i => if allC S P = 0 then 0 else shrC S P i) S.phases.length = sumF (shrC S P) S.phases.length := sumF_congr (fun i _ => by rw [if_neg h])
    rw [if_neg h, if_neg h, if_neg h, this]
    split <;> omega
theorem tk_is {S : St} (hs : siteB S = true) {P : Pl} {z : Int} (h : (z = -1 ∧ ∀ i, i < S.phases.length → ¬ 0 < wshC S P i) ∨ ∃ k : Nat, z = k ∧ k < S.phases.length ∧ 0 < wshC S P k ∧ ∀ i, i < k → ¬ 0 < wshC S P i) : (if z < 0 then 0 else z) = (tkQ S P : Int) ∧ -1 ≤ z ∧ z ≤ 8 := by
  have hn := (span_may hs).base.sh.ok.np
  have hz : ∀ i, i < S.phases.length → 0 ≤ wshC S P i := fun i hi => (wsh_rng hs P hi).1
  unfold tkQ
  rcases h with ⟨rfl, h⟩ | ⟨k, rfl, hk, h1, h2⟩
  · have h0 : allC S P = 0 := by
      by_cases e : allC S P = 0
      · exact e
      · have := fst_lt hs P e
        have := h _ this.1
        have := hz _ (fst_lt hs P e).1
        have := (fst_lt hs P e).2.1
        omega
    rw [if_pos h0, if_pos (by omega)]
    exact ⟨rfl, by omega, by omega⟩
  · have h0 : allC S P ≠ 0 := fun e => by
      have := sumF_zero hz e k hk
      omega
    obtain ⟨f1, f2, f3⟩ := fst_lt hs P h0
    rw [if_neg h0, if_neg (by omega)]
    have : k = fstC S P := by
      rcases Nat.lt_trichotomy k (fstC S P) with e | e | e
      · have := f3 k e; omega
      · exact e
      · have := h2 _ e
        have := hz _ f1
        omega
    rw [this]
    refine ⟨rfl, by omega, by omega⟩
set_option maxRecDepth 100000 in
set_option maxHeartbeats 4000000 in
theorem pspl_any {w : World} {S : St} {P : Pl} (hs : siteB S = true) {lb lc wb wc : Nat} (hL : RowI w lb S.phases.length lc (partM S)) (hW : RowI w wb S.phases.length wc (wshC S P)) : Calls Tryd.prog 30 #[.int .i64 (cycC S P), .slice (some ⟨lb, 0, none⟩) S.phases.length lc, .slice (some ⟨wb, 0, none⟩) S.phases.length wc] w fun e w' => ∃ g cp, e = .returned (.slice (some ⟨g, 0, none⟩) S.phases.length cp) ∧ w.heap.size ≤ g ∧ RowI w' g S.phases.length cp (splC S P) ∧ Kept w w' none := by
  have hn := (span_may hs).base.sh.ok.np
  have HL := Hid.mk' hL
  have HW := Hid.mk' hW
  have hlm := hL.mx
  have hwm := hW.mx
  have HSI := Hid.mk' hs
  have hcr : 0 ≤ cycC S P ∧ cycC S P ≤ 1048576 := by
    have h1 := cyc_facts hs
    have h2 := cycC_rng hs P
    have h3 := sumF_ge (f := partM S) (n := S.phases.length) (fun i hi => by have := partM_ge hs hi; omega)
    omega
  have HPS : Hid (∀ k, k ≤ S.phases.length → 0 ≤ sumF (partM S) k ∧ sumF (partM S) k ≤ 1048576) := fun k hk => by
    have h1 := cyc_facts hs
    have h2 := sumF_part (f := partM S) (n := S.phases.length) (fun i hi => by have := partM_ge hs hi; omega) hk
    omega
  have HPG : Hid (∀ k, k < S.phases.length → 1 ≤ partM S k ∧ partM S k ≤ 1048576) := fun k hk => by
    have := partM_ge hs hk
    have := part_low hs hk
    have := cyc_facts hs
    omega
  have HWR : Hid (∀ k, k < S.phases.length → 0 ≤ wshC S P k ∧ wshC S P k ≤ 1048576) := fun k hk => wsh_rng hs P hk
  have HWS : Hid (∀ k, k ≤ S.phases.length → 0 ≤ sumF (wshC S P) k ∧ sumF (wshC S P) k ≤ 8388608) := fun k hk => by
    have := sumF_bd (f := wshC S P) (M := 1048576) (by omega) (k := k) (fun i hi => wsh_rng hs P (by omega))
    have : (k : Int) ≤ 8 := by omega
    omega
  clear hL hW hs
  go_enter Tryd.func30, Tryd.ntmps30
  go_wp2
  go_loopw [7, 8, 9, 10, 20] (fun r al _ _ i wr => ∃ k : Nat, k ≤ S.phases.length ∧ i = .int .i64 k ∧ r = .int .i64 (cycC S P - sumF (partM S) k) ∧ al = .int .i64 (sumF (wshC S P) k) ∧ Kept w wr none) (fun _ _ _ _ i _ => S.phases.length - (intOf i).toNat)
  case atStart => exact ⟨0, by omega, rfl, by rw [show sumF (partM S) 0 = 0 from rfl, Int.sub_zero], rfl, Kept.refl _ _⟩
  case round =>
    obtain ⟨k, hk, rfl, rfl, rfl, hkr⟩ := hrel
    have HKR := Hid.mk' hkr
    by_cases hlt : k < S.phases.length
    · have lc_ := (HL.out.kept hkr (by simp)).cell hlt
      have wc_ := (HW.out.kept hkr (by simp)).cell hlt
      clear hkr
      have g1 := HPS.out k hk
      have g2 := HPG.out k hlt
      have g3 := HWR.out k hlt
      have g4 := HWS.out k hk
      have H1 : Hid (sumF (partM S) (k + 1) = sumF (partM S) k + partM S k) := sumF_succ _ _
      have H2 : Hid (sumF (wshC S P) (k + 1) = sumF (wshC S P) k + wshC S P k) := sumF_succ _ _
      generalize sumF (partM S) k = A at *
      generalize sumF (wshC S P) k = B at *
      generalize partM S k = x at *
      generalize wshC S P k = y at *
      go_wp2
      go_roundw
      case rel => exact ⟨k + 1, by omega, by go_num, by rw [H1.out]; go_num, by rw [H2.out], HKR.out⟩
      case measure => simp [intOf]; omega
    · obtain rfl : k = S.phases.length := by omega
      clear hkr
      have hr0 := rst_ge HSI.out P
      have ha0 := HWS.out _ (Nat.le_refl S.phases.length)
      have HR : Hid (cycC S P - sumF (partM S) S.phases.length = rstC S P) := rfl
      have HA : Hid (sumF (wshC S P) S.phases.length = allC S P) := rfl
      rw [HR.out, HA.out]
      rw [HA.out] at ha0
      go_wp2_with (go_at_call 53; refine (clone_any (HL.out.kept HKR.out (by simp)) (by omega) (by omega)).mono ?_; rintro e w1 ⟨g, cp, rfl, hg, hrow, hk1⟩)
      have HG : Hid (w.heap.size ≤ g) := Nat.le_trans HKR.out.size hg
      have HK1 := Hid.mk' (HKR.out.tr hk1)
      have HROW : Hid (RowI w1 g S.phases.length cp (spQ S P 0)) := hrow.congr (fun i hi => by unfold spQ; rw [if_neg (by omega)])
      have hcp := hrow.mx
      have HWB := Hid.mk' HW.out.lt
      have HQR := Hid.mk' (shrQ_rng HSI.out P)
      clear hg hk1 hrow hcr
      go_loopw [12, 13, 14, 15, 40] (fun lf _ _ _ i wr => ∃ k : Nat, k ≤ S.phases.length ∧ i = .int .i64 k ∧ lf = .int .i64 (rstC S P - sumF (shrQ S P) k) ∧ Kept w wr none ∧ RowI wr g S.phases.length cp (spQ S P k)) (fun _ _ _ _ i _ => S.phases.length - (intOf i).toNat)
      case atStart => exact ⟨0, by omega, rfl, by rw [show sumF (shrQ S P) 0 = 0 from rfl, Int.sub_zero], HK1.out, HROW.out⟩
      case round =>
        obtain ⟨k, hk, rfl, rfl, hkw, hrow⟩ := hrel
        have HKW := Hid.mk' hkw
        have HRO := Hid.mk' hrow
        have hlr := hrow.lt
        by_cases hlt : k < S.phases.length
        · have wc_ := (HW.out.kept hkw (by simp)).cell hlt
          have y0 := hrow.cell hlt
          have z0 := hrow.fz k
          rw [show spQ S P k k = partM S k by unfold spQ; rw [if_neg (by omega)]] at y0
          have g2 := HPG.out k hlt
          have g3 := HWR.out k hlt
          have g5 := HQR.out k hk
          have g6 := shrQ_one HSI.out P hlt
          have hm0 : 0 ≤ rstC S P * wshC S P k := Int.mul_nonneg hr0.1 g3.1
          have hm1 : rstC S P * wshC S P k ≤ 1048576 * 1048576 := Int.mul_le_mul hr0.2 g3.2 g3.1 (by omega)
          have H1 : Hid (sumF (shrQ S P) (k + 1) = sumF (shrQ S P) k + shrQ S P k) := sumF_succ _ _
          have hq : shrP (rstC S P) (allC S P) (wshC S P k) = shrQ S P k := shrP_is HSI.out P hlt
          have HSET : Hid (RowI (wr.setCell ⟨g, k, none⟩ (.int .i64 (partM S k + shrQ S P k))) g S.phases.length cp (spQ S P (k + 1))) := by
            rw [← spQ_set]
            exact hrow.set hlt _
          unfold shrP at hq
          have hmx : (if (1 : Int) > allC S P then 1 else allC S P) = max (allC S P) 1 := by split <;> omega
          have hmp : 1 ≤ max (allC S P) 1 := by omega
          have hmn : ¬ max (allC S P) 1 = 0 := by omega
          clear hkw hrow
          generalize sumF (shrQ S P) k = B at *
          generalize shrQ S P k = q at *
          generalize partM S k = x at *
          generalize hMM : rstC S P * wshC S P k = M at *
          generalize wshC S P k = y at *
          by_cases h1 : allC S P < 1
          · rw [show max (allC S P) 1 = 1 by omega] at hq
            clear hmx hmp hmn
            generalize rstC S P = r at *
            generalize allC S P = al at *
            go_wp2
            go_roundw
            case rel => exact ⟨k + 1, by omega, by go_num, by rw [H1.out]; go_num, HKW.out.setNew (p := ⟨g, k, none⟩) HG.out _, HSET.out⟩
            case measure => simp [intOf]; omega
          · rw [show max (allC S P) 1 = allC S P by omega] at hq
            clear hmx hmp hmn
            generalize rstC S P = r at *
            generalize allC S P = al at *
            have hal : ¬ al = 0 := by omega
            go_wp2
            go_roundw
            case rel => exact ⟨k + 1, by omega, by go_num, by rw [H1.out]; go_num, HKW.out.setNew (p := ⟨g, k, none⟩) HG.out _, HSET.out⟩
            case measure => simp [intOf]; omega
        · obtain rfl : k = S.phases.length := by omega
          have HIX := Hid.mk' (idxw_any (HW.out.kept hkw (by simp)) (by omega))
          have g5 := HQR.out _ (Nat.le_refl S.phases.length)
          have htk := tk_lt HSI.out P
          have HTI : Hid (∀ z : Int, ((z = -1 ∧ ∀ i, i < S.phases.length → ¬ 0 < wshC S P i) ∨ ∃ k : Nat, z = k ∧ k < S.phases.length ∧ 0 < wshC S P k ∧ ∀ i, i < k → ¬ 0 < wshC S P i) → (if z < 0 then 0 else z) = (tkQ S P : Int) ∧ -1 ≤ z ∧ z ≤ 8) := fun z h => tk_is HSI.out h
          have y0 := hrow.cell htk
          have z0 := hrow.fz (tkQ S P)
          have hq1 : 0 ≤ spQ S P S.phases.length (tkQ S P) ∧ spQ S P S.phases.length (tkQ S P) ≤ 2097152 := by
            have h1 := shrQ_one HSI.out P htk
            have h2 := HPG.out _ htk
            unfold spQ
            split <;> omega
          have HFIN : Hid (RowI (wr.setCell ⟨g, tkQ S P, none⟩ (.int .i64 (spQ S P S.phases.length (tkQ S P) + (rstC S P - sumF (shrQ S P) S.phases.length)))) g S.phases.length cp (splC S P)) := (hrow.set htk _).congr (fun i hi => by
            rw [← spl_fin hi]
            by_cases e : i = tkQ S P
            · rw [if_pos e, if_pos e, e]
            · rw [if_neg e, if_neg e])
          clear hkw hrow
          generalize spQ S P S.phases.length (tkQ S P) = u at *
          generalize sumF (shrQ S P) S.phases.length = B at *
          generalize rstC S P = r at *
          generalize tkQ S P = t at *
          go_wp2_with (go_at_call 54; refine HIX.out.mono ?_; rintro e w5 ⟨⟨z, rfl, hz⟩, hw5⟩; have hw5 := hw5.symm; subst hw5; obtain ⟨ht1, ht2, ht3⟩ := HTI.out z hz; clear hz)
          go_ret
          exact ⟨g, cp, rfl, HG.out, HFIN.out, HKW.out.setNew (p := ⟨g, t, none⟩) HG.out _⟩

end Go.Proofs.YtfhmfanmnhclfaaDoor

/-
  THE CONTRACT of plan.Clamp (made by a program).
-/
namespace Go.Proofs.YtfhmfanmnhclfaaDoor
open Go.RowKit Go.Lib Go.Deep
set_option linter.unusedVariables false
set_option linter.unusedSimpArgs false

set_option maxRecDepth 100000 in
set_option maxHeartbeats 2000000 in
theorem pclamp_no {X : Sa} {S : St} {w : World} (h : Sat w X S) (hT : Tabb w) {P : Pl} {a : Option Addr} {c : Nat} (hI : Ints w a P.splits.length c P.splits) (hs : siteB S = false) : Calls Tryd.prog 8 #[siteV X S, planV P a c] w fun e w' => e = .returned (.tuple #[.agg #[.int .i64 0, .int .i64 0, .slice none 0 0], .int .i64 50]) ∧ Kept w w' none := by
  have hce : checkE S = 50 := by unfold checkE; rw [hs]; rfl
  obtain ⟨WA, hWA⟩ : ∃ WA, (((w.alloc (.cells #[.int .i64 S.id, .slice X.g S.groups.length X.gc, .slice X.a S.apart.length X.ac, .slice X.b S.between.length X.bc, .slice X.p S.phases.length X.pc, .slice X.e S.eyes.length X.ec, .int .i64 S.watch, .int .i64 S.feed, .int .i64 S.heal, .int .i64 S.low, .int .i64 S.high, .slice X.l S.plans.length X.lc] 35)).alloc (.cells #[.int .i64 P.cycle, .int .i64 P.offset, .slice a P.splits.length c] 24)).alloc (.cells #[.int .i64 0, .int .i64 0, .slice none 0 0] 24)) = WA := ⟨_, rfl⟩
  obtain ⟨HSB, HBP, HSZ, HK, HS, HI, p0_, p1_, p2_, s0_, s1_, s2_, s3_, s4_, s5_, s6_, s7_, s8_, s9_, s10_, s11_, HBZ⟩ := hdpz h hI hWA
  have HT := Hid.mk' (hT.kept HK.out)
  have hK0 := Kept.refl WA none
  clear h hT hI
  go_enter Tryd.func8, Tryd.ntmps8
  go_wp2_with (first | rw [hWA] | (go_at_call 20; have hx := check_any HS.out HT.out; rw [hce] at hx; refine hx.mono ?_; rintro e wC ⟨rfl, hkC⟩; have hKC : Kept WA wC none := hkC; clear hx; have z0 := (HBZ.out.kept hkC).c0; have u0 := (HBZ.out.kept hkC).f0; have z1 := (HBZ.out.kept hkC).c1; have u1 := (HBZ.out.kept hkC).f1; have z2 := (HBZ.out.kept hkC).c2; have u2 := (HBZ.out.kept hkC).f2;))
  refine bodyPost_ret (v := .tuple #[.agg #[.int .i64 0, .int .i64 0, .slice none 0 0], .int .i64 50]) (by simp [results, Tryd.results8, go_sem, z0, z1, z2]) rfl ⟨rfl, ?_⟩
  exact (((HK.out.tr hkC).setNew (p := ⟨w.heap.size + 1 + 1, 0, none⟩) (by show w.heap.size ≤ w.heap.size + 1 + 1; omega) _).setNew (p := ⟨w.heap.size + 1 + 1, 1, none⟩) (by show w.heap.size ≤ w.heap.size + 1 + 1; omega) _).setNew (p := ⟨w.heap.size + 1 + 1, 2, none⟩) (by show w.heap.size ≤ w.heap.size + 1 + 1; omega) _
set_option maxRecDepth 100000 in
set_option maxHeartbeats 4000000 in
theorem pclamp_lo {X : Sa} {S : St} {w : World} (h : Sat w X S) (hT : Tabb w) {P : Pl} {a : Option Addr} {c : Nat} (hI : Ints w a P.splits.length c P.splits) (hO : i64B P.offset) (hs : siteB S = true) (hl : P.cycle < S.low) : Calls Tryd.prog 8 #[siteV X S, planV P a c] w fun e w' => ∃ g cp, e = .returned (.tuple #[.agg #[.int .i64 S.low, .int .i64 (offC S P), .slice (some ⟨g, 0, none⟩) S.phases.length cp], .int .i64 0]) ∧ w.heap.size ≤ g ∧ RowI w' g S.phases.length cp (splC S P) ∧ Kept w w' none := by
  have hce : checkE S = 0 := by unfold checkE; rw [hs]; rfl
  have hn := (span_may hs).base.sh.ok.np
  have hcf := cyc_facts hs
  have HV : Hid (cycC S P = S.low) := by show cycC S P = S.low; unfold cycC; rw [if_pos hl]
  have hv1 : 1 ≤ S.low ∧ S.low ≤ 1048576 := by
    have h1 := cycC_rng hs P
    have h2 := part_low hs (i := 0) (by omega)
    have h3 := partM_ge hs (i := 0) (by omega)
    rw [HV.out] at h1
    omega
  have HSI := Hid.mk' hs
  have HREM : Hid (∀ w' : World, Calls Tryd.prog 29 #[.int .i64 P.offset, .int .i64 S.low] w' fun e w2 => e = .returned (.int .i64 (offC S P)) ∧ w2 = w') := fun w' => by
    have hx := prem_any P.offset S.low hO hv1.1 hv1.2 w'
    rw [← HV.out] at hx ⊢
    exact hx
  obtain ⟨WA, hWA⟩ : ∃ WA, (((w.alloc (.cells #[.int .i64 S.id, .slice X.g S.groups.length X.gc, .slice X.a S.apart.length X.ac, .slice X.b S.between.length X.bc, .slice X.p S.phases.length X.pc, .slice X.e S.eyes.length X.ec, .int .i64 S.watch, .int .i64 S.feed, .int .i64 S.heal, .int .i64 S.low, .int .i64 S.high, .slice X.l S.plans.length X.lc] 35)).alloc (.cells #[.int .i64 P.cycle, .int .i64 P.offset, .slice a P.splits.length c] 24)).alloc (.cells #[.int .i64 0, .int .i64 0, .slice none 0 0] 24)) = WA := ⟨_, rfl⟩
  obtain ⟨HSB, HBP, HSZ, HK, HS, HI, p0_, p1_, p2_, s0_, s1_, s2_, s3_, s4_, s5_, s6_, s7_, s8_, s9_, s10_, s11_, HBZ⟩ := hdpz h hI hWA
  have HT := Hid.mk' (hT.kept HK.out)
  have hK0 := Kept.refl WA none
  clear h hT hI
  have hsl : S.low ≤ S.high := by omega
  clear hcf hv1 hs hO
  go_enter Tryd.func8, Tryd.ntmps8
  go_wp2_with (first | rw [hWA] | (have hgo := hKC; clear hgo; go_at_call 28; refine (pleast_any (HSB.out.kept hKC) (HT.out.kept hKC) HSI.out).mono ?_; rintro e wL ⟨rfl, hrL, hkL⟩; have hKL : Kept WA wL none := hKC.tr hkL; have HRL := Hid.mk' hrL; clear hrL) | (go_at_call 20; have hx := check_any HS.out HT.out; rw [hce] at hx; refine hx.mono ?_; rintro e wC ⟨rfl, hkC⟩; have hKC : Kept WA wC none := hkC; clear hx; ))
  have HKL := Hid.mk' hKL
  have hlC : w.heap.size + 1 + 1 < wC.heap.size := Nat.lt_of_lt_of_le HBZ.out.lt hKC.size
  have HWI : Hid (∀ w', Kept wL w' none → Calls Tryd.prog 31 #[.pointer (some ⟨w.heap.size, 0, none⟩), .slice (some ⟨wC.heap.size, 0, none⟩) S.phases.length S.phases.length, .slice a P.splits.length c] w' fun e w2 => e = .returned (.slice (some ⟨w'.heap.size, 0, none⟩) S.phases.length S.phases.length) ∧ RowI w2 w'.heap.size S.phases.length S.phases.length (wshC S P) ∧ Kept w' w2 none) := fun w' q => pwish_any ((HSB.out.kept HKL.out).kept q) HSI.out (HRL.out.kept q (by simp)) ((HI.out.kept HKL.out).kept q)
  have HSP : Hid (∀ w' wb, Kept wL w' none → RowI w' wb S.phases.length S.phases.length (wshC S P) → Calls Tryd.prog 30 #[.int .i64 S.low, .slice (some ⟨wC.heap.size, 0, none⟩) S.phases.length S.phases.length, .slice (some ⟨wb, 0, none⟩) S.phases.length S.phases.length] w' fun e w2 => ∃ g cp, e = .returned (.slice (some ⟨g, 0, none⟩) S.phases.length cp) ∧ w'.heap.size ≤ g ∧ RowI w2 g S.phases.length cp (splC S P) ∧ Kept w' w2 none) := fun w' wb q hb => by
    have hx := pspl_any (w := w') HSI.out (HRL.out.kept q (by simp)) hb
    rw [HV.out] at hx
    exact hx
  have HSS : Hid (∀ w', Kept wL w' none → Kept w w' none ∧ w'.cell? ⟨w.heap.size + 1, 1, none⟩ = some (.int .i64 P.offset) ∧ w'.cell? ⟨w.heap.size + 1, 2, none⟩ = some (.slice a P.splits.length c)) := fun w' q => ⟨HK.out.tr (HKL.out.tr q), (HBP.out.kept (HKL.out.tr q)).c1, (HBP.out.kept (HKL.out.tr q)).c2⟩
  have HZ9 : Hid (∀ w', Kept wL w' none → Box w' (w.heap.size + 1 + 1) (.int .i64 0) (.int .i64 0) (.slice none 0 0)) := fun w' q => HBZ.out.kept (HKL.out.tr q)
  have hH0 := HSS.out wL.drew (Kept.drew _ _)
  have HST : Hid (∀ (wS : World) (v0 v1 v2 : Value), Kept w wS none ∧ wS.cell? ⟨w.heap.size + 1, 1, none⟩ = some (.int .i64 P.offset) ∧ wS.cell? ⟨w.heap.size + 1, 2, none⟩ = some (.slice a P.splits.length c) → Kept w (((wS.setCell ⟨w.heap.size + 1 + 1, 0, none⟩ (v0)).setCell ⟨w.heap.size + 1 + 1, 1, none⟩ (v1)).setCell ⟨w.heap.size + 1 + 1, 2, none⟩ (v2)) none ∧ (((wS.setCell ⟨w.heap.size + 1 + 1, 0, none⟩ (v0)).setCell ⟨w.heap.size + 1 + 1, 1, none⟩ (v1)).setCell ⟨w.heap.size + 1 + 1, 2, none⟩ (v2)).cell? ⟨w.heap.size + 1, 1, none⟩ = some (.int .i64 P.offset) ∧ (((wS.setCell ⟨w.heap.size + 1 + 1, 0, none⟩ (v0)).setCell ⟨w.heap.size + 1 + 1, 1, none⟩ (v1)).setCell ⟨w.heap.size + 1 + 1, 2, none⟩ (v2)).cell? ⟨w.heap.size + 1, 2, none⟩ = some (.slice a P.splits.length c)) := fun wS v0 v1 v2 ⟨h1, h2, h3⟩ =>
    ⟨(((h1).setNew (p := ⟨w.heap.size + 1 + 1, 0, none⟩) (by show w.heap.size ≤ w.heap.size + 1 + 1; omega) _).setNew (p := ⟨w.heap.size + 1 + 1, 1, none⟩) (by show w.heap.size ≤ w.heap.size + 1 + 1; omega) _).setNew (p := ⟨w.heap.size + 1 + 1, 2, none⟩) (by show w.heap.size ≤ w.heap.size + 1 + 1; omega) _, (World.cell?_setCell_far _ _ _ _ (by simp)).trans ((World.cell?_setCell_far _ _ _ _ (by simp)).trans ((World.cell?_setCell_far _ _ _ _ (by simp)).trans h2)), (World.cell?_setCell_far _ _ _ _ (by simp)).trans ((World.cell?_setCell_far _ _ _ _ (by simp)).trans ((World.cell?_setCell_far _ _ _ _ (by simp)).trans h3))⟩
  clear hkL hKL hkC hKC hK0 s0_ s1_ s2_ s3_ s4_ s5_ s6_ s7_ s8_ s9_ s10_ s11_ p0_ p1_ p2_
  go_region_held (fun w' => Kept w w' none ∧ w'.cell? ⟨w.heap.size + 1, 1, none⟩ = some (.int .i64 P.offset) ∧ w'.cell? ⟨w.heap.size + 1, 2, none⟩ = some (.slice a P.splits.length c))
    ((first | exact hH0 | assumption | exact HST.out _ _ _ _ hHS))
    ((first
      | (have hgo := HWR9; clear hgo; go_at_call 30; refine (HSP.out _ _ (by assumption) HWR9.out).mono ?_; rintro e wS ⟨g, cp, rfl, hg, hrow, hkS⟩; have hKS : Kept wL wS none := hKW.tr hkS; have HR9 := Hid.mk' hrow; have hgL := Hid.mk' (Nat.le_trans hKW.size hg); have hHS : Kept w wS none ∧ wS.cell? ⟨w.heap.size + 1, 1, none⟩ = some (.int .i64 P.offset) ∧ wS.cell? ⟨w.heap.size + 1, 2, none⟩ = some (.slice a P.splits.length c) := HSS.out _ hKS; have z0 := (HZ9.out _ hKS).c0; have z1 := (HZ9.out _ hKS).c1; have z2 := (HZ9.out _ hKS).c2; have u0 := (HZ9.out _ hKS).f0; have u1 := (HZ9.out _ hKS).f1; have u2 := (HZ9.out _ hKS).f2; clear hrow)
      | (go_at_call 31; refine (HWI.out _ (Kept.drew _ _)).mono ?_; rintro e wW ⟨rfl, hrW, hkW⟩; have hKW : Kept wL wW none := (Kept.drew _ _).tr hkW; have HWR9 := Hid.mk' hrW; have hHW : Kept w wW none ∧ wW.cell? ⟨w.heap.size + 1, 1, none⟩ = some (.int .i64 P.offset) ∧ wW.cell? ⟨w.heap.size + 1, 2, none⟩ = some (.slice a P.splits.length c) := HSS.out _ hKW; clear hrW)
      | (go_at_call 29; refine (HREM.out _).mono ?_; rintro e wR ⟨rfl, rfl⟩)))
  all_goals
    go_wp2
    refine bodyPost_ret (v := .tuple #[.agg #[.int .i64 S.low, .int .i64 (offC S P), .slice (some ⟨g, 0, none⟩) S.phases.length cp], .int .i64 0]) (by simp [results, Tryd.results8, go_sem, z0, z1, z2]) rfl ⟨g, cp, rfl, ?_, ?_, ?_⟩
    · exact Nat.le_trans (HK.out.tr HKL.out).size hgL.out
    · have hLs := HKL.out.size
      have hlz := HBZ.out.lt
      have hgl := hgL.out
      have kz : Kept wS (((wS.setCell ⟨w.heap.size + 1 + 1, 0, none⟩ (.int .i64 S.low)).setCell ⟨w.heap.size + 1 + 1, 1, none⟩ (.int .i64 (offC S P))).setCell ⟨w.heap.size + 1 + 1, 2, none⟩ (.slice (some ⟨g, 0, none⟩) S.phases.length cp)) (some (w.heap.size + 1 + 1)) := (((Kept.refl wS (some (w.heap.size + 1 + 1))).setRow _ _).setRow _ _).setRow _ _
      exact HR9.out.kept kz (fun e => by have e : g = w.heap.size + 1 + 1 := Option.some.inj e; omega)
    · exact (((hHS.1).setNew (p := ⟨w.heap.size + 1 + 1, 0, none⟩) (by show w.heap.size ≤ w.heap.size + 1 + 1; omega) _).setNew (p := ⟨w.heap.size + 1 + 1, 1, none⟩) (by show w.heap.size ≤ w.heap.size + 1 + 1; omega) _).setNew (p := ⟨w.heap.size + 1 + 1, 2, none⟩) (by show w.heap.size ≤ w.heap.size + 1 + 1; omega) _
set_option maxRecDepth 100000 in
set_option maxHeartbeats 4000000 in
theorem pclamp_hi {X : Sa} {S : St} {w : World} (h : Sat w X S) (hT : Tabb w) {P : Pl} {a : Option Addr} {c : Nat} (hI : Ints w a P.splits.length c P.splits) (hO : i64B P.offset) (hs : siteB S = true) (hl : ¬ P.cycle < S.low) (hh : S.high < P.cycle) : Calls Tryd.prog 8 #[siteV X S, planV P a c] w fun e w' => ∃ g cp, e = .returned (.tuple #[.agg #[.int .i64 S.high, .int .i64 (offC S P), .slice (some ⟨g, 0, none⟩) S.phases.length cp], .int .i64 0]) ∧ w.heap.size ≤ g ∧ RowI w' g S.phases.length cp (splC S P) ∧ Kept w w' none := by
  have hce : checkE S = 0 := by unfold checkE; rw [hs]; rfl
  have hn := (span_may hs).base.sh.ok.np
  have hcf := cyc_facts hs
  have HV : Hid (cycC S P = S.high) := by show cycC S P = S.high; unfold cycC; rw [if_neg hl, if_pos hh]
  have hv1 : 1 ≤ S.high ∧ S.high ≤ 1048576 := by
    have h1 := cycC_rng hs P
    have h2 := part_low hs (i := 0) (by omega)
    have h3 := partM_ge hs (i := 0) (by omega)
    rw [HV.out] at h1
    omega
  have HSI := Hid.mk' hs
  have HREM : Hid (∀ w' : World, Calls Tryd.prog 29 #[.int .i64 P.offset, .int .i64 S.high] w' fun e w2 => e = .returned (.int .i64 (offC S P)) ∧ w2 = w') := fun w' => by
    have hx := prem_any P.offset S.high hO hv1.1 hv1.2 w'
    rw [← HV.out] at hx ⊢
    exact hx
  obtain ⟨WA, hWA⟩ : ∃ WA, (((w.alloc (.cells #[.int .i64 S.id, .slice X.g S.groups.length X.gc, .slice X.a S.apart.length X.ac, .slice X.b S.between.length X.bc, .slice X.p S.phases.length X.pc, .slice X.e S.eyes.length X.ec, .int .i64 S.watch, .int .i64 S.feed, .int .i64 S.heal, .int .i64 S.low, .int .i64 S.high, .slice X.l S.plans.length X.lc] 35)).alloc (.cells #[.int .i64 P.cycle, .int .i64 P.offset, .slice a P.splits.length c] 24)).alloc (.cells #[.int .i64 0, .int .i64 0, .slice none 0 0] 24)) = WA := ⟨_, rfl⟩
  obtain ⟨HSB, HBP, HSZ, HK, HS, HI, p0_, p1_, p2_, s0_, s1_, s2_, s3_, s4_, s5_, s6_, s7_, s8_, s9_, s10_, s11_, HBZ⟩ := hdpz h hI hWA
  have HT := Hid.mk' (hT.kept HK.out)
  have hK0 := Kept.refl WA none
  clear h hT hI
  have hsl : S.low ≤ S.high := by omega
  clear hcf hv1 hs hO
  go_enter Tryd.func8, Tryd.ntmps8
  go_wp2_with (first | rw [hWA] | (have hgo := hKC; clear hgo; go_at_call 28; refine (pleast_any (HSB.out.kept hKC) (HT.out.kept hKC) HSI.out).mono ?_; rintro e wL ⟨rfl, hrL, hkL⟩; have hKL : Kept WA wL none := hKC.tr hkL; have HRL := Hid.mk' hrL; clear hrL) | (go_at_call 20; have hx := check_any HS.out HT.out; rw [hce] at hx; refine hx.mono ?_; rintro e wC ⟨rfl, hkC⟩; have hKC : Kept WA wC none := hkC; clear hx; ))
  have HKL := Hid.mk' hKL
  have hlC : w.heap.size + 1 + 1 < wC.heap.size := Nat.lt_of_lt_of_le HBZ.out.lt hKC.size
  have HWI : Hid (∀ w', Kept wL w' none → Calls Tryd.prog 31 #[.pointer (some ⟨w.heap.size, 0, none⟩), .slice (some ⟨wC.heap.size, 0, none⟩) S.phases.length S.phases.length, .slice a P.splits.length c] w' fun e w2 => e = .returned (.slice (some ⟨w'.heap.size, 0, none⟩) S.phases.length S.phases.length) ∧ RowI w2 w'.heap.size S.phases.length S.phases.length (wshC S P) ∧ Kept w' w2 none) := fun w' q => pwish_any ((HSB.out.kept HKL.out).kept q) HSI.out (HRL.out.kept q (by simp)) ((HI.out.kept HKL.out).kept q)
  have HSP : Hid (∀ w' wb, Kept wL w' none → RowI w' wb S.phases.length S.phases.length (wshC S P) → Calls Tryd.prog 30 #[.int .i64 S.high, .slice (some ⟨wC.heap.size, 0, none⟩) S.phases.length S.phases.length, .slice (some ⟨wb, 0, none⟩) S.phases.length S.phases.length] w' fun e w2 => ∃ g cp, e = .returned (.slice (some ⟨g, 0, none⟩) S.phases.length cp) ∧ w'.heap.size ≤ g ∧ RowI w2 g S.phases.length cp (splC S P) ∧ Kept w' w2 none) := fun w' wb q hb => by
    have hx := pspl_any (w := w') HSI.out (HRL.out.kept q (by simp)) hb
    rw [HV.out] at hx
    exact hx
  have HSS : Hid (∀ w', Kept wL w' none → Kept w w' none ∧ w'.cell? ⟨w.heap.size + 1, 1, none⟩ = some (.int .i64 P.offset) ∧ w'.cell? ⟨w.heap.size + 1, 2, none⟩ = some (.slice a P.splits.length c)) := fun w' q => ⟨HK.out.tr (HKL.out.tr q), (HBP.out.kept (HKL.out.tr q)).c1, (HBP.out.kept (HKL.out.tr q)).c2⟩
  have HZ9 : Hid (∀ w', Kept wL w' none → Box w' (w.heap.size + 1 + 1) (.int .i64 0) (.int .i64 0) (.slice none 0 0)) := fun w' q => HBZ.out.kept (HKL.out.tr q)
  have hH0 := HSS.out wL.drew (Kept.drew _ _)
  have HST : Hid (∀ (wS : World) (v0 v1 v2 : Value), Kept w wS none ∧ wS.cell? ⟨w.heap.size + 1, 1, none⟩ = some (.int .i64 P.offset) ∧ wS.cell? ⟨w.heap.size + 1, 2, none⟩ = some (.slice a P.splits.length c) → Kept w (((wS.setCell ⟨w.heap.size + 1 + 1, 0, none⟩ (v0)).setCell ⟨w.heap.size + 1 + 1, 1, none⟩ (v1)).setCell ⟨w.heap.size + 1 + 1, 2, none⟩ (v2)) none ∧ (((wS.setCell ⟨w.heap.size + 1 + 1, 0, none⟩ (v0)).setCell ⟨w.heap.size + 1 + 1, 1, none⟩ (v1)).setCell ⟨w.heap.size + 1 + 1, 2, none⟩ (v2)).cell? ⟨w.heap.size + 1, 1, none⟩ = some (.int .i64 P.offset) ∧ (((wS.setCell ⟨w.heap.size + 1 + 1, 0, none⟩ (v0)).setCell ⟨w.heap.size + 1 + 1, 1, none⟩ (v1)).setCell ⟨w.heap.size + 1 + 1, 2, none⟩ (v2)).cell? ⟨w.heap.size + 1, 2, none⟩ = some (.slice a P.splits.length c)) := fun wS v0 v1 v2 ⟨h1, h2, h3⟩ =>
    ⟨(((h1).setNew (p := ⟨w.heap.size + 1 + 1, 0, none⟩) (by show w.heap.size ≤ w.heap.size + 1 + 1; omega) _).setNew (p := ⟨w.heap.size + 1 + 1, 1, none⟩) (by show w.heap.size ≤ w.heap.size + 1 + 1; omega) _).setNew (p := ⟨w.heap.size + 1 + 1, 2, none⟩) (by show w.heap.size ≤ w.heap.size + 1 + 1; omega) _, (World.cell?_setCell_far _ _ _ _ (by simp)).trans ((World.cell?_setCell_far _ _ _ _ (by simp)).trans ((World.cell?_setCell_far _ _ _ _ (by simp)).trans h2)), (World.cell?_setCell_far _ _ _ _ (by simp)).trans ((World.cell?_setCell_far _ _ _ _ (by simp)).trans ((World.cell?_setCell_far _ _ _ _ (by simp)).trans h3))⟩
  clear hkL hKL hkC hKC hK0 s0_ s1_ s2_ s3_ s4_ s5_ s6_ s7_ s8_ s9_ s10_ s11_ p0_ p1_ p2_
  go_region_held (fun w' => Kept w w' none ∧ w'.cell? ⟨w.heap.size + 1, 1, none⟩ = some (.int .i64 P.offset) ∧ w'.cell? ⟨w.heap.size + 1, 2, none⟩ = some (.slice a P.splits.length c))
    ((first | exact hH0 | assumption | exact HST.out _ _ _ _ hHS))
    ((first
      | (have hgo := HWR9; clear hgo; go_at_call 30; refine (HSP.out _ _ (by assumption) HWR9.out).mono ?_; rintro e wS ⟨g, cp, rfl, hg, hrow, hkS⟩; have hKS : Kept wL wS none := hKW.tr hkS; have HR9 := Hid.mk' hrow; have hgL := Hid.mk' (Nat.le_trans hKW.size hg); have hHS : Kept w wS none ∧ wS.cell? ⟨w.heap.size + 1, 1, none⟩ = some (.int .i64 P.offset) ∧ wS.cell? ⟨w.heap.size + 1, 2, none⟩ = some (.slice a P.splits.length c) := HSS.out _ hKS; have z0 := (HZ9.out _ hKS).c0; have z1 := (HZ9.out _ hKS).c1; have z2 := (HZ9.out _ hKS).c2; have u0 := (HZ9.out _ hKS).f0; have u1 := (HZ9.out _ hKS).f1; have u2 := (HZ9.out _ hKS).f2; clear hrow)
      | (go_at_call 31; refine (HWI.out _ (Kept.drew _ _)).mono ?_; rintro e wW ⟨rfl, hrW, hkW⟩; have hKW : Kept wL wW none := (Kept.drew _ _).tr hkW; have HWR9 := Hid.mk' hrW; have hHW : Kept w wW none ∧ wW.cell? ⟨w.heap.size + 1, 1, none⟩ = some (.int .i64 P.offset) ∧ wW.cell? ⟨w.heap.size + 1, 2, none⟩ = some (.slice a P.splits.length c) := HSS.out _ hKW; clear hrW)
      | (go_at_call 29; refine (HREM.out _).mono ?_; rintro e wR ⟨rfl, rfl⟩)))
  all_goals
    go_wp2
    refine bodyPost_ret (v := .tuple #[.agg #[.int .i64 S.high, .int .i64 (offC S P), .slice (some ⟨g, 0, none⟩) S.phases.length cp], .int .i64 0]) (by simp [results, Tryd.results8, go_sem, z0, z1, z2]) rfl ⟨g, cp, rfl, ?_, ?_, ?_⟩
    · exact Nat.le_trans (HK.out.tr HKL.out).size hgL.out
    · have hLs := HKL.out.size
      have hlz := HBZ.out.lt
      have hgl := hgL.out
      have kz : Kept wS (((wS.setCell ⟨w.heap.size + 1 + 1, 0, none⟩ (.int .i64 S.high)).setCell ⟨w.heap.size + 1 + 1, 1, none⟩ (.int .i64 (offC S P))).setCell ⟨w.heap.size + 1 + 1, 2, none⟩ (.slice (some ⟨g, 0, none⟩) S.phases.length cp)) (some (w.heap.size + 1 + 1)) := (((Kept.refl wS (some (w.heap.size + 1 + 1))).setRow _ _).setRow _ _).setRow _ _
      exact HR9.out.kept kz (fun e => by have e : g = w.heap.size + 1 + 1 := Option.some.inj e; omega)
    · exact (((hHS.1).setNew (p := ⟨w.heap.size + 1 + 1, 0, none⟩) (by show w.heap.size ≤ w.heap.size + 1 + 1; omega) _).setNew (p := ⟨w.heap.size + 1 + 1, 1, none⟩) (by show w.heap.size ≤ w.heap.size + 1 + 1; omega) _).setNew (p := ⟨w.heap.size + 1 + 1, 2, none⟩) (by show w.heap.size ≤ w.heap.size + 1 + 1; omega) _
set_option maxRecDepth 100000 in
set_option maxHeartbeats 4000000 in
theorem pclamp_in {X : Sa} {S : St} {w : World} (h : Sat w X S) (hT : Tabb w) {P : Pl} {a : Option Addr} {c : Nat} (hI : Ints w a P.splits.length c P.splits) (hO : i64B P.offset) (hs : siteB S = true) (hl : ¬ P.cycle < S.low) (hh : ¬ S.high < P.cycle) : Calls Tryd.prog 8 #[siteV X S, planV P a c] w fun e w' => ∃ g cp, e = .returned (.tuple #[.agg #[.int .i64 P.cycle, .int .i64 (offC S P), .slice (some ⟨g, 0, none⟩) S.phases.length cp], .int .i64 0]) ∧ w.heap.size ≤ g ∧ RowI w' g S.phases.length cp (splC S P) ∧ Kept w w' none := by
  have hce : checkE S = 0 := by unfold checkE; rw [hs]; rfl
  have hn := (span_may hs).base.sh.ok.np
  have hcf := cyc_facts hs
  have HV : Hid (cycC S P = P.cycle) := by show cycC S P = P.cycle; unfold cycC; rw [if_neg hl, if_neg hh]
  have hv1 : 1 ≤ P.cycle ∧ P.cycle ≤ 1048576 := by
    have h1 := cycC_rng hs P
    have h2 := part_low hs (i := 0) (by omega)
    have h3 := partM_ge hs (i := 0) (by omega)
    rw [HV.out] at h1
    omega
  have HSI := Hid.mk' hs
  have HREM : Hid (∀ w' : World, Calls Tryd.prog 29 #[.int .i64 P.offset, .int .i64 P.cycle] w' fun e w2 => e = .returned (.int .i64 (offC S P)) ∧ w2 = w') := fun w' => by
    have hx := prem_any P.offset P.cycle hO hv1.1 hv1.2 w'
    rw [← HV.out] at hx ⊢
    exact hx
  obtain ⟨WA, hWA⟩ : ∃ WA, (((w.alloc (.cells #[.int .i64 S.id, .slice X.g S.groups.length X.gc, .slice X.a S.apart.length X.ac, .slice X.b S.between.length X.bc, .slice X.p S.phases.length X.pc, .slice X.e S.eyes.length X.ec, .int .i64 S.watch, .int .i64 S.feed, .int .i64 S.heal, .int .i64 S.low, .int .i64 S.high, .slice X.l S.plans.length X.lc] 35)).alloc (.cells #[.int .i64 P.cycle, .int .i64 P.offset, .slice a P.splits.length c] 24)).alloc (.cells #[.int .i64 0, .int .i64 0, .slice none 0 0] 24)) = WA := ⟨_, rfl⟩
  obtain ⟨HSB, HBP, HSZ, HK, HS, HI, p0_, p1_, p2_, s0_, s1_, s2_, s3_, s4_, s5_, s6_, s7_, s8_, s9_, s10_, s11_, HBZ⟩ := hdpz h hI hWA
  have HT := Hid.mk' (hT.kept HK.out)
  have hK0 := Kept.refl WA none
  clear h hT hI
  have hsl : S.low ≤ S.high := by omega
  clear hcf hv1 hs hO
  go_enter Tryd.func8, Tryd.ntmps8
  go_wp2_with (first | rw [hWA] | (have hgo := hKC; clear hgo; go_at_call 28; refine (pleast_any (HSB.out.kept hKC) (HT.out.kept hKC) HSI.out).mono ?_; rintro e wL ⟨rfl, hrL, hkL⟩; have hKL : Kept WA wL none := hKC.tr hkL; have HRL := Hid.mk' hrL; clear hrL) | (go_at_call 20; have hx := check_any HS.out HT.out; rw [hce] at hx; refine hx.mono ?_; rintro e wC ⟨rfl, hkC⟩; have hKC : Kept WA wC none := hkC; clear hx; ))
  have HKL := Hid.mk' hKL
  have hlC : w.heap.size + 1 + 1 < wC.heap.size := Nat.lt_of_lt_of_le HBZ.out.lt hKC.size
  have HWI : Hid (∀ w', Kept wL w' none → Calls Tryd.prog 31 #[.pointer (some ⟨w.heap.size, 0, none⟩), .slice (some ⟨wC.heap.size, 0, none⟩) S.phases.length S.phases.length, .slice a P.splits.length c] w' fun e w2 => e = .returned (.slice (some ⟨w'.heap.size, 0, none⟩) S.phases.length S.phases.length) ∧ RowI w2 w'.heap.size S.phases.length S.phases.length (wshC S P) ∧ Kept w' w2 none) := fun w' q => pwish_any ((HSB.out.kept HKL.out).kept q) HSI.out (HRL.out.kept q (by simp)) ((HI.out.kept HKL.out).kept q)
  have HSP : Hid (∀ w' wb, Kept wL w' none → RowI w' wb S.phases.length S.phases.length (wshC S P) → Calls Tryd.prog 30 #[.int .i64 P.cycle, .slice (some ⟨wC.heap.size, 0, none⟩) S.phases.length S.phases.length, .slice (some ⟨wb, 0, none⟩) S.phases.length S.phases.length] w' fun e w2 => ∃ g cp, e = .returned (.slice (some ⟨g, 0, none⟩) S.phases.length cp) ∧ w'.heap.size ≤ g ∧ RowI w2 g S.phases.length cp (splC S P) ∧ Kept w' w2 none) := fun w' wb q hb => by
    have hx := pspl_any (w := w') HSI.out (HRL.out.kept q (by simp)) hb
    rw [HV.out] at hx
    exact hx
  have HSS : Hid (∀ w', Kept wL w' none → Kept w w' none ∧ w'.cell? ⟨w.heap.size + 1, 1, none⟩ = some (.int .i64 P.offset) ∧ w'.cell? ⟨w.heap.size + 1, 2, none⟩ = some (.slice a P.splits.length c)) := fun w' q => ⟨HK.out.tr (HKL.out.tr q), (HBP.out.kept (HKL.out.tr q)).c1, (HBP.out.kept (HKL.out.tr q)).c2⟩
  have HZ9 : Hid (∀ w', Kept wL w' none → Box w' (w.heap.size + 1 + 1) (.int .i64 0) (.int .i64 0) (.slice none 0 0)) := fun w' q => HBZ.out.kept (HKL.out.tr q)
  have hH0 := HSS.out wL.drew (Kept.drew _ _)
  have HST : Hid (∀ (wS : World) (v0 v1 v2 : Value), Kept w wS none ∧ wS.cell? ⟨w.heap.size + 1, 1, none⟩ = some (.int .i64 P.offset) ∧ wS.cell? ⟨w.heap.size + 1, 2, none⟩ = some (.slice a P.splits.length c) → Kept w (((wS.setCell ⟨w.heap.size + 1 + 1, 0, none⟩ (v0)).setCell ⟨w.heap.size + 1 + 1, 1, none⟩ (v1)).setCell ⟨w.heap.size + 1 + 1, 2, none⟩ (v2)) none ∧ (((wS.setCell ⟨w.heap.size + 1 + 1, 0, none⟩ (v0)).setCell ⟨w.heap.size + 1 + 1, 1, none⟩ (v1)).setCell ⟨w.heap.size + 1 + 1, 2, none⟩ (v2)).cell? ⟨w.heap.size + 1, 1, none⟩ = some (.int .i64 P.offset) ∧ (((wS.setCell ⟨w.heap.size + 1 + 1, 0, none⟩ (v0)).setCell ⟨w.heap.size + 1 + 1, 1, none⟩ (v1)).setCell ⟨w.heap.size + 1 + 1, 2, none⟩ (v2)).cell? ⟨w.heap.size + 1, 2, none⟩ = some (.slice a P.splits.length c)) := fun wS v0 v1 v2 ⟨h1, h2, h3⟩ =>
    ⟨(((h1).setNew (p := ⟨w.heap.size + 1 + 1, 0, none⟩) (by show w.heap.size ≤ w.heap.size + 1 + 1; omega) _).setNew (p := ⟨w.heap.size + 1 + 1, 1, none⟩) (by show w.heap.size ≤ w.heap.size + 1 + 1; omega) _).setNew (p := ⟨w.heap.size + 1 + 1, 2, none⟩) (by show w.heap.size ≤ w.heap.size + 1 + 1; omega) _, (World.cell?_setCell_far _ _ _ _ (by simp)).trans ((World.cell?_setCell_far _ _ _ _ (by simp)).trans ((World.cell?_setCell_far _ _ _ _ (by simp)).trans h2)), (World.cell?_setCell_far _ _ _ _ (by simp)).trans ((World.cell?_setCell_far _ _ _ _ (by simp)).trans ((World.cell?_setCell_far _ _ _ _ (by simp)).trans h3))⟩
  clear hkL hKL hkC hKC hK0 s0_ s1_ s2_ s3_ s4_ s5_ s6_ s7_ s8_ s9_ s10_ s11_ p0_ p1_ p2_
  go_region_held (fun w' => Kept w w' none ∧ w'.cell? ⟨w.heap.size + 1, 1, none⟩ = some (.int .i64 P.offset) ∧ w'.cell? ⟨w.heap.size + 1, 2, none⟩ = some (.slice a P.splits.length c))
    ((first | exact hH0 | assumption | exact HST.out _ _ _ _ hHS))
    ((first
      | (have hgo := HWR9; clear hgo; go_at_call 30; refine (HSP.out _ _ (by assumption) HWR9.out).mono ?_; rintro e wS ⟨g, cp, rfl, hg, hrow, hkS⟩; have hKS : Kept wL wS none := hKW.tr hkS; have HR9 := Hid.mk' hrow; have hgL := Hid.mk' (Nat.le_trans hKW.size hg); have hHS : Kept w wS none ∧ wS.cell? ⟨w.heap.size + 1, 1, none⟩ = some (.int .i64 P.offset) ∧ wS.cell? ⟨w.heap.size + 1, 2, none⟩ = some (.slice a P.splits.length c) := HSS.out _ hKS; have z0 := (HZ9.out _ hKS).c0; have z1 := (HZ9.out _ hKS).c1; have z2 := (HZ9.out _ hKS).c2; have u0 := (HZ9.out _ hKS).f0; have u1 := (HZ9.out _ hKS).f1; have u2 := (HZ9.out _ hKS).f2; clear hrow)
      | (go_at_call 31; refine (HWI.out _ (Kept.drew _ _)).mono ?_; rintro e wW ⟨rfl, hrW, hkW⟩; have hKW : Kept wL wW none := (Kept.drew _ _).tr hkW; have HWR9 := Hid.mk' hrW; have hHW : Kept w wW none ∧ wW.cell? ⟨w.heap.size + 1, 1, none⟩ = some (.int .i64 P.offset) ∧ wW.cell? ⟨w.heap.size + 1, 2, none⟩ = some (.slice a P.splits.length c) := HSS.out _ hKW; clear hrW)
      | (go_at_call 29; refine (HREM.out _).mono ?_; rintro e wR ⟨rfl, rfl⟩)))
  all_goals
    go_wp2
    refine bodyPost_ret (v := .tuple #[.agg #[.int .i64 P.cycle, .int .i64 (offC S P), .slice (some ⟨g, 0, none⟩) S.phases.length cp], .int .i64 0]) (by simp [results, Tryd.results8, go_sem, z0, z1, z2]) rfl ⟨g, cp, rfl, ?_, ?_, ?_⟩
    · exact Nat.le_trans (HK.out.tr HKL.out).size hgL.out
    · have hLs := HKL.out.size
      have hlz := HBZ.out.lt
      have hgl := hgL.out
      have kz : Kept wS (((wS.setCell ⟨w.heap.size + 1 + 1, 0, none⟩ (.int .i64 P.cycle)).setCell ⟨w.heap.size + 1 + 1, 1, none⟩ (.int .i64 (offC S P))).setCell ⟨w.heap.size + 1 + 1, 2, none⟩ (.slice (some ⟨g, 0, none⟩) S.phases.length cp)) (some (w.heap.size + 1 + 1)) := (((Kept.refl wS (some (w.heap.size + 1 + 1))).setRow _ _).setRow _ _).setRow _ _
      exact HR9.out.kept kz (fun e => by have e : g = w.heap.size + 1 + 1 := Option.some.inj e; omega)
    · exact (((hHS.1).setNew (p := ⟨w.heap.size + 1 + 1, 0, none⟩) (by show w.heap.size ≤ w.heap.size + 1 + 1; omega) _).setNew (p := ⟨w.heap.size + 1 + 1, 1, none⟩) (by show w.heap.size ≤ w.heap.size + 1 + 1; omega) _).setNew (p := ⟨w.heap.size + 1 + 1, 2, none⟩) (by show w.heap.size ≤ w.heap.size + 1 + 1; omega) _

/-- Clamp of a site that may be. -/
theorem pclamp_yes {X : Sa} {S : St} {w : World} (h : Sat w X S) (hT : Tabb w) {P : Pl} {a : Option Addr} {c : Nat} (hI : Ints w a P.splits.length c P.splits) (hO : i64B P.offset) (hs : siteB S = true) : Calls Tryd.prog 8 #[siteV X S, planV P a c] w fun e w' => ∃ g cp, e = .returned (.tuple #[.agg #[.int .i64 (cycC S P), .int .i64 (offC S P), .slice (some ⟨g, 0, none⟩) S.phases.length cp], .int .i64 0]) ∧ w.heap.size ≤ g ∧ RowI w' g S.phases.length cp (splC S P) ∧ Kept w w' none := by
  by_cases hl : P.cycle < S.low
  · rw [show cycC S P = S.low by unfold cycC; rw [if_pos hl]]
    exact pclamp_lo h hT hI hO hs hl
  · by_cases hh : S.high < P.cycle
    · rw [show cycC S P = S.high by unfold cycC; rw [if_neg hl, if_pos hh]]
      exact pclamp_hi h hT hI hO hs hl hh
    · rw [show cycC S P = P.cycle by unfold cycC; rw [if_neg hl, if_neg hh]]
      exact pclamp_in h hT hI hO hs hl hh

end Go.Proofs.YtfhmfanmnhclfaaDoor

/-
  THE STATEMENTS' same and is, the document's Same: plans that are the same are told so (made by a program).
-/
namespace Go.Proofs.YtfhmfanmnhclfaaDoor
open Go.RowKit Go.Lib Go.Deep
set_option linter.unusedVariables false
set_option linter.unusedSimpArgs false

set_option maxRecDepth 100000 in
set_option maxHeartbeats 2000000 in
theorem psame_yes {w : World} {P : Pl} {a a' : Option Addr} {c c' : Nat} (h1 : Ints w a P.splits.length c P.splits) (h2 : Ints w a' P.splits.length c' P.splits) : Calls Tryd.prog 19 #[planV P a c, planV P a' c'] w fun e w' => e = .returned (.bool true) ∧ Kept w w' none := by
  have k1 : Kept w ((w.alloc (.cells #[.int .i64 P.cycle, .int .i64 P.offset, .slice a P.splits.length c] 24)).alloc (.cells #[.int .i64 P.cycle, .int .i64 P.offset, .slice a' P.splits.length c'] 24)) none := (Kept.alloc _ _ _ _ _).tr (Kept.alloc _ _ _ _ _)
  have b1 := (box_alloc w (.int .i64 P.cycle) (.int .i64 P.offset) (.slice a P.splits.length c) 24).kept (Kept.alloc _ #[.int .i64 P.cycle, .int .i64 P.offset, .slice a' P.splits.length c'] 24 (0, 0) none)
  have b2 := box_alloc (w.alloc (.cells #[.int .i64 P.cycle, .int .i64 P.offset, .slice a P.splits.length c] 24)) (.int .i64 P.cycle) (.int .i64 P.offset) (.slice a' P.splits.length c') 24
  rw [World.size_alloc] at b2
  have hn : P.splits.length ≤ 9223372036854775807 := by have := h1.cap.room; have := h1.cap.max; omega
  obtain ⟨WA, hWA⟩ : ∃ WA, ((w.alloc (.cells #[.int .i64 P.cycle, .int .i64 P.offset, .slice a P.splits.length c] 24)).alloc (.cells #[.int .i64 P.cycle, .int .i64 P.offset, .slice a' P.splits.length c'] 24)) = WA := ⟨_, rfl⟩
  have H1 := Hid.mk' (h1.kept k1)
  have H2 := Hid.mk' (h2.kept k1)
  rw [hWA] at k1 b1 b2 H1 H2
  have HK := Hid.mk' k1
  have x0 := b1.c0
  have x1 := b1.c1
  have x2 := b1.c2
  have y0 := b2.c0
  have y1 := b2.c1
  have y2 := b2.c2
  clear h1 h2 k1 b1 b2
  go_enter Tryd.func19, Tryd.ntmps19
  go_wp2_with (rw [hWA])
  go_loopw [5] (fun i wr => ∃ k : Nat, k ≤ P.splits.length ∧ i = .int .i64 k ∧ ∃ m, wr = WA.drewN m) (fun i _ => P.splits.length - (intOf i).toNat)
  case atStart => exact ⟨0, Nat.zero_le _, rfl, 0, rfl⟩
  case round =>
    obtain ⟨k, hk, rfl, m, rfl⟩ := hrel
    by_cases hlt : k < P.splits.length
    · obtain ⟨b, o, ea, _, hc⟩ := H1.out.at_ (by omega)
      obtain ⟨b', o', ea', _, hc'⟩ := H2.out.at_ (by omega)
      have hx := hc k hlt
      have hx' := hc' k hlt
      obtain ⟨x, hxe⟩ : ∃ x, x = P.splits.getD k 0 := ⟨_, rfl⟩
      rw [← hxe] at hx hx'
      rw [ea] at x2
      rw [ea'] at y2
      have hne : (x != x) = false := by simp
      clear hc hc' hxe
      go_wp2
      go_quiet (fail)
      go_wp2
      go_roundw
      case rel => exact ⟨k + 1, by omega, by go_num, _, rfl⟩
      case measure => simp [intOf]; omega
    · go_wp2
      go_ret
      exact ⟨rfl, HK.out.tr (Kept.drewN _ _ _)⟩
set_option maxRecDepth 100000 in
set_option maxHeartbeats 2000000 in
theorem rsame17_yes {w : World} {P : Pl} {a a' : Option Addr} {c c' : Nat} (h1 : Ints w a P.splits.length c P.splits) (h2 : Ints w a' P.splits.length c' P.splits) : Calls Tryd.prog 18 #[planV P a c, planV P a' c'] w fun e w' => e = .returned (.bool true) ∧ Kept w w' none := by
  have k1 : Kept w ((w.alloc (.cells #[.int .i64 P.cycle, .int .i64 P.offset, .slice a P.splits.length c] 24)).alloc (.cells #[.int .i64 P.cycle, .int .i64 P.offset, .slice a' P.splits.length c'] 24)) none := (Kept.alloc _ _ _ _ _).tr (Kept.alloc _ _ _ _ _)
  have b1 := (box_alloc w (.int .i64 P.cycle) (.int .i64 P.offset) (.slice a P.splits.length c) 24).kept (Kept.alloc _ #[.int .i64 P.cycle, .int .i64 P.offset, .slice a' P.splits.length c'] 24 (0, 0) none)
  have b2 := box_alloc (w.alloc (.cells #[.int .i64 P.cycle, .int .i64 P.offset, .slice a P.splits.length c] 24)) (.int .i64 P.cycle) (.int .i64 P.offset) (.slice a' P.splits.length c') 24
  rw [World.size_alloc] at b2
  have hn : P.splits.length ≤ 9223372036854775807 := by have := h1.cap.room; have := h1.cap.max; omega
  obtain ⟨WA, hWA⟩ : ∃ WA, ((w.alloc (.cells #[.int .i64 P.cycle, .int .i64 P.offset, .slice a P.splits.length c] 24)).alloc (.cells #[.int .i64 P.cycle, .int .i64 P.offset, .slice a' P.splits.length c'] 24)) = WA := ⟨_, rfl⟩
  have H1 := Hid.mk' (h1.kept k1)
  have H2 := Hid.mk' (h2.kept k1)
  rw [hWA] at k1 b1 b2 H1 H2
  have HK := Hid.mk' k1
  have x0 := b1.c0
  have x1 := b1.c1
  have x2 := b1.c2
  have y0 := b2.c0
  have y1 := b2.c1
  have y2 := b2.c2
  clear h1 h2 k1 b1 b2
  go_enter Tryd.func18, Tryd.ntmps18
  go_wp2_with (rw [hWA])
  go_loopw [5] (fun i wr => ∃ k : Nat, k ≤ P.splits.length ∧ i = .int .i64 k ∧ ∃ m, wr = WA.drewN m) (fun i _ => P.splits.length - (intOf i).toNat)
  case atStart => exact ⟨0, Nat.zero_le _, rfl, 0, rfl⟩
  case round =>
    obtain ⟨k, hk, rfl, m, rfl⟩ := hrel
    by_cases hlt : k < P.splits.length
    · obtain ⟨b, o, ea, _, hc⟩ := H1.out.at_ (by omega)
      obtain ⟨b', o', ea', _, hc'⟩ := H2.out.at_ (by omega)
      have hx := hc k hlt
      have hx' := hc' k hlt
      obtain ⟨x, hxe⟩ : ∃ x, x = P.splits.getD k 0 := ⟨_, rfl⟩
      rw [← hxe] at hx hx'
      rw [ea] at x2
      rw [ea'] at y2
      have hne : (x != x) = false := by simp
      clear hc hc' hxe
      go_wp2
      go_quiet (fail)
      go_wp2
      go_roundw
      case rel => exact ⟨k + 1, by omega, by go_num, _, rfl⟩
      case measure => simp [intOf]; omega
    · go_wp2
      go_ret
      exact ⟨rfl, HK.out.tr (Kept.drewN _ _ _)⟩
set_option maxRecDepth 100000 in
set_option maxHeartbeats 2000000 in
theorem pis_yes {w : World} {a : Option Addr} {c : Nat} (cy of x y : Int) (hI : Ints w a 2 c [x, y]) : Calls Tryd.prog 10 #[.agg #[.int .i64 cy, .int .i64 of, .slice a 2 c], .int .i64 cy, .int .i64 of, .int .i64 x, .int .i64 y] w fun e w' => e = .returned (.bool true) ∧ Kept w w' none := by
  have k1 : Kept w (w.alloc (.cells #[.int .i64 cy, .int .i64 of, .slice a 2 c] 24)) none := Kept.alloc _ _ _ _ _
  have b1 := box_alloc w (.int .i64 cy) (.int .i64 of) (.slice a 2 c) 24
  obtain ⟨b, o, rfl, _, hc⟩ := (hI.kept k1).at_ (by omega)
  have q0 := hc 0 (by omega)
  have q1 := hc 1 (by omega)
  rw [show ([x, y] : List Int).getD 0 0 = x from rfl, Nat.add_zero] at q0
  rw [show ([x, y] : List Int).getD 1 0 = y from rfl] at q1
  obtain ⟨WA, hWA⟩ : ∃ WA, (w.alloc (.cells #[.int .i64 cy, .int .i64 of, .slice (some ⟨b, o, none⟩) 2 c] 24)) = WA := ⟨_, rfl⟩
  rw [hWA] at k1 b1 q0 q1
  have HK := Hid.mk' k1
  have x0 := b1.c0
  have x1 := b1.c1
  have x2 := b1.c2
  clear hc hI k1 b1
  go_enter Tryd.func10, Tryd.ntmps10
  go_wp2_with (rw [hWA])
  go_ret
  exact ⟨by simp, HK.out⟩

end Go.Proofs.YtfhmfanmnhclfaaDoor

