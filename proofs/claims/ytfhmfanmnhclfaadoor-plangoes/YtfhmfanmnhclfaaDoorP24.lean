import Derived.Lib.SliceRun
import Derived.Test.YtfhmfanmnhclfaaDoorP23
namespace Go.Proofs.YtfhmfanmnhclfaaDoor
set_option linter.unusedVariables false
set_option linter.unusedSimpArgs false
open Go.RowKit Go.Lib Go.Deep


theorem cells_map {n : Nat} {f : Nat → Int} : cellsL n 1 (fun i _ => .int .i64 (f i)) = (List.range n).map (fun i => Value.int .i64 (f i)) := by
  unfold cellsL
  rw [Nat.mul_one]
  refine List.map_congr_left fun q hq => ?_
  rw [Nat.div_one]
/-- A row that grew by append, as a row of numbers. -/
theorem own_row {w : World} {base n : Nat} {v : Value} {f : Nat → Int} (h : w.ownsRow base 3 1 v n (cellsL n 1 (fun i _ => .int .i64 (f i)))) (hn : 0 < n) : ∃ g cap, v = .slice (some ⟨g, 0, none⟩) n cap ∧ base ≤ g ∧ RowI w g n cap f := by
  obtain ⟨_, ⟨rfl, e⟩ | ⟨g, cap, cur, rfl, hb, hh, hle, hmx, hsz, htk⟩⟩ := h
  · omega
  · unfold maxLen at hmx
    refine ⟨g, cap, rfl, hb, hle, by omega, fun j => (cur[j]?).getD (.bool false), cur, hh, by omega, fun i hi => ?_⟩
    show cur[i]? = some (if i < n then _ else _)
    by_cases hin : i < n
    · rw [if_pos hin]
      have h2 : (cur.toList.take (n * 1))[i]? = some (.int .i64 (f i)) := by
        rw [htk, cells_map, List.getElem?_map, List.getElem?_range hin]
        rfl
      rw [List.getElem?_take_of_lt (by omega), Array.getElem?_toList] at h2
      exact h2
    · rw [if_neg hin]
      have : i < cur.size := by omega
      show cur[i]? = some ((cur[i]?).getD (.bool false))
      rw [Array.getElem?_eq_getElem this]
      rfl
set_option maxRecDepth 100000 in
set_option maxHeartbeats 2000000 in
theorem clone_any {w : World} {lb n cap : Nat} {f : Nat → Int} (hL : RowI w lb n cap f) (h0 : 0 < n) (hn : n ≤ 1000) : Calls Tryd.prog 53 #[.slice (some ⟨lb, 0, none⟩) n cap] w fun e w' => ∃ g cp, e = .returned (.slice (some ⟨g, 0, none⟩) n cp) ∧ w.heap.size ≤ g ∧ RowI w' g n cp f ∧ Kept w w' none := by
  obtain ⟨i0, hi0, hz0, hz1, hz2⟩ := info_parts Tryd.infoIn
  have kA : Kept w (w.alloc (.cells #[] 3)) none := Kept.alloc _ _ _ _ _
  have hown : (w.alloc (.cells #[] 3)).ownsRow w.heap.size 3 1 (.slice (some ⟨w.heap.size, 0, none⟩) 0 0) 0 (cellsL 0 1 (fun i _ => .int .i64 (f i))) := World.ownsRow_lit w #[] 0 (Nat.le_refl _) (by unfold maxLen; omega) rfl
  have hnews : ∀ j u, (cellsL n 1 (fun i _ => Value.int .i64 (f i)))[j]? = some u → (w.alloc (.cells #[] 3)).cell? ((⟨lb, 0, none⟩ : Addr).add j) = some u := cellsL_news (by omega) (fun i hi j hj => by
    obtain rfl : j = 0 := by omega
    have := (hL.kept kA (by simp)).cell hi
    rw [Nat.zero_add, Nat.mul_one, Nat.add_zero]
    exact this)
  obtain ⟨v', w', hr, h2, h3, _⟩ := run_append_own (P := Tryd.prog) (w.alloc (.cells #[] 3)) w.heap.size 22 22 3 i0 _ 1 _ Tryd.uIns hi0 hz0 hz1 hz2 rfl (by omega) (.slice (some ⟨w.heap.size, 0, none⟩) 0 0) 0 _ hown ⟨lb, 0, none⟩ n cap (cellsL n 1 (fun i _ => .int .i64 (f i))) (cellsL_len _ _ _) hnews (cellsL_one (fun i j => rfl)) (by unfold maxLen; omega) (by omega) (by simp)
  rw [Nat.zero_add, show cellsL 0 1 (fun i _ => Value.int .i64 (f i)) = [] from rfl, List.nil_append] at h2
  obtain ⟨g, cp, rfl, hg, hrow⟩ := own_row h2 h0
  have hk : Kept w w' none := ⟨h3.os.trans kA.os, h3.tape.trans kA.tape, h3.output.trans kA.output, Nat.le_trans kA.size h3.size, fun i hi _ => (h3.block i (Nat.lt_of_lt_of_le hi kA.size) (fun e => by have e : i = w.heap.size := Option.some.inj e; omega)).trans (kA.block i hi (by simp))⟩
  have HR := Hid.mk' hrow
  have HK := Hid.mk' hk
  have HRN := Hid.mk' hr
  have hq : ∀ w, (binOp .eql 22 (.slice (some ⟨lb, 0, none⟩) n cap) (.slice none 0 0)).run Tryd.prog w = .ok (.bool false) w := fun w => Go.Lib.run_eql_slice_nil w _ _ _ _ _ _ _ Tryd.uIns
  clear hr hL kA hown hnews h2 h3 hrow hk hi0 hz0 hz1 hz2
  go_enter Tryd.func53, Tryd.ntmps53
  go_wp2_with (at_builtin; refine wpList_app (by rfl) _ _ _ (by rfl) (by rfl) (by rfl) HRN.out ?_)
  go_ret
  exact ⟨g, cp, rfl, hg, HR.out, HK.out⟩
set_option maxRecDepth 100000 in
set_option maxHeartbeats 2000000 in
theorem idxw_any {w : World} {lb n cap : Nat} {f : Nat → Int} (hL : RowI w lb n cap f) (hn : n ≤ 1000) : Calls Tryd.prog 54 #[.slice (some ⟨lb, 0, none⟩) n cap, .func (.func 55) #[] #[]] w fun e w' => (∃ z : Int, e = .returned (.int .i64 z) ∧ ((z = -1 ∧ ∀ i, i < n → ¬ 0 < f i) ∨ ∃ k : Nat, z = k ∧ k < n ∧ 0 < f k ∧ ∀ i, i < k → ¬ 0 < f i)) ∧ w' = w := by
  have HL := Hid.mk' hL
  have hmx := hL.mx
  clear hL
  go_enter Tryd.func54, Tryd.ntmps54
  go_wp2
  go_loop [5, 8] (fun _ i => ∃ k : Nat, k ≤ n ∧ i = .int .i64 k ∧ ∀ j, j < k → ¬ 0 < f j) (fun _ i => n - (intOf i).toNat)
  case atStart => exact ⟨0, by omega, rfl, fun j hj => by omega⟩
  case round =>
    obtain ⟨k, hk, rfl, hno⟩ := hrel
    have HN := Hid.mk' hno
    clear hno
    by_cases hlt : k < n
    · have kc := HL.out.cell hlt
      by_cases e : 0 < f k
      · have HY : Hid (0 < f k) := e
        have HV : Hid (∀ i, i < k → ¬ 0 < f i) := HN.out
        obtain ⟨y, hy⟩ : ∃ y, f k = y := ⟨_, rfl⟩
        rw [hy] at kc e
        have HE := Hid.mk' hy
        clear hy
        go_wp2_with (go_at_call 55; go_in)
        go_ret
        exact ⟨⟨_, rfl, .inr ⟨k, rfl, hlt, HY.out, HV.out⟩⟩, rfl⟩
      · have HV : Hid (∀ i, i < k + 1 → ¬ 0 < f i) := fun i hi => by
          by_cases e2 : i = k
          · subst e2; exact e
          · exact HN.out i (by omega)
        obtain ⟨y, hy⟩ : ∃ y, f k = y := ⟨_, rfl⟩
        rw [hy] at kc e
        clear hy
        go_wp2_with (go_at_call 55; go_in)
        exact ⟨⟨k + 1, by omega, by go_num, HV.out⟩, by simp [intOf]; omega⟩
    · go_wp2
      go_ret
      exact ⟨⟨_, rfl, .inl ⟨rfl, fun i hi => HN.out i (by omega)⟩⟩, rfl⟩

/-! ### splitsOf -/
theorem sumF_part {f : Nat → Int} {n : Nat} (h : ∀ i, i < n → 0 ≤ f i) : ∀ {k : Nat}, k ≤ n → 0 ≤ sumF f k ∧ sumF f k ≤ sumF f n := by
  induction n with
  | zero => intro k hk; obtain rfl : k = 0 := by omega
            exact ⟨Int.le_refl _, Int.le_refl _⟩
  | succ n ih =>
    intro k hk
    have hn := h n (by omega)
    by_cases e : k = n + 1
    · subst e; exact ⟨sumF_ge h, Int.le_refl _⟩
    · have := ih (fun i hi => h i (by omega)) (k := k) (by omega)
      rw [sumF_succ]
      omega
theorem sumF_bd {f : Nat → Int} {M : Int} (h0 : 0 ≤ M) : ∀ {k : Nat}, (∀ i, i < k → 0 ≤ f i ∧ f i ≤ M) → 0 ≤ sumF f k ∧ sumF f k ≤ M * k
  | 0, _ => by show 0 ≤ (0 : Int) ∧ (0 : Int) ≤ M * (0 : Nat); omega
  | k + 1, h => by
    have ih := sumF_bd h0 (k := k) (fun i hi => h i (by omega))
    have hk := h k (by omega)
    rw [sumF_succ, show M * ((k + 1 : Nat) : Int) = M * k + M by rw [show ((k + 1 : Nat) : Int) = (k : Int) + 1 by omega, Int.mul_add, Int.mul_one]]
    omega
/-- The share of a phase, as the program reckons it. -/
def shrP (rest all w : Int) : Int := (rest * w).tdiv (max all 1)
theorem shrP_is {S : St} (hs : siteB S = true) (P : Pl) {i : Nat} (hi : i < S.phases.length) : shrP (rstC S P) (allC S P) (wshC S P i) = (if allC S P = 0 then 0 else shrC S P i) := by
  unfold shrP
  have h0 := all_ge hs P
  by_cases h : allC S P = 0
  · rw [if_pos h]
    have hz := sumF_zero (fun i hi => (wsh_rng hs P hi).1) h i hi
    rw [hz, Int.mul_zero, Int.zero_tdiv]
  · rw [if_neg h, show max (allC S P) 1 = allC S P by omega]
    unfold shrC
    rw [Int.tdiv_eq_ediv_of_nonneg (Int.mul_nonneg (rst_ge hs P).1 (wsh_rng hs P hi).1)]
theorem shr_rng {S : St} (hs : siteB S = true) (P : Pl) (h : allC S P ≠ 0) : ∀ k, k ≤ S.phases.length → 0 ≤ sumF (shrC S P) k ∧ sumF (shrC S P) k ≤ rstC S P := fun k hk => by
  have h1 := sumF_part (f := shrC S P) (n := S.phases.length) (fun i hi => shr_ge hs P hi) hk
  have h2 := lef_ge hs P h
  unfold lefC at h2
  omega
def shrQ (S : St) (P : Pl) (i : Nat) : Int := if allC S P = 0 then 0 else shrC S P i
theorem shrQ_rng {S : St} (hs : siteB S = true) (P : Pl) : ∀ k, k ≤ S.phases.length → 0 ≤ sumF (shrQ S P) k ∧ sumF (shrQ S P) k ≤ rstC S P := fun k hk => by
  by_cases h : allC S P = 0
  · have : ∀ n, sumF (shrQ S P) n = 0 := fun n => by
      induction n with
      | zero => rfl
      | succ n ih => rw [sumF_succ, ih]; unfold shrQ; rw [if_pos h]; rfl
    rw [this]
    have := (rst_ge hs P).1
    omega
  · have : sumF (shrQ S P) k = sumF (shrC S P) k := sumF_congr (fun i _ => by unfold shrQ; rw [if_neg h])
    rw [this]
    exact shr_rng hs P h k hk
theorem shrQ_one {S : St} (hs : siteB S = true) (P : Pl) {k : Nat} (hk : k < S.phases.length) : 0 ≤ shrQ S P k ∧ shrQ S P k ≤ 1048576 := by
  have h1 := shrQ_rng hs P k (by omega)
  have h2 := shrQ_rng hs P (k + 1) (by omega)
  have h4 := (rst_ge hs P).2
  rw [sumF_succ] at h2
  have h3 : 0 ≤ shrQ S P k := by
    unfold shrQ
    split
    · omega
    · exact shr_ge hs P hk
  omega
/-- What splits there are behind k rounds. -/
def spQ (S : St) (P : Pl) (k i : Nat) : Int := if i < k then partM S i + shrQ S P i else partM S i
theorem spQ_set {S : St} {P : Pl} {k : Nat} : (fun j => if j = k then partM S k + shrQ S P k else spQ S P k j) = spQ S P (k + 1) := by
  funext j
  unfold spQ
  by_cases h : j = k
  · subst h; rw [if_pos rfl, if_pos (show j < j + 1 by omega)]
  · rw [if_neg h]
    by_cases h2 : j < k
    · rw [if_pos h2, if_pos (show j < k + 1 by omega)]
    · rw [if_neg h2, if_neg (show ¬ j < k + 1 by omega)]
/-- Who takes what is left. -/
def tkQ (S : St) (P : Pl) : Nat := if allC S P = 0 then 0 else fstC S P
theorem tk_lt {S : St} (hs : siteB S = true) (P : Pl) : tkQ S P < S.phases.length := by
  unfold tkQ
  have hn := (span_may hs).base.sh.ok.np
  split
  · omega
  · rename_i h; exact (fst_lt hs P h).1
theorem spl_fin {S : St} {P : Pl} {i : Nat} (hi : i < S.phases.length) : (if i = tkQ S P then spQ S P S.phases.length i + (rstC S P - sumF (shrQ S P) S.phases.length) else spQ S P S.phases.length i) = splC S P i := by
  unfold spQ splC extC shrQ tkQ lefC
  rw [if_pos hi]
  by_cases h : allC S P = 0
  · have : ∀ n, sumF (fun i => if allC S P = 0 then 0 else shrC S P i) n = 0 := fun n => by
      induction n with
      | zero => rfl
      | succ n ih => rw [sumF_succ, ih, if_pos h]; rfl
    rw [if_pos h, if_pos h, if_pos h, this]
    split <;> omega
  · have : sumF (fun i => if allC S P = 0 then 0 else shrC S P i) S.phases.length = sumF (shrC S P) S.phases.length := sumF_congr (fun i _ => by rw [if_neg h])
    rw [if_neg h, if_neg h, if_neg h, this]
    split <;> omega
theorem tk_is {S : St} (hs : siteB S = true) {P : Pl} {z : Int} (h : (z = -1 ∧ ∀ i, i < S.phases.length → ¬ 0 < wshC S P i) ∨ ∃ k : Nat, z = k ∧ k < S.phases.length ∧ 0 < wshC S P k ∧ ∀ i, i < k → ¬ 0 < wshC S P i) : (if z < 0 then 0 else z) = (tkQ S P : Int) ∧ -1 ≤ z ∧ z ≤ 8 := by
  have hn := (span_may hs).base.sh.ok.np
  have hz : ∀ i, i < S.phases.length → 0 ≤ wshC S P i := fun i hi => (wsh_rng hs P hi).1
  unfold tkQ
  rcases h with ⟨rfl, h⟩ | ⟨k, rfl, hk, h1, h2⟩
  · have h0 : allC S P = 0 := by
      by_cases e : allC S P = 0
      · exact e
      · have := fst_lt hs P e
        have := h _ this.1
        have := hz _ (fst_lt hs P e).1
        have := (fst_lt hs P e).2.1
        omega
    rw [if_pos h0, if_pos (by omega)]
    exact ⟨rfl, by omega, by omega⟩
  · have h0 : allC S P ≠ 0 := fun e => by
      have := sumF_zero hz e k hk
      omega
    obtain ⟨f1, f2, f3⟩ := fst_lt hs P h0
    rw [if_neg h0, if_neg (by omega)]
    have : k = fstC S P := by
      rcases Nat.lt_trichotomy k (fstC S P) with e | e | e
      · have := f3 k e; omega
      · exact e
      · have := h2 _ e
        have := hz _ f1
        omega
    rw [this]
    refine ⟨rfl, by omega, by omega⟩
set_option maxRecDepth 100000 in
set_option maxHeartbeats 4000000 in
theorem pspl_any {w : World} {S : St} {P : Pl} (hs : siteB S = true) {lb lc wb wc : Nat} (hL : RowI w lb S.phases.length lc (partM S)) (hW : RowI w wb S.phases.length wc (wshC S P)) : Calls Tryd.prog 30 #[.int .i64 (cycC S P), .slice (some ⟨lb, 0, none⟩) S.phases.length lc, .slice (some ⟨wb, 0, none⟩) S.phases.length wc] w fun e w' => ∃ g cp, e = .returned (.slice (some ⟨g, 0, none⟩) S.phases.length cp) ∧ w.heap.size ≤ g ∧ RowI w' g S.phases.length cp (splC S P) ∧ Kept w w' none := by
  have hn := (span_may hs).base.sh.ok.np
  have HL := Hid.mk' hL
  have HW := Hid.mk' hW
  have hlm := hL.mx
  have hwm := hW.mx
  have HSI := Hid.mk' hs
  have hcr : 0 ≤ cycC S P ∧ cycC S P ≤ 1048576 := by
    have h1 := cyc_facts hs
    have h2 := cycC_rng hs P
    have h3 := sumF_ge (f := partM S) (n := S.phases.length) (fun i hi => by have := partM_ge hs hi; omega)
    omega
  have HPS : Hid (∀ k, k ≤ S.phases.length → 0 ≤ sumF (partM S) k ∧ sumF (partM S) k ≤ 1048576) := fun k hk => by
    have h1 := cyc_facts hs
    have h2 := sumF_part (f := partM S) (n := S.phases.length) (fun i hi => by have := partM_ge hs hi; omega) hk
    omega
  have HPG : Hid (∀ k, k < S.phases.length → 1 ≤ partM S k ∧ partM S k ≤ 1048576) := fun k hk => by
    have := partM_ge hs hk
    have := part_low hs hk
    have := cyc_facts hs
    omega
  have HWR : Hid (∀ k, k < S.phases.length → 0 ≤ wshC S P k ∧ wshC S P k ≤ 1048576) := fun k hk => wsh_rng hs P hk
  have HWS : Hid (∀ k, k ≤ S.phases.length → 0 ≤ sumF (wshC S P) k ∧ sumF (wshC S P) k ≤ 8388608) := fun k hk => by
    have := sumF_bd (f := wshC S P) (M := 1048576) (by omega) (k := k) (fun i hi => wsh_rng hs P (by omega))
    have : (k : Int) ≤ 8 := by omega
    omega
  clear hL hW hs
  go_enter Tryd.func30, Tryd.ntmps30
  go_wp2
  go_loopw [7, 8, 9, 10, 20] (fun r al _ _ i wr => ∃ k : Nat, k ≤ S.phases.length ∧ i = .int .i64 k ∧ r = .int .i64 (cycC S P - sumF (partM S) k) ∧ al = .int .i64 (sumF (wshC S P) k) ∧ Kept w wr none) (fun _ _ _ _ i _ => S.phases.length - (intOf i).toNat)
  case atStart => exact ⟨0, by omega, rfl, by rw [show sumF (partM S) 0 = 0 from rfl, Int.sub_zero], rfl, Kept.refl _ _⟩
  case round =>
    obtain ⟨k, hk, rfl, rfl, rfl, hkr⟩ := hrel
    have HKR := Hid.mk' hkr
    by_cases hlt : k < S.phases.length
    · have lc_ := (HL.out.kept hkr (by simp)).cell hlt
      have wc_ := (HW.out.kept hkr (by simp)).cell hlt
      clear hkr
      have g1 := HPS.out k hk
      have g2 := HPG.out k hlt
      have g3 := HWR.out k hlt
      have g4 := HWS.out k hk
      have H1 : Hid (sumF (partM S) (k + 1) = sumF (partM S) k + partM S k) := sumF_succ _ _
      have H2 : Hid (sumF (wshC S P) (k + 1) = sumF (wshC S P) k + wshC S P k) := sumF_succ _ _
      generalize sumF (partM S) k = A at *
      generalize sumF (wshC S P) k = B at *
      generalize partM S k = x at *
      generalize wshC S P k = y at *
      go_wp2
      go_roundw
      case rel => exact ⟨k + 1, by omega, by go_num, by rw [H1.out]; go_num, by rw [H2.out], HKR.out⟩
      case measure => simp [intOf]; omega
    · obtain rfl : k = S.phases.length := by omega
      clear hkr
      have hr0 := rst_ge HSI.out P
      have ha0 := HWS.out _ (Nat.le_refl S.phases.length)
      have HR : Hid (cycC S P - sumF (partM S) S.phases.length = rstC S P) := rfl
      have HA : Hid (sumF (wshC S P) S.phases.length = allC S P) := rfl
      rw [HR.out, HA.out]
      rw [HA.out] at ha0
      go_wp2_with (go_at_call 53; refine (clone_any (HL.out.kept HKR.out (by simp)) (by omega) (by omega)).mono ?_; rintro e w1 ⟨g, cp, rfl, hg, hrow, hk1⟩)
      have HG : Hid (w.heap.size ≤ g) := Nat.le_trans HKR.out.size hg
      have HK1 := Hid.mk' (HKR.out.tr hk1)
      have HROW : Hid (RowI w1 g S.phases.length cp (spQ S P 0)) := hrow.congr (fun i hi => by unfold spQ; rw [if_neg (by omega)])
      have hcp := hrow.mx
      have HWB := Hid.mk' HW.out.lt
      have HQR := Hid.mk' (shrQ_rng HSI.out P)
      clear hg hk1 hrow hcr
      go_loopw [12, 13, 14, 15, 40] (fun lf _ _ _ i wr => ∃ k : Nat, k ≤ S.phases.length ∧ i = .int .i64 k ∧ lf = .int .i64 (rstC S P - sumF (shrQ S P) k) ∧ Kept w wr none ∧ RowI wr g S.phases.length cp (spQ S P k)) (fun _ _ _ _ i _ => S.phases.length - (intOf i).toNat)
      case atStart => exact ⟨0, by omega, rfl, by rw [show sumF (shrQ S P) 0 = 0 from rfl, Int.sub_zero], HK1.out, HROW.out⟩
      case round =>
        obtain ⟨k, hk, rfl, rfl, hkw, hrow⟩ := hrel
        have HKW := Hid.mk' hkw
        have HRO := Hid.mk' hrow
        have hlr := hrow.lt
        by_cases hlt : k < S.phases.length
        · have wc_ := (HW.out.kept hkw (by simp)).cell hlt
          have y0 := hrow.cell hlt
          have z0 := hrow.fz k
          rw [show spQ S P k k = partM S k by unfold spQ; rw [if_neg (by omega)]] at y0
          have g2 := HPG.out k hlt
          have g3 := HWR.out k hlt
          have g5 := HQR.out k hk
          have g6 := shrQ_one HSI.out P hlt
          have hm0 : 0 ≤ rstC S P * wshC S P k := Int.mul_nonneg hr0.1 g3.1
          have hm1 : rstC S P * wshC S P k ≤ 1048576 * 1048576 := Int.mul_le_mul hr0.2 g3.2 g3.1 (by omega)
          have H1 : Hid (sumF (shrQ S P) (k + 1) = sumF (shrQ S P) k + shrQ S P k) := sumF_succ _ _
          have hq : shrP (rstC S P) (allC S P) (wshC S P k) = shrQ S P k := shrP_is HSI.out P hlt
          have HSET : Hid (RowI (wr.setCell ⟨g, k, none⟩ (.int .i64 (partM S k + shrQ S P k))) g S.phases.length cp (spQ S P (k + 1))) := by
            rw [← spQ_set]
            exact hrow.set hlt _
          unfold shrP at hq
          have hmx : (if (1 : Int) > allC S P then 1 else allC S P) = max (allC S P) 1 := by split <;> omega
          have hmp : 1 ≤ max (allC S P) 1 := by omega
          have hmn : ¬ max (allC S P) 1 = 0 := by omega
          clear hkw hrow
          generalize sumF (shrQ S P) k = B at *
          generalize shrQ S P k = q at *
          generalize partM S k = x at *
          generalize hMM : rstC S P * wshC S P k = M at *
          generalize wshC S P k = y at *
          by_cases h1 : allC S P < 1
          · rw [show max (allC S P) 1 = 1 by omega] at hq
            clear hmx hmp hmn
            generalize rstC S P = r at *
            generalize allC S P = al at *
            go_wp2
            go_roundw
            case rel => exact ⟨k + 1, by omega, by go_num, by rw [H1.out]; go_num, HKW.out.setNew (p := ⟨g, k, none⟩) HG.out _, HSET.out⟩
            case measure => simp [intOf]; omega
          · rw [show max (allC S P) 1 = allC S P by omega] at hq
            clear hmx hmp hmn
            generalize rstC S P = r at *
            generalize allC S P = al at *
            have hal : ¬ al = 0 := by omega
            go_wp2
            go_roundw
            case rel => exact ⟨k + 1, by omega, by go_num, by rw [H1.out]; go_num, HKW.out.setNew (p := ⟨g, k, none⟩) HG.out _, HSET.out⟩
            case measure => simp [intOf]; omega
        · obtain rfl : k = S.phases.length := by omega
          have HIX := Hid.mk' (idxw_any (HW.out.kept hkw (by simp)) (by omega))
          have g5 := HQR.out _ (Nat.le_refl S.phases.length)
          have htk := tk_lt HSI.out P
          have HTI : Hid (∀ z : Int, ((z = -1 ∧ ∀ i, i < S.phases.length → ¬ 0 < wshC S P i) ∨ ∃ k : Nat, z = k ∧ k < S.phases.length ∧ 0 < wshC S P k ∧ ∀ i, i < k → ¬ 0 < wshC S P i) → (if z < 0 then 0 else z) = (tkQ S P : Int) ∧ -1 ≤ z ∧ z ≤ 8) := fun z h => tk_is HSI.out h
          have y0 := hrow.cell htk
          have z0 := hrow.fz (tkQ S P)
          have hq1 : 0 ≤ spQ S P S.phases.length (tkQ S P) ∧ spQ S P S.phases.length (tkQ S P) ≤ 2097152 := by
            have h1 := shrQ_one HSI.out P htk
            have h2 := HPG.out _ htk
            unfold spQ
            split <;> omega
          have HFIN : Hid (RowI (wr.setCell ⟨g, tkQ S P, none⟩ (.int .i64 (spQ S P S.phases.length (tkQ S P) + (rstC S P - sumF (shrQ S P) S.phases.length)))) g S.phases.length cp (splC S P)) := (hrow.set htk _).congr (fun i hi => by
            rw [← spl_fin hi]
            by_cases e : i = tkQ S P
            · rw [if_pos e, if_pos e, e]
            · rw [if_neg e, if_neg e])
          clear hkw hrow
          generalize spQ S P S.phases.length (tkQ S P) = u at *
          generalize sumF (shrQ S P) S.phases.length = B at *
          generalize rstC S P = r at *
          generalize tkQ S P = t at *
          go_wp2_with (go_at_call 54; refine HIX.out.mono ?_; rintro e w5 ⟨⟨z, rfl, hz⟩, hw5⟩; have hw5 := hw5.symm; subst hw5; obtain ⟨ht1, ht2, ht3⟩ := HTI.out z hz; clear hz)
          go_ret
          exact ⟨g, cp, rfl, HG.out, HFIN.out, HKW.out.setNew (p := ⟨g, t, none⟩) HG.out _⟩

end Go.Proofs.YtfhmfanmnhclfaaDoor
