/-
  THE CONTRACTS of package pulse: later, mayBe, mayHold, Next, and of the document's next, Next; nothing that was there has turned (made by a program).
-/
import Derived.Test.YtbgnllpgogbmfaaPulM
import Derived.Test.YtbgnllpgogbmfaaRows
import Derived.DeepKeys
namespace Go.Proofs.Ytbgnllpgogbmfaa
open Go.RowKit Go.Lib Go.Deep
set_option linter.unusedVariables false
set_option linter.unusedSimpArgs false

set_option maxHeartbeats 1000000 in
theorem later_any (p : Pu) (r : Bool) (h : Int) (w : World) (hp : mayP p = true) : Calls Try.prog 17 #[puV p, .bool r, .int .i64 h] w fun e w' => e = .returned (puV (stepP h p r)) ∧ Kept w w' none := by
  obtain ⟨u, q, s⟩ := p
  have hp' : 0 ≤ s ∧ s ≤ 1048576 := of_decide_eq_true hp
  obtain ⟨hs0, hs1⟩ := hp'
  clear hp
  unfold stepP
  unfold upP
  by_cases h1 : r = q
  · subst h1
    by_cases h2 : s + 1 < 1048576
    · have hsn : sncP ⟨u, r, s⟩ r = s + 1 := by unfold sncP; rw [if_pos rfl, if_pos h2]
      rw [hsn]
      by_cases h3 : h ≤ s + 1
      · rw [if_pos h3]
        clear hsn
        go_enter Try.func17, Try.ntmps17
        go_wp2
        refine bodyPost_ret (v := puV _) (by simp [results, Try.results17, go_sem]; done) rfl ⟨rfl, ?_⟩
        exact (by (repeat (first | exact Kept.refl _ _ | (refine Kept.setNew ?_ (by simp <;> omega) _) | (refine Kept.tr ?_ (Kept.alloc _ _ _ _ _)))))
      · rw [if_neg h3]
        clear hsn
        go_enter Try.func17, Try.ntmps17
        go_wp2
        refine bodyPost_ret (v := puV _) (by simp [results, Try.results17, go_sem]; done) rfl ⟨rfl, ?_⟩
        exact (by (repeat (first | exact Kept.refl _ _ | (refine Kept.setNew ?_ (by simp <;> omega) _) | (refine Kept.tr ?_ (Kept.alloc _ _ _ _ _)))))
    · have hsn : sncP ⟨u, r, s⟩ r = 1048576 := by unfold sncP; rw [if_pos rfl, if_neg h2]
      rw [hsn]
      have h4 : s = 1048575 ∨ s = 1048576 := by omega
      clear h2 hsn hs0 hs1
      rcases h4 with rfl | rfl
      · by_cases h3 : h ≤ 1048576
        · rw [if_pos h3]
          go_enter Try.func17, Try.ntmps17
          go_wp2
          refine bodyPost_ret (v := puV _) (by simp [results, Try.results17, go_sem]; done) rfl ⟨rfl, ?_⟩
          exact (by (repeat (first | exact Kept.refl _ _ | (refine Kept.setNew ?_ (by simp <;> omega) _) | (refine Kept.tr ?_ (Kept.alloc _ _ _ _ _)))))
        · rw [if_neg h3]
          go_enter Try.func17, Try.ntmps17
          go_wp2
          refine bodyPost_ret (v := puV _) (by simp [results, Try.results17, go_sem]; done) rfl ⟨rfl, ?_⟩
          exact (by (repeat (first | exact Kept.refl _ _ | (refine Kept.setNew ?_ (by simp <;> omega) _) | (refine Kept.tr ?_ (Kept.alloc _ _ _ _ _)))))
      · by_cases h3 : h ≤ 1048576
        · rw [if_pos h3]
          go_enter Try.func17, Try.ntmps17
          go_wp2
          refine bodyPost_ret (v := puV _) (by simp [results, Try.results17, go_sem]; done) rfl ⟨rfl, ?_⟩
          exact (by (repeat (first | exact Kept.refl _ _ | (refine Kept.setNew ?_ (by simp <;> omega) _) | (refine Kept.tr ?_ (Kept.alloc _ _ _ _ _)))))
        · rw [if_neg h3]
          go_enter Try.func17, Try.ntmps17
          go_wp2
          refine bodyPost_ret (v := puV _) (by simp [results, Try.results17, go_sem]; done) rfl ⟨rfl, ?_⟩
          exact (by (repeat (first | exact Kept.refl _ _ | (refine Kept.setNew ?_ (by simp <;> omega) _) | (refine Kept.tr ?_ (Kept.alloc _ _ _ _ _)))))
  · have hsn : sncP ⟨u, q, s⟩ r = 1 := by unfold sncP; rw [if_neg h1]
    rw [hsn]
    have h1b : (r == q) = false := by simpa using h1
    clear h1
    by_cases h3 : h ≤ 1
    · rw [if_pos h3]
      clear hsn
      go_enter Try.func17, Try.ntmps17
      go_wp2
      refine bodyPost_ret (v := puV _) (by simp [results, Try.results17, go_sem]; done) rfl ⟨rfl, ?_⟩
      exact (by (repeat (first | exact Kept.refl _ _ | (refine Kept.setNew ?_ (by simp <;> omega) _) | (refine Kept.tr ?_ (Kept.alloc _ _ _ _ _)))))
    · rw [if_neg h3]
      clear hsn
      go_enter Try.func17, Try.ntmps17
      go_wp2
      refine bodyPost_ret (v := puV _) (by simp [results, Try.results17, go_sem]; done) rfl ⟨rfl, ?_⟩
      exact (by (repeat (first | exact Kept.refl _ _ | (refine Kept.setNew ?_ (by simp <;> omega) _) | (refine Kept.tr ?_ (Kept.alloc _ _ _ _ _)))))

theorem mayBe_any (p : Pu) (w : World) : Calls Try.prog 15 #[puV p] w fun e w' => e = .returned (.bool (mayP p)) ∧ Kept w w' none := by
  obtain ⟨u, q, s⟩ := p
  unfold mayP
  by_cases h1 : 0 ≤ s
  · by_cases h2 : s ≤ 1048576
    · go_enter Try.func15, Try.ntmps15
      go_wp2
      go_ret
      exact ⟨ret_bool (by simp [h1, h2]), Kept.alloc _ _ _ _ _⟩
    · go_enter Try.func15, Try.ntmps15
      go_wp2
      go_ret
      exact ⟨ret_bool (by simp [h1, h2]), Kept.alloc _ _ _ _ _⟩
  · go_enter Try.func15, Try.ntmps15
    go_wp2
    go_ret
    exact ⟨ret_bool (by simp; omega), Kept.alloc _ _ _ _ _⟩
theorem mayHold_any (h : Int) (w : World) : Calls Try.prog 16 #[.int .i64 h] w fun e w' => e = .returned (.bool (holB h)) ∧ w' = w := by
  unfold holB
  by_cases h1 : 1 ≤ h
  · by_cases h2 : h ≤ 1048576
    · go_enter Try.func16, Try.ntmps16
      go_wp2
      go_ret
      exact ⟨ret_bool (by simp [h1, h2]), rfl⟩
    · go_enter Try.func16, Try.ntmps16
      go_wp2
      go_ret
      exact ⟨ret_bool (by simp [h1, h2]), rfl⟩
  · go_enter Try.func16, Try.ntmps16
    go_wp2
    go_ret
    exact ⟨ret_bool (by simp; omega), rfl⟩
/-- What Next answers. -/
def nexV (p : Pu) (r : Bool) (h : Int) : Pu := if nexE p h = 0 then stepP h p r else Pu.zero
theorem nex_bad {p : Pu} {r : Bool} {h : Int} (h1 : mayP p = false) : nexE p h = 8 ∧ nexV p r h = Pu.zero := by
  have e : nexE p h = 8 := by unfold nexE; rw [h1]; rfl
  exact ⟨e, by unfold nexV; rw [e]; rfl⟩
theorem nex_arg {p : Pu} {r : Bool} {h : Int} (h1 : mayP p = true) (h2 : holB h = false) : nexE p h = 2 ∧ nexV p r h = Pu.zero := by
  have e : nexE p h = 2 := by unfold nexE; rw [h1, h2]; rfl
  exact ⟨e, by unfold nexV; rw [e]; rfl⟩
theorem nex_ok {p : Pu} {r : Bool} {h : Int} (h1 : mayP p = true) (h2 : holB h = true) : nexE p h = 0 ∧ nexV p r h = stepP h p r := by
  have e : nexE p h = 0 := by unfold nexE; rw [h1, h2]; rfl
  exact ⟨e, by unfold nexV; rw [e]; rfl⟩
theorem pbox_alloc (w : World) (p : Pu) (t : TypeId) : Box (w.alloc (.cells #[.bool p.up, .bool p.raw, .int .i64 p.since] t)) w.heap.size (.bool p.up) (.bool p.raw) (.int .i64 p.since) := box_alloc _ _ _ _ _

end Go.Proofs.Ytbgnllpgogbmfaa
