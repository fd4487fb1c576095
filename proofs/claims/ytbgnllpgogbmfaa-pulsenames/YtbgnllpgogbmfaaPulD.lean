/-
  THE CONTRACTS of pulse.Next, and of the document's next and Next (made by a program).
-/
import Derived.Test.YtbgnllpgogbmfaaPulC
namespace Go.Proofs.Ytbgnllpgogbmfaa
open Go.RowKit Go.Lib Go.Deep
set_option linter.unusedVariables false
set_option linter.unusedSimpArgs false

set_option maxHeartbeats 1000000 in
theorem next_bad (p : Pu) (r : Bool) (h : Int) (w : World) (h1 : mayP p = false) : Calls Try.prog 8 #[puV p, .bool r, .int .i64 h] w fun e w' => e = .returned (.tuple #[puV (nexV p r h), .int .i64 (nexE p h)]) ∧ Kept w w' none := by
  obtain ⟨x1, x2⟩ := nex_bad (r := r) (h := h) h1
  rw [x1, x2]
  clear x1 x2
  obtain ⟨u, q, s⟩ := p
  have H1 := Hid.mk' h1
  clear h1
  go_enter Try.func8, Try.ntmps8
  go_wp2_with (first | (go_at_call 15; refine (mayBe_any ⟨u, q, s⟩ _).mono ?_; rw [H1.out]; rintro e w1 ⟨rfl, hk1⟩; have hB := (box_alloc w (.bool u) (.bool q) (.int .i64 s) 23).kept ((Kept.alloc _ _ _ _ _).tr hk1); have c0 := hB.c0; have c1 := hB.c1; have c2 := hB.c2; have hR := (box_alloc (w.alloc (.cells #[.bool u, .bool q, .int .i64 s] 23)) (.bool false) (.bool false) (.int .i64 0) 23).kept hk1; simp only [World.size_alloc] at hR; have d0 := hR.c0; have d1 := hR.c1; have d2 := hR.c2; have e0 := hR.f0; have e1 := hR.f1; have e2 := hR.f2; have hlt := hR.lt))
  refine bodyPost_ret (v := .tuple #[puV _, .int .i64 _]) (by simp [results, Try.results8, go_sem, *]; done) rfl ⟨rfl, ?_⟩
  have hK : Kept w _ none := ((Kept.alloc _ _ _ _ _).tr (Kept.alloc _ _ _ _ _)).tr hk1
  exact ((hK.setNew (p := ⟨w.heap.size + 1, 0, none⟩) (by simp) _).setNew (p := ⟨w.heap.size + 1, 1, none⟩) (by simp) _).setNew (p := ⟨w.heap.size + 1, 2, none⟩) (by simp) _

set_option maxHeartbeats 1000000 in
theorem next_arg (p : Pu) (r : Bool) (h : Int) (w : World) (h1 : mayP p = true) (h2 : holB h = false) : Calls Try.prog 8 #[puV p, .bool r, .int .i64 h] w fun e w' => e = .returned (.tuple #[puV (nexV p r h), .int .i64 (nexE p h)]) ∧ Kept w w' none := by
  obtain ⟨x1, x2⟩ := nex_arg (r := r) h1 h2
  rw [x1, x2]
  clear x1 x2
  obtain ⟨u, q, s⟩ := p
  have H1 := Hid.mk' h1
  clear h1
  have H2 := Hid.mk' h2
  clear h2
  go_enter Try.func8, Try.ntmps8
  go_wp2_with (first | (go_at_call 16; refine (mayHold_any h _).mono ?_; rw [H2.out]; rintro e w2 ⟨rfl, rfl⟩) | (go_at_call 15; refine (mayBe_any ⟨u, q, s⟩ _).mono ?_; rw [H1.out]; rintro e w1 ⟨rfl, hk1⟩; have hB := (box_alloc w (.bool u) (.bool q) (.int .i64 s) 23).kept ((Kept.alloc _ _ _ _ _).tr hk1); have c0 := hB.c0; have c1 := hB.c1; have c2 := hB.c2; have hR := (box_alloc (w.alloc (.cells #[.bool u, .bool q, .int .i64 s] 23)) (.bool false) (.bool false) (.int .i64 0) 23).kept hk1; simp only [World.size_alloc] at hR; have d0 := hR.c0; have d1 := hR.c1; have d2 := hR.c2; have e0 := hR.f0; have e1 := hR.f1; have e2 := hR.f2; have hlt := hR.lt))
  refine bodyPost_ret (v := .tuple #[puV _, .int .i64 _]) (by simp [results, Try.results8, go_sem, *]; done) rfl ⟨rfl, ?_⟩
  have hK : Kept w _ none := ((Kept.alloc _ _ _ _ _).tr (Kept.alloc _ _ _ _ _)).tr hk1
  exact ((hK.setNew (p := ⟨w.heap.size + 1, 0, none⟩) (by simp) _).setNew (p := ⟨w.heap.size + 1, 1, none⟩) (by simp) _).setNew (p := ⟨w.heap.size + 1, 2, none⟩) (by simp) _

set_option maxHeartbeats 1000000 in
theorem next_ok (p : Pu) (r : Bool) (h : Int) (w : World) (h1 : mayP p = true) (h2 : holB h = true) : Calls Try.prog 8 #[puV p, .bool r, .int .i64 h] w fun e w' => e = .returned (.tuple #[puV (nexV p r h), .int .i64 (nexE p h)]) ∧ Kept w w' none := by
  obtain ⟨x1, x2⟩ := nex_ok (r := r) h1 h2
  rw [x1, x2]
  clear x1 x2
  obtain ⟨u, q, s⟩ := p
  have H1 := Hid.mk' h1
  clear h1
  have H2 := Hid.mk' h2
  clear h2
  go_enter Try.func8, Try.ntmps8
  go_wp2_with (first | (go_at_call 17; refine (later_any ⟨u, q, s⟩ r h _ H1.out).mono ?_; rintro e w3 ⟨rfl, hk3⟩; have hR3 := hR.kept hk3; have d0' := hR3.c0; have d1' := hR3.c1; have d2' := hR3.c2; have e0' := hR3.f0; have e1' := hR3.f1; have e2' := hR3.f2; clear d0 d1 d2 e0 e1 e2) | (go_at_call 16; refine (mayHold_any h _).mono ?_; rw [H2.out]; rintro e w2 ⟨rfl, rfl⟩) | (go_at_call 15; refine (mayBe_any ⟨u, q, s⟩ _).mono ?_; rw [H1.out]; rintro e w1 ⟨rfl, hk1⟩; have hB := (box_alloc w (.bool u) (.bool q) (.int .i64 s) 23).kept ((Kept.alloc _ _ _ _ _).tr hk1); have c0 := hB.c0; have c1 := hB.c1; have c2 := hB.c2; have hR := (box_alloc (w.alloc (.cells #[.bool u, .bool q, .int .i64 s] 23)) (.bool false) (.bool false) (.int .i64 0) 23).kept hk1; simp only [World.size_alloc] at hR; have d0 := hR.c0; have d1 := hR.c1; have d2 := hR.c2; have e0 := hR.f0; have e1 := hR.f1; have e2 := hR.f2; have hlt := hR.lt))
  refine bodyPost_ret (v := .tuple #[puV _, .int .i64 _]) (by simp [results, Try.results8, go_sem, *]; done) rfl ⟨rfl, ?_⟩
  have hK : Kept w _ none := ((Kept.alloc _ _ _ _ _).tr (Kept.alloc _ _ _ _ _)).tr (hk1.tr hk3)
  exact ((hK.setNew (p := ⟨w.heap.size + 1, 0, none⟩) (by simp) _).setNew (p := ⟨w.heap.size + 1, 1, none⟩) (by simp) _).setNew (p := ⟨w.heap.size + 1, 2, none⟩) (by simp) _

theorem next_any (p : Pu) (r : Bool) (h : Int) (w : World) : Calls Try.prog 8 #[puV p, .bool r, .int .i64 h] w fun e w' => e = .returned (.tuple #[puV (nexV p r h), .int .i64 (nexE p h)]) ∧ Kept w w' none := by
  cases h1 : mayP p with
  | false => exact next_bad p r h w h1
  | true =>
    cases h2 : holB h with
    | false => exact next_arg p r h w h1 h2
    | true => exact next_ok p r h w h1 h2

set_option maxHeartbeats 1000000 in
theorem rnext1_any (p : Pu) (r : Bool) (h : Int) (w : World) (hp : mayP p = true) : Calls Try.prog 19 #[puV p, .bool r, .int .i64 h] w fun e w' => e = .returned (puV (stepP h p r)) ∧ Kept w w' none := by
  obtain ⟨u, q, s⟩ := p
  have hp' : 0 ≤ s ∧ s ≤ 1048576 := of_decide_eq_true hp
  obtain ⟨hs0, hs1⟩ := hp'
  clear hp
  unfold stepP
  unfold upP
  by_cases h1 : r = q
  · subst h1
    by_cases h2 : s + 1 < 1048576
    · have hsn : sncP ⟨u, r, s⟩ r = s + 1 := by unfold sncP; rw [if_pos rfl, if_pos h2]
      rw [hsn]
      by_cases h3 : h ≤ s + 1
      · rw [if_pos h3]
        clear hsn
        go_enter Try.func19, Try.ntmps19
        go_wp2
        refine bodyPost_ret (v := puV _) (by simp [results, Try.results19, go_sem]; done) rfl ⟨rfl, ?_⟩
        exact (by (repeat (first | exact Kept.refl _ _ | (refine Kept.setNew ?_ (by simp <;> omega) _) | (refine Kept.tr ?_ (Kept.alloc _ _ _ _ _)))))
      · rw [if_neg h3]
        clear hsn
        go_enter Try.func19, Try.ntmps19
        go_wp2
        refine bodyPost_ret (v := puV _) (by simp [results, Try.results19, go_sem]; done) rfl ⟨rfl, ?_⟩
        exact (by (repeat (first | exact Kept.refl _ _ | (refine Kept.setNew ?_ (by simp <;> omega) _) | (refine Kept.tr ?_ (Kept.alloc _ _ _ _ _)))))
    · have hsn : sncP ⟨u, r, s⟩ r = 1048576 := by unfold sncP; rw [if_pos rfl, if_neg h2]
      rw [hsn]
      have h4 : s = 1048575 ∨ s = 1048576 := by omega
      clear h2 hsn hs0 hs1
      rcases h4 with rfl | rfl
      · by_cases h3 : h ≤ 1048576
        · rw [if_pos h3]
          go_enter Try.func19, Try.ntmps19
          go_wp2
          refine bodyPost_ret (v := puV _) (by simp [results, Try.results19, go_sem]; done) rfl ⟨rfl, ?_⟩
          exact (by (repeat (first | exact Kept.refl _ _ | (refine Kept.setNew ?_ (by simp <;> omega) _) | (refine Kept.tr ?_ (Kept.alloc _ _ _ _ _)))))
        · rw [if_neg h3]
          go_enter Try.func19, Try.ntmps19
          go_wp2
          refine bodyPost_ret (v := puV _) (by simp [results, Try.results19, go_sem]; done) rfl ⟨rfl, ?_⟩
          exact (by (repeat (first | exact Kept.refl _ _ | (refine Kept.setNew ?_ (by simp <;> omega) _) | (refine Kept.tr ?_ (Kept.alloc _ _ _ _ _)))))
      · by_cases h3 : h ≤ 1048576
        · rw [if_pos h3]
          go_enter Try.func19, Try.ntmps19
          go_wp2
          refine bodyPost_ret (v := puV _) (by simp [results, Try.results19, go_sem]; done) rfl ⟨rfl, ?_⟩
          exact (by (repeat (first | exact Kept.refl _ _ | (refine Kept.setNew ?_ (by simp <;> omega) _) | (refine Kept.tr ?_ (Kept.alloc _ _ _ _ _)))))
        · rw [if_neg h3]
          go_enter Try.func19, Try.ntmps19
          go_wp2
          refine bodyPost_ret (v := puV _) (by simp [results, Try.results19, go_sem]; done) rfl ⟨rfl, ?_⟩
          exact (by (repeat (first | exact Kept.refl _ _ | (refine Kept.setNew ?_ (by simp <;> omega) _) | (refine Kept.tr ?_ (Kept.alloc _ _ _ _ _)))))
  · have hsn : sncP ⟨u, q, s⟩ r = 1 := by unfold sncP; rw [if_neg h1]
    rw [hsn]
    have h1b : (r == q) = false := by simpa using h1
    clear h1
    by_cases h3 : h ≤ 1
    · rw [if_pos h3]
      clear hsn
      go_enter Try.func19, Try.ntmps19
      go_wp2
      refine bodyPost_ret (v := puV _) (by simp [results, Try.results19, go_sem]; done) rfl ⟨rfl, ?_⟩
      exact (by (repeat (first | exact Kept.refl _ _ | (refine Kept.setNew ?_ (by simp <;> omega) _) | (refine Kept.tr ?_ (Kept.alloc _ _ _ _ _)))))
    · rw [if_neg h3]
      clear hsn
      go_enter Try.func19, Try.ntmps19
      go_wp2
      refine bodyPost_ret (v := puV _) (by simp [results, Try.results19, go_sem]; done) rfl ⟨rfl, ?_⟩
      exact (by (repeat (first | exact Kept.refl _ _ | (refine Kept.setNew ?_ (by simp <;> omega) _) | (refine Kept.tr ?_ (Kept.alloc _ _ _ _ _)))))

end Go.Proofs.Ytbgnllpgogbmfaa
