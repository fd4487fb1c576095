/-
  THE CONTRACT of lights: aspects by letters, two a tick (made by a program).
-/
import Derived.Test.YtcgflfngoaccoaaDoorLightsA
namespace Go.Proofs.YtcgflfngoaccoaaDoor
open Go.RowKit Go.Lib Go.Deep
set_option linter.unusedVariables false
set_option linter.unusedSimpArgs false

theorem wrap_in8 {x : Int} (h1 : -9223372036854775808 ≤ x) (h2 : x ≤ 9223372036854775807) : IntKind.i64.wrap x = x := by rw [IntKind.wrap_i64]; omega
def pairL (cs : List Nat) (k : Nat) : List Nat := [aspN (cs.getD (2 * k) 0), aspN (cs.getD (2 * k + 1) 0)]
def lightsL (cs : List Nat) : List (List Nat) := (List.range (cs.length / 2)).map (pairL cs)
theorem text_size (cs : List Nat) : (textOf cs).size = cs.length := by simp [textOf, ByteArray.size]
theorem text_at (cs : List Nat) (hb : ∀ x ∈ cs, x < 256) {i : Nat} (hi : i < cs.length) : ∀ h : i < (textOf cs).size, ((textOf cs)[i]'h).toNat = cs.getD i 0 := by
  intro h
  have hx := hb _ (getD_mem (d := 0) hi)
  have e : (textOf cs)[i]'h = UInt8.ofNat (cs.getD i 0) := by
    show (textOf cs).data[i] = _
    simp [textOf, hi]
  rw [e, UInt8.toNat_ofNat']
  exact Nat.mod_eq_of_lt hx
set_option maxRecDepth 100000 in
set_option maxHeartbeats 1000000 in
theorem lights_any {w : World} (cs : List Nat) (hl : cs.length ≤ 200) (hb : ∀ x ∈ cs, x < 256) : Calls Tryd.prog 15 #[.string (textOf cs)] w fun e w' => ∃ a c, e = .returned (.slice a (cs.length / 2) c) ∧ Trc w' a (cs.length / 2) (lightsL cs) ∧ Kept w w' none := by
  have hsz := text_size cs
  have HAT := Hid.mk' (fun i (hi : i < cs.length) => text_at cs hb hi)
  have HB := Hid.mk' hb
  generalize hS : textOf cs = Sx at *
  clear hS hb
  go_enter Tryd.func15, Tryd.ntmps15
  go_wp2
  go_loopw [3, 4] (fun o i wr => ∃ q : Nat, q ≤ cs.length ∧ i = .int .i64 (q : Int) ∧ Kept w wr none ∧ ∃ l : List Lt, q = 2 * l.length ∧ LtS wr w.heap.size o l ∧ l.map (·.2.1) = (List.range l.length).map (pairL cs)) (fun _ i _ => cs.length + 1 - (intOf i).toNat)
  case atStart => exact ⟨0, by omega, rfl, Kept.refl _ _, [], rfl, LtS.nil _ _, rfl⟩
  case round =>
    obtain ⟨q, hq, rfl, hkw, l, hql, hL, hmap⟩ := hrel
    obtain ⟨a, c, rfl⟩ := hL.shape
    have HKW := Hid.mk' hkw
    have HQL := Hid.mk' hql
    have HL := Hid.mk' hL
    have HMAP := Hid.mk' hmap
    clear hkw hql hL hmap
    by_cases hlt : q + 1 < cs.length
    · have hlt1 : (q : Int) + 1 < (cs.length : Int) := by omega
      have hlt0 : q < cs.length := by omega
      have hwq : IntKind.i64.wrap ((q : Int) + 1) = (q : Int) + 1 := wrap_in8 (by omega) (by omega)
      have hq1 : (0 : Int) ≤ (q : Int) + 1 := by omega
      have hq2 : ((q : Int) + 1).toNat = q + 1 := by omega
      have a0 := HAT.out q (by omega)
      have a1 := HAT.out (q + 1) hlt
      have hx : cs.getD q 0 < 256 := HB.out _ (getD_mem (by omega))
      have hy : cs.getD (q + 1) 0 < 256 := HB.out _ (getD_mem (by omega))
      have HP : Hid (pairL cs l.length = [aspN (cs.getD q 0), aspN (cs.getD (q + 1) 0)]) := by show _ = _; unfold pairL; rw [HQL.out]
      generalize cs.getD q 0 = x at *
      generalize cs.getD (q + 1) 0 = y at *
      go_wp2
      have hk1 : Kept wr.drew (wr.drew.alloc (.cells #[.int .u8 ((aspN x : Nat) : Int), .int .u8 ((aspN y : Nat) : Int)] 5)) none := Kept.alloc _ _ _ _ _
      have hby : By (wr.drew.alloc (.cells #[.int .u8 ((aspN x : Nat) : Int), .int .u8 ((aspN y : Nat) : Int)] 5)) (some ⟨wr.heap.size, 0, none⟩) 2 [aspN x, aspN y] := By.alloc wr.drew [aspN x, aspN y] 5 (0, 0) _ (fun i hi => by
        have : i = 0 ∨ i = 1 := by simp at hi; omega
        rcases this with rfl | rfl <;> rfl) (by simp) (fun z hz => by
        have : z = aspN x ∨ z = aspN y := by simpa using hz
        rcases this with rfl | rfl <;> exact aspN_lt _)
      have hl4 := (HL.out.kept (Kept.drew wr none)).kept hk1
      have hown := (HL.out.own).lt
      obtain ⟨a2, c2, W5, hr, hL5, hk5⟩ := hl4.grow (some ⟨wr.heap.size, 0, none⟩, [aspN x, aspN y], 2) hby (fun b e => by
        injection e with e
        subst e
        exact ⟨fun ec => by have h2 := (hown wr.heap.size ec).2; omega, by simp⟩) (by have := HQL.out; omega) (by have := HKW.out.size; simp; omega)
      have hsz4 : (wr.drew.alloc (.cells #[.int .u8 ((aspN x : Nat) : Int), .int .u8 ((aspN y : Nat) : Int)] 5)).heap.size = wr.heap.size + 1 := by simp
      rw [hsz4] at hr
      simp only [List.length_cons, List.length_nil, Nat.reduceAdd] at hr
      have HR := Hid.mk' hr
      have HL5 := Hid.mk' hL5
      have HK5 := Hid.mk' (((HKW.out.tr (Kept.drew wr none)).tr hk1).newRow hk5 (fun i e => (hown i e).1))
      clear hr hL5 hk5 hl4 hk1 hby hown hsz4
      refine Code.wp_mono (Q := Rs ?A (fun w' => w' = W5)) ?cont ?reg
      case reg =>
        repeat (rename_i hh; clear hh)
        refine wp_region_held_drew (S := fun _ => True) (by kernel_rfl) trivial (fun hHeld => ?_)
        refine held_take (i := 0) (v := ?v1) rfl rfl (by kernel_rfl) (by kernel_rfl) (by kernel_rfl) (fun _ _ _ h => h) (Or.inl ⟨by rfl, ?hy1⟩) hHeld ?rest1
        case hy1 => first | (intro w hSw; (try dsimp only at hSw); go_simp; done) | (intro w hSw; (try dsimp only at hSw); go_simp; with_reducible rfl)
        try simp only [List.setIfInBounds_toArray, List.set_cons_zero, List.set_cons_succ]
        refine held_take (i := 1) (v := ?v2) rfl rfl (by kernel_rfl) (by kernel_rfl) (by kernel_rfl) (fun _ _ _ h => h) (Or.inl ⟨by rfl, ?hy2⟩) hHeld ?rest2
        case hy2 => first | (intro w hSw; (try dsimp only at hSw); go_simp; done) | (intro w hSw; (try dsimp only at hSw); go_simp; with_reducible rfl)
        try simp only [List.setIfInBounds_toArray, List.set_cons_zero, List.set_cons_succ]
        refine held_take (i := 2) (v := ?v3) rfl rfl (by kernel_rfl) (by kernel_rfl) (by kernel_rfl) (fun _ _ _ h => h) (Or.inl ⟨by rfl, ?hy3⟩) hHeld ?rest3
        case hy3 => first | (intro w hSw; (try dsimp only at hSw); go_simp; done) | (intro w hSw; (try dsimp only at hSw); go_simp; with_reducible rfl)
        try simp only [List.setIfInBounds_toArray, List.set_cons_zero, List.set_cons_succ]
        refine held_take (i := 3) (v := ?v4) rfl rfl (by kernel_rfl) (by kernel_rfl) (by kernel_rfl) (fun _ _ _ h => h) (Or.inl ⟨by rfl, ?hy4⟩) hHeld ?rest4
        case hy4 => first | (intro w hSw; (try dsimp only at hSw); go_simp; done) | (intro w hSw; (try dsimp only at hSw); go_simp; with_reducible rfl)
        try simp only [List.setIfInBounds_toArray, List.set_cons_zero, List.set_cons_succ]
        refine held_take (i := 5) (v := ?v5) rfl rfl (by kernel_rfl) (by kernel_rfl) (by kernel_rfl) (fun _ _ _ h => h) (Or.inl ⟨by rfl, ?hy5⟩) hHeld ?rest5
        case hy5 => first | (intro w hSw; (try dsimp only at hSw); go_simp; done) | (intro w hSw; (try dsimp only at hSw); go_simp; with_reducible rfl)
        try simp only [List.setIfInBounds_toArray, List.set_cons_zero, List.set_cons_succ]
        refine held_take (i := 6) (v := ?v6) rfl rfl (by kernel_rfl) (by kernel_rfl) (by kernel_rfl) (fun _ _ _ h => h) (Or.inl ⟨by rfl, ?hy6⟩) hHeld ?rest6
        case hy6 => first | (intro w hSw; (try dsimp only at hSw); go_simp; done) | (intro w hSw; (try dsimp only at hSw); go_simp; with_reducible rfl)
        try simp only [List.setIfInBounds_toArray, List.set_cons_zero, List.set_cons_succ]
        refine held_take (i := 7) (v := ?v7) rfl rfl (by kernel_rfl) (by kernel_rfl) (by kernel_rfl) (fun _ _ _ h => h) (Or.inl ⟨by rfl, ?hy7⟩) hHeld ?rest7
        case hy7 => first | (intro w hSw; (try dsimp only at hSw); go_simp; done) | (intro w hSw; (try dsimp only at hSw); go_simp; with_reducible rfl)
        try simp only [List.setIfInBounds_toArray, List.set_cons_zero, List.set_cons_succ]
        refine held_take (i := 8) (v := ?v8) rfl rfl (by kernel_rfl) (by kernel_rfl) (by kernel_rfl) (fun _ _ _ h => h) (Or.inl ⟨by rfl, ?hy8⟩) hHeld ?rest8
        case hy8 => first | (intro w hSw; (try dsimp only at hSw); go_simp; done) | (intro w hSw; (try dsimp only at hSw); go_simp; with_reducible rfl)
        try simp only [List.setIfInBounds_toArray, List.set_cons_zero, List.set_cons_succ]
        refine wpAnyH_ready (rs := [4]) (by kernel_rfl) (by simp) ?_
        refine AllReadyH.cons rfl (fun K hK => ?_) AllReadyH.nil
        go_simp
        go_wp2_with (go_at_call 23; refine (asp_any x _).mono ?_; rintro e wS ⟨rfl, hwS⟩; have hwS := hwS.symm; subst hwS)
        refine hK.out _ _ trivial (fun hHeld => ?_)
        clear hK K
        refine wpAnyH_ready (rs := [9]) (by kernel_rfl) (by simp) ?_
        refine AllReadyH.cons rfl (fun K hK => ?_) AllReadyH.nil
        go_simp
        go_wp2_with (go_at_call 23; refine (asp_any y _).mono ?_; rintro e wS ⟨rfl, hwS⟩; have hwS := hwS.symm; subst hwS)
        refine hK.out _ _ trivial (fun hHeld => ?_)
        clear hK K
        refine wpAnyH_ready (rs := [10]) (by kernel_rfl) (by simp) ?_
        refine AllReadyH.cons rfl (fun K hK => ?_) AllReadyH.nil
        go_simp
        refine hK.out _ _ trivial (fun hHeld => ?_)
        clear hK K
        refine wpAnyH_ready (rs := [11]) (by kernel_rfl) (by simp) ?_
        refine AllReadyH.cons rfl (fun K hK => ?_) AllReadyH.nil
        go_simp
        refine hK.out _ _ trivial (fun hHeld => ?_)
        clear hK K
        refine wpAnyH_ready (rs := [12]) (by kernel_rfl) (by simp) ?_
        refine AllReadyH.cons rfl (fun K hK => ?_) AllReadyH.nil
        rw [if_pos (by rfl)]
        refine wp_app8 _ _ _ (by rfl) (by rfl) (by rfl) HR.out ?_
        try simp only [Act.put, List.setIfInBounds_toArray, List.set_cons_zero, List.set_cons_succ]
        refine hK.out _ _ trivial (fun hHeld => ?_)
        clear hK K
        refine held_take (i := 13) (v := ?v9) rfl rfl (by kernel_rfl) (by kernel_rfl) (by kernel_rfl) (fun _ _ _ h => h) (Or.inl ⟨by rfl, ?hy9⟩) hHeld ?rest9
        case hy9 => first | (intro w hSw; (try dsimp only at hSw); go_simp; done) | (intro w hSw; (try dsimp only at hSw); go_simp; with_reducible rfl)
        try simp only [List.setIfInBounds_toArray, List.set_cons_zero, List.set_cons_succ]
        refine wpAnyH_done (by kernel_rfl) ?_ _
        exact And.intro (by with_reducible rfl) rfl
      case cont =>
      intro e a' w' hq'
      obtain ⟨rfl, rfl, rfl⟩ := hq'.out
      go_wp2
      go_roundw
      case rel =>
        refine ⟨q + 2, by omega, by go_num, HK5.out, l ++ [(some ⟨wr.heap.size, 0, none⟩, [aspN x, aspN y], 2)], by have := HQL.out; simp; omega, HL5.out, ?_⟩
        rw [List.map_append, List.length_append, HMAP.out, List.length_singleton, List.range_succ, List.map_append]
        simp [HP.out]
      case measure => simp [intOf]; omega
    · have hlt1 : ¬ (q : Int) + 1 < (cs.length : Int) := by omega
      go_wp2
      go_ret
      obtain ⟨a2, c2, e, ht⟩ := HL.out.trc (by have := HQL.out; omega)
      have hn : l.length = cs.length / 2 := by have := HQL.out; omega
      injection e with e1 e2 e3
      subst e1 e3
      rw [HMAP.out] at ht
      refine ⟨a, ⟨c, by rw [← hn]; rfl⟩, ?_, HKW.out⟩
      rw [← hn]
      have : lightsL cs = (List.range l.length).map (pairL cs) := by unfold lightsL; rw [hn]
      rw [this]
      exact ht

end Go.Proofs.YtcgflfngoaccoaaDoor
