/-
  Part 9 of the texts that the proofs of this seat stand on.
-/
import Derived.Test.YtoahbpdgbiachaaDoorPart8
import Derived.Test.YtoahbpdgbiachaaDoorPart7
import Derived.Test.YtoahbpdgbiachaaDoorPart6
/-
  THE CONTRACTS of readSites, readSubs, readCycles, readWeds.
-/
namespace Go.Proofs.YtoahbpdgbiachaaDoor
open Go.RowKit Go.Lib Go.Deep
set_option linter.unusedVariables false
set_option linter.unusedSimpArgs false

set_option maxRecDepth 100000 in
set_option maxHeartbeats 2000000 in
theorem readSites_t {t0 t1 t2 t3 t4 t5 : Value} {w : World} {H b : Nat} {s : Rd} (h : Rt #[t0, t1, t2, t3, t4, t5] w H b s) (hH : H ≤ w.heap.size) (hT : Tabs w b) : Calls Tryd.prog 29 #[.pointer (some ⟨b, 0, none⟩)] w fun e w' => e = .returned (.tuple #[]) ∧ ∃ (a : Nat) (A : Nat → Sa), (∀ w'', Ltr H w' w'' → Lie w'' (some ⟨a, 0, none⟩) (countM 12 nsiteM s).1.length 12 (fun i j => stV (A i) ((countM 12 nsiteM s).1.getD i s0) j) ∧ ∀ i, i < (countM 12 nsiteM s).1.length → Sat w'' (A i) ((countM 12 nsiteM s).1.getD i s0)) ∧ Rt #[.slice (some ⟨a, 0, none⟩) (countM 12 nsiteM s).1.length (countM 12 nsiteM s).1.length, t1, t2, t3, t4, t5] w' H b (countM 12 nsiteM s).2 ∧ Kept w w' (some b) := by
  have hbl := h.lt
  have HE : Hid ((countM 12 nsiteM s) = listM nsiteM (upM 12 s).1 (upM 12 s).2) := rfl
  have hlen := listM_len nsiteM (upM 12 s).1 (upM 12 s).2
  have hle := upM_le 12 s
  rw [HE.out, hlen]
  clear HE hlen
  generalize hu2 : upM 12 s = u2 at *
  have HU2 := Hid.mk' hu2
  clear hu2
  obtain ⟨v2, s2⟩ := u2
  dsimp only at *
  have H0 := Hid.mk' h
  clear h
  have HT := Hid.mk' hT
  clear hT
  go_enter Tryd.func29, Tryd.ntmps29
  go_wp2_with (first
    | (have hgo := R2; clear hgo; go_at_call 48; refine (list_nsite R2.out (by have h2 := hk2.size; omega) (HT.out.kept hk2) v2 (by omega)).mono ?_; rintro e w3 ⟨rfl, hl3, hr3, hk3⟩; have kc := hr3.tl 0 _ rfl; have zc := hr3.fz 2; have R3 := Hid.mk' hr3; have L3 := Hid.mk' hl3; clear hr3 hl3)
    | (go_at_call 49; have hn := many_t H0.out 12 (by omega); rw [HU2.out] at hn; refine hn.mono ?_; rintro e w2 ⟨rfl, hr2, hk2⟩; have R2 := Hid.mk' hr2; clear hr2))
  have hsz := hk2.size
  go_end0
  obtain ⟨A, hL1, hL2⟩ := L3.out
  exact ⟨rfl, w2.heap.size, A, fun w'' q => ⟨hL1.ltr ((Ltr.set _ hbl _ _).tr q) (by omega), fun i hi => hL2 i hi w'' (((Ltr.set _ hbl _ _).tr q).up (by omega))⟩, R3.out.put 0 (by simp) _, (hk2.tr hk3).tr (kept_set _ _ _ _)⟩
set_option maxRecDepth 100000 in
set_option maxHeartbeats 2000000 in
theorem readSubs_t {t0 t1 t2 t3 t4 t5 : Value} {w : World} {H b : Nat} {s : Rd} (h : Rt #[t0, t1, t2, t3, t4, t5] w H b s) (hH : H ≤ w.heap.size) : Calls Tryd.prog 30 #[.pointer (some ⟨b, 0, none⟩)] w fun e w' => e = .returned (.tuple #[]) ∧ ∃ (a : Nat) (A : Nat → (Option Addr × Nat)), (∀ w'', Ltr H w' w'' → Lie w'' (some ⟨a, 0, none⟩) (countM 6 subM s).1.length 2 (fun i j => sbV ((countM 6 subM s).1.getD i u0) (A i).1 (A i).2 j) ∧ ∀ i, i < (countM 6 subM s).1.length → Ints w'' (A i).1 ((countM 6 subM s).1.getD i u0).sites.length (A i).2 ((countM 6 subM s).1.getD i u0).sites) ∧ Rt #[t0, .slice (some ⟨a, 0, none⟩) (countM 6 subM s).1.length (countM 6 subM s).1.length, t2, t3, t4, t5] w' H b (countM 6 subM s).2 ∧ Kept w w' (some b) := by
  have hbl := h.lt
  have HE : Hid ((countM 6 subM s) = listM subM (upM 6 s).1 (upM 6 s).2) := rfl
  have hlen := listM_len subM (upM 6 s).1 (upM 6 s).2
  have hle := upM_le 6 s
  rw [HE.out, hlen]
  clear HE hlen
  generalize hu2 : upM 6 s = u2 at *
  have HU2 := Hid.mk' hu2
  clear hu2
  obtain ⟨v2, s2⟩ := u2
  dsimp only at *
  have H0 := Hid.mk' h
  clear h
  go_enter Tryd.func30, Tryd.ntmps30
  go_wp2_with (first
    | (have hgo := R2; clear hgo; go_at_call 51; refine (list_nsub R2.out (by have h2 := hk2.size; omega) v2 (by omega)).mono ?_; rintro e w3 ⟨rfl, hl3, hr3, hk3⟩; have kc := hr3.tl 1 _ rfl; have zc := hr3.fz 3; have R3 := Hid.mk' hr3; have L3 := Hid.mk' hl3; clear hr3 hl3)
    | (go_at_call 49; have hn := many_t H0.out 6 (by omega); rw [HU2.out] at hn; refine hn.mono ?_; rintro e w2 ⟨rfl, hr2, hk2⟩; have R2 := Hid.mk' hr2; clear hr2))
  have hsz := hk2.size
  go_end0
  obtain ⟨A, hL1, hL2⟩ := L3.out
  exact ⟨rfl, w2.heap.size, A, fun w'' q => ⟨hL1.ltr ((Ltr.set _ hbl _ _).tr q) (by omega), fun i hi => hL2 i hi w'' (((Ltr.set _ hbl _ _).tr q).up (by omega))⟩, R3.out.put 1 (by simp) _, (hk2.tr hk3).tr (kept_set _ _ _ _)⟩
set_option maxRecDepth 100000 in
set_option maxHeartbeats 2000000 in
theorem readWeds_t {t0 t1 t2 t3 t4 t5 : Value} {w : World} {H b : Nat} {s : Rd} (h : Rt #[t0, t1, t2, t3, t4, t5] w H b s) (hH : H ≤ w.heap.size) : Calls Tryd.prog 32 #[.pointer (some ⟨b, 0, none⟩)] w fun e w' => e = .returned (.tuple #[]) ∧ ∃ (a : Nat) (A : Nat → (Option Addr × Nat)), (∀ w'', Ltr H w' w'' → Lie w'' (some ⟨a, 0, none⟩) (countM 8 wedM s).1.length 4 (fun i j => wdV ((countM 8 wedM s).1.getD i d0) (A i).1 (A i).2 j) ∧ ∀ i, i < (countM 8 wedM s).1.length → Ints w'' (A i).1 ((countM 8 wedM s).1.getD i d0).offsets.length (A i).2 ((countM 8 wedM s).1.getD i d0).offsets) ∧ Rt #[t0, t1, .slice (some ⟨a, 0, none⟩) (countM 8 wedM s).1.length (countM 8 wedM s).1.length, t3, t4, t5] w' H b (countM 8 wedM s).2 ∧ Kept w w' (some b) := by
  have hbl := h.lt
  have HE : Hid ((countM 8 wedM s) = listM wedM (upM 8 s).1 (upM 8 s).2) := rfl
  have hlen := listM_len wedM (upM 8 s).1 (upM 8 s).2
  have hle := upM_le 8 s
  rw [HE.out, hlen]
  clear HE hlen
  generalize hu2 : upM 8 s = u2 at *
  have HU2 := Hid.mk' hu2
  clear hu2
  obtain ⟨v2, s2⟩ := u2
  dsimp only at *
  have H0 := Hid.mk' h
  clear h
  go_enter Tryd.func32, Tryd.ntmps32
  go_wp2_with (first
    | (have hgo := R2; clear hgo; go_at_call 54; refine (list_nwed R2.out (by have h2 := hk2.size; omega) v2 (by omega)).mono ?_; rintro e w3 ⟨rfl, hl3, hr3, hk3⟩; have kc := hr3.tl 2 _ rfl; have zc := hr3.fz 4; have R3 := Hid.mk' hr3; have L3 := Hid.mk' hl3; clear hr3 hl3)
    | (go_at_call 49; have hn := many_t H0.out 8 (by omega); rw [HU2.out] at hn; refine hn.mono ?_; rintro e w2 ⟨rfl, hr2, hk2⟩; have R2 := Hid.mk' hr2; clear hr2))
  have hsz := hk2.size
  go_end0
  obtain ⟨A, hL1, hL2⟩ := L3.out
  exact ⟨rfl, w2.heap.size, A, fun w'' q => ⟨hL1.ltr ((Ltr.set _ hbl _ _).tr q) (by omega), fun i hi => hL2 i hi w'' (((Ltr.set _ hbl _ _).tr q).up (by omega))⟩, R3.out.put 2 (by simp) _, (hk2.tr hk3).tr (kept_set _ _ _ _)⟩
set_option maxRecDepth 100000 in
set_option maxHeartbeats 2000000 in
theorem readCycles_t {t0 t1 t2 t3 t4 t5 : Value} {w : World} {H b : Nat} {s : Rd} (h : Rt #[t0, t1, t2, t3, t4, t5] w H b s) : Calls Tryd.prog 31 #[.pointer (some ⟨b, 0, none⟩)] w fun e w' => e = .returned (.tuple #[]) ∧ Rt #[t0, t1, t2, .int .i64 (numM s).1, .int .i64 (numM (numM s).2).1, .int .i64 (numM (numM (numM s).2).2).1] w' H b (numM (numM (numM s).2).2).2 ∧ Kept w w' (some b) := by
  have hbl := h.lt
  have H0 := Hid.mk' (h.kept (Kept.drew _ none) (fun i e => by cases e))
  clear h
  generalize hu0 : numM s = u0 at *
  have HU0 := Hid.mk' hu0
  clear hu0
  obtain ⟨v0, s0⟩ := u0
  dsimp only at *
  generalize hu1 : numM s0 = u1 at *
  have HU1 := Hid.mk' hu1
  clear hu1
  obtain ⟨v1, s1⟩ := u1
  dsimp only at *
  generalize hu2 : numM s1 = u2 at *
  have HU2 := Hid.mk' hu2
  clear hu2
  obtain ⟨v2, s2⟩ := u2
  dsimp only at *
  go_enter Tryd.func31, Tryd.ntmps31
  go_wp2
  refine wp_region_held_drew (S := fun _ => True) (by kernel_rfl) trivial (fun _ => ?_)
  refine held_take (i := 0) (v := ?vp1x0) rfl rfl (by kernel_rfl) (by kernel_rfl) (by kernel_rfl) (fun _ _ _ h => h) (Or.inl ⟨by rfl, ?hyp1x0⟩) trivial ?restp1x0
  case hyp1x0 => first | (intro w hSw; go_simp; done) | (intro w hSw; go_simp; with_reducible rfl)
  try simp only [List.setIfInBounds_toArray, List.set_cons_zero, List.set_cons_succ]
  refine held_take (i := 1) (v := ?vp1x1) rfl rfl (by kernel_rfl) (by kernel_rfl) (by kernel_rfl) (fun _ _ _ h => h) (Or.inl ⟨by rfl, ?hyp1x1⟩) trivial ?restp1x1
  case hyp1x1 => first | (intro w hSw; go_simp; done) | (intro w hSw; go_simp; with_reducible rfl)
  try simp only [List.setIfInBounds_toArray, List.set_cons_zero, List.set_cons_succ]
  refine held_take (i := 2) (v := ?vp1x2) rfl rfl (by kernel_rfl) (by kernel_rfl) (by kernel_rfl) (fun _ _ _ h => h) (Or.inl ⟨by rfl, ?hyp1x2⟩) trivial ?restp1x2
  case hyp1x2 => first | (intro w hSw; go_simp; done) | (intro w hSw; go_simp; with_reducible rfl)
  try simp only [List.setIfInBounds_toArray, List.set_cons_zero, List.set_cons_succ]
  refine held_take (i := 3) (v := ?vp1x3) rfl rfl (by kernel_rfl) (by kernel_rfl) (by kernel_rfl) (fun _ _ _ h => h) (Or.inl ⟨by rfl, ?hyp1x3⟩) trivial ?restp1x3
  case hyp1x3 => first | (intro w hSw; go_simp; done) | (intro w hSw; go_simp; with_reducible rfl)
  try simp only [List.setIfInBounds_toArray, List.set_cons_zero, List.set_cons_succ]
  refine held_take (i := 4) (v := ?vp1x4) rfl rfl (by kernel_rfl) (by kernel_rfl) (by kernel_rfl) (fun _ _ _ h => h) (Or.inl ⟨by rfl, ?hyp1x4⟩) trivial ?restp1x4
  case hyp1x4 => first | (intro w hSw; go_simp; done) | (intro w hSw; go_simp; with_reducible rfl)
  try simp only [List.setIfInBounds_toArray, List.set_cons_zero, List.set_cons_succ]
  refine held_take (i := 5) (v := ?vp1x5) rfl rfl (by kernel_rfl) (by kernel_rfl) (by kernel_rfl) (fun _ _ _ h => h) (Or.inl ⟨by rfl, ?hyp1x5⟩) trivial ?restp1x5
  case hyp1x5 => first | (intro w hSw; go_simp; done) | (intro w hSw; go_simp; with_reducible rfl)
  try simp only [List.setIfInBounds_toArray, List.set_cons_zero, List.set_cons_succ]
  refine held_take (i := 7) (v := ?vp1x7) rfl rfl (by kernel_rfl) (by kernel_rfl) (by kernel_rfl) (fun _ _ _ h => h) (Or.inl ⟨by rfl, ?hyp1x7⟩) trivial ?restp1x7
  case hyp1x7 => first | (intro w hSw; go_simp; done) | (intro w hSw; go_simp; with_reducible rfl)
  try simp only [List.setIfInBounds_toArray, List.set_cons_zero, List.set_cons_succ]
  refine held_take (i := 8) (v := ?vp1x8) rfl rfl (by kernel_rfl) (by kernel_rfl) (by kernel_rfl) (fun _ _ _ h => h) (Or.inl ⟨by rfl, ?hyp1x8⟩) trivial ?restp1x8
  case hyp1x8 => first | (intro w hSw; go_simp; done) | (intro w hSw; go_simp; with_reducible rfl)
  try simp only [List.setIfInBounds_toArray, List.set_cons_zero, List.set_cons_succ]
  refine held_take (i := 9) (v := ?vp1x9) rfl rfl (by kernel_rfl) (by kernel_rfl) (by kernel_rfl) (fun _ _ _ h => h) (Or.inl ⟨by rfl, ?hyp1x9⟩) trivial ?restp1x9
  case hyp1x9 => first | (intro w hSw; go_simp; done) | (intro w hSw; go_simp; with_reducible rfl)
  try simp only [List.setIfInBounds_toArray, List.set_cons_zero, List.set_cons_succ]
  refine held_take (i := 11) (v := ?vp1x11) rfl rfl (by kernel_rfl) (by kernel_rfl) (by kernel_rfl) (fun _ _ _ h => h) (Or.inl ⟨by rfl, ?hyp1x11⟩) trivial ?restp1x11
  case hyp1x11 => first | (intro w hSw; go_simp; done) | (intro w hSw; go_simp; with_reducible rfl)
  try simp only [List.setIfInBounds_toArray, List.set_cons_zero, List.set_cons_succ]
  refine held_take (i := 12) (v := ?vp1x12) rfl rfl (by kernel_rfl) (by kernel_rfl) (by kernel_rfl) (fun _ _ _ h => h) (Or.inl ⟨by rfl, ?hyp1x12⟩) trivial ?restp1x12
  case hyp1x12 => first | (intro w hSw; go_simp; done) | (intro w hSw; go_simp; with_reducible rfl)
  try simp only [List.setIfInBounds_toArray, List.set_cons_zero, List.set_cons_succ]
  refine held_take (i := 13) (v := ?vp1x13) rfl rfl (by kernel_rfl) (by kernel_rfl) (by kernel_rfl) (fun _ _ _ h => h) (Or.inl ⟨by rfl, ?hyp1x13⟩) trivial ?restp1x13
  case hyp1x13 => first | (intro w hSw; go_simp; done) | (intro w hSw; go_simp; with_reducible rfl)
  try simp only [List.setIfInBounds_toArray, List.set_cons_zero, List.set_cons_succ]
  refine wpAnyH_ready (rs := [6]) (by kernel_rfl) (by simp) ?_
  refine AllReadyH.cons rfl (fun K hK => ?_) AllReadyH.nil
  go_simp
  go_wp2_with (go_at_call 53; have hn := number_t H0.out; rw [HU0.out] at hn; refine hn.mono ?_; rintro e w0 ⟨rfl, hr0, hk0⟩)
  refine hK.out _ _ trivial (fun _ => ?_)
  clear hK K
  refine wpAnyH_ready (rs := [10]) (by kernel_rfl) (by simp) ?_
  refine AllReadyH.cons rfl (fun K hK => ?_) AllReadyH.nil
  go_simp
  go_wp2_with (go_at_call 53; have hn := number_t hr0; rw [HU1.out] at hn; refine hn.mono ?_; rintro e w1 ⟨rfl, hr1, hk1⟩)
  refine hK.out _ _ trivial (fun _ => ?_)
  clear hK K
  refine wpAnyH_ready (rs := [14]) (by kernel_rfl) (by simp) ?_
  refine AllReadyH.cons rfl (fun K hK => ?_) AllReadyH.nil
  go_simp
  go_wp2_with (go_at_call 53; have hn := number_t hr1; rw [HU2.out] at hn; refine hn.mono ?_; rintro e w2 ⟨rfl, hr2, hk2⟩)
  refine hK.out _ _ trivial (fun _ => ?_)
  clear hK K
  refine held_take (i := 15) (v := ?vp2x15) rfl rfl (by kernel_rfl) (by kernel_rfl) (by kernel_rfl) (fun _ _ _ h => h) (Or.inl ⟨by rfl, ?hyp2x15⟩) trivial ?restp2x15
  case hyp2x15 => first | (intro w hSw; go_simp; done) | (intro w hSw; go_simp; with_reducible rfl)
  try simp only [List.setIfInBounds_toArray, List.set_cons_zero, List.set_cons_succ]
  refine held_take (i := 16) (v := ?vp2x16) rfl rfl (by kernel_rfl) (by kernel_rfl) (by kernel_rfl) (fun _ _ _ h => h) (Or.inl ⟨by rfl, ?hyp2x16⟩) trivial ?restp2x16
  case hyp2x16 => first | (intro w hSw; go_simp; done) | (intro w hSw; go_simp; with_reducible rfl)
  try simp only [List.setIfInBounds_toArray, List.set_cons_zero, List.set_cons_succ]
  refine held_take (i := 17) (v := ?vp2x17) rfl rfl (by kernel_rfl) (by kernel_rfl) (by kernel_rfl) (fun _ _ _ h => h) (Or.inl ⟨by rfl, ?hyp2x17⟩) trivial ?restp2x17
  case hyp2x17 => first | (intro w hSw; go_simp; done) | (intro w hSw; go_simp; with_reducible rfl)
  try simp only [List.setIfInBounds_toArray, List.set_cons_zero, List.set_cons_succ]
  have k3 := hr2.tl 3 _ rfl
  have k4 := hr2.tl 4 _ rfl
  have k5 := hr2.tl 5 _ rfl
  have z3 := hr2.fz 5
  have z4 := hr2.fz 6
  have z5 := hr2.fz 7
  refine wpAnyH_ready (rs := [18]) (by kernel_rfl) (by simp) ?_
  refine AllReadyH.cons rfl (fun K hK => ?_) AllReadyH.nil
  go_simp
  refine hK.out _ _ trivial (fun _ => ?_)
  clear hK K
  refine held_take (i := 19) (v := ?vp3x19) rfl rfl (by kernel_rfl) (by kernel_rfl) (by kernel_rfl) (fun _ _ _ h => h) (Or.inl ⟨by rfl, ?hyp3x19⟩) trivial ?restp3x19
  case hyp3x19 => first | (intro w hSw; go_simp; done) | (intro w hSw; go_simp; with_reducible rfl)
  try simp only [List.setIfInBounds_toArray, List.set_cons_zero, List.set_cons_succ]
  refine held_take (i := 20) (v := ?vp3x20) rfl rfl (by kernel_rfl) (by kernel_rfl) (by kernel_rfl) (fun _ _ _ h => h) (Or.inl ⟨by rfl, ?hyp3x20⟩) trivial ?restp3x20
  case hyp3x20 => first | (intro w hSw; go_simp; done) | (intro w hSw; go_simp; with_reducible rfl)
  try simp only [List.setIfInBounds_toArray, List.set_cons_zero, List.set_cons_succ]
  refine held_take (i := 21) (v := ?vp3x21) rfl rfl (by kernel_rfl) (by kernel_rfl) (by kernel_rfl) (fun _ _ _ h => h) (Or.inl ⟨by rfl, ?hyp3x21⟩) trivial ?restp3x21
  case hyp3x21 => first | (intro w hSw; go_simp; done) | (intro w hSw; go_simp; with_reducible rfl)
  try simp only [List.setIfInBounds_toArray, List.set_cons_zero, List.set_cons_succ]
  refine wpAnyH_ready (rs := [22]) (by kernel_rfl) (by simp) ?_
  refine AllReadyH.cons rfl (fun K hK => ?_) AllReadyH.nil
  go_simp
  refine hK.out _ _ trivial (fun _ => ?_)
  clear hK K
  refine held_take (i := 23) (v := ?vp4x23) rfl rfl (by kernel_rfl) (by kernel_rfl) (by kernel_rfl) (fun _ _ _ h => h) (Or.inl ⟨by rfl, ?hyp4x23⟩) trivial ?restp4x23
  case hyp4x23 => first | (intro w hSw; go_simp; done) | (intro w hSw; go_simp; with_reducible rfl)
  try simp only [List.setIfInBounds_toArray, List.set_cons_zero, List.set_cons_succ]
  refine held_take (i := 24) (v := ?vp4x24) rfl rfl (by kernel_rfl) (by kernel_rfl) (by kernel_rfl) (fun _ _ _ h => h) (Or.inl ⟨by rfl, ?hyp4x24⟩) trivial ?restp4x24
  case hyp4x24 => first | (intro w hSw; go_simp; done) | (intro w hSw; go_simp; with_reducible rfl)
  try simp only [List.setIfInBounds_toArray, List.set_cons_zero, List.set_cons_succ]
  refine held_take (i := 25) (v := ?vp4x25) rfl rfl (by kernel_rfl) (by kernel_rfl) (by kernel_rfl) (fun _ _ _ h => h) (Or.inl ⟨by rfl, ?hyp4x25⟩) trivial ?restp4x25
  case hyp4x25 => first | (intro w hSw; go_simp; done) | (intro w hSw; go_simp; with_reducible rfl)
  try simp only [List.setIfInBounds_toArray, List.set_cons_zero, List.set_cons_succ]
  refine wpAnyH_ready (rs := [26]) (by kernel_rfl) (by simp) ?_
  refine AllReadyH.cons rfl (fun K hK => ?_) AllReadyH.nil
  go_simp
  refine hK.out _ _ trivial (fun _ => ?_)
  clear hK K
  refine wpAnyH_done (by kernel_rfl) ?_ _
  go_wp2
  go_end0
  exact ⟨rfl, ((hr2.put 3 (by simp) (.int .i64 v0)).put 4 (by simp) (.int .i64 v1)).put 5 (by simp) (.int .i64 v2), ((((((Kept.drew _ _).tr hk0).tr hk1).tr hk2).tr (kept_set _ _ _ _)).tr (kept_set _ _ _ _)).tr (kept_set _ _ _ _)⟩

end Go.Proofs.YtoahbpdgbiachaaDoor

/-
  THE CONTRACT of net.Read.
-/
namespace Go.Proofs.YtoahbpdgbiachaaDoor
open Go.RowKit Go.Lib Go.Deep
set_option linter.unusedVariables false
set_option linter.unusedSimpArgs false

abbrev NTup := List St × (List Sb × (Int × (Int × (Int × List Wd))))
def mkN (z : NTup) : Nt := ⟨z.1, z.2.1, z.2.2.2.2.2, z.2.2.1, z.2.2.2.1, z.2.2.2.2.1⟩
def netM : Rd → Nt × Rd := mapM' mkN (bindM (countM 12 nsiteM) (fun _ => bindM (countM 6 subM) (fun _ => bindM numM (fun _ => bindM numM (fun _ => bindM numM (fun _ => countM 8 wedM))))))
def N0 : Nt := ⟨[], [], [], 0, 0, 0⟩
def Y0 : Na := ⟨none, 0, none, 0, none, 0, fun _ => X0, fun _ => (none, 0), fun _ => (none, 0)⟩
def readN (L : List Nat) : Nt := (netM (L.take (L.length - 4), false)).1
def nreadB (L : List Nat) : Bool := decide (4 ≤ L.length) && (sumOk L && (doneB (netM (L.take (L.length - 4), false)).2 && netB (readN L)))
def NReadP (w : World) (L : List Nat) (e : Ending) (w' : World) : Prop := Kept w w' none ∧ ((nreadB L = true ∧ ∃ Y, e = .returned (.tuple #[netV Y (readN L), .int .i64 0]) ∧ NetAt w' Y (readN L)) ∨ (nreadB L = false ∧ e = .returned (.tuple #[netV Y0 N0, .int .i64 8])))
theorem rt_new {w : World} {a : Option Addr} {n c : Nat} {L : List Nat} (h : Come w a n c L) (t : TypeId) : Rt #[.slice none 0 0, .slice none 0 0, .slice none 0 0, .int .i64 0, .int .i64 0, .int .i64 0] (w.alloc (.cells #[.slice a n c, .bool false, .slice none 0 0, .slice none 0 0, .slice none 0 0, .int .i64 0, .int .i64 0, .int .i64 0] t)) (w.heap.size + 1) w.heap.size (L, false) := by
  have hrow : (w.alloc (.cells #[.slice a n c, .bool false, .slice none 0 0, .slice none 0 0, .slice none 0 0, .int .i64 0, .int .i64 0, .int .i64 0] t)).rowIs w.heap.size t 8 (fun i => #[.slice a n c, .bool false, .slice none 0 0, .slice none 0 0, .slice none 0 0, .int .i64 0, .int .i64 0, .int .i64 0][i]?.getD undef) := World.rowIs_alloc w _ t _ (fun i hi => by rw [Array.getElem?_eq_getElem hi]; rfl)
  have hC := h.keptR (Kept.alloc w #[.slice a n c, .bool false, .slice none 0 0, .slice none 0 0, .slice none 0 0, .int .i64 0, .int .i64 0, .int .i64 0] t (0, 0) none) (fun _ _ _ => by simp)
  refine ⟨⟨⟨a, n, c, hrow.cell (i := 0) (by omega), hC, fun hp x hx => ?_⟩, hrow.cell (i := 1) (by omega), hrow.frozen 0, hrow.frozen 1, ⟨_, hrow.cell (i := 2) (by omega)⟩, hrow.frozen 2, Nat.lt_succ_self _⟩, fun j v hv => ?_, fun j => hrow.frozen j⟩
  · obtain ⟨b', off', e, hb, _⟩ := h.by_.at_ hp
    rw [hx] at e
    injection e with e
    subst e
    exact ⟨by show b' < _; omega, by show b' ≠ _; omega⟩
  · have hj : j < 6 := by
      by_cases hh : j < 6
      · exact hh
      · rw [Array.getElem?_eq_none (by simp; omega)] at hv; cases hv
    have hq := hrow.cell (i := j + 2) (by omega)
    rw [hq]
    have : j = 0 ∨ j = 1 ∨ j = 2 ∨ j = 3 ∨ j = 4 ∨ j = 5 := by omega
    rcases this with rfl | rfl | rfl | rfl | rfl | rfl <;> simpa using hv
theorem alloc_cell (F : World) (cs : Array Value) (t : TypeId) {n j : Nat} {v : Value} (hz : F.heap.size = n) (hv : cs[j]? = some v) : (F.alloc (.cells cs t)).cell? ⟨n, j, none⟩ = some v := by
  subst hz
  simp only [World.cell?_alloc_mark]
  exact hv
theorem cell_f {w w' : World} {b f j : Nat} {v : Value} (h : w.cell? ⟨f, j, none⟩ = some v) (q : Kept w w' (some b)) (hf : f ≠ b) : w'.cell? ⟨f, j, none⟩ = some v := cell_keptR h q (fun e => hf (Option.some.inj e))
set_option maxRecDepth 100000 in
set_option maxHeartbeats 8000000 in
theorem nrd_long {w : World} {a : Option Addr} {m c : Nat} {L : List Nat} (h : Come w a (m + 4) c L) (hT : Tabb w) (hTb : Table w) : Calls Tryd.prog 12 #[.slice a (m + 4 : Nat) c] w (NReadP w L) := by
  obtain ⟨blk, off, rfl, hblk, _⟩ := h.by_.at_ (by omega)
  have hL := h.by_.size
  have hE4 : L.length - 4 = m := by omega
  have hroom := h.room
  have hmax := h.max
  have bt := h.by_.take m (by omega)
  have hAH := fun (v : World) (hv : Kept w v none) => ahead_long (h.keptR hv (fun _ _ _ => by simp)) (hTb.kept hv)
  have HCT : Hid (Come w (some ⟨blk, off, none⟩) m c (L.take m)) := ⟨bt, fun e => (nomatch e), by omega, hmax⟩
  have hB : nreadB L = (decide (L.drop m = sum4 (L.take m)) && (doneB (netM (L.take m, false)).2 && netB (netM (L.take m, false)).1)) := by
    unfold nreadB sumOk readN
    rw [hE4, decide_eq_true (show 4 ≤ L.length by omega)]
    rfl
  have hS : readN L = (netM (L.take m, false)).1 := by unfold readN; rw [hE4]
  have HTA : Hid (∀ w', Kept w w' none → Tabb w' ∧ Table w') := fun w' q => ⟨hT.kept q, hTb.kept q⟩
  unfold NReadP
  rw [hB, hS]
  clear h hL hE4 bt hB hS hTb hT
  generalize L.take m = T at *
  generalize L.drop m = D at *
  generalize hd1 : decide (D = sum4 T) = d1 at *
  clear hd1
  have HAH := Hid.mk' hAH
  clear hAH
  have HE : Hid (netM (T, false) = (mkN ((countM 12 nsiteM (T, false)).1, (countM 6 subM (countM 12 nsiteM (T, false)).2).1, (numM (countM 6 subM (countM 12 nsiteM (T, false)).2).2).1, (numM (numM (countM 6 subM (countM 12 nsiteM (T, false)).2).2).2).1, (numM (numM (numM (countM 6 subM (countM 12 nsiteM (T, false)).2).2).2).2).1, (countM 8 wedM (numM (numM (numM (countM 6 subM (countM 12 nsiteM (T, false)).2).2).2).2).2).1), (countM 8 wedM (numM (numM (numM (countM 6 subM (countM 12 nsiteM (T, false)).2).2).2).2).2).2)) := rfl
  have HX5 : Hid ((countM 12 nsiteM (T, false)).1.length ≤ 1000) := by
    show (countM 12 nsiteM (T, false)).1.length ≤ 1000
    unfold countM; rw [listM_len]; have := upM_le 12 (T, false); omega
  have HX6 : Hid (∀ s, (countM 6 subM s).1.length ≤ 1000 ∧ ∀ x ∈ (countM 6 subM s).1, i64B x.critical) := fun s => ⟨by unfold countM; rw [listM_len]; have := upM_le 6 s; omega, listM_all (P := fun x : Sb => i64B x.critical) (fun s => numM_i64 _) _ _⟩
  have HX8 : Hid (∀ s, (countM 8 wedM s).1.length ≤ 1000 ∧ ∀ x ∈ (countM 8 wedM s).1, i64B x.a ∧ i64B x.b ∧ i64B x.votes) := fun s => ⟨by unfold countM; rw [listM_len]; have := upM_le 8 s; omega, listM_all (P := fun x : Wd => i64B x.a ∧ i64B x.b ∧ i64B x.votes) (fun s => ⟨numM_i64 _, numM_i64 _, numM_i64 _⟩) _ _⟩
  rw [HE.out]
  clear HE
  generalize hu5 : countM 12 nsiteM (T, false) = u5 at *
  have HU5 := Hid.mk' hu5
  clear hu5
  obtain ⟨N5, s5⟩ := u5
  dsimp only at *
  have HX6 := Hid.mk' (HX6.out s5)
  generalize hu6 : countM 6 subM s5 = u6 at *
  have HU6 := Hid.mk' hu6
  clear hu6
  obtain ⟨N6, s6⟩ := u6
  dsimp only at *
  have HX7 : Hid (i64B (numM s6).1 ∧ i64B (numM (numM s6).2).1 ∧ i64B (numM (numM (numM s6).2).2).1) := ⟨numM_i64 _, numM_i64 _, numM_i64 _⟩
  have HC7 : Hid (∀ {t0 t1 t2 t3 t4 t5 : Value} {w : World} {H b : Nat}, Rt #[t0, t1, t2, t3, t4, t5] w H b s6 → Calls Tryd.prog 31 #[.pointer (some ⟨b, 0, none⟩)] w fun e w' => e = .returned (.tuple #[]) ∧ Rt #[t0, t1, t2, .int .i64 (numM s6).1, .int .i64 (numM (numM s6).2).1, .int .i64 (numM (numM (numM s6).2).2).1] w' H b (numM (numM (numM s6).2).2).2 ∧ Kept w w' (some b)) := fun h => readCycles_t h
  generalize numM (numM (numM s6).2).2 = u9 at *
  obtain ⟨lst, s7⟩ := u9
  dsimp only at *
  generalize (numM (numM s6).2).1 = lhi at *
  generalize (numM s6).1 = llo at *
  have HX8 := Hid.mk' (HX8.out s7)
  generalize hu8 : countM 8 wedM s7 = u8 at *
  have HU8 := Hid.mk' hu8
  clear hu8
  obtain ⟨N8, s8⟩ := u8
  dsimp only at *
  have hNE : netE (mkN (N5, N6, llo, lhi, lst, N8)) = if netB (mkN (N5, N6, llo, lhi, lst, N8)) = true then 0 else 60 := rfl
  generalize hd2 : doneB s8 = d2 at *
  have HD2 := Hid.mk' hd2
  clear hd2
  generalize hd3 : netB (mkN (N5, N6, llo, lhi, lst, N8)) = d3 at *
  clear hd3
  have HE6 := Hid.mk' hNE
  clear hNE
  have HROW : Hid ((w.alloc (.cells #[.slice none 0 0, .slice none 0 0, .slice none 0 0, .int .i64 0, .int .i64 0, .int .i64 0] 26)).rowIs w.heap.size 26 6 (fun i => #[.slice none 0 0, .slice none 0 0, .slice none 0 0, .int .i64 0, .int .i64 0, .int .i64 0][i]?.getD undef)) := World.rowIs_alloc w _ _ _ (fun i hi => by rw [Array.getElem?_eq_getElem hi]; rfl)
  have KZ : Hid (Kept w (w.alloc (.cells #[.slice none 0 0, .slice none 0 0, .slice none 0 0, .int .i64 0, .int .i64 0, .int .i64 0] 26)) none) := Kept.alloc w _ _ (0, 0) _
  cases d1
  · go_enter Tryd.func12, Tryd.ntmps12
    go_wp2_with (go_at_call 27; refine (HAH.out _ KZ.out).mono ?_; rintro e w1 ⟨rfl, hk1⟩; have R := row_kept HROW.out hk1 (by simp); have r0 := R.cell (i := 0) (by omega); have y0 := R.frozen 0; have r1 := R.cell (i := 1) (by omega); have y1 := R.frozen 1; have r2 := R.cell (i := 2) (by omega); have y2 := R.frozen 2; have r3 := R.cell (i := 3) (by omega); have y3 := R.frozen 3; have r4 := R.cell (i := 4) (by omega); have y4 := R.frozen 4; have r5 := R.cell (i := 5) (by omega); have y5 := R.frozen 5)
    have hrw := ((((((R.set 0 (.slice none 0 0)).set 1 (.slice none 0 0)).set 2 (.slice none 0 0)).set 3 (.int .i64 0)).set 4 (.int .i64 0)).set 5 (.int .i64 0))
    have q0 := hrw.cell (i := 0) (by omega)
    have q1 := hrw.cell (i := 1) (by omega)
    have q2 := hrw.cell (i := 2) (by omega)
    have q3 := hrw.cell (i := 3) (by omega)
    have q4 := hrw.cell (i := 4) (by omega)
    have q5 := hrw.cell (i := 5) (by omega)
    have HKW := Hid.mk' ((kept_new (kept_new (kept_new (kept_new (kept_new (kept_new (KZ.out.tr hk1) (Nat.le_refl _) 0 (.slice none 0 0)) (Nat.le_refl _) 1 (.slice none 0 0)) (Nat.le_refl _) 2 (.slice none 0 0)) (Nat.le_refl _) 3 (.int .i64 0)) (Nat.le_refl _) 4 (.int .i64 0)) (Nat.le_refl _) 5 (.int .i64 0)))
    refine bodyPost_ret (v := .tuple #[netV Y0 N0, .int .i64 8]) (by simp [results, Tryd.results12, go_sem, Y0, N0, q0, q1, q2, q3, q4, q5]) rfl ?_
    exact ⟨HKW.out, .inr ⟨by simp, rfl⟩⟩
  · go_enter Tryd.func12, Tryd.ntmps12
    go_wp2_with (first
      | (go_at_call 28; refine readerOf_any.mono ?_; rintro e w2 ⟨rfl, hk2⟩)
      | (go_at_call 27; refine (HAH.out _ KZ.out).mono ?_; rintro e w1 ⟨rfl, hk1⟩))
    have HK2 := Hid.mk' ((KZ.out.tr hk1).tr hk2)
    have HRT := Hid.mk' ((rt_new (HCT.out.keptR HK2.out (fun _ _ _ => by simp)) 77).alloc #[.func (.func 29) #[.pointer (some ⟨w2.heap.size, 0, none⟩)] #[], .func (.func 30) #[.pointer (some ⟨w2.heap.size, 0, none⟩)] #[], .func (.func 31) #[.pointer (some ⟨w2.heap.size, 0, none⟩)] #[], .func (.func 32) #[.pointer (some ⟨w2.heap.size, 0, none⟩)] #[]] 1)
    have HK4 : Hid (Kept w2 ((w2.alloc (.cells #[.slice (some ⟨blk, off, none⟩) m c, .bool false, .slice none 0 0, .slice none 0 0, .slice none 0 0, .int .i64 0, .int .i64 0, .int .i64 0] 77)).alloc (.cells #[.func (.func 29) #[.pointer (some ⟨w2.heap.size, 0, none⟩)] #[], .func (.func 30) #[.pointer (some ⟨w2.heap.size, 0, none⟩)] #[], .func (.func 31) #[.pointer (some ⟨w2.heap.size, 0, none⟩)] #[], .func (.func 32) #[.pointer (some ⟨w2.heap.size, 0, none⟩)] #[]] 1)) none) := (Kept.alloc _ _ _ _ _).tr (Kept.alloc _ _ _ _ _)
    have HTS : Hid (Tabs ((w2.alloc (.cells #[.slice (some ⟨blk, off, none⟩) m c, .bool false, .slice none 0 0, .slice none 0 0, .slice none 0 0, .int .i64 0, .int .i64 0, .int .i64 0] 77)).alloc (.cells #[.func (.func 29) #[.pointer (some ⟨w2.heap.size, 0, none⟩)] #[], .func (.func 30) #[.pointer (some ⟨w2.heap.size, 0, none⟩)] #[], .func (.func 31) #[.pointer (some ⟨w2.heap.size, 0, none⟩)] #[], .func (.func 32) #[.pointer (some ⟨w2.heap.size, 0, none⟩)] #[]] 1)) w2.heap.size) := fun w' q => HTA.out w' ((HK2.out.tr HK4.out).newRow q (fun i e => by have := Option.some.inj e; have := HK2.out.size; omega))
    have hz4 : ((w2.alloc (.cells #[.slice (some ⟨blk, off, none⟩) m c, .bool false, .slice none 0 0, .slice none 0 0, .slice none 0 0, .int .i64 0, .int .i64 0, .int .i64 0] 77)).alloc (.cells #[.func (.func 29) #[.pointer (some ⟨w2.heap.size, 0, none⟩)] #[], .func (.func 30) #[.pointer (some ⟨w2.heap.size, 0, none⟩)] #[], .func (.func 31) #[.pointer (some ⟨w2.heap.size, 0, none⟩)] #[], .func (.func 32) #[.pointer (some ⟨w2.heap.size, 0, none⟩)] #[]] 1)).heap.size = w2.heap.size + 2 := by simp
    have HFC : Hid (∀ j v, #[.func (.func 29) #[.pointer (some ⟨w2.heap.size, 0, none⟩)] #[], .func (.func 30) #[.pointer (some ⟨w2.heap.size, 0, none⟩)] #[], .func (.func 31) #[.pointer (some ⟨w2.heap.size, 0, none⟩)] #[], .func (.func 32) #[.pointer (some ⟨w2.heap.size, 0, none⟩)] #[]][j]? = some v → ((w2.alloc (.cells #[.slice (some ⟨blk, off, none⟩) m c, .bool false, .slice none 0 0, .slice none 0 0, .slice none 0 0, .int .i64 0, .int .i64 0, .int .i64 0] 77)).alloc (.cells #[.func (.func 29) #[.pointer (some ⟨w2.heap.size, 0, none⟩)] #[], .func (.func 30) #[.pointer (some ⟨w2.heap.size, 0, none⟩)] #[], .func (.func 31) #[.pointer (some ⟨w2.heap.size, 0, none⟩)] #[], .func (.func 32) #[.pointer (some ⟨w2.heap.size, 0, none⟩)] #[]] 1)).cell? ⟨w2.heap.size + 1, j, none⟩ = some v) := fun j v hv => alloc_cell (w2.alloc (.cells #[.slice (some ⟨blk, off, none⟩) m c, .bool false, .slice none 0 0, .slice none 0 0, .slice none 0 0, .int .i64 0, .int .i64 0, .int .i64 0] 77)) #[.func (.func 29) #[.pointer (some ⟨w2.heap.size, 0, none⟩)] #[], .func (.func 30) #[.pointer (some ⟨w2.heap.size, 0, none⟩)] #[], .func (.func 31) #[.pointer (some ⟨w2.heap.size, 0, none⟩)] #[], .func (.func 32) #[.pointer (some ⟨w2.heap.size, 0, none⟩)] #[]] 1 (by simp) hv
    have HRWW : Hid (∀ w', Kept ((w2.alloc (.cells #[.slice (some ⟨blk, off, none⟩) m c, .bool false, .slice none 0 0, .slice none 0 0, .slice none 0 0, .int .i64 0, .int .i64 0, .int .i64 0] 77)).alloc (.cells #[.func (.func 29) #[.pointer (some ⟨w2.heap.size, 0, none⟩)] #[], .func (.func 30) #[.pointer (some ⟨w2.heap.size, 0, none⟩)] #[], .func (.func 31) #[.pointer (some ⟨w2.heap.size, 0, none⟩)] #[], .func (.func 32) #[.pointer (some ⟨w2.heap.size, 0, none⟩)] #[]] 1)) w' (some w2.heap.size) → w'.rowIs w.heap.size 26 6 (fun i => #[.slice none 0 0, .slice none 0 0, .slice none 0 0, .int .i64 0, .int .i64 0, .int .i64 0][i]?.getD undef)) := fun w' q => row_kept (row_kept (row_kept (row_kept HROW.out hk1 (by simp)) hk2 (by simp)) HK4.out (by simp)) q (fun e => by have := Option.some.inj e; have h1 := HK2.out.size; have h2 := KZ.out.size; have h3 := hk1.size; have h4 := hk2.size; have h5 := HROW.out.lt; omega)
    have hwlt : w.heap.size < w2.heap.size := by have h3 := hk1.size; have h4 := hk2.size; have h5 := HROW.out.lt; omega
    have HKW := Hid.mk' (HK2.out.tr HK4.out)
    clear HK4
    generalize hW : ((w2.alloc (.cells #[.slice (some ⟨blk, off, none⟩) m c, .bool false, .slice none 0 0, .slice none 0 0, .slice none 0 0, .int .i64 0, .int .i64 0, .int .i64 0] 77)).alloc (.cells #[.func (.func 29) #[.pointer (some ⟨w2.heap.size, 0, none⟩)] #[], .func (.func 30) #[.pointer (some ⟨w2.heap.size, 0, none⟩)] #[], .func (.func 31) #[.pointer (some ⟨w2.heap.size, 0, none⟩)] #[], .func (.func 32) #[.pointer (some ⟨w2.heap.size, 0, none⟩)] #[]] 1)) = W at *
    clear hW HROW KZ hk1 hk2 HAH HCT
    have hne : w2.heap.size + 1 ≠ w2.heap.size := by omega
    refine wp_loop_rounds 5 ?_
    rw [rounds_succ]
    have f0 := HFC.out 0 _ rfl
    go_wp2_with (have hn := readSites_t HRT.out (by omega) HTS.out; rw [HU5.out] at hn; refine hn.mono ?_; rintro e w5 ⟨rfl, a5, A5, hl5, hr5, hk5⟩; have HL5 := Hid.mk' hl5; have HR5 := Hid.mk' hr5; clear hl5 hr5)
    clear f0
    rw [rounds_succ]
    have f1 := cell_f (HFC.out 1 _ rfl) hk5 hne
    go_wp2_with (have hn := readSubs_t HR5.out (by have := hk5.size; omega); rw [HU6.out] at hn; refine hn.mono ?_; rintro e w6 ⟨rfl, a6, A6, hl6, hr6, hk6⟩; have HL6 := Hid.mk' hl6; have HR6 := Hid.mk' hr6; clear hl6 hr6)
    clear f1
    rw [rounds_succ]
    have f2 := cell_f (cell_f (HFC.out 2 _ rfl) hk5 hne) hk6 hne
    go_wp2_with (refine (HC7.out HR6.out).mono ?_; rintro e w7 ⟨rfl, hr7, hk7⟩; have HR7 := Hid.mk' hr7; clear hr7)
    clear f2
    rw [rounds_succ]
    have f3 := cell_f (cell_f (cell_f (HFC.out 3 _ rfl) hk5 hne) hk6 hne) hk7 hne
    go_wp2_with (have hn := readWeds_t HR7.out (by have := hk5.size; have := hk6.size; have := hk7.size; omega); rw [HU8.out] at hn; refine hn.mono ?_; rintro e w8 ⟨rfl, a8, A8, hl8, hr8, hk8⟩; have HL8 := Hid.mk' hl8; have HR8 := Hid.mk' hr8; clear hl8 hr8)
    clear f3
    have hb8 : w2.heap.size < w2.heap.size + 1 := Nat.lt_succ_self _
    have HKB := Hid.mk' (((hk5.tr hk6).tr hk7).tr hk8)
    have HNET : Hid (∀ w'', Ltr (w2.heap.size + 1) w8 w'' → NetAt w'' ⟨some ⟨a5, 0, none⟩, N5.length, some ⟨a6, 0, none⟩, N6.length, some ⟨a8, 0, none⟩, N8.length, A5, A6, A8⟩ (mkN (N5, N6, llo, lhi, lst, N8))) := fun w'' q => by
      have q7 := (hk8.ltr hb8).tr q
      have q6 := (hk7.ltr hb8).tr q7
      have q5 := (hk6.ltr hb8).tr q6
      obtain ⟨h1, h2⟩ := HL5.out w'' q5
      obtain ⟨h3, h4⟩ := HL6.out w'' q6
      obtain ⟨h5, h6⟩ := HL8.out w'' q
      exact ⟨h1, h2, h3, h4, h5, h6, cap_some HX5.out, cap_some HX6.out.1, cap_some HX8.out.1, HX6.out.2, HX8.out.2, HX7.out⟩
    clear HL5 HL6 HL8 HR5 HR6 HR7 HX5 HX6 HX7 HX8 hk5 hk6 hk7 hk8 HRT HFC
    rw [rounds_succ]
    have HTB := Hid.mk' (HTS.out _ HKB.out)
    have R8 := HRWW.out _ HKB.out
    have HRR := Hid.mk' R8
    clear HTS HRWW
    have t0 := HR8.out.tl 0 _ rfl
    have t1 := HR8.out.tl 1 _ rfl
    have t2 := HR8.out.tl 2 _ rfl
    have t3 := HR8.out.tl 3 _ rfl
    have t4 := HR8.out.tl 4 _ rfl
    have t5 := HR8.out.tl 5 _ rfl
    cases d2
    · have r0 := R8.cell (i := 0) (by omega)
      have y0 := R8.frozen 0
      have r1 := R8.cell (i := 1) (by omega)
      have y1 := R8.frozen 1
      have r2 := R8.cell (i := 2) (by omega)
      have y2 := R8.frozen 2
      have r3 := R8.cell (i := 3) (by omega)
      have y3 := R8.frozen 3
      have r4 := R8.cell (i := 4) (by omega)
      have y4 := R8.frozen 4
      have r5 := R8.cell (i := 5) (by omega)
      have y5 := R8.frozen 5
      go_wp2_with (go_at_call 33; have hn := done_any HR8.out.toRdr; rw [HD2.out] at hn; refine hn.mono ?_; rintro e w9 ⟨rfl, rfl⟩)
      have hrw := ((((((HRR.out.set 0 (.slice none 0 0)).set 1 (.slice none 0 0)).set 2 (.slice none 0 0)).set 3 (.int .i64 0)).set 4 (.int .i64 0)).set 5 (.int .i64 0))
      have q0 := hrw.cell (i := 0) (by omega)
      have q1 := hrw.cell (i := 1) (by omega)
      have q2 := hrw.cell (i := 2) (by omega)
      have q3 := hrw.cell (i := 3) (by omega)
      have q4 := hrw.cell (i := 4) (by omega)
      have q5 := hrw.cell (i := 5) (by omega)
      have HKF := Hid.mk' ((kept_new (kept_new (kept_new (kept_new (kept_new (kept_new (HKW.out.newRow HKB.out (fun i e => by have := Option.some.inj e; omega)) (Nat.le_refl _) 0 (.slice none 0 0)) (Nat.le_refl _) 1 (.slice none 0 0)) (Nat.le_refl _) 2 (.slice none 0 0)) (Nat.le_refl _) 3 (.int .i64 0)) (Nat.le_refl _) 4 (.int .i64 0)) (Nat.le_refl _) 5 (.int .i64 0)))
      refine bodyPost_ret (v := .tuple #[netV Y0 N0, .int .i64 8]) (by simp [results, Tryd.results12, go_sem, Y0, N0, q0, q1, q2, q3, q4, q5]) rfl ?_
      exact ⟨HKF.out, .inr ⟨by simp, rfl⟩⟩
    cases d3
    · go_wp2_with (first
        | (go_at_call 13; have hn := ncheck_any (HNET.out _ Ltr.rfl') HTB.out.1; rw [HE6.out] at hn; refine hn.mono ?_; rintro e w10 ⟨rfl, hk10⟩; have R10 := row_kept HRR.out hk10 (by simp); have r0 := R10.cell (i := 0) (by omega); have y0 := R10.frozen 0; have r1 := R10.cell (i := 1) (by omega); have y1 := R10.frozen 1; have r2 := R10.cell (i := 2) (by omega); have y2 := R10.frozen 2; have r3 := R10.cell (i := 3) (by omega); have y3 := R10.frozen 3; have r4 := R10.cell (i := 4) (by omega); have y4 := R10.frozen 4; have r5 := R10.cell (i := 5) (by omega); have y5 := R10.frozen 5)
        | (go_at_call 33; have hn := done_any HR8.out.toRdr; rw [HD2.out] at hn; refine hn.mono ?_; rintro e w9 ⟨rfl, rfl⟩))
      have hrw := ((((((R10.set 0 (.slice none 0 0)).set 1 (.slice none 0 0)).set 2 (.slice none 0 0)).set 3 (.int .i64 0)).set 4 (.int .i64 0)).set 5 (.int .i64 0))
      have q0 := hrw.cell (i := 0) (by omega)
      have q1 := hrw.cell (i := 1) (by omega)
      have q2 := hrw.cell (i := 2) (by omega)
      have q3 := hrw.cell (i := 3) (by omega)
      have q4 := hrw.cell (i := 4) (by omega)
      have q5 := hrw.cell (i := 5) (by omega)
      have HKF := Hid.mk' ((kept_new (kept_new (kept_new (kept_new (kept_new (kept_new ((HKW.out.newRow HKB.out (fun i e => by have := Option.some.inj e; omega)).tr hk10) (Nat.le_refl _) 0 (.slice none 0 0)) (Nat.le_refl _) 1 (.slice none 0 0)) (Nat.le_refl _) 2 (.slice none 0 0)) (Nat.le_refl _) 3 (.int .i64 0)) (Nat.le_refl _) 4 (.int .i64 0)) (Nat.le_refl _) 5 (.int .i64 0)))
      refine bodyPost_ret (v := .tuple #[netV Y0 N0, .int .i64 8]) (by simp [results, Tryd.results12, go_sem, Y0, N0, q0, q1, q2, q3, q4, q5]) rfl ?_
      exact ⟨HKF.out, .inr ⟨by simp, rfl⟩⟩
    · go_wp2_with (first
        | (go_at_call 13; have hn := ncheck_any (HNET.out _ Ltr.rfl') HTB.out.1; rw [HE6.out] at hn; refine hn.mono ?_; rintro e w10 ⟨rfl, hk10⟩; have R10 := row_kept HRR.out hk10 (by simp); have r0 := R10.cell (i := 0) (by omega); have y0 := R10.frozen 0; have r1 := R10.cell (i := 1) (by omega); have y1 := R10.frozen 1; have r2 := R10.cell (i := 2) (by omega); have y2 := R10.frozen 2; have r3 := R10.cell (i := 3) (by omega); have y3 := R10.frozen 3; have r4 := R10.cell (i := 4) (by omega); have y4 := R10.frozen 4; have r5 := R10.cell (i := 5) (by omega); have y5 := R10.frozen 5; have g0 := cell_kept0 t0 hk10; have g1 := cell_kept0 t1 hk10; have g2 := cell_kept0 t2 hk10; have g3 := cell_kept0 t3 hk10; have g4 := cell_kept0 t4 hk10; have g5 := cell_kept0 t5 hk10)
        | (go_at_call 33; have hn := done_any HR8.out.toRdr; rw [HD2.out] at hn; refine hn.mono ?_; rintro e w9 ⟨rfl, rfl⟩))
      have hrw := ((((((R10.set 0 (.slice (some ⟨a5, 0, none⟩) N5.length N5.length)).set 1 (.slice (some ⟨a6, 0, none⟩) N6.length N6.length)).set 2 (.slice (some ⟨a8, 0, none⟩) N8.length N8.length)).set 3 (.int .i64 llo)).set 4 (.int .i64 lhi)).set 5 (.int .i64 lst))
      have q0 := hrw.cell (i := 0) (by omega)
      have q1 := hrw.cell (i := 1) (by omega)
      have q2 := hrw.cell (i := 2) (by omega)
      have q3 := hrw.cell (i := 3) (by omega)
      have q4 := hrw.cell (i := 4) (by omega)
      have q5 := hrw.cell (i := 5) (by omega)
      have HKF := Hid.mk' ((kept_new (kept_new (kept_new (kept_new (kept_new (kept_new ((HKW.out.newRow HKB.out (fun i e => by have := Option.some.inj e; omega)).tr hk10) (Nat.le_refl _) 0 (.slice (some ⟨a5, 0, none⟩) N5.length N5.length)) (Nat.le_refl _) 1 (.slice (some ⟨a6, 0, none⟩) N6.length N6.length)) (Nat.le_refl _) 2 (.slice (some ⟨a8, 0, none⟩) N8.length N8.length)) (Nat.le_refl _) 3 (.int .i64 llo)) (Nat.le_refl _) 4 (.int .i64 lhi)) (Nat.le_refl _) 5 (.int .i64 lst)))
      have HLF := Hid.mk' ((((((((Ltr.of_none hk10 : Ltr (w2.heap.size + 1) _ _).tr (Ltr.set _ (show w.heap.size < w2.heap.size + 1 by omega) 0 (.slice (some ⟨a5, 0, none⟩) N5.length N5.length))).tr (Ltr.set _ (show w.heap.size < w2.heap.size + 1 by omega) 1 (.slice (some ⟨a6, 0, none⟩) N6.length N6.length))).tr (Ltr.set _ (show w.heap.size < w2.heap.size + 1 by omega) 2 (.slice (some ⟨a8, 0, none⟩) N8.length N8.length))).tr (Ltr.set _ (show w.heap.size < w2.heap.size + 1 by omega) 3 (.int .i64 llo))).tr (Ltr.set _ (show w.heap.size < w2.heap.size + 1 by omega) 4 (.int .i64 lhi))).tr (Ltr.set _ (show w.heap.size < w2.heap.size + 1 by omega) 5 (.int .i64 lst))))
      refine bodyPost_ret (v := .tuple #[netV ⟨some ⟨a5, 0, none⟩, N5.length, some ⟨a6, 0, none⟩, N6.length, some ⟨a8, 0, none⟩, N8.length, A5, A6, A8⟩ (mkN (N5, N6, llo, lhi, lst, N8)), .int .i64 0]) (by simp [results, Tryd.results12, go_sem, mkN, q0, q1, q2, q3, q4, q5]) rfl ?_
      exact ⟨HKF.out, .inl ⟨rfl, _, rfl, HNET.out _ HLF.out⟩⟩
theorem nrd_short {w : World} {a : Option Addr} {n c : Nat} {L : List Nat} (h : Come w a n c L) (h4 : n < 4) : Calls Tryd.prog 12 #[.slice a n c] w (NReadP w L) := by
  have hB : nreadB L = false := by unfold nreadB; rw [decide_eq_false (by have := h.by_.size; omega)]; rfl
  have HB := Hid.mk' hB
  clear h hB
  go_enter Tryd.func12, Tryd.ntmps12
  go_wp2_with (go_at_call 27; refine (ahead_short h4).mono ?_; rintro e w1 ⟨rfl, hw1⟩; subst hw1)
  refine bodyPost_ret (v := .tuple #[netV Y0 N0, .int .i64 8]) (by simp [results, Tryd.results12, go_sem, Y0, N0]) rfl ?_
  exact ⟨Kept.alloc _ _ _ (0, 0) _, .inr ⟨HB.out, rfl⟩⟩
theorem nread_any {w : World} {a : Option Addr} {n c : Nat} {L : List Nat} (h : Come w a n c L) (hT : Tabb w) (hTb : Table w) : Calls Tryd.prog 12 #[.slice a n c] w (NReadP w L) := by
  by_cases h4 : n < 4
  · exact nrd_short h h4
  · obtain ⟨m, rfl⟩ : ∃ m, n = m + 4 := ⟨n - 4, by omega⟩
    exact nrd_long h hT hTb

end Go.Proofs.YtoahbpdgbiachaaDoor

/-
  MATHS: what the marks of a region tell.
-/
namespace Go.Proofs.YtoahbpdgbiachaaDoor
open Go.RowKit Go.Lib Go.Deep
set_option linter.unusedVariables false
set_option linter.unusedSimpArgs false

/-! ### What the marks tell -/
theorem putF_some {M M' : Ms} {k : Mk} {p : Int} (h : putF M k p = some M') : mkF M k = none ∧ M' = (k, p) :: M := by
  unfold putF at h
  cases e : mkF M k with
  | some v => rw [e] at h; cases h
  | none => rw [e] at h; injection h with h; exact ⟨rfl, h.symm⟩
theorem sitesF_step {N : Nt} {k : Nat} {M : Ms} (h : sitesF N (k + 1) = some M) : ∃ M1, sitesF N k = some M1 ∧ siteB (N.sites.getD k s0) = true ∧ mkF M1 (0, (N.sites.getD k s0).id, 0) = none ∧ M = ((0, (N.sites.getD k s0).id, 0), (k : Int)) :: M1 := by
  rw [sitesF] at h
  cases h1 : sitesF N k with
  | none => rw [h1] at h; cases h
  | some M1 =>
    rw [h1] at h
    simp only at h
    split at h
    · rename_i hs
      obtain ⟨h2, h3⟩ := putF_some h
      exact ⟨M1, rfl, hs, h2, h3⟩
    · cases h
theorem takeF_step {N : Nt} {place k : Nat} {l : List Int} {M M' : Ms} (h : takeF N place l M (k + 1) = some M') : ∃ M1, takeF N place l M k = some M1 ∧ inB (l.getD k 0) 0 ((N.sites.length : Int) - 1) = true ∧ mkF M1 (1, l.getD k 0, 0) = none ∧ M' = ((1, l.getD k 0, 0), (place : Int)) :: M1 := by
  rw [takeF] at h
  cases h1 : takeF N place l M k with
  | none => rw [h1] at h; cases h
  | some M1 =>
    rw [h1] at h
    simp only at h
    split at h
    · rename_i hs
      obtain ⟨h2, h3⟩ := putF_some h
      exact ⟨M1, rfl, hs, h2, h3⟩
    · cases h
theorem subsF_step {N : Nt} {k : Nat} {M M' : Ms} (h : subsF N M (k + 1) = some M') : ∃ M1, subsF N M k = some M1 ∧ takeF N k (N.subs.getD k u0).sites M1 (N.subs.getD k u0).sites.length = some M' ∧ mkF M' (1, (N.subs.getD k u0).critical, 0) = some (k : Int) := by
  rw [subsF] at h
  cases h1 : subsF N M k with
  | none => rw [h1] at h; cases h
  | some M1 =>
    rw [h1] at h
    simp only at h
    cases h2 : takeF N k (N.subs.getD k u0).sites M1 (N.subs.getD k u0).sites.length with
    | none => rw [h2] at h; cases h
    | some M2 =>
      rw [h2] at h
      simp only at h
      split at h
      · rename_i hc
        injection h with h
        subst h
        exact ⟨M1, rfl, h2, hc⟩
      · cases h
theorem wedsF_step {N : Nt} {k : Nat} {M M' : Ms} (h : wedsF N M (k + 1) = some M') : ∃ M1, wedsF N M k = some M1 ∧ inB (N.weds.getD k d0).a 0 ((N.subs.length : Int) - 1) = true ∧ inB (N.weds.getD k d0).b ((N.weds.getD k d0).a + 1) ((N.subs.length : Int) - 1) = true ∧ mkF M1 (2, (N.weds.getD k d0).a, (N.weds.getD k d0).b) = none ∧ M' = ((2, (N.weds.getD k d0).a, (N.weds.getD k d0).b), (k : Int)) :: M1 ∧ timeB (N.weds.getD k d0).votes = true ∧ offsetsB N (N.weds.getD k d0).offsets = true := by
  rw [wedsF] at h
  cases h1 : wedsF N M k with
  | none => rw [h1] at h; cases h
  | some M1 =>
    rw [h1] at h
    simp only at h
    split at h
    · rename_i hs
      rw [Bool.and_eq_true] at hs
      cases h2 : putF M1 (2, (N.weds.getD k d0).a, (N.weds.getD k d0).b) k with
      | none => rw [h2] at h; cases h
      | some M2 =>
        rw [h2] at h
        simp only at h
        obtain ⟨h3, h4⟩ := putF_some h2
        split at h
        · rename_i ht
          rw [Bool.and_eq_true] at ht
          injection h with h
          subst h
          exact ⟨M1, rfl, hs.1, hs.2, h3, h4, ht.1, ht.2⟩
        · cases h
    · cases h
theorem lookF_parts {N : Nt} {M : Ms} (h : lookF N = some M) : ncountsB N = true ∧ ∃ M1 M2, sitesF N N.sites.length = some M1 ∧ subsF N M1 N.subs.length = some M2 ∧ placedB N M2 = true ∧ ncyclesB N = true ∧ wedsF N M2 N.weds.length = some M := by
  unfold lookF at h
  split at h
  · rename_i hc
    refine ⟨hc, ?_⟩
    cases h1 : sitesF N N.sites.length with
    | none => rw [h1] at h; cases h
    | some M1 =>
      rw [h1] at h
      simp only at h
      cases h2 : subsF N M1 N.subs.length with
      | none => rw [h2] at h; cases h
      | some M2 =>
        rw [h2] at h
        simp only at h
        split at h
        · rename_i hp
          rw [Bool.and_eq_true] at hp
          exact ⟨M1, M2, rfl, h2, hp.1, hp.2, h⟩
        · cases h
  · cases h
theorem sitesF_all {N : Nt} : ∀ k M, sitesF N k = some M → ∀ i, i < k → siteB (N.sites.getD i s0) = true
  | 0, M, h, i, hi => by omega
  | k + 1, M, h, i, hi => by
    obtain ⟨M1, h1, h2, _, _⟩ := sitesF_step h
    by_cases e : i = k
    · subst e; exact h2
    · exact sitesF_all k M1 h1 i (by omega)
theorem sitesF_one {N : Nt} (x : Int) : ∀ k M, sitesF N k = some M → mkF M (1, x, 0) = none
  | 0, M, h => by injection h with h; subst h; rfl
  | k + 1, M, h => by
    obtain ⟨M1, h1, h2, _, h4⟩ := sitesF_step h
    subst h4
    rw [mkF_other _ _ (fun e => by have := congrArg Prod.fst e; cases this)]
    exact sitesF_one x k M1 h1
/-- Marks of places are in range. -/
def InR (N : Nt) (M : Ms) : Prop := ∀ x p, mkF M (1, x, 0) = some p → inB x 0 ((N.sites.length : Int) - 1) = true
theorem takeF_inr {N : Nt} {place : Nat} {l : List Int} {M : Ms} (hM : InR N M) : ∀ k M', takeF N place l M k = some M' → InR N M' ∧ ∀ i, i < k → inB (l.getD i 0) 0 ((N.sites.length : Int) - 1) = true
  | 0, M', h => by injection h with h; subst h; exact ⟨hM, fun i hi => by omega⟩
  | k + 1, M', h => by
    obtain ⟨M1, h1, h2, h3, h4⟩ := takeF_step h
    obtain ⟨g1, g2⟩ := takeF_inr hM k M1 h1
    subst h4
    refine ⟨fun x p hx => ?_, fun i hi => ?_⟩
    · by_cases e : (1, x, 0) = ((1, l.getD k 0, 0) : Mk)
      · have := congrArg (fun z : Mk => z.2.1) e
        simp only at this
        rw [this]; exact h2
      · rw [mkF_other _ _ e] at hx
        exact g1 x p hx
    · by_cases e : i = k
      · subst e; exact h2
      · exact g2 i (by omega)
theorem subsF_inr {N : Nt} {M : Ms} (hM : InR N M) : ∀ k M', subsF N M k = some M' → InR N M' ∧ ∀ i, i < k → (N.subs.getD i u0).sites.length ≤ N.sites.length ∧ (∀ j, j < (N.subs.getD i u0).sites.length → inB ((N.subs.getD i u0).sites.getD j 0) 0 ((N.sites.length : Int) - 1) = true) ∧ inB (N.subs.getD i u0).critical 0 ((N.sites.length : Int) - 1) = true
  | 0, M', h => by injection h with h; subst h; exact ⟨hM, fun i hi => by omega⟩
  | k + 1, M', h => by
    obtain ⟨M1, h1, h2, h3⟩ := subsF_step h
    obtain ⟨g1, g2⟩ := subsF_inr hM k M1 h1
    obtain ⟨t1, t2⟩ := takeF_inr g1 _ M' h2
    refine ⟨t1, fun i hi => ?_⟩
    by_cases e : i = k
    · subst e
      have hm := (takeF_many _ _ h2).1
      have hl := manyP_le N M'
      exact ⟨by omega, t2, t1 _ _ h3⟩
    · exact g2 i (by omega)
theorem wedsF_all {N : Nt} {M : Ms} : ∀ k M', wedsF N M k = some M' → ∀ i, i < k → inB (N.weds.getD i d0).a 0 ((N.subs.length : Int) - 1) = true ∧ inB (N.weds.getD i d0).b ((N.weds.getD i d0).a + 1) ((N.subs.length : Int) - 1) = true ∧ timeB (N.weds.getD i d0).votes = true ∧ offsetsB N (N.weds.getD i d0).offsets = true
  | 0, M', h, i, hi => by omega
  | k + 1, M', h, i, hi => by
    obtain ⟨M1, h1, h2, h3, h4, h5, h6, h7⟩ := wedsF_step h
    by_cases e : i = k
    · subst e; exact ⟨h2, h3, h6, h7⟩
    · exact wedsF_all k M1 h1 i (by omega)
theorem getD_all {α : Type} {P : α → Prop} {l : List α} {d : α} (h : ∀ j, j < l.length → P (l.getD j d)) : ∀ x ∈ l, P x := fun x hx => by
  obtain ⟨i, hi, rfl⟩ := List.getElem_of_mem hx
  have := h i hi
  simpa [hi] using this
theorem netE_yes1 {N : Nt} (h : netB N = true) : netE N = 0 := by unfold netE; rw [if_pos h]
theorem netE_no1 {N : Nt} (h : netB N = false) : netE N = 60 := by unfold netE; rw [if_neg (by rw [h]; decide)]

end Go.Proofs.YtoahbpdgbiachaaDoor

/-
  MATHS: a site (and plans) is read again as it was written, and nothing else is read as one.
-/
namespace Go.Proofs.YtoahbpdgbiachaaDoor
open Go.RowKit Go.Lib Go.Deep
set_option linter.unusedVariables false
set_option linter.unusedSimpArgs false

theorem writeL_yes {S : St} (hs : siteB S = true) : writeL S = siteL S ++ sum4 (siteL S) := by unfold writeL; rw [if_pos hs]
theorem read_write {S : St} (hr : Rok S) (hs : siteB S = true) : readB (writeL S) = true ∧ readS (writeL S) = S := by
  have hw := writeL_yes hs
  have hl : (writeL S).length - 4 = (siteL S).length := by rw [hw, List.length_append, sum4_len]; omega
  have ht : (writeL S).take ((writeL S).length - 4) = siteL S := by rw [hl, hw, List.take_left']; rfl
  have hd : (writeL S).drop ((writeL S).length - 4) = sum4 (siteL S) := by rw [hl, hw, List.drop_left']; rfl
  have hm : siteM (siteL S, false) = (S, ([], false)) := by
    have := siteC.fwd S [] hr
    rwa [List.append_nil] at this
  have h4 : 4 ≤ (writeL S).length := by rw [hw, List.length_append, sum4_len]; omega
  constructor
  · unfold readB sumOk toldOk readS
    rw [ht, hd, hm, decide_eq_true h4, decide_eq_true rfl, hs]
    rfl
  · unfold readS
    rw [ht, hm]
theorem write_read {L : List Nat} (hL : ∀ x ∈ L, x < 256) (h : readB L = true) : writeL (readS L) = L ∧ siteB (readS L) = true := by
  unfold readB at h
  simp only [Bool.and_eq_true, decide_eq_true_eq] at h
  obtain ⟨h4, h1, h2, h3⟩ := h
  refine ⟨?_, h3⟩
  rw [writeL_yes h3]
  unfold sumOk at h1
  rw [decide_eq_true_eq] at h1
  unfold toldOk doneB at h2
  simp only [Bool.and_eq_true, decide_eq_true_eq, Bool.not_eq_true'] at h2
  have hb := siteC.bwd (L.take (L.length - 4)) (fun y hy => hL y (List.mem_of_mem_take hy)) h2.1
  rw [h2.2, List.append_nil] at hb
  have e : siteL (readS L) = L.take (L.length - 4) := hb.1.symm
  rw [e, ← h1, List.take_append_drop]

theorem mayL_all {l : List Pl} : mayL l = allB l.length (fun k => mayB (l.getD k q0)) := by
  rw [Bool.eq_iff_iff, allB_iff, mayL_iff]
  constructor
  · exact fun h i hi => h _ (getD_mem hi)
  · intro h p hp
    obtain ⟨i, hi, rfl⟩ := List.mem_iff_getElem.1 hp
    have := h i hi
    rwa [List.getD_eq_getElem?_getD, List.getElem?_eq_getElem hi] at this
theorem parts_whole {l : List Pl} (h : wholeE l = 0) : partsB (wholeL l) = true ∧ (plansM (wholeL l, false)).1 = l := by
  have h8 : l.length ≤ 8 := by
    unfold wholeE at h
    split at h
    · omega
    · omega
  have hm : mayL l = true := by
    unfold wholeE at h
    rw [if_neg (by omega)] at h
    split at h
    · assumption
    · omega
  have hw : wholeL l = smlI (plansI l) := by unfold wholeL; rw [if_pos h]
  have hp := plansC.fwd l [] ⟨h8, fun p hp => by
    obtain ⟨h1, h2, h3, h4⟩ := may_parts (mayL_iff.1 hm p hp)
    exact ⟨by omega, by omega, by omega, fun x hx => h4 x hx⟩⟩
  rw [List.append_nil, ← hw] at hp
  unfold partsB
  rw [hp]
  exact ⟨by rw [← mayL_all, hm]; rfl, rfl⟩
theorem whole_parts {L : List Nat} (hL : ∀ x ∈ L, x < 256) (h : partsB L = true) : wholeE (plansM (L, false)).1 = 0 ∧ wholeL (plansM (L, false)).1 = L := by
  unfold partsB doneB at h
  simp only [Bool.and_eq_true, decide_eq_true_eq, Bool.not_eq_true'] at h
  obtain ⟨⟨h1, h2⟩, h3⟩ := h
  have hb := plansC.bwd L hL h1
  rw [h2, List.append_nil] at hb
  rw [← mayL_all] at h3
  have h0 : wholeE (plansM (L, false)).1 = 0 := by unfold wholeE; rw [if_neg (by have := hb.2.1; omega), if_pos h3]
  refine ⟨h0, ?_⟩
  unfold wholeL
  rw [if_pos h0]
  exact hb.1.symm

end Go.Proofs.YtoahbpdgbiachaaDoor

/-
  MATHS: what a region that may be tells; a region is read again as it was written, and nothing else is read as one.
-/
namespace Go.Proofs.YtoahbpdgbiachaaDoor
open Go.RowKit Go.Lib Go.Deep
set_option linter.unusedVariables false
set_option linter.unusedSimpArgs false

theorem npos_may {N : Nt} (h : netB N = true) : NPos N := by
  unfold netB at h
  cases hl : lookF N with
  | none => rw [hl] at h; cases h
  | some M =>
    obtain ⟨hc, M1, M2, h1, h2, h3, h4, h5⟩ := lookF_parts hl
    unfold ncountsB at hc
    rw [Bool.and_eq_true, Bool.and_eq_true, inB_iff, inB_iff, decide_eq_true_iff] at hc
    have hi0 : InR N M1 := fun x p hx => by rw [sitesF_one x _ _ h1] at hx; cases hx
    obtain ⟨_, hs⟩ := subsF_inr hi0 _ _ h2
    have hw := wedsF_all _ _ h5
    have h4' := h4
    unfold ncyclesB timeB at h4'
    simp only [Bool.and_eq_true, inB_iff, decide_eq_true_eq] at h4'
    refine ⟨by omega, by omega, hc.2, sitesF_all _ _ h1, fun i hi => ?_, by omega, fun i hi => ?_⟩
    · obtain ⟨a1, a2, a3⟩ := hs i hi
      rw [inB_iff] at a3
      refine ⟨by omega, getD_all (d := 0) (fun j hj => ?_), by omega, by omega⟩
      have := inB_iff.1 (a2 j hj)
      omega
    · obtain ⟨a1, a2, a3, a4⟩ := hw i hi
      unfold timeB at a3
      unfold offsetsB at a4
      rw [inB_iff] at a1 a2 a3
      rw [Bool.and_eq_true, inB_iff, allB_iff] at a4
      refine ⟨by omega, by omega, by omega, by omega, getD_all (d := 0) (fun j hj => ?_)⟩
      have := inB_iff.1 (a4.2 j hj)
      omega

/-! ### Reading what was written -/
theorem pieceC : Cod pieceM (fun P => sml P.length ++ P) (fun P => P.length ≤ 18446744073709551615) := by
  have hu := upC (most := 18446744073709551615) (by omega)
  refine ⟨fun P T h => ?_, fun L hL h => ?_, fun L => ?_⟩
  · unfold pieceM
    rw [List.append_assoc, hu.fwd P.length (P ++ T) h]
    simp
  · unfold pieceM at h ⊢
    by_cases hle : (upM 18446744073709551615 (L, false)).1 ≤ (upM 18446744073709551615 (L, false)).2.1.length
    · rw [if_pos hle] at h ⊢
      obtain ⟨g1, g2⟩ := hu.bwd L hL h
      generalize upM 18446744073709551615 (L, false) = u at *
      obtain ⟨n, R, bd⟩ := u
      dsimp only at *
      have e : (R.take n).length = n := by rw [List.length_take]; omega
      rw [e, List.append_assoc, List.take_append_drop]
      exact ⟨g1, g2⟩
    · rw [if_neg hle] at h
      cases h
  · unfold pieceM
    have := hu.bad L
    split
    · exact this
    · rfl
theorem subC : Cod subM (fun U => smlI (suI U)) (fun U => (U.sites.length ≤ 12 ∧ ∀ x ∈ U.sites, 0 ≤ x ∧ x ≤ 1048576) ∧ (0 ≤ U.critical ∧ U.critical ≤ 1048576)) := by
  unfold subM
  exact ((countC numC (most := 12) (by omega)).bind (fun _ => numC)).map _ (fun U : Sb => (U.sites, U.critical)) (fun y hy => ⟨rfl, hy, by simp [smlI, suI]⟩) (fun x hx => ⟨hx, by simp [smlI, suI]⟩)
theorem wedC : Cod wedM (fun D => smlI (weI D)) (fun D => (0 ≤ D.a ∧ D.a ≤ 1048576) ∧ (0 ≤ D.b ∧ D.b ≤ 1048576) ∧ (0 ≤ D.votes ∧ D.votes ≤ 1048576) ∧ D.offsets.length ≤ 8 ∧ ∀ x ∈ D.offsets, 0 ≤ x ∧ x ≤ 1048576) := by
  unfold wedM
  exact (numC.bind (fun _ => numC.bind (fun _ => numC.bind (fun _ => countC numC (most := 8) (by omega))))).map _ (fun D : Wd => (D.a, (D.b, (D.votes, D.offsets)))) (fun y hy => ⟨rfl, hy, by simp [smlI, weI]⟩) (fun x hx => ⟨hx, by simp [smlI, weI]⟩)
abbrev RTup := List (List Nat) × (List Sb × (Int × (Int × (Int × List Wd))))
def rawM : Rd → RTup × Rd := bindM (countM 12 pieceM) (fun _ => bindM (countM 6 subM) (fun _ => bindM numM (fun _ => bindM numM (fun _ => bindM numM (fun _ => countM 8 wedM)))))
def encR (z : RTup) : List Nat := (sml z.1.length ++ z.1.flatMap (fun P => sml P.length ++ P)) ++ ((sml z.2.1.length ++ z.2.1.flatMap (fun U => smlI (suI U))) ++ (sml z.2.2.1.toNat ++ (sml z.2.2.2.1.toNat ++ (sml z.2.2.2.2.1.toNat ++ (sml z.2.2.2.2.2.length ++ z.2.2.2.2.2.flatMap (fun D => smlI (weI D)))))))
def okZ (z : RTup) : Prop := (z.1.length ≤ 12 ∧ ∀ P ∈ z.1, P.length ≤ 18446744073709551615) ∧ (z.2.1.length ≤ 6 ∧ ∀ U ∈ z.2.1, (U.sites.length ≤ 12 ∧ ∀ x ∈ U.sites, 0 ≤ x ∧ x ≤ 1048576) ∧ (0 ≤ U.critical ∧ U.critical ≤ 1048576)) ∧ (0 ≤ z.2.2.1 ∧ z.2.2.1 ≤ 1048576) ∧ (0 ≤ z.2.2.2.1 ∧ z.2.2.2.1 ≤ 1048576) ∧ (0 ≤ z.2.2.2.2.1 ∧ z.2.2.2.2.1 ≤ 1048576) ∧ (z.2.2.2.2.2.length ≤ 8 ∧ ∀ D ∈ z.2.2.2.2.2, (0 ≤ D.a ∧ D.a ≤ 1048576) ∧ (0 ≤ D.b ∧ D.b ≤ 1048576) ∧ (0 ≤ D.votes ∧ D.votes ≤ 1048576) ∧ D.offsets.length ≤ 8 ∧ ∀ x ∈ D.offsets, 0 ≤ x ∧ x ≤ 1048576)
theorem rawC : Cod rawM encR okZ := by
  unfold rawM
  exact (countC pieceC (most := 12) (by omega)).bind (fun _ => (countC subC (most := 6) (by omega)).bind (fun _ => numC.bind (fun _ => numC.bind (fun _ => numC.bind (fun _ => countC wedC (most := 8) (by omega))))))
theorem listM_map {α β : Type} (f : α → β) (p : Rd → α × Rd) : ∀ n s, listM (mapM' f p) n s = ((listM p n s).1.map f, (listM p n s).2)
  | 0, s => rfl
  | n + 1, s => by
    rw [listM, listM]
    show (f (p s).1 :: (listM (mapM' f p) n (p s).2).1, (listM (mapM' f p) n (p s).2).2) = _
    rw [listM_map f p n (p s).2]
    rfl
theorem netM_raw (s : Rd) : netM s = (mkN ((rawM s).1.1.map rdS, (rawM s).1.2), (rawM s).2) := by
  have e : countM 12 nsiteM s = ((countM 12 pieceM s).1.map rdS, (countM 12 pieceM s).2) := listM_map rdS pieceM _ _
  unfold netM rawM mapM' bindM
  rw [e]
theorem smlI_one (x : Int) : smlI [x] = sml x.toNat := by simp [smlI]
def rawN (N : Nt) : RTup := (N.sites.map writeL, (N.subs, (N.low, (N.high, (N.step, N.weds)))))
theorem netL_raw (N : Nt) : netL N = encR (rawN N) := by
  unfold netL nwI nuI nsI encR rawN
  simp only [List.take_length, List.length_map, List.flatMap_map, smlI_one, Int.toNat_natCast]
  have e : smlI [N.low, N.high, N.step, (N.weds.length : Int)] = sml N.low.toNat ++ (sml N.high.toNat ++ (sml N.step.toNat ++ sml N.weds.length)) := by simp [smlI]
  rw [e]
  simp only [List.append_assoc]
theorem nwriteL_yes {N : Nt} (h : netB N = true) : nwriteL N = netL N ++ sum4 (netL N) := by unfold nwriteL; rw [if_pos h]
theorem rdS_write {S : St} (hr : Rok S) (hs : siteB S = true) : rdS (writeL S) = S := by
  obtain ⟨h1, h2⟩ := read_write hr hs
  unfold rdS
  rw [if_pos h1, h2]
theorem zero_no : siteB S0 = false := by decide
theorem rdS_may {P : List Nat} (hP : ∀ x ∈ P, x < 256) (h : siteB (rdS P) = true) : writeL (rdS P) = P := by
  unfold rdS at h ⊢
  split
  · rename_i hr
    exact (write_read hP hr).1
  · rename_i hr
    rw [if_neg hr, zero_no] at h
    cases h
theorem nread_write {N : Nt} (hb : netB N = true) (hr : ∀ i, i < N.sites.length → Rok (N.sites.getD i s0) ∧ (writeL (N.sites.getD i s0)).length ≤ 6000) : nreadB (nwriteL N) = true ∧ readN (nwriteL N) = N := by
  have hP := npos_may hb
  have hw := nwriteL_yes hb
  have hl : (nwriteL N).length - 4 = (netL N).length := by rw [hw, List.length_append, sum4_len]; omega
  have ht : (nwriteL N).take ((nwriteL N).length - 4) = netL N := by rw [hl, hw, List.take_left']; rfl
  have hd : (nwriteL N).drop ((nwriteL N).length - 4) = sum4 (netL N) := by rw [hl, hw, List.drop_left']; rfl
  have hok : okZ (rawN N) := by
    have hns := hP.ns
    have hnu := hP.nu
    refine ⟨⟨by simp [rawN]; omega, fun P hp => ?_⟩, ⟨by simp [rawN]; omega, fun U hU => ?_⟩, by have := hP.cy; simp [rawN]; omega, by have := hP.cy; simp [rawN]; omega, by have := hP.cy; simp [rawN]; omega, by have := hP.nw; simpa [rawN] using this, fun D hD => ?_⟩
    · simp only [rawN, List.mem_map] at hp
      obtain ⟨S, hS, rfl⟩ := hp
      obtain ⟨i, hi, rfl⟩ := List.getElem_of_mem hS
      have := (hr i hi).2
      simp [hi] at this
      omega
    · obtain ⟨i, hi, rfl⟩ := List.getElem_of_mem (show U ∈ N.subs from hU)
      obtain ⟨a1, a2, a3, a4⟩ := hP.su i hi
      have e : N.subs.getD i u0 = N.subs[i] := by simp [hi]
      rw [e] at a1 a2 a3 a4
      exact ⟨⟨a1, fun x hx => by have := a2 x hx; omega⟩, by omega, by omega⟩
    · obtain ⟨i, hi, rfl⟩ := List.getElem_of_mem (show D ∈ N.weds from hD)
      obtain ⟨a1, a2, a3, a4, a5⟩ := hP.we i hi
      have e : N.weds.getD i d0 = N.weds[i] := by simp [hi]
      rw [e] at a1 a2 a3 a4 a5
      exact ⟨by omega, by omega, by omega, a4, a5⟩
  have hm : netM (netL N, false) = (N, ([], false)) := by
    have h1 := rawC.fwd (rawN N) [] hok
    rw [List.append_nil, ← netL_raw] at h1
    rw [netM_raw, h1]
    have e : (rawN N).1.map rdS = N.sites := by
      simp only [rawN, List.map_map]
      apply List.ext_getElem (by simp)
      intro i h1 h2
      simp only [List.getElem_map, Function.comp]
      have h3 := rdS_write (hr i h2).1 (hP.st i h2)
      simpa [h2] using h3
    simp only [e]
    rfl
  have h4 : 4 ≤ (nwriteL N).length := by rw [hw, List.length_append, sum4_len]; omega
  constructor
  · unfold nreadB sumOk readN
    rw [ht, hd, hm, decide_eq_true h4, decide_eq_true rfl]
    simp [doneB, hb]
  · unfold readN
    rw [ht, hm]
theorem nwrite_read {L : List Nat} (hL : ∀ x ∈ L, x < 256) (h : nreadB L = true) : nwriteL (readN L) = L ∧ netB (readN L) = true := by
  unfold nreadB at h
  simp only [Bool.and_eq_true, decide_eq_true_eq] at h
  obtain ⟨h4, h1, h2, h3⟩ := h
  refine ⟨?_, h3⟩
  rw [nwriteL_yes h3]
  unfold sumOk at h1
  rw [decide_eq_true_eq] at h1
  unfold doneB at h2
  simp only [Bool.and_eq_true, decide_eq_true_eq, Bool.not_eq_true'] at h2
  have hLt : ∀ y ∈ L.take (L.length - 4), y < 256 := fun y hy => hL y (List.mem_of_mem_take hy)
  have e2 : (netM (L.take (L.length - 4), false)).2 = (rawM (L.take (L.length - 4), false)).2 := by rw [netM_raw]
  rw [e2] at h2
  have hb := rawC.bwd (L.take (L.length - 4)) hLt h2.1
  rw [h2.2, List.append_nil] at hb
  have hP := npos_may h3
  have eN : readN L = mkN ((rawM (L.take (L.length - 4), false)).1.1.map rdS, (rawM (L.take (L.length - 4), false)).1.2) := by unfold readN; rw [netM_raw]
  have e : netL (readN L) = L.take (L.length - 4) := by
    rw [netL_raw]
    have e3 : rawN (readN L) = (rawM (L.take (L.length - 4), false)).1 := by
      rw [eN] at hP ⊢
      generalize (rawM (L.take (L.length - 4), false)).1 = z at *
      obtain ⟨Ps, us, lo, hi, st, ds⟩ := z
      simp only [rawN, mkN, Prod.mk.injEq, and_true]
      rw [List.map_map]
      apply List.ext_getElem (by simp)
      intro i g1 g2
      simp only [List.getElem_map, Function.comp]
      refine rdS_may (fun x hx => hLt x ?_) ?_
      · rw [hb.1]
        unfold encR
        refine List.mem_append.2 (.inl (List.mem_append.2 (.inr (List.mem_flatMap.2 ⟨Ps[i], List.getElem_mem g2, List.mem_append.2 (.inr hx)⟩))))
      · have := hP.st i (by simp [mkN]; exact g2)
        simpa [mkN, g2] using this
    rw [e3]
    exact hb.1.symm
  rw [e, ← h1, List.take_append_drop]

end Go.Proofs.YtoahbpdgbiachaaDoor

/-
  THE CONTRACTS of two and alive, of the statements.
-/
namespace Go.Proofs.YtoahbpdgbiachaaDoor
open Go.RowKit Go.Lib Go.Deep
set_option linter.unusedVariables false
set_option linter.unusedSimpArgs false

/-- The chapter's site. -/
def S2 : St := ⟨0, [⟨1, 2, 1⟩, ⟨1, 2, 1⟩], [2, 1], [[0, 2], [2, 0]], [⟨1, 2, 5, 1, false⟩, ⟨2, 2, 5, 1, false⟩], [], 3, 2, 4, 8, 20, []⟩
theorem s2_may : siteB S2 = true := by decide +kernel
theorem lie_of {w : World} {g n K : Nat} {F : Nat → Nat → Value} (hb : g < w.heap.size) (h : ∀ i, i < n → ∀ j, j < K → w.cell? ⟨g, i * K + j, none⟩ = some (F i j)) : Lie w (some ⟨g, 0, none⟩) n K F :=
  ⟨fun _ => ⟨g, 0, rfl, hb, fun i hi j hj => by rw [Nat.zero_add]; exact h i hi j hj⟩⟩
theorem two_cases {P : Nat → Prop} (h0 : P 0) (h1 : P 1) : ∀ i, i < 2 → P i := fun i hi => by
  have : i = 0 ∨ i = 1 := by omega
  rcases this with rfl | rfl
  · exact h0
  · exact h1
theorem readP_write {w w' : World} {e : Ending} {S : St} (h : ReadP w (writeL S) e w') (hr : Rok S) (hs : siteB S = true) : Kept w w' none ∧ ∃ X, e = .returned (.tuple #[siteV X S, .int .i64 0]) ∧ ∀ w'', Ltr (w.heap.size + 1) w' w'' → Sat w'' X S := by
  obtain ⟨hb, hS⟩ := read_write hr hs
  obtain ⟨hk, ⟨_, X, he, hq⟩ | ⟨hn, _⟩⟩ := h
  · rw [hS] at he hq
    exact ⟨hk, X, he, hq⟩
  · rw [hb] at hn
    cases hn
end Go.Proofs.YtoahbpdgbiachaaDoor

/-
  THE CONTRACT of two, cell by cell; a site whose between is another one.
-/
namespace Go.Proofs.YtoahbpdgbiachaaDoor
open Go.RowKit Go.Lib Go.Deep
set_option linter.unusedVariables false
set_option linter.unusedSimpArgs false

def S2v (v : Int) : St := ⟨0, [⟨1, 2, 1⟩, ⟨1, 2, 1⟩], [2, 1], [[0, v], [2, 0]], [⟨1, 2, 5, 1, false⟩, ⟨2, 2, 5, 1, false⟩], [], 3, 2, 4, 8, 20, []⟩
abbrev X2 (h : Nat) : Sa := ⟨some ⟨h + 1 + 1, 0, none⟩, 2, some ⟨h + 1 + 1 + 1, 0, none⟩, 2, some ⟨h + 1 + 1 + 1 + 1 + 1 + 1, 0, none⟩, 2, some ⟨h + 1 + 1 + 1 + 1 + 1 + 1 + 1, 0, none⟩, 2, none, 0, none, 0⟩
structure TwoC (W : World) (h : Nat) (v : Int) : Prop where
  size : h + 8 ≤ W.heap.size
  fz : W.frozen? ⟨h + 1 + 1 + 1 + 1, 1, none⟩ = false
  c2x0 : W.cell? ⟨h + 1 + 1, 0, none⟩ = some (.int .u8 1)
  c2x1 : W.cell? ⟨h + 1 + 1, 1, none⟩ = some (.int .i64 2)
  c2x2 : W.cell? ⟨h + 1 + 1, 2, none⟩ = some (.int .i64 1)
  c2x3 : W.cell? ⟨h + 1 + 1, 3, none⟩ = some (.int .u8 1)
  c2x4 : W.cell? ⟨h + 1 + 1, 4, none⟩ = some (.int .i64 2)
  c2x5 : W.cell? ⟨h + 1 + 1, 5, none⟩ = some (.int .i64 1)
  c3x0 : W.cell? ⟨h + 1 + 1 + 1, 0, none⟩ = some (.int .u32 2)
  c3x1 : W.cell? ⟨h + 1 + 1 + 1, 1, none⟩ = some (.int .u32 1)
  c4x0 : W.cell? ⟨h + 1 + 1 + 1 + 1, 0, none⟩ = some (.int .i64 0)
  c4x1 : W.cell? ⟨h + 1 + 1 + 1 + 1, 1, none⟩ = some (.int .i64 v)
  c5x0 : W.cell? ⟨h + 1 + 1 + 1 + 1 + 1, 0, none⟩ = some (.int .i64 2)
  c5x1 : W.cell? ⟨h + 1 + 1 + 1 + 1 + 1, 1, none⟩ = some (.int .i64 0)
  c6x0 : W.cell? ⟨h + 1 + 1 + 1 + 1 + 1 + 1, 0, none⟩ = some (.slice (some ⟨h + 1 + 1 + 1 + 1, 0, none⟩) 2 2)
  c6x1 : W.cell? ⟨h + 1 + 1 + 1 + 1 + 1 + 1, 1, none⟩ = some (.slice (some ⟨h + 1 + 1 + 1 + 1 + 1, 0, none⟩) 2 2)
  c7x0 : W.cell? ⟨h + 1 + 1 + 1 + 1 + 1 + 1 + 1, 0, none⟩ = some (.int .u32 1)
  c7x1 : W.cell? ⟨h + 1 + 1 + 1 + 1 + 1 + 1 + 1, 1, none⟩ = some (.int .i64 2)
  c7x2 : W.cell? ⟨h + 1 + 1 + 1 + 1 + 1 + 1 + 1, 2, none⟩ = some (.int .i64 5)
  c7x3 : W.cell? ⟨h + 1 + 1 + 1 + 1 + 1 + 1 + 1, 3, none⟩ = some (.int .i64 1)
  c7x4 : W.cell? ⟨h + 1 + 1 + 1 + 1 + 1 + 1 + 1, 4, none⟩ = some (.bool false)
  c7x5 : W.cell? ⟨h + 1 + 1 + 1 + 1 + 1 + 1 + 1, 5, none⟩ = some (.int .u32 2)
  c7x6 : W.cell? ⟨h + 1 + 1 + 1 + 1 + 1 + 1 + 1, 6, none⟩ = some (.int .i64 2)
  c7x7 : W.cell? ⟨h + 1 + 1 + 1 + 1 + 1 + 1 + 1, 7, none⟩ = some (.int .i64 5)
  c7x8 : W.cell? ⟨h + 1 + 1 + 1 + 1 + 1 + 1 + 1, 8, none⟩ = some (.int .i64 1)
  c7x9 : W.cell? ⟨h + 1 + 1 + 1 + 1 + 1 + 1 + 1, 9, none⟩ = some (.bool false)
theorem TwoC.kept {w w' : World} {h : Nat} {v : Int} (c : TwoC w h v) (q : Kept w w' none) : TwoC w' h v :=
  ⟨Nat.le_trans c.size q.size, (frozen_block (q.block _ (by have := c.size; omega) (by simp))).trans c.fz, cell_kept0 c.c2x0 q, cell_kept0 c.c2x1 q, cell_kept0 c.c2x2 q, cell_kept0 c.c2x3 q, cell_kept0 c.c2x4 q, cell_kept0 c.c2x5 q, cell_kept0 c.c3x0 q, cell_kept0 c.c3x1 q, cell_kept0 c.c4x0 q, cell_kept0 c.c4x1 q, cell_kept0 c.c5x0 q, cell_kept0 c.c5x1 q, cell_kept0 c.c6x0 q, cell_kept0 c.c6x1 q, cell_kept0 c.c7x0 q, cell_kept0 c.c7x1 q, cell_kept0 c.c7x2 q, cell_kept0 c.c7x3 q, cell_kept0 c.c7x4 q, cell_kept0 c.c7x5 q, cell_kept0 c.c7x6 q, cell_kept0 c.c7x7 q, cell_kept0 c.c7x8 q, cell_kept0 c.c7x9 q⟩
theorem TwoC.set {w : World} {h : Nat} {v : Int} (c : TwoC w h v) (v' : Int) : TwoC (w.setCell ⟨h + 1 + 1 + 1 + 1, 1, none⟩ (.int .i64 v')) h v' :=
  ⟨by simpa [World.setCell] using c.size, (frozen_set _ _ _ _).trans c.fz, (World.cell?_setCell_other _ _ _ _ (by simp)).trans c.c2x0, (World.cell?_setCell_other _ _ _ _ (by simp)).trans c.c2x1, (World.cell?_setCell_other _ _ _ _ (by simp)).trans c.c2x2, (World.cell?_setCell_other _ _ _ _ (by simp)).trans c.c2x3, (World.cell?_setCell_other _ _ _ _ (by simp)).trans c.c2x4, (World.cell?_setCell_other _ _ _ _ (by simp)).trans c.c2x5, (World.cell?_setCell_other _ _ _ _ (by simp)).trans c.c3x0, (World.cell?_setCell_other _ _ _ _ (by simp)).trans c.c3x1, (World.cell?_setCell_other _ _ _ _ (by simp)).trans c.c4x0, World.cell?_setCell_same' _ _ _ (by rw [c.c4x1]; rfl), (World.cell?_setCell_other _ _ _ _ (by simp)).trans c.c5x0, (World.cell?_setCell_other _ _ _ _ (by simp)).trans c.c5x1, (World.cell?_setCell_other _ _ _ _ (by simp)).trans c.c6x0, (World.cell?_setCell_other _ _ _ _ (by simp)).trans c.c6x1, (World.cell?_setCell_other _ _ _ _ (by simp)).trans c.c7x0, (World.cell?_setCell_other _ _ _ _ (by simp)).trans c.c7x1, (World.cell?_setCell_other _ _ _ _ (by simp)).trans c.c7x2, (World.cell?_setCell_other _ _ _ _ (by simp)).trans c.c7x3, (World.cell?_setCell_other _ _ _ _ (by simp)).trans c.c7x4, (World.cell?_setCell_other _ _ _ _ (by simp)).trans c.c7x5, (World.cell?_setCell_other _ _ _ _ (by simp)).trans c.c7x6, (World.cell?_setCell_other _ _ _ _ (by simp)).trans c.c7x7, (World.cell?_setCell_other _ _ _ _ (by simp)).trans c.c7x8, (World.cell?_setCell_other _ _ _ _ (by simp)).trans c.c7x9⟩
set_option maxRecDepth 100000 in
set_option maxHeartbeats 1000000 in
theorem sat_two {W : World} {h : Nat} {v : Int} (c : TwoC W h v) (hv : i64B v) : Sat W (X2 h) (S2v v) := by
  have hs := c.size
  have c2x0 := c.c2x0
  have c2x1 := c.c2x1
  have c2x2 := c.c2x2
  have c2x3 := c.c2x3
  have c2x4 := c.c2x4
  have c2x5 := c.c2x5
  have c3x0 := c.c3x0
  have c3x1 := c.c3x1
  have c4x0 := c.c4x0
  have c4x1 := c.c4x1
  have c5x0 := c.c5x0
  have c5x1 := c.c5x1
  have c6x0 := c.c6x0
  have c6x1 := c.c6x1
  have c7x0 := c.c7x0
  have c7x1 := c.c7x1
  have c7x2 := c.c7x2
  have c7x3 := c.c7x3
  have c7x4 := c.c7x4
  have c7x5 := c.c7x5
  have c7x6 := c.c7x6
  have c7x7 := c.c7x7
  have c7x8 := c.c7x8
  have c7x9 := c.c7x9
  have hi : ∀ x : Int, -1000 ≤ x → x ≤ 1000 → i64B x := fun x h1 h2 => by unfold i64B; omega
  constructor
  · exact lie_of (by omega) (two_cases (fun j hj => by
      have : j = 0 ∨ j = 1 ∨ j = 2 := by omega
      rcases this with rfl | rfl | rfl
      · exact c2x0
      · exact c2x1
      · exact c2x2) (fun j hj => by
      have : j = 0 ∨ j = 1 ∨ j = 2 := by omega
      rcases this with rfl | rfl | rfl
      · exact c2x3
      · exact c2x4
      · exact c2x5))
  · exact lie_of (by omega) (two_cases (fun j hj => by
      have : j = 0 := by omega
      subst this; exact c3x0) (fun j hj => by
      have : j = 0 := by omega
      subst this; exact c3x1))
  · refine ⟨⟨fun i => if i = 0 then (some ⟨h + 1 + 1 + 1 + 1, 0, none⟩, 2) else (some ⟨h + 1 + 1 + 1 + 1 + 1, 0, none⟩, 2), ?_, ?_⟩, rfl, cap_some (show 2 ≤ 1000 by omega)⟩
    · exact lie_of (by omega) (two_cases (fun j hj => by
        have : j = 0 := by omega
        subst this; exact c6x0) (fun j hj => by
        have : j = 0 := by omega
        subst this; exact c6x1))
    · refine two_cases ⟨lie_of (by omega) (two_cases (fun j hj => by
        have : j = 0 := by omega
        subst this; exact c4x0) (fun j hj => by
        have : j = 0 := by omega
        subst this; exact c4x1)), rfl, cap_some (show 2 ≤ 1000 by omega), ?_⟩ ⟨lie_of (by omega) (two_cases (fun j hj => by
        have : j = 0 := by omega
        subst this; exact c5x0) (fun j hj => by
        have : j = 0 := by omega
        subst this; exact c5x1)), rfl, cap_some (show 2 ≤ 1000 by omega), ?_⟩
      · intro x hx
        have : x = 0 ∨ x = v := by simpa [S2v] using hx
        unfold i64B at hv
        omega
      · intro x hx
        have : x = 2 ∨ x = 0 := by simpa [S2v] using hx
        omega
  · exact lie_of (by omega) (two_cases (fun j hj => by
      have : j = 0 ∨ j = 1 ∨ j = 2 ∨ j = 3 ∨ j = 4 := by omega
      rcases this with rfl | rfl | rfl | rfl | rfl
      · exact c7x0
      · exact c7x1
      · exact c7x2
      · exact c7x3
      · exact c7x4) (fun j hj => by
      have : j = 0 ∨ j = 1 ∨ j = 2 ∨ j = 3 ∨ j = 4 := by omega
      rcases this with rfl | rfl | rfl | rfl | rfl
      · exact c7x5
      · exact c7x6
      · exact c7x7
      · exact c7x8
      · exact c7x9))
  · exact ⟨fun hp => absurd hp (by first | decide | simp [S2v])⟩
  · exact ⟨⟨fun _ => (none, 0), ⟨fun hp => absurd hp (by first | decide | simp [S2v])⟩, fun i hi => absurd hi (Nat.not_lt_zero i)⟩, rfl, ⟨fun _ => ⟨rfl, rfl⟩, Nat.le_refl _, Nat.zero_le _⟩, fun p hp => by cases hp⟩
  · exact cap_some (show 2 ≤ 1000 by omega)
  · exact cap_some (show 2 ≤ 1000 by omega)
  · exact cap_some (show 2 ≤ 1000 by omega)
  · exact ⟨fun _ => ⟨rfl, rfl⟩, Nat.le_refl _, Nat.zero_le _⟩
  · intro g hg
    have : g = ⟨1, 2, 1⟩ := by simpa [S2v] using hg
    subst this
    exact ⟨by decide, hi _ (by first | decide | simp [S2v]) (by first | decide | simp [S2v]), hi _ (by first | decide | simp [S2v]) (by first | decide | simp [S2v])⟩
  · intro x hx
    have : x = 2 ∨ x = 1 := by simpa [S2v] using hx
    omega
  · intro p hp
    have : p = ⟨1, 2, 5, 1, false⟩ ∨ p = ⟨2, 2, 5, 1, false⟩ := by simpa [S2v] using hp
    rcases this with rfl | rfl
    · exact ⟨by decide, hi _ (by first | decide | simp [S2v]) (by first | decide | simp [S2v]), hi _ (by first | decide | simp [S2v]) (by first | decide | simp [S2v]), hi _ (by first | decide | simp [S2v]) (by first | decide | simp [S2v])⟩
    · exact ⟨by decide, hi _ (by first | decide | simp [S2v]) (by first | decide | simp [S2v]), hi _ (by first | decide | simp [S2v]) (by first | decide | simp [S2v]), hi _ (by first | decide | simp [S2v]) (by first | decide | simp [S2v])⟩
  · intro e he
    cases he
  · exact ⟨hi _ (by first | decide | simp [S2v]) (by first | decide | simp [S2v]), hi _ (by first | decide | simp [S2v]) (by first | decide | simp [S2v]), hi _ (by first | decide | simp [S2v]) (by first | decide | simp [S2v]), hi _ (by first | decide | simp [S2v]) (by first | decide | simp [S2v]), hi _ (by first | decide | simp [S2v]) (by first | decide | simp [S2v]), hi _ (by first | decide | simp [S2v]) (by first | decide | simp [S2v])⟩
end Go.Proofs.YtoahbpdgbiachaaDoor

