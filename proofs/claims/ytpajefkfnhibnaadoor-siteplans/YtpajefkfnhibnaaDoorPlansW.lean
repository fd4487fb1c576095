/-
  THE WALK of SitePlans.
-/
import Derived.Test.YtpajefkfnhibnaaDoorAlive
import Derived.Test.YtpajefkfnhibnaaDoorSmallS
namespace Go.Proofs.YtpajefkfnhibnaaDoor
open Go.RowKit Go.Lib Go.Deep
set_option linter.unusedVariables false
set_option linter.unusedSimpArgs false

theorem Mine.come {w : World} {base : Nat} {a : Option Addr} {n c : Nat} {L : List Nat} (h : Mine w base a n c L) (hl : ∀ x ∈ L, x < 256) : Come w a n c L := ⟨h.by hl, fun e => (h.nil e).2, h.room, h.max⟩
theorem Come.kept0 {w w' : World} {a : Option Addr} {n c : Nat} {L : List Nat} (h : Come w a n c L) (k : Kept w w' none) : Come w' a n c L := h.keptR k (fun _ _ _ => by simp)
theorem plan_may {S : St} (hs : siteB S = true) {i : Nat} (hi : i < S.plans.length) : planB S (S.plans.getD i q0) = true := by
  unfold siteB at hs
  simp only [Bool.and_eq_true, allB_iff] at hs
  exact hs.2 i hi
theorem partsP_yes {w w' : World} {e : Ending} {L : List Nat} (h : Kept w w' none ∧ ((partsB L = true ∧ ∃ g, e = .returned (.tuple #[.slice (some ⟨g, 0, none⟩) (plansM (L, false)).1.length (plansM (L, false)).1.length, .int .i64 0]) ∧ Plans w' (some ⟨g, 0, none⟩) (plansM (L, false)).1.length (plansM (L, false)).1.length (plansM (L, false)).1) ∨ (partsB L = false ∧ e = .returned (.tuple #[.slice none 0 0, .int .i64 8])))) (hr : partsB L = true) {P : List Pl} (hP : (plansM (L, false)).1 = P) : Kept w w' none ∧ ∃ g, e = .returned (.tuple #[.slice (some ⟨g, 0, none⟩) P.length P.length, .int .i64 0]) ∧ Plans w' (some ⟨g, 0, none⟩) P.length P.length P := by
  subst hP
  obtain ⟨hk, ⟨_, h⟩ | ⟨hn, _⟩⟩ := h
  · exact ⟨hk, h⟩
  · rw [hr] at hn; cases hn
theorem partsP_no {w w' : World} {e : Ending} {L : List Nat} (h : Kept w w' none ∧ ((partsB L = true ∧ ∃ g, e = .returned (.tuple #[.slice (some ⟨g, 0, none⟩) (plansM (L, false)).1.length (plansM (L, false)).1.length, .int .i64 0]) ∧ Plans w' (some ⟨g, 0, none⟩) (plansM (L, false)).1.length (plansM (L, false)).1.length (plansM (L, false)).1) ∨ (partsB L = false ∧ e = .returned (.tuple #[.slice none 0 0, .int .i64 8])))) (hr : partsB L = false) : Kept w w' none ∧ e = .returned (.tuple #[.slice none 0 0, .int .i64 8]) := by
  obtain ⟨hk, ⟨hn, _⟩ | ⟨_, h⟩⟩ := h
  · rw [hr] at hn; cases hn
  · exact ⟨hk, h⟩
theorem sat_plans {w : World} {a : Option Addr} {c : Nat} {l : List Pl} (h : Plans w a l.length c l) : Sat w ⟨none, 0, none, 0, none, 0, none, 0, none, 0, a, c⟩ ⟨0, [], [], [], [], [], 0, 0, 0, 0, 0, l⟩ := by
  have hc : Cap none 0 0 := ⟨fun _ => ⟨rfl, rfl⟩, Nat.le_refl _, by omega⟩
  have hz : i64B 0 := by unfold i64B; omega
  exact ⟨⟨fun h => absurd h (by simp)⟩, ⟨fun h => absurd h (by simp)⟩, ⟨⟨fun _ => (none, 0), ⟨fun h => absurd h (by simp)⟩, fun i hi => absurd hi (by simp)⟩, rfl, hc⟩, ⟨fun h => absurd h (by simp)⟩, ⟨fun h => absurd h (by simp)⟩, h, hc, hc, hc, hc, by simp, by simp, by simp, by simp, hz, hz, hz, hz, hz, hz⟩
theorem wholeL_lt (l : List Pl) : ∀ x ∈ wholeL l, x < 256 := by
  unfold wholeL
  split
  · exact smlI_lt _
  · simp
set_option maxRecDepth 100000 in
set_option maxHeartbeats 3000000 in
theorem plans_fff {X : Sa} {S : St} {w : World} {la : Option Addr} {lc : Nat} {l : List Pl} {a : Option Addr} {n c : Nat} {L : List Nat} (h : Sat w X S) (hP : Plans w la l.length lc l) (hC : Come w a n c L) (hT : Tabb w ∧ Table w) (hw : wholeE l ≠ 0) (hp : partsB L = false) (hs : siteB S = false) : Calls Tryd.prog 7 #[siteV X S, .slice la l.length lc, .slice a n c] w fun e w' => e = .returned (.bool true) ∧ Below w.heap.size w w' := by
  obtain ⟨xg, xgc, xa, xac, xb, xbc, xp, xpc, xe, xec, xl, xlc⟩ := X
  have hkA : Kept w (w.alloc (.cells #[.int .i64 S.id, .slice xg S.groups.length xgc, .slice xa S.apart.length xac, .slice xb S.between.length xbc, .slice xp S.phases.length xpc, .slice xe S.eyes.length xec, .int .i64 S.watch, .int .i64 S.feed, .int .i64 S.heal, .int .i64 S.low, .int .i64 S.high, .slice xl S.plans.length xlc] 29)) none := Kept.alloc _ _ _ _ _
  have HSB := Hid.mk' (sbox_alloc h 29)
  have HK := Hid.mk' hkA
  have HC := Hid.mk' (hC.kept0 hkA)
  have HP := Hid.mk' (hP.kept hkA)
  have HT := Hid.mk' (hT.1.kept hkA)
  have HTb := Hid.mk' (hT.2.kept hkA)
  have hn9 : n ≤ 9223372036854775807 := by have := hC.room; have := hC.max; omega
  have hl9 : l.length ≤ 9223372036854775807 := by have := hP.cap.room; have := hP.cap.max; omega
  have hs9 : S.plans.length ≤ 9223372036854775807 := by have := h.l.cap.room; have := h.l.cap.max; omega
  have HS2 : Hid (∀ w', Kept w w' none → Sat w' ⟨none, 0, none, 0, none, 0, none, 0, none, 0, la, lc⟩ ⟨0, [], [], [], [], [], 0, 0, 0, 0, 0, l⟩) := fun w' k => sat_plans (hP.kept k)
  have HLL := Hid.mk' hC.by_.lt
  clear h hC hT hP hkA
  have HSE := Hid.mk' (checkE_no hs)
  have HS' := Hid.mk' hs
  have HPB := Hid.mk' hp
  obtain ⟨E, hE⟩ : ∃ E, wholeE l = E := ⟨_, rfl⟩
  have HWE := Hid.mk' hE
  have HM : Hid (wholeL l = []) := by show wholeL l = []; unfold wholeL; rw [if_neg hw]
  rw [hE] at hw
  have e0 : (E == 0) = false := by simpa using hw
  clear hE hp hs
  go_enter Tryd.func7, Tryd.ntmps7
  go_wp2_with (go_at_call 17; refine (alive_any HT.out HTb.out).mono ?_; rintro e w1 ⟨rfl, hk1⟩; obtain ⟨c0, c1, c2, c3, c4, c5, c6, c7, c8, c9, c10, c11, _⟩ := HSB.out.kept hk1)
  go_at_call 36
  refine (smallS_any (HSB.out.sat.kept hk1)).mono ?_
  rintro e w2 ⟨z, rfl, hk2⟩
  clear c0 c1 c2 c3 c4 c5 c6 c7 c8 c9 c10 c11
  have K2 := Hid.mk' (hk1.tr hk2)
  clear hk1 hk2
  by_cases hz : z < 150
  case neg =>
    go_wp2
    go_ret
    exact ⟨rfl, (HK.out.tr K2.out).below⟩
  go_wp2_with fail
  go_at_call 36
  refine (smallS_any (HS2.out _ (HK.out.tr K2.out))).mono ?_
  rintro e w2' ⟨z2, rfl, hk2⟩
  have K2 := Hid.mk' (K2.out.tr hk2)
  clear hk2
  by_cases hz2 : z2 < 150
  case neg =>
    go_wp2
    go_ret
    exact ⟨rfl, (HK.out.tr K2.out).below⟩
  by_cases hn : (5000 : Int) < n
  case pos =>
    go_wp2
    go_ret
    exact ⟨rfl, (HK.out.tr K2.out).below⟩
  go_wp2_with (first
        | (have hgo := KT; clear hgo; go_at_call 15; refine (parts_any (HC.out.kept0 KT.out)).mono ?_; rintro e w7 hc; obtain ⟨hk7, rfl⟩ := partsP_no hc HPB.out; have KE := Hid.mk' (KT.out.tr hk7); clear hc hk7)
        | (go_at_call 14; have hn := whole_any (HP.out.kept K2.out); rw [HWE.out, HM.out] at hn; refine hn.mono ?_; rintro e w3 ⟨a3, p3, rfl, hm3, hk3⟩; have KT := Hid.mk' (K2.out.tr hk3); clear hm3 hk3))
  have KE2 := Hid.mk' KE.out
  obtain ⟨c0, c1, c2, c3, c4, c5, c6, c7, c8, c9, c10, c11, _⟩ := HSB.out.kept KE.out
  go_loopw [18] (fun i wr => ∃ k : Nat, k ≤ S.plans.length ∧ i = .int .i64 k ∧ Kept (w.alloc (.cells #[.int .i64 S.id, .slice xg S.groups.length xgc, .slice xa S.apart.length xac, .slice xb S.between.length xbc, .slice xp S.phases.length xpc, .slice xe S.eyes.length xec, .int .i64 S.watch, .int .i64 S.feed, .int .i64 S.heal, .int .i64 S.low, .int .i64 S.high, .slice xl S.plans.length xlc] 29)) wr none) (fun i _ => S.plans.length - (intOf i).toNat)
  case atStart => exact ⟨0, by omega, rfl, KE2.out⟩
  case round =>
    clear c0 c1 c2 c3 c4 c5 c6 c7 c8 c9 c10 c11
    obtain ⟨k, hk, rfl, hkr⟩ := hrel
    have KR := Hid.mk' hkr
    clear hkr
    by_cases hlt : k < S.plans.length
    case neg =>
      obtain ⟨c0, c1, c2, c3, c4, c5, c6, c7, c8, c9, c10, c11, _⟩ := HSB.out.kept KR.out
      go_wp2
      go_ret
      exact ⟨rfl, (HK.out.tr KR.out).below⟩
    obtain ⟨c0, c1, c2, c3, c4, c5, c6, c7, c8, c9, c10, c11, _⟩ := HSB.out.kept KR.out
    go_wp2_with (go_at_call 16; have hn := check_any (HSB.out.sat.kept KR.out) (HT.out.kept KR.out); rw [HSE.out] at hn; refine hn.mono ?_; rintro e w8 ⟨rfl, hk8⟩)
    go_ret
    exact ⟨rfl, (HK.out.tr (KR.out.tr hk8)).below⟩
set_option maxRecDepth 100000 in
set_option maxHeartbeats 3000000 in
theorem plans_fft {X : Sa} {S : St} {w : World} {la : Option Addr} {lc : Nat} {l : List Pl} {a : Option Addr} {n c : Nat} {L : List Nat} (h : Sat w X S) (hP : Plans w la l.length lc l) (hC : Come w a n c L) (hT : Tabb w ∧ Table w) (hw : wholeE l ≠ 0) (hp : partsB L = false) (hs : siteB S = true) : Calls Tryd.prog 7 #[siteV X S, .slice la l.length lc, .slice a n c] w fun e w' => e = .returned (.bool true) ∧ Below w.heap.size w w' := by
  obtain ⟨xg, xgc, xa, xac, xb, xbc, xp, xpc, xe, xec, xl, xlc⟩ := X
  have hkA : Kept w (w.alloc (.cells #[.int .i64 S.id, .slice xg S.groups.length xgc, .slice xa S.apart.length xac, .slice xb S.between.length xbc, .slice xp S.phases.length xpc, .slice xe S.eyes.length xec, .int .i64 S.watch, .int .i64 S.feed, .int .i64 S.heal, .int .i64 S.low, .int .i64 S.high, .slice xl S.plans.length xlc] 29)) none := Kept.alloc _ _ _ _ _
  have HSB := Hid.mk' (sbox_alloc h 29)
  have HK := Hid.mk' hkA
  have HC := Hid.mk' (hC.kept0 hkA)
  have HP := Hid.mk' (hP.kept hkA)
  have HT := Hid.mk' (hT.1.kept hkA)
  have HTb := Hid.mk' (hT.2.kept hkA)
  have hn9 : n ≤ 9223372036854775807 := by have := hC.room; have := hC.max; omega
  have hl9 : l.length ≤ 9223372036854775807 := by have := hP.cap.room; have := hP.cap.max; omega
  have hs9 : S.plans.length ≤ 9223372036854775807 := by have := h.l.cap.room; have := h.l.cap.max; omega
  have HS2 : Hid (∀ w', Kept w w' none → Sat w' ⟨none, 0, none, 0, none, 0, none, 0, none, 0, la, lc⟩ ⟨0, [], [], [], [], [], 0, 0, 0, 0, 0, l⟩) := fun w' k => sat_plans (hP.kept k)
  have HLL := Hid.mk' hC.by_.lt
  clear h hC hT hP hkA
  have HSE := Hid.mk' (checkE_yes hs)
  have HS' := Hid.mk' hs
  have HPB := Hid.mk' hp
  obtain ⟨E, hE⟩ : ∃ E, wholeE l = E := ⟨_, rfl⟩
  have HWE := Hid.mk' hE
  have HM : Hid (wholeL l = []) := by show wholeL l = []; unfold wholeL; rw [if_neg hw]
  rw [hE] at hw
  have e0 : (E == 0) = false := by simpa using hw
  clear hE hp hs
  go_enter Tryd.func7, Tryd.ntmps7
  go_wp2_with (go_at_call 17; refine (alive_any HT.out HTb.out).mono ?_; rintro e w1 ⟨rfl, hk1⟩; obtain ⟨c0, c1, c2, c3, c4, c5, c6, c7, c8, c9, c10, c11, _⟩ := HSB.out.kept hk1)
  go_at_call 36
  refine (smallS_any (HSB.out.sat.kept hk1)).mono ?_
  rintro e w2 ⟨z, rfl, hk2⟩
  clear c0 c1 c2 c3 c4 c5 c6 c7 c8 c9 c10 c11
  have K2 := Hid.mk' (hk1.tr hk2)
  clear hk1 hk2
  by_cases hz : z < 150
  case neg =>
    go_wp2
    go_ret
    exact ⟨rfl, (HK.out.tr K2.out).below⟩
  go_wp2_with fail
  go_at_call 36
  refine (smallS_any (HS2.out _ (HK.out.tr K2.out))).mono ?_
  rintro e w2' ⟨z2, rfl, hk2⟩
  have K2 := Hid.mk' (K2.out.tr hk2)
  clear hk2
  by_cases hz2 : z2 < 150
  case neg =>
    go_wp2
    go_ret
    exact ⟨rfl, (HK.out.tr K2.out).below⟩
  by_cases hn : (5000 : Int) < n
  case pos =>
    go_wp2
    go_ret
    exact ⟨rfl, (HK.out.tr K2.out).below⟩
  go_wp2_with (first
        | (have hgo := KT; clear hgo; go_at_call 15; refine (parts_any (HC.out.kept0 KT.out)).mono ?_; rintro e w7 hc; obtain ⟨hk7, rfl⟩ := partsP_no hc HPB.out; have KE := Hid.mk' (KT.out.tr hk7); clear hc hk7)
        | (go_at_call 14; have hn := whole_any (HP.out.kept K2.out); rw [HWE.out, HM.out] at hn; refine hn.mono ?_; rintro e w3 ⟨a3, p3, rfl, hm3, hk3⟩; have KT := Hid.mk' (K2.out.tr hk3); clear hm3 hk3))
  have KE2 := Hid.mk' KE.out
  obtain ⟨c0, c1, c2, c3, c4, c5, c6, c7, c8, c9, c10, c11, _⟩ := HSB.out.kept KE.out
  go_loopw [18] (fun i wr => ∃ k : Nat, k ≤ S.plans.length ∧ i = .int .i64 k ∧ Kept (w.alloc (.cells #[.int .i64 S.id, .slice xg S.groups.length xgc, .slice xa S.apart.length xac, .slice xb S.between.length xbc, .slice xp S.phases.length xpc, .slice xe S.eyes.length xec, .int .i64 S.watch, .int .i64 S.feed, .int .i64 S.heal, .int .i64 S.low, .int .i64 S.high, .slice xl S.plans.length xlc] 29)) wr none) (fun i _ => S.plans.length - (intOf i).toNat)
  case atStart => exact ⟨0, by omega, rfl, KE2.out⟩
  case round =>
    clear c0 c1 c2 c3 c4 c5 c6 c7 c8 c9 c10 c11
    obtain ⟨k, hk, rfl, hkr⟩ := hrel
    have KR := Hid.mk' hkr
    clear hkr
    by_cases hlt : k < S.plans.length
    case neg =>
      obtain ⟨c0, c1, c2, c3, c4, c5, c6, c7, c8, c9, c10, c11, _⟩ := HSB.out.kept KR.out
      go_wp2
      go_ret
      exact ⟨rfl, (HK.out.tr KR.out).below⟩
    case pos =>
      obtain ⟨pb, off, a', c', e, p0, p1, p2, hI⟩ := HSB.out.sat.l.at_ hlt
      dsimp only at e
      subst e
      have hpl := plan_may HS'.out hlt
      generalize S.plans.getD k q0 = Q at *
      have HI := Hid.mk' hI
      have HPL := Hid.mk' hpl
      clear hpl
      have HA : Hid (∀ w', Kept (w.alloc (.cells #[.int .i64 S.id, .slice xg S.groups.length xgc, .slice xa S.apart.length xac, .slice xb S.between.length xbc, .slice xp S.phases.length xpc, .slice xe S.eyes.length xec, .int .i64 S.watch, .int .i64 S.feed, .int .i64 S.heal, .int .i64 S.low, .int .i64 S.high, .slice (some ⟨pb, off, none⟩) S.plans.length xlc] 29)) w' none → w'.cell? ⟨w.heap.size, 0, none⟩ = some (.int .i64 S.id) ∧ w'.cell? ⟨w.heap.size, 1, none⟩ = some (.slice xg S.groups.length xgc) ∧ w'.cell? ⟨w.heap.size, 2, none⟩ = some (.slice xa S.apart.length xac) ∧ w'.cell? ⟨w.heap.size, 3, none⟩ = some (.slice xb S.between.length xbc) ∧ w'.cell? ⟨w.heap.size, 4, none⟩ = some (.slice xp S.phases.length xpc) ∧ w'.cell? ⟨w.heap.size, 5, none⟩ = some (.slice xe S.eyes.length xec) ∧ w'.cell? ⟨w.heap.size, 6, none⟩ = some (.int .i64 S.watch) ∧ w'.cell? ⟨w.heap.size, 7, none⟩ = some (.int .i64 S.feed) ∧ w'.cell? ⟨w.heap.size, 8, none⟩ = some (.int .i64 S.heal) ∧ w'.cell? ⟨w.heap.size, 9, none⟩ = some (.int .i64 S.low) ∧ w'.cell? ⟨w.heap.size, 10, none⟩ = some (.int .i64 S.high) ∧ w'.cell? ⟨w.heap.size, 11, none⟩ = some (.slice (some ⟨pb, off, none⟩) S.plans.length xlc) ∧ w'.cell? ⟨pb, off + k * 3, none⟩ = some (.int .i64 Q.cycle) ∧ w'.cell? ⟨pb, off + k * 3 + 1, none⟩ = some (.int .i64 Q.offset) ∧ w'.cell? ⟨pb, off + k * 3 + 2, none⟩ = some (.slice a' Q.splits.length c')) := fun w' q => ⟨(HSB.out.kept q).c0, (HSB.out.kept q).c1, (HSB.out.kept q).c2, (HSB.out.kept q).c3, (HSB.out.kept q).c4, (HSB.out.kept q).c5, (HSB.out.kept q).c6, (HSB.out.kept q).c7, (HSB.out.kept q).c8, (HSB.out.kept q).c9, (HSB.out.kept q).c10, (HSB.out.kept q).c11, cell_kept0 p0 q, cell_kept0 p1 q, cell_kept0 p2 q⟩
      clear p0 p1 p2 hI
      obtain ⟨c0, c1, c2, c3, c4, c5, c6, c7, c8, c9, c10, c11, _⟩ := HA.out _ KR.out
      go_wp2_with (go_at_call 16; have hn := check_any (HSB.out.sat.kept KR.out) (HT.out.kept KR.out); rw [HSE.out] at hn; refine hn.mono ?_; rintro e w8 ⟨rfl, hk8⟩)
      clear c0 c1 c2 c3 c4 c5 c6 c7 c8 c9 c10 c11
      have KD := Hid.mk' ((KR.out.tr hk8).tr (Kept.drew w8 none))
      clear hk8
      refine wp_region_held_drew (S := fun w' => w'.cell? ⟨w.heap.size, 0, none⟩ = some (.int .i64 S.id) ∧ w'.cell? ⟨w.heap.size, 1, none⟩ = some (.slice xg S.groups.length xgc) ∧ w'.cell? ⟨w.heap.size, 2, none⟩ = some (.slice xa S.apart.length xac) ∧ w'.cell? ⟨w.heap.size, 3, none⟩ = some (.slice xb S.between.length xbc) ∧ w'.cell? ⟨w.heap.size, 4, none⟩ = some (.slice xp S.phases.length xpc) ∧ w'.cell? ⟨w.heap.size, 5, none⟩ = some (.slice xe S.eyes.length xec) ∧ w'.cell? ⟨w.heap.size, 6, none⟩ = some (.int .i64 S.watch) ∧ w'.cell? ⟨w.heap.size, 7, none⟩ = some (.int .i64 S.feed) ∧ w'.cell? ⟨w.heap.size, 8, none⟩ = some (.int .i64 S.heal) ∧ w'.cell? ⟨w.heap.size, 9, none⟩ = some (.int .i64 S.low) ∧ w'.cell? ⟨w.heap.size, 10, none⟩ = some (.int .i64 S.high) ∧ w'.cell? ⟨w.heap.size, 11, none⟩ = some (.slice (some ⟨pb, off, none⟩) S.plans.length xlc) ∧ w'.cell? ⟨pb, off + k * 3, none⟩ = some (.int .i64 Q.cycle) ∧ w'.cell? ⟨pb, off + k * 3 + 1, none⟩ = some (.int .i64 Q.offset) ∧ w'.cell? ⟨pb, off + k * 3 + 2, none⟩ = some (.slice a' Q.splits.length c')) (by kernel_rfl) (HA.out _ KD.out) (fun hHeld => ?_)
      refine held_take (i := 0) (v := ?vh1x0) rfl rfl (by kernel_rfl) (by kernel_rfl) (by kernel_rfl) (fun _ _ _ h => h) (Or.inl ⟨by rfl, ?hyh1x0⟩) hHeld ?resth1x0
      case hyh1x0 => first | (intro w hSw; go_simp; done) | (intro w hSw; go_simp; with_reducible rfl)
      try simp only [List.setIfInBounds_toArray, List.set_cons_zero, List.set_cons_succ]
      refine held_take (i := 1) (v := ?vh1x1) rfl rfl (by kernel_rfl) (by kernel_rfl) (by kernel_rfl) (fun _ _ _ h => h) (Or.inl ⟨by rfl, ?hyh1x1⟩) hHeld ?resth1x1
      case hyh1x1 => first | (intro w hSw; go_simp; done) | (intro w hSw; go_simp; with_reducible rfl)
      try simp only [List.setIfInBounds_toArray, List.set_cons_zero, List.set_cons_succ]
      refine held_take (i := 2) (v := ?vh1x2) rfl rfl (by kernel_rfl) (by kernel_rfl) (by kernel_rfl) (fun _ _ _ h => h) (Or.inl ⟨by rfl, ?hyh1x2⟩) hHeld ?resth1x2
      case hyh1x2 => first | (intro w hSw; go_simp; done) | (intro w hSw; go_simp; with_reducible rfl)
      try simp only [List.setIfInBounds_toArray, List.set_cons_zero, List.set_cons_succ]
      refine held_take (i := 3) (v := ?vh1x3) rfl rfl (by kernel_rfl) (by kernel_rfl) (by kernel_rfl) (fun _ _ _ h => h) (Or.inl ⟨by rfl, ?hyh1x3⟩) hHeld ?resth1x3
      case hyh1x3 => first | (intro w hSw; go_simp; done) | (intro w hSw; go_simp; with_reducible rfl)
      try simp only [List.setIfInBounds_toArray, List.set_cons_zero, List.set_cons_succ]
      refine held_take (i := 4) (v := ?vh1x4) rfl rfl (by kernel_rfl) (by kernel_rfl) (by kernel_rfl) (fun _ _ _ h => h) (Or.inl ⟨by rfl, ?hyh1x4⟩) hHeld ?resth1x4
      case hyh1x4 => first | (intro w hSw; go_simp; done) | (intro w hSw; go_simp; with_reducible rfl)
      try simp only [List.setIfInBounds_toArray, List.set_cons_zero, List.set_cons_succ]
      refine held_take (i := 5) (v := ?vh1x5) rfl rfl (by kernel_rfl) (by kernel_rfl) (by kernel_rfl) (fun _ _ _ h => h) (Or.inl ⟨by rfl, ?hyh1x5⟩) hHeld ?resth1x5
      case hyh1x5 => first | (intro w hSw; go_simp; done) | (intro w hSw; go_simp; with_reducible rfl)
      try simp only [List.setIfInBounds_toArray, List.set_cons_zero, List.set_cons_succ]
      refine wpAnyH_ready (rs := [6]) (by kernel_rfl) (by simp) ?_
      refine AllReadyH.cons rfl (fun K hK => ?_) AllReadyH.nil
      go_simp
      go_wp2_with (go_at_call 13; have hn := planq_yes (HSB.out.sat.kept KD.out) (HT.out.kept KD.out) HS'.out Q a' c' (HI.out.kept KD.out); rw [HPL.out] at hn; refine hn.mono ?_; rintro e w9 ⟨rfl, hk9⟩)
      refine hK.out _ _ (HA.out _ (KD.out.tr hk9)) (fun hHeld => ?_)
      clear hK K
      refine held_take (i := 7) (v := ?vh2x7) rfl rfl (by kernel_rfl) (by kernel_rfl) (by kernel_rfl) (fun _ _ _ h => h) (Or.inl ⟨by rfl, ?hyh2x7⟩) hHeld ?resth2x7
      case hyh2x7 => first | (intro w hSw; go_simp; done) | (intro w hSw; go_simp; with_reducible rfl)
      try simp only [List.setIfInBounds_toArray, List.set_cons_zero, List.set_cons_succ]
      refine held_take (i := 8) (v := ?vh2x8) rfl rfl (by kernel_rfl) (by kernel_rfl) (by kernel_rfl) (fun _ _ _ h => h) (Or.inl ⟨by rfl, ?hyh2x8⟩) hHeld ?resth2x8
      case hyh2x8 => first | (intro w hSw; go_simp; done) | (intro w hSw; go_simp; with_reducible rfl)
      try simp only [List.setIfInBounds_toArray, List.set_cons_zero, List.set_cons_succ]
      refine held_take (i := 9) (v := ?vh2x9) rfl rfl (by kernel_rfl) (by kernel_rfl) (by kernel_rfl) (fun _ _ _ h => h) (Or.inl ⟨by rfl, ?hyh2x9⟩) hHeld ?resth2x9
      case hyh2x9 => first | (intro w hSw; go_simp; done) | (intro w hSw; go_simp; with_reducible rfl)
      try simp only [List.setIfInBounds_toArray, List.set_cons_zero, List.set_cons_succ]
      refine wpAnyH_ready (rs := [10]) (by kernel_rfl) (by simp) ?_
      refine AllReadyH.cons rfl (fun K hK => ?_) AllReadyH.nil
      go_simp
      refine hK.out _ _ hHeld (fun hHeld => ?_)
      clear hK K
      refine wpAnyH_ready (rs := [11]) (by kernel_rfl) (by simp) ?_
      refine AllReadyH.cons rfl (fun K hK => ?_) AllReadyH.nil
      go_simp
      refine hK.out _ _ hHeld (fun hHeld => ?_)
      clear hK K
      refine wpAnyH_done (by kernel_rfl) ?_ _
      clear hHeld
      go_wp2
      exact ⟨⟨k + 1, by omega, by go_num, KD.out.tr hk9⟩, by simp [intOf]; omega⟩
set_option maxRecDepth 100000 in
set_option maxHeartbeats 3000000 in
theorem plans_ftf {X : Sa} {S : St} {w : World} {la : Option Addr} {lc : Nat} {l : List Pl} {a : Option Addr} {n c : Nat} {L : List Nat} (h : Sat w X S) (hP : Plans w la l.length lc l) (hC : Come w a n c L) (hT : Tabb w ∧ Table w) (hw : wholeE l ≠ 0) (hp : partsB L = true) (hs : siteB S = false) : Calls Tryd.prog 7 #[siteV X S, .slice la l.length lc, .slice a n c] w fun e w' => e = .returned (.bool true) ∧ Below w.heap.size w w' := by
  obtain ⟨xg, xgc, xa, xac, xb, xbc, xp, xpc, xe, xec, xl, xlc⟩ := X
  have hkA : Kept w (w.alloc (.cells #[.int .i64 S.id, .slice xg S.groups.length xgc, .slice xa S.apart.length xac, .slice xb S.between.length xbc, .slice xp S.phases.length xpc, .slice xe S.eyes.length xec, .int .i64 S.watch, .int .i64 S.feed, .int .i64 S.heal, .int .i64 S.low, .int .i64 S.high, .slice xl S.plans.length xlc] 29)) none := Kept.alloc _ _ _ _ _
  have HSB := Hid.mk' (sbox_alloc h 29)
  have HK := Hid.mk' hkA
  have HC := Hid.mk' (hC.kept0 hkA)
  have HP := Hid.mk' (hP.kept hkA)
  have HT := Hid.mk' (hT.1.kept hkA)
  have HTb := Hid.mk' (hT.2.kept hkA)
  have hn9 : n ≤ 9223372036854775807 := by have := hC.room; have := hC.max; omega
  have hl9 : l.length ≤ 9223372036854775807 := by have := hP.cap.room; have := hP.cap.max; omega
  have hs9 : S.plans.length ≤ 9223372036854775807 := by have := h.l.cap.room; have := h.l.cap.max; omega
  have HS2 : Hid (∀ w', Kept w w' none → Sat w' ⟨none, 0, none, 0, none, 0, none, 0, none, 0, la, lc⟩ ⟨0, [], [], [], [], [], 0, 0, 0, 0, 0, l⟩) := fun w' k => sat_plans (hP.kept k)
  have HLL := Hid.mk' hC.by_.lt
  clear h hC hT hP hkA
  have HSE := Hid.mk' (checkE_no hs)
  have HS' := Hid.mk' hs
  have HPB := Hid.mk' hp
  obtain ⟨P, hPP⟩ : ∃ P, (plansM (L, false)).1 = P := ⟨_, rfl⟩
  have WP : Hid (wholeE P = 0 ∧ wholeL P = L) := by have := whole_parts HLL.out hp; rw [hPP] at this; exact this
  have HPP := Hid.mk' hPP
  clear hPP
  obtain ⟨E, hE⟩ : ∃ E, wholeE l = E := ⟨_, rfl⟩
  have HWE := Hid.mk' hE
  have HM : Hid (wholeL l = []) := by show wholeL l = []; unfold wholeL; rw [if_neg hw]
  rw [hE] at hw
  have e0 : (E == 0) = false := by simpa using hw
  clear hE hp hs
  go_enter Tryd.func7, Tryd.ntmps7
  go_wp2_with (go_at_call 17; refine (alive_any HT.out HTb.out).mono ?_; rintro e w1 ⟨rfl, hk1⟩; obtain ⟨c0, c1, c2, c3, c4, c5, c6, c7, c8, c9, c10, c11, _⟩ := HSB.out.kept hk1)
  go_at_call 36
  refine (smallS_any (HSB.out.sat.kept hk1)).mono ?_
  rintro e w2 ⟨z, rfl, hk2⟩
  clear c0 c1 c2 c3 c4 c5 c6 c7 c8 c9 c10 c11
  have K2 := Hid.mk' (hk1.tr hk2)
  clear hk1 hk2
  by_cases hz : z < 150
  case neg =>
    go_wp2
    go_ret
    exact ⟨rfl, (HK.out.tr K2.out).below⟩
  go_wp2_with fail
  go_at_call 36
  refine (smallS_any (HS2.out _ (HK.out.tr K2.out))).mono ?_
  rintro e w2' ⟨z2, rfl, hk2⟩
  have K2 := Hid.mk' (K2.out.tr hk2)
  clear hk2
  by_cases hz2 : z2 < 150
  case neg =>
    go_wp2
    go_ret
    exact ⟨rfl, (HK.out.tr K2.out).below⟩
  by_cases hn : (5000 : Int) < n
  case pos =>
    go_wp2
    go_ret
    exact ⟨rfl, (HK.out.tr K2.out).below⟩
  go_wp2_with (first
        | (have hgo := P7; clear hgo; go_at_call 14; have hn := whole_any P7.out; rw [WP.out.1, WP.out.2] at hn; refine hn.mono ?_; rintro e w8 ⟨a8, p8, rfl, hm8, hk8⟩; have t1 := run_text (hm8.by HLL.out) p8; have t2 := run_text (HC.out.kept0 (K7.out.tr hk8)).by_ c; have KE := Hid.mk' (K7.out.tr hk8); clear hm8 hk8)
        | (have hgo := KT; clear hgo; go_at_call 15; refine (parts_any (HC.out.kept0 KT.out)).mono ?_; rintro e w7 hc; obtain ⟨hk7, g7, rfl, hp7⟩ := partsP_yes hc HPB.out HPP.out; have K7 := Hid.mk' (KT.out.tr hk7); have P7 := Hid.mk' hp7; clear hc hk7 hp7)
        | (go_at_call 14; have hn := whole_any (HP.out.kept K2.out); rw [HWE.out, HM.out] at hn; refine hn.mono ?_; rintro e w3 ⟨a3, p3, rfl, hm3, hk3⟩; have KT := Hid.mk' (K2.out.tr hk3); clear hm3 hk3))
  have KE2 := Hid.mk' KE.out
  obtain ⟨c0, c1, c2, c3, c4, c5, c6, c7, c8, c9, c10, c11, _⟩ := HSB.out.kept KE.out
  go_loopw [18] (fun i wr => ∃ k : Nat, k ≤ S.plans.length ∧ i = .int .i64 k ∧ Kept (w.alloc (.cells #[.int .i64 S.id, .slice xg S.groups.length xgc, .slice xa S.apart.length xac, .slice xb S.between.length xbc, .slice xp S.phases.length xpc, .slice xe S.eyes.length xec, .int .i64 S.watch, .int .i64 S.feed, .int .i64 S.heal, .int .i64 S.low, .int .i64 S.high, .slice xl S.plans.length xlc] 29)) wr none) (fun i _ => S.plans.length - (intOf i).toNat)
  case atStart => exact ⟨0, by omega, rfl, KE2.out⟩
  case round =>
    clear c0 c1 c2 c3 c4 c5 c6 c7 c8 c9 c10 c11
    obtain ⟨k, hk, rfl, hkr⟩ := hrel
    have KR := Hid.mk' hkr
    clear hkr
    by_cases hlt : k < S.plans.length
    case neg =>
      obtain ⟨c0, c1, c2, c3, c4, c5, c6, c7, c8, c9, c10, c11, _⟩ := HSB.out.kept KR.out
      go_wp2
      go_ret
      exact ⟨rfl, (HK.out.tr KR.out).below⟩
    obtain ⟨c0, c1, c2, c3, c4, c5, c6, c7, c8, c9, c10, c11, _⟩ := HSB.out.kept KR.out
    go_wp2_with (go_at_call 16; have hn := check_any (HSB.out.sat.kept KR.out) (HT.out.kept KR.out); rw [HSE.out] at hn; refine hn.mono ?_; rintro e w8 ⟨rfl, hk8⟩)
    go_ret
    exact ⟨rfl, (HK.out.tr (KR.out.tr hk8)).below⟩
set_option maxRecDepth 100000 in
set_option maxHeartbeats 3000000 in
theorem plans_ftt {X : Sa} {S : St} {w : World} {la : Option Addr} {lc : Nat} {l : List Pl} {a : Option Addr} {n c : Nat} {L : List Nat} (h : Sat w X S) (hP : Plans w la l.length lc l) (hC : Come w a n c L) (hT : Tabb w ∧ Table w) (hw : wholeE l ≠ 0) (hp : partsB L = true) (hs : siteB S = true) : Calls Tryd.prog 7 #[siteV X S, .slice la l.length lc, .slice a n c] w fun e w' => e = .returned (.bool true) ∧ Below w.heap.size w w' := by
  obtain ⟨xg, xgc, xa, xac, xb, xbc, xp, xpc, xe, xec, xl, xlc⟩ := X
  have hkA : Kept w (w.alloc (.cells #[.int .i64 S.id, .slice xg S.groups.length xgc, .slice xa S.apart.length xac, .slice xb S.between.length xbc, .slice xp S.phases.length xpc, .slice xe S.eyes.length xec, .int .i64 S.watch, .int .i64 S.feed, .int .i64 S.heal, .int .i64 S.low, .int .i64 S.high, .slice xl S.plans.length xlc] 29)) none := Kept.alloc _ _ _ _ _
  have HSB := Hid.mk' (sbox_alloc h 29)
  have HK := Hid.mk' hkA
  have HC := Hid.mk' (hC.kept0 hkA)
  have HP := Hid.mk' (hP.kept hkA)
  have HT := Hid.mk' (hT.1.kept hkA)
  have HTb := Hid.mk' (hT.2.kept hkA)
  have hn9 : n ≤ 9223372036854775807 := by have := hC.room; have := hC.max; omega
  have hl9 : l.length ≤ 9223372036854775807 := by have := hP.cap.room; have := hP.cap.max; omega
  have hs9 : S.plans.length ≤ 9223372036854775807 := by have := h.l.cap.room; have := h.l.cap.max; omega
  have HS2 : Hid (∀ w', Kept w w' none → Sat w' ⟨none, 0, none, 0, none, 0, none, 0, none, 0, la, lc⟩ ⟨0, [], [], [], [], [], 0, 0, 0, 0, 0, l⟩) := fun w' k => sat_plans (hP.kept k)
  have HLL := Hid.mk' hC.by_.lt
  clear h hC hT hP hkA
  have HSE := Hid.mk' (checkE_yes hs)
  have HS' := Hid.mk' hs
  have HPB := Hid.mk' hp
  obtain ⟨P, hPP⟩ : ∃ P, (plansM (L, false)).1 = P := ⟨_, rfl⟩
  have WP : Hid (wholeE P = 0 ∧ wholeL P = L) := by have := whole_parts HLL.out hp; rw [hPP] at this; exact this
  have HPP := Hid.mk' hPP
  clear hPP
  obtain ⟨E, hE⟩ : ∃ E, wholeE l = E := ⟨_, rfl⟩
  have HWE := Hid.mk' hE
  have HM : Hid (wholeL l = []) := by show wholeL l = []; unfold wholeL; rw [if_neg hw]
  rw [hE] at hw
  have e0 : (E == 0) = false := by simpa using hw
  clear hE hp hs
  go_enter Tryd.func7, Tryd.ntmps7
  go_wp2_with (go_at_call 17; refine (alive_any HT.out HTb.out).mono ?_; rintro e w1 ⟨rfl, hk1⟩; obtain ⟨c0, c1, c2, c3, c4, c5, c6, c7, c8, c9, c10, c11, _⟩ := HSB.out.kept hk1)
  go_at_call 36
  refine (smallS_any (HSB.out.sat.kept hk1)).mono ?_
  rintro e w2 ⟨z, rfl, hk2⟩
  clear c0 c1 c2 c3 c4 c5 c6 c7 c8 c9 c10 c11
  have K2 := Hid.mk' (hk1.tr hk2)
  clear hk1 hk2
  by_cases hz : z < 150
  case neg =>
    go_wp2
    go_ret
    exact ⟨rfl, (HK.out.tr K2.out).below⟩
  go_wp2_with fail
  go_at_call 36
  refine (smallS_any (HS2.out _ (HK.out.tr K2.out))).mono ?_
  rintro e w2' ⟨z2, rfl, hk2⟩
  have K2 := Hid.mk' (K2.out.tr hk2)
  clear hk2
  by_cases hz2 : z2 < 150
  case neg =>
    go_wp2
    go_ret
    exact ⟨rfl, (HK.out.tr K2.out).below⟩
  by_cases hn : (5000 : Int) < n
  case pos =>
    go_wp2
    go_ret
    exact ⟨rfl, (HK.out.tr K2.out).below⟩
  go_wp2_with (first
        | (have hgo := P7; clear hgo; go_at_call 14; have hn := whole_any P7.out; rw [WP.out.1, WP.out.2] at hn; refine hn.mono ?_; rintro e w8 ⟨a8, p8, rfl, hm8, hk8⟩; have t1 := run_text (hm8.by HLL.out) p8; have t2 := run_text (HC.out.kept0 (K7.out.tr hk8)).by_ c; have KE := Hid.mk' (K7.out.tr hk8); clear hm8 hk8)
        | (have hgo := KT; clear hgo; go_at_call 15; refine (parts_any (HC.out.kept0 KT.out)).mono ?_; rintro e w7 hc; obtain ⟨hk7, g7, rfl, hp7⟩ := partsP_yes hc HPB.out HPP.out; have K7 := Hid.mk' (KT.out.tr hk7); have P7 := Hid.mk' hp7; clear hc hk7 hp7)
        | (go_at_call 14; have hn := whole_any (HP.out.kept K2.out); rw [HWE.out, HM.out] at hn; refine hn.mono ?_; rintro e w3 ⟨a3, p3, rfl, hm3, hk3⟩; have KT := Hid.mk' (K2.out.tr hk3); clear hm3 hk3))
  have KE2 := Hid.mk' KE.out
  obtain ⟨c0, c1, c2, c3, c4, c5, c6, c7, c8, c9, c10, c11, _⟩ := HSB.out.kept KE.out
  go_loopw [18] (fun i wr => ∃ k : Nat, k ≤ S.plans.length ∧ i = .int .i64 k ∧ Kept (w.alloc (.cells #[.int .i64 S.id, .slice xg S.groups.length xgc, .slice xa S.apart.length xac, .slice xb S.between.length xbc, .slice xp S.phases.length xpc, .slice xe S.eyes.length xec, .int .i64 S.watch, .int .i64 S.feed, .int .i64 S.heal, .int .i64 S.low, .int .i64 S.high, .slice xl S.plans.length xlc] 29)) wr none) (fun i _ => S.plans.length - (intOf i).toNat)
  case atStart => exact ⟨0, by omega, rfl, KE2.out⟩
  case round =>
    clear c0 c1 c2 c3 c4 c5 c6 c7 c8 c9 c10 c11
    obtain ⟨k, hk, rfl, hkr⟩ := hrel
    have KR := Hid.mk' hkr
    clear hkr
    by_cases hlt : k < S.plans.length
    case neg =>
      obtain ⟨c0, c1, c2, c3, c4, c5, c6, c7, c8, c9, c10, c11, _⟩ := HSB.out.kept KR.out
      go_wp2
      go_ret
      exact ⟨rfl, (HK.out.tr KR.out).below⟩
    case pos =>
      obtain ⟨pb, off, a', c', e, p0, p1, p2, hI⟩ := HSB.out.sat.l.at_ hlt
      dsimp only at e
      subst e
      have hpl := plan_may HS'.out hlt
      generalize S.plans.getD k q0 = Q at *
      have HI := Hid.mk' hI
      have HPL := Hid.mk' hpl
      clear hpl
      have HA : Hid (∀ w', Kept (w.alloc (.cells #[.int .i64 S.id, .slice xg S.groups.length xgc, .slice xa S.apart.length xac, .slice xb S.between.length xbc, .slice xp S.phases.length xpc, .slice xe S.eyes.length xec, .int .i64 S.watch, .int .i64 S.feed, .int .i64 S.heal, .int .i64 S.low, .int .i64 S.high, .slice (some ⟨pb, off, none⟩) S.plans.length xlc] 29)) w' none → w'.cell? ⟨w.heap.size, 0, none⟩ = some (.int .i64 S.id) ∧ w'.cell? ⟨w.heap.size, 1, none⟩ = some (.slice xg S.groups.length xgc) ∧ w'.cell? ⟨w.heap.size, 2, none⟩ = some (.slice xa S.apart.length xac) ∧ w'.cell? ⟨w.heap.size, 3, none⟩ = some (.slice xb S.between.length xbc) ∧ w'.cell? ⟨w.heap.size, 4, none⟩ = some (.slice xp S.phases.length xpc) ∧ w'.cell? ⟨w.heap.size, 5, none⟩ = some (.slice xe S.eyes.length xec) ∧ w'.cell? ⟨w.heap.size, 6, none⟩ = some (.int .i64 S.watch) ∧ w'.cell? ⟨w.heap.size, 7, none⟩ = some (.int .i64 S.feed) ∧ w'.cell? ⟨w.heap.size, 8, none⟩ = some (.int .i64 S.heal) ∧ w'.cell? ⟨w.heap.size, 9, none⟩ = some (.int .i64 S.low) ∧ w'.cell? ⟨w.heap.size, 10, none⟩ = some (.int .i64 S.high) ∧ w'.cell? ⟨w.heap.size, 11, none⟩ = some (.slice (some ⟨pb, off, none⟩) S.plans.length xlc) ∧ w'.cell? ⟨pb, off + k * 3, none⟩ = some (.int .i64 Q.cycle) ∧ w'.cell? ⟨pb, off + k * 3 + 1, none⟩ = some (.int .i64 Q.offset) ∧ w'.cell? ⟨pb, off + k * 3 + 2, none⟩ = some (.slice a' Q.splits.length c')) := fun w' q => ⟨(HSB.out.kept q).c0, (HSB.out.kept q).c1, (HSB.out.kept q).c2, (HSB.out.kept q).c3, (HSB.out.kept q).c4, (HSB.out.kept q).c5, (HSB.out.kept q).c6, (HSB.out.kept q).c7, (HSB.out.kept q).c8, (HSB.out.kept q).c9, (HSB.out.kept q).c10, (HSB.out.kept q).c11, cell_kept0 p0 q, cell_kept0 p1 q, cell_kept0 p2 q⟩
      clear p0 p1 p2 hI
      obtain ⟨c0, c1, c2, c3, c4, c5, c6, c7, c8, c9, c10, c11, _⟩ := HA.out _ KR.out
      go_wp2_with (go_at_call 16; have hn := check_any (HSB.out.sat.kept KR.out) (HT.out.kept KR.out); rw [HSE.out] at hn; refine hn.mono ?_; rintro e w8 ⟨rfl, hk8⟩)
      clear c0 c1 c2 c3 c4 c5 c6 c7 c8 c9 c10 c11
      have KD := Hid.mk' ((KR.out.tr hk8).tr (Kept.drew w8 none))
      clear hk8
      refine wp_region_held_drew (S := fun w' => w'.cell? ⟨w.heap.size, 0, none⟩ = some (.int .i64 S.id) ∧ w'.cell? ⟨w.heap.size, 1, none⟩ = some (.slice xg S.groups.length xgc) ∧ w'.cell? ⟨w.heap.size, 2, none⟩ = some (.slice xa S.apart.length xac) ∧ w'.cell? ⟨w.heap.size, 3, none⟩ = some (.slice xb S.between.length xbc) ∧ w'.cell? ⟨w.heap.size, 4, none⟩ = some (.slice xp S.phases.length xpc) ∧ w'.cell? ⟨w.heap.size, 5, none⟩ = some (.slice xe S.eyes.length xec) ∧ w'.cell? ⟨w.heap.size, 6, none⟩ = some (.int .i64 S.watch) ∧ w'.cell? ⟨w.heap.size, 7, none⟩ = some (.int .i64 S.feed) ∧ w'.cell? ⟨w.heap.size, 8, none⟩ = some (.int .i64 S.heal) ∧ w'.cell? ⟨w.heap.size, 9, none⟩ = some (.int .i64 S.low) ∧ w'.cell? ⟨w.heap.size, 10, none⟩ = some (.int .i64 S.high) ∧ w'.cell? ⟨w.heap.size, 11, none⟩ = some (.slice (some ⟨pb, off, none⟩) S.plans.length xlc) ∧ w'.cell? ⟨pb, off + k * 3, none⟩ = some (.int .i64 Q.cycle) ∧ w'.cell? ⟨pb, off + k * 3 + 1, none⟩ = some (.int .i64 Q.offset) ∧ w'.cell? ⟨pb, off + k * 3 + 2, none⟩ = some (.slice a' Q.splits.length c')) (by kernel_rfl) (HA.out _ KD.out) (fun hHeld => ?_)
      refine held_take (i := 0) (v := ?vh3x0) rfl rfl (by kernel_rfl) (by kernel_rfl) (by kernel_rfl) (fun _ _ _ h => h) (Or.inl ⟨by rfl, ?hyh3x0⟩) hHeld ?resth3x0
      case hyh3x0 => first | (intro w hSw; go_simp; done) | (intro w hSw; go_simp; with_reducible rfl)
      try simp only [List.setIfInBounds_toArray, List.set_cons_zero, List.set_cons_succ]
      refine held_take (i := 1) (v := ?vh3x1) rfl rfl (by kernel_rfl) (by kernel_rfl) (by kernel_rfl) (fun _ _ _ h => h) (Or.inl ⟨by rfl, ?hyh3x1⟩) hHeld ?resth3x1
      case hyh3x1 => first | (intro w hSw; go_simp; done) | (intro w hSw; go_simp; with_reducible rfl)
      try simp only [List.setIfInBounds_toArray, List.set_cons_zero, List.set_cons_succ]
      refine held_take (i := 2) (v := ?vh3x2) rfl rfl (by kernel_rfl) (by kernel_rfl) (by kernel_rfl) (fun _ _ _ h => h) (Or.inl ⟨by rfl, ?hyh3x2⟩) hHeld ?resth3x2
      case hyh3x2 => first | (intro w hSw; go_simp; done) | (intro w hSw; go_simp; with_reducible rfl)
      try simp only [List.setIfInBounds_toArray, List.set_cons_zero, List.set_cons_succ]
      refine held_take (i := 3) (v := ?vh3x3) rfl rfl (by kernel_rfl) (by kernel_rfl) (by kernel_rfl) (fun _ _ _ h => h) (Or.inl ⟨by rfl, ?hyh3x3⟩) hHeld ?resth3x3
      case hyh3x3 => first | (intro w hSw; go_simp; done) | (intro w hSw; go_simp; with_reducible rfl)
      try simp only [List.setIfInBounds_toArray, List.set_cons_zero, List.set_cons_succ]
      refine held_take (i := 4) (v := ?vh3x4) rfl rfl (by kernel_rfl) (by kernel_rfl) (by kernel_rfl) (fun _ _ _ h => h) (Or.inl ⟨by rfl, ?hyh3x4⟩) hHeld ?resth3x4
      case hyh3x4 => first | (intro w hSw; go_simp; done) | (intro w hSw; go_simp; with_reducible rfl)
      try simp only [List.setIfInBounds_toArray, List.set_cons_zero, List.set_cons_succ]
      refine held_take (i := 5) (v := ?vh3x5) rfl rfl (by kernel_rfl) (by kernel_rfl) (by kernel_rfl) (fun _ _ _ h => h) (Or.inl ⟨by rfl, ?hyh3x5⟩) hHeld ?resth3x5
      case hyh3x5 => first | (intro w hSw; go_simp; done) | (intro w hSw; go_simp; with_reducible rfl)
      try simp only [List.setIfInBounds_toArray, List.set_cons_zero, List.set_cons_succ]
      refine wpAnyH_ready (rs := [6]) (by kernel_rfl) (by simp) ?_
      refine AllReadyH.cons rfl (fun K hK => ?_) AllReadyH.nil
      go_simp
      go_wp2_with (go_at_call 13; have hn := planq_yes (HSB.out.sat.kept KD.out) (HT.out.kept KD.out) HS'.out Q a' c' (HI.out.kept KD.out); rw [HPL.out] at hn; refine hn.mono ?_; rintro e w9 ⟨rfl, hk9⟩)
      refine hK.out _ _ (HA.out _ (KD.out.tr hk9)) (fun hHeld => ?_)
      clear hK K
      refine held_take (i := 7) (v := ?vh4x7) rfl rfl (by kernel_rfl) (by kernel_rfl) (by kernel_rfl) (fun _ _ _ h => h) (Or.inl ⟨by rfl, ?hyh4x7⟩) hHeld ?resth4x7
      case hyh4x7 => first | (intro w hSw; go_simp; done) | (intro w hSw; go_simp; with_reducible rfl)
      try simp only [List.setIfInBounds_toArray, List.set_cons_zero, List.set_cons_succ]
      refine held_take (i := 8) (v := ?vh4x8) rfl rfl (by kernel_rfl) (by kernel_rfl) (by kernel_rfl) (fun _ _ _ h => h) (Or.inl ⟨by rfl, ?hyh4x8⟩) hHeld ?resth4x8
      case hyh4x8 => first | (intro w hSw; go_simp; done) | (intro w hSw; go_simp; with_reducible rfl)
      try simp only [List.setIfInBounds_toArray, List.set_cons_zero, List.set_cons_succ]
      refine held_take (i := 9) (v := ?vh4x9) rfl rfl (by kernel_rfl) (by kernel_rfl) (by kernel_rfl) (fun _ _ _ h => h) (Or.inl ⟨by rfl, ?hyh4x9⟩) hHeld ?resth4x9
      case hyh4x9 => first | (intro w hSw; go_simp; done) | (intro w hSw; go_simp; with_reducible rfl)
      try simp only [List.setIfInBounds_toArray, List.set_cons_zero, List.set_cons_succ]
      refine wpAnyH_ready (rs := [10]) (by kernel_rfl) (by simp) ?_
      refine AllReadyH.cons rfl (fun K hK => ?_) AllReadyH.nil
      go_simp
      refine hK.out _ _ hHeld (fun hHeld => ?_)
      clear hK K
      refine wpAnyH_ready (rs := [11]) (by kernel_rfl) (by simp) ?_
      refine AllReadyH.cons rfl (fun K hK => ?_) AllReadyH.nil
      go_simp
      refine hK.out _ _ hHeld (fun hHeld => ?_)
      clear hK K
      refine wpAnyH_done (by kernel_rfl) ?_ _
      clear hHeld
      go_wp2
      exact ⟨⟨k + 1, by omega, by go_num, KD.out.tr hk9⟩, by simp [intOf]; omega⟩
set_option maxRecDepth 100000 in
set_option maxHeartbeats 3000000 in
theorem plans_tff {X : Sa} {S : St} {w : World} {la : Option Addr} {lc : Nat} {l : List Pl} {a : Option Addr} {n c : Nat} {L : List Nat} (h : Sat w X S) (hP : Plans w la l.length lc l) (hC : Come w a n c L) (hT : Tabb w ∧ Table w) (hw : wholeE l = 0) (hp : partsB L = false) (hs : siteB S = false) : Calls Tryd.prog 7 #[siteV X S, .slice la l.length lc, .slice a n c] w fun e w' => e = .returned (.bool true) ∧ Below w.heap.size w w' := by
  obtain ⟨xg, xgc, xa, xac, xb, xbc, xp, xpc, xe, xec, xl, xlc⟩ := X
  have hkA : Kept w (w.alloc (.cells #[.int .i64 S.id, .slice xg S.groups.length xgc, .slice xa S.apart.length xac, .slice xb S.between.length xbc, .slice xp S.phases.length xpc, .slice xe S.eyes.length xec, .int .i64 S.watch, .int .i64 S.feed, .int .i64 S.heal, .int .i64 S.low, .int .i64 S.high, .slice xl S.plans.length xlc] 29)) none := Kept.alloc _ _ _ _ _
  have HSB := Hid.mk' (sbox_alloc h 29)
  have HK := Hid.mk' hkA
  have HC := Hid.mk' (hC.kept0 hkA)
  have HP := Hid.mk' (hP.kept hkA)
  have HT := Hid.mk' (hT.1.kept hkA)
  have HTb := Hid.mk' (hT.2.kept hkA)
  have hn9 : n ≤ 9223372036854775807 := by have := hC.room; have := hC.max; omega
  have hl9 : l.length ≤ 9223372036854775807 := by have := hP.cap.room; have := hP.cap.max; omega
  have hs9 : S.plans.length ≤ 9223372036854775807 := by have := h.l.cap.room; have := h.l.cap.max; omega
  have HS2 : Hid (∀ w', Kept w w' none → Sat w' ⟨none, 0, none, 0, none, 0, none, 0, none, 0, la, lc⟩ ⟨0, [], [], [], [], [], 0, 0, 0, 0, 0, l⟩) := fun w' k => sat_plans (hP.kept k)
  have HLL := Hid.mk' hC.by_.lt
  clear h hC hT hP hkA
  have HSE := Hid.mk' (checkE_no hs)
  have HS' := Hid.mk' hs
  have HPB := Hid.mk' hp
  obtain ⟨M, hM⟩ : ∃ M, wholeL l = M := ⟨_, rfl⟩
  have HM := Hid.mk' hM
  have hmp := parts_whole hw
  rw [hM] at hmp
  have HMB := Hid.mk' hmp.1
  have HMP := Hid.mk' hmp.2
  have HML : Hid (∀ x ∈ M, x < 256) := by show ∀ x ∈ M, x < 256; rw [← hM]; exact wholeL_lt l
  have HWE := Hid.mk' hw
  clear hM hmp hw hp hs
  go_enter Tryd.func7, Tryd.ntmps7
  go_wp2_with (go_at_call 17; refine (alive_any HT.out HTb.out).mono ?_; rintro e w1 ⟨rfl, hk1⟩; obtain ⟨c0, c1, c2, c3, c4, c5, c6, c7, c8, c9, c10, c11, _⟩ := HSB.out.kept hk1)
  go_at_call 36
  refine (smallS_any (HSB.out.sat.kept hk1)).mono ?_
  rintro e w2 ⟨z, rfl, hk2⟩
  clear c0 c1 c2 c3 c4 c5 c6 c7 c8 c9 c10 c11
  have K2 := Hid.mk' (hk1.tr hk2)
  clear hk1 hk2
  by_cases hz : z < 150
  case neg =>
    go_wp2
    go_ret
    exact ⟨rfl, (HK.out.tr K2.out).below⟩
  go_wp2_with fail
  go_at_call 36
  refine (smallS_any (HS2.out _ (HK.out.tr K2.out))).mono ?_
  rintro e w2' ⟨z2, rfl, hk2⟩
  have K2 := Hid.mk' (K2.out.tr hk2)
  clear hk2
  by_cases hz2 : z2 < 150
  case neg =>
    go_wp2
    go_ret
    exact ⟨rfl, (HK.out.tr K2.out).below⟩
  by_cases hn : (5000 : Int) < n
  case pos =>
    go_wp2
    go_ret
    exact ⟨rfl, (HK.out.tr K2.out).below⟩
  go_wp2_with (first
        | (have hgo := KT; clear hgo; go_at_call 15; refine (parts_any (HC.out.kept0 KT.out)).mono ?_; rintro e w7 hc; obtain ⟨hk7, rfl⟩ := partsP_no hc HPB.out; have KE := Hid.mk' (KT.out.tr hk7); clear hc hk7)
        | (have hgo := P4; clear hgo; go_at_call 14; have hn := whole_any P4.out; rw [HWE.out, HM.out] at hn; refine hn.mono ?_; rintro e w5 ⟨a5, p5, rfl, hm5, hk5⟩; have t1 := run_text (hm5.by HML.out) p5; have KT := Hid.mk' (K4.out.tr hk5); have t2 := run_text ((M3.out.kept (K43.out.tr hk5)).by HML.out) p3; clear hm5 hk5)
        | (have hgo := M3; clear hgo; go_at_call 15; refine (parts_any (M3.out.come HML.out)).mono ?_; rintro e w4 hc; obtain ⟨hk4, g4, rfl, hp4⟩ := partsP_yes hc HMB.out HMP.out; have K43 := Hid.mk' hk4; have K4 := Hid.mk' (K3.out.tr hk4); have P4 := Hid.mk' hp4; clear hc hk4 hp4)
        | (go_at_call 14; have hn := whole_any (HP.out.kept K2.out); rw [HWE.out, HM.out] at hn; refine hn.mono ?_; rintro e w3 ⟨a3, p3, rfl, hm3, hk3⟩; have K3 := Hid.mk' (K2.out.tr hk3); have M3 := Hid.mk' hm3; clear hm3 hk3))
  have KE2 := Hid.mk' KE.out
  obtain ⟨c0, c1, c2, c3, c4, c5, c6, c7, c8, c9, c10, c11, _⟩ := HSB.out.kept KE.out
  go_loopw [18] (fun i wr => ∃ k : Nat, k ≤ S.plans.length ∧ i = .int .i64 k ∧ Kept (w.alloc (.cells #[.int .i64 S.id, .slice xg S.groups.length xgc, .slice xa S.apart.length xac, .slice xb S.between.length xbc, .slice xp S.phases.length xpc, .slice xe S.eyes.length xec, .int .i64 S.watch, .int .i64 S.feed, .int .i64 S.heal, .int .i64 S.low, .int .i64 S.high, .slice xl S.plans.length xlc] 29)) wr none) (fun i _ => S.plans.length - (intOf i).toNat)
  case atStart => exact ⟨0, by omega, rfl, KE2.out⟩
  case round =>
    clear c0 c1 c2 c3 c4 c5 c6 c7 c8 c9 c10 c11
    obtain ⟨k, hk, rfl, hkr⟩ := hrel
    have KR := Hid.mk' hkr
    clear hkr
    by_cases hlt : k < S.plans.length
    case neg =>
      obtain ⟨c0, c1, c2, c3, c4, c5, c6, c7, c8, c9, c10, c11, _⟩ := HSB.out.kept KR.out
      go_wp2
      go_ret
      exact ⟨rfl, (HK.out.tr KR.out).below⟩
    obtain ⟨c0, c1, c2, c3, c4, c5, c6, c7, c8, c9, c10, c11, _⟩ := HSB.out.kept KR.out
    go_wp2_with (go_at_call 16; have hn := check_any (HSB.out.sat.kept KR.out) (HT.out.kept KR.out); rw [HSE.out] at hn; refine hn.mono ?_; rintro e w8 ⟨rfl, hk8⟩)
    go_ret
    exact ⟨rfl, (HK.out.tr (KR.out.tr hk8)).below⟩
set_option maxRecDepth 100000 in
set_option maxHeartbeats 3000000 in
theorem plans_tft {X : Sa} {S : St} {w : World} {la : Option Addr} {lc : Nat} {l : List Pl} {a : Option Addr} {n c : Nat} {L : List Nat} (h : Sat w X S) (hP : Plans w la l.length lc l) (hC : Come w a n c L) (hT : Tabb w ∧ Table w) (hw : wholeE l = 0) (hp : partsB L = false) (hs : siteB S = true) : Calls Tryd.prog 7 #[siteV X S, .slice la l.length lc, .slice a n c] w fun e w' => e = .returned (.bool true) ∧ Below w.heap.size w w' := by
  obtain ⟨xg, xgc, xa, xac, xb, xbc, xp, xpc, xe, xec, xl, xlc⟩ := X
  have hkA : Kept w (w.alloc (.cells #[.int .i64 S.id, .slice xg S.groups.length xgc, .slice xa S.apart.length xac, .slice xb S.between.length xbc, .slice xp S.phases.length xpc, .slice xe S.eyes.length xec, .int .i64 S.watch, .int .i64 S.feed, .int .i64 S.heal, .int .i64 S.low, .int .i64 S.high, .slice xl S.plans.length xlc] 29)) none := Kept.alloc _ _ _ _ _
  have HSB := Hid.mk' (sbox_alloc h 29)
  have HK := Hid.mk' hkA
  have HC := Hid.mk' (hC.kept0 hkA)
  have HP := Hid.mk' (hP.kept hkA)
  have HT := Hid.mk' (hT.1.kept hkA)
  have HTb := Hid.mk' (hT.2.kept hkA)
  have hn9 : n ≤ 9223372036854775807 := by have := hC.room; have := hC.max; omega
  have hl9 : l.length ≤ 9223372036854775807 := by have := hP.cap.room; have := hP.cap.max; omega
  have hs9 : S.plans.length ≤ 9223372036854775807 := by have := h.l.cap.room; have := h.l.cap.max; omega
  have HS2 : Hid (∀ w', Kept w w' none → Sat w' ⟨none, 0, none, 0, none, 0, none, 0, none, 0, la, lc⟩ ⟨0, [], [], [], [], [], 0, 0, 0, 0, 0, l⟩) := fun w' k => sat_plans (hP.kept k)
  have HLL := Hid.mk' hC.by_.lt
  clear h hC hT hP hkA
  have HSE := Hid.mk' (checkE_yes hs)
  have HS' := Hid.mk' hs
  have HPB := Hid.mk' hp
  obtain ⟨M, hM⟩ : ∃ M, wholeL l = M := ⟨_, rfl⟩
  have HM := Hid.mk' hM
  have hmp := parts_whole hw
  rw [hM] at hmp
  have HMB := Hid.mk' hmp.1
  have HMP := Hid.mk' hmp.2
  have HML : Hid (∀ x ∈ M, x < 256) := by show ∀ x ∈ M, x < 256; rw [← hM]; exact wholeL_lt l
  have HWE := Hid.mk' hw
  clear hM hmp hw hp hs
  go_enter Tryd.func7, Tryd.ntmps7
  go_wp2_with (go_at_call 17; refine (alive_any HT.out HTb.out).mono ?_; rintro e w1 ⟨rfl, hk1⟩; obtain ⟨c0, c1, c2, c3, c4, c5, c6, c7, c8, c9, c10, c11, _⟩ := HSB.out.kept hk1)
  go_at_call 36
  refine (smallS_any (HSB.out.sat.kept hk1)).mono ?_
  rintro e w2 ⟨z, rfl, hk2⟩
  clear c0 c1 c2 c3 c4 c5 c6 c7 c8 c9 c10 c11
  have K2 := Hid.mk' (hk1.tr hk2)
  clear hk1 hk2
  by_cases hz : z < 150
  case neg =>
    go_wp2
    go_ret
    exact ⟨rfl, (HK.out.tr K2.out).below⟩
  go_wp2_with fail
  go_at_call 36
  refine (smallS_any (HS2.out _ (HK.out.tr K2.out))).mono ?_
  rintro e w2' ⟨z2, rfl, hk2⟩
  have K2 := Hid.mk' (K2.out.tr hk2)
  clear hk2
  by_cases hz2 : z2 < 150
  case neg =>
    go_wp2
    go_ret
    exact ⟨rfl, (HK.out.tr K2.out).below⟩
  by_cases hn : (5000 : Int) < n
  case pos =>
    go_wp2
    go_ret
    exact ⟨rfl, (HK.out.tr K2.out).below⟩
  go_wp2_with (first
        | (have hgo := KT; clear hgo; go_at_call 15; refine (parts_any (HC.out.kept0 KT.out)).mono ?_; rintro e w7 hc; obtain ⟨hk7, rfl⟩ := partsP_no hc HPB.out; have KE := Hid.mk' (KT.out.tr hk7); clear hc hk7)
        | (have hgo := P4; clear hgo; go_at_call 14; have hn := whole_any P4.out; rw [HWE.out, HM.out] at hn; refine hn.mono ?_; rintro e w5 ⟨a5, p5, rfl, hm5, hk5⟩; have t1 := run_text (hm5.by HML.out) p5; have KT := Hid.mk' (K4.out.tr hk5); have t2 := run_text ((M3.out.kept (K43.out.tr hk5)).by HML.out) p3; clear hm5 hk5)
        | (have hgo := M3; clear hgo; go_at_call 15; refine (parts_any (M3.out.come HML.out)).mono ?_; rintro e w4 hc; obtain ⟨hk4, g4, rfl, hp4⟩ := partsP_yes hc HMB.out HMP.out; have K43 := Hid.mk' hk4; have K4 := Hid.mk' (K3.out.tr hk4); have P4 := Hid.mk' hp4; clear hc hk4 hp4)
        | (go_at_call 14; have hn := whole_any (HP.out.kept K2.out); rw [HWE.out, HM.out] at hn; refine hn.mono ?_; rintro e w3 ⟨a3, p3, rfl, hm3, hk3⟩; have K3 := Hid.mk' (K2.out.tr hk3); have M3 := Hid.mk' hm3; clear hm3 hk3))
  have KE2 := Hid.mk' KE.out
  obtain ⟨c0, c1, c2, c3, c4, c5, c6, c7, c8, c9, c10, c11, _⟩ := HSB.out.kept KE.out
  go_loopw [18] (fun i wr => ∃ k : Nat, k ≤ S.plans.length ∧ i = .int .i64 k ∧ Kept (w.alloc (.cells #[.int .i64 S.id, .slice xg S.groups.length xgc, .slice xa S.apart.length xac, .slice xb S.between.length xbc, .slice xp S.phases.length xpc, .slice xe S.eyes.length xec, .int .i64 S.watch, .int .i64 S.feed, .int .i64 S.heal, .int .i64 S.low, .int .i64 S.high, .slice xl S.plans.length xlc] 29)) wr none) (fun i _ => S.plans.length - (intOf i).toNat)
  case atStart => exact ⟨0, by omega, rfl, KE2.out⟩
  case round =>
    clear c0 c1 c2 c3 c4 c5 c6 c7 c8 c9 c10 c11
    obtain ⟨k, hk, rfl, hkr⟩ := hrel
    have KR := Hid.mk' hkr
    clear hkr
    by_cases hlt : k < S.plans.length
    case neg =>
      obtain ⟨c0, c1, c2, c3, c4, c5, c6, c7, c8, c9, c10, c11, _⟩ := HSB.out.kept KR.out
      go_wp2
      go_ret
      exact ⟨rfl, (HK.out.tr KR.out).below⟩
    case pos =>
      obtain ⟨pb, off, a', c', e, p0, p1, p2, hI⟩ := HSB.out.sat.l.at_ hlt
      dsimp only at e
      subst e
      have hpl := plan_may HS'.out hlt
      generalize S.plans.getD k q0 = Q at *
      have HI := Hid.mk' hI
      have HPL := Hid.mk' hpl
      clear hpl
      have HA : Hid (∀ w', Kept (w.alloc (.cells #[.int .i64 S.id, .slice xg S.groups.length xgc, .slice xa S.apart.length xac, .slice xb S.between.length xbc, .slice xp S.phases.length xpc, .slice xe S.eyes.length xec, .int .i64 S.watch, .int .i64 S.feed, .int .i64 S.heal, .int .i64 S.low, .int .i64 S.high, .slice (some ⟨pb, off, none⟩) S.plans.length xlc] 29)) w' none → w'.cell? ⟨w.heap.size, 0, none⟩ = some (.int .i64 S.id) ∧ w'.cell? ⟨w.heap.size, 1, none⟩ = some (.slice xg S.groups.length xgc) ∧ w'.cell? ⟨w.heap.size, 2, none⟩ = some (.slice xa S.apart.length xac) ∧ w'.cell? ⟨w.heap.size, 3, none⟩ = some (.slice xb S.between.length xbc) ∧ w'.cell? ⟨w.heap.size, 4, none⟩ = some (.slice xp S.phases.length xpc) ∧ w'.cell? ⟨w.heap.size, 5, none⟩ = some (.slice xe S.eyes.length xec) ∧ w'.cell? ⟨w.heap.size, 6, none⟩ = some (.int .i64 S.watch) ∧ w'.cell? ⟨w.heap.size, 7, none⟩ = some (.int .i64 S.feed) ∧ w'.cell? ⟨w.heap.size, 8, none⟩ = some (.int .i64 S.heal) ∧ w'.cell? ⟨w.heap.size, 9, none⟩ = some (.int .i64 S.low) ∧ w'.cell? ⟨w.heap.size, 10, none⟩ = some (.int .i64 S.high) ∧ w'.cell? ⟨w.heap.size, 11, none⟩ = some (.slice (some ⟨pb, off, none⟩) S.plans.length xlc) ∧ w'.cell? ⟨pb, off + k * 3, none⟩ = some (.int .i64 Q.cycle) ∧ w'.cell? ⟨pb, off + k * 3 + 1, none⟩ = some (.int .i64 Q.offset) ∧ w'.cell? ⟨pb, off + k * 3 + 2, none⟩ = some (.slice a' Q.splits.length c')) := fun w' q => ⟨(HSB.out.kept q).c0, (HSB.out.kept q).c1, (HSB.out.kept q).c2, (HSB.out.kept q).c3, (HSB.out.kept q).c4, (HSB.out.kept q).c5, (HSB.out.kept q).c6, (HSB.out.kept q).c7, (HSB.out.kept q).c8, (HSB.out.kept q).c9, (HSB.out.kept q).c10, (HSB.out.kept q).c11, cell_kept0 p0 q, cell_kept0 p1 q, cell_kept0 p2 q⟩
      clear p0 p1 p2 hI
      obtain ⟨c0, c1, c2, c3, c4, c5, c6, c7, c8, c9, c10, c11, _⟩ := HA.out _ KR.out
      go_wp2_with (go_at_call 16; have hn := check_any (HSB.out.sat.kept KR.out) (HT.out.kept KR.out); rw [HSE.out] at hn; refine hn.mono ?_; rintro e w8 ⟨rfl, hk8⟩)
      clear c0 c1 c2 c3 c4 c5 c6 c7 c8 c9 c10 c11
      have KD := Hid.mk' ((KR.out.tr hk8).tr (Kept.drew w8 none))
      clear hk8
      refine wp_region_held_drew (S := fun w' => w'.cell? ⟨w.heap.size, 0, none⟩ = some (.int .i64 S.id) ∧ w'.cell? ⟨w.heap.size, 1, none⟩ = some (.slice xg S.groups.length xgc) ∧ w'.cell? ⟨w.heap.size, 2, none⟩ = some (.slice xa S.apart.length xac) ∧ w'.cell? ⟨w.heap.size, 3, none⟩ = some (.slice xb S.between.length xbc) ∧ w'.cell? ⟨w.heap.size, 4, none⟩ = some (.slice xp S.phases.length xpc) ∧ w'.cell? ⟨w.heap.size, 5, none⟩ = some (.slice xe S.eyes.length xec) ∧ w'.cell? ⟨w.heap.size, 6, none⟩ = some (.int .i64 S.watch) ∧ w'.cell? ⟨w.heap.size, 7, none⟩ = some (.int .i64 S.feed) ∧ w'.cell? ⟨w.heap.size, 8, none⟩ = some (.int .i64 S.heal) ∧ w'.cell? ⟨w.heap.size, 9, none⟩ = some (.int .i64 S.low) ∧ w'.cell? ⟨w.heap.size, 10, none⟩ = some (.int .i64 S.high) ∧ w'.cell? ⟨w.heap.size, 11, none⟩ = some (.slice (some ⟨pb, off, none⟩) S.plans.length xlc) ∧ w'.cell? ⟨pb, off + k * 3, none⟩ = some (.int .i64 Q.cycle) ∧ w'.cell? ⟨pb, off + k * 3 + 1, none⟩ = some (.int .i64 Q.offset) ∧ w'.cell? ⟨pb, off + k * 3 + 2, none⟩ = some (.slice a' Q.splits.length c')) (by kernel_rfl) (HA.out _ KD.out) (fun hHeld => ?_)
      refine held_take (i := 0) (v := ?vh5x0) rfl rfl (by kernel_rfl) (by kernel_rfl) (by kernel_rfl) (fun _ _ _ h => h) (Or.inl ⟨by rfl, ?hyh5x0⟩) hHeld ?resth5x0
      case hyh5x0 => first | (intro w hSw; go_simp; done) | (intro w hSw; go_simp; with_reducible rfl)
      try simp only [List.setIfInBounds_toArray, List.set_cons_zero, List.set_cons_succ]
      refine held_take (i := 1) (v := ?vh5x1) rfl rfl (by kernel_rfl) (by kernel_rfl) (by kernel_rfl) (fun _ _ _ h => h) (Or.inl ⟨by rfl, ?hyh5x1⟩) hHeld ?resth5x1
      case hyh5x1 => first | (intro w hSw; go_simp; done) | (intro w hSw; go_simp; with_reducible rfl)
      try simp only [List.setIfInBounds_toArray, List.set_cons_zero, List.set_cons_succ]
      refine held_take (i := 2) (v := ?vh5x2) rfl rfl (by kernel_rfl) (by kernel_rfl) (by kernel_rfl) (fun _ _ _ h => h) (Or.inl ⟨by rfl, ?hyh5x2⟩) hHeld ?resth5x2
      case hyh5x2 => first | (intro w hSw; go_simp; done) | (intro w hSw; go_simp; with_reducible rfl)
      try simp only [List.setIfInBounds_toArray, List.set_cons_zero, List.set_cons_succ]
      refine held_take (i := 3) (v := ?vh5x3) rfl rfl (by kernel_rfl) (by kernel_rfl) (by kernel_rfl) (fun _ _ _ h => h) (Or.inl ⟨by rfl, ?hyh5x3⟩) hHeld ?resth5x3
      case hyh5x3 => first | (intro w hSw; go_simp; done) | (intro w hSw; go_simp; with_reducible rfl)
      try simp only [List.setIfInBounds_toArray, List.set_cons_zero, List.set_cons_succ]
      refine held_take (i := 4) (v := ?vh5x4) rfl rfl (by kernel_rfl) (by kernel_rfl) (by kernel_rfl) (fun _ _ _ h => h) (Or.inl ⟨by rfl, ?hyh5x4⟩) hHeld ?resth5x4
      case hyh5x4 => first | (intro w hSw; go_simp; done) | (intro w hSw; go_simp; with_reducible rfl)
      try simp only [List.setIfInBounds_toArray, List.set_cons_zero, List.set_cons_succ]
      refine held_take (i := 5) (v := ?vh5x5) rfl rfl (by kernel_rfl) (by kernel_rfl) (by kernel_rfl) (fun _ _ _ h => h) (Or.inl ⟨by rfl, ?hyh5x5⟩) hHeld ?resth5x5
      case hyh5x5 => first | (intro w hSw; go_simp; done) | (intro w hSw; go_simp; with_reducible rfl)
      try simp only [List.setIfInBounds_toArray, List.set_cons_zero, List.set_cons_succ]
      refine wpAnyH_ready (rs := [6]) (by kernel_rfl) (by simp) ?_
      refine AllReadyH.cons rfl (fun K hK => ?_) AllReadyH.nil
      go_simp
      go_wp2_with (go_at_call 13; have hn := planq_yes (HSB.out.sat.kept KD.out) (HT.out.kept KD.out) HS'.out Q a' c' (HI.out.kept KD.out); rw [HPL.out] at hn; refine hn.mono ?_; rintro e w9 ⟨rfl, hk9⟩)
      refine hK.out _ _ (HA.out _ (KD.out.tr hk9)) (fun hHeld => ?_)
      clear hK K
      refine held_take (i := 7) (v := ?vh6x7) rfl rfl (by kernel_rfl) (by kernel_rfl) (by kernel_rfl) (fun _ _ _ h => h) (Or.inl ⟨by rfl, ?hyh6x7⟩) hHeld ?resth6x7
      case hyh6x7 => first | (intro w hSw; go_simp; done) | (intro w hSw; go_simp; with_reducible rfl)
      try simp only [List.setIfInBounds_toArray, List.set_cons_zero, List.set_cons_succ]
      refine held_take (i := 8) (v := ?vh6x8) rfl rfl (by kernel_rfl) (by kernel_rfl) (by kernel_rfl) (fun _ _ _ h => h) (Or.inl ⟨by rfl, ?hyh6x8⟩) hHeld ?resth6x8
      case hyh6x8 => first | (intro w hSw; go_simp; done) | (intro w hSw; go_simp; with_reducible rfl)
      try simp only [List.setIfInBounds_toArray, List.set_cons_zero, List.set_cons_succ]
      refine held_take (i := 9) (v := ?vh6x9) rfl rfl (by kernel_rfl) (by kernel_rfl) (by kernel_rfl) (fun _ _ _ h => h) (Or.inl ⟨by rfl, ?hyh6x9⟩) hHeld ?resth6x9
      case hyh6x9 => first | (intro w hSw; go_simp; done) | (intro w hSw; go_simp; with_reducible rfl)
      try simp only [List.setIfInBounds_toArray, List.set_cons_zero, List.set_cons_succ]
      refine wpAnyH_ready (rs := [10]) (by kernel_rfl) (by simp) ?_
      refine AllReadyH.cons rfl (fun K hK => ?_) AllReadyH.nil
      go_simp
      refine hK.out _ _ hHeld (fun hHeld => ?_)
      clear hK K
      refine wpAnyH_ready (rs := [11]) (by kernel_rfl) (by simp) ?_
      refine AllReadyH.cons rfl (fun K hK => ?_) AllReadyH.nil
      go_simp
      refine hK.out _ _ hHeld (fun hHeld => ?_)
      clear hK K
      refine wpAnyH_done (by kernel_rfl) ?_ _
      clear hHeld
      go_wp2
      exact ⟨⟨k + 1, by omega, by go_num, KD.out.tr hk9⟩, by simp [intOf]; omega⟩
set_option maxRecDepth 100000 in
set_option maxHeartbeats 3000000 in
theorem plans_ttf {X : Sa} {S : St} {w : World} {la : Option Addr} {lc : Nat} {l : List Pl} {a : Option Addr} {n c : Nat} {L : List Nat} (h : Sat w X S) (hP : Plans w la l.length lc l) (hC : Come w a n c L) (hT : Tabb w ∧ Table w) (hw : wholeE l = 0) (hp : partsB L = true) (hs : siteB S = false) : Calls Tryd.prog 7 #[siteV X S, .slice la l.length lc, .slice a n c] w fun e w' => e = .returned (.bool true) ∧ Below w.heap.size w w' := by
  obtain ⟨xg, xgc, xa, xac, xb, xbc, xp, xpc, xe, xec, xl, xlc⟩ := X
  have hkA : Kept w (w.alloc (.cells #[.int .i64 S.id, .slice xg S.groups.length xgc, .slice xa S.apart.length xac, .slice xb S.between.length xbc, .slice xp S.phases.length xpc, .slice xe S.eyes.length xec, .int .i64 S.watch, .int .i64 S.feed, .int .i64 S.heal, .int .i64 S.low, .int .i64 S.high, .slice xl S.plans.length xlc] 29)) none := Kept.alloc _ _ _ _ _
  have HSB := Hid.mk' (sbox_alloc h 29)
  have HK := Hid.mk' hkA
  have HC := Hid.mk' (hC.kept0 hkA)
  have HP := Hid.mk' (hP.kept hkA)
  have HT := Hid.mk' (hT.1.kept hkA)
  have HTb := Hid.mk' (hT.2.kept hkA)
  have hn9 : n ≤ 9223372036854775807 := by have := hC.room; have := hC.max; omega
  have hl9 : l.length ≤ 9223372036854775807 := by have := hP.cap.room; have := hP.cap.max; omega
  have hs9 : S.plans.length ≤ 9223372036854775807 := by have := h.l.cap.room; have := h.l.cap.max; omega
  have HS2 : Hid (∀ w', Kept w w' none → Sat w' ⟨none, 0, none, 0, none, 0, none, 0, none, 0, la, lc⟩ ⟨0, [], [], [], [], [], 0, 0, 0, 0, 0, l⟩) := fun w' k => sat_plans (hP.kept k)
  have HLL := Hid.mk' hC.by_.lt
  clear h hC hT hP hkA
  have HSE := Hid.mk' (checkE_no hs)
  have HS' := Hid.mk' hs
  have HPB := Hid.mk' hp
  obtain ⟨P, hPP⟩ : ∃ P, (plansM (L, false)).1 = P := ⟨_, rfl⟩
  have WP : Hid (wholeE P = 0 ∧ wholeL P = L) := by have := whole_parts HLL.out hp; rw [hPP] at this; exact this
  have HPP := Hid.mk' hPP
  clear hPP
  obtain ⟨M, hM⟩ : ∃ M, wholeL l = M := ⟨_, rfl⟩
  have HM := Hid.mk' hM
  have hmp := parts_whole hw
  rw [hM] at hmp
  have HMB := Hid.mk' hmp.1
  have HMP := Hid.mk' hmp.2
  have HML : Hid (∀ x ∈ M, x < 256) := by show ∀ x ∈ M, x < 256; rw [← hM]; exact wholeL_lt l
  have HWE := Hid.mk' hw
  clear hM hmp hw hp hs
  go_enter Tryd.func7, Tryd.ntmps7
  go_wp2_with (go_at_call 17; refine (alive_any HT.out HTb.out).mono ?_; rintro e w1 ⟨rfl, hk1⟩; obtain ⟨c0, c1, c2, c3, c4, c5, c6, c7, c8, c9, c10, c11, _⟩ := HSB.out.kept hk1)
  go_at_call 36
  refine (smallS_any (HSB.out.sat.kept hk1)).mono ?_
  rintro e w2 ⟨z, rfl, hk2⟩
  clear c0 c1 c2 c3 c4 c5 c6 c7 c8 c9 c10 c11
  have K2 := Hid.mk' (hk1.tr hk2)
  clear hk1 hk2
  by_cases hz : z < 150
  case neg =>
    go_wp2
    go_ret
    exact ⟨rfl, (HK.out.tr K2.out).below⟩
  go_wp2_with fail
  go_at_call 36
  refine (smallS_any (HS2.out _ (HK.out.tr K2.out))).mono ?_
  rintro e w2' ⟨z2, rfl, hk2⟩
  have K2 := Hid.mk' (K2.out.tr hk2)
  clear hk2
  by_cases hz2 : z2 < 150
  case neg =>
    go_wp2
    go_ret
    exact ⟨rfl, (HK.out.tr K2.out).below⟩
  by_cases hn : (5000 : Int) < n
  case pos =>
    go_wp2
    go_ret
    exact ⟨rfl, (HK.out.tr K2.out).below⟩
  go_wp2_with (first
        | (have hgo := P7; clear hgo; go_at_call 14; have hn := whole_any P7.out; rw [WP.out.1, WP.out.2] at hn; refine hn.mono ?_; rintro e w8 ⟨a8, p8, rfl, hm8, hk8⟩; have t1 := run_text (hm8.by HLL.out) p8; have t2 := run_text (HC.out.kept0 (K7.out.tr hk8)).by_ c; have KE := Hid.mk' (K7.out.tr hk8); clear hm8 hk8)
        | (have hgo := KT; clear hgo; go_at_call 15; refine (parts_any (HC.out.kept0 KT.out)).mono ?_; rintro e w7 hc; obtain ⟨hk7, g7, rfl, hp7⟩ := partsP_yes hc HPB.out HPP.out; have K7 := Hid.mk' (KT.out.tr hk7); have P7 := Hid.mk' hp7; clear hc hk7 hp7)
        | (have hgo := P4; clear hgo; go_at_call 14; have hn := whole_any P4.out; rw [HWE.out, HM.out] at hn; refine hn.mono ?_; rintro e w5 ⟨a5, p5, rfl, hm5, hk5⟩; have t1 := run_text (hm5.by HML.out) p5; have KT := Hid.mk' (K4.out.tr hk5); have t2 := run_text ((M3.out.kept (K43.out.tr hk5)).by HML.out) p3; clear hm5 hk5)
        | (have hgo := M3; clear hgo; go_at_call 15; refine (parts_any (M3.out.come HML.out)).mono ?_; rintro e w4 hc; obtain ⟨hk4, g4, rfl, hp4⟩ := partsP_yes hc HMB.out HMP.out; have K43 := Hid.mk' hk4; have K4 := Hid.mk' (K3.out.tr hk4); have P4 := Hid.mk' hp4; clear hc hk4 hp4)
        | (go_at_call 14; have hn := whole_any (HP.out.kept K2.out); rw [HWE.out, HM.out] at hn; refine hn.mono ?_; rintro e w3 ⟨a3, p3, rfl, hm3, hk3⟩; have K3 := Hid.mk' (K2.out.tr hk3); have M3 := Hid.mk' hm3; clear hm3 hk3))
  have KE2 := Hid.mk' KE.out
  obtain ⟨c0, c1, c2, c3, c4, c5, c6, c7, c8, c9, c10, c11, _⟩ := HSB.out.kept KE.out
  go_loopw [18] (fun i wr => ∃ k : Nat, k ≤ S.plans.length ∧ i = .int .i64 k ∧ Kept (w.alloc (.cells #[.int .i64 S.id, .slice xg S.groups.length xgc, .slice xa S.apart.length xac, .slice xb S.between.length xbc, .slice xp S.phases.length xpc, .slice xe S.eyes.length xec, .int .i64 S.watch, .int .i64 S.feed, .int .i64 S.heal, .int .i64 S.low, .int .i64 S.high, .slice xl S.plans.length xlc] 29)) wr none) (fun i _ => S.plans.length - (intOf i).toNat)
  case atStart => exact ⟨0, by omega, rfl, KE2.out⟩
  case round =>
    clear c0 c1 c2 c3 c4 c5 c6 c7 c8 c9 c10 c11
    obtain ⟨k, hk, rfl, hkr⟩ := hrel
    have KR := Hid.mk' hkr
    clear hkr
    by_cases hlt : k < S.plans.length
    case neg =>
      obtain ⟨c0, c1, c2, c3, c4, c5, c6, c7, c8, c9, c10, c11, _⟩ := HSB.out.kept KR.out
      go_wp2
      go_ret
      exact ⟨rfl, (HK.out.tr KR.out).below⟩
    obtain ⟨c0, c1, c2, c3, c4, c5, c6, c7, c8, c9, c10, c11, _⟩ := HSB.out.kept KR.out
    go_wp2_with (go_at_call 16; have hn := check_any (HSB.out.sat.kept KR.out) (HT.out.kept KR.out); rw [HSE.out] at hn; refine hn.mono ?_; rintro e w8 ⟨rfl, hk8⟩)
    go_ret
    exact ⟨rfl, (HK.out.tr (KR.out.tr hk8)).below⟩
set_option maxRecDepth 100000 in
set_option maxHeartbeats 3000000 in
theorem plans_ttt {X : Sa} {S : St} {w : World} {la : Option Addr} {lc : Nat} {l : List Pl} {a : Option Addr} {n c : Nat} {L : List Nat} (h : Sat w X S) (hP : Plans w la l.length lc l) (hC : Come w a n c L) (hT : Tabb w ∧ Table w) (hw : wholeE l = 0) (hp : partsB L = true) (hs : siteB S = true) : Calls Tryd.prog 7 #[siteV X S, .slice la l.length lc, .slice a n c] w fun e w' => e = .returned (.bool true) ∧ Below w.heap.size w w' := by
  obtain ⟨xg, xgc, xa, xac, xb, xbc, xp, xpc, xe, xec, xl, xlc⟩ := X
  have hkA : Kept w (w.alloc (.cells #[.int .i64 S.id, .slice xg S.groups.length xgc, .slice xa S.apart.length xac, .slice xb S.between.length xbc, .slice xp S.phases.length xpc, .slice xe S.eyes.length xec, .int .i64 S.watch, .int .i64 S.feed, .int .i64 S.heal, .int .i64 S.low, .int .i64 S.high, .slice xl S.plans.length xlc] 29)) none := Kept.alloc _ _ _ _ _
  have HSB := Hid.mk' (sbox_alloc h 29)
  have HK := Hid.mk' hkA
  have HC := Hid.mk' (hC.kept0 hkA)
  have HP := Hid.mk' (hP.kept hkA)
  have HT := Hid.mk' (hT.1.kept hkA)
  have HTb := Hid.mk' (hT.2.kept hkA)
  have hn9 : n ≤ 9223372036854775807 := by have := hC.room; have := hC.max; omega
  have hl9 : l.length ≤ 9223372036854775807 := by have := hP.cap.room; have := hP.cap.max; omega
  have hs9 : S.plans.length ≤ 9223372036854775807 := by have := h.l.cap.room; have := h.l.cap.max; omega
  have HS2 : Hid (∀ w', Kept w w' none → Sat w' ⟨none, 0, none, 0, none, 0, none, 0, none, 0, la, lc⟩ ⟨0, [], [], [], [], [], 0, 0, 0, 0, 0, l⟩) := fun w' k => sat_plans (hP.kept k)
  have HLL := Hid.mk' hC.by_.lt
  clear h hC hT hP hkA
  have HSE := Hid.mk' (checkE_yes hs)
  have HS' := Hid.mk' hs
  have HPB := Hid.mk' hp
  obtain ⟨P, hPP⟩ : ∃ P, (plansM (L, false)).1 = P := ⟨_, rfl⟩
  have WP : Hid (wholeE P = 0 ∧ wholeL P = L) := by have := whole_parts HLL.out hp; rw [hPP] at this; exact this
  have HPP := Hid.mk' hPP
  clear hPP
  obtain ⟨M, hM⟩ : ∃ M, wholeL l = M := ⟨_, rfl⟩
  have HM := Hid.mk' hM
  have hmp := parts_whole hw
  rw [hM] at hmp
  have HMB := Hid.mk' hmp.1
  have HMP := Hid.mk' hmp.2
  have HML : Hid (∀ x ∈ M, x < 256) := by show ∀ x ∈ M, x < 256; rw [← hM]; exact wholeL_lt l
  have HWE := Hid.mk' hw
  clear hM hmp hw hp hs
  go_enter Tryd.func7, Tryd.ntmps7
  go_wp2_with (go_at_call 17; refine (alive_any HT.out HTb.out).mono ?_; rintro e w1 ⟨rfl, hk1⟩; obtain ⟨c0, c1, c2, c3, c4, c5, c6, c7, c8, c9, c10, c11, _⟩ := HSB.out.kept hk1)
  go_at_call 36
  refine (smallS_any (HSB.out.sat.kept hk1)).mono ?_
  rintro e w2 ⟨z, rfl, hk2⟩
  clear c0 c1 c2 c3 c4 c5 c6 c7 c8 c9 c10 c11
  have K2 := Hid.mk' (hk1.tr hk2)
  clear hk1 hk2
  by_cases hz : z < 150
  case neg =>
    go_wp2
    go_ret
    exact ⟨rfl, (HK.out.tr K2.out).below⟩
  go_wp2_with fail
  go_at_call 36
  refine (smallS_any (HS2.out _ (HK.out.tr K2.out))).mono ?_
  rintro e w2' ⟨z2, rfl, hk2⟩
  have K2 := Hid.mk' (K2.out.tr hk2)
  clear hk2
  by_cases hz2 : z2 < 150
  case neg =>
    go_wp2
    go_ret
    exact ⟨rfl, (HK.out.tr K2.out).below⟩
  by_cases hn : (5000 : Int) < n
  case pos =>
    go_wp2
    go_ret
    exact ⟨rfl, (HK.out.tr K2.out).below⟩
  go_wp2_with (first
        | (have hgo := P7; clear hgo; go_at_call 14; have hn := whole_any P7.out; rw [WP.out.1, WP.out.2] at hn; refine hn.mono ?_; rintro e w8 ⟨a8, p8, rfl, hm8, hk8⟩; have t1 := run_text (hm8.by HLL.out) p8; have t2 := run_text (HC.out.kept0 (K7.out.tr hk8)).by_ c; have KE := Hid.mk' (K7.out.tr hk8); clear hm8 hk8)
        | (have hgo := KT; clear hgo; go_at_call 15; refine (parts_any (HC.out.kept0 KT.out)).mono ?_; rintro e w7 hc; obtain ⟨hk7, g7, rfl, hp7⟩ := partsP_yes hc HPB.out HPP.out; have K7 := Hid.mk' (KT.out.tr hk7); have P7 := Hid.mk' hp7; clear hc hk7 hp7)
        | (have hgo := P4; clear hgo; go_at_call 14; have hn := whole_any P4.out; rw [HWE.out, HM.out] at hn; refine hn.mono ?_; rintro e w5 ⟨a5, p5, rfl, hm5, hk5⟩; have t1 := run_text (hm5.by HML.out) p5; have KT := Hid.mk' (K4.out.tr hk5); have t2 := run_text ((M3.out.kept (K43.out.tr hk5)).by HML.out) p3; clear hm5 hk5)
        | (have hgo := M3; clear hgo; go_at_call 15; refine (parts_any (M3.out.come HML.out)).mono ?_; rintro e w4 hc; obtain ⟨hk4, g4, rfl, hp4⟩ := partsP_yes hc HMB.out HMP.out; have K43 := Hid.mk' hk4; have K4 := Hid.mk' (K3.out.tr hk4); have P4 := Hid.mk' hp4; clear hc hk4 hp4)
        | (go_at_call 14; have hn := whole_any (HP.out.kept K2.out); rw [HWE.out, HM.out] at hn; refine hn.mono ?_; rintro e w3 ⟨a3, p3, rfl, hm3, hk3⟩; have K3 := Hid.mk' (K2.out.tr hk3); have M3 := Hid.mk' hm3; clear hm3 hk3))
  have KE2 := Hid.mk' KE.out
  obtain ⟨c0, c1, c2, c3, c4, c5, c6, c7, c8, c9, c10, c11, _⟩ := HSB.out.kept KE.out
  go_loopw [18] (fun i wr => ∃ k : Nat, k ≤ S.plans.length ∧ i = .int .i64 k ∧ Kept (w.alloc (.cells #[.int .i64 S.id, .slice xg S.groups.length xgc, .slice xa S.apart.length xac, .slice xb S.between.length xbc, .slice xp S.phases.length xpc, .slice xe S.eyes.length xec, .int .i64 S.watch, .int .i64 S.feed, .int .i64 S.heal, .int .i64 S.low, .int .i64 S.high, .slice xl S.plans.length xlc] 29)) wr none) (fun i _ => S.plans.length - (intOf i).toNat)
  case atStart => exact ⟨0, by omega, rfl, KE2.out⟩
  case round =>
    clear c0 c1 c2 c3 c4 c5 c6 c7 c8 c9 c10 c11
    obtain ⟨k, hk, rfl, hkr⟩ := hrel
    have KR := Hid.mk' hkr
    clear hkr
    by_cases hlt : k < S.plans.length
    case neg =>
      obtain ⟨c0, c1, c2, c3, c4, c5, c6, c7, c8, c9, c10, c11, _⟩ := HSB.out.kept KR.out
      go_wp2
      go_ret
      exact ⟨rfl, (HK.out.tr KR.out).below⟩
    case pos =>
      obtain ⟨pb, off, a', c', e, p0, p1, p2, hI⟩ := HSB.out.sat.l.at_ hlt
      dsimp only at e
      subst e
      have hpl := plan_may HS'.out hlt
      generalize S.plans.getD k q0 = Q at *
      have HI := Hid.mk' hI
      have HPL := Hid.mk' hpl
      clear hpl
      have HA : Hid (∀ w', Kept (w.alloc (.cells #[.int .i64 S.id, .slice xg S.groups.length xgc, .slice xa S.apart.length xac, .slice xb S.between.length xbc, .slice xp S.phases.length xpc, .slice xe S.eyes.length xec, .int .i64 S.watch, .int .i64 S.feed, .int .i64 S.heal, .int .i64 S.low, .int .i64 S.high, .slice (some ⟨pb, off, none⟩) S.plans.length xlc] 29)) w' none → w'.cell? ⟨w.heap.size, 0, none⟩ = some (.int .i64 S.id) ∧ w'.cell? ⟨w.heap.size, 1, none⟩ = some (.slice xg S.groups.length xgc) ∧ w'.cell? ⟨w.heap.size, 2, none⟩ = some (.slice xa S.apart.length xac) ∧ w'.cell? ⟨w.heap.size, 3, none⟩ = some (.slice xb S.between.length xbc) ∧ w'.cell? ⟨w.heap.size, 4, none⟩ = some (.slice xp S.phases.length xpc) ∧ w'.cell? ⟨w.heap.size, 5, none⟩ = some (.slice xe S.eyes.length xec) ∧ w'.cell? ⟨w.heap.size, 6, none⟩ = some (.int .i64 S.watch) ∧ w'.cell? ⟨w.heap.size, 7, none⟩ = some (.int .i64 S.feed) ∧ w'.cell? ⟨w.heap.size, 8, none⟩ = some (.int .i64 S.heal) ∧ w'.cell? ⟨w.heap.size, 9, none⟩ = some (.int .i64 S.low) ∧ w'.cell? ⟨w.heap.size, 10, none⟩ = some (.int .i64 S.high) ∧ w'.cell? ⟨w.heap.size, 11, none⟩ = some (.slice (some ⟨pb, off, none⟩) S.plans.length xlc) ∧ w'.cell? ⟨pb, off + k * 3, none⟩ = some (.int .i64 Q.cycle) ∧ w'.cell? ⟨pb, off + k * 3 + 1, none⟩ = some (.int .i64 Q.offset) ∧ w'.cell? ⟨pb, off + k * 3 + 2, none⟩ = some (.slice a' Q.splits.length c')) := fun w' q => ⟨(HSB.out.kept q).c0, (HSB.out.kept q).c1, (HSB.out.kept q).c2, (HSB.out.kept q).c3, (HSB.out.kept q).c4, (HSB.out.kept q).c5, (HSB.out.kept q).c6, (HSB.out.kept q).c7, (HSB.out.kept q).c8, (HSB.out.kept q).c9, (HSB.out.kept q).c10, (HSB.out.kept q).c11, cell_kept0 p0 q, cell_kept0 p1 q, cell_kept0 p2 q⟩
      clear p0 p1 p2 hI
      obtain ⟨c0, c1, c2, c3, c4, c5, c6, c7, c8, c9, c10, c11, _⟩ := HA.out _ KR.out
      go_wp2_with (go_at_call 16; have hn := check_any (HSB.out.sat.kept KR.out) (HT.out.kept KR.out); rw [HSE.out] at hn; refine hn.mono ?_; rintro e w8 ⟨rfl, hk8⟩)
      clear c0 c1 c2 c3 c4 c5 c6 c7 c8 c9 c10 c11
      have KD := Hid.mk' ((KR.out.tr hk8).tr (Kept.drew w8 none))
      clear hk8
      refine wp_region_held_drew (S := fun w' => w'.cell? ⟨w.heap.size, 0, none⟩ = some (.int .i64 S.id) ∧ w'.cell? ⟨w.heap.size, 1, none⟩ = some (.slice xg S.groups.length xgc) ∧ w'.cell? ⟨w.heap.size, 2, none⟩ = some (.slice xa S.apart.length xac) ∧ w'.cell? ⟨w.heap.size, 3, none⟩ = some (.slice xb S.between.length xbc) ∧ w'.cell? ⟨w.heap.size, 4, none⟩ = some (.slice xp S.phases.length xpc) ∧ w'.cell? ⟨w.heap.size, 5, none⟩ = some (.slice xe S.eyes.length xec) ∧ w'.cell? ⟨w.heap.size, 6, none⟩ = some (.int .i64 S.watch) ∧ w'.cell? ⟨w.heap.size, 7, none⟩ = some (.int .i64 S.feed) ∧ w'.cell? ⟨w.heap.size, 8, none⟩ = some (.int .i64 S.heal) ∧ w'.cell? ⟨w.heap.size, 9, none⟩ = some (.int .i64 S.low) ∧ w'.cell? ⟨w.heap.size, 10, none⟩ = some (.int .i64 S.high) ∧ w'.cell? ⟨w.heap.size, 11, none⟩ = some (.slice (some ⟨pb, off, none⟩) S.plans.length xlc) ∧ w'.cell? ⟨pb, off + k * 3, none⟩ = some (.int .i64 Q.cycle) ∧ w'.cell? ⟨pb, off + k * 3 + 1, none⟩ = some (.int .i64 Q.offset) ∧ w'.cell? ⟨pb, off + k * 3 + 2, none⟩ = some (.slice a' Q.splits.length c')) (by kernel_rfl) (HA.out _ KD.out) (fun hHeld => ?_)
      refine held_take (i := 0) (v := ?vh7x0) rfl rfl (by kernel_rfl) (by kernel_rfl) (by kernel_rfl) (fun _ _ _ h => h) (Or.inl ⟨by rfl, ?hyh7x0⟩) hHeld ?resth7x0
      case hyh7x0 => first | (intro w hSw; go_simp; done) | (intro w hSw; go_simp; with_reducible rfl)
      try simp only [List.setIfInBounds_toArray, List.set_cons_zero, List.set_cons_succ]
      refine held_take (i := 1) (v := ?vh7x1) rfl rfl (by kernel_rfl) (by kernel_rfl) (by kernel_rfl) (fun _ _ _ h => h) (Or.inl ⟨by rfl, ?hyh7x1⟩) hHeld ?resth7x1
      case hyh7x1 => first | (intro w hSw; go_simp; done) | (intro w hSw; go_simp; with_reducible rfl)
      try simp only [List.setIfInBounds_toArray, List.set_cons_zero, List.set_cons_succ]
      refine held_take (i := 2) (v := ?vh7x2) rfl rfl (by kernel_rfl) (by kernel_rfl) (by kernel_rfl) (fun _ _ _ h => h) (Or.inl ⟨by rfl, ?hyh7x2⟩) hHeld ?resth7x2
      case hyh7x2 => first | (intro w hSw; go_simp; done) | (intro w hSw; go_simp; with_reducible rfl)
      try simp only [List.setIfInBounds_toArray, List.set_cons_zero, List.set_cons_succ]
      refine held_take (i := 3) (v := ?vh7x3) rfl rfl (by kernel_rfl) (by kernel_rfl) (by kernel_rfl) (fun _ _ _ h => h) (Or.inl ⟨by rfl, ?hyh7x3⟩) hHeld ?resth7x3
      case hyh7x3 => first | (intro w hSw; go_simp; done) | (intro w hSw; go_simp; with_reducible rfl)
      try simp only [List.setIfInBounds_toArray, List.set_cons_zero, List.set_cons_succ]
      refine held_take (i := 4) (v := ?vh7x4) rfl rfl (by kernel_rfl) (by kernel_rfl) (by kernel_rfl) (fun _ _ _ h => h) (Or.inl ⟨by rfl, ?hyh7x4⟩) hHeld ?resth7x4
      case hyh7x4 => first | (intro w hSw; go_simp; done) | (intro w hSw; go_simp; with_reducible rfl)
      try simp only [List.setIfInBounds_toArray, List.set_cons_zero, List.set_cons_succ]
      refine held_take (i := 5) (v := ?vh7x5) rfl rfl (by kernel_rfl) (by kernel_rfl) (by kernel_rfl) (fun _ _ _ h => h) (Or.inl ⟨by rfl, ?hyh7x5⟩) hHeld ?resth7x5
      case hyh7x5 => first | (intro w hSw; go_simp; done) | (intro w hSw; go_simp; with_reducible rfl)
      try simp only [List.setIfInBounds_toArray, List.set_cons_zero, List.set_cons_succ]
      refine wpAnyH_ready (rs := [6]) (by kernel_rfl) (by simp) ?_
      refine AllReadyH.cons rfl (fun K hK => ?_) AllReadyH.nil
      go_simp
      go_wp2_with (go_at_call 13; have hn := planq_yes (HSB.out.sat.kept KD.out) (HT.out.kept KD.out) HS'.out Q a' c' (HI.out.kept KD.out); rw [HPL.out] at hn; refine hn.mono ?_; rintro e w9 ⟨rfl, hk9⟩)
      refine hK.out _ _ (HA.out _ (KD.out.tr hk9)) (fun hHeld => ?_)
      clear hK K
      refine held_take (i := 7) (v := ?vh8x7) rfl rfl (by kernel_rfl) (by kernel_rfl) (by kernel_rfl) (fun _ _ _ h => h) (Or.inl ⟨by rfl, ?hyh8x7⟩) hHeld ?resth8x7
      case hyh8x7 => first | (intro w hSw; go_simp; done) | (intro w hSw; go_simp; with_reducible rfl)
      try simp only [List.setIfInBounds_toArray, List.set_cons_zero, List.set_cons_succ]
      refine held_take (i := 8) (v := ?vh8x8) rfl rfl (by kernel_rfl) (by kernel_rfl) (by kernel_rfl) (fun _ _ _ h => h) (Or.inl ⟨by rfl, ?hyh8x8⟩) hHeld ?resth8x8
      case hyh8x8 => first | (intro w hSw; go_simp; done) | (intro w hSw; go_simp; with_reducible rfl)
      try simp only [List.setIfInBounds_toArray, List.set_cons_zero, List.set_cons_succ]
      refine held_take (i := 9) (v := ?vh8x9) rfl rfl (by kernel_rfl) (by kernel_rfl) (by kernel_rfl) (fun _ _ _ h => h) (Or.inl ⟨by rfl, ?hyh8x9⟩) hHeld ?resth8x9
      case hyh8x9 => first | (intro w hSw; go_simp; done) | (intro w hSw; go_simp; with_reducible rfl)
      try simp only [List.setIfInBounds_toArray, List.set_cons_zero, List.set_cons_succ]
      refine wpAnyH_ready (rs := [10]) (by kernel_rfl) (by simp) ?_
      refine AllReadyH.cons rfl (fun K hK => ?_) AllReadyH.nil
      go_simp
      refine hK.out _ _ hHeld (fun hHeld => ?_)
      clear hK K
      refine wpAnyH_ready (rs := [11]) (by kernel_rfl) (by simp) ?_
      refine AllReadyH.cons rfl (fun K hK => ?_) AllReadyH.nil
      go_simp
      refine hK.out _ _ hHeld (fun hHeld => ?_)
      clear hK K
      refine wpAnyH_done (by kernel_rfl) ?_ _
      clear hHeld
      go_wp2
      exact ⟨⟨k + 1, by omega, by go_num, KD.out.tr hk9⟩, by simp [intOf]; omega⟩
theorem plans_any {X : Sa} {S : St} {w : World} {la : Option Addr} {ln lc : Nat} {l : List Pl} {a : Option Addr} {n c : Nat} {L : List Nat} (h : Sat w X S) (hP : Plans w la ln lc l) (hC : Come w a n c L) (hT : Tabb w ∧ Table w) : Calls Tryd.prog 7 #[siteV X S, .slice la ln lc, .slice a n c] w fun e w' => e = .returned (.bool true) ∧ Below w.heap.size w w' := by
  obtain rfl := hP.size
  by_cases hw : wholeE l = 0 <;> cases hp : partsB L <;> cases hs : siteB S
  · exact plans_tff h hP hC hT hw hp hs
  · exact plans_tft h hP hC hT hw hp hs
  · exact plans_ttf h hP hC hT hw hp hs
  · exact plans_ttt h hP hC hT hw hp hs
  · exact plans_fff h hP hC hT hw hp hs
  · exact plans_fft h hP hC hT hw hp hs
  · exact plans_ftf h hP hC hT hw hp hs
  · exact plans_ftt h hP hC hT hw hp hs

end Go.Proofs.YtpajefkfnhibnaaDoor
