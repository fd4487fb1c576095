/-
  THE CONTRACT of call.First (made by a program).
-/
import Derived.Test.YtjfajdmifjbblaaDoorCallD
namespace Go.Proofs.YtjfajdmifjbblaaDoor
open Go.RowKit Go.Lib Go.Deep
set_option linter.unusedVariables false
set_option linter.unusedSimpArgs false

set_option maxRecDepth 100000 in
set_option maxHeartbeats 2000000 in
theorem cfst_site {X : Sa} {S : St} {w : World} (h : Sat w X S) (hT : Tabb w) (c : Nat) (hc32 : c < 4294967296) (g : Int) (hs : siteB S = false) : Calls Tryd.prog 12 #[siteV X S, .int .u32 (c : Int), .int .i64 g] w fun e w' => e = .returned (.tuple #[.int .i64 0, .int .i64 50]) ∧ Kept w w' none := by
  have hce : checkE S = 50 := by unfold checkE; rw [hs]; rfl
  have hkA : Kept w (w.alloc (.cells #[.int .i64 S.id, .slice X.g S.groups.length X.gc, .slice X.a S.apart.length X.ac, .slice X.b S.between.length X.bc, .slice X.p S.phases.length X.pc, .slice X.e S.eyes.length X.ec, .int .i64 S.watch, .int .i64 S.feed, .int .i64 S.heal, .int .i64 S.low, .int .i64 S.high, .slice X.l S.plans.length X.lc] 29)) none := Kept.alloc _ _ _ _ _
  have hsb := sbox_alloc h 29
  have HS := Hid.mk' (h.kept hkA)
  have HT := Hid.mk' (hT.kept hkA)
  have hE9 : S.eyes.length ≤ 9223372036854775807 := by have := h.ek.room; have := h.ek.max; omega
  have hP9 : S.phases.length ≤ 9223372036854775807 := by have := h.pk.room; have := h.pk.max; omega
  obtain ⟨WA, hWA⟩ : ∃ WA, (w.alloc (.cells #[.int .i64 S.id, .slice X.g S.groups.length X.gc, .slice X.a S.apart.length X.ac, .slice X.b S.between.length X.bc, .slice X.p S.phases.length X.pc, .slice X.e S.eyes.length X.ec, .int .i64 S.watch, .int .i64 S.feed, .int .i64 S.heal, .int .i64 S.low, .int .i64 S.high, .slice X.l S.plans.length X.lc] 29)) = WA := ⟨_, rfl⟩
  rw [hWA] at hkA hsb HS HT
  have hlA : w.heap.size < WA.heap.size := hsb.lt
  have HK := Hid.mk' hkA
  have HSB := Hid.mk' hsb
  have hK0 := Kept.refl WA none
  clear h hT hkA hsb
  have s0_ : ∀ w', Kept WA w' none → w'.cell? ⟨w.heap.size, 0, none⟩ = some (.int .i64 S.id) := fun w' q => (HSB.out.kept q).c0
  have s1_ : ∀ w', Kept WA w' none → w'.cell? ⟨w.heap.size, 1, none⟩ = some (.slice X.g S.groups.length X.gc) := fun w' q => (HSB.out.kept q).c1
  have s2_ : ∀ w', Kept WA w' none → w'.cell? ⟨w.heap.size, 2, none⟩ = some (.slice X.a S.apart.length X.ac) := fun w' q => (HSB.out.kept q).c2
  have s3_ : ∀ w', Kept WA w' none → w'.cell? ⟨w.heap.size, 3, none⟩ = some (.slice X.b S.between.length X.bc) := fun w' q => (HSB.out.kept q).c3
  have s4_ : ∀ w', Kept WA w' none → w'.cell? ⟨w.heap.size, 4, none⟩ = some (.slice X.p S.phases.length X.pc) := fun w' q => (HSB.out.kept q).c4
  have s5_ : ∀ w', Kept WA w' none → w'.cell? ⟨w.heap.size, 5, none⟩ = some (.slice X.e S.eyes.length X.ec) := fun w' q => (HSB.out.kept q).c5
  have s6_ : ∀ w', Kept WA w' none → w'.cell? ⟨w.heap.size, 6, none⟩ = some (.int .i64 S.watch) := fun w' q => (HSB.out.kept q).c6
  have s7_ : ∀ w', Kept WA w' none → w'.cell? ⟨w.heap.size, 7, none⟩ = some (.int .i64 S.feed) := fun w' q => (HSB.out.kept q).c7
  have s8_ : ∀ w', Kept WA w' none → w'.cell? ⟨w.heap.size, 8, none⟩ = some (.int .i64 S.heal) := fun w' q => (HSB.out.kept q).c8
  have s9_ : ∀ w', Kept WA w' none → w'.cell? ⟨w.heap.size, 9, none⟩ = some (.int .i64 S.low) := fun w' q => (HSB.out.kept q).c9
  have s10_ : ∀ w', Kept WA w' none → w'.cell? ⟨w.heap.size, 10, none⟩ = some (.int .i64 S.high) := fun w' q => (HSB.out.kept q).c10
  have s11_ : ∀ w', Kept WA w' none → w'.cell? ⟨w.heap.size, 11, none⟩ = some (.slice X.l S.plans.length X.lc) := fun w' q => (HSB.out.kept q).c11
  go_enter Tryd.func12, Tryd.ntmps12
  go_wp2_with (first | rw [hWA] | (go_at_call 19; have hx := check_any HS.out HT.out; rw [hce] at hx; refine hx.mono ?_; rintro e wC ⟨rfl, hkC⟩; have hKC : Kept WA wC none := hkC; clear hx))
  go_ret2
  exact ⟨rfl, HK.out.tr hKC⟩
set_option maxRecDepth 100000 in
set_option maxHeartbeats 2000000 in
theorem cfst_bad {X : Sa} {S : St} {w : World} (h : Sat w X S) (hT : Tabb w) (c : Nat) (hc32 : c < 4294967296) (g : Int) (hs : siteB S = true) (E : Int) (he2 : calE S c g = E) (h0 : E ≠ 0) : Calls Tryd.prog 12 #[siteV X S, .int .u32 (c : Int), .int .i64 g] w fun e w' => e = .returned (.tuple #[.int .i64 0, .int .i64 E]) ∧ Kept w w' none := by
  have hce : checkE S = 0 := by unfold checkE; rw [hs]; rfl
  have hp8 : S.phases.length ≤ 8 := (cal_facts hs).p1
  have hp1 : 1 ≤ S.phases.length := (cal_facts hs).p0
  have HE2 := Hid.mk' he2
  have hEb : (E != 0) = true := by simpa using h0
  clear he2 hs
  have hkA : Kept w (w.alloc (.cells #[.int .i64 S.id, .slice X.g S.groups.length X.gc, .slice X.a S.apart.length X.ac, .slice X.b S.between.length X.bc, .slice X.p S.phases.length X.pc, .slice X.e S.eyes.length X.ec, .int .i64 S.watch, .int .i64 S.feed, .int .i64 S.heal, .int .i64 S.low, .int .i64 S.high, .slice X.l S.plans.length X.lc] 29)) none := Kept.alloc _ _ _ _ _
  have hsb := sbox_alloc h 29
  have HS := Hid.mk' (h.kept hkA)
  have HT := Hid.mk' (hT.kept hkA)
  have hE9 : S.eyes.length ≤ 9223372036854775807 := by have := h.ek.room; have := h.ek.max; omega
  have hP9 : S.phases.length ≤ 9223372036854775807 := by have := h.pk.room; have := h.pk.max; omega
  obtain ⟨WA, hWA⟩ : ∃ WA, (w.alloc (.cells #[.int .i64 S.id, .slice X.g S.groups.length X.gc, .slice X.a S.apart.length X.ac, .slice X.b S.between.length X.bc, .slice X.p S.phases.length X.pc, .slice X.e S.eyes.length X.ec, .int .i64 S.watch, .int .i64 S.feed, .int .i64 S.heal, .int .i64 S.low, .int .i64 S.high, .slice X.l S.plans.length X.lc] 29)) = WA := ⟨_, rfl⟩
  rw [hWA] at hkA hsb HS HT
  have hlA : w.heap.size < WA.heap.size := hsb.lt
  have HK := Hid.mk' hkA
  have HSB := Hid.mk' hsb
  have hK0 := Kept.refl WA none
  clear h hT hkA hsb
  have s0_ : ∀ w', Kept WA w' none → w'.cell? ⟨w.heap.size, 0, none⟩ = some (.int .i64 S.id) := fun w' q => (HSB.out.kept q).c0
  have s1_ : ∀ w', Kept WA w' none → w'.cell? ⟨w.heap.size, 1, none⟩ = some (.slice X.g S.groups.length X.gc) := fun w' q => (HSB.out.kept q).c1
  have s2_ : ∀ w', Kept WA w' none → w'.cell? ⟨w.heap.size, 2, none⟩ = some (.slice X.a S.apart.length X.ac) := fun w' q => (HSB.out.kept q).c2
  have s3_ : ∀ w', Kept WA w' none → w'.cell? ⟨w.heap.size, 3, none⟩ = some (.slice X.b S.between.length X.bc) := fun w' q => (HSB.out.kept q).c3
  have s4_ : ∀ w', Kept WA w' none → w'.cell? ⟨w.heap.size, 4, none⟩ = some (.slice X.p S.phases.length X.pc) := fun w' q => (HSB.out.kept q).c4
  have s5_ : ∀ w', Kept WA w' none → w'.cell? ⟨w.heap.size, 5, none⟩ = some (.slice X.e S.eyes.length X.ec) := fun w' q => (HSB.out.kept q).c5
  have s6_ : ∀ w', Kept WA w' none → w'.cell? ⟨w.heap.size, 6, none⟩ = some (.int .i64 S.watch) := fun w' q => (HSB.out.kept q).c6
  have s7_ : ∀ w', Kept WA w' none → w'.cell? ⟨w.heap.size, 7, none⟩ = some (.int .i64 S.feed) := fun w' q => (HSB.out.kept q).c7
  have s8_ : ∀ w', Kept WA w' none → w'.cell? ⟨w.heap.size, 8, none⟩ = some (.int .i64 S.heal) := fun w' q => (HSB.out.kept q).c8
  have s9_ : ∀ w', Kept WA w' none → w'.cell? ⟨w.heap.size, 9, none⟩ = some (.int .i64 S.low) := fun w' q => (HSB.out.kept q).c9
  have s10_ : ∀ w', Kept WA w' none → w'.cell? ⟨w.heap.size, 10, none⟩ = some (.int .i64 S.high) := fun w' q => (HSB.out.kept q).c10
  have s11_ : ∀ w', Kept WA w' none → w'.cell? ⟨w.heap.size, 11, none⟩ = some (.slice X.l S.plans.length X.lc) := fun w' q => (HSB.out.kept q).c11
  go_enter Tryd.func12, Tryd.ntmps12
  go_wp2_with (first | rw [hWA] | (have hgo := hKC; clear hgo; go_at_call 22; have hx := cchk_any (HS.out.kept hKC) c hc32 g hp8; rw [HE2.out] at hx; refine hx.mono ?_; rintro e wD ⟨rfl, hkD⟩; have hKD : Kept WA wD none := hKC.tr hkD; clear hx) | (go_at_call 19; have hx := check_any HS.out HT.out; rw [hce] at hx; refine hx.mono ?_; rintro e wC ⟨rfl, hkC⟩; have hKC : Kept WA wC none := hkC; clear hx))
  go_ret2
  exact ⟨rfl, HK.out.tr hKD⟩
set_option maxRecDepth 100000 in
set_option maxHeartbeats 2000000 in
theorem cfst_go {X : Sa} {S : St} {w : World} (h : Sat w X S) (hT : Tabb w) (c : Nat) (hc32 : c < 4294967296) (g : Int) (hs : siteB S = true) (he2 : calE S c g = 0) (q : Nat) (hq : g = (q : Int) - 1) (V : Int) (hV : V = firV c S.phases.length q) : Calls Tryd.prog 12 #[siteV X S, .int .u32 (c : Int), .int .i64 g] w fun e w' => e = .returned (.tuple #[.int .i64 V, .int .i64 0]) ∧ Kept w w' none := by
  have hce : checkE S = 0 := by unfold checkE; rw [hs]; rfl
  have hp8 : S.phases.length ≤ 8 := (cal_facts hs).p1
  have hp1 : 1 ≤ S.phases.length := (cal_facts hs).p0
  have HE2 := Hid.mk' he2
  have hq9 : q ≤ S.phases.length := by have := calE_zero he2; omega
  have HV := Hid.mk' hV
  have HQ := Hid.mk' hq
  have hg0 : -1 ≤ g := by omega
  have hg9 : g < (S.phases.length : Int) := by omega
  have hNn : ¬ (S.phases.length : Int) = 0 := by omega
  clear he2 hs hV hq
  have hkA : Kept w (w.alloc (.cells #[.int .i64 S.id, .slice X.g S.groups.length X.gc, .slice X.a S.apart.length X.ac, .slice X.b S.between.length X.bc, .slice X.p S.phases.length X.pc, .slice X.e S.eyes.length X.ec, .int .i64 S.watch, .int .i64 S.feed, .int .i64 S.heal, .int .i64 S.low, .int .i64 S.high, .slice X.l S.plans.length X.lc] 29)) none := Kept.alloc _ _ _ _ _
  have hsb := sbox_alloc h 29
  have HS := Hid.mk' (h.kept hkA)
  have HT := Hid.mk' (hT.kept hkA)
  have hE9 : S.eyes.length ≤ 9223372036854775807 := by have := h.ek.room; have := h.ek.max; omega
  have hP9 : S.phases.length ≤ 9223372036854775807 := by have := h.pk.room; have := h.pk.max; omega
  obtain ⟨WA, hWA⟩ : ∃ WA, (w.alloc (.cells #[.int .i64 S.id, .slice X.g S.groups.length X.gc, .slice X.a S.apart.length X.ac, .slice X.b S.between.length X.bc, .slice X.p S.phases.length X.pc, .slice X.e S.eyes.length X.ec, .int .i64 S.watch, .int .i64 S.feed, .int .i64 S.heal, .int .i64 S.low, .int .i64 S.high, .slice X.l S.plans.length X.lc] 29)) = WA := ⟨_, rfl⟩
  rw [hWA] at hkA hsb HS HT
  have hlA : w.heap.size < WA.heap.size := hsb.lt
  have HK := Hid.mk' hkA
  have HSB := Hid.mk' hsb
  have hK0 := Kept.refl WA none
  clear h hT hkA hsb
  have s0_ : ∀ w', Kept WA w' none → w'.cell? ⟨w.heap.size, 0, none⟩ = some (.int .i64 S.id) := fun w' q => (HSB.out.kept q).c0
  have s1_ : ∀ w', Kept WA w' none → w'.cell? ⟨w.heap.size, 1, none⟩ = some (.slice X.g S.groups.length X.gc) := fun w' q => (HSB.out.kept q).c1
  have s2_ : ∀ w', Kept WA w' none → w'.cell? ⟨w.heap.size, 2, none⟩ = some (.slice X.a S.apart.length X.ac) := fun w' q => (HSB.out.kept q).c2
  have s3_ : ∀ w', Kept WA w' none → w'.cell? ⟨w.heap.size, 3, none⟩ = some (.slice X.b S.between.length X.bc) := fun w' q => (HSB.out.kept q).c3
  have s4_ : ∀ w', Kept WA w' none → w'.cell? ⟨w.heap.size, 4, none⟩ = some (.slice X.p S.phases.length X.pc) := fun w' q => (HSB.out.kept q).c4
  have s5_ : ∀ w', Kept WA w' none → w'.cell? ⟨w.heap.size, 5, none⟩ = some (.slice X.e S.eyes.length X.ec) := fun w' q => (HSB.out.kept q).c5
  have s6_ : ∀ w', Kept WA w' none → w'.cell? ⟨w.heap.size, 6, none⟩ = some (.int .i64 S.watch) := fun w' q => (HSB.out.kept q).c6
  have s7_ : ∀ w', Kept WA w' none → w'.cell? ⟨w.heap.size, 7, none⟩ = some (.int .i64 S.feed) := fun w' q => (HSB.out.kept q).c7
  have s8_ : ∀ w', Kept WA w' none → w'.cell? ⟨w.heap.size, 8, none⟩ = some (.int .i64 S.heal) := fun w' q => (HSB.out.kept q).c8
  have s9_ : ∀ w', Kept WA w' none → w'.cell? ⟨w.heap.size, 9, none⟩ = some (.int .i64 S.low) := fun w' q => (HSB.out.kept q).c9
  have s10_ : ∀ w', Kept WA w' none → w'.cell? ⟨w.heap.size, 10, none⟩ = some (.int .i64 S.high) := fun w' q => (HSB.out.kept q).c10
  have s11_ : ∀ w', Kept WA w' none → w'.cell? ⟨w.heap.size, 11, none⟩ = some (.slice X.l S.plans.length X.lc) := fun w' q => (HSB.out.kept q).c11
  go_enter Tryd.func12, Tryd.ntmps12
  go_wp2_with (first | rw [hWA] | (have hgo := hKC; clear hgo; go_at_call 22; have hx := cchk_any (HS.out.kept hKC) c hc32 g hp8; rw [HE2.out] at hx; refine hx.mono ?_; rintro e wD ⟨rfl, hkD⟩; have hKD : Kept WA wD none := hKC.tr hkD; clear hx) | (go_at_call 19; have hx := check_any HS.out HT.out; rw [hce] at hx; refine hx.mono ?_; rintro e wC ⟨rfl, hkC⟩; have hKC : Kept WA wC none := hkC; clear hx))
  go_loopw [11, 12, 29] (fun _ _ iv wr => ∃ k : Nat, k ≤ S.phases.length ∧ iv = .int .i64 k ∧ Kept WA wr none ∧ ∀ j, j < k → atR c S.phases.length q j = false) (fun _ _ iv _ => S.phases.length - (intOf iv).toNat)
  case atStart => exact ⟨0, by omega, rfl, hKD, fun j hj => by omega⟩
  case round =>
    obtain ⟨k, hk, rfl, hkr, hno⟩ := hrel
    have HNO := Hid.mk' hno
    clear hno
    by_cases hlt : k < S.phases.length
    · have e1 : (g + 1 + (k : Int)).tmod (S.phases.length : Int) = (((q + k) % S.phases.length : Nat) : Int) := by
        rw [show g + 1 + (k : Int) = ((q + k : Nat) : Int) by have := HQ.out; omega, Int.tmod_eq_emod_of_nonneg (by omega)]
        simp
      have e2 : (g + 1 + (k : Int)) % (S.phases.length : Int) = (((q + k) % S.phases.length : Nat) : Int) := by
        rw [show g + 1 + (k : Int) = ((q + k : Nat) : Int) by have := HQ.out; omega]
        simp
      have hmd : (q + k) % S.phases.length < S.phases.length := Nat.mod_lt _ (by omega)
      cases hb : atR c S.phases.length q k
      · have hh : hasB c (((q + k) % S.phases.length : Nat) : Int) = false := by rw [has_in (by omega)]; exact hb
        have HN2 : Hid (∀ j, j < k + 1 → atR c S.phases.length q j = false) := fun j hj => by
          by_cases e : j = k
          · rw [e]; exact hb
          · exact HNO.out j (by omega)
        clear hb
        generalize (q + k) % S.phases.length = M at *
        go_wp2_with (go_at_call 24; have hx := has_any c (M : Int) wr hc32; rw [hh] at hx; refine hx.mono ?_; clear hx; rintro e w5 ⟨rfl, hw5⟩; have hw5 := hw5.symm; subst hw5)
        go_roundw
        case rel => exact ⟨k + 1, by omega, by go_num, hkr, HN2.out⟩
        case measure => simp [intOf]; omega
      · have hh : hasB c (((q + k) % S.phases.length : Nat) : Int) = true := by rw [has_in (by omega)]; exact hb
        have HF := Hid.mk' (firV_of hlt hb HNO.out)
        clear hb
        generalize (q + k) % S.phases.length = M at *
        go_wp2_with (go_at_call 24; have hx := has_any c (M : Int) wr hc32; rw [hh] at hx; refine hx.mono ?_; clear hx; rintro e w5 ⟨rfl, hw5⟩; have hw5 := hw5.symm; subst hw5)
        go_ret2
        exact ⟨by rw [HV.out, HF.out]; rfl, HK.out.tr hkr⟩
    · have HF : Hid (firV c S.phases.length q = -1) := firV_none (fun j hj => HNO.out j (by omega))
      go_wp2
      go_ret2
      exact ⟨by rw [HV.out, HF.out]; rfl, HK.out.tr hkr⟩
theorem cfst_any {X : Sa} {S : St} {w : World} (h : Sat w X S) (hT : Tabb w) (c : Nat) (hc32 : c < 4294967296) (g : Int) : Calls Tryd.prog 12 #[siteV X S, .int .u32 (c : Int), .int .i64 g] w fun e w' => e = .returned (.tuple #[.int .i64 (fstV S c g), .int .i64 (firE S c g)]) ∧ Kept w w' none := by
  unfold fstV
  by_cases he : firE S c g = 0
  · rw [if_pos he, he]
    obtain ⟨h1, h2⟩ := firE_zero he
    exact cfst_go h hT c hc32 g h1 h2 (g + 1).toNat (by have := calE_zero h2; omega) _ rfl
  · rw [if_neg he]
    unfold firE at he ⊢
    cases hs : siteB S
    · exact cfst_site h hT c hc32 g hs
    · rw [hs, if_pos rfl] at he
      rw [if_pos rfl]
      exact cfst_bad h hT c hc32 g hs _ rfl he

end Go.Proofs.YtjfajdmifjbblaaDoor
