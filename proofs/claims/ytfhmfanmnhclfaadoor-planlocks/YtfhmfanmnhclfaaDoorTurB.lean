/-
  THE CONTRACTS of turn's Asks and Full (made by a program).
-/
import Derived.Test.YtfhmfanmnhclfaaDoorTurA
namespace Go.Proofs.YtfhmfanmnhclfaaDoor
open Go.RowKit Go.Lib Go.Deep
set_option linter.unusedVariables false
set_option linter.unusedSimpArgs false


/-- What Asks tells. -/
def askE (S : St) (p : Int) : Int := if siteB S = false then 50 else if phB S p = true then 0 else 2
def askL (S : St) (p : Int) : List Nat := if askE S p = 0 then askV S p.toNat else []
theorem askE_ok {S : St} {p : Int} (h : askE S p = 0) : siteB S = true ∧ phB S p = true := by
  unfold askE at h
  cases hs : siteB S with
  | false => rw [hs, if_pos rfl] at h; cases h
  | true =>
    rw [hs, if_neg (by decide)] at h
    cases hp : phB S p with
    | false => rw [hp, if_neg (by decide)] at h; cases h
    | true => exact ⟨rfl, rfl⟩
theorem askV_lt (S : St) (p : Nat) : ∀ x ∈ askV S p, x < 256 := by
  intro x hx
  simp only [askV, List.mem_map] at hx
  obtain ⟨i, _, rfl⟩ := hx
  split <;> omega
set_option maxRecDepth 100000 in
set_option maxHeartbeats 2000000 in
theorem tasks_no {X : Sa} {S : St} {w : World} (h : Sat w X S) (hT : Tabb w) (p : Int) (hs : siteB S = false) : Calls Tryd.prog 24 #[siteV X S, .int .i64 p] w fun e w' => e = .returned (.tuple #[.slice none 0 0, .int .i64 50]) ∧ Kept w w' none := by
  have hce : checkE S = 50 := by unfold checkE; rw [hs]; rfl
  obtain ⟨WA, hWA⟩ : ∃ WA, (w.alloc (.cells #[.int .i64 S.id, .slice X.g S.groups.length X.gc, .slice X.a S.apart.length X.ac, .slice X.b S.between.length X.bc, .slice X.p S.phases.length X.pc, .slice X.e S.eyes.length X.ec, .int .i64 S.watch, .int .i64 S.feed, .int .i64 S.heal, .int .i64 S.low, .int .i64 S.high, .slice X.l S.plans.length X.lc] 35)) = WA := ⟨_, rfl⟩
  obtain ⟨HSB, HK, HS, s0_, s1_, s2_, s3_, s4_, s5_, s6_, s7_, s8_, s9_, s10_, s11_⟩ := hd1 h hWA
  have HT := Hid.mk' (hT.kept HK.out)
  have hK0 := Kept.refl WA none
  clear h hT
  go_enter Tryd.func24, Tryd.ntmps24
  go_wp2_with (first | rw [hWA] | (go_at_call 20; have hx := check_any HS.out HT.out; rw [hce] at hx; refine hx.mono ?_; rintro e wC ⟨rfl, hkC⟩; have hKC : Kept WA wC none := hkC; clear hx))
  go_ret2
  exact ⟨rfl, HK.out.tr hkC⟩
set_option maxRecDepth 100000 in
set_option maxHeartbeats 2000000 in
theorem tasks_arg {X : Sa} {S : St} {w : World} (h : Sat w X S) (hT : Tabb w) (p : Int) (hs : siteB S = true) (hph : phB S p = false) : Calls Tryd.prog 24 #[siteV X S, .int .i64 p] w fun e w' => e = .returned (.tuple #[.slice none 0 0, .int .i64 2]) ∧ Kept w w' none := by
  have hce : checkE S = 0 := by unfold checkE; rw [hs]; rfl
  obtain ⟨WA, hWA⟩ : ∃ WA, (w.alloc (.cells #[.int .i64 S.id, .slice X.g S.groups.length X.gc, .slice X.a S.apart.length X.ac, .slice X.b S.between.length X.bc, .slice X.p S.phases.length X.pc, .slice X.e S.eyes.length X.ec, .int .i64 S.watch, .int .i64 S.feed, .int .i64 S.heal, .int .i64 S.low, .int .i64 S.high, .slice X.l S.plans.length X.lc] 35)) = WA := ⟨_, rfl⟩
  obtain ⟨HSB, HK, HS, s0_, s1_, s2_, s3_, s4_, s5_, s6_, s7_, s8_, s9_, s10_, s11_⟩ := hd1 h hWA
  have HT := Hid.mk' (hT.kept HK.out)
  have hK0 := Kept.refl WA none
  clear h hT
  go_enter Tryd.func24, Tryd.ntmps24
  go_wp2_with (first | rw [hWA] | (have hgo := hKC; clear hgo; go_at_call 44; have hx := tisp_any (HSB.out.kept hKC) p; rw [hph] at hx; refine hx.mono ?_; rintro e wI ⟨rfl, hwI⟩; have hwI := hwI.symm; subst hwI; clear hx) | (go_at_call 20; have hx := check_any HS.out HT.out; rw [hce] at hx; refine hx.mono ?_; rintro e wC ⟨rfl, hkC⟩; have hKC : Kept WA wC none := hkC; clear hx))
  go_ret2
  exact ⟨rfl, HK.out.tr hkC⟩
set_option maxRecDepth 100000 in
set_option maxHeartbeats 2000000 in
theorem tasks_go {X : Sa} {S : St} {w : World} (h : Sat w X S) (hT : Tabb w) (p : Nat) (hs : siteB S = true) (hp : p < S.phases.length) : Calls Tryd.prog 24 #[siteV X S, .int .i64 (p : Int)] w fun e w' => ∃ b, e = .returned (.tuple #[.slice (some ⟨b, 0, none⟩) S.groups.length S.groups.length, .int .i64 0]) ∧ w.heap.size ≤ b ∧ w'.rowIs b 5 S.groups.length (fun i => .int .u8 ((lg (askV S p) i : Nat) : Int)) ∧ Kept w w' none := by
  have hce : checkE S = 0 := by unfold checkE; rw [hs]; rfl
  have hng := (span_may hs).base.sh.ok.ng
  have hph : phB S (p : Int) = true := by unfold phB; simp; omega
  obtain ⟨WA, hWA⟩ : ∃ WA, (w.alloc (.cells #[.int .i64 S.id, .slice X.g S.groups.length X.gc, .slice X.a S.apart.length X.ac, .slice X.b S.between.length X.bc, .slice X.p S.phases.length X.pc, .slice X.e S.eyes.length X.ec, .int .i64 S.watch, .int .i64 S.feed, .int .i64 S.heal, .int .i64 S.low, .int .i64 S.high, .slice X.l S.plans.length X.lc] 35)) = WA := ⟨_, rfl⟩
  obtain ⟨HSB, HK, HS, s0_, s1_, s2_, s3_, s4_, s5_, s6_, s7_, s8_, s9_, s10_, s11_⟩ := hd1 h hWA
  have HT := Hid.mk' (hT.kept HK.out)
  have hK0 := Kept.refl WA none
  clear h hT
  go_enter Tryd.func24, Tryd.ntmps24
  go_wp2_with (first | rw [hWA] | (have hgo := hKI; clear hgo; go_at_call 45; refine (task_any (HSB.out.kept hKI) (by omega) hp).mono ?_; rintro e wT ⟨rfl, hrT, hkT⟩) | (have hgo := hKC; clear hgo; go_at_call 44; have hx := tisp_any (HSB.out.kept hKC) (p : Int); rw [hph] at hx; refine hx.mono ?_; rintro e wI ⟨rfl, hwI⟩; have hwI := hwI.symm; subst hwI; have hKI := hKC; clear hx) | (go_at_call 20; have hx := check_any HS.out HT.out; rw [hce] at hx; refine hx.mono ?_; rintro e wC ⟨rfl, hkC⟩; have hKC : Kept WA wC none := hkC; clear hx))
  go_ret2
  exact ⟨_, rfl, (HK.out.tr hKC).size, hrT, (HK.out.tr hKC).tr hkT⟩
theorem tasks_any {X : Sa} {S : St} {w : World} (h : Sat w X S) (hT : Tabb w) (p : Int) : Calls Tryd.prog 24 #[siteV X S, .int .i64 p] w fun e w' => ∃ a c, e = .returned (.tuple #[.slice a (askL S p).length c, .int .i64 (askE S p)]) ∧ By w' a (askL S p).length (askL S p) ∧ Kept w w' none := by
  cases hs : siteB S with
  | false =>
    have e1 : askE S p = 50 := by unfold askE; rw [hs]; rfl
    have e2 : askL S p = [] := by unfold askL; rw [e1]; rfl
    rw [e1, e2]
    refine (tasks_no h hT p hs).mono ?_
    rintro e w' ⟨rfl, hk⟩
    exact ⟨none, 0, rfl, By.nil _ _, hk⟩
  | true =>
    cases hph : phB S p with
    | false =>
      have e1 : askE S p = 2 := by unfold askE; rw [hs, hph]; rfl
      have e2 : askL S p = [] := by unfold askL; rw [e1]; rfl
      rw [e1, e2]
      refine (tasks_arg h hT p hs hph).mono ?_
      rintro e w' ⟨rfl, hk⟩
      exact ⟨none, 0, rfl, By.nil _ _, hk⟩
    | true =>
      have e1 : askE S p = 0 := by unfold askE; rw [hs, hph]; rfl
      obtain ⟨q, rfl, hq⟩ := phB_yes hph
      have e2 : askL S (q : Int) = askV S q := by unfold askL; rw [e1]; rfl
      have hng := (span_may hs).base.sh.ok.ng
      rw [e1, e2, askV_len]
      refine (tasks_go h hT q hs hq).mono ?_
      rintro e w' ⟨b, rfl, hb, hr, hk⟩
      exact ⟨some ⟨b, 0, none⟩, _, rfl, By.row hr (askV S q) S.groups.length (Nat.le_refl _) (askV_len S q) (by omega) (askV_lt S q) (fun i hi => rfl), hk⟩

/-! ### Full -/
/-- What Full tells. -/
def fulE (S : St) (F : Sf) (p : Int) : Int := if siteB S = false then 50 else if F.groups.length = S.groups.length then (if phB S p = true then 0 else 2) else 8
def fulV (S : St) (F : Sf) (p : Int) : Bool := if fulE S F p = 0 then fullB S F p.toNat else false
set_option maxRecDepth 100000 in
set_option maxHeartbeats 2000000 in
theorem tfull_no {X : Sa} {S : St} {w : World} (h : Sat w X S) (hT : Tabb w) {a : Option Addr} {c : Nat} {F : Sf} (hF : SafeAt w a c F) (p : Int) (hs : siteB S = false) : Calls Tryd.prog 27 #[siteV X S, safeV a c F, .int .i64 p] w fun e w' => e = .returned (.tuple #[.bool false, .int .i64 50]) ∧ Kept w w' none := by
  have hce : checkE S = 50 := by unfold checkE; rw [hs]; rfl
  obtain ⟨WA, hWA⟩ : ∃ WA, ((w.alloc (.cells #[.int .i64 S.id, .slice X.g S.groups.length X.gc, .slice X.a S.apart.length X.ac, .slice X.b S.between.length X.bc, .slice X.p S.phases.length X.pc, .slice X.e S.eyes.length X.ec, .int .i64 S.watch, .int .i64 S.feed, .int .i64 S.heal, .int .i64 S.low, .int .i64 S.high, .slice X.l S.plans.length X.lc] 35)).alloc (.cells #[.slice a F.groups.length c, .int .i64 F.start, .bool F.flashed] 61)) = WA := ⟨_, rfl⟩
  obtain ⟨HSB, HBN, HSZ, HK, HS, HF, n0_, n1_, n2_, s0_, s1_, s2_, s3_, s4_, s5_, s6_, s7_, s8_, s9_, s10_, s11_⟩ := hd2 h hF hWA
  have HT := Hid.mk' (hT.kept HK.out)
  have hK0 := Kept.refl WA none
  clear h hT hF
  go_enter Tryd.func27, Tryd.ntmps27
  go_wp2_with (first | rw [hWA] | (go_at_call 20; have hx := check_any HS.out HT.out; rw [hce] at hx; refine hx.mono ?_; rintro e wC ⟨rfl, hkC⟩; have hKC : Kept WA wC none := hkC; clear hx))
  go_ret2
  exact ⟨rfl, HK.out.tr hkC⟩
set_option maxRecDepth 100000 in
set_option maxHeartbeats 2000000 in
theorem tfull_bad {X : Sa} {S : St} {w : World} (h : Sat w X S) (hT : Tabb w) {a : Option Addr} {c : Nat} {F : Sf} (hF : SafeAt w a c F) (p : Int) (hs : siteB S = true) (hl : F.groups.length ≠ S.groups.length) : Calls Tryd.prog 27 #[siteV X S, safeV a c F, .int .i64 p] w fun e w' => e = .returned (.tuple #[.bool false, .int .i64 8]) ∧ Kept w w' none := by
  have hce : checkE S = 0 := by unfold checkE; rw [hs]; rfl
  have hlb : ((F.groups.length : Int) != (S.groups.length : Int)) = true := by simp; omega
  clear hl
  obtain ⟨WA, hWA⟩ : ∃ WA, ((w.alloc (.cells #[.int .i64 S.id, .slice X.g S.groups.length X.gc, .slice X.a S.apart.length X.ac, .slice X.b S.between.length X.bc, .slice X.p S.phases.length X.pc, .slice X.e S.eyes.length X.ec, .int .i64 S.watch, .int .i64 S.feed, .int .i64 S.heal, .int .i64 S.low, .int .i64 S.high, .slice X.l S.plans.length X.lc] 35)).alloc (.cells #[.slice a F.groups.length c, .int .i64 F.start, .bool F.flashed] 61)) = WA := ⟨_, rfl⟩
  obtain ⟨HSB, HBN, HSZ, HK, HS, HF, n0_, n1_, n2_, s0_, s1_, s2_, s3_, s4_, s5_, s6_, s7_, s8_, s9_, s10_, s11_⟩ := hd2 h hF hWA
  have HT := Hid.mk' (hT.kept HK.out)
  have hK0 := Kept.refl WA none
  clear h hT hF
  go_enter Tryd.func27, Tryd.ntmps27
  go_wp2_with (first | rw [hWA] | (go_at_call 20; have hx := check_any HS.out HT.out; rw [hce] at hx; refine hx.mono ?_; rintro e wC ⟨rfl, hkC⟩; have hKC : Kept WA wC none := hkC; clear hx))
  go_ret2
  exact ⟨rfl, HK.out.tr hkC⟩
set_option maxRecDepth 100000 in
set_option maxHeartbeats 2000000 in
theorem tfull_arg {X : Sa} {S : St} {w : World} (h : Sat w X S) (hT : Tabb w) {a : Option Addr} {c : Nat} {F : Sf} (hF : SafeAt w a c F) (p : Int) (hs : siteB S = true) (hl : F.groups.length = S.groups.length) (hph : phB S p = false) : Calls Tryd.prog 27 #[siteV X S, safeV a c F, .int .i64 p] w fun e w' => e = .returned (.tuple #[.bool false, .int .i64 2]) ∧ Kept w w' none := by
  have hce : checkE S = 0 := by unfold checkE; rw [hs]; rfl
  have hlb : ((F.groups.length : Int) != (S.groups.length : Int)) = false := by simp; omega
  clear hl
  obtain ⟨WA, hWA⟩ : ∃ WA, ((w.alloc (.cells #[.int .i64 S.id, .slice X.g S.groups.length X.gc, .slice X.a S.apart.length X.ac, .slice X.b S.between.length X.bc, .slice X.p S.phases.length X.pc, .slice X.e S.eyes.length X.ec, .int .i64 S.watch, .int .i64 S.feed, .int .i64 S.heal, .int .i64 S.low, .int .i64 S.high, .slice X.l S.plans.length X.lc] 35)).alloc (.cells #[.slice a F.groups.length c, .int .i64 F.start, .bool F.flashed] 61)) = WA := ⟨_, rfl⟩
  obtain ⟨HSB, HBN, HSZ, HK, HS, HF, n0_, n1_, n2_, s0_, s1_, s2_, s3_, s4_, s5_, s6_, s7_, s8_, s9_, s10_, s11_⟩ := hd2 h hF hWA
  have HT := Hid.mk' (hT.kept HK.out)
  have hK0 := Kept.refl WA none
  clear h hT hF
  go_enter Tryd.func27, Tryd.ntmps27
  go_wp2_with (first | rw [hWA] | (have hgo := hKC; clear hgo; go_at_call 44; have hx := tisp_any (HSB.out.kept hKC) p; rw [hph] at hx; refine hx.mono ?_; rintro e wI ⟨rfl, hwI⟩; have hwI := hwI.symm; subst hwI; clear hx) | (go_at_call 20; have hx := check_any HS.out HT.out; rw [hce] at hx; refine hx.mono ?_; rintro e wC ⟨rfl, hkC⟩; have hKC : Kept WA wC none := hkC; clear hx))
  go_ret2
  exact ⟨rfl, HK.out.tr hkC⟩
set_option maxRecDepth 100000 in
set_option maxHeartbeats 2000000 in
theorem tfull_go {X : Sa} {S : St} {w : World} (h : Sat w X S) (hT : Tabb w) {a : Option Addr} {c : Nat} {F : Sf} (hF : SafeAt w a c F) (p : Nat) (hs : siteB S = true) (hl : F.groups.length = S.groups.length) (hp : p < S.phases.length) : Calls Tryd.prog 27 #[siteV X S, safeV a c F, .int .i64 (p : Int)] w fun e w' => e = .returned (.tuple #[.bool (fullB S F p), .int .i64 0]) ∧ Kept w w' none := by
  have hce : checkE S = 0 := by unfold checkE; rw [hs]; rfl
  have hng := (span_may hs).base.sh.ok.ng
  have hph : phB S (p : Int) = true := by unfold phB; simp; omega
  have hlb : ((F.groups.length : Int) != (S.groups.length : Int)) = false := by simp; omega
  have HFL := Hid.mk' hl
  clear hl
  obtain ⟨fv, hfv⟩ : ∃ fv, fullB S F p = fv := ⟨_, rfl⟩
  rw [hfv]
  have HFV := Hid.mk' hfv
  clear hfv
  obtain ⟨WA, hWA⟩ : ∃ WA, ((w.alloc (.cells #[.int .i64 S.id, .slice X.g S.groups.length X.gc, .slice X.a S.apart.length X.ac, .slice X.b S.between.length X.bc, .slice X.p S.phases.length X.pc, .slice X.e S.eyes.length X.ec, .int .i64 S.watch, .int .i64 S.feed, .int .i64 S.heal, .int .i64 S.low, .int .i64 S.high, .slice X.l S.plans.length X.lc] 35)).alloc (.cells #[.slice a F.groups.length c, .int .i64 F.start, .bool F.flashed] 61)) = WA := ⟨_, rfl⟩
  obtain ⟨HSB, HBN, HSZ, HK, HS, HF, n0_, n1_, n2_, s0_, s1_, s2_, s3_, s4_, s5_, s6_, s7_, s8_, s9_, s10_, s11_⟩ := hd2 h hF hWA
  have HT := Hid.mk' (hT.kept HK.out)
  have hK0 := Kept.refl WA none
  clear h hT hF
  go_enter Tryd.func27, Tryd.ntmps27
  go_wp2_with (first | rw [hWA] | (have hgo := hKI; clear hgo; go_at_call 52; have hx := tful_any (HSB.out.kept hKI) (by omega) hp (HF.out.kept hKI) HFL.out; rw [HFV.out, ← HFL.out] at hx; refine hx.mono ?_; rintro e wT ⟨rfl, hkT⟩; clear hx) | (have hgo := hKC; clear hgo; go_at_call 44; have hx := tisp_any (HSB.out.kept hKC) (p : Int); rw [hph] at hx; refine hx.mono ?_; rintro e wI ⟨rfl, hwI⟩; have hwI := hwI.symm; subst hwI; have hKI := hKC; clear hx) | (go_at_call 20; have hx := check_any HS.out HT.out; rw [hce] at hx; refine hx.mono ?_; rintro e wC ⟨rfl, hkC⟩; have hKC : Kept WA wC none := hkC; clear hx))
  go_ret2
  exact ⟨rfl, (HK.out.tr hKC).tr hkT⟩
theorem tfull_any {X : Sa} {S : St} {w : World} (h : Sat w X S) (hT : Tabb w) {a : Option Addr} {c : Nat} {F : Sf} (hF : SafeAt w a c F) (p : Int) : Calls Tryd.prog 27 #[siteV X S, safeV a c F, .int .i64 p] w fun e w' => e = .returned (.tuple #[.bool (fulV S F p), .int .i64 (fulE S F p)]) ∧ Kept w w' none := by
  cases hs : siteB S with
  | false =>
    have e1 : fulE S F p = 50 := by unfold fulE; rw [hs]; rfl
    have e2 : fulV S F p = false := by unfold fulV; rw [e1]; rfl
    rw [e1, e2]
    exact tfull_no h hT hF p hs
  | true =>
    by_cases hl : F.groups.length = S.groups.length
    · cases hph : phB S p with
      | false =>
        have e1 : fulE S F p = 2 := by unfold fulE; rw [hs, hph, if_neg (by decide), if_pos hl]; rfl
        have e2 : fulV S F p = false := by unfold fulV; rw [e1]; rfl
        rw [e1, e2]
        exact tfull_arg h hT hF p hs hl hph
      | true =>
        have e1 : fulE S F p = 0 := by unfold fulE; rw [hs, hph, if_neg (by decide), if_pos hl]; rfl
        obtain ⟨q, rfl, hq⟩ := phB_yes hph
        have e2 : fulV S F (q : Int) = fullB S F q := by unfold fulV; rw [e1]; rfl
        rw [e1, e2]
        exact tfull_go h hT hF q hs hl hq
    · have e1 : fulE S F p = 8 := by unfold fulE; rw [hs, if_neg (by decide), if_neg hl]
      have e2 : fulV S F p = false := by unfold fulV; rw [e1]; rfl
      rw [e1, e2]
      exact tfull_bad h hT hF p hs hl

end Go.Proofs.YtfhmfanmnhclfaaDoor
