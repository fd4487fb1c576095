/-
  THE CONTRACT of site.Check: a list of conditions, asked by a labelled loop.
-/
import Derived.Test.YtchjbagipbmcoaaGreatDoorFits2
import Derived.WalkMore
import Derived.Laws.EntriesVeiled
import Derived.Deep.LoopGhost
namespace Go.Proofs.YtchjbagipbmcoaaGreatDoor
open Go.RowKit Go.Lib Go.Deep
set_option linter.unusedVariables false
set_option linter.unusedSimpArgs false

/-- Of which part condition k is asked, and which function asks it. -/
def ofN (k : Nat) : Nat := [0, 0, 1, 1, 1, 2, 0, 3, 0, 4].getD k 0
def fnN (k : Nat) : Nat := [60, 61, 62, 63, 64, 65, 66, 67, 68, 69].getD k 0
def manyN (S : St) (o : Nat) : Nat := [1, S.groups.length, S.phases.length, S.eyes.length, S.plans.length].getD o 0
def condB (S : St) (k i : Nat) : Bool := match k with
  | 0 => countsB S
  | 1 => ownB S
  | 2 => groupB S i
  | 3 => apartB S i
  | 4 => betweenB S i
  | 5 => phaseB S i
  | 6 => servedB S
  | 7 => eyeB S i
  | 8 => cyclesB S
  | _ => planB S (S.pl i)
theorem allB_one (b : Bool) : allB 1 (fun _ => b) = b := by simp [allB]
theorem siteB_eq (S : St) : siteB S = allB 10 (fun k => allB (manyN S (ofN k)) (condB S k)) := by
  have : ∀ f : Nat → Bool, allB 10 f = (f 0 && f 1 && f 2 && f 3 && f 4 && f 5 && f 6 && f 7 && f 8 && f 9) := fun f => by
    simp [allB, List.range, List.range.loop, Bool.and_assoc]
  rw [this]
  show siteB S = (allB 1 (fun _ => countsB S) && allB 1 (fun _ => ownB S) && allB S.groups.length (groupB S) && allB S.groups.length (apartB S) && allB S.groups.length (betweenB S) && allB S.phases.length (phaseB S) && allB 1 (fun _ => servedB S) && allB S.eyes.length (eyeB S) && allB 1 (fun _ => cyclesB S) && allB S.plans.length (fun i => planB S (S.pl i)))
  rw [allB_one, allB_one, allB_one, allB_one]
  rfl
/-- What the first conditions tell. -/
theorem okay_of {S : St} (h : ∀ i, i < manyN S (ofN 0) → condB S 0 i = true) : Okay S := counts_iff.1 (h 0 Nat.zero_lt_one)
theorem shape_of {S : St} (h : ∀ j, j < 6 → ∀ i, i < manyN S (ofN j) → condB S j i = true) : Shape S := by
  have hO := okay_of (h 0 (by omega))
  refine ⟨hO, fun a ha => ?_, fun i hi => ?_⟩
  · have h4 : betweenB S a = true := h 4 (by omega) a ha
    unfold betweenB at h4
    simp only [Bool.and_eq_true, decide_eq_true_eq] at h4
    exact h4.1
  · have h5 : phaseB S i = true := h 5 (by omega) i hi
    unfold phaseB at h5
    simp only [Bool.and_eq_true, decide_eq_true_eq] at h5
    exact h5.1.1.1.1.1.1.2
theorem base_of {S : St} (h : ∀ j, j < 6 → ∀ i, i < manyN S (ofN j) → condB S j i = true) : Base S := by
  have hS := shape_of h
  refine ⟨hS, fun i hi => ?_, fun a b ha hb => ?_⟩
  · have h5 : phaseB S i = true := h 5 (by omega) i hi
    unfold phaseB at h5
    simp only [Bool.and_eq_true, decide_eq_true_eq] at h5
    exact ⟨h5.1.1.1.1.2, h5.1.1.2⟩
  · have h4 : betweenB S a = true := h 4 (by omega) a ha
    unfold betweenB at h4
    simp only [Bool.and_eq_true, decide_eq_true_eq] at h4
    have h6 := allB_iff.1 h4.2 b hb
    unfold betB at h6
    split at h6
    · exact (inB_iff.1 h6).2
    · have := of_decide_eq_true h6
      omega
theorem span_of {S : St} (h : ∀ j, j < 9 → ∀ i, i < manyN S (ofN j) → condB S j i = true) : Span S := by
  have hB := base_of (fun j hj => h j (by omega))
  have h8 : cyclesB S = true := h 8 (by omega) 0 Nat.zero_lt_one
  unfold cyclesB at h8
  simp only [Bool.and_eq_true, inB_iff] at h8
  have := hB.round S.phases.length (Nat.le_refl _)
  unfold roundM at h8
  exact ⟨hB, by omega, by omega⟩
theorem kept_drewn {w w' : World} (h : ∃ m, w' = w.drewN m) : Kept w w' none := by
  obtain ⟨m, rfl⟩ := h
  exact Kept.drewN _ _ _
theorem cond_any {B : Nat} {X : Sa} {S : St} {w : World} (h : Sbox w B X S) (hT : Tabb w) : ∀ (k : Nat) (hk : k < 10) (hpre : ∀ j, j < k → ∀ i, i < manyN S (ofN j) → condB S j i = true) (i : Nat) (hi : i < manyN S (ofN k)),
    Calls Tryz.prog (fnN k) #[.pointer (some ⟨B, 0, none⟩), .int .i64 i] w fun e w' => e = .returned (.bool (condB S k i)) ∧ Kept w w' none
  | 0, _, _, i, _ => (counts_any h i).mono fun e w' ⟨h1, h2⟩ => ⟨h1, by rw [h2]; exact Kept.refl _ _⟩
  | 1, _, _, i, _ => (own_any h i).mono fun e w' ⟨h1, h2⟩ => ⟨h1, by rw [h2]; exact Kept.refl _ _⟩
  | 2, _, hp, i, hi => group_any h i hi (okay_of (hp 0 (by omega))).ng.2
  | 3, _, hp, i, hi => (apart_any h i hi (okay_of (hp 0 (by omega)))).mono fun e w' ⟨h1, h2⟩ => ⟨h1, kept_drewn h2⟩
  | 4, _, hp, i, hi => (between_any h i hi (okay_of (hp 0 (by omega)))).mono fun e w' ⟨h1, h2⟩ => ⟨h1, kept_drewn h2⟩
  | 5, _, hp, i, hi => phase_any h hT (okay_of (hp 0 (by omega))) i hi
  | 6, _, hp, i, hi => served_any h i (okay_of (hp 0 (by omega)))
  | 7, _, hp, i, hi => eye_any h i hi (okay_of (hp 0 (by omega)))
  | 8, _, hp, i, hi => cycles_any h hT (base_of (fun j hj => hp j (by omega))) i
  | 9, _, hp, i, hi => planFits_any h hT (span_of (fun j hj => hp j (by omega))) i hi (okay_of (hp 0 (by omega))).nl
  | k + 10, hk, _, _, _ => absurd hk (by omega)
/-- The list of conditions. -/
structure Conds (w : World) (g : Nat) : Prop where
  lt : g < w.heap.size
  of : ∀ k, k < 10 → w.cell? ⟨g, k * 2, none⟩ = some (.int .u8 (ofN k : Int))
  fn : ∀ k, k < 10 → w.cell? ⟨g, k * 2 + 1, none⟩ = some (.func (.func (fnN k)) #[] #[])
theorem Conds.kept {w w' : World} {g : Nat} (h : Conds w g) (q : Kept w w' none) : Conds w' g :=
  ⟨Nat.lt_of_lt_of_le h.lt q.size, fun k hk => cell_kept0 (h.of k hk) q, fun k hk => cell_kept0 (h.fn k hk) q⟩
set_option maxRecDepth 100000 in
set_option maxHeartbeats 1000000 in
theorem conditions_any (w : World) : Calls Tryz.prog 38 #[] w fun e w' => ∃ g, e = .returned (.slice (some ⟨g, 0, none⟩) 10 10) ∧ Conds w' g ∧ Kept w w' none := by
  go_enter Tryz.func38, Tryz.ntmps38
  go_wp2
  go_ret
  refine ⟨w.heap.size, rfl, ⟨by simp, fun k hk => ?_, fun k hk => ?_⟩, Kept.alloc _ _ _ _ _⟩
  · have : k = 0 ∨ k = 1 ∨ k = 2 ∨ k = 3 ∨ k = 4 ∨ k = 5 ∨ k = 6 ∨ k = 7 ∨ k = 8 ∨ k = 9 := by omega
    rcases this with rfl | rfl | rfl | rfl | rfl | rfl | rfl | rfl | rfl | rfl <;> simp [World.cell?_alloc_mark, ofN]
  · have : k = 0 ∨ k = 1 ∨ k = 2 ∨ k = 3 ∨ k = 4 ∨ k = 5 ∨ k = 6 ∨ k = 7 ∨ k = 8 ∨ k = 9 := by omega
    rcases this with rfl | rfl | rfl | rfl | rfl | rfl | rfl | rfl | rfl | rfl <;> simp [World.cell?_alloc_mark, fnN]
/-- How many parts there are. -/
structure Manys (w : World) (g : Nat) (S : St) : Prop where
  at_ : ∀ o, o < 5 → w.cell? ⟨g, o, none⟩ = some (.int .i64 (manyN S o : Int))
theorem Manys.kept {w w' : World} {g : Nat} {S : St} (h : Manys w g S) (q : Kept w w' none) : Manys w' g S := ⟨fun o ho => cell_kept0 (h.at_ o ho) q⟩
theorem ofN_lt (k : Nat) (h : k < 10) : ofN k < 5 := by
  have : k = 0 ∨ k = 1 ∨ k = 2 ∨ k = 3 ∨ k = 4 ∨ k = 5 ∨ k = 6 ∨ k = 7 ∨ k = 8 ∨ k = 9 := by omega
  rcases this with rfl | rfl | rfl | rfl | rfl | rfl | rfl | rfl | rfl | rfl <;> simp [ofN]
theorem manyN_le {X : Sa} {S : St} {w : World} (h : Sat w X S) (o : Nat) : manyN S o ≤ 9223372036854775807 := by
  have h1 := h.gk
  have h2 := h.pk
  have h3 := h.ek
  have h4 := h.l.cap
  have a1 := h1.room
  have b1 := h1.max
  have a2 := h2.room
  have b2 := h2.max
  have a3 := h3.room
  have b3 := h3.max
  have a4 := h4.room
  have b4 := h4.max
  match o with
  | 0 => show 1 ≤ _; omega
  | 1 => show S.groups.length ≤ _; omega
  | 2 => show S.phases.length ≤ _; omega
  | 3 => show S.eyes.length ≤ _; omega
  | 4 => show S.plans.length ≤ _; omega
  | o + 5 => show 0 ≤ _; omega
theorem call_in {P : Program} {f : FuncId} {fn : Func} {c : Code} (hf : P.funcs[f]? = some fn) (hn : (fn.name == "runtime.NumGoroutine") = false) (hb : fn.body = some c) (args : Array Value) (w : World) : (callFunc f args).run P w = .ok (.enter f args) w := by
  have h1 : fn.name ≠ "runtime.NumGoroutine" := by simpa using hn
  simp [callFunc, hf, h1, hb]
theorem enter_n (k : Nat) (hk : k < 10) (args : Array Value) (w : World) : (callFunc (fnN k) args).run Tryz.prog w = .ok (.enter (fnN k) args) w := by
  have : k = 0 ∨ k = 1 ∨ k = 2 ∨ k = 3 ∨ k = 4 ∨ k = 5 ∨ k = 6 ∨ k = 7 ∨ k = 8 ∨ k = 9 := by omega
  rcases this with rfl | rfl | rfl | rfl | rfl | rfl | rfl | rfl | rfl | rfl
  · exact call_in Tryz.func60 (by kernel_rfl) rfl args w
  · exact call_in Tryz.func61 (by kernel_rfl) rfl args w
  · exact call_in Tryz.func62 (by kernel_rfl) rfl args w
  · exact call_in Tryz.func63 (by kernel_rfl) rfl args w
  · exact call_in Tryz.func64 (by kernel_rfl) rfl args w
  · exact call_in Tryz.func65 (by kernel_rfl) rfl args w
  · exact call_in Tryz.func66 (by kernel_rfl) rfl args w
  · exact call_in Tryz.func67 (by kernel_rfl) rfl args w
  · exact call_in Tryz.func68 (by kernel_rfl) rfl args w
  · exact call_in Tryz.func69 (by kernel_rfl) rfl args w
/-- Check's answer. -/
def checkE (S : St) : Int := if siteB S = true then 0 else 50
set_option maxRecDepth 100000 in
set_option maxHeartbeats 2000000 in
theorem check_any {X : Sa} {S : St} {w : World} (h : Sat w X S) (hT : Tabb w) : Calls Tryz.prog 18 #[siteV X S] w fun e w' => e = .returned (.int .i64 (checkE S)) ∧ Kept w w' none := by
  have hsb := sbox_alloc h 29
  have HML := Hid.mk' (manyN_le h)
  have hl0 := HML.out 1
  have hl1 := HML.out 2
  have hl2 := HML.out 3
  have hl3 := HML.out 4
  have hl0' : S.groups.length ≤ 9223372036854775807 := hl0
  have hl1' : S.phases.length ≤ 9223372036854775807 := hl1
  have hl2' : S.eyes.length ≤ 9223372036854775807 := hl2
  have hl3' : S.plans.length ≤ 9223372036854775807 := hl3
  clear hl0 hl1 hl2 hl3
  have HSB := Hid.mk' hsb
  have HT := Hid.mk' hT
  clear h hT hsb
  go_enter Tryz.func18, Tryz.ntmps18
  go_wp2
  go_step3
  go_wp2
  go_step3
  go_wp2_with (go_at_call 38; refine (conditions_any _).mono ?_; rintro e W0 ⟨g, rfl, hC, hk0⟩)
  have hM0 : Manys (((w.alloc (.cells #[.int .i64 S.id, .slice X.g S.groups.length X.gc, .slice X.a S.apart.length X.ac, .slice X.b S.between.length X.bc, .slice X.p S.phases.length X.pc, .slice X.e S.eyes.length X.ec, .int .i64 S.watch, .int .i64 S.feed, .int .i64 S.heal, .int .i64 S.low, .int .i64 S.high, .slice X.l S.plans.length X.lc] 29)).alloc (.cells #[.int .i64 1, .int .i64 (S.groups.length : Int), .int .i64 (S.phases.length : Int), .int .i64 (S.eyes.length : Int), .int .i64 (S.plans.length : Int)] 77))) (w.heap.size + 1) S := by
    refine ⟨fun o ho => ?_⟩
    have : o = 0 ∨ o = 1 ∨ o = 2 ∨ o = 3 ∨ o = 4 := by omega
    rcases this with rfl | rfl | rfl | rfl | rfl <;> go_simp <;> rfl
  have hM := hM0.kept hk0
  have hS := (HSB.out.kept (Kept.alloc _ #[.int .i64 1, .int .i64 (S.groups.length : Int), .int .i64 (S.phases.length : Int), .int .i64 (S.eyes.length : Int), .int .i64 (S.plans.length : Int)] 77 (0, 0) none)).kept hk0
  have hkw : Kept w W0 none := ((Kept.alloc w _ _ _ _).tr (Kept.alloc _ #[.int .i64 1, .int .i64 (S.groups.length : Int), .int .i64 (S.phases.length : Int), .int .i64 (S.eyes.length : Int), .int .i64 (S.plans.length : Int)] 77 (0, 0) none)).tr hk0
  have HM := Hid.mk' hM
  have HS := Hid.mk' hS
  have HC := Hid.mk' hC
  have HKW := Hid.mk' hkw
  clear hM0 hM hS hC hkw hk0
  go_loopw [4, 23] (fun ev i wr => ∃ k : Nat, k ≤ 10 ∧ i = .int .i64 k ∧ ev = .int .i64 0 ∧ (∀ j, j < k → ∀ i, i < manyN S (ofN j) → condB S j i = true) ∧ Kept W0 wr none) (fun _ i _ => 10 - (intOf i).toNat)
  case atStart => exact ⟨0, by omega, rfl, rfl, fun j hj => by omega, Kept.refl _ _⟩
  case round =>
    obtain ⟨k, hk, rfl, rfl, hpre, hkr⟩ := hrel
    have HPRE := Hid.mk' hpre
    clear hpre
    by_cases hlt : k < 10
    · have ko := (HC.out.kept hkr).of k hlt
      have kf := (HC.out.kept hkr).fn k hlt
      have hog := ofN_lt k hlt
      have km := (HM.out.kept hkr).at_ (ofN k) hog
      have hmm := HML.out (ofN k)
      have hbl := block_lt km
      generalize hq : ofN k = q at *
      have HQ := Hid.mk' hq
      clear hq
      generalize hn : manyN S q = n at *
      have HN := Hid.mk' hn
      clear hn
      have hen := enter_n k hlt
      go_wp2
      have hkA : Kept W0 (wr.alloc (.cells #[.int .u8 (q : Int), .func (.func (fnN k)) #[] #[]] 82)) none := hkr.tr (Kept.alloc _ _ _ _ _)
      have cA := World.cell?_alloc_mark wr #[.int .u8 (q : Int), .func (.func (fnN k)) #[] #[]] 82 (0, 0) 1
      generalize hW1 : wr.alloc (.cells #[.int .u8 (q : Int), .func (.func (fnN k)) #[] #[]] 82) = W1 at *
      have hca : W1.cell? ⟨wr.heap.size, 1, none⟩ = some (.func (.func (fnN k)) #[] #[]) := by rw [cA]; rfl
      clear hW1 cA
      go_loopw [4, 31] (fun ev i w2 => ∃ j : Nat, j ≤ n ∧ i = .int .i64 j ∧ ev = .int .i64 0 ∧ (∀ i, i < j → condB S k i = true) ∧ Kept W1 w2 none) (fun _ i _ => n - (intOf i).toNat)
      case atStart => exact ⟨0, Nat.zero_le _, rfl, rfl, fun i hi => by omega, Kept.refl _ _⟩
      case round =>
        obtain ⟨j, hj, rfl, rfl, hin, hk2⟩ := hrel
        have HIN := Hid.mk' hin
        clear hin
        by_cases hjn : j < n
        · have hcb := cell_kept0 hca hk2
          have hkk := hkA.tr hk2
          have hjm : j < manyN S (ofN k) := by rw [HQ.out, HN.out]; exact hjn
          cases hb : condB S k j with
          | true =>
            go_wp2_with (refine (cond_any (HS.out.kept hkk) (HT.out.kept (HKW.out.tr hkk)) k hlt HPRE.out j hjm).mono ?_; rintro e w3 ⟨rfl, hk3⟩; rw [hb])
            go_roundw
            case rel => exact ⟨j + 1, by omega, by go_num, rfl, fun i hi => (by
              by_cases e : i = j
              · subst e; exact hb
              · exact HIN.out i (by omega)), hk2.tr hk3⟩
            case measure => simp [intOf]; omega
          | false =>
            have HE : Hid (checkE S = 50) := by
              show checkE S = 50
              have : siteB S = false := by rw [siteB_eq]; exact allB_no hlt (allB_no hjm hb)
              unfold checkE; rw [this]; rfl
            go_wp2_with (refine (cond_any (HS.out.kept hkk) (HT.out.kept (HKW.out.tr hkk)) k hlt HPRE.out j hjm).mono ?_; rintro e w3 ⟨rfl, hk3⟩; rw [hb])
            try rw [Exit.noGoto_ret]
            go_ret
            exact ⟨by rw [HE.out]; rfl, (HKW.out.tr hkk).tr hk3⟩
        · have hjj : j = n := by omega
          go_wp2
          go_roundw
          case rel => exact ⟨k + 1, by omega, by go_num, rfl, fun j' hj' => (by
            by_cases e : j' = k
            · subst e
              intro i hi
              rw [HQ.out, HN.out] at hi
              exact HIN.out i (by omega)
            · exact HPRE.out j' (by omega)), hkA.tr hk2⟩
          case measure => simp [intOf]; omega
    · have hkk : k = 10 := by omega
      have HE : Hid (checkE S = 0) := by
        show checkE S = 0
        have : siteB S = true := by rw [siteB_eq]; exact allB_iff.2 (fun j hj => allB_iff.2 (HPRE.out j (by omega)))
        unfold checkE; rw [this]; rfl
      go_wp2
      try rw [Exit.noGoto_ret]
      go_ret
      exact ⟨by rw [HE.out]; rfl, HKW.out.tr hkr⟩

end Go.Proofs.YtchjbagipbmcoaaGreatDoor
