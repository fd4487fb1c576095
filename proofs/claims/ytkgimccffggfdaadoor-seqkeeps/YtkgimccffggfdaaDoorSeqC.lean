/-
  Texts joined: some of those that the proofs of this seat stand on.
-/
import Derived.Test.YtkgimccffggfdaaDoorGateAJ
import Derived.Test.YtkgimccffggfdaaDoorBx2
import Derived.Test.YtkgimccffggfdaaDoorSafeCJ
import Derived.Deep.RegionHeld
/-
  THE CONTRACT of seq.behindFull (made by a program).
-/
namespace Go.Proofs.YtkgimccffggfdaaDoor
open Go.RowKit Go.Lib Go.Deep
set_option linter.unusedVariables false
set_option linter.unusedSimpArgs false


/-- Where it is behind a tick of a phase that is full and may end. -/
def fulA (S : St) (p : Nat) (I : Int) (c : Nat) : Value := if I < (S.ph p).min ∨ othN S c p = 0 then .agg #[.int .i64 (p : Int), .int .i64 I] else .agg #[.int .i64 ((rndV (othN S c p) p : Nat) : Int), .int .i64 0]
theorem fulA_stay {S : St} {p : Nat} {I : Int} {c : Nat} (h : I < (S.ph p).min ∨ othN S c p = 0) : fulA S p I c = .agg #[.int .i64 (p : Int), .int .i64 I] := if_pos h
theorem fulA_go {S : St} {p : Nat} {I : Int} {c : Nat} (h : ¬ (I < (S.ph p).min ∨ othN S c p = 0)) : fulA S p I c = .agg #[.int .i64 ((rndV (othN S c p) p : Nat) : Int), .int .i64 0] := if_neg h
theorem gap_bit {g p : Nat} (hg : g < 4294967296) : bits BinOp.and IntKind.u32 ((g : Int) / 2 ^ p) 1 = if g.testBit p = true then 1 else 0 := by
  have e : (g : Int) / 2 ^ p = ((g / 2 ^ p : Nat) : Int) := by simp
  have h2 : g / 2 ^ p &&& 1 = g / 2 ^ p % 2 := by rw [show (1 : Nat) = 2 ^ 1 - 1 by rfl, Nat.and_two_pow_sub_one_eq_mod]
  rw [e, show (1 : Int) = ((1 : Nat) : Int) by rfl, u32_and_nat _ _ (Nat.lt_of_le_of_lt (Nat.div_le_self _ _) hg) (by omega), h2, Nat.testBit_eq_decide_div_mod_eq]
  by_cases q : g / 2 ^ p % 2 = 1
  · rw [q, if_pos (by simp)]
    first | done | rfl
  · rw [if_neg (by simpa using q)]; omega
set_option maxRecDepth 100000 in
set_option maxHeartbeats 4000000 in
theorem sbeh_1l {w : World} {B : Nat} {X : Sa} {S : St} (h : Sbox w B X S) (hT : Tabb w) (hn : S.phases.length ≤ 8) (p : Nat) (hp : p < S.phases.length) (s : Int) (hs0 : 0 ≤ s) (hs : s < 1048576) (c g : Nat) (hc : c < 4294967296) (hg : g < 4294967296) (hgb : g.testBit p = true) : Calls Tryd.prog 24 #[.pointer (some ⟨B, 0, none⟩), .agg #[.int .i64 (p : Int), .int .i64 (s)], .int .u32 (c : Int), .int .u32 (g : Int)] w fun e w' => e = .returned (fulA S p (s + 1) c) ∧ Kept w w' none := by
  have hgv : bits BinOp.and IntKind.u32 ((g : Int) / 2 ^ p) 1 = 1 := by rw [gap_bit hg, hgb]; rfl
  have hO9 : othN S c p < 4294967296 := othN_lt (by omega) c p
  obtain ⟨pb, po, ep⟩ := h.sat.ppq (show 0 < S.phases.length by omega)
  have k1 : Kept w (w.alloc (.cells #[.int .i64 (p : Int), .int .i64 (s + 1)] 40)) none := Kept.alloc _ _ _ _ _
  have k2 : Kept (w.alloc (.cells #[.int .i64 (p : Int), .int .i64 (s + 1)] 40)) ((w.alloc (.cells #[.int .i64 (p : Int), .int .i64 (s + 1)] 40)).alloc (.cells #[.int .i64 0, .int .i64 0] 40)) none := Kept.alloc _ _ _ _ _
  have b1 := (bx2_alloc w (.int .i64 (p : Int)) (.int .i64 (s + 1)) 40).kept k2
  have b2 := bx2_alloc (w.alloc (.cells #[.int .i64 (p : Int), .int .i64 (s + 1)] 40)) (.int .i64 0) (.int .i64 0) 40
  rw [World.size_alloc] at b2
  have hk := k1.tr k2
  obtain ⟨WB, hWB⟩ : ∃ WB, ((w.alloc (.cells #[.int .i64 (p : Int), .int .i64 (s + 1)] 40)).alloc (.cells #[.int .i64 0, .int .i64 0] 40)) = WB := ⟨_, rfl⟩
  rw [hWB] at b1 b2 hk
  have HWB := Hid.mk' hWB
  have HB := Hid.mk' (h.kept hk)
  have HK := Hid.mk' hk
  have HB1 := Hid.mk' b1
  have HB2 := Hid.mk' b2
  have HT := Hid.mk' (hT.kept hk)
  have HO9 := Hid.mk' hO9
  have hrm := h.sat.pk.room
  have s4_ : ∀ w', Kept WB w' none → w'.cell? ⟨B, 4, none⟩ = some (.slice (some ⟨pb, po, none⟩) S.phases.length X.pc) := fun w' q => by rw [← ep]; exact (HB.out.kept q).c4
  have q0_ : ∀ w', Kept WB w' none → w'.cell? ⟨w.heap.size, 0, none⟩ = some (.int .i64 (p : Int)) := fun w' q => (HB1.out.kept q).c0
  have q1_ : ∀ w', Kept WB w' none → w'.cell? ⟨w.heap.size, 1, none⟩ = some (.int .i64 (s + 1)) := fun w' q => (HB1.out.kept q).c1
  have r0_ : ∀ w', Kept WB w' none → w'.cell? ⟨pb, po + p * 5, none⟩ = some (.int .u32 ((S.ph p).groups : Int)) := fun w' q => ((HB.out.kept q).sat.phq ep hp).2.1
  have r1_ : ∀ w', Kept WB w' none → w'.cell? ⟨pb, po + p * 5 + 1, none⟩ = some (.int .i64 (S.ph p).min) := fun w' q => ((HB.out.kept q).sat.phq ep hp).2.2.1
  have r2_ : ∀ w', Kept WB w' none → w'.cell? ⟨pb, po + p * 5 + 2, none⟩ = some (.int .i64 (S.ph p).max) := fun w' q => ((HB.out.kept q).sat.phq ep hp).2.2.2.1
  have r3_ : ∀ w', Kept WB w' none → w'.cell? ⟨pb, po + p * 5 + 3, none⟩ = some (.int .i64 (S.ph p).gap) := fun w' q => ((HB.out.kept q).sat.phq ep hp).2.2.2.2.1
  have r4_ : ∀ w', Kept WB w' none → w'.cell? ⟨pb, po + p * 5 + 4, none⟩ = some (.bool (S.ph p).always) := fun w' q => ((HB.out.kept q).sat.phq ep hp).2.2.2.2.2
  have hand : bits BinOp.andNot IntKind.u32 ((clsN S c S.phases.length : Nat) : Int) (IntKind.u32.wrap (2 ^ p)) = ((othN S c p : Nat) : Int) := by
    have : bits BinOp.andNot IntKind.u32 ((clsN S c S.phases.length : Nat) : Int) ((2 : Int) ^ p % 4294967296) = ((othN S c p : Nat) : Int) := by
      rw [pow_int (by omega), u32_andNot_nat _ _ (clsN_lt (by omega) c _ (Nat.le_refl _)) (pow_lt32 (by omega))]
      rfl
    exact this
  have hK0 := Kept.refl WB none
  have hp0 : 0 < S.phases.length := by omega
  have HA1 : Hid ((s + 1 < (S.ph p).min ∨ othN S c p = 0) → fulA S p (s + 1) c = .agg #[.int .i64 (p : Int), .int .i64 (s + 1)]) := fulA_stay
  have HA2 : Hid (¬ (s + 1 < (S.ph p).min ∨ othN S c p = 0) → fulA S p (s + 1) c = .agg #[.int .i64 ((rndV (othN S c p) p : Nat) : Int), .int .i64 0]) := fulA_go
  clear h hT ep k1 k2 b1 b2 hk hgb hO9 hWB
  generalize S.ph p = P at *
  go_enter Tryd.func24, Tryd.ntmps24
  go_wp2
  rw [HWB.out]
  go_region_held (fun w' => Kept WB w' none)
    ((first | exact hK0 | exact Kept.tr hK0 (Kept.drew _ _) | assumption | exact Kept.tr (by assumption) (Kept.drew _ _)))
    ((first
      | (go_at_call 39; refine (scal_any (HB.out.kept (Kept.tr hK0 (Kept.drew _ _))) hn hp0 c hc).mono ?_; rintro e wC ⟨rfl, hkC⟩; have hKC : Kept WB wC none := Kept.tr (Kept.drew _ _) hkC)))
  clear hkC hand
  go_wp2
  go_region_held (fun w' => Kept WB w' none)
    ((first | exact hKC | exact Kept.tr hKC (Kept.drew _ _) | exact Kept.tr (Kept.tr hKC (Kept.alloc _ _ _ _ _)) (Kept.drew _ _) | assumption))
    (fail)
  have k3 : Kept wC (wC.alloc (.cells #[.int .u32 (P.groups : Int), .int .i64 P.min, .int .i64 P.max, .int .i64 P.gap, .bool P.always] 64)).drew none := (Kept.alloc _ _ _ _ _).tr (Kept.drew _ _)
  have x1 : (wC.alloc (.cells #[.int .u32 (P.groups : Int), .int .i64 P.min, .int .i64 P.max, .int .i64 P.gap, .bool P.always] 64)).drew.cell? ⟨wC.heap.size, 1, none⟩ = some (.int .i64 P.min) := by simp [World.cell?_alloc_mark]
  have x2 : (wC.alloc (.cells #[.int .u32 (P.groups : Int), .int .i64 P.min, .int .i64 P.max, .int .i64 P.gap, .bool P.always] 64)).drew.cell? ⟨wC.heap.size, 2, none⟩ = some (.int .i64 P.max) := by simp [World.cell?_alloc_mark]
  obtain ⟨W3, hW3⟩ : ∃ W3, (wC.alloc (.cells #[.int .u32 (P.groups : Int), .int .i64 P.min, .int .i64 P.max, .int .i64 P.gap, .bool P.always] 64)).drew = W3 := ⟨_, rfl⟩
  rw [hW3] at k3 x1 x2 ⊢
  have HK3 := Hid.mk' (hKC.tr k3)
  have HT3 := Hid.mk' (HT.out.kept HK3.out)
  have y0 := q0_ W3 HK3.out
  have y1 := q1_ W3 HK3.out
  have z0 := (HB2.out.kept HK3.out).c0
  have z1 := (HB2.out.kept HK3.out).c1
  have u0 := (HB2.out.kept HK3.out).f0
  have u1 := (HB2.out.kept HK3.out).f1
  clear hW3 k3 hKC s4_ q0_ q1_ r0_ r1_ r2_ r3_ r4_ hK0
  try clear hHeld
  by_cases h1 : s + 1 < P.min
  · have HC := Hid.mk' (HA1.out (Or.inl h1))
    go_wp2
    refine bodyPost_ret (v := .agg #[.int .i64 (p : Int), .int .i64 (s + 1)]) (by simp [results, Tryd.results24, go_sem, z0, z1]) rfl ⟨by rw [HC.out], ?_⟩
    exact ((HK.out.tr HK3.out).setNew (p := ⟨w.heap.size + 1, 0, none⟩) (Nat.le_succ _) _).setNew (p := ⟨w.heap.size + 1, 1, none⟩) (Nat.le_succ _) _
  · have hb4 : (((othN S c p : Nat) : Int) == 0) = decide (othN S c p = 0) := by rw [Bool.eq_iff_iff]; simp
    by_cases h4 : othN S c p = 0
    · have HC := Hid.mk' (HA1.out (Or.inr h4))
      rw [decide_eq_true h4] at hb4
      clear h4
      go_wp2
      refine bodyPost_ret (v := .agg #[.int .i64 (p : Int), .int .i64 (s + 1)]) (by simp [results, Tryd.results24, go_sem, z0, z1]) rfl ⟨by rw [HC.out], ?_⟩
      exact ((HK.out.tr HK3.out).setNew (p := ⟨w.heap.size + 1, 0, none⟩) (Nat.le_succ _) _).setNew (p := ⟨w.heap.size + 1, 1, none⟩) (Nat.le_succ _) _
    · have HC := Hid.mk' (HA2.out (by rintro (e | e); exact h1 e; exact h4 e))
      rw [decide_eq_false h4] at hb4
      have h4 : 0 < othN S c p := Nat.pos_of_ne_zero h4
      go_wp2_with (go_at_call 40; refine (sfst_any (othN S c p) p _ HO9.out h4 (by omega) HT3.out).mono ?_; rintro e w4 ⟨rfl, hw4⟩; have hw4 := hw4.symm; subst hw4)
      refine bodyPost_ret (v := .agg #[.int .i64 ((rndV (othN S c p) p : Nat) : Int), .int .i64 0]) (by simp [results, Tryd.results24, go_sem, z0, z1]) rfl ⟨by rw [HC.out], ?_⟩
      exact ((HK.out.tr HK3.out).setNew (p := ⟨w.heap.size + 1, 0, none⟩) (Nat.le_succ _) _).setNew (p := ⟨w.heap.size + 1, 1, none⟩) (Nat.le_succ _) _
set_option maxRecDepth 100000 in
set_option maxHeartbeats 4000000 in
theorem sbeh_2l {w : World} {B : Nat} {X : Sa} {S : St} (h : Sbox w B X S) (hT : Tabb w) (hn : S.phases.length ≤ 8) (p : Nat) (hp : p < S.phases.length) (s : Int) (hs0 : 0 ≤ s) (hs : s < 1048576) (c g : Nat) (hc : c < 4294967296) (hg : g < 4294967296) (hgb : g.testBit p = false) (hmx : (S.ph p).max ≤ s + 1) : Calls Tryd.prog 24 #[.pointer (some ⟨B, 0, none⟩), .agg #[.int .i64 (p : Int), .int .i64 (s)], .int .u32 (c : Int), .int .u32 (g : Int)] w fun e w' => e = .returned (fulA S p (s + 1) c) ∧ Kept w w' none := by
  have hgv : bits BinOp.and IntKind.u32 ((g : Int) / 2 ^ p) 1 = 0 := by rw [gap_bit hg, hgb]; rfl
  have hO9 : othN S c p < 4294967296 := othN_lt (by omega) c p
  obtain ⟨pb, po, ep⟩ := h.sat.ppq (show 0 < S.phases.length by omega)
  have k1 : Kept w (w.alloc (.cells #[.int .i64 (p : Int), .int .i64 (s + 1)] 40)) none := Kept.alloc _ _ _ _ _
  have k2 : Kept (w.alloc (.cells #[.int .i64 (p : Int), .int .i64 (s + 1)] 40)) ((w.alloc (.cells #[.int .i64 (p : Int), .int .i64 (s + 1)] 40)).alloc (.cells #[.int .i64 0, .int .i64 0] 40)) none := Kept.alloc _ _ _ _ _
  have b1 := (bx2_alloc w (.int .i64 (p : Int)) (.int .i64 (s + 1)) 40).kept k2
  have b2 := bx2_alloc (w.alloc (.cells #[.int .i64 (p : Int), .int .i64 (s + 1)] 40)) (.int .i64 0) (.int .i64 0) 40
  rw [World.size_alloc] at b2
  have hk := k1.tr k2
  obtain ⟨WB, hWB⟩ : ∃ WB, ((w.alloc (.cells #[.int .i64 (p : Int), .int .i64 (s + 1)] 40)).alloc (.cells #[.int .i64 0, .int .i64 0] 40)) = WB := ⟨_, rfl⟩
  rw [hWB] at b1 b2 hk
  have HWB := Hid.mk' hWB
  have HB := Hid.mk' (h.kept hk)
  have HK := Hid.mk' hk
  have HB1 := Hid.mk' b1
  have HB2 := Hid.mk' b2
  have HT := Hid.mk' (hT.kept hk)
  have HO9 := Hid.mk' hO9
  have hrm := h.sat.pk.room
  have s4_ : ∀ w', Kept WB w' none → w'.cell? ⟨B, 4, none⟩ = some (.slice (some ⟨pb, po, none⟩) S.phases.length X.pc) := fun w' q => by rw [← ep]; exact (HB.out.kept q).c4
  have q0_ : ∀ w', Kept WB w' none → w'.cell? ⟨w.heap.size, 0, none⟩ = some (.int .i64 (p : Int)) := fun w' q => (HB1.out.kept q).c0
  have q1_ : ∀ w', Kept WB w' none → w'.cell? ⟨w.heap.size, 1, none⟩ = some (.int .i64 (s + 1)) := fun w' q => (HB1.out.kept q).c1
  have r0_ : ∀ w', Kept WB w' none → w'.cell? ⟨pb, po + p * 5, none⟩ = some (.int .u32 ((S.ph p).groups : Int)) := fun w' q => ((HB.out.kept q).sat.phq ep hp).2.1
  have r1_ : ∀ w', Kept WB w' none → w'.cell? ⟨pb, po + p * 5 + 1, none⟩ = some (.int .i64 (S.ph p).min) := fun w' q => ((HB.out.kept q).sat.phq ep hp).2.2.1
  have r2_ : ∀ w', Kept WB w' none → w'.cell? ⟨pb, po + p * 5 + 2, none⟩ = some (.int .i64 (S.ph p).max) := fun w' q => ((HB.out.kept q).sat.phq ep hp).2.2.2.1
  have r3_ : ∀ w', Kept WB w' none → w'.cell? ⟨pb, po + p * 5 + 3, none⟩ = some (.int .i64 (S.ph p).gap) := fun w' q => ((HB.out.kept q).sat.phq ep hp).2.2.2.2.1
  have r4_ : ∀ w', Kept WB w' none → w'.cell? ⟨pb, po + p * 5 + 4, none⟩ = some (.bool (S.ph p).always) := fun w' q => ((HB.out.kept q).sat.phq ep hp).2.2.2.2.2
  have hand : bits BinOp.andNot IntKind.u32 ((clsN S c S.phases.length : Nat) : Int) (IntKind.u32.wrap (2 ^ p)) = ((othN S c p : Nat) : Int) := by
    have : bits BinOp.andNot IntKind.u32 ((clsN S c S.phases.length : Nat) : Int) ((2 : Int) ^ p % 4294967296) = ((othN S c p : Nat) : Int) := by
      rw [pow_int (by omega), u32_andNot_nat _ _ (clsN_lt (by omega) c _ (Nat.le_refl _)) (pow_lt32 (by omega))]
      rfl
    exact this
  have hK0 := Kept.refl WB none
  have hp0 : 0 < S.phases.length := by omega
  have HA1 : Hid ((s + 1 < (S.ph p).min ∨ othN S c p = 0) → fulA S p (s + 1) c = .agg #[.int .i64 (p : Int), .int .i64 (s + 1)]) := fulA_stay
  have HA2 : Hid (¬ (s + 1 < (S.ph p).min ∨ othN S c p = 0) → fulA S p (s + 1) c = .agg #[.int .i64 ((rndV (othN S c p) p : Nat) : Int), .int .i64 0]) := fulA_go
  clear h hT ep k1 k2 b1 b2 hk hgb hO9 hWB
  generalize S.ph p = P at *
  go_enter Tryd.func24, Tryd.ntmps24
  go_wp2
  rw [HWB.out]
  go_region_held (fun w' => Kept WB w' none)
    ((first | exact hK0 | exact Kept.tr hK0 (Kept.drew _ _) | assumption | exact Kept.tr (by assumption) (Kept.drew _ _)))
    ((first
      | (go_at_call 39; refine (scal_any (HB.out.kept (Kept.tr hK0 (Kept.drew _ _))) hn hp0 c hc).mono ?_; rintro e wC ⟨rfl, hkC⟩; have hKC : Kept WB wC none := Kept.tr (Kept.drew _ _) hkC)))
  clear hkC hand
  go_wp2
  go_region_held (fun w' => Kept WB w' none)
    ((first | exact hKC | exact Kept.tr hKC (Kept.drew _ _) | exact Kept.tr (Kept.tr hKC (Kept.alloc _ _ _ _ _)) (Kept.drew _ _) | assumption))
    (fail)
  have k3 : Kept wC (wC.alloc (.cells #[.int .u32 (P.groups : Int), .int .i64 P.min, .int .i64 P.max, .int .i64 P.gap, .bool P.always] 64)).drew none := (Kept.alloc _ _ _ _ _).tr (Kept.drew _ _)
  have x1 : (wC.alloc (.cells #[.int .u32 (P.groups : Int), .int .i64 P.min, .int .i64 P.max, .int .i64 P.gap, .bool P.always] 64)).drew.cell? ⟨wC.heap.size, 1, none⟩ = some (.int .i64 P.min) := by simp [World.cell?_alloc_mark]
  have x2 : (wC.alloc (.cells #[.int .u32 (P.groups : Int), .int .i64 P.min, .int .i64 P.max, .int .i64 P.gap, .bool P.always] 64)).drew.cell? ⟨wC.heap.size, 2, none⟩ = some (.int .i64 P.max) := by simp [World.cell?_alloc_mark]
  obtain ⟨W3, hW3⟩ : ∃ W3, (wC.alloc (.cells #[.int .u32 (P.groups : Int), .int .i64 P.min, .int .i64 P.max, .int .i64 P.gap, .bool P.always] 64)).drew = W3 := ⟨_, rfl⟩
  rw [hW3] at k3 x1 x2 ⊢
  have HK3 := Hid.mk' (hKC.tr k3)
  have HT3 := Hid.mk' (HT.out.kept HK3.out)
  have y0 := q0_ W3 HK3.out
  have y1 := q1_ W3 HK3.out
  have z0 := (HB2.out.kept HK3.out).c0
  have z1 := (HB2.out.kept HK3.out).c1
  have u0 := (HB2.out.kept HK3.out).f0
  have u1 := (HB2.out.kept HK3.out).f1
  clear hW3 k3 hKC s4_ q0_ q1_ r0_ r1_ r2_ r3_ r4_ hK0
  try clear hHeld
  by_cases h1 : s + 1 < P.min
  · have HC := Hid.mk' (HA1.out (Or.inl h1))
    go_wp2
    refine bodyPost_ret (v := .agg #[.int .i64 (p : Int), .int .i64 (s + 1)]) (by simp [results, Tryd.results24, go_sem, z0, z1]) rfl ⟨by rw [HC.out], ?_⟩
    exact ((HK.out.tr HK3.out).setNew (p := ⟨w.heap.size + 1, 0, none⟩) (Nat.le_succ _) _).setNew (p := ⟨w.heap.size + 1, 1, none⟩) (Nat.le_succ _) _
  · have hb4 : (((othN S c p : Nat) : Int) == 0) = decide (othN S c p = 0) := by rw [Bool.eq_iff_iff]; simp
    by_cases h4 : othN S c p = 0
    · have HC := Hid.mk' (HA1.out (Or.inr h4))
      rw [decide_eq_true h4] at hb4
      clear h4
      go_wp2
      refine bodyPost_ret (v := .agg #[.int .i64 (p : Int), .int .i64 (s + 1)]) (by simp [results, Tryd.results24, go_sem, z0, z1]) rfl ⟨by rw [HC.out], ?_⟩
      exact ((HK.out.tr HK3.out).setNew (p := ⟨w.heap.size + 1, 0, none⟩) (Nat.le_succ _) _).setNew (p := ⟨w.heap.size + 1, 1, none⟩) (Nat.le_succ _) _
    · have HC := Hid.mk' (HA2.out (by rintro (e | e); exact h1 e; exact h4 e))
      rw [decide_eq_false h4] at hb4
      have h4 : 0 < othN S c p := Nat.pos_of_ne_zero h4
      go_wp2_with (go_at_call 40; refine (sfst_any (othN S c p) p _ HO9.out h4 (by omega) HT3.out).mono ?_; rintro e w4 ⟨rfl, hw4⟩; have hw4 := hw4.symm; subst hw4)
      refine bodyPost_ret (v := .agg #[.int .i64 ((rndV (othN S c p) p : Nat) : Int), .int .i64 0]) (by simp [results, Tryd.results24, go_sem, z0, z1]) rfl ⟨by rw [HC.out], ?_⟩
      exact ((HK.out.tr HK3.out).setNew (p := ⟨w.heap.size + 1, 0, none⟩) (Nat.le_succ _) _).setNew (p := ⟨w.heap.size + 1, 1, none⟩) (Nat.le_succ _) _
set_option maxRecDepth 100000 in
set_option maxHeartbeats 4000000 in
theorem sbeh_3l {w : World} {B : Nat} {X : Sa} {S : St} (h : Sbox w B X S) (hT : Tabb w) (hn : S.phases.length ≤ 8) (p : Nat) (hp : p < S.phases.length) (s : Int) (hs0 : 0 ≤ s) (hs : s < 1048576) (c g : Nat) (hc : c < 4294967296) (hg : g < 4294967296) (hgb : g.testBit p = false) (hmx : ¬ (S.ph p).max ≤ s + 1) : Calls Tryd.prog 24 #[.pointer (some ⟨B, 0, none⟩), .agg #[.int .i64 (p : Int), .int .i64 (s)], .int .u32 (c : Int), .int .u32 (g : Int)] w fun e w' => e = .returned (Value.agg #[.int .i64 (p : Int), .int .i64 (s + 1)]) ∧ Kept w w' none := by
  have hgv : bits BinOp.and IntKind.u32 ((g : Int) / 2 ^ p) 1 = 0 := by rw [gap_bit hg, hgb]; rfl
  have hO9 : othN S c p < 4294967296 := othN_lt (by omega) c p
  obtain ⟨pb, po, ep⟩ := h.sat.ppq (show 0 < S.phases.length by omega)
  have k1 : Kept w (w.alloc (.cells #[.int .i64 (p : Int), .int .i64 (s + 1)] 40)) none := Kept.alloc _ _ _ _ _
  have k2 : Kept (w.alloc (.cells #[.int .i64 (p : Int), .int .i64 (s + 1)] 40)) ((w.alloc (.cells #[.int .i64 (p : Int), .int .i64 (s + 1)] 40)).alloc (.cells #[.int .i64 0, .int .i64 0] 40)) none := Kept.alloc _ _ _ _ _
  have b1 := (bx2_alloc w (.int .i64 (p : Int)) (.int .i64 (s + 1)) 40).kept k2
  have b2 := bx2_alloc (w.alloc (.cells #[.int .i64 (p : Int), .int .i64 (s + 1)] 40)) (.int .i64 0) (.int .i64 0) 40
  rw [World.size_alloc] at b2
  have hk := k1.tr k2
  obtain ⟨WB, hWB⟩ : ∃ WB, ((w.alloc (.cells #[.int .i64 (p : Int), .int .i64 (s + 1)] 40)).alloc (.cells #[.int .i64 0, .int .i64 0] 40)) = WB := ⟨_, rfl⟩
  rw [hWB] at b1 b2 hk
  have HWB := Hid.mk' hWB
  have HB := Hid.mk' (h.kept hk)
  have HK := Hid.mk' hk
  have HB1 := Hid.mk' b1
  have HB2 := Hid.mk' b2
  have HT := Hid.mk' (hT.kept hk)
  have HO9 := Hid.mk' hO9
  have hrm := h.sat.pk.room
  have s4_ : ∀ w', Kept WB w' none → w'.cell? ⟨B, 4, none⟩ = some (.slice (some ⟨pb, po, none⟩) S.phases.length X.pc) := fun w' q => by rw [← ep]; exact (HB.out.kept q).c4
  have q0_ : ∀ w', Kept WB w' none → w'.cell? ⟨w.heap.size, 0, none⟩ = some (.int .i64 (p : Int)) := fun w' q => (HB1.out.kept q).c0
  have q1_ : ∀ w', Kept WB w' none → w'.cell? ⟨w.heap.size, 1, none⟩ = some (.int .i64 (s + 1)) := fun w' q => (HB1.out.kept q).c1
  have r0_ : ∀ w', Kept WB w' none → w'.cell? ⟨pb, po + p * 5, none⟩ = some (.int .u32 ((S.ph p).groups : Int)) := fun w' q => ((HB.out.kept q).sat.phq ep hp).2.1
  have r1_ : ∀ w', Kept WB w' none → w'.cell? ⟨pb, po + p * 5 + 1, none⟩ = some (.int .i64 (S.ph p).min) := fun w' q => ((HB.out.kept q).sat.phq ep hp).2.2.1
  have r2_ : ∀ w', Kept WB w' none → w'.cell? ⟨pb, po + p * 5 + 2, none⟩ = some (.int .i64 (S.ph p).max) := fun w' q => ((HB.out.kept q).sat.phq ep hp).2.2.2.1
  have r3_ : ∀ w', Kept WB w' none → w'.cell? ⟨pb, po + p * 5 + 3, none⟩ = some (.int .i64 (S.ph p).gap) := fun w' q => ((HB.out.kept q).sat.phq ep hp).2.2.2.2.1
  have r4_ : ∀ w', Kept WB w' none → w'.cell? ⟨pb, po + p * 5 + 4, none⟩ = some (.bool (S.ph p).always) := fun w' q => ((HB.out.kept q).sat.phq ep hp).2.2.2.2.2
  have hand : bits BinOp.andNot IntKind.u32 ((clsN S c S.phases.length : Nat) : Int) (IntKind.u32.wrap (2 ^ p)) = ((othN S c p : Nat) : Int) := by
    have : bits BinOp.andNot IntKind.u32 ((clsN S c S.phases.length : Nat) : Int) ((2 : Int) ^ p % 4294967296) = ((othN S c p : Nat) : Int) := by
      rw [pow_int (by omega), u32_andNot_nat _ _ (clsN_lt (by omega) c _ (Nat.le_refl _)) (pow_lt32 (by omega))]
      rfl
    exact this
  have hK0 := Kept.refl WB none
  have hp0 : 0 < S.phases.length := by omega
  clear h hT ep k1 k2 b1 b2 hk hgb hO9 hWB
  generalize S.ph p = P at *
  go_enter Tryd.func24, Tryd.ntmps24
  go_wp2
  rw [HWB.out]
  go_region_held (fun w' => Kept WB w' none)
    ((first | exact hK0 | exact Kept.tr hK0 (Kept.drew _ _) | assumption | exact Kept.tr (by assumption) (Kept.drew _ _)))
    ((first
      | (go_at_call 39; refine (scal_any (HB.out.kept (Kept.tr hK0 (Kept.drew _ _))) hn hp0 c hc).mono ?_; rintro e wC ⟨rfl, hkC⟩; have hKC : Kept WB wC none := Kept.tr (Kept.drew _ _) hkC)))
  clear hkC hand
  go_wp2
  go_region_held (fun w' => Kept WB w' none)
    ((first | exact hKC | exact Kept.tr hKC (Kept.drew _ _) | exact Kept.tr (Kept.tr hKC (Kept.alloc _ _ _ _ _)) (Kept.drew _ _) | assumption))
    (fail)
  have k3 : Kept wC (wC.alloc (.cells #[.int .u32 (P.groups : Int), .int .i64 P.min, .int .i64 P.max, .int .i64 P.gap, .bool P.always] 64)).drew none := (Kept.alloc _ _ _ _ _).tr (Kept.drew _ _)
  have x1 : (wC.alloc (.cells #[.int .u32 (P.groups : Int), .int .i64 P.min, .int .i64 P.max, .int .i64 P.gap, .bool P.always] 64)).drew.cell? ⟨wC.heap.size, 1, none⟩ = some (.int .i64 P.min) := by simp [World.cell?_alloc_mark]
  have x2 : (wC.alloc (.cells #[.int .u32 (P.groups : Int), .int .i64 P.min, .int .i64 P.max, .int .i64 P.gap, .bool P.always] 64)).drew.cell? ⟨wC.heap.size, 2, none⟩ = some (.int .i64 P.max) := by simp [World.cell?_alloc_mark]
  obtain ⟨W3, hW3⟩ : ∃ W3, (wC.alloc (.cells #[.int .u32 (P.groups : Int), .int .i64 P.min, .int .i64 P.max, .int .i64 P.gap, .bool P.always] 64)).drew = W3 := ⟨_, rfl⟩
  rw [hW3] at k3 x1 x2 ⊢
  have HK3 := Hid.mk' (hKC.tr k3)
  have HT3 := Hid.mk' (HT.out.kept HK3.out)
  have y0 := q0_ W3 HK3.out
  have y1 := q1_ W3 HK3.out
  have z0 := (HB2.out.kept HK3.out).c0
  have z1 := (HB2.out.kept HK3.out).c1
  have u0 := (HB2.out.kept HK3.out).f0
  have u1 := (HB2.out.kept HK3.out).f1
  clear hW3 k3 hKC s4_ q0_ q1_ r0_ r1_ r2_ r3_ r4_ hK0
  try clear hHeld
  have hmb : decide (P.max ≤ s + 1) = false := decide_eq_false (by omega)
  by_cases h1 : s + 1 < P.min
  · clear hmx
    go_wp2
    refine bodyPost_ret (v := .agg #[.int .i64 (p : Int), .int .i64 (s + 1)]) (by simp [results, Tryd.results24, go_sem, z0, z1]) rfl ⟨rfl, ?_⟩
    exact ((HK.out.tr HK3.out).setNew (p := ⟨w.heap.size + 1, 0, none⟩) (Nat.le_succ _) _).setNew (p := ⟨w.heap.size + 1, 1, none⟩) (Nat.le_succ _) _
  · have hb4 : (((othN S c p : Nat) : Int) == 0) = decide (othN S c p = 0) := by rw [Bool.eq_iff_iff]; simp
    by_cases h4 : othN S c p = 0
    · rw [decide_eq_true h4] at hb4
      clear h4
      go_wp2
      refine bodyPost_ret (v := .agg #[.int .i64 (p : Int), .int .i64 (s + 1)]) (by simp [results, Tryd.results24, go_sem, z0, z1]) rfl ⟨rfl, ?_⟩
      exact ((HK.out.tr HK3.out).setNew (p := ⟨w.heap.size + 1, 0, none⟩) (Nat.le_succ _) _).setNew (p := ⟨w.heap.size + 1, 1, none⟩) (Nat.le_succ _) _
    · rw [decide_eq_false h4] at hb4
      clear h4
      go_wp2
      refine bodyPost_ret (v := .agg #[.int .i64 (p : Int), .int .i64 (s + 1)]) (by simp [results, Tryd.results24, go_sem, z0, z1]) rfl ⟨rfl, ?_⟩
      exact ((HK.out.tr HK3.out).setNew (p := ⟨w.heap.size + 1, 0, none⟩) (Nat.le_succ _) _).setNew (p := ⟨w.heap.size + 1, 1, none⟩) (Nat.le_succ _) _
set_option maxRecDepth 100000 in
set_option maxHeartbeats 4000000 in
theorem sbeh_1h {w : World} {B : Nat} {X : Sa} {S : St} (h : Sbox w B X S) (hT : Tabb w) (hn : S.phases.length ≤ 8) (p : Nat) (hp : p < S.phases.length) (c g : Nat) (hc : c < 4294967296) (hg : g < 4294967296) (hgb : g.testBit p = true) : Calls Tryd.prog 24 #[.pointer (some ⟨B, 0, none⟩), .agg #[.int .i64 (p : Int), .int .i64 (1048576)], .int .u32 (c : Int), .int .u32 (g : Int)] w fun e w' => e = .returned (fulA S p (1048576) c) ∧ Kept w w' none := by
  have hgv : bits BinOp.and IntKind.u32 ((g : Int) / 2 ^ p) 1 = 1 := by rw [gap_bit hg, hgb]; rfl
  have hO9 : othN S c p < 4294967296 := othN_lt (by omega) c p
  obtain ⟨pb, po, ep⟩ := h.sat.ppq (show 0 < S.phases.length by omega)
  have k1 : Kept w (w.alloc (.cells #[.int .i64 (p : Int), .int .i64 (1048576)] 40)) none := Kept.alloc _ _ _ _ _
  have k2 : Kept (w.alloc (.cells #[.int .i64 (p : Int), .int .i64 (1048576)] 40)) ((w.alloc (.cells #[.int .i64 (p : Int), .int .i64 (1048576)] 40)).alloc (.cells #[.int .i64 0, .int .i64 0] 40)) none := Kept.alloc _ _ _ _ _
  have b1 := (bx2_alloc w (.int .i64 (p : Int)) (.int .i64 (1048576)) 40).kept k2
  have b2 := bx2_alloc (w.alloc (.cells #[.int .i64 (p : Int), .int .i64 (1048576)] 40)) (.int .i64 0) (.int .i64 0) 40
  rw [World.size_alloc] at b2
  have hk := k1.tr k2
  obtain ⟨WB, hWB⟩ : ∃ WB, ((w.alloc (.cells #[.int .i64 (p : Int), .int .i64 (1048576)] 40)).alloc (.cells #[.int .i64 0, .int .i64 0] 40)) = WB := ⟨_, rfl⟩
  rw [hWB] at b1 b2 hk
  have HWB := Hid.mk' hWB
  have HB := Hid.mk' (h.kept hk)
  have HK := Hid.mk' hk
  have HB1 := Hid.mk' b1
  have HB2 := Hid.mk' b2
  have HT := Hid.mk' (hT.kept hk)
  have HO9 := Hid.mk' hO9
  have hrm := h.sat.pk.room
  have s4_ : ∀ w', Kept WB w' none → w'.cell? ⟨B, 4, none⟩ = some (.slice (some ⟨pb, po, none⟩) S.phases.length X.pc) := fun w' q => by rw [← ep]; exact (HB.out.kept q).c4
  have q0_ : ∀ w', Kept WB w' none → w'.cell? ⟨w.heap.size, 0, none⟩ = some (.int .i64 (p : Int)) := fun w' q => (HB1.out.kept q).c0
  have q1_ : ∀ w', Kept WB w' none → w'.cell? ⟨w.heap.size, 1, none⟩ = some (.int .i64 (1048576)) := fun w' q => (HB1.out.kept q).c1
  have r0_ : ∀ w', Kept WB w' none → w'.cell? ⟨pb, po + p * 5, none⟩ = some (.int .u32 ((S.ph p).groups : Int)) := fun w' q => ((HB.out.kept q).sat.phq ep hp).2.1
  have r1_ : ∀ w', Kept WB w' none → w'.cell? ⟨pb, po + p * 5 + 1, none⟩ = some (.int .i64 (S.ph p).min) := fun w' q => ((HB.out.kept q).sat.phq ep hp).2.2.1
  have r2_ : ∀ w', Kept WB w' none → w'.cell? ⟨pb, po + p * 5 + 2, none⟩ = some (.int .i64 (S.ph p).max) := fun w' q => ((HB.out.kept q).sat.phq ep hp).2.2.2.1
  have r3_ : ∀ w', Kept WB w' none → w'.cell? ⟨pb, po + p * 5 + 3, none⟩ = some (.int .i64 (S.ph p).gap) := fun w' q => ((HB.out.kept q).sat.phq ep hp).2.2.2.2.1
  have r4_ : ∀ w', Kept WB w' none → w'.cell? ⟨pb, po + p * 5 + 4, none⟩ = some (.bool (S.ph p).always) := fun w' q => ((HB.out.kept q).sat.phq ep hp).2.2.2.2.2
  have hand : bits BinOp.andNot IntKind.u32 ((clsN S c S.phases.length : Nat) : Int) (IntKind.u32.wrap (2 ^ p)) = ((othN S c p : Nat) : Int) := by
    have : bits BinOp.andNot IntKind.u32 ((clsN S c S.phases.length : Nat) : Int) ((2 : Int) ^ p % 4294967296) = ((othN S c p : Nat) : Int) := by
      rw [pow_int (by omega), u32_andNot_nat _ _ (clsN_lt (by omega) c _ (Nat.le_refl _)) (pow_lt32 (by omega))]
      rfl
    exact this
  have hK0 := Kept.refl WB none
  have hp0 : 0 < S.phases.length := by omega
  have HA1 : Hid ((1048576 < (S.ph p).min ∨ othN S c p = 0) → fulA S p (1048576) c = .agg #[.int .i64 (p : Int), .int .i64 (1048576)]) := fulA_stay
  have HA2 : Hid (¬ (1048576 < (S.ph p).min ∨ othN S c p = 0) → fulA S p (1048576) c = .agg #[.int .i64 ((rndV (othN S c p) p : Nat) : Int), .int .i64 0]) := fulA_go
  clear h hT ep k1 k2 b1 b2 hk hgb hO9 hWB
  generalize S.ph p = P at *
  go_enter Tryd.func24, Tryd.ntmps24
  go_wp2
  rw [HWB.out]
  go_region_held (fun w' => Kept WB w' none)
    ((first | exact hK0 | exact Kept.tr hK0 (Kept.drew _ _) | assumption | exact Kept.tr (by assumption) (Kept.drew _ _)))
    ((first
      | (go_at_call 39; refine (scal_any (HB.out.kept (Kept.tr hK0 (Kept.drew _ _))) hn hp0 c hc).mono ?_; rintro e wC ⟨rfl, hkC⟩; have hKC : Kept WB wC none := Kept.tr (Kept.drew _ _) hkC)))
  clear hkC hand
  go_wp2
  go_region_held (fun w' => Kept WB w' none)
    ((first | exact hKC | exact Kept.tr hKC (Kept.drew _ _) | exact Kept.tr (Kept.tr hKC (Kept.alloc _ _ _ _ _)) (Kept.drew _ _) | assumption))
    (fail)
  have k3 : Kept wC (wC.alloc (.cells #[.int .u32 (P.groups : Int), .int .i64 P.min, .int .i64 P.max, .int .i64 P.gap, .bool P.always] 64)).drew none := (Kept.alloc _ _ _ _ _).tr (Kept.drew _ _)
  have x1 : (wC.alloc (.cells #[.int .u32 (P.groups : Int), .int .i64 P.min, .int .i64 P.max, .int .i64 P.gap, .bool P.always] 64)).drew.cell? ⟨wC.heap.size, 1, none⟩ = some (.int .i64 P.min) := by simp [World.cell?_alloc_mark]
  have x2 : (wC.alloc (.cells #[.int .u32 (P.groups : Int), .int .i64 P.min, .int .i64 P.max, .int .i64 P.gap, .bool P.always] 64)).drew.cell? ⟨wC.heap.size, 2, none⟩ = some (.int .i64 P.max) := by simp [World.cell?_alloc_mark]
  obtain ⟨W3, hW3⟩ : ∃ W3, (wC.alloc (.cells #[.int .u32 (P.groups : Int), .int .i64 P.min, .int .i64 P.max, .int .i64 P.gap, .bool P.always] 64)).drew = W3 := ⟨_, rfl⟩
  rw [hW3] at k3 x1 x2 ⊢
  have HK3 := Hid.mk' (hKC.tr k3)
  have HT3 := Hid.mk' (HT.out.kept HK3.out)
  have y0 := q0_ W3 HK3.out
  have y1 := q1_ W3 HK3.out
  have z0 := (HB2.out.kept HK3.out).c0
  have z1 := (HB2.out.kept HK3.out).c1
  have u0 := (HB2.out.kept HK3.out).f0
  have u1 := (HB2.out.kept HK3.out).f1
  clear hW3 k3 hKC s4_ q0_ q1_ r0_ r1_ r2_ r3_ r4_ hK0
  try clear hHeld
  by_cases h1 : 1048576 < P.min
  · have HC := Hid.mk' (HA1.out (Or.inl h1))
    go_wp2
    refine bodyPost_ret (v := .agg #[.int .i64 (p : Int), .int .i64 (1048576)]) (by simp [results, Tryd.results24, go_sem, z0, z1]) rfl ⟨by rw [HC.out], ?_⟩
    exact ((HK.out.tr HK3.out).setNew (p := ⟨w.heap.size + 1, 0, none⟩) (Nat.le_succ _) _).setNew (p := ⟨w.heap.size + 1, 1, none⟩) (Nat.le_succ _) _
  · have hb4 : (((othN S c p : Nat) : Int) == 0) = decide (othN S c p = 0) := by rw [Bool.eq_iff_iff]; simp
    by_cases h4 : othN S c p = 0
    · have HC := Hid.mk' (HA1.out (Or.inr h4))
      rw [decide_eq_true h4] at hb4
      clear h4
      go_wp2
      refine bodyPost_ret (v := .agg #[.int .i64 (p : Int), .int .i64 (1048576)]) (by simp [results, Tryd.results24, go_sem, z0, z1]) rfl ⟨by rw [HC.out], ?_⟩
      exact ((HK.out.tr HK3.out).setNew (p := ⟨w.heap.size + 1, 0, none⟩) (Nat.le_succ _) _).setNew (p := ⟨w.heap.size + 1, 1, none⟩) (Nat.le_succ _) _
    · have HC := Hid.mk' (HA2.out (by rintro (e | e); exact h1 e; exact h4 e))
      rw [decide_eq_false h4] at hb4
      have h4 : 0 < othN S c p := Nat.pos_of_ne_zero h4
      go_wp2_with (go_at_call 40; refine (sfst_any (othN S c p) p _ HO9.out h4 (by omega) HT3.out).mono ?_; rintro e w4 ⟨rfl, hw4⟩; have hw4 := hw4.symm; subst hw4)
      refine bodyPost_ret (v := .agg #[.int .i64 ((rndV (othN S c p) p : Nat) : Int), .int .i64 0]) (by simp [results, Tryd.results24, go_sem, z0, z1]) rfl ⟨by rw [HC.out], ?_⟩
      exact ((HK.out.tr HK3.out).setNew (p := ⟨w.heap.size + 1, 0, none⟩) (Nat.le_succ _) _).setNew (p := ⟨w.heap.size + 1, 1, none⟩) (Nat.le_succ _) _
set_option maxRecDepth 100000 in
set_option maxHeartbeats 4000000 in
theorem sbeh_2h {w : World} {B : Nat} {X : Sa} {S : St} (h : Sbox w B X S) (hT : Tabb w) (hn : S.phases.length ≤ 8) (p : Nat) (hp : p < S.phases.length) (c g : Nat) (hc : c < 4294967296) (hg : g < 4294967296) (hgb : g.testBit p = false) (hmx : (S.ph p).max ≤ 1048576) : Calls Tryd.prog 24 #[.pointer (some ⟨B, 0, none⟩), .agg #[.int .i64 (p : Int), .int .i64 (1048576)], .int .u32 (c : Int), .int .u32 (g : Int)] w fun e w' => e = .returned (fulA S p (1048576) c) ∧ Kept w w' none := by
  have hgv : bits BinOp.and IntKind.u32 ((g : Int) / 2 ^ p) 1 = 0 := by rw [gap_bit hg, hgb]; rfl
  have hO9 : othN S c p < 4294967296 := othN_lt (by omega) c p
  obtain ⟨pb, po, ep⟩ := h.sat.ppq (show 0 < S.phases.length by omega)
  have k1 : Kept w (w.alloc (.cells #[.int .i64 (p : Int), .int .i64 (1048576)] 40)) none := Kept.alloc _ _ _ _ _
  have k2 : Kept (w.alloc (.cells #[.int .i64 (p : Int), .int .i64 (1048576)] 40)) ((w.alloc (.cells #[.int .i64 (p : Int), .int .i64 (1048576)] 40)).alloc (.cells #[.int .i64 0, .int .i64 0] 40)) none := Kept.alloc _ _ _ _ _
  have b1 := (bx2_alloc w (.int .i64 (p : Int)) (.int .i64 (1048576)) 40).kept k2
  have b2 := bx2_alloc (w.alloc (.cells #[.int .i64 (p : Int), .int .i64 (1048576)] 40)) (.int .i64 0) (.int .i64 0) 40
  rw [World.size_alloc] at b2
  have hk := k1.tr k2
  obtain ⟨WB, hWB⟩ : ∃ WB, ((w.alloc (.cells #[.int .i64 (p : Int), .int .i64 (1048576)] 40)).alloc (.cells #[.int .i64 0, .int .i64 0] 40)) = WB := ⟨_, rfl⟩
  rw [hWB] at b1 b2 hk
  have HWB := Hid.mk' hWB
  have HB := Hid.mk' (h.kept hk)
  have HK := Hid.mk' hk
  have HB1 := Hid.mk' b1
  have HB2 := Hid.mk' b2
  have HT := Hid.mk' (hT.kept hk)
  have HO9 := Hid.mk' hO9
  have hrm := h.sat.pk.room
  have s4_ : ∀ w', Kept WB w' none → w'.cell? ⟨B, 4, none⟩ = some (.slice (some ⟨pb, po, none⟩) S.phases.length X.pc) := fun w' q => by rw [← ep]; exact (HB.out.kept q).c4
  have q0_ : ∀ w', Kept WB w' none → w'.cell? ⟨w.heap.size, 0, none⟩ = some (.int .i64 (p : Int)) := fun w' q => (HB1.out.kept q).c0
  have q1_ : ∀ w', Kept WB w' none → w'.cell? ⟨w.heap.size, 1, none⟩ = some (.int .i64 (1048576)) := fun w' q => (HB1.out.kept q).c1
  have r0_ : ∀ w', Kept WB w' none → w'.cell? ⟨pb, po + p * 5, none⟩ = some (.int .u32 ((S.ph p).groups : Int)) := fun w' q => ((HB.out.kept q).sat.phq ep hp).2.1
  have r1_ : ∀ w', Kept WB w' none → w'.cell? ⟨pb, po + p * 5 + 1, none⟩ = some (.int .i64 (S.ph p).min) := fun w' q => ((HB.out.kept q).sat.phq ep hp).2.2.1
  have r2_ : ∀ w', Kept WB w' none → w'.cell? ⟨pb, po + p * 5 + 2, none⟩ = some (.int .i64 (S.ph p).max) := fun w' q => ((HB.out.kept q).sat.phq ep hp).2.2.2.1
  have r3_ : ∀ w', Kept WB w' none → w'.cell? ⟨pb, po + p * 5 + 3, none⟩ = some (.int .i64 (S.ph p).gap) := fun w' q => ((HB.out.kept q).sat.phq ep hp).2.2.2.2.1
  have r4_ : ∀ w', Kept WB w' none → w'.cell? ⟨pb, po + p * 5 + 4, none⟩ = some (.bool (S.ph p).always) := fun w' q => ((HB.out.kept q).sat.phq ep hp).2.2.2.2.2
  have hand : bits BinOp.andNot IntKind.u32 ((clsN S c S.phases.length : Nat) : Int) (IntKind.u32.wrap (2 ^ p)) = ((othN S c p : Nat) : Int) := by
    have : bits BinOp.andNot IntKind.u32 ((clsN S c S.phases.length : Nat) : Int) ((2 : Int) ^ p % 4294967296) = ((othN S c p : Nat) : Int) := by
      rw [pow_int (by omega), u32_andNot_nat _ _ (clsN_lt (by omega) c _ (Nat.le_refl _)) (pow_lt32 (by omega))]
      rfl
    exact this
  have hK0 := Kept.refl WB none
  have hp0 : 0 < S.phases.length := by omega
  have HA1 : Hid ((1048576 < (S.ph p).min ∨ othN S c p = 0) → fulA S p (1048576) c = .agg #[.int .i64 (p : Int), .int .i64 (1048576)]) := fulA_stay
  have HA2 : Hid (¬ (1048576 < (S.ph p).min ∨ othN S c p = 0) → fulA S p (1048576) c = .agg #[.int .i64 ((rndV (othN S c p) p : Nat) : Int), .int .i64 0]) := fulA_go
  clear h hT ep k1 k2 b1 b2 hk hgb hO9 hWB
  generalize S.ph p = P at *
  go_enter Tryd.func24, Tryd.ntmps24
  go_wp2
  rw [HWB.out]
  go_region_held (fun w' => Kept WB w' none)
    ((first | exact hK0 | exact Kept.tr hK0 (Kept.drew _ _) | assumption | exact Kept.tr (by assumption) (Kept.drew _ _)))
    ((first
      | (go_at_call 39; refine (scal_any (HB.out.kept (Kept.tr hK0 (Kept.drew _ _))) hn hp0 c hc).mono ?_; rintro e wC ⟨rfl, hkC⟩; have hKC : Kept WB wC none := Kept.tr (Kept.drew _ _) hkC)))
  clear hkC hand
  go_wp2
  go_region_held (fun w' => Kept WB w' none)
    ((first | exact hKC | exact Kept.tr hKC (Kept.drew _ _) | exact Kept.tr (Kept.tr hKC (Kept.alloc _ _ _ _ _)) (Kept.drew _ _) | assumption))
    (fail)
  have k3 : Kept wC (wC.alloc (.cells #[.int .u32 (P.groups : Int), .int .i64 P.min, .int .i64 P.max, .int .i64 P.gap, .bool P.always] 64)).drew none := (Kept.alloc _ _ _ _ _).tr (Kept.drew _ _)
  have x1 : (wC.alloc (.cells #[.int .u32 (P.groups : Int), .int .i64 P.min, .int .i64 P.max, .int .i64 P.gap, .bool P.always] 64)).drew.cell? ⟨wC.heap.size, 1, none⟩ = some (.int .i64 P.min) := by simp [World.cell?_alloc_mark]
  have x2 : (wC.alloc (.cells #[.int .u32 (P.groups : Int), .int .i64 P.min, .int .i64 P.max, .int .i64 P.gap, .bool P.always] 64)).drew.cell? ⟨wC.heap.size, 2, none⟩ = some (.int .i64 P.max) := by simp [World.cell?_alloc_mark]
  obtain ⟨W3, hW3⟩ : ∃ W3, (wC.alloc (.cells #[.int .u32 (P.groups : Int), .int .i64 P.min, .int .i64 P.max, .int .i64 P.gap, .bool P.always] 64)).drew = W3 := ⟨_, rfl⟩
  rw [hW3] at k3 x1 x2 ⊢
  have HK3 := Hid.mk' (hKC.tr k3)
  have HT3 := Hid.mk' (HT.out.kept HK3.out)
  have y0 := q0_ W3 HK3.out
  have y1 := q1_ W3 HK3.out
  have z0 := (HB2.out.kept HK3.out).c0
  have z1 := (HB2.out.kept HK3.out).c1
  have u0 := (HB2.out.kept HK3.out).f0
  have u1 := (HB2.out.kept HK3.out).f1
  clear hW3 k3 hKC s4_ q0_ q1_ r0_ r1_ r2_ r3_ r4_ hK0
  try clear hHeld
  by_cases h1 : 1048576 < P.min
  · have HC := Hid.mk' (HA1.out (Or.inl h1))
    go_wp2
    refine bodyPost_ret (v := .agg #[.int .i64 (p : Int), .int .i64 (1048576)]) (by simp [results, Tryd.results24, go_sem, z0, z1]) rfl ⟨by rw [HC.out], ?_⟩
    exact ((HK.out.tr HK3.out).setNew (p := ⟨w.heap.size + 1, 0, none⟩) (Nat.le_succ _) _).setNew (p := ⟨w.heap.size + 1, 1, none⟩) (Nat.le_succ _) _
  · have hb4 : (((othN S c p : Nat) : Int) == 0) = decide (othN S c p = 0) := by rw [Bool.eq_iff_iff]; simp
    by_cases h4 : othN S c p = 0
    · have HC := Hid.mk' (HA1.out (Or.inr h4))
      rw [decide_eq_true h4] at hb4
      clear h4
      go_wp2
      refine bodyPost_ret (v := .agg #[.int .i64 (p : Int), .int .i64 (1048576)]) (by simp [results, Tryd.results24, go_sem, z0, z1]) rfl ⟨by rw [HC.out], ?_⟩
      exact ((HK.out.tr HK3.out).setNew (p := ⟨w.heap.size + 1, 0, none⟩) (Nat.le_succ _) _).setNew (p := ⟨w.heap.size + 1, 1, none⟩) (Nat.le_succ _) _
    · have HC := Hid.mk' (HA2.out (by rintro (e | e); exact h1 e; exact h4 e))
      rw [decide_eq_false h4] at hb4
      have h4 : 0 < othN S c p := Nat.pos_of_ne_zero h4
      go_wp2_with (go_at_call 40; refine (sfst_any (othN S c p) p _ HO9.out h4 (by omega) HT3.out).mono ?_; rintro e w4 ⟨rfl, hw4⟩; have hw4 := hw4.symm; subst hw4)
      refine bodyPost_ret (v := .agg #[.int .i64 ((rndV (othN S c p) p : Nat) : Int), .int .i64 0]) (by simp [results, Tryd.results24, go_sem, z0, z1]) rfl ⟨by rw [HC.out], ?_⟩
      exact ((HK.out.tr HK3.out).setNew (p := ⟨w.heap.size + 1, 0, none⟩) (Nat.le_succ _) _).setNew (p := ⟨w.heap.size + 1, 1, none⟩) (Nat.le_succ _) _
set_option maxRecDepth 100000 in
set_option maxHeartbeats 4000000 in
theorem sbeh_3h {w : World} {B : Nat} {X : Sa} {S : St} (h : Sbox w B X S) (hT : Tabb w) (hn : S.phases.length ≤ 8) (p : Nat) (hp : p < S.phases.length) (c g : Nat) (hc : c < 4294967296) (hg : g < 4294967296) (hgb : g.testBit p = false) (hmx : ¬ (S.ph p).max ≤ 1048576) : Calls Tryd.prog 24 #[.pointer (some ⟨B, 0, none⟩), .agg #[.int .i64 (p : Int), .int .i64 (1048576)], .int .u32 (c : Int), .int .u32 (g : Int)] w fun e w' => e = .returned (Value.agg #[.int .i64 (p : Int), .int .i64 (1048576)]) ∧ Kept w w' none := by
  have hgv : bits BinOp.and IntKind.u32 ((g : Int) / 2 ^ p) 1 = 0 := by rw [gap_bit hg, hgb]; rfl
  have hO9 : othN S c p < 4294967296 := othN_lt (by omega) c p
  obtain ⟨pb, po, ep⟩ := h.sat.ppq (show 0 < S.phases.length by omega)
  have k1 : Kept w (w.alloc (.cells #[.int .i64 (p : Int), .int .i64 (1048576)] 40)) none := Kept.alloc _ _ _ _ _
  have k2 : Kept (w.alloc (.cells #[.int .i64 (p : Int), .int .i64 (1048576)] 40)) ((w.alloc (.cells #[.int .i64 (p : Int), .int .i64 (1048576)] 40)).alloc (.cells #[.int .i64 0, .int .i64 0] 40)) none := Kept.alloc _ _ _ _ _
  have b1 := (bx2_alloc w (.int .i64 (p : Int)) (.int .i64 (1048576)) 40).kept k2
  have b2 := bx2_alloc (w.alloc (.cells #[.int .i64 (p : Int), .int .i64 (1048576)] 40)) (.int .i64 0) (.int .i64 0) 40
  rw [World.size_alloc] at b2
  have hk := k1.tr k2
  obtain ⟨WB, hWB⟩ : ∃ WB, ((w.alloc (.cells #[.int .i64 (p : Int), .int .i64 (1048576)] 40)).alloc (.cells #[.int .i64 0, .int .i64 0] 40)) = WB := ⟨_, rfl⟩
  rw [hWB] at b1 b2 hk
  have HWB := Hid.mk' hWB
  have HB := Hid.mk' (h.kept hk)
  have HK := Hid.mk' hk
  have HB1 := Hid.mk' b1
  have HB2 := Hid.mk' b2
  have HT := Hid.mk' (hT.kept hk)
  have HO9 := Hid.mk' hO9
  have hrm := h.sat.pk.room
  have s4_ : ∀ w', Kept WB w' none → w'.cell? ⟨B, 4, none⟩ = some (.slice (some ⟨pb, po, none⟩) S.phases.length X.pc) := fun w' q => by rw [← ep]; exact (HB.out.kept q).c4
  have q0_ : ∀ w', Kept WB w' none → w'.cell? ⟨w.heap.size, 0, none⟩ = some (.int .i64 (p : Int)) := fun w' q => (HB1.out.kept q).c0
  have q1_ : ∀ w', Kept WB w' none → w'.cell? ⟨w.heap.size, 1, none⟩ = some (.int .i64 (1048576)) := fun w' q => (HB1.out.kept q).c1
  have r0_ : ∀ w', Kept WB w' none → w'.cell? ⟨pb, po + p * 5, none⟩ = some (.int .u32 ((S.ph p).groups : Int)) := fun w' q => ((HB.out.kept q).sat.phq ep hp).2.1
  have r1_ : ∀ w', Kept WB w' none → w'.cell? ⟨pb, po + p * 5 + 1, none⟩ = some (.int .i64 (S.ph p).min) := fun w' q => ((HB.out.kept q).sat.phq ep hp).2.2.1
  have r2_ : ∀ w', Kept WB w' none → w'.cell? ⟨pb, po + p * 5 + 2, none⟩ = some (.int .i64 (S.ph p).max) := fun w' q => ((HB.out.kept q).sat.phq ep hp).2.2.2.1
  have r3_ : ∀ w', Kept WB w' none → w'.cell? ⟨pb, po + p * 5 + 3, none⟩ = some (.int .i64 (S.ph p).gap) := fun w' q => ((HB.out.kept q).sat.phq ep hp).2.2.2.2.1
  have r4_ : ∀ w', Kept WB w' none → w'.cell? ⟨pb, po + p * 5 + 4, none⟩ = some (.bool (S.ph p).always) := fun w' q => ((HB.out.kept q).sat.phq ep hp).2.2.2.2.2
  have hand : bits BinOp.andNot IntKind.u32 ((clsN S c S.phases.length : Nat) : Int) (IntKind.u32.wrap (2 ^ p)) = ((othN S c p : Nat) : Int) := by
    have : bits BinOp.andNot IntKind.u32 ((clsN S c S.phases.length : Nat) : Int) ((2 : Int) ^ p % 4294967296) = ((othN S c p : Nat) : Int) := by
      rw [pow_int (by omega), u32_andNot_nat _ _ (clsN_lt (by omega) c _ (Nat.le_refl _)) (pow_lt32 (by omega))]
      rfl
    exact this
  have hK0 := Kept.refl WB none
  have hp0 : 0 < S.phases.length := by omega
  clear h hT ep k1 k2 b1 b2 hk hgb hO9 hWB
  generalize S.ph p = P at *
  go_enter Tryd.func24, Tryd.ntmps24
  go_wp2
  rw [HWB.out]
  go_region_held (fun w' => Kept WB w' none)
    ((first | exact hK0 | exact Kept.tr hK0 (Kept.drew _ _) | assumption | exact Kept.tr (by assumption) (Kept.drew _ _)))
    ((first
      | (go_at_call 39; refine (scal_any (HB.out.kept (Kept.tr hK0 (Kept.drew _ _))) hn hp0 c hc).mono ?_; rintro e wC ⟨rfl, hkC⟩; have hKC : Kept WB wC none := Kept.tr (Kept.drew _ _) hkC)))
  clear hkC hand
  go_wp2
  go_region_held (fun w' => Kept WB w' none)
    ((first | exact hKC | exact Kept.tr hKC (Kept.drew _ _) | exact Kept.tr (Kept.tr hKC (Kept.alloc _ _ _ _ _)) (Kept.drew _ _) | assumption))
    (fail)
  have k3 : Kept wC (wC.alloc (.cells #[.int .u32 (P.groups : Int), .int .i64 P.min, .int .i64 P.max, .int .i64 P.gap, .bool P.always] 64)).drew none := (Kept.alloc _ _ _ _ _).tr (Kept.drew _ _)
  have x1 : (wC.alloc (.cells #[.int .u32 (P.groups : Int), .int .i64 P.min, .int .i64 P.max, .int .i64 P.gap, .bool P.always] 64)).drew.cell? ⟨wC.heap.size, 1, none⟩ = some (.int .i64 P.min) := by simp [World.cell?_alloc_mark]
  have x2 : (wC.alloc (.cells #[.int .u32 (P.groups : Int), .int .i64 P.min, .int .i64 P.max, .int .i64 P.gap, .bool P.always] 64)).drew.cell? ⟨wC.heap.size, 2, none⟩ = some (.int .i64 P.max) := by simp [World.cell?_alloc_mark]
  obtain ⟨W3, hW3⟩ : ∃ W3, (wC.alloc (.cells #[.int .u32 (P.groups : Int), .int .i64 P.min, .int .i64 P.max, .int .i64 P.gap, .bool P.always] 64)).drew = W3 := ⟨_, rfl⟩
  rw [hW3] at k3 x1 x2 ⊢
  have HK3 := Hid.mk' (hKC.tr k3)
  have HT3 := Hid.mk' (HT.out.kept HK3.out)
  have y0 := q0_ W3 HK3.out
  have y1 := q1_ W3 HK3.out
  have z0 := (HB2.out.kept HK3.out).c0
  have z1 := (HB2.out.kept HK3.out).c1
  have u0 := (HB2.out.kept HK3.out).f0
  have u1 := (HB2.out.kept HK3.out).f1
  clear hW3 k3 hKC s4_ q0_ q1_ r0_ r1_ r2_ r3_ r4_ hK0
  try clear hHeld
  have hmb : decide (P.max ≤ 1048576) = false := decide_eq_false (by omega)
  by_cases h1 : 1048576 < P.min
  · clear hmx
    go_wp2
    refine bodyPost_ret (v := .agg #[.int .i64 (p : Int), .int .i64 (1048576)]) (by simp [results, Tryd.results24, go_sem, z0, z1]) rfl ⟨rfl, ?_⟩
    exact ((HK.out.tr HK3.out).setNew (p := ⟨w.heap.size + 1, 0, none⟩) (Nat.le_succ _) _).setNew (p := ⟨w.heap.size + 1, 1, none⟩) (Nat.le_succ _) _
  · have hb4 : (((othN S c p : Nat) : Int) == 0) = decide (othN S c p = 0) := by rw [Bool.eq_iff_iff]; simp
    by_cases h4 : othN S c p = 0
    · rw [decide_eq_true h4] at hb4
      clear h4
      go_wp2
      refine bodyPost_ret (v := .agg #[.int .i64 (p : Int), .int .i64 (1048576)]) (by simp [results, Tryd.results24, go_sem, z0, z1]) rfl ⟨rfl, ?_⟩
      exact ((HK.out.tr HK3.out).setNew (p := ⟨w.heap.size + 1, 0, none⟩) (Nat.le_succ _) _).setNew (p := ⟨w.heap.size + 1, 1, none⟩) (Nat.le_succ _) _
    · rw [decide_eq_false h4] at hb4
      clear h4
      go_wp2
      refine bodyPost_ret (v := .agg #[.int .i64 (p : Int), .int .i64 (1048576)]) (by simp [results, Tryd.results24, go_sem, z0, z1]) rfl ⟨rfl, ?_⟩
      exact ((HK.out.tr HK3.out).setNew (p := ⟨w.heap.size + 1, 0, none⟩) (Nat.le_succ _) _).setNew (p := ⟨w.heap.size + 1, 1, none⟩) (Nat.le_succ _) _

end Go.Proofs.YtkgimccffggfdaaDoor

