/-
  Texts joined: some of those that the proofs of this seat stand on.
-/
import Derived.Test.YtlabjamkaebnjaaSto8
/-
  THE CONTRACT of store's keptIn.
-/
namespace Go.Proofs.Ytlabjamkaebnjaa
open Go.RowKit Go.Lib Go.Deep
set_option linter.unusedVariables false
set_option linter.unusedSimpArgs false

theorem kep_sto {B : List (List Nat)} (h1 : 1 ≤ B.length) (h2 : B.length ≤ 32) : kepB B = (decide (stoE ((tolM B).gen : Int) (tolM B).mode (tolM B).plans (B.length : Int) = 0) && decide (stoL ((tolM B).gen : Int) (tolM B).mode (tolM B).plans (B.length : Int) = B)) := by
  unfold kepB isB
  have e1 : stoE ((tolM B).gen : Int) (tolM B).mode (tolM B).plans (B.length : Int) = (if 1 ≤ (tolM B).gen ∧ (tolM B).gen < gtop ∧ (tolM B).mode ≤ 3 then pieE (tolM B).mode (tolM B).plans B.length else 190) := by
    unfold stoE
    rw [if_pos (by omega), Int.toNat_natCast]
    by_cases h : 1 ≤ (tolM B).gen ∧ (tolM B).gen < gtop ∧ (tolM B).mode ≤ 3
    · rw [if_pos h, if_pos (by omega)]
    · rw [if_neg h, if_neg (by omega)]
  by_cases h : 1 ≤ (tolM B).gen ∧ (tolM B).gen < gtop ∧ (tolM B).mode ≤ 3
  · rw [if_pos h] at e1
    obtain ⟨q1, q2, q3⟩ := h
    rw [decide_eq_true q1, decide_eq_true q2, decide_eq_true q3, Bool.true_and, Bool.true_and, Bool.true_and, e1]
    by_cases hp : pieE (tolM B).mode (tolM B).plans B.length = 0
    · have e2 : stoL ((tolM B).gen : Int) (tolM B).mode (tolM B).plans (B.length : Int) = blsK (tolM B).gen (tolM B).mode (tolM B).plans B.length := by
        unfold stoL
        rw [if_pos (e1.trans hp), Int.toNat_natCast, Int.toNat_natCast]
      rw [e2]
    · rw [decide_eq_false hp, Bool.false_and, Bool.false_and]
  · rw [if_neg h] at e1
    rw [e1, show decide ((190 : Int) = 0) = false from rfl, Bool.false_and]
    by_cases q1 : 1 ≤ (tolM B).gen
    · by_cases q2 : (tolM B).gen < gtop
      · have q3 : ¬ (tolM B).mode ≤ 3 := fun q => h ⟨q1, q2, q⟩
        rw [decide_eq_false q3]; simp
      · rw [decide_eq_false q2]; simp
    · rw [decide_eq_false q1]; simp
set_option maxRecDepth 100000 in
set_option maxHeartbeats 2000000 in
theorem kept_any {la : Option Addr} {m c : Nat} {B : List (List Nat)} {w : World} (hB : Bl w 0 la m B) (h64 : ∀ p ∈ B, p.length = 64) (h1 : 1 ≤ m) (h2 : m ≤ 32) :
    Calls Try.prog 56 #[.slice la m c] w (KepP w (kepK B)) := by
  have HB := Hid.mk' hB
  have hks := kep_sto (B := B) (by rw [hB.size]; exact h1) (by rw [hB.size]; exact h2)
  rw [hB.size] at hks
  have hkA : Kept w (w.alloc (.cells #[.int .i64 0, .int .u8 0, .slice none 0 0] 35)) none := Kept.alloc _ _ _ _ _
  have HT := Hid.mk' (told_any (c := c) (hB.kept hkA) h64 h1 h2)
  have R0 := Hid.mk' (row3 w (.int .i64 0) (.int .u8 0) (.slice none 0 0) 35)
  have HKK : Hid (kepK B = if kepB B = true then tolM B else k00) := Hid.mk' rfl
  clear hB h64
  generalize tolM B = K at *
  obtain ⟨g0, md, pl⟩ := K
  unfold KepP at HT
  dsimp only at HT hks
  obtain ⟨g, hg⟩ : ∃ g : Int, (g0 : Int) = g := ⟨_, rfl⟩
  rw [hg] at HT hks
  have HG := Hid.mk' hg
  clear hg
  obtain ⟨E, hE⟩ : ∃ E, stoE g md pl (m : Int) = E := ⟨_, rfl⟩
  have HE := Hid.mk' hE
  rw [hE] at hks
  clear hE
  obtain ⟨A, hA⟩ : ∃ A, stoL g md pl (m : Int) = A := ⟨_, rfl⟩
  have HA := Hid.mk' hA
  rw [hA] at hks
  clear hA
  obtain ⟨q, hq⟩ : ∃ q, Hid (A.length = q) := ⟨_, Hid.mk' rfl⟩
  have HKS := Hid.mk' hks
  clear hks
  by_cases hE0 : E = 0
  · subst hE0
    by_cases hAB : A = B
    · have HK1 : Hid (kepK B = ⟨g0, md, pl⟩) := Hid.mk' (by rw [HKK.out, HKS.out, decide_eq_true hAB]; rfl)
      have HD : Hid (decide (A = B) = true) := Hid.mk' (decide_eq_true hAB)
      clear hAB
      go_enter Try.func56, Try.ntmps56
      go_wp2_with (first | (have hgo := B4; clear hgo; go_at_call 76; refine (equf_any (B4.out.mono (Nat.zero_le _)) (HB.out.kept (hkA.tr K4.out))).mono ?_; rw [HD.out]; rintro e w5 ⟨rfl, hk5⟩; have K5 := Hid.mk' (K4.out.tr hk5); have K35 := Hid.mk' (K34.out.tr hk5); have T5 := Hid.mk' (rowK T4.out hk5); have v0 := T5.out.cell (i := 0) (by omega); have v1 := T5.out.cell (i := 1) (by omega); have v2 := T5.out.cell (i := 2) (by omega); have z0 := T5.out.frozen 0; have z1 := T5.out.frozen 1; have z2 := T5.out.frozen 2; simp [f3] at v0 v1 v2; have Q5 := Hid.mk' (rowK Q4.out hk5); have x0 := Q5.out.cell (i := 0) (by omega); have x1 := Q5.out.cell (i := 1) (by omega); have x2 := Q5.out.cell (i := 2) (by omega); simp [f3] at x0 x1 x2; clear hk5 B4) | (have hgo := P2; clear hgo; go_at_call 75; refine (sblocks_any ((P2.out.kept K3.out).plans)).mono ?_; unfold StoP; rw [HE.out, HA.out, hq.out]; rintro e w4 ⟨a4, c4, rfl, hb4, hk4⟩; have B4 := Hid.mk' hb4; have K4 := Hid.mk' ((K2.out.tr K3.out).tr hk4); have K34 := Hid.mk' (K3.out.tr hk4); have T4 := Hid.mk' (rowK R0.out K4.out); have t0 := T4.out.cell (i := 0) (by omega); have t1 := T4.out.cell (i := 1) (by omega); have t2 := T4.out.cell (i := 2) (by omega); have y0 := T4.out.frozen 0; have y1 := T4.out.frozen 1; have y2 := T4.out.frozen 2; simp [f3] at t0 t1 t2; have Q4 := Hid.mk' (rowK Q2.out hk4); have u0 := Q4.out.cell (i := 0) (by omega); have u1 := Q4.out.cell (i := 1) (by omega); have u2 := Q4.out.cell (i := 2) (by omega); simp [f3] at u0 u1 u2; clear hb4 hk4) | (go_at_call 74; refine HT.out.mono ?_; rintro e w2 ⟨pa, pn, pc, rfl, hp2, hk2⟩; have P2 := Hid.mk' hp2; have K2 := Hid.mk' hk2; have Q2 := Hid.mk' (row3 w2 (.int .i64 g) (.int .u8 (md : Int)) (.slice pa pn pc) 35); have s0 := Q2.out.cell (i := 0) (by omega); have s1 := Q2.out.cell (i := 1) (by omega); have s2 := Q2.out.cell (i := 2) (by omega); simp [f3] at s0 s1 s2; have K3 : Hid (Kept w2 (w2.alloc (.cells #[.int .i64 g, .int .u8 (md : Int), .slice pa pn pc] 35)) none) := Hid.mk' (Kept.alloc _ _ _ _ _); clear hp2 hk2))
      all_goals (
        have hrw := row3_set T5.out (.int .i64 g) (.int .u8 (md : Int)) (.slice pa pn pc)
        have q0 := hrw.cell (i := 0) (by omega)
        have q1 := hrw.cell (i := 1) (by omega)
        have q2 := hrw.cell (i := 2) (by omega)
        simp [f3] at q0 q1 q2
        refine bodyPost_ret (v := .agg #[.int .i64 g, .int .u8 (md : Int), .slice pa pn pc]) (by simp [results, Try.results56, go_sem, q0, q1, q2]) rfl ⟨pa, pn, pc, ?_, ?_, ?_⟩
        · rw [HK1.out]
          dsimp only
          rw [HG.out]
        · rw [HK1.out]
          have hP := P2.out.kept K35.out
          rw [World.size_alloc] at hP
          exact (((hP.set (by omega) 0 _).set (by omega) 1 _).set (by omega) 2 _).mono (by omega)
        · exact (((hkA.tr K5.out).setNew (p := ⟨w.heap.size, 0, none⟩) (Nat.le_refl _) _).setNew (p := ⟨w.heap.size, 1, none⟩) (Nat.le_refl _) _).setNew (p := ⟨w.heap.size, 2, none⟩) (Nat.le_refl _) _)

    · have HK1 : Hid (kepK B = k00) := Hid.mk' (by rw [HKK.out, HKS.out, decide_eq_false hAB]; rfl)
      have HD : Hid (decide (A = B) = false) := Hid.mk' (decide_eq_false hAB)
      clear hAB
      go_enter Try.func56, Try.ntmps56
      go_wp2_with (first | (have hgo := B4; clear hgo; go_at_call 76; refine (equf_any (B4.out.mono (Nat.zero_le _)) (HB.out.kept (hkA.tr K4.out))).mono ?_; rw [HD.out]; rintro e w5 ⟨rfl, hk5⟩; have K5 := Hid.mk' (K4.out.tr hk5); have K35 := Hid.mk' (K34.out.tr hk5); have T5 := Hid.mk' (rowK T4.out hk5); have v0 := T5.out.cell (i := 0) (by omega); have v1 := T5.out.cell (i := 1) (by omega); have v2 := T5.out.cell (i := 2) (by omega); have z0 := T5.out.frozen 0; have z1 := T5.out.frozen 1; have z2 := T5.out.frozen 2; simp [f3] at v0 v1 v2; have Q5 := Hid.mk' (rowK Q4.out hk5); have x0 := Q5.out.cell (i := 0) (by omega); have x1 := Q5.out.cell (i := 1) (by omega); have x2 := Q5.out.cell (i := 2) (by omega); simp [f3] at x0 x1 x2; clear hk5 B4) | (have hgo := P2; clear hgo; go_at_call 75; refine (sblocks_any ((P2.out.kept K3.out).plans)).mono ?_; unfold StoP; rw [HE.out, HA.out, hq.out]; rintro e w4 ⟨a4, c4, rfl, hb4, hk4⟩; have B4 := Hid.mk' hb4; have K4 := Hid.mk' ((K2.out.tr K3.out).tr hk4); have K34 := Hid.mk' (K3.out.tr hk4); have T4 := Hid.mk' (rowK R0.out K4.out); have t0 := T4.out.cell (i := 0) (by omega); have t1 := T4.out.cell (i := 1) (by omega); have t2 := T4.out.cell (i := 2) (by omega); have y0 := T4.out.frozen 0; have y1 := T4.out.frozen 1; have y2 := T4.out.frozen 2; simp [f3] at t0 t1 t2; have Q4 := Hid.mk' (rowK Q2.out hk4); have u0 := Q4.out.cell (i := 0) (by omega); have u1 := Q4.out.cell (i := 1) (by omega); have u2 := Q4.out.cell (i := 2) (by omega); simp [f3] at u0 u1 u2; clear hb4 hk4) | (go_at_call 74; refine HT.out.mono ?_; rintro e w2 ⟨pa, pn, pc, rfl, hp2, hk2⟩; have P2 := Hid.mk' hp2; have K2 := Hid.mk' hk2; have Q2 := Hid.mk' (row3 w2 (.int .i64 g) (.int .u8 (md : Int)) (.slice pa pn pc) 35); have s0 := Q2.out.cell (i := 0) (by omega); have s1 := Q2.out.cell (i := 1) (by omega); have s2 := Q2.out.cell (i := 2) (by omega); simp [f3] at s0 s1 s2; have K3 : Hid (Kept w2 (w2.alloc (.cells #[.int .i64 g, .int .u8 (md : Int), .slice pa pn pc] 35)) none) := Hid.mk' (Kept.alloc _ _ _ _ _); clear hp2 hk2))
      all_goals (
        have hrw := row3_set T5.out (.int .i64 0) (.int .u8 0) (.slice none 0 0)
        have q0 := hrw.cell (i := 0) (by omega)
        have q1 := hrw.cell (i := 1) (by omega)
        have q2 := hrw.cell (i := 2) (by omega)
        simp [f3] at q0 q1 q2
        refine bodyPost_ret (v := .agg #[.int .i64 0, .int .u8 0, .slice none 0 0]) (by simp [results, Try.results56, go_sem, q0, q1, q2]) rfl ⟨none, 0, 0, by rw [HK1.out]; rfl, by rw [HK1.out]; exact PlF.nil _ _, ?_⟩
        exact (((hkA.tr K5.out).setNew (p := ⟨w.heap.size, 0, none⟩) (Nat.le_refl _) _).setNew (p := ⟨w.heap.size, 1, none⟩) (Nat.le_refl _) _).setNew (p := ⟨w.heap.size, 2, none⟩) (Nat.le_refl _) _)

  · have HK1 : Hid (kepK B = k00) := Hid.mk' (by rw [HKK.out, HKS.out, decide_eq_false hE0]; rfl)
    go_enter Try.func56, Try.ntmps56
    go_wp2_with (first | (have hgo := P2; clear hgo; go_at_call 75; refine (sblocks_any ((P2.out.kept K3.out).plans)).mono ?_; unfold StoP; rw [HE.out, HA.out, hq.out]; rintro e w4 ⟨a4, c4, rfl, hb4, hk4⟩; have B4 := Hid.mk' hb4; have K4 := Hid.mk' ((K2.out.tr K3.out).tr hk4); have K34 := Hid.mk' (K3.out.tr hk4); have T4 := Hid.mk' (rowK R0.out K4.out); have t0 := T4.out.cell (i := 0) (by omega); have t1 := T4.out.cell (i := 1) (by omega); have t2 := T4.out.cell (i := 2) (by omega); have y0 := T4.out.frozen 0; have y1 := T4.out.frozen 1; have y2 := T4.out.frozen 2; simp [f3] at t0 t1 t2; have Q4 := Hid.mk' (rowK Q2.out hk4); have u0 := Q4.out.cell (i := 0) (by omega); have u1 := Q4.out.cell (i := 1) (by omega); have u2 := Q4.out.cell (i := 2) (by omega); simp [f3] at u0 u1 u2; clear hb4 hk4) | (go_at_call 74; refine HT.out.mono ?_; rintro e w2 ⟨pa, pn, pc, rfl, hp2, hk2⟩; have P2 := Hid.mk' hp2; have K2 := Hid.mk' hk2; have Q2 := Hid.mk' (row3 w2 (.int .i64 g) (.int .u8 (md : Int)) (.slice pa pn pc) 35); have s0 := Q2.out.cell (i := 0) (by omega); have s1 := Q2.out.cell (i := 1) (by omega); have s2 := Q2.out.cell (i := 2) (by omega); simp [f3] at s0 s1 s2; have K3 : Hid (Kept w2 (w2.alloc (.cells #[.int .i64 g, .int .u8 (md : Int), .slice pa pn pc] 35)) none) := Hid.mk' (Kept.alloc _ _ _ _ _); clear hp2 hk2))
    all_goals (
      have hrw := row3_set T4.out (.int .i64 0) (.int .u8 0) (.slice none 0 0)
      have q0 := hrw.cell (i := 0) (by omega)
      have q1 := hrw.cell (i := 1) (by omega)
      have q2 := hrw.cell (i := 2) (by omega)
      simp [f3] at q0 q1 q2
      refine bodyPost_ret (v := .agg #[.int .i64 0, .int .u8 0, .slice none 0 0]) (by simp [results, Try.results56, go_sem, q0, q1, q2]) rfl ⟨none, 0, 0, by rw [HK1.out]; rfl, by rw [HK1.out]; exact PlF.nil _ _, ?_⟩
      exact (((hkA.tr K4.out).setNew (p := ⟨w.heap.size, 0, none⟩) (Nat.le_refl _) _).setNew (p := ⟨w.heap.size, 1, none⟩) (Nat.le_refl _) _).setNew (p := ⟨w.heap.size, 2, none⟩) (Nat.le_refl _) _)


end Go.Proofs.Ytlabjamkaebnjaa

/-
  THE CONTRACTS of store's blocksOfASlot, slotOf, holds, countsOver.
-/
namespace Go.Proofs.Ytlabjamkaebnjaa
open Go.RowKit Go.Lib Go.Deep
set_option linter.unusedVariables false
set_option linter.unusedSimpArgs false

def manE (n : Nat) : Int := if askE n = 0 then (manK n : Int) else 0
theorem bslot_any (a : Option Addr) (n c : Nat) (w : World) (hn : n ≤ 9223372036854775807) : Calls Try.prog 33 #[dvV a n c] w fun e w' => e = .returned (.tuple #[.int .i64 (manE n), .int .i64 (askE n)]) ∧ Kept w w' none := by
  have HM := Hid.mk' (fun w' => bmany_any a n c w' hn)
  rcases chk_cases n with ⟨h, h1, h2, h3⟩ | h
  · have hmv : manV n = ((n / 64 : Nat) : Int) := by unfold manV; rw [if_pos h]
    rw [hmv, h] at HM
    by_cases hq : n / 64 = 1
    · have hE : askE n = 190 := by unfold askE; rw [if_pos h, if_pos hq]
      have hN : manE n = 0 := by unfold manE; rw [hE]; rfl
      rw [hE, hN]
      rw [hq] at HM
      clear h hmv hE hN h1 h2 h3 hq
      go_enter Try.func33, Try.ntmps33
      go_wp2_with (go_at_call 54; refine (HM.out _).mono ?_; rintro e w2 ⟨rfl, hk2⟩)
      go_ret2
      exact ⟨rfl, (Kept.alloc _ _ _ _ _).tr hk2⟩
    · have hE : askE n = 0 := by unfold askE; rw [if_pos h, if_neg hq]
      have hN : manE n = ((n / 64 / 2 : Nat) : Int) := by unfold manE manK; rw [hE]; rfl
      rw [hE, hN]
      have hq2 : n / 64 ≤ 64 := by omega
      generalize n / 64 = q at *
      have hq' : ¬ (q : Int) = 1 := by omega
      clear h hmv hE hN h1 h2 h3 hq
      go_enter Try.func33, Try.ntmps33
      go_wp2_with (go_at_call 54; refine (HM.out _).mono ?_; rintro e w2 ⟨rfl, hk2⟩)
      go_ret2
      exact ⟨by simp, (Kept.alloc _ _ _ _ _).tr hk2⟩
  · have hmv : manV n = 0 := by unfold manV; rw [h]; rfl
    have hE : askE n = 180 := by unfold askE; rw [h]; rfl
    have hN : manE n = 0 := by unfold manE; rw [hE]; rfl
    rw [hmv, h] at HM
    rw [hE, hN]
    clear h hmv hE hN
    go_enter Try.func33, Try.ntmps33
    go_wp2_with (go_at_call 54; refine (HM.out _).mono ?_; rintro e w2 ⟨rfl, hk2⟩)
    go_ret2
    exact ⟨rfl, (Kept.alloc _ _ _ _ _).tr hk2⟩

/-! ### A slot in memory -/
abbrev slV (g : Int) (m : Nat) (pa : Option Addr) (pn pc : Nat) (f : Int) (ba : Option Addr) (bn bc : Nat) : Value := .agg #[.int .i64 g, .int .u8 (m : Int), .slice pa pn pc, .int .i64 f, .slice ba bn bc]
abbrev slC (g : Int) (m : Nat) (pa : Option Addr) (pn pc : Nat) (f : Int) (ba : Option Addr) (bn bc : Nat) : Array Value := #[.int .i64 g, .int .u8 (m : Int), .slice pa pn pc, .int .i64 f, .slice ba bn bc]
theorem holds_any (g : Int) (m : Nat) (pa : Option Addr) (pn pc : Nat) (f : Int) (ba : Option Addr) (bn bc : Nat) (w : World) : Calls Try.prog 22 #[slV g m pa pn pc f ba bn bc] w fun e w' => e = .returned (.bool (decide (0 < g))) ∧ Kept w w' none := by
  go_enter Try.func22, Try.ntmps22
  go_wp2
  go_ret
  exact ⟨rfl, Kept.alloc _ _ _ _ _⟩
set_option maxHeartbeats 1000000 in
theorem over_any (g : Int) (m : Nat) (pa : Option Addr) (pn pc : Nat) (f : Int) (ba : Option Addr) (bn bc : Nat) (g' : Int) (m' : Nat) (pa' : Option Addr) (pn' pc' : Nat) (f' : Int) (ba' : Option Addr) (bn' bc' : Nat) (w : World) : Calls Try.prog 38 #[slV g m pa pn pc f ba bn bc, slV g' m' pa' pn' pc' f' ba' bn' bc'] w fun e w' => e = .returned (.bool (decide (0 < g) && decide (g' ≤ g))) ∧ Kept w w' none := by
  have hkA : Kept w ((w.alloc (.cells (slC g m pa pn pc f ba bn bc) 66)).alloc (.cells (slC g' m' pa' pn' pc' f' ba' bn' bc') 66)) none := (Kept.alloc _ _ _ _ _).tr (Kept.alloc _ _ _ _ _)
  have c0 : ((w.alloc (.cells (slC g m pa pn pc f ba bn bc) 66)).alloc (.cells (slC g' m' pa' pn' pc' f' ba' bn' bc') 66)).cell? ⟨w.heap.size, 0, none⟩ = some (.int .i64 g) := (cell_kpt (Kept.alloc _ _ _ _ _) (by simp)).trans (World.cell?_alloc_mark ..)
  have c1 : ((w.alloc (.cells (slC g m pa pn pc f ba bn bc) 66)).alloc (.cells (slC g' m' pa' pn' pc' f' ba' bn' bc') 66)).cell? ⟨w.heap.size + 1, 0, none⟩ = some (.int .i64 g') := by
    have h := World.cell?_alloc_mark (w.alloc (.cells (slC g m pa pn pc f ba bn bc) 66)) (slC g' m' pa' pn' pc' f' ba' bn' bc') 66 (0, 0) 0
    rw [World.size_alloc] at h
    exact h
  have HC0 := Hid.mk' c0
  have HC1 := Hid.mk' c1
  have HKA := Hid.mk' hkA
  clear c0 c1 hkA
  by_cases hg : 0 < g
  · go_enter Try.func38, Try.ntmps38
    go_wp2_with (go_at_call 22; refine (holds_any _ _ _ _ _ _ _ _ _ _).mono ?_; rintro e w2 ⟨rfl, hk2⟩; have d0 := (cell_kpt hk2 (by simp; omega)).trans HC0.out; have d1 := (cell_kpt hk2 (by simp)).trans HC1.out)
    go_ret
    exact ⟨by simp [hg], HKA.out.tr hk2⟩
  · have hg' : g ≤ 0 := by omega
    go_enter Try.func38, Try.ntmps38
    go_wp2_with (go_at_call 22; refine (holds_any _ _ _ _ _ _ _ _ _ _).mono ?_; rintro e w2 ⟨rfl, hk2⟩; have d0 := (cell_kpt hk2 (by simp; omega)).trans HC0.out; have d1 := (cell_kpt hk2 (by simp)).trans HC1.out)
    go_ret
    have hd : decide (0 < g) = false := decide_eq_false (by omega)
    rw [hd]
    exact ⟨rfl, HKA.out.tr hk2⟩

end Go.Proofs.Ytlabjamkaebnjaa

