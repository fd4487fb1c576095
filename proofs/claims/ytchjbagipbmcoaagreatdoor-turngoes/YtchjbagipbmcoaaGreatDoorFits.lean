/-
  THE CONTRACTS of leastPart, cyclesHold, fits, planFits.
-/
import Derived.Test.YtchjbagipbmcoaaGreatDoorPhase
import Derived.Deep.RegionHeld2
namespace Go.Proofs.YtchjbagipbmcoaaGreatDoor
open Go.RowKit Go.Lib Go.Deep
set_option linter.unusedVariables false
set_option linter.unusedSimpArgs false

/-- What is asked of a site ahead of sums of times. -/
structure Base (S : St) : Prop where
  sh : Shape S
  mn : ∀ i, i < S.phases.length → 0 ≤ (S.ph i).min ∧ (S.ph i).min ≤ 1048576
  bt : ∀ a b, a < S.groups.length → b < S.groups.length → S.bt a b ≤ 1048576
theorem Base.lies {S : St} (h : Base S) (f t : Nat) : 0 ≤ liesM S f t ∧ liesM S f t ≤ 1048576 :=
  ⟨liesM_ge S f t, (liesM_is S f t).le (by omega) (fun x hx => by
    obtain ⟨a, b, ha, hb, _, _, _, rfl⟩ := hx
    exact h.bt a b ha hb)⟩
theorem Base.part {S : St} (h : Base S) {i : Nat} (hi : i < S.phases.length) : 0 ≤ partM S i ∧ partM S i ≤ 2097152 := by
  have h1 := h.mn i hi
  have h2 := h.lies i ((i + 1) % S.phases.length)
  unfold partM
  omega
theorem Base.round {S : St} (h : Base S) : ∀ k, k ≤ S.phases.length → 0 ≤ roundN S k ∧ roundN S k ≤ 2097152 * k
  | 0, _ => by simp [roundN]
  | k + 1, hk => by
    have h1 := h.round k (by omega)
    have h2 := h.part (i := k) (by omega)
    rw [roundN]
    omega
theorem wrap_in {x : Int} (h1 : -9223372036854775808 ≤ x) (h2 : x ≤ 9223372036854775807) : IntKind.i64.wrap x = x := by
  simp [IntKind.wrap, IntKind.bits, IntKind.signed]; omega
theorem Kept.drew (w : World) (r : Option Nat) : Kept w w.drew r := Kept.drewN w 1 r
set_option maxRecDepth 100000 in
set_option maxHeartbeats 1000000 in
theorem part_any {B : Nat} {X : Sa} {S : St} {w : World} (h : Sbox w B X S) (hT : Tabb w) (hBs : Base S) (i : Nat) (hi : i < S.phases.length) :
    Calls Tryz.prog 93 #[.pointer (some ⟨B, 0, none⟩), .int .i64 i] w fun e w' => e = .returned (.int .i64 (partM S i)) ∧ Kept w w' none := by
  have HB := Hid.mk' h
  have HT := Hid.mk' hT
  have HS := Hid.mk' hBs
  have hp8 := hBs.sh.ok.np
  have hmn := hBs.mn i hi
  have hli := hBs.lies i ((i + 1) % S.phases.length)
  have c4 := h.c4
  obtain ⟨bp, op, ep, kp, kp1, _, _, _⟩ := h.sat.phAt hi
  rw [ep] at c4
  have f4 : ∀ w', Kept w w' none → w'.cell? ⟨B, 4, none⟩ = some (.slice (some ⟨bp, op, none⟩) S.phases.length X.pc) := fun w' k => cell_kept0 c4 k
  have f1 : ∀ w', Kept w w' none → w'.cell? ⟨bp, op + i * 5 + 1, none⟩ = some (.int .i64 (S.ph i).min) := fun w' k => cell_kept0 kp1 k
  have hmod : ((i : Int) + 1) % (S.phases.length : Int) = (((i + 1) % S.phases.length : Nat) : Int) := by simp
  have hml : (i + 1) % S.phases.length < S.phases.length := Nat.mod_lt _ (by omega)
  have hwr : (IntKind.i64.wrap ((i : Int) + 1)).tmod (S.phases.length : Int) = (((i + 1) % S.phases.length : Nat) : Int) := by
    rw [wrap_in (by omega) (by omega), Int.tmod_eq_emod_of_nonneg (by omega)]
    exact hmod
  have hsum : IntKind.i64.wrap ((S.ph i).min + liesM S i ((i + 1) % S.phases.length)) = partM S i := by
    rw [wrap_in (by omega) (by omega)]; rfl
  have HE : Hid (partM S i = (S.ph i).min + liesM S i ((i + 1) % S.phases.length)) := rfl
  generalize hj : (i + 1) % S.phases.length = j at *
  have HJ := Hid.mk' hj
  have hnz : ((S.phases.length : Int) == 0) = false := by rw [beq_eq_false_iff_ne]; omega
  have hnz1 : ¬ (S.phases.length : Int) = 0 := by omega
  have hnz2 : ¬ S.phases = [] := by intro e; rw [e] at hp8; simp at hp8
  have HW := Hid.mk' hsum
  clear h hT hBs hj ep kp hsum
  go_enter Tryz.func93, Tryz.ntmps93
  go_wp2
  go_region_held (fun w' => Kept w w' none)
    ((first | exact Kept.refl _ _ | exact Kept.drew _ _ | assumption | exact Kept.tr (by assumption) (Kept.drew _ _)))
    ((go_at_call 107; refine (lies_any (HB.out.kept (by assumption)) (HT.out.kept (by assumption)) HS.out.sh i j hi hml).mono ?_; rintro e wS ⟨rfl, hkS⟩; have hKS : Kept w wS none := Kept.tr (by assumption) hkS))
  all_goals
    go_wp2
    go_ret
    exact ⟨ret_int HW.out, by assumption⟩

end Go.Proofs.YtchjbagipbmcoaaGreatDoor
