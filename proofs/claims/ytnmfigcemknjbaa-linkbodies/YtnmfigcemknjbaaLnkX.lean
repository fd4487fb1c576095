/-
  COMMANDS AND REPORTS, in numbers: their bytes, and what is read of bytes.
-/
import Derived.Test.YtnmfigcemknjbaaSWhole2
import Derived.Test.YtnmfigcemknjbaaSRdr
namespace Go.Proofs.Ytnmfigcemknjbaa
open Go.RowKit Go.Lib Go.Deep
set_option linter.unusedVariables false
set_option linter.unusedSimpArgs false

structure Cm where
  site : Int
  plan : Pl
structure Rp where
  site : Int
  mode : Nat
  tick : Int
  loads : List Int
abbrev cm0 : Cm := ⟨0, q0⟩
abbrev rp0 : Rp := ⟨0, 0, 0, []⟩
def cmE (c : Cm) : Int := if 0 ≤ c.site ∧ c.site ≤ 65535 then wholeE [c.plan] else 2
def cmI (c : Cm) : List Int := [c.site, c.plan.cycle, c.plan.offset, (c.plan.splits.length : Int)] ++ c.plan.splits
def cmL (c : Cm) : List Nat := if cmE c = 0 then smlI (cmI c) else []
abbrev ldP (x : Int) : Prop := 0 ≤ x ∧ x ≤ 70368744177664
def rpE (r : Rp) : Int := if (0 ≤ r.site ∧ r.site ≤ 65535) ∧ r.mode ≤ 3 ∧ (0 ≤ r.tick ∧ r.tick ≤ 1073741824) then (if 8 < r.loads.length then 4 else if r.loads.all (fun x => decide (ldP x)) = true then 0 else 2) else 2
def rpI (r : Rp) : List Int := [r.site, (r.mode : Int), r.tick, (r.loads.length : Int)] ++ r.loads
def rpL (r : Rp) : List Nat := if rpE r = 0 then smlI (rpI r) else []
/-- A number that is no greater than 'most'. -/
def numK (most : Nat) (s : Rd) : Int × Rd := (((upM most s).1 : Int), (upM most s).2)
theorem numKC {most : Nat} (hm : most < 9223372036854775807) : Cod (numK most) (fun x : Int => sml x.toNat) (fun x => 0 ≤ x ∧ x ≤ (most : Int)) :=
  (upC (most := most) (by omega)).map (fun n : Nat => (n : Int)) Int.toNat (fun y hy => ⟨by omega, by omega, rfl⟩) (fun x hx => ⟨⟨by omega, by omega⟩, rfl⟩)
def cmM : Rd → Cm × Rd := mapM' (fun z : Int × (Int × (Int × List Int)) => (⟨z.1, ⟨z.2.1, z.2.2.1, z.2.2.2⟩⟩ : Cm)) (bindM (numK 65535) (fun _ => bindM numM (fun _ => bindM numM (fun _ => countM 8 numM))))
theorem cmC : Cod cmM (fun c => smlI (cmI c)) (fun c => (0 ≤ c.site ∧ c.site ≤ 65535) ∧ (0 ≤ c.plan.cycle ∧ c.plan.cycle ≤ 1048576) ∧ (0 ≤ c.plan.offset ∧ c.plan.offset ≤ 1048576) ∧ c.plan.splits.length ≤ 8 ∧ ∀ x ∈ c.plan.splits, 0 ≤ x ∧ x ≤ 1048576) := by
  unfold cmM
  exact ((numKC (most := 65535) (by omega)).bind (fun _ => numC.bind (fun _ => numC.bind (fun _ => countC numC (most := 8) (by omega))))).map _ (fun c : Cm => (c.site, (c.plan.cycle, (c.plan.offset, c.plan.splits)))) (fun y hy => ⟨rfl, hy, by simp [smlI, cmI]⟩) (fun x hx => ⟨hx, by simp [smlI, cmI]⟩)
def rpM : Rd → Rp × Rd := mapM' (fun z : Int × (Int × (Int × List Int)) => (⟨z.1, z.2.1.toNat, z.2.2.1, z.2.2.2⟩ : Rp)) (bindM (numK 65535) (fun _ => bindM (numK 3) (fun _ => bindM (numK 1073741824) (fun _ => countM 8 (numK 70368744177664)))))
theorem rpC : Cod rpM (fun r => smlI (rpI r)) (fun r => (0 ≤ r.site ∧ r.site ≤ 65535) ∧ r.mode ≤ 3 ∧ (0 ≤ r.tick ∧ r.tick ≤ 1073741824) ∧ r.loads.length ≤ 8 ∧ ∀ x ∈ r.loads, 0 ≤ x ∧ x ≤ 70368744177664) := by
  unfold rpM
  exact ((numKC (most := 65535) (by omega)).bind (fun _ => (numKC (most := 3) (by omega)).bind (fun _ => (numKC (most := 1073741824) (by omega)).bind (fun _ => countC (numKC (most := 70368744177664) (by omega)) (most := 8) (by omega))))).map _ (fun r : Rp => (r.site, ((r.mode : Int), (r.tick, r.loads)))) (fun y hy => ⟨rfl, ⟨hy.1, ⟨by show (0 : Int) ≤ (y.mode : Int); omega, by show (y.mode : Int) ≤ 3; have := hy.2.1; omega⟩, hy.2.2⟩, by simp [smlI, rpI]⟩) (fun x hx => ⟨⟨hx.1, by have := hx.2.1; show x.2.1.toNat ≤ 3; omega, hx.2.2⟩, by
    have := hx.2.1.1
    simp [smlI, rpI]
    rw [Int.max_eq_left this]⟩)
def ofcB (b : List Nat) : Bool := doneB (cmM (b, false)).2 && decide (cmE (cmM (b, false)).1 = 0)
def ofcC (b : List Nat) : Cm := if ofcB b = true then (cmM (b, false)).1 else cm0
def ofcE (b : List Nat) : Int := if ofcB b = true then 0 else 8
def ofrB (b : List Nat) : Bool := doneB (rpM (b, false)).2
def ofrR (b : List Nat) : Rp := if ofrB b = true then (rpM (b, false)).1 else rp0
def ofrE (b : List Nat) : Int := if ofrB b = true then 0 else 8
theorem wh_one {p : Pl} (h : wholeE [p] = 0) : mayB p = true := by
  unfold wholeE at h
  rw [if_neg (by simp)] at h
  by_cases q : mayL [p] = true
  · exact mayL_iff.1 q p (by simp)
  · rw [if_neg q] at h; omega
theorem cm_ok {c : Cm} (h : cmE c = 0) : (0 ≤ c.site ∧ c.site ≤ 65535) ∧ (0 ≤ c.plan.cycle ∧ c.plan.cycle ≤ 1048576) ∧ (0 ≤ c.plan.offset ∧ c.plan.offset ≤ 1048576) ∧ c.plan.splits.length ≤ 8 ∧ ∀ x ∈ c.plan.splits, 0 ≤ x ∧ x ≤ 1048576 := by
  unfold cmE at h
  by_cases q : 0 ≤ c.site ∧ c.site ≤ 65535
  · rw [if_pos q] at h
    obtain ⟨h1, h2, h3, h4⟩ := may_parts (wh_one h)
    exact ⟨q, by omega, by omega, h3.2, h4⟩
  · rw [if_neg q] at h; omega
theorem rp_ok {r : Rp} (h : rpE r = 0) : (0 ≤ r.site ∧ r.site ≤ 65535) ∧ r.mode ≤ 3 ∧ (0 ≤ r.tick ∧ r.tick ≤ 1073741824) ∧ r.loads.length ≤ 8 ∧ ∀ x ∈ r.loads, 0 ≤ x ∧ x ≤ 70368744177664 := by
  unfold rpE at h
  split at h
  · rename_i q
    split at h
    · omega
    · rename_i q2
      split at h
      · rename_i q3
        exact ⟨q.1, q.2.1, q.2.2, by omega, fun x hx => of_decide_eq_true (List.all_eq_true.1 q3 x hx)⟩
      · omega
  · omega
theorem rp_is {r : Rp} (h : (0 ≤ r.site ∧ r.site ≤ 65535) ∧ r.mode ≤ 3 ∧ (0 ≤ r.tick ∧ r.tick ≤ 1073741824) ∧ r.loads.length ≤ 8 ∧ ∀ x ∈ r.loads, 0 ≤ x ∧ x ≤ 70368744177664) : rpE r = 0 := by
  unfold rpE
  rw [if_pos ⟨h.1, h.2.1, h.2.2.1⟩, if_neg (by omega), if_pos (List.all_eq_true.2 fun x hx => decide_eq_true (h.2.2.2.2 x hx))]
theorem cm_back {c : Cm} (h : cmE c = 0) : ofcB (cmL c) = true ∧ ofcC (cmL c) = c := by
  have hp := cmC.fwd c [] (cm_ok h)
  have hl : cmL c = smlI (cmI c) := if_pos h
  rw [List.append_nil, ← hl] at hp
  have hb : ofcB (cmL c) = true := by
    unfold ofcB
    rw [hp]
    simp [doneB, h]
  refine ⟨hb, ?_⟩
  unfold ofcC
  rw [if_pos hb, hp]
theorem cm_only {b : List Nat} (hb : ∀ x ∈ b, x < 256) (h : ofcB b = true) : cmE (ofcC b) = 0 ∧ cmL (ofcC b) = b := by
  have h' := h
  unfold ofcB doneB at h
  simp only [Bool.and_eq_true, decide_eq_true_eq, Bool.not_eq_true'] at h
  obtain ⟨⟨h1, h2⟩, h3⟩ := h
  have hw := cmC.bwd b hb h1
  rw [h2, List.append_nil] at hw
  have e : ofcC b = (cmM (b, false)).1 := if_pos h'
  rw [e]
  refine ⟨h3, ?_⟩
  unfold cmL
  rw [if_pos h3]
  exact hw.1.symm
theorem rp_back {r : Rp} (h : rpE r = 0) : ofrB (rpL r) = true ∧ ofrR (rpL r) = r := by
  have hp := rpC.fwd r [] (rp_ok h)
  have hl : rpL r = smlI (rpI r) := if_pos h
  rw [List.append_nil, ← hl] at hp
  have hb : ofrB (rpL r) = true := by
    unfold ofrB
    rw [hp]
    simp [doneB]
  refine ⟨hb, ?_⟩
  unfold ofrR
  rw [if_pos hb, hp]
theorem rp_only {b : List Nat} (hb : ∀ x ∈ b, x < 256) (h : ofrB b = true) : rpE (ofrR b) = 0 ∧ rpL (ofrR b) = b := by
  have h' := h
  unfold ofrB doneB at h
  simp only [Bool.and_eq_true, decide_eq_true_eq, Bool.not_eq_true'] at h
  obtain ⟨h1, h2⟩ := h
  have hw := rpC.bwd b hb h1
  rw [h2, List.append_nil] at hw
  have e : ofrR b = (rpM (b, false)).1 := if_pos h'
  rw [e]
  have h3 := rp_is hw.2
  refine ⟨h3, ?_⟩
  unfold rpL
  rw [if_pos h3]
  exact hw.1.symm
theorem cm_len {c : Cm} : (cmL c).length ≤ 120 := by
  unfold cmL
  split
  · rename_i h
    obtain ⟨h1, h2, h3, h4, h5⟩ := cm_ok h
    have := smlI_len (cmI c) (fun y hy => by
      unfold cmI at hy
      simp only [List.mem_append, List.mem_cons, List.not_mem_nil, or_false] at hy
      rcases hy with (rfl | rfl | rfl | rfl) | hy
      · omega
      · omega
      · omega
      · omega
      · have := h5 y hy; omega)
    have e : (cmI c).length = 4 + c.plan.splits.length := by unfold cmI; simp; omega
    omega
  · simp
theorem rp_len {r : Rp} : (rpL r).length ≤ 120 := by
  unfold rpL
  split
  · rename_i h
    obtain ⟨h1, h2, h3, h4, h5⟩ := rp_ok h
    have := smlI_len (rpI r) (fun y hy => by
      unfold rpI at hy
      simp only [List.mem_append, List.mem_cons, List.not_mem_nil, or_false] at hy
      rcases hy with (rfl | rfl | rfl | rfl) | hy
      · omega
      · omega
      · omega
      · omega
      · have := h5 y hy; omega)
    have e : (rpI r).length = 4 + r.loads.length := by unfold rpI; simp; omega
    omega
  · simp

end Go.Proofs.Ytnmfigcemknjbaa
