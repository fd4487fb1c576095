/-
  THE CONTRACT of eye.Next (made by a program).
-/
import Derived.Test.YtjfajdmifjbblaaDoorEyeD
import Derived.Test.YtjfajdmifjbblaaDoorCheck
import Derived.Deep.RegionHeld
namespace Go.Proofs.YtjfajdmifjbblaaDoor
open Go.RowKit Go.Lib Go.Deep
set_option linter.unusedVariables false
set_option linter.unusedSimpArgs false

theorem cell_kr {w w' : World} {r : Option Nat} {B j : Nat} {v : Value} (h : w.cell? ⟨B, j, none⟩ = some v) (q : Kept w w' r) (hr : some B ≠ r) : w'.cell? ⟨B, j, none⟩ = some v :=
  (World.cell?_of_block (w := w) (a := ⟨B, j, none⟩) (q.block B (block_lt h) hr)).trans h
theorem kept_to {w w' : World} {r : Option Nat} (h : Kept w w' none) : Kept w w' r := ⟨h.os, h.tape, h.output, h.size, fun i hi _ => h.block i hi (by simp)⟩
theorem kept_own {a w : World} {b : Nat} (h : Kept a w (some b)) (j : Nat) (v : Value) : Kept a (w.setCell ⟨b, j, none⟩ v) (some b) :=
  ⟨h.os, h.tape, h.output, by simpa [World.setCell] using h.size, fun i hi hr => (Below.heap_setCell _ _ _ _ (fun e => hr (by rw [e]))).trans (h.block i hi hr)⟩
theorem kept_own5 {a w : World} {b : Nat} (h : Kept a w (some b)) (x0 x1 x2 x3 x4 : Value) : Kept a (set5 w b x0 x1 x2 x3 x4) (some b) := kept_own (kept_own (kept_own (kept_own (kept_own h 0 _) 1 _) 2 _) 3 _) 4 _
/-- What a site that may be tells of its detectors. -/
structure EyeF (S : St) : Prop where
  n : S.eyes.length ≤ 24
  p : S.phases.length ≤ 8
  h0 : 1 ≤ S.heal
  h1 : S.heal ≤ 1048576
  ey : ∀ i, i < S.eyes.length → 0 ≤ (S.ey i).phase ∧ (S.ey i).phase ≤ (S.phases.length : Int) - 1 ∧ 1 ≤ (S.ey i).on ∧ (S.ey i).on ≤ 1048576 ∧ 1 ≤ (S.ey i).off ∧ (S.ey i).off ≤ 1048576 ∧ 1 ≤ (S.ey i).turns ∧ (S.ey i).turns ≤ 64
theorem eye_facts {S : St} (hs : siteB S = true) : EyeF S := by
  unfold siteB countsB ownB at hs
  simp only [Bool.and_eq_true, inB_iff, timeB, decide_eq_true_eq, allB_iff] at hs
  obtain ⟨⟨⟨⟨⟨⟨⟨⟨⟨⟨⟨⟨⟨⟨_, _⟩, _⟩, hp⟩, he⟩, _⟩, ⟨⟨_, _⟩, _⟩, hh⟩, _⟩, _⟩, _⟩, _⟩, _⟩, hy⟩, _⟩, _⟩ := hs
  refine ⟨he, by omega, hh.1, hh.2, fun i hi => ?_⟩
  have := hy i hi
  unfold eyeB at this
  simp only [Bool.and_eq_true, inB_iff, timeB] at this
  omega
def nxE (S : St) (i : Int) (x : Lk) : Int := if siteB S = true then (if 0 ≤ i ∧ i < (S.eyes.length : Int) then (if mayK x = true then 0 else 8) else 2) else 50
def nxK (S : St) (i : Int) (x : Lk) (u : Bool) : Lk := if nxE S i x = 0 then stepK (S.ey i.toNat) S.heal x u else Lk.zero
theorem nxE_zero {S : St} {i : Int} {x : Lk} (h : nxE S i x = 0) : siteB S = true ∧ 0 ≤ i ∧ i < (S.eyes.length : Int) ∧ mayK x = true := by
  unfold nxE at h
  split at h
  · split at h
    · split at h
      · rename_i a b c; exact ⟨a, b.1, b.2, c⟩
      · omega
    · omega
  · omega
theorem nxK_no {S : St} {i : Int} {x : Lk} (u : Bool) (h : nxE S i x ≠ 0) : nxK S i x u = Lk.zero := by unfold nxK; rw [if_neg h]
end Go.Proofs.YtjfajdmifjbblaaDoor
