import Derived.WalkMore
import Derived.Scope
import Derived.Test.YtfhmfanmnhclfaaDoorP9
import Derived.Deep.RegionHeld
import Derived.Deep.RegionHeld3
import Derived.Deep.RegionHeldLaw
import Derived.BigQuiet
import Derived.Test.YtfhmfanmnhclfaaDoorRows
import Derived.DeepKeys
namespace Go.Proofs.YtfhmfanmnhclfaaDoor
set_option linter.unusedVariables false
set_option linter.unusedSimpArgs false
open Go.RowKit Go.Lib Go.Deep

theorem has_bit (S i : Nat) (h : S < 4294967296) : (bits .and .u32 ((S : Int) / 2 ^ i) 1 == 1) = S.testBit i := by
  have e : ((S : Int) / 2 ^ i) = ((S / 2 ^ i : Nat) : Int) := by simp
  rw [e, show (1 : Int) = ((1 : Nat) : Int) from rfl, u32_and_nat _ _ (Nat.lt_of_le_of_lt (Nat.div_le_self _ _) h) (by omega)]
  rw [Nat.testBit, Nat.and_comm, Nat.shiftRight_eq_div_pow]
  rw [Nat.and_comm, Nat.and_one_is_mod]
  rcases Nat.mod_two_eq_zero_or_one (S / 2 ^ i) with h | h <;> simp [h]
/-! ### All the same -/
/-! ### Two that are apart -/

/-- What a region's facts come from: the site in its box, the standing in a box of its own. -/
structure Two (w W0 : World) (B : Nat) (X : Sa) (S : St) (bf off c : Nat) (F : Sf) : Prop where
  k : Kept w W0 none
  bx : Box W0 w.heap.size (.slice (some ⟨bf, off, none⟩) S.groups.length c) (.int .i64 F.start) (.bool F.flashed)
  sb : Sbox W0 B X S
  cf : ∀ i, i < S.groups.length → ∀ j, j < 3 → W0.cell? ⟨bf, off + i * 3 + j, none⟩ = some (snV (F.g i) j)
theorem Sat.btAt {w : World} {X : Sa} {S : St} (h : Sat w X S) (hSh : Shape S) {a b : Nat} (ha : a < S.groups.length) (hb : b < S.groups.length) : ∃ bb ob br or c, X.b = some ⟨bb, ob, none⟩ ∧ w.cell? ⟨bb, ob + a, none⟩ = some (.slice (some ⟨br, or, none⟩) S.groups.length c) ∧ S.groups.length ≤ c ∧ w.cell? ⟨br, or + b, none⟩ = some (.int .i64 (S.bt a b)) := by
  have hnb := hSh.ok.nb
  obtain ⟨bb, ob, a', c', e, kb, hI⟩ := h.b.at_ (i := a) (by omega)
  have hr := hSh.row a ha
  rw [hr] at kb hI
  obtain ⟨br, or, rfl, _, hc⟩ := hI.at_ (by omega)
  exact ⟨bb, ob, br, or, c', e, kb, hI.cap.room, hc b hb⟩
end Go.Proofs.YtfhmfanmnhclfaaDoor
