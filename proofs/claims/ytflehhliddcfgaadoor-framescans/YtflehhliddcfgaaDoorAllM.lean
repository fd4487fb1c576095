/-
  MESSAGES FOUND END BY END: what is found in the first k bytes, and the place of the last end.
-/
import Derived.Test.YtflehhliddcfgaaDoorFrmM
namespace Go.Proofs.YtflehhliddcfgaaDoor
set_option linter.unusedVariables false

theorem spec_take (L : List Nat) (k : Nat) (h : k < L.length) : spec (L.take (k + 1)) = sst (spec (L.take k)) (L.getD k 0) := by
  unfold spec
  rw [takeN_snoc L k h, List.foldl_append]
  rfl
/-- The piece under way. -/
def pceK (L : List Nat) (k : Nat) : List Nat := (L.take k).drop ((lastK L k).toNat + 1)
theorem spec_piece (L : List Nat) : ∀ k, k ≤ L.length → (spec (L.take k)).1 = if lastK L k < 0 then none else some (pceK L k)
  | 0, _ => by simp [spec, lastK]
  | k + 1, h => by
    have ih := spec_piece L k (by omega)
    rw [spec_take L k (by omega)]
    unfold sst
    by_cases hx : L.getD k 0 = 126
    · rw [if_pos hx]
      have hl : lastK L (k + 1) = (k : Int) := by rw [lastK, if_pos hx]
      unfold pceK
      rw [hl, if_neg (by omega)]
      have : ((k : Int).toNat + 1) = k + 1 := by omega
      rw [this, List.drop_of_length_le (by simp; omega)]
    · rw [if_neg hx]
      have hl : lastK L (k + 1) = lastK L k := by rw [lastK, if_neg hx]
      have hb := lastK_le L k
      simp only [ih]
      unfold pceK
      rw [hl]
      by_cases hn : lastK L k < 0
      · rw [if_pos hn, if_pos hn]; rfl
      · rw [if_neg hn, if_neg hn]
        simp only [Option.map_some]
        rw [takeN_snoc L k (by omega), List.drop_append_of_le_length (by simp; omega)]
def outK (L : List Nat) (k : Nat) : List Msg := (spec (L.take k)).2
theorem outK_skip (L : List Nat) (k : Nat) (h : k < L.length) (hx : L.getD k 0 ≠ 126) : outK L (k + 1) = outK L k ∧ lastK L (k + 1) = lastK L k := by
  refine ⟨?_, by rw [lastK, if_neg hx]⟩
  unfold outK
  rw [spec_take L k h, sst, if_neg hx]
theorem lastK_end (L : List Nat) (k : Nat) (hx : L.getD k 0 = 126) : lastK L (k + 1) = (k : Int) := by rw [lastK, if_pos hx]
theorem outK_none (L : List Nat) (k : Nat) (h : k < L.length) (hx : L.getD k 0 = 126) (hn : lastK L k < 0) : outK L (k + 1) = outK L k := by
  have hp := spec_piece L k (by omega)
  rw [if_pos hn] at hp
  unfold outK
  rw [spec_take L k h, sst, if_pos hx, hp]
  simp
theorem outK_some (L : List Nat) (k : Nat) (h : k < L.length) (hx : L.getD k 0 = 126) (hn : 0 ≤ lastK L k) : outK L (k + 1) = outK L k ++ msgOf (pceK L k) := by
  have hp := spec_piece L k (by omega)
  rw [if_neg (by omega)] at hp
  unfold outK
  rw [spec_take L k h, sst, if_pos hx, hp]
theorem pceK_len (L : List Nat) (k : Nat) (h : k ≤ L.length) (hn : 0 ≤ lastK L k) : (pceK L k).length = k - ((lastK L k).toNat + 1) := by
  unfold pceK; simp; omega
theorem msgOf_big (P : List Nat) (h : 1099 ≤ P.length) : msgOf P = [] := by
  unfold msgOf
  cases hb : bareO P with
  | none => rfl
  | some M =>
    have hs := (bareO_iff P M).1 hb
    have hl := (stuff_len M).2
    rw [hs] at hl
    have hf : opnB M = false := by
      cases e : opnB M with
      | false => rfl
      | true => have := (opnB_iff M).1 e; omega
    simp [opn, hf]
theorem msgOf_bad (P : List Nat) (h : bareE P ≠ 0) : msgOf P = [] := by
  unfold bareE at h
  unfold msgOf bareO
  split at h
  · exact absurd rfl h
  · rename_i hw; rw [if_neg hw]
theorem msgOf_shut (P : List Nat) (h : bareE P = 0) (h2 : opnE (bareL P) ≠ 0) : msgOf P = [] := by
  unfold bareE at h
  split at h
  · rename_i hw
    unfold msgOf bareO
    rw [if_pos hw]
    unfold bareL at h2
    rw [if_pos hw] at h2
    unfold opnE at h2
    split at h2
    · exact absurd rfl h2
    · rename_i ho; simp [opn, ho]
  · cases h
theorem msgOf_open (P : List Nat) (h : bareE P = 0) (h2 : opnE (bareL P) = 0) : msgOf P = [opnM (bareL P)] := by
  unfold bareE at h
  split at h
  · rename_i hw
    unfold msgOf bareO
    rw [if_pos hw]
    unfold bareL at h2 ⊢
    rw [if_pos hw] at h2 ⊢
    unfold opnE at h2
    split at h2
    · rename_i ho; simp [opn, ho]
    · cases h2
  · cases h
theorem outK_count (L : List Nat) (k : Nat) (h : k ≤ L.length) : (outK L k).length ≤ k := by
  induction k with
  | zero => simp [outK, spec]
  | succ k ih =>
    have ih := ih (by omega)
    by_cases hx : L.getD k 0 = 126
    · by_cases hn : lastK L k < 0
      · rw [outK_none L k (by omega) hx hn]; omega
      · rw [outK_some L k (by omega) hx (by omega)]
        have : (msgOf (pceK L k)).length ≤ 1 := by
          unfold msgOf
          split
          · unfold opn; split <;> simp
          · simp
        rw [List.length_append]; omega
    · rw [(outK_skip L k (by omega) hx).1]; omega

end Go.Proofs.YtflehhliddcfgaaDoor
