/-
  THE CONTRACT of raw.Small.
-/
import Derived.Test.YtpfbdandhdapcaaPut
import Derived.OwnWalk
import Derived.Deep.DeepAppendRoom
import Derived.Deep.AppendLies
namespace Go.Proofs.Ytpfbdandhdapcaa
open Go.RowKit Go.Lib Go.Deep
set_option linter.unusedVariables false
set_option linter.unusedSimpArgs false

/-- A slice of the call's own: its bytes are L. -/
abbrev Own (w : World) (base g n cap : Nat) (L : List Nat) : Prop := w.ownsRow base 5 1 (.slice (some ⟨g, 0, none⟩) n cap) n (L.map byteV)
theorem Own.by {w : World} {base g n cap : Nat} {L : List Nat} (h : Own w base g n cap L) (hn : n ≤ 9223372036854775807) (hb : ∀ x ∈ L, x < 256) : By w (some ⟨g, 0, none⟩) n L := by
  have hl : L.length = n := by have := h.1; simpa using this
  refine ⟨hl, hn, hb, fun hp => ⟨g, 0, rfl, (h.lt g rfl).2, fun i hi => ?_⟩⟩
  have := h.cellAt i (by omega)
  rw [Nat.zero_add]
  rw [this]
  have hi' : i < L.length := by omega
  simp [hi']
theorem own_snoc {w : World} {base g n cap : Nat} {L : List Nat} {x : Nat} (hn : n = L.length) (h : w.ownsRow base 5 1 (.slice (some ⟨g, 0, none⟩) (n + 1) cap) (n + 1) (L.map byteV ++ [.int .u8 (x : Int)])) : Own w base g (L ++ [x]).length cap (L ++ [x]) := by
  subst hn
  unfold Own
  rw [List.length_append, List.map_append]
  exact h
theorem or128 : ∀ x, x < 256 → x ||| 128 = x % 128 + 128 := by decide +kernel
theorem byte_or (n : Nat) : bits .or .u8 ((n : Int) % 256) 128 = ((n % 128 + 128 : Nat) : Int) := by
  have h := u8_or_nat (n % 256) 128 (by omega) (by omega)
  rw [or128 _ (by omega)] at h
  have e : ((n : Int) % 256) = ((n % 256 : Nat) : Int) := by omega
  rw [e]
  refine Eq.trans h ?_
  omega


end Go.Proofs.Ytpfbdandhdapcaa
