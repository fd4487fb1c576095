/-
  Texts joined: some of those that the proofs of this seat stand on.
-/
import Derived.Test.YtkgimccffggfdaaDoorWorld
import Derived.OwnWalk
import Derived.Deep.DeepAppendRoom
import Derived.Deep.AppendLies
/-
  THE CONTRACTS of raw.Put and raw.Get.
-/
namespace Go.Proofs.YtkgimccffggfdaaDoor
open Go.RowKit Go.Lib Go.Deep
set_option linter.unusedVariables false
set_option linter.unusedSimpArgs false

theorem Tryd.info5 : (Tryd.prog.info? 5).map (fun i => (i.zero, i.size, i.bytes)) = some (some (.int .u8 0), 1, 1) := by kernel_rfl

theorem put_step {w : World} {g q k : Nat} {l : List Nat} (h : w.rowIs g 5 q (fun j => .int .u8 ((if j < k then l.getD j 0 else 0 : Nat) : Int))) :
    (w.setCell ⟨g, k, none⟩ (.int .u8 ((l.getD k 0 : Nat) : Int))).rowIs g 5 q (fun j => .int .u8 ((if j < k + 1 then l.getD j 0 else 0 : Nat) : Int)) := by
  refine World.rowIs.congr (World.rowIs.set h k _) (fun i hi => ?_)
  by_cases a : i = k
  · subst a; rw [if_pos rfl, if_pos (by omega)]
  · rw [if_neg a]
    by_cases c : i < k
    · rw [if_pos c, if_pos (by omega)]
    · rw [if_neg c, if_neg (by omega)]

theorem pow_byte (n i : Nat) : ((n : Int) / 2 ^ (8 * i)) = ((n / 256 ^ i : Nat) : Int) := by
  have : (256 : Nat) ^ i = 2 ^ (8 * i) := by rw [Nat.pow_mul]
  rw [this]
  simp
/-! ### Get -/

end Go.Proofs.YtkgimccffggfdaaDoor

/-
  THE CONTRACT of raw.Small.
-/
namespace Go.Proofs.YtkgimccffggfdaaDoor
open Go.RowKit Go.Lib Go.Deep
set_option linter.unusedVariables false
set_option linter.unusedSimpArgs false

/-- A slice of the call's own: its bytes are L. -/
abbrev Own (w : World) (base g n cap : Nat) (L : List Nat) : Prop := w.ownsRow base 5 1 (.slice (some ⟨g, 0, none⟩) n cap) n (L.map byteV)
theorem Own.by {w : World} {base g n cap : Nat} {L : List Nat} (h : Own w base g n cap L) (hn : n ≤ 9223372036854775807) (hb : ∀ x ∈ L, x < 256) : By w (some ⟨g, 0, none⟩) n L := by
  have hl : L.length = n := by have := h.1; simpa using this
  refine ⟨hl, hn, hb, fun hp => ⟨g, 0, rfl, (h.lt g rfl).2, fun i hi => ?_⟩⟩
  have := h.cellAt i (by omega)
  rw [Nat.zero_add]
  rw [this]
  have hi' : i < L.length := by omega
  simp [hi']
theorem own_snoc {w : World} {base g n cap : Nat} {L : List Nat} {x : Nat} (hn : n = L.length) (h : w.ownsRow base 5 1 (.slice (some ⟨g, 0, none⟩) (n + 1) cap) (n + 1) (L.map byteV ++ [.int .u8 (x : Int)])) : Own w base g (L ++ [x]).length cap (L ++ [x]) := by
  subst hn
  unfold Own
  rw [List.length_append, List.map_append]
  exact h
theorem or128 : ∀ x, x < 256 → x ||| 128 = x % 128 + 128 := by decide +kernel
theorem byte_or (n : Nat) : bits .or .u8 ((n : Int) % 256) 128 = ((n % 128 + 128 : Nat) : Int) := by
  have h := u8_or_nat (n % 256) 128 (by omega) (by omega)
  rw [or128 _ (by omega)] at h
  have e : ((n : Int) % 256) = ((n % 256 : Nat) : Int) := by omega
  rw [e]
  refine Eq.trans h ?_
  omega


end Go.Proofs.YtkgimccffggfdaaDoor

