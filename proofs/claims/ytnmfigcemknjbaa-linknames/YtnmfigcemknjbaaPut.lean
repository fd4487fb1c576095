/-
  THE CONTRACTS of raw.Put and raw.Get.
-/
import Derived.Test.YtnmfigcemknjbaaWorld
namespace Go.Proofs.Ytnmfigcemknjbaa
open Go.RowKit Go.Lib Go.Deep
set_option linter.unusedVariables false
set_option linter.unusedSimpArgs false

theorem Try.info5 : (Try.prog.info? 5).map (fun i => (i.zero, i.size, i.bytes)) = some (some (.int .u8 0), 1, 1) := by kernel_rfl

theorem put_step {w : World} {g q k : Nat} {l : List Nat} (h : w.rowIs g 5 q (fun j => .int .u8 ((if j < k then l.getD j 0 else 0 : Nat) : Int))) :
    (w.setCell ⟨g, k, none⟩ (.int .u8 ((l.getD k 0 : Nat) : Int))).rowIs g 5 q (fun j => .int .u8 ((if j < k + 1 then l.getD j 0 else 0 : Nat) : Int)) := by
  refine World.rowIs.congr (World.rowIs.set h k _) (fun i hi => ?_)
  by_cases a : i = k
  · subst a; rw [if_pos rfl, if_pos (by omega)]
  · rw [if_neg a]
    by_cases c : i < k
    · rw [if_pos c, if_pos (by omega)]
    · rw [if_neg c, if_neg (by omega)]

theorem pow_byte (n i : Nat) : ((n : Int) / 2 ^ (8 * i)) = ((n / 256 ^ i : Nat) : Int) := by
  have : (256 : Nat) ^ i = 2 ^ (8 * i) := by rw [Nat.pow_mul]
  rw [this]
  simp
/-! ### Get -/

end Go.Proofs.Ytnmfigcemknjbaa
