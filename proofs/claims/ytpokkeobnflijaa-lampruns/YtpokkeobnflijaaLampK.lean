/-
  A draw changes nothing that is kept.
-/
import Derived.Test.YtpokkeobnflijaaLampM
namespace Go.Proofs.Ytpokkeobnflijaa
open Go.RowKit Go.Lib Go.Deep
theorem Kept.drew (w : World) (r : Option Nat) : Kept w w.drew r := ⟨rfl, rfl, rfl, Nat.le_refl _, fun _ _ _ => rfl⟩
end Go.Proofs.Ytpokkeobnflijaa
