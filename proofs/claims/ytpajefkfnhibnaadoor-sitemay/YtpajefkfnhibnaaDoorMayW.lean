/-
  THE WALK of SiteMay.
-/
import Derived.Test.YtpajefkfnhibnaaDoorMayA
import Derived.Test.YtpajefkfnhibnaaDoorMayB
import Derived.Test.YtpajefkfnhibnaaDoorMayC
namespace Go.Proofs.YtpajefkfnhibnaaDoor
open Go.RowKit Go.Lib Go.Deep
set_option linter.unusedVariables false
set_option linter.unusedSimpArgs false

theorem smay_any {X : Sa} {S : St} {w : World} {p : Pl} {pa : Option Addr} {pc : Nat} {a b : Int} (h : Sat w X S) (hI : Ints w pa p.splits.length pc p.splits) (hT : Tabb w) : Calls Tryd.prog 4 #[siteV X S, .int .i64 a, .int .i64 b, planV p pa pc] w fun e w' => e = .returned (.bool true) ∧ Below w.heap.size w w' := by
  cases hs : siteB S
  · exact smay_no h hI hT a b hs
  by_cases hg : 0 ≤ a ∧ a < S.groups.length ∧ 0 ≤ b ∧ b < S.groups.length
  · obtain ⟨a, rfl⟩ : ∃ n : Nat, a = n := ⟨a.toNat, by omega⟩
    obtain ⟨b, rfl⟩ : ∃ n : Nat, b = n := ⟨b.toNat, by omega⟩
    by_cases hp : a < S.phases.length ∧ b < S.phases.length
    · exact smay_tt h hI hT a b hs (by omega) (by omega) hp.1 hp.2
    · exact smay_tf h hI hT a b hs (by omega) (by omega) hp
  · by_cases hp : 0 ≤ a ∧ a < S.phases.length ∧ 0 ≤ b ∧ b < S.phases.length
    · obtain ⟨a, rfl⟩ : ∃ n : Nat, a = n := ⟨a.toNat, by omega⟩
      obtain ⟨b, rfl⟩ : ∃ n : Nat, b = n := ⟨b.toNat, by omega⟩
      exact smay_ft h hI hT a b hs (by omega) (by omega) (by omega)
    · exact smay_ff h hI hT a b hs hg hp

end Go.Proofs.YtpajefkfnhibnaaDoor
