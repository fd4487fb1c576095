/-
  PulseParts' walk, the main way (made by a program).
-/
import Derived.Test.YtbgnllpgogbmfaaPParMid
import Derived.Test.YtbgnllpgogbmfaaPParEnd
import Derived.Test.YtbgnllpgogbmfaaPParOut
import Derived.Test.YtbgnllpgogbmfaaPParNul
namespace Go.Proofs.Ytbgnllpgogbmfaa
open Go.RowKit Go.Lib Go.Deep
set_option linter.unusedVariables false
set_option linter.unusedSimpArgs false

theorem pparts_any (p : Pu) (t h : Int) {a : Option Addr} {n c : Nat} {L : List Bool} {w : World} (hA : Bo w a n L) (hnil : a = none → c = 0) (hc : n ≤ c) (hcm : c ≤ 9223372036854775807) : Calls Try.prog 7 #[puV p, .slice a n c, .int .i64 t, .int .i64 h] w fun e w' => e = .returned (.bool true) ∧ Kept w w' none := by
  by_cases hl : 400 < n
  · exact pparts_long p t h hA hl
  by_cases h1 : t < 0
  · exact pparts_less p t h hA (by omega) h1
  by_cases h2 : (n : Int) < t
  · exact pparts_more p t h hA (by omega) (by omega) h2
  obtain ⟨k, rfl⟩ : ∃ k : Nat, t = (k : Int) := ⟨t.toNat, by omega⟩
  cases hp : mayP p with
  | false => exact pparts_no p k h 8 hA (fun m hm => by unfold runE; rw [hp]; rfl) (by decide) (by omega) (by omega) hc hcm
  | true =>
    cases hh : holB h with
    | false => exact pparts_no p k h 2 hA (fun m hm => by unfold runE; rw [hp, hh, if_pos rfl, if_neg (by omega)]; rfl) (by decide) (by omega) (by omega) hc hcm
    | true =>
      by_cases hk : k < n
      · obtain ⟨b, off, rfl, _, _⟩ := hA.at_ (by omega)
        exact pparts_mid p h hA hp hh (by omega) hk hc hcm
      · obtain rfl : k = n := by omega
        by_cases hcn : c = k
        · subst hcn
          exact pparts_end p h hA hp hh (by omega) hcm
        · cases a with
          | none => have := hnil rfl; omega
          | some x =>
            by_cases h0 : 0 < k
            · obtain ⟨b, off, e, _, _⟩ := hA.at_ h0
              injection e with e
              subst e
              exact pparts_out p h hA hp hh (by omega) (by omega) hcm
            · obtain rfl : k = 0 := by omega
              exact pparts_nul p h hA hp hh (by omega) (by omega) hcm

end Go.Proofs.Ytbgnllpgogbmfaa
