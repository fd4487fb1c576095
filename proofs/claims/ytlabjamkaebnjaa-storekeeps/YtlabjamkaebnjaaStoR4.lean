/-
  THE DOCUMENT's Blocks, whatever is asked: it tells what the program's tells.
-/
import Derived.Test.YtlabjamkaebnjaaStoR3
namespace Go.Proofs.Ytlabjamkaebnjaa
open Go.RowKit Go.Lib Go.Deep
set_option linter.unusedVariables false
set_option linter.unusedSimpArgs false

theorem rblocks19_any {pa : Option Addr} {n c : Nat} {l : List Pl} {g : Int} {m : Nat} {many : Int} {w : World} (hP : Plans w pa n c l) : Calls Try.prog 30 #[kpV g m pa n c, .int .i64 many] w (StoP w g m l many) := by
  have fin : ∀ {E : Int}, stoE g m l many = E → E ≠ 0 → ∀ e w', (e = .returned (.tuple #[.slice none 0 0, .int .i64 E]) ∧ Kept w w' none) → StoP w g m l many e w' := by
    rintro E hE h0 e w' ⟨rfl, hk⟩
    exact sto_no hE h0 hk
  by_cases h1 : many < 1
  · exact (rblocks_1 w h1).mono (fin (by unfold stoE; rw [if_neg (by omega)]) (by decide))
  by_cases h2 : 32 < many
  · exact (rblocks_2 w h1 h2).mono (fin (by unfold stoE; rw [if_neg (by omega)]) (by decide))
  obtain ⟨k, rfl⟩ := Int.eq_ofNat_of_zero_le (show 0 ≤ many by omega)
  have hE : stoE g m l (k : Int) = if 1 ≤ g ∧ g < (gtop : Int) ∧ m ≤ 3 then pieE m l k else 190 := by
    unfold stoE
    rw [if_pos (by omega), Int.toNat_natCast]
  by_cases hm : mayE19 g m l = 0
  · have hc : 1 ≤ g ∧ g < (gtop : Int) ∧ m ≤ 3 := by
      unfold mayE19 at hm
      split at hm
      · assumption
      · exact absurd hm (by decide)
    have hw : wholeE l = 0 := by
      unfold mayE19 at hm
      rw [if_pos hc] at hm
      exact hm
    rw [if_pos hc] at hE
    have hc2 : g < 4611686018427387904 := by have := hc.2.1; unfold gtop at this; omega
    by_cases hf : (toldK m l).length ≤ 48 * k
    · have hp : pieE m l k = 0 := by unfold pieE; rw [if_pos hw, if_pos hf]
      have hL : stoL g m l (k : Int) = blsK g.toNat m l k := by
        unfold stoL
        rw [hE, if_pos hp, Int.toNat_natCast]
      refine (rblocks_5 hP (by omega) (by omega) hc.1 hc2 hc.2.2 hw hf).mono ?_
      rintro e w' ⟨a, c2, rfl, hb, hk⟩
      refine ⟨a, c2, ?_, ?_, hk⟩
      · rw [hL, bls_len, hE, hp]
      · rw [hL, bls_len]
        exact hb
    · have hp : pieE m l k = 190 := by unfold pieE; rw [if_pos hw, if_neg hf]
      exact (rblocks_4 hP (by omega) (by omega) hc.1 hc2 hc.2.2 hw (by omega)).mono (fin (hE.trans hp) (by decide))
  · refine (rblocks_3 hP h1 h2 hm).mono (fin ?_ hm)
    rw [hE]
    unfold mayE19 at hm ⊢
    by_cases hc : 1 ≤ g ∧ g < (gtop : Int) ∧ m ≤ 3
    · rw [if_pos hc] at hm ⊢
      rw [if_pos hc]
      unfold pieE
      rw [if_neg hm]
    · rw [if_neg hc, if_neg hc]

end Go.Proofs.Ytlabjamkaebnjaa
