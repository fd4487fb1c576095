/-
  THE MATHS of StoreNames: its examples at their numbers.
-/
import Derived.Test.YtabikoipjaggbaaStoQ
namespace Go.Proofs.Ytabikoipjaggbaa
open Go.RowKit Go.Lib Go.Deep
set_option linter.unusedVariables false
set_option linter.unusedSimpArgs false
set_option maxRecDepth 100000

def yDev (t : Nat) : List Nat := doD (ptW a256 1 []) 1 t a256
theorem sn_a : rdE19 z256 = 190 := by decide +kernel
theorem sn_b : foE 1 = 190 ∧ foE 65 = 180 := by decide +kernel
theorem sn_p : ptE z256 2 [p51] = 0 ∧ (ptL z256 2 [p51]).length = 2 := by decide +kernel
def sB (i : Nat) : Pw := (ptW z256 2 [p51]).getD i ⟨0, []⟩
def sC (i : Nat) : Pw := (ptW a256 2 [p51]).getD i ⟨0, []⟩
theorem sn_B : (sB 0).n = 0 ∧ (sB 1).n = 1 ∧ (sB 0).data.length = 64 ∧ (sB 1).data.length = 64 ∧ (sB 0).data.take 16 = [1, 0, 0, 0, 0, 0, 0, 0, 6, 2, 1, 5, 0, 1, 5, 0] ∧ (sB 1).data.getD 56 0 = 1 := by decide +kernel
theorem sn_q : ptE a256 2 [p51] = 0 ∧ (ptL a256 2 [p51]).length = 2 := by decide +kernel
theorem sn_C : (sC 0).n = 2 ∧ (sC 1).n = 3 ∧ (sC 0).data.length = 64 ∧ (sC 1).data.length = 64 ∧ (sC 0).data.getD 0 0 = 2 := by decide +kernel
theorem sn_h : ptE z256 4 [] = 2 := by decide +kernel
theorem sn_i : ptE z256 0 [⟨0, 0, []⟩] = 170 := by decide +kernel
theorem sn_j : slE19 z256 2 = 2 := by decide +kernel
theorem sn_dn : dnB z256 2 [p51] 9 0 = true ∧ dnL z256 2 [p51] 9 0 = a256 := by
  have h := dn_ok al_ok (k := 9) (t := 0) (by omega)
  have e : min 9 (manK z256.length) = 2 := by decide +kernel
  rw [e] at h
  exact h
theorem sn_ok : PtOk a256 1 [] := ⟨by decide +kernel, by omega, by decide +kernel, by decide +kernel⟩
theorem sn_y (t : Nat) (ht : t ≤ 64) : dnB a256 1 [] 1 t = true ∧ dnL a256 1 [] 1 t = yDev t := by
  have h := dn_ok sn_ok (k := 1) (t := t) (by omega)
  have e : min 1 (manK a256.length) = 1 := by decide +kernel
  rw [e] at h
  exact h
theorem sn_g : rdE19 (yDev 56) = 0 ∧ (rdK19 (yDev 56)).gen = 1 ∧ (rdK19 (yDev 56)).mode = 2 := by decide +kernel
theorem sn_o : rdE19 (yDev 57) = 0 ∧ (rdK19 (yDev 57)).gen = 2 ∧ (rdK19 (yDev 57)).mode = 1 := by decide +kernel

end Go.Proofs.Ytabikoipjaggbaa
