/-
  THE CONTRACTS of the document's May, Wants, count (made by a program).
-/
import Derived.Test.YtjfajdmifjbblaaDoorEyeM
import Derived.Test.YtjfajdmifjbblaaDoorFits
import Derived.Test.YtjfajdmifjbblaaDoorRows
import Derived.DeepKeys
import Derived.Deep.QuietTactic
import Derived.BigQuiet
namespace Go.Proofs.YtjfajdmifjbblaaDoor
open Go.RowKit Go.Lib Go.Deep
set_option linter.unusedVariables false
set_option linter.unusedSimpArgs false

set_option maxHeartbeats 1000000 in
theorem rmay_a (u : Bool) (a z : Int) (b : Bool) (c : Int) (w : World) (ha : a < 0) : Calls Tryd.prog 37 #[lkV ⟨u, a, z, b, c⟩] w fun e w' => e = .returned (.bool (mayK ⟨u, a, z, b, c⟩)) ∧ Kept w w' none := by
  rw [show mayK ⟨u, a, z, b, c⟩ = false by unfold mayK; dsimp only; rw [inB_no.2 (show a < 0 ∨ 1048576 < a by omega)]; rfl]
  go_enter Tryd.func37, Tryd.ntmps37
  go_wp2
  go_ret
  exact ⟨ret_bool (by simp), Kept.alloc _ _ _ _ _⟩
set_option maxHeartbeats 1000000 in
theorem rmay_x (u : Bool) (a z : Int) (b : Bool) (c : Int) (w : World) (ha : 0 ≤ a) (hx : 1048576 < a) : Calls Tryd.prog 37 #[lkV ⟨u, a, z, b, c⟩] w fun e w' => e = .returned (.bool (mayK ⟨u, a, z, b, c⟩)) ∧ Kept w w' none := by
  rw [show mayK ⟨u, a, z, b, c⟩ = false by unfold mayK; dsimp only; rw [inB_no.2 (show a < 0 ∨ 1048576 < a by omega)]; rfl]
  go_enter Tryd.func37, Tryd.ntmps37
  go_wp2
  go_ret
  exact ⟨ret_bool (by simp), Kept.alloc _ _ _ _ _⟩
set_option maxHeartbeats 1000000 in
theorem rmay_c (u : Bool) (a z : Int) (b : Bool) (c : Int) (w : World) (ha : 0 ≤ a) (hx : a ≤ 1048576) (hc : c < 0) : Calls Tryd.prog 37 #[lkV ⟨u, a, z, b, c⟩] w fun e w' => e = .returned (.bool (mayK ⟨u, a, z, b, c⟩)) ∧ Kept w w' none := by
  rw [show mayK ⟨u, a, z, b, c⟩ = false by unfold mayK; dsimp only; rw [inB_iff.2 (show 0 ≤ a ∧ a ≤ 1048576 by omega), inB_no.2 (show c < 0 ∨ 1048576 < c by omega)]; rfl]
  go_enter Tryd.func37, Tryd.ntmps37
  go_wp2
  go_ret
  exact ⟨ret_bool (by simp), Kept.alloc _ _ _ _ _⟩
set_option maxHeartbeats 1000000 in
theorem rmay_y (u : Bool) (a z : Int) (b : Bool) (c : Int) (w : World) (ha : 0 ≤ a) (hx : a ≤ 1048576) (hc : 0 ≤ c) (hy : 1048576 < c) : Calls Tryd.prog 37 #[lkV ⟨u, a, z, b, c⟩] w fun e w' => e = .returned (.bool (mayK ⟨u, a, z, b, c⟩)) ∧ Kept w w' none := by
  rw [show mayK ⟨u, a, z, b, c⟩ = false by unfold mayK; dsimp only; rw [inB_iff.2 (show 0 ≤ a ∧ a ≤ 1048576 by omega), inB_no.2 (show c < 0 ∨ 1048576 < c by omega)]; rfl]
  go_enter Tryd.func37, Tryd.ntmps37
  go_wp2
  go_ret
  exact ⟨ret_bool (by simp), Kept.alloc _ _ _ _ _⟩
set_option maxHeartbeats 1000000 in
theorem rmay_b (u : Bool) (a z : Int) (b : Bool) (c : Int) (w : World) (ha : 0 ≤ a) (hx : a ≤ 1048576) (hc : 0 ≤ c) (hy : c ≤ 1048576) (hb : b = true) : Calls Tryd.prog 37 #[lkV ⟨u, a, z, b, c⟩] w fun e w' => e = .returned (.bool (mayK ⟨u, a, z, b, c⟩)) ∧ Kept w w' none := by
  rw [show mayK ⟨u, a, z, b, c⟩ = true by unfold mayK; dsimp only; rw [inB_iff.2 (show 0 ≤ a ∧ a ≤ 1048576 by omega), inB_iff.2 (show 0 ≤ c ∧ c ≤ 1048576 by omega), hb]; rfl]
  subst hb
  go_enter Tryd.func37, Tryd.ntmps37
  go_wp2
  go_ret
  exact ⟨ret_bool (by simp), Kept.alloc _ _ _ _ _⟩
set_option maxHeartbeats 1000000 in
theorem rmay_z (u : Bool) (a z : Int) (b : Bool) (c : Int) (w : World) (ha : 0 ≤ a) (hx : a ≤ 1048576) (hc : 0 ≤ c) (hy : c ≤ 1048576) (hb : b = false) (h0 : c = 0) : Calls Tryd.prog 37 #[lkV ⟨u, a, z, b, c⟩] w fun e w' => e = .returned (.bool (mayK ⟨u, a, z, b, c⟩)) ∧ Kept w w' none := by
  rw [show mayK ⟨u, a, z, b, c⟩ = true by unfold mayK; dsimp only; rw [inB_iff.2 (show 0 ≤ a ∧ a ≤ 1048576 by omega), inB_iff.2 (show 0 ≤ c ∧ c ≤ 1048576 by omega), hb]; simp [h0]]
  subst hb h0
  go_enter Tryd.func37, Tryd.ntmps37
  go_wp2
  go_ret
  exact ⟨ret_bool (by simp), Kept.alloc _ _ _ _ _⟩
set_option maxHeartbeats 1000000 in
theorem rmay_n (u : Bool) (a z : Int) (b : Bool) (c : Int) (w : World) (ha : 0 ≤ a) (hx : a ≤ 1048576) (hc : 0 ≤ c) (hy : c ≤ 1048576) (hb : b = false) (h0 : ¬ c = 0) : Calls Tryd.prog 37 #[lkV ⟨u, a, z, b, c⟩] w fun e w' => e = .returned (.bool (mayK ⟨u, a, z, b, c⟩)) ∧ Kept w w' none := by
  rw [show mayK ⟨u, a, z, b, c⟩ = false by unfold mayK; dsimp only; rw [inB_iff.2 (show 0 ≤ a ∧ a ≤ 1048576 by omega), inB_iff.2 (show 0 ≤ c ∧ c ≤ 1048576 by omega), hb]; simp [h0]]
  have hn2 : (c == 0) = false := by simpa using h0
  clear h0
  subst hb
  go_enter Tryd.func37, Tryd.ntmps37
  go_wp2
  go_ret
  exact ⟨ret_bool (by simp), Kept.alloc _ _ _ _ _⟩
theorem rmay_any (x : Lk) (w : World) : Calls Tryd.prog 37 #[lkV x] w fun e w' => e = .returned (.bool (mayK x)) ∧ Kept w w' none := by
  obtain ⟨u, a, z, b, c⟩ := x
  by_cases ha : a < 0
  · exact rmay_a u a z b c w ha
  by_cases hx : 1048576 < a
  · exact rmay_x u a z b c w (by omega) hx
  by_cases hc : c < 0
  · exact rmay_c u a z b c w (by omega) (by omega) hc
  by_cases hy : 1048576 < c
  · exact rmay_y u a z b c w (by omega) (by omega) (by omega) hy
  cases hb : b
  · by_cases h0 : c = 0
    · exact rmay_z u a z _ c w (by omega) (by omega) (by omega) (by omega) rfl h0
    · exact rmay_n u a z _ c w (by omega) (by omega) (by omega) (by omega) rfl h0
  · exact rmay_b u a z _ c w (by omega) (by omega) (by omega) (by omega) rfl
theorem rwants_y (a z c : Int) (b : Bool) (w : World) : Calls Tryd.prog 26 #[lkV ⟨true, a, z, b, c⟩] w fun e w' => e = .returned (.bool (true || b)) ∧ Kept w w' none := by
  go_enter Tryd.func26, Tryd.ntmps26
  go_wp2
  go_ret
  exact ⟨by simp, Kept.alloc _ _ _ _ _⟩
theorem rwants_n (a z c : Int) (b : Bool) (w : World) : Calls Tryd.prog 26 #[lkV ⟨false, a, z, b, c⟩] w fun e w' => e = .returned (.bool (false || b)) ∧ Kept w w' none := by
  go_enter Tryd.func26, Tryd.ntmps26
  go_wp2
  go_ret
  exact ⟨by simp, Kept.alloc _ _ _ _ _⟩
theorem rwants_any (x : Lk) (w : World) : Calls Tryd.prog 26 #[lkV x] w fun e w' => e = .returned (.bool (x.up || x.bad)) ∧ Kept w w' none := by
  obtain ⟨u, a, z, b, c⟩ := x
  cases u
  · exact rwants_n a z c b w
  · exact rwants_y a z c b w
theorem rcount_of (v : Int) (S : Nat) (w : World) (hv : v = (S : Int)) (hS : S < 4294967296) : Calls Tryd.prog 55 #[.int .u32 v] w fun e w' => e = .returned (.int .i64 ((cnt S 32 : Nat) : Int)) ∧ w' = w := by
  subst hv
  exact rcount_any S w hS
theorem b4_alloc {w : World} {v0 v1 v2 v3 : Value} {t : TypeId} {n : Nat} (h : w.heap.size = n) : (w.alloc (.cells #[v0, v1, v2, v3] t)).cell? ⟨n, 0, none⟩ = some v0 ∧ (w.alloc (.cells #[v0, v1, v2, v3] t)).cell? ⟨n, 1, none⟩ = some v1 ∧ (w.alloc (.cells #[v0, v1, v2, v3] t)).cell? ⟨n, 2, none⟩ = some v2 ∧ (w.alloc (.cells #[v0, v1, v2, v3] t)).cell? ⟨n, 3, none⟩ = some v3 := by
  subst h
  exact ⟨World.cell?_alloc_mark .., World.cell?_alloc_mark .., World.cell?_alloc_mark .., World.cell?_alloc_mark ..⟩

end Go.Proofs.YtjfajdmifjbblaaDoor
