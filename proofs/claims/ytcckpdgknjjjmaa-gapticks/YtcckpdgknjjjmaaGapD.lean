/-
  THE CONTRACTS of the document's May, Next, Past and Share for gaps (made by a program).
-/
import Derived.Test.YtcckpdgknjjjmaaGapE
import Derived.Test.YtcckpdgknjjjmaaFixR
namespace Go.Proofs.Ytcckpdgknjjjmaa
open Go.RowKit Go.Lib Go.Deep
set_option linter.unusedVariables false
set_option linter.unusedSimpArgs false

set_option maxHeartbeats 1000000 in
theorem rmay_a0 (u : Bool) (a b c z : Int) (w : World) (h0 : 0 ≤ z) (h1 : z < 18446744073709551616) (i0 : a < 0) : Calls Try.prog 23 #[gaV ⟨u, a, b, c, z⟩] w fun e w' => e = .returned (.bool false) ∧ Kept w w' none := by
  go_enter Try.func23, Try.ntmps23
  go_wp2
  go_ret
  exact ⟨ret_bool (by simp), Kept.alloc _ _ _ _ _⟩
set_option maxHeartbeats 1000000 in
theorem rmay_a1 (u : Bool) (a b c z : Int) (w : World) (h0 : 0 ≤ z) (h1 : z < 18446744073709551616) (i0 : ¬ a < 0) (i1 : 1048576 < a) : Calls Try.prog 23 #[gaV ⟨u, a, b, c, z⟩] w fun e w' => e = .returned (.bool false) ∧ Kept w w' none := by
  go_enter Try.func23, Try.ntmps23
  go_wp2
  go_ret
  exact ⟨ret_bool (by simp), Kept.alloc _ _ _ _ _⟩
set_option maxHeartbeats 1000000 in
theorem rmay_b0 (u : Bool) (a b c z : Int) (w : World) (h0 : 0 ≤ z) (h1 : z < 18446744073709551616) (i0 : ¬ a < 0) (i1 : ¬ 1048576 < a) (i2 : b < 0) : Calls Try.prog 23 #[gaV ⟨u, a, b, c, z⟩] w fun e w' => e = .returned (.bool false) ∧ Kept w w' none := by
  go_enter Try.func23, Try.ntmps23
  go_wp2
  go_ret
  exact ⟨ret_bool (by simp), Kept.alloc _ _ _ _ _⟩
set_option maxHeartbeats 1000000 in
theorem rmay_b1 (u : Bool) (a b c z : Int) (w : World) (h0 : 0 ≤ z) (h1 : z < 18446744073709551616) (i0 : ¬ a < 0) (i1 : ¬ 1048576 < a) (i2 : ¬ b < 0) (i3 : 1048576 < b) : Calls Try.prog 23 #[gaV ⟨u, a, b, c, z⟩] w fun e w' => e = .returned (.bool false) ∧ Kept w w' none := by
  go_enter Try.func23, Try.ntmps23
  go_wp2
  go_ret
  exact ⟨ret_bool (by simp), Kept.alloc _ _ _ _ _⟩
set_option maxHeartbeats 1000000 in
theorem rmay_c0 (u : Bool) (a b c z : Int) (w : World) (h0 : 0 ≤ z) (h1 : z < 18446744073709551616) (i0 : ¬ a < 0) (i1 : ¬ 1048576 < a) (i2 : ¬ b < 0) (i3 : ¬ 1048576 < b) (i4 : c < 0) : Calls Try.prog 23 #[gaV ⟨u, a, b, c, z⟩] w fun e w' => e = .returned (.bool false) ∧ Kept w w' none := by
  go_enter Try.func23, Try.ntmps23
  go_wp2
  go_ret
  exact ⟨ret_bool (by simp), Kept.alloc _ _ _ _ _⟩
set_option maxHeartbeats 1000000 in
theorem rmay_c1 (u : Bool) (a b c z : Int) (w : World) (h0 : 0 ≤ z) (h1 : z < 18446744073709551616) (i0 : ¬ a < 0) (i1 : ¬ 1048576 < a) (i2 : ¬ b < 0) (i3 : ¬ 1048576 < b) (i4 : ¬ c < 0) (i5 : 1073741824 < c) : Calls Try.prog 23 #[gaV ⟨u, a, b, c, z⟩] w fun e w' => e = .returned (.bool false) ∧ Kept w w' none := by
  go_enter Try.func23, Try.ntmps23
  go_wp2
  go_ret
  exact ⟨ret_bool (by simp), Kept.alloc _ _ _ _ _⟩
set_option maxHeartbeats 1000000 in
theorem rmay_un (u : Bool) (a b c z : Int) (w : World) (h0 : 0 ≤ z) (h1 : z < 18446744073709551616) (i0 : ¬ a < 0) (i1 : ¬ 1048576 < a) (i2 : ¬ b < 0) (i3 : ¬ 1048576 < b) (i4 : ¬ c < 0) (i5 : ¬ 1073741824 < c) (hu : u = true) (hn : ¬ b = 0) : Calls Try.prog 23 #[gaV ⟨u, a, b, c, z⟩] w fun e w' => e = .returned (.bool false) ∧ Kept w w' none := by
  have hn2 : (b == 0) = false := by simpa using hn
  subst hu
  go_enter Try.func23, Try.ntmps23
  go_wp2
  go_ret
  exact ⟨ret_bool (by simp), Kept.alloc _ _ _ _ _⟩
set_option maxHeartbeats 1000000 in
theorem rmay_dn (u : Bool) (a b c z : Int) (w : World) (h0 : 0 ≤ z) (h1 : z < 18446744073709551616) (i0 : ¬ a < 0) (i1 : ¬ 1048576 < a) (i2 : ¬ b < 0) (i3 : ¬ 1048576 < b) (i4 : ¬ c < 0) (i5 : ¬ 1073741824 < c) (hu : u = false) (hn : ¬ a = 0) : Calls Try.prog 23 #[gaV ⟨u, a, b, c, z⟩] w fun e w' => e = .returned (.bool false) ∧ Kept w w' none := by
  have hn2 : (a == 0) = false := by simpa using hn
  subst hu
  go_enter Try.func23, Try.ntmps23
  go_wp2
  go_ret
  exact ⟨ret_bool (by simp), Kept.alloc _ _ _ _ _⟩
set_option maxHeartbeats 1000000 in
theorem rmay_u1 (u : Bool) (a b c z : Int) (w : World) (h0 : 0 ≤ z) (h1 : z < 18446744073709551616) (i0 : ¬ a < 0) (i1 : ¬ 1048576 < a) (i2 : ¬ b < 0) (i3 : ¬ 1048576 < b) (i4 : ¬ c < 0) (i5 : ¬ 1073741824 < c) (hu : u = true) (hn : b = 0) (hq : z % 2 = 1) : Calls Try.prog 23 #[gaV ⟨u, a, b, c, z⟩] w fun e w' => e = .returned (.bool true) ∧ Kept w w' none := by
  subst hn hu
  go_enter Try.func23, Try.ntmps23
  go_wp2
  go_ret
  exact ⟨ret_bool (by simp), Kept.alloc _ _ _ _ _⟩
set_option maxHeartbeats 1000000 in
theorem rmay_u0 (u : Bool) (a b c z : Int) (w : World) (h0 : 0 ≤ z) (h1 : z < 18446744073709551616) (i0 : ¬ a < 0) (i1 : ¬ 1048576 < a) (i2 : ¬ b < 0) (i3 : ¬ 1048576 < b) (i4 : ¬ c < 0) (i5 : ¬ 1073741824 < c) (hu : u = true) (hn : b = 0) (hq : z % 2 = 0) : Calls Try.prog 23 #[gaV ⟨u, a, b, c, z⟩] w fun e w' => e = .returned (.bool false) ∧ Kept w w' none := by
  subst hn hu
  go_enter Try.func23, Try.ntmps23
  go_wp2
  go_ret
  exact ⟨ret_bool (by simp), Kept.alloc _ _ _ _ _⟩
set_option maxHeartbeats 1000000 in
theorem rmay_d1 (u : Bool) (a b c z : Int) (w : World) (h0 : 0 ≤ z) (h1 : z < 18446744073709551616) (i0 : ¬ a < 0) (i1 : ¬ 1048576 < a) (i2 : ¬ b < 0) (i3 : ¬ 1048576 < b) (i4 : ¬ c < 0) (i5 : ¬ 1073741824 < c) (hu : u = false) (hn : a = 0) (hq : z % 2 = 1) : Calls Try.prog 23 #[gaV ⟨u, a, b, c, z⟩] w fun e w' => e = .returned (.bool false) ∧ Kept w w' none := by
  subst hn hu
  go_enter Try.func23, Try.ntmps23
  go_wp2
  go_ret
  exact ⟨ret_bool (by simp), Kept.alloc _ _ _ _ _⟩
set_option maxHeartbeats 1000000 in
theorem rmay_d0 (u : Bool) (a b c z : Int) (w : World) (h0 : 0 ≤ z) (h1 : z < 18446744073709551616) (i0 : ¬ a < 0) (i1 : ¬ 1048576 < a) (i2 : ¬ b < 0) (i3 : ¬ 1048576 < b) (i4 : ¬ c < 0) (i5 : ¬ 1073741824 < c) (hu : u = false) (hn : a = 0) (hq : z % 2 = 0) : Calls Try.prog 23 #[gaV ⟨u, a, b, c, z⟩] w fun e w' => e = .returned (.bool true) ∧ Kept w w' none := by
  subst hn hu
  go_enter Try.func23, Try.ntmps23
  go_wp2
  go_ret
  exact ⟨ret_bool (by simp), Kept.alloc _ _ _ _ _⟩
theorem rmay_any (g : Ga) (w : World) (h0 : 0 ≤ g.last) (h1 : g.last < 18446744073709551616) : Calls Try.prog 23 #[gaV g] w fun e w' => e = .returned (.bool (mayG g)) ∧ Kept w w' none := by
  obtain ⟨u, a, b, c, z⟩ := g
  dsimp only at h0 h1
  by_cases i0 : a < 0
  · rw [show mayG ⟨u, a, b, c, z⟩ = false by unfold mayG wiB; simp; omega]; exact rmay_a0 u a b c z w h0 h1 i0
  by_cases i1 : 1048576 < a
  · rw [show mayG ⟨u, a, b, c, z⟩ = false by unfold mayG wiB; simp; omega]; exact rmay_a1 u a b c z w h0 h1 i0 i1
  by_cases i2 : b < 0
  · rw [show mayG ⟨u, a, b, c, z⟩ = false by unfold mayG wiB; simp; omega]; exact rmay_b0 u a b c z w h0 h1 i0 i1 i2
  by_cases i3 : 1048576 < b
  · rw [show mayG ⟨u, a, b, c, z⟩ = false by unfold mayG wiB; simp; omega]; exact rmay_b1 u a b c z w h0 h1 i0 i1 i2 i3
  by_cases i4 : c < 0
  · rw [show mayG ⟨u, a, b, c, z⟩ = false by unfold mayG wiB; simp; omega]; exact rmay_c0 u a b c z w h0 h1 i0 i1 i2 i3 i4
  by_cases i5 : 1073741824 < c
  · rw [show mayG ⟨u, a, b, c, z⟩ = false by unfold mayG wiB; simp; omega]; exact rmay_c1 u a b c z w h0 h1 i0 i1 i2 i3 i4 i5
  have ha : wiB a 0 1048576 = true := wi_iff.2 ⟨by omega, by omega⟩
  have hb : wiB b 0 1048576 = true := wi_iff.2 ⟨by omega, by omega⟩
  have hc : wiB c 0 1073741824 = true := wi_iff.2 ⟨by omega, by omega⟩
  have e : mayG ⟨u, a, b, c, z⟩ = ((u || decide (a = 0)) && ((!u || decide (b = 0)) && (u == decide (z % 2 = 1)))) := by unfold mayG; dsimp only; rw [ha, hb, hc]; rfl
  rw [e]
  clear e ha hb hc
  have pick {v x : Bool} (hx : v = x) (h : Calls Try.prog 23 #[gaV ⟨u, a, b, c, z⟩] w fun e w' => e = .returned (.bool x) ∧ Kept w w' none) : Calls Try.prog 23 #[gaV ⟨u, a, b, c, z⟩] w fun e w' => e = .returned (.bool v) ∧ Kept w w' none := by subst hx; exact h
  by_cases hu : u = true
  · by_cases hn : b = 0
    · by_cases hq : z % 2 = 1
      · exact pick (by simp [hu, hn, hq]) (rmay_u1 u a b c z w h0 h1 i0 i1 i2 i3 i4 i5 hu hn hq)
      · exact pick (by simp [hu, hn, hq]) (rmay_u0 u a b c z w h0 h1 i0 i1 i2 i3 i4 i5 hu hn (by omega))
    · exact pick (by simp [hu, hn]) (rmay_un u a b c z w h0 h1 i0 i1 i2 i3 i4 i5 hu hn)
  · have hu : u = false := by simpa using hu
    by_cases hn : a = 0
    · by_cases hq : z % 2 = 1
      · exact pick (by simp [hu, hn, hq]) (rmay_d1 u a b c z w h0 h1 i0 i1 i2 i3 i4 i5 hu hn hq)
      · exact pick (by simp [hu, hn, hq]) (rmay_d0 u a b c z w h0 h1 i0 i1 i2 i3 i4 i5 hu hn (by omega))
    · exact pick (by simp [hu, hn]) (rmay_dn u a b c z w h0 h1 i0 i1 i2 i3 i4 i5 hu hn)

end Go.Proofs.Ytcckpdgknjjjmaa
