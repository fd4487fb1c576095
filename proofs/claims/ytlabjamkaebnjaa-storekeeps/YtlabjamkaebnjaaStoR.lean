/-
  THE DOCUMENT's Blocks: may, and what is refused.
-/
import Derived.Test.YtlabjamkaebnjaaSto4J
import Derived.Test.YtlabjamkaebnjaaSRefWJ
import Derived.Test.YtlabjamkaebnjaaRefNumJ
namespace Go.Proofs.Ytlabjamkaebnjaa
open Go.RowKit Go.Lib Go.Deep
set_option linter.unusedVariables false
set_option linter.unusedSimpArgs false

def mayE19 (g : Int) (m : Nat) (l : List Pl) : Int := if 1 ≤ g ∧ g < (gtop : Int) ∧ m ≤ 3 then wholeE l else 190
set_option maxHeartbeats 1000000 in
theorem rmay19_1 {pa : Option Addr} {n c : Nat} {g : Int} {m : Nat} (w : World) (h : g < 1) : Calls Try.prog 48 #[kpV g m pa n c] w fun e w' => e = .returned (.int .i64 190) ∧ Kept w w' none := by
  go_enter Try.func48, Try.ntmps48
  go_wp2
  go_ret
  exact ⟨rfl, Kept.alloc _ _ _ _ _⟩
set_option maxHeartbeats 1000000 in
theorem rmay19_2 {pa : Option Addr} {n c : Nat} {g : Int} {m : Nat} (w : World) (h : ¬ g < 1) (h2 : 4611686018427387904 ≤ g) : Calls Try.prog 48 #[kpV g m pa n c] w fun e w' => e = .returned (.int .i64 190) ∧ Kept w w' none := by
  go_enter Try.func48, Try.ntmps48
  go_wp2
  go_ret
  exact ⟨rfl, Kept.alloc _ _ _ _ _⟩
set_option maxHeartbeats 1000000 in
theorem rmay19_3 {pa : Option Addr} {n c : Nat} {g : Int} {m : Nat} (w : World) (h : ¬ g < 1) (h2 : ¬ 4611686018427387904 ≤ g) (hm : 3 < m) : Calls Try.prog 48 #[kpV g m pa n c] w fun e w' => e = .returned (.int .i64 190) ∧ Kept w w' none := by
  have hm' : (3 : Int) < (m : Int) := by omega
  go_enter Try.func48, Try.ntmps48
  go_wp2
  go_ret
  exact ⟨rfl, Kept.alloc _ _ _ _ _⟩
set_option maxHeartbeats 1000000 in
theorem rmay19_4 {pa : Option Addr} {n c : Nat} {g : Int} {m : Nat} {l : List Pl} {w : World} (hP : Plans w pa n c l) (h : ¬ g < 1) (h2 : ¬ 4611686018427387904 ≤ g) (hm : m ≤ 3) : Calls Try.prog 48 #[kpV g m pa n c] w fun e w' => e = .returned (.int .i64 (wholeE l)) ∧ Kept w w' none := by
  have hm' : (m : Int) ≤ 3 := by omega
  have k1 : Kept w (w.alloc (.cells #[.int .i64 g, .int .u8 (m : Int), .slice pa n c] 35)) none := Kept.alloc _ _ _ _ _
  have HW := Hid.mk' (rwhole_any (hP.kept k1))
  have K1 := Hid.mk' k1
  generalize wholeE l = E at *
  generalize (wholeL l) = WL at *
  clear hP k1
  go_enter Try.func48, Try.ntmps48
  go_wp2_with (go_at_call 50; refine HW.out.mono ?_; rintro e w2 ⟨a2, c2, rfl, hm2, hk2⟩)
  go_ret
  exact ⟨rfl, K1.out.tr hk2⟩
theorem rmay19_any {pa : Option Addr} {n c : Nat} {g : Int} {m : Nat} {l : List Pl} {w : World} (hP : Plans w pa n c l) : Calls Try.prog 48 #[kpV g m pa n c] w fun e w' => e = .returned (.int .i64 (mayE19 g m l)) ∧ Kept w w' none := by
  unfold mayE19 gtop
  by_cases h : g < 1
  · rw [if_neg (by omega)]
    exact rmay19_1 w h
  by_cases h2 : 4611686018427387904 ≤ g
  · rw [if_neg (by omega)]
    exact rmay19_2 w h h2
  by_cases h3 : 3 < m
  · rw [if_neg (by omega)]
    exact rmay19_3 w h h2 h3
  · rw [if_pos (by omega)]
    exact rmay19_4 hP h h2 (by omega)
set_option maxHeartbeats 1000000 in
theorem rblocks_1 {pa : Option Addr} {n c : Nat} {g : Int} {m : Nat} {many : Int} (w : World) (h : many < 1) : Calls Try.prog 30 #[kpV g m pa n c, .int .i64 many] w fun e w' => e = .returned (.tuple #[.slice none 0 0, .int .i64 2]) ∧ Kept w w' none := by
  go_enter Try.func30, Try.ntmps30
  go_wp2
  go_ret2
  exact ⟨rfl, Kept.alloc _ _ _ _ _⟩
set_option maxHeartbeats 1000000 in
theorem rblocks_2 {pa : Option Addr} {n c : Nat} {g : Int} {m : Nat} {many : Int} (w : World) (h : ¬ many < 1) (h2 : 32 < many) : Calls Try.prog 30 #[kpV g m pa n c, .int .i64 many] w fun e w' => e = .returned (.tuple #[.slice none 0 0, .int .i64 2]) ∧ Kept w w' none := by
  go_enter Try.func30, Try.ntmps30
  go_wp2
  go_ret2
  exact ⟨rfl, Kept.alloc _ _ _ _ _⟩
set_option maxHeartbeats 1000000 in
theorem rblocks_3 {pa : Option Addr} {n c : Nat} {g : Int} {m : Nat} {l : List Pl} {many : Int} {w : World} (hP : Plans w pa n c l) (h : ¬ many < 1) (h2 : ¬ 32 < many) (h3 : mayE19 g m l ≠ 0) : Calls Try.prog 30 #[kpV g m pa n c, .int .i64 many] w fun e w' => e = .returned (.tuple #[.slice none 0 0, .int .i64 (mayE19 g m l)]) ∧ Kept w w' none := by
  have k1 : Kept w (w.alloc (.cells #[.int .i64 g, .int .u8 (m : Int), .slice pa n c] 35)) none := Kept.alloc _ _ _ _ _
  have HM := Hid.mk' (rmay19_any (g := g) (m := m) (hP.kept k1))
  have K1 := Hid.mk' k1
  generalize mayE19 g m l = E at *
  clear hP k1
  go_enter Try.func30, Try.ntmps30
  go_wp2_with (go_at_call 48; refine HM.out.mono ?_; rintro e w2 ⟨rfl, hk2⟩)
  go_ret2
  exact ⟨rfl, K1.out.tr hk2⟩

end Go.Proofs.Ytlabjamkaebnjaa
