/-
  BLOCKDOES' WALK, where it ends at once (made by a program).
-/
import Derived.Test.YtpfbdandhdapcaaBDoeO
import Derived.Test.YtpfbdandhdapcaaBDoeB
namespace Go.Proofs.Ytpfbdandhdapcaa
open Go.RowKit Go.Lib Go.Deep
set_option linter.unusedVariables false
set_option linter.unusedSimpArgs false

set_option maxRecDepth 100000 in
set_option maxHeartbeats 400000 in
theorem does_big {a : Option Addr} {n c : Nat} {L : List Nat} {la : Option Addr} {m lc : Nat} {l : List Pw} (wh to i : Int) {b : Option Addr} {q d : Nat} {B : List Nat} (w : World) (hC : Come w a n c L) (hP : Plw w la m l) (hB : Come w b q d B) (h : 10000 < n) : Calls Try.prog 4 #[dvV a n c, .slice la m lc, .int .i64 wh, .int .i64 to, .int .i64 i, .slice b q d] w fun e w' => e = .returned (.bool true) ∧ Kept w w' none := by
  have HC := Hid.mk' hC
  have HP := Hid.mk' hP
  have HB := Hid.mk' hB
  have hn := hC.by_.max
  have hm := hP.max
  have hq := hB.by_.max
  have HS := Hid.mk' hP.size
  clear hC hP hB
  have h' : (10000 : Int) < n := by omega
  go_enter Try.func4, Try.ntmps4
  go_wp2
  go_ret
  exact ⟨rfl, Kept.alloc _ _ _ _ _⟩
set_option maxRecDepth 100000 in
set_option maxHeartbeats 400000 in
theorem does_many {a : Option Addr} {n c : Nat} {L : List Nat} {la : Option Addr} {m lc : Nat} {l : List Pw} (wh to i : Int) {b : Option Addr} {q d : Nat} {B : List Nat} (w : World) (hC : Come w a n c L) (hP : Plw w la m l) (hB : Come w b q d B) (h : ¬ 10000 < n) (h2 : 100 < m) : Calls Try.prog 4 #[dvV a n c, .slice la m lc, .int .i64 wh, .int .i64 to, .int .i64 i, .slice b q d] w fun e w' => e = .returned (.bool true) ∧ Kept w w' none := by
  have HC := Hid.mk' hC
  have HP := Hid.mk' hP
  have HB := Hid.mk' hB
  have hn := hC.by_.max
  have hm := hP.max
  have hq := hB.by_.max
  have HS := Hid.mk' hP.size
  clear hC hP hB
  have h' : ¬ (10000 : Int) < n := by omega
  have h2' : (100 : Int) < m := by omega
  go_enter Try.func4, Try.ntmps4
  go_wp2
  go_ret
  exact ⟨rfl, Kept.alloc _ _ _ _ _⟩
set_option maxRecDepth 100000 in
set_option maxHeartbeats 400000 in
theorem does_long {a : Option Addr} {n c : Nat} {L : List Nat} {la : Option Addr} {m lc : Nat} {l : List Pw} (wh to i : Int) {b : Option Addr} {q d : Nat} {B : List Nat} (w : World) (hC : Come w a n c L) (hP : Plw w la m l) (hB : Come w b q d B) (h : ¬ 10000 < n) (h2 : ¬ 100 < m) (h3 : 10000 < q) : Calls Try.prog 4 #[dvV a n c, .slice la m lc, .int .i64 wh, .int .i64 to, .int .i64 i, .slice b q d] w fun e w' => e = .returned (.bool true) ∧ Kept w w' none := by
  have HC := Hid.mk' hC
  have HP := Hid.mk' hP
  have HB := Hid.mk' hB
  have hn := hC.by_.max
  have hm := hP.max
  have hq := hB.by_.max
  have HS := Hid.mk' hP.size
  clear hC hP hB
  have h' : ¬ (10000 : Int) < n := by omega
  have h2' : ¬ (100 : Int) < m := by omega
  have h3' : (10000 : Int) < q := by omega
  go_enter Try.func4, Try.ntmps4
  go_wp2
  go_ret
  exact ⟨rfl, Kept.alloc _ _ _ _ _⟩
theorem bdoe_any {a : Option Addr} {n c : Nat} {L : List Nat} {la : Option Addr} {m lc : Nat} {l : List Pw} (wh to i : Int) {b : Option Addr} {q d : Nat} {B : List Nat} (w : World) (hC : Come w a n c L) (hP : Plw w la m l) (hB : Come w b q d B) : Calls Try.prog 4 #[dvV a n c, .slice la m lc, .int .i64 wh, .int .i64 to, .int .i64 i, .slice b q d] w fun e w' => e = .returned (.bool true) ∧ Kept w w' none := by
  by_cases h : 10000 < n
  · exact does_big wh to i w hC hP hB h
  · by_cases h2 : 100 < m
    · exact does_many wh to i w hC hP hB h h2
    · by_cases h3 : 10000 < q
      · exact does_long wh to i w hC hP hB h h2 h3
      · rcases chk_cases n with ⟨hc, _⟩ | hc
        · exact does_ok wh to i w hC hP hB h h2 h3 hc
        · exact does_bad wh to i w hC hP hB h h2 h3 hc

end Go.Proofs.Ytpfbdandhdapcaa
