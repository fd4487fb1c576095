/-
  THE WALK of FrameBack: eight ways of one text (made by mkback.py).
-/
import Derived.Test.YtflehhliddcfgaaDoorBackA
import Derived.Test.YtflehhliddcfgaaDoorBackB
import Derived.Test.YtflehhliddcfgaaDoorBackC
import Derived.Test.YtflehhliddcfgaaDoorBackD
namespace Go.Proofs.YtflehhliddcfgaaDoor
open Go.RowKit Go.Lib Go.Deep
set_option linter.unusedVariables false
set_option linter.unusedSimpArgs false

theorem back_in (m : Msg) (a : Option Addr) (cap : Nat) (b : Option Addr) (n bc : Nat) (L : List Nat) (w : World) (hC : Come w a m.2.2.length cap m.2.2) (hm : Mok m) (hB : Come w b n bc L) (ht : Table w) (hn : n ≤ 10000) (hl : m.2.2.length ≤ 10000) :
    Calls Tryd.prog 8 #[msgV m a m.2.2.length cap, .slice b n bc] w fun e w' => e = .returned (.bool true) ∧ Below w.heap.size w w' := by
  by_cases h1 : m.2.2.length ≤ 512
  · rcases bareE_or L with h2 | h2
    · rcases opnE_or L with h3 | h3
      · exact back_yyy m a cap b n bc L w hC hm hB ht hn hl h1 h2 h3
      · exact back_yyn m a cap b n bc L w hC hm hB ht hn hl h1 h2 h3
    · rcases opnE_or L with h3 | h3
      · exact back_yny m a cap b n bc L w hC hm hB ht hn hl h1 h2 h3
      · exact back_ynn m a cap b n bc L w hC hm hB ht hn hl h1 h2 h3
  · rcases bareE_or L with h2 | h2
    · rcases opnE_or L with h3 | h3
      · exact back_nyy m a cap b n bc L w hC hm hB ht hn hl (by omega) h2 h3
      · exact back_nyn m a cap b n bc L w hC hm hB ht hn hl (by omega) h2 h3
    · rcases opnE_or L with h3 | h3
      · exact back_nny m a cap b n bc L w hC hm hB ht hn hl (by omega) h2 h3
      · exact back_nnn m a cap b n bc L w hC hm hB ht hn hl (by omega) h2 h3
theorem back_any (m : Msg) (a : Option Addr) (cap : Nat) (b : Option Addr) (n bc : Nat) (L : List Nat) (w : World) (hC : Come w a m.2.2.length cap m.2.2) (hm : Mok m) (hB : Come w b n bc L) (ht : Table w) :
    Calls Tryd.prog 8 #[msgV m a m.2.2.length cap, .slice b n bc] w fun e w' => e = .returned (.bool true) ∧ Below w.heap.size w w' := by
  have h1 := hC.room
  have h2 := hC.max
  have h3 := hB.room
  have h4 := hB.max
  by_cases h : 10000 < n ∨ (n ≤ 10000 ∧ 10000 < m.2.2.length)
  · exact back_out m a _ cap b n bc w (by omega) (by omega) ht h
  · exact back_in m a cap b n bc L w hC hm hB ht (by omega) (by omega)

end Go.Proofs.YtflehhliddcfgaaDoor
