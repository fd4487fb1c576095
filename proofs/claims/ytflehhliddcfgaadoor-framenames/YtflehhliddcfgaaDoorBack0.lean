/-
  PARTS OF THE WALK of FrameBack.
-/
import Derived.Test.YtflehhliddcfgaaDoorAlive
import Derived.Test.YtflehhliddcfgaaDoorBare
namespace Go.Proofs.YtflehhliddcfgaaDoor
open Go.RowKit Go.Lib Go.Deep
set_option linter.unusedVariables false
set_option linter.unusedSimpArgs false

/-- Open of an inside tells the message. -/
theorem open_inside {a : Option Addr} {n c : Nat} {w : World} (m : Msg) (hm : Mok m) (h5 : m.2.2.length ≤ 512) (hC : Come w a n c (inside m)) (ht : Table w) :
    Calls Tryd.prog 12 #[.slice a n c] w fun e w' => ∃ a' c', e = .returned (.tuple #[msgV m a' m.2.2.length c', .int .i64 0]) ∧ Come w' a' m.2.2.length c' m.2.2 ∧ Kept w w' none := by
  have h := open_any hC ht
  rw [opnM_inside m hm h5, show opnE (inside m) = 0 by unfold opnE; rw [if_pos (opnB_inside m h5)]] at h
  refine h.mono ?_
  rintro e w' ⟨a', c', rfl, h1, h2⟩
  exact ⟨a', c', rfl, h1.come hm.body, h2⟩
/-- Two lists of one message each. -/
theorem same_two (w : World) (H : Nat) (hH : w.heap.size = H) (m : Msg) (a b : Option Addr) (c d : Nat) (hA : Come w a m.2.2.length c m.2.2) (hB : Come w b m.2.2.length d m.2.2) :
    Calls Tryd.prog 28 #[.slice (some ⟨H, 0, none⟩) 1 1, .slice (some ⟨H + 1, 0, none⟩) 1 1] ((w.alloc (.cells #[.int .u8 (m.1 : Int), .int .u32 (m.2.1 : Int), .slice a m.2.2.length c] 30)).alloc (.cells #[.int .u8 (m.1 : Int), .int .u32 (m.2.1 : Int), .slice b m.2.2.length d] 30)) fun e w' => e = .returned (.bool true) ∧ Kept w w' none := by
  subst hH
  have h1 := (ms_one w m a c hA).kept (Kept.alloc _ #[.int .u8 (m.1 : Int), .int .u32 (m.2.1 : Int), .slice b m.2.2.length d] 30 (0, 0) none)
  have h2 := ms_one (w.alloc (.cells #[.int .u8 (m.1 : Int), .int .u32 (m.2.1 : Int), .slice a m.2.2.length c] 30)) m b d (hB.kept (Kept.alloc _ _ _ _ _))
  rw [World.size_alloc] at h2
  refine (same_yes h1 h2).mono ?_
  rintro e w' ⟨rfl, q, rfl⟩
  exact ⟨rfl, ((Kept.alloc _ _ _ _ _).tr (Kept.alloc _ _ _ _ _)).tr (Kept.drewN _ _ _)⟩
/-- Bare of stuffed bytes tells these. -/
theorem bare_stuff {a : Option Addr} {len c : Nat} {w : World} (L : List Nat) (hL : ∀ x ∈ L, x < 256) (hB : By w a len (stuff L)) (hlen : len ≤ 1000000) :
    Calls Tryd.prog 9 #[.slice a len c] w fun e w' => ∃ a' c', e = .returned (.tuple #[.slice a' L.length c', .int .i64 0]) ∧ By w' a' L.length L ∧ Kept w w' none := by
  have h := bare_any (c := c) hB hlen
  have e1 : bareL (stuff L) = L := by unfold bareL; rw [bareS_stuff]; rfl
  have e2 : bareE (stuff L) = 0 := by unfold bareE; rw [bareS_stuff]; rfl
  rw [e1, e2] at h
  refine h.mono ?_
  rintro e w' ⟨a', c', rfl, h1, h2⟩
  exact ⟨a', c', rfl, h1.by hL, h2⟩
theorem stuff_bare {L : List Nat} (h : bareE L = 0) : stuff (bareL L) = L := by
  unfold bareE at h
  split at h
  · rename_i hw
    unfold bareL
    rw [if_pos hw]
    exact bare_back hw
  · cases h
theorem bareE_or (L : List Nat) : bareE L = 0 ∨ bareE L = 8 := by unfold bareE; split <;> simp
theorem opnE_or (L : List Nat) : opnE L = 0 ∨ opnE L = 8 := by unfold opnE; split <;> simp
theorem opnE_zero {L : List Nat} (h : opnE L = 0) : opnB L = true := by
  unfold opnE at h
  split at h
  · assumption
  · cases h
/-- Inside of what Open tells is what was opened. -/
theorem inside_again {a : Option Addr} {c : Nat} {w : World} (L : List Nat) (hL : ∀ x ∈ L, x < 256) (h0 : opnE L = 0) (hC : Come w a (opnM L).2.2.length c (opnM L).2.2) (ht : Table w) :
    Calls Tryd.prog 16 #[msgV (opnM L) a (opnM L).2.2.length c] w fun e w' => ∃ a' c', e = .returned (.tuple #[.slice a' L.length c', .int .i64 0]) ∧ By w' a' L.length L ∧ Kept w w' none := by
  have h := inside_any (opnM L) a _ c w hC (opnM_ok hL) ht
  have hB := opnE_zero h0
  have e1 : insL (opnM L) = L := by unfold insL; rw [if_pos (opnM_len L), inside_opnM hL hB]
  have e2 : insE (opnM L) = 0 := by unfold insE; rw [if_pos (opnM_len L)]
  rw [e1, e2] at h
  refine h.mono ?_
  rintro e w' ⟨a', c', rfl, h1, h2⟩
  exact ⟨a', c', rfl, h1.by hL, h2⟩
theorem open_keep {a : Option Addr} {len c : Nat} {L : List Nat} {w : World} (hC : Come w a len c L) (ht : Table w) (k : Nat) (hk : opnE L = k) :
    Calls Tryd.prog 12 #[.slice a len c] w fun e w' => ∃ a' c', e = .returned (.tuple #[msgV (opnM L) a' (opnM L).2.2.length c', .int .i64 (k : Int)]) ∧ Come w' a' (opnM L).2.2.length c' (opnM L).2.2 ∧ Kept w w' none := by
  subst hk
  refine (open_any hC ht).mono ?_
  rintro e w' ⟨a', c', rfl, h1, h2⟩
  exact ⟨a', c', rfl, h1.come (opnM_ok hC.by_.lt).body, h2⟩
theorem bare_keep {a : Option Addr} {len c : Nat} {L : List Nat} {w : World} (hB : By w a len L) (hlen : len ≤ 1000000) (k : Nat) (hk : bareE L = k) :
    Calls Tryd.prog 9 #[.slice a len c] w fun e w' => ∃ a' c', e = .returned (.tuple #[.slice a' (bareL L).length c', .int .i64 (k : Int)]) ∧ By w' a' (bareL L).length (bareL L) ∧ Kept w w' none := by
  subst hk
  refine (bare_any hB hlen).mono ?_
  rintro e w' ⟨a', c', rfl, h1, h2⟩
  exact ⟨a', c', rfl, h1.by (bareL_lt hB.lt), h2⟩
theorem stuff_keep {a : Option Addr} {len c : Nat} {L : List Nat} {w : World} (M : List Nat) (hB : By w a len L) (hlen : len ≤ 1000000) (h : stuff L = M) :
    Calls Tryd.prog 14 #[.slice a len c] w fun e w' => ∃ a' c', e = .returned (.slice a' M.length c') ∧ By w' a' M.length M ∧ Kept w w' none := by
  subst h
  refine (stuff_any hB hlen).mono ?_
  rintro e w' ⟨a', c', rfl, h1, h2⟩
  exact ⟨a', c', rfl, h1.by (stuff_lt _ hB.lt), h2⟩

set_option maxRecDepth 100000 in
set_option maxHeartbeats 1000000 in
theorem back_out (m : Msg) (a : Option Addr) (len cap : Nat) (b : Option Addr) (n bc : Nat) (w : World) (hl : len ≤ 9223372036854775807) (hn : n ≤ 9223372036854775807) (ht : Table w) (h : 10000 < n ∨ (n ≤ 10000 ∧ 10000 < len)) :
    Calls Tryd.prog 8 #[msgV m a len cap, .slice b n bc] w fun e w' => e = .returned (.bool true) ∧ Below w.heap.size w w' := by
  have HT := Hid.mk' ht
  clear ht
  have HB0 := Hid.mk' (box_alloc w (.int .u8 (m.1 : Int)) (.int .u32 (m.2.1 : Int)) (.slice a len cap) 30)
  rcases h with h | ⟨h, h2⟩
  all_goals
    go_enter Tryd.func8, Tryd.ntmps8
    go_wp2_with (go_at_call 15; refine (alive_any _ (HT.out.kept (Kept.alloc _ _ _ _ _))).mono ?_; rintro e w1 ⟨rfl, hk1⟩; have hX := HB0.out.kept hk1; have x0 := hX.c0; have x1 := hX.c1; have x2 := hX.c2)
    go_ret
    exact ⟨rfl, ((Kept.alloc _ _ _ _ _).tr hk1).below⟩

end Go.Proofs.YtflehhliddcfgaaDoor
