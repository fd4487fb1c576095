/-
  THE WALK of RawBack.
-/
import Derived.Test.YtpngkgfanaebcaaDoorJoin
import Derived.Test.YtpngkgfanaebcaaDoorRead
import Derived.Test.YtpngkgfanaebcaaDoorAlive
import Derived.Deep.RegionWith
namespace Go.Proofs.YtpngkgfanaebcaaDoor
open Go.RowKit Go.Lib Go.Deep
set_option linter.unusedVariables false
set_option linter.unusedSimpArgs false

theorem back_long (n width : Int) (a : Option Addr) (len cap : Nat) (w : World) (h : 10000 < len) (h2 : len ≤ 9223372036854775807) (ht : Table w) :
    Calls Tryd.prog 5 #[.int .u64 n, .int .i64 width, .slice a len cap] w fun e w' => e = .returned (.bool true) ∧ Below w.heap.size w w' := by
  have HT : Hid (Table w) := ht
  clear ht
  go_enter Tryd.func5, Tryd.ntmps5
  go_wp2_with (go_at_call 12; refine (alive_any _ HT.out).mono ?_; rintro e w1 ⟨rfl, hk⟩)
  go_ret
  exact ⟨rfl, hk.below⟩
/-- Small bytes, and others behind them, are read. -/
theorem read_back (n : Nat) {a : Option Addr} {m c base : Nat} {L : List Nat} {w : World} (hM : Mine w base a m c (sml n ++ L)) (hn : n < 18446744073709551616) (hb : ∀ x ∈ L, x < 256) :
    Calls Tryd.prog 9 #[.slice a m c] w fun e w' => e = .returned (.tuple #[.int .u64 (n : Int), .int .i64 (((sml n).length : Nat) : Int), .int .i64 0]) ∧ ∃ m, w' = w.drewN m := by
  have hB := hM.by (fun x hx => by
    rcases List.mem_append.1 hx with h | h
    · exact sml_lt n x h
    · exact hb x h)
  have := read_any (c := c) hB (fun e => (hM.nil e).2) hM.room hM.max
  obtain ⟨r1, r2, r3⟩ := read_sml n L hn
  rw [r1, r2, r3] at this
  exact this
theorem get_put (n q : Nat) {w : World} {a : Option Addr} (hB : By w a q (leb q n)) (h1 : 1 ≤ q) (h2 : q ≤ 8) (h : n / 256 ^ q = 0) (c : Nat) :
    Calls Tryd.prog 10 #[.slice a q c] w fun e w' => e = .returned (.tuple #[.int .u64 (n : Int), .int .i64 0]) ∧ ∃ m, w' = w.drewN m := by
  have := get_yes (c := c) hB h1 h2
  rw [v256_leb, Nat.mod_eq_of_lt (by
    rcases Nat.lt_or_ge n (256 ^ q) with h' | h'
    · exact h'
    · exact absurd h (Nat.ne_of_gt (Nat.div_pos h' (Nat.pow_pos (by omega)))))] at this
  exact this

set_option maxRecDepth 100000 in
set_option maxHeartbeats 1000000 in
theorem back_yes (n q : Nat) (a : Option Addr) (len cap : Nat) (L : List Nat) (w : World) (h : len ≤ 10000) (hn : n < 18446744073709551616) (hC : Come w a len cap L) (ht : Table w) (h1 : 1 ≤ q) (h2 : q ≤ 8) (hz : n / 256 ^ q = 0) :
    Calls Tryd.prog 5 #[.int .u64 n, .int .i64 q, .slice a len cap] w fun e w' => e = .returned (.bool true) ∧ Below w.heap.size w w' := by
  have HT : Hid (Table w) := ht
  have HC : Hid (Come w a len cap L) := hC
  have hl10 := sml_len10 n hn
  have hnn : ((n : Int) != (n : Int)) = false := by simp
  have hne : ((n : Int) == (n : Int)) = true := by simp
  have hls : ((((sml n).length : Nat) : Int) == (((sml n).length : Nat) : Int)) = true := by simp
  have HZ : Hid (n / 256 ^ q = 0) := hz
  have hqq : ((q : Int) != (q : Int)) = false := by simp
  clear ht hC hz
  go_enter Tryd.func5, Tryd.ntmps5
  go_wp2_with (first
    | (go_at_call 9; refine (read_back n M.out hn hB2).mono ?_; rintro e w6 ⟨rfl, m6, rfl⟩)
    | (at_builtin; refine wpList_join (by rfl) _ _ (by rfl) w2.heap.size (.slice (some ⟨w2.heap.size, 0, none⟩) (sml n).length 10) (sml n).length (sml n) (by rfl) hO4 a len cap L (by rfl) (HC.out.by_.kept (hk3.tr hk4)) HC.out.nil (by omega) hk4.size ?_; intro a5 c5 w5 hm5 hg5; have hk5 : Kept w w5 none := (hk3.tr hk4).newRow hg5 (fun i h => by cases h; exact hk3.size); have M : Hid (Mine w5 w2.heap.size a5 ((sml n).length + len) c5 (sml n ++ L)) := hm5; have hB2 : ∀ x ∈ L, x < 256 := HC.out.by_.lt)
    | (go_at_call 10; refine (get_put n q hB h1 h2 HZ.out _).mono ?_; rintro e w3 ⟨rfl, m3, rfl⟩; have hk3 : Kept w (w2.drewN m3) none := hk2.tr (Kept.drewN _ _ _))
    | (go_at_call 8; refine (put_yes n q _ h1 h2 hn HZ.out).mono ?_; rintro e w2 ⟨rfl, hB, hk2', -⟩; have hk2 : Kept w w2 none := hk1.tr hk2')
    | (go_at_call 13; refine (small_any n _ hn).mono ?_; rintro e w7 ⟨rfl, hO7, hk7⟩; have hend : Kept w w7 none := (hk5.tr (Kept.drewN _ _ _)).tr hk7)
    | (go_at_call 13; refine (small_any n _ hn).mono ?_; rintro e w4 ⟨rfl, hO4, hk4⟩)
    | (go_at_call 12; refine (alive_any _ HT.out).mono ?_; rintro e w1 ⟨rfl, hk1⟩))
  go_ret
  exact ⟨rfl, hend.below⟩
set_option maxRecDepth 100000 in
set_option maxHeartbeats 1000000 in
theorem back_width (n : Nat) (width : Int) (a : Option Addr) (len cap : Nat) (L : List Nat) (w : World) (h : len ≤ 10000) (hn : n < 18446744073709551616) (hC : Come w a len cap L) (ht : Table w) (hw : width < 1 ∨ 8 < width) :
    Calls Tryd.prog 5 #[.int .u64 n, .int .i64 width, .slice a len cap] w fun e w' => e = .returned (.bool true) ∧ Below w.heap.size w w' := by
  have HT : Hid (Table w) := ht
  have HC : Hid (Come w a len cap L) := hC
  have hl10 := sml_len10 n hn
  have hnn : ((n : Int) != (n : Int)) = false := by simp
  have hne : ((n : Int) == (n : Int)) = true := by simp
  have hls : ((((sml n).length : Nat) : Int) == (((sml n).length : Nat) : Int)) = true := by simp
  clear ht hC
  have HW : Hid (width < 1 ∨ 8 < width) := hw
  rcases hw with hw | hw
  all_goals
    go_enter Tryd.func5, Tryd.ntmps5
    go_wp2_with (first
    | (go_at_call 9; refine (read_back n M.out hn hB2).mono ?_; rintro e w6 ⟨rfl, m6, rfl⟩)
    | (at_builtin; refine wpList_join (by rfl) _ _ (by rfl) w1.heap.size (.slice (some ⟨w1.heap.size, 0, none⟩) (sml n).length 10) (sml n).length (sml n) (by rfl) hO4 a len cap L (by rfl) (HC.out.by_.kept (hk1.tr hk4)) HC.out.nil (by omega) hk4.size ?_; intro a5 c5 w5 hm5 hg5; have hk5 : Kept w w5 none := (hk1.tr hk4).newRow hg5 (fun i h => by cases h; exact hk1.size); have M : Hid (Mine w5 w1.heap.size a5 ((sml n).length + len) c5 (sml n ++ L)) := hm5; have hB2 : ∀ x ∈ L, x < 256 := HC.out.by_.lt)
    | (go_at_call 8; refine (put_no_width n width _ HW.out).mono ?_; rintro e w1 ⟨rfl, rfl⟩)
    | (go_at_call 13; refine (small_any n _ hn).mono ?_; rintro e w7 ⟨rfl, hO7, hk7⟩; have hend : Kept w w7 none := (hk5.tr (Kept.drewN _ _ _)).tr hk7)
    | (go_at_call 13; refine (small_any n _ hn).mono ?_; rintro e w4 ⟨rfl, hO4, hk4⟩)
    | (go_at_call 12; refine (alive_any _ HT.out).mono ?_; rintro e w1 ⟨rfl, hk1⟩))
    go_ret
    exact ⟨rfl, hend.below⟩
set_option maxRecDepth 100000 in
set_option maxHeartbeats 1000000 in
theorem back_no (n q : Nat) (a : Option Addr) (len cap : Nat) (L : List Nat) (w : World) (h : len ≤ 10000) (hn : n < 18446744073709551616) (hC : Come w a len cap L) (ht : Table w) (h1 : 1 ≤ q) (h2 : q < 8) (hz : n / 256 ^ q ≠ 0) :
    Calls Tryd.prog 5 #[.int .u64 n, .int .i64 q, .slice a len cap] w fun e w' => e = .returned (.bool true) ∧ Below w.heap.size w w' := by
  have HT : Hid (Table w) := ht
  have HC : Hid (Come w a len cap L) := hC
  have hl10 := sml_len10 n hn
  have hnn : ((n : Int) != (n : Int)) = false := by simp
  have hne : ((n : Int) == (n : Int)) = true := by simp
  have hls : ((((sml n).length : Nat) : Int) == (((sml n).length : Nat) : Int)) = true := by simp
  have HZ : Hid (n / 256 ^ q ≠ 0) := hz
  clear ht hC hz
  go_enter Tryd.func5, Tryd.ntmps5
  go_wp2_with (first
    | (go_at_call 9; refine (read_back n M.out hn hB2).mono ?_; rintro e w6 ⟨rfl, m6, rfl⟩)
    | (at_builtin; refine wpList_join (by rfl) _ _ (by rfl) w1.heap.size (.slice (some ⟨w1.heap.size, 0, none⟩) (sml n).length 10) (sml n).length (sml n) (by rfl) hO4 a len cap L (by rfl) (HC.out.by_.kept (hk1.tr hk4)) HC.out.nil (by omega) hk4.size ?_; intro a5 c5 w5 hm5 hg5; have hk5 : Kept w w5 none := (hk1.tr hk4).newRow hg5 (fun i h => by cases h; exact hk1.size); have M : Hid (Mine w5 w1.heap.size a5 ((sml n).length + len) c5 (sml n ++ L)) := hm5; have hB2 : ∀ x ∈ L, x < 256 := HC.out.by_.lt)
    | (go_at_call 8; refine (put_no n q _ h1 (by omega) hn HZ.out).mono ?_; rintro e w1 ⟨rfl, rfl⟩)
    | (go_at_call 13; refine (small_any n _ hn).mono ?_; rintro e w7 ⟨rfl, hO7, hk7⟩; have hend : Kept w w7 none := (hk5.tr (Kept.drewN _ _ _)).tr hk7)
    | (go_at_call 13; refine (small_any n _ hn).mono ?_; rintro e w4 ⟨rfl, hO4, hk4⟩)
    | (go_at_call 12; refine (alive_any _ HT.out).mono ?_; rintro e w1 ⟨rfl, hk1⟩))
  go_ret
  exact ⟨rfl, hend.below⟩

end Go.Proofs.YtpngkgfanaebcaaDoor
