/-
  THE WALK of RawNames: the chapter's examples.
-/
import Derived.Test.YtpngkgfanaebcaaDoorOnly
namespace Go.Proofs.YtpngkgfanaebcaaDoor
open Go.RowKit Go.Lib Go.Deep
set_option linter.unusedVariables false
set_option linter.unusedSimpArgs false

theorem put2 (w : World) : Calls Tryd.prog 8 #[.int .u64 258, .int .i64 2] w fun e w' => e = .returned (.tuple #[.slice (some ⟨w.heap.size, 0, none⟩) 2 2, .int .i64 0]) ∧ By w' (some ⟨w.heap.size, 0, none⟩) 2 [2, 1] ∧ Kept w w' none := by
  refine (put_yes 258 2 w (by omega) (by omega) (by omega) (by decide)).mono ?_
  rintro e w' ⟨rfl, h1, h2, h3⟩
  exact ⟨rfl, h1, h2⟩
theorem put256 (w : World) : Calls Tryd.prog 8 #[.int .u64 256, .int .i64 1] w fun e w' => e = .returned (.tuple #[.slice none 0 0, .int .i64 2]) ∧ w' = w := put_no 256 1 w (by omega) (by omega) (by omega) (by decide)
theorem put00 (w : World) : Calls Tryd.prog 8 #[.int .u64 0, .int .i64 0] w fun e w' => e = .returned (.tuple #[.slice none 0 0, .int .i64 2]) ∧ w' = w := put_no_width 0 0 w (by omega)
theorem putmax (w : World) : Calls Tryd.prog 8 #[.int .u64 18446744073709551615, .int .i64 8] w fun e w' => e = .returned (.tuple #[.slice (some ⟨w.heap.size, 0, none⟩) 8 8, .int .i64 0]) ∧ Kept w w' none := by
  refine (put_yes 18446744073709551615 8 w (by omega) (by omega) (by omega) (by decide +kernel)).mono ?_
  rintro e w' ⟨rfl, h1, h2, h3⟩
  exact ⟨rfl, h2⟩
theorem come_lit (w : World) (L : List Nat) (h2 : L.length ≤ 1000000) (hb : ∀ x ∈ L, x < 256) : Come (w.alloc (.cells (rowOf L) 5)) (some ⟨w.heap.size, 0, none⟩) L.length L.length L :=
  ⟨By.lit w L h2 hb, fun e => (nomatch e), Nat.le_refl _, by omega⟩
theorem getnil (w : World) : Calls Tryd.prog 10 #[.slice none 0 0] w fun e w' => e = .returned (.tuple #[.int .u64 0, .int .i64 8]) ∧ w' = w := get_no w (by omega) (by omega)
theorem sml0 : sml 0 = [0] := sml_lo (by omega)
theorem sml300 : sml 300 = [172, 2] := by rw [sml_hi (by omega), sml_lo (by omega)]
theorem small0 (w : World) : Calls Tryd.prog 13 #[.int .u64 0] w fun e w' => e = .returned (.slice (some ⟨w.heap.size, 0, none⟩) 1 10) ∧ By w' (some ⟨w.heap.size, 0, none⟩) 1 [0] ∧ Kept w w' none := by
  have := small_any 0 w (by omega)
  rw [sml0] at this
  refine this.mono ?_
  rintro e w' ⟨rfl, h1, h2⟩
  exact ⟨rfl, Own.by h1 (by decide) (by decide), h2⟩
theorem small300 (w : World) : Calls Tryd.prog 13 #[.int .u64 300] w fun e w' => e = .returned (.slice (some ⟨w.heap.size, 0, none⟩) 2 10) ∧ By w' (some ⟨w.heap.size, 0, none⟩) 2 [172, 2] ∧ Kept w w' none := by
  have := small_any 300 w (by omega)
  rw [sml300] at this
  refine this.mono ?_
  rintro e w' ⟨rfl, h1, h2⟩
  exact ⟨rfl, Own.by h1 (by decide) (by decide), h2⟩
theorem sumnil (w : World) : Calls Tryd.prog 14 #[.slice none 0 0] w fun e w' => e = .returned (.int .u32 0) ∧ ∃ m, w' = w.drewN m := sum_empty 0 w
theorem read3 (w : World) : Calls Tryd.prog 9 #[.slice (some ⟨w.heap.size, 0, none⟩) 3 3] (w.alloc (.cells #[.int .u8 172, .int .u8 2, .int .u8 9] 5)) fun e w' => e = .returned (.tuple #[.int .u64 300, .int .i64 2, .int .i64 0]) ∧ ∃ m, w' = (w.alloc (.cells #[.int .u8 172, .int .u8 2, .int .u8 9] 5)).drewN m := read_ok (come_lit w [172, 2, 9] (by decide) (by decide)) (by decide) 300 2 (by decide) (by decide)
theorem read3k (w : World) : Calls Tryd.prog 9 #[.slice (some ⟨w.heap.size, 0, none⟩) 3 3] (w.alloc (.cells #[.int .u8 172, .int .u8 2, .int .u8 9] 5)) fun e w' => e = .returned (.tuple #[.int .u64 300, .int .i64 2, .int .i64 0]) ∧ Kept w w' none :=
  (read3 w).mono (by rintro e w' ⟨rfl, m, rfl⟩; exact ⟨rfl, (Kept.alloc _ _ _ _ _).tr (Kept.drewN _ _ _)⟩)
theorem read2 (w : World) : Calls Tryd.prog 9 #[.slice (some ⟨w.heap.size, 0, none⟩) 2 2] (w.alloc (.cells #[.int .u8 128, .int .u8 0] 5)) fun e w' => e = .returned (.tuple #[.int .u64 0, .int .i64 0, .int .i64 8]) ∧ ∃ m, w' = (w.alloc (.cells #[.int .u8 128, .int .u8 0] 5)).drewN m := read_bad (come_lit w [128, 0] (by decide) (by decide)) (by decide)
theorem read2k (w : World) : Calls Tryd.prog 9 #[.slice (some ⟨w.heap.size, 0, none⟩) 2 2] (w.alloc (.cells #[.int .u8 128, .int .u8 0] 5)) fun e w' => e = .returned (.tuple #[.int .u64 0, .int .i64 0, .int .i64 8]) ∧ Kept w w' none :=
  (read2 w).mono (by rintro e w' ⟨rfl, m, rfl⟩; exact ⟨rfl, (Kept.alloc _ _ _ _ _).tr (Kept.drewN _ _ _)⟩)
theorem get11 (w : World) : Calls Tryd.prog 10 #[.slice (some ⟨w.heap.size, 0, none⟩) 2 2] (w.alloc (.cells #[.int .u8 1, .int .u8 1] 5)) fun e w' => e = .returned (.tuple #[.int .u64 257, .int .i64 0]) ∧ ∃ m, w' = (w.alloc (.cells #[.int .u8 1, .int .u8 1] 5)).drewN m := get_yes (c := 2) (By.lit w [1, 1] (by decide) (by decide)) (by decide) (by decide)
theorem get11k (w : World) : Calls Tryd.prog 10 #[.slice (some ⟨w.heap.size, 0, none⟩) 2 2] (w.alloc (.cells #[.int .u8 1, .int .u8 1] 5)) fun e w' => e = .returned (.tuple #[.int .u64 257, .int .i64 0]) ∧ Kept w w' none :=
  (get11 w).mono (by rintro e w' ⟨rfl, m, rfl⟩; exact ⟨rfl, (Kept.alloc _ _ _ _ _).tr (Kept.drewN _ _ _)⟩)
theorem same21 {w : World} {g : Nat} (hB : By w (some ⟨g, 0, none⟩) 2 [2, 1]) : Calls Tryd.prog 11 #[.slice (some ⟨g, 0, none⟩) 2 2, .slice (some ⟨w.heap.size, 0, none⟩) 2 2] (w.alloc (.cells #[.int .u8 2, .int .u8 1] 5)) fun e w' => e = .returned (.bool true) ∧ Kept w w' none :=
  (same_yes (hB.kept (Kept.alloc w _ _ _ none)) (By.lit w [2, 1] (by decide) (by decide)) rfl).mono (by rintro e w' ⟨rfl, m, rfl⟩; exact ⟨rfl, (Kept.alloc _ _ _ _ _).tr (Kept.drewN _ _ _)⟩)
theorem same0 {w : World} {g : Nat} (hB : By w (some ⟨g, 0, none⟩) 1 [0]) : Calls Tryd.prog 11 #[.slice (some ⟨g, 0, none⟩) 1 10, .slice (some ⟨w.heap.size, 0, none⟩) 1 1] (w.alloc (.cells #[.int .u8 0] 5)) fun e w' => e = .returned (.bool true) ∧ Kept w w' none :=
  (same_yes (hB.kept (Kept.alloc w _ _ _ none)) (By.lit w [0] (by decide) (by decide)) rfl).mono (by rintro e w' ⟨rfl, m, rfl⟩; exact ⟨rfl, (Kept.alloc _ _ _ _ _).tr (Kept.drewN _ _ _)⟩)
theorem same172 {w : World} {g : Nat} (hB : By w (some ⟨g, 0, none⟩) 2 [172, 2]) : Calls Tryd.prog 11 #[.slice (some ⟨g, 0, none⟩) 2 10, .slice (some ⟨w.heap.size, 0, none⟩) 2 2] (w.alloc (.cells #[.int .u8 172, .int .u8 2] 5)) fun e w' => e = .returned (.bool true) ∧ Kept w w' none :=
  (same_yes (hB.kept (Kept.alloc w _ _ _ none)) (By.lit w [172, 2] (by decide) (by decide)) rfl).mono (by rintro e w' ⟨rfl, m, rfl⟩; exact ⟨rfl, (Kept.alloc _ _ _ _ _).tr (Kept.drewN _ _ _)⟩)

set_option maxRecDepth 100000 in
set_option maxHeartbeats 2000000 in
theorem names_main (w : World) (ht : Table w) : Calls Tryd.prog 3 #[] w fun e w' => e = .returned (.bool true) ∧ Below w.heap.size w w' := by
  have HT : Hid (Table w) := ht
  clear ht
  go_enter Tryd.func3, Tryd.ntmps3
  go_wp2_with (go_at_call_of 8 (Value.int IntKind.u64 258); refine (put2 _).mono ?_; rintro e w1 ⟨rfl, hB1, hk1⟩)
  go_wp2_with (go_at_call_of 8 (Value.int IntKind.u64 256); refine (put256 _).mono ?_; rintro e w1 ⟨rfl, rfl⟩)
  go_wp2_with (go_at_call_of 8 (Value.int IntKind.u64 0); refine (put00 _).mono ?_; rintro e w1 ⟨rfl, rfl⟩)
  go_wp2_with (go_at_call_of 8 (Value.int IntKind.u64 18446744073709551615); refine (putmax _).mono ?_; rintro e w2 ⟨rfl, hk2⟩)
  have hK2 : Kept w w2 none := hk1.tr hk2
  have hB2 := hB1.kept hk2
  clear hB1 hk1 hk2
  go_wp2_with (go_at_call_of 9 (3 : Nat); refine (read3k _).mono ?_; rintro e w3 ⟨rfl, hk3⟩)
  have hK3 := hK2.tr hk3
  have hB3 := hB2.kept hk3
  clear hK2 hB2 hk3
  go_wp2_with (go_at_call_of 9 (2 : Nat); refine (read2k _).mono ?_; rintro e w4 ⟨rfl, hk4⟩)
  have hK4 := hK3.tr hk4
  have hB4 := hB3.kept hk4
  clear hK3 hB3 hk4
  go_wp2_with (go_at_call_of 10 (Value.slice none 0 0); refine (getnil _).mono ?_; rintro e w4 ⟨rfl, rfl⟩)
  go_wp2_with (go_at_call_of 10 (2 : Nat); refine (get11k _).mono ?_; rintro e w5 ⟨rfl, hk5⟩)
  have hK5 := hK4.tr hk5
  have hB5 := hB4.kept hk5
  clear hK4 hB4 hk5
  go_wp2_with (go_at_call_of 11 w; refine (same21 hB5).mono ?_; rintro e w6 ⟨rfl, hk6⟩)
  have hK6 := hK5.tr hk6
  clear hK5 hB5 hk6
  go_wp2_with (go_at_call 12; refine (alive_any _ (HT.out.kept hK6)).mono ?_; rintro e w7 ⟨rfl, hk7⟩)
  have hK7 := hK6.tr hk7
  clear hK6 hk7
  go_wp2_with (go_at_call_of 13 (Value.int IntKind.u64 0); refine (small0 _).mono ?_; rintro e w8 ⟨rfl, hB8, hk8⟩)
  go_wp2_with (go_at_call_of 11 (1 : Nat); refine (same0 hB8).mono ?_; rintro e w9 ⟨rfl, hk9⟩)
  have hK9 := (hK7.tr hk8).tr hk9
  clear hK7 hk8 hk9 hB8
  go_wp2_with (go_at_call_of 13 (Value.int IntKind.u64 300); refine (small300 _).mono ?_; rintro e w10 ⟨rfl, hB10, hk10⟩)
  go_wp2_with (go_at_call 11; refine (same172 hB10).mono ?_; rintro e w11 ⟨rfl, hk11⟩)
  have hK11 := (hK9.tr hk10).tr hk11
  clear hK9 hk10 hk11 hB10
  go_wp2_with (go_at_call 14; refine (sumnil _).mono ?_; rintro e w12 ⟨rfl, m12, rfl⟩)
  go_ret
  exact ⟨rfl, (hK11.tr (Kept.drewN _ _ _)).below⟩

end Go.Proofs.YtpngkgfanaebcaaDoor
