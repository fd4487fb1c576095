/-
  THE CONTRACT of alive: a number's bytes, a text's sum.
-/
import Derived.Test.YtpngkgfanaebcabDoorPut
import Derived.Test.YtpngkgfanaebcabDoorSum
import Derived.Lib.SlBytesConst
namespace Go.Proofs.YtpngkgfanaebcabDoor
open Go.RowKit Go.Lib Go.Deep
set_option linter.unusedVariables false
set_option linter.unusedSimpArgs false

/-- A list of bytes as cells. -/
abbrev rowOf (L : List Nat) : Array Value := (L.map byteV).toArray
theorem By.lit2 (w : World) (L : List Nat) (fr : Nat × Nat) (h2 : L.length ≤ 1000000) (hb : ∀ x ∈ L, x < 256) : By (w.alloc (.cells (rowOf L) 5 fr)) (some ⟨w.heap.size, 0, none⟩) L.length L :=
  By.alloc w L 5 fr (rowOf L) (fun i hi => by simp [hi]) (by omega) hb
theorem By.lit (w : World) (L : List Nat) (h2 : L.length ≤ 1000000) (hb : ∀ x ∈ L, x < 256) : By (w.alloc (.cells (rowOf L) 5)) (some ⟨w.heap.size, 0, none⟩) L.length L :=
  By.alloc w L 5 (0, 0) (rowOf L) (fun i hi => by simp [hi]) (by omega) hb
theorem put4 (w : World) : Calls Tryd.prog 6 #[.int .u64 258, .int .i64 4] w fun e w' => e = .returned (.tuple #[.slice (some ⟨w.heap.size, 0, none⟩) 4 4, .int .i64 0]) ∧ By w' (some ⟨w.heap.size, 0, none⟩) 4 [2, 1, 0, 0] ∧ Kept w w' none := by
  refine (put_yes 258 4 w (by omega) (by omega) (by omega) (by decide)).mono ?_
  rintro e w' ⟨rfl, h1, h2, h3⟩
  exact ⟨rfl, h1, h2⟩
/-- The text's bytes. -/
abbrev c9 : Array Value := #[.int .u8 49, .int .u8 50, .int .u8 51, .int .u8 52, .int .u8 53, .int .u8 54, .int .u8 55, .int .u8 56, .int .u8 57]
theorem conv9 (w : World) (h : Nat) (hh : w.heap.size = h) : (convert 22 22 (.slice (some ⟨h, 0, none⟩) 9 9)).run Tryd.prog (w.alloc (.cells #[.int .u8 49, .int .u8 50, .int .u8 51, .int .u8 52, .int .u8 53, .int .u8 54, .int .u8 55, .int .u8 56, .int .u8 57] 5)) = .ok (.slice (some ⟨h, 0, none⟩) 9 9) (w.alloc (.cells c9 5 (9, 10))) := by
  subst hh
  exact run_convert_bytes_const (P := Tryd.prog) w 22 5 c9 9 9 Tryd.uB Tryd.u5
theorem sum9 {w : World} (h : Nat) (hh : w.heap.size = h) (ht : Table w) : Calls Tryd.prog 5 #[.slice (some ⟨h, 0, none⟩) 9 9] (w.alloc (.cells c9 5 (9, 10))) fun e w' => e = .returned (.int .u32 3421780262) ∧ ∃ m, w' = (w.alloc (.cells c9 5 (9, 10))).drewN m := by
  subst hh
  have hb : By (w.alloc (.cells (rowOf [49, 50, 51, 52, 53, 54, 55, 56, 57]) 5 (9, 10))) (some ⟨w.heap.size, 0, none⟩) 9 [49, 50, 51, 52, 53, 54, 55, 56, 57] := By.lit2 w [49, 50, 51, 52, 53, 54, 55, 56, 57] (9, 10) (by decide) (by decide)
  have h := sum_any (c := 9) hb (ht.kept (Kept.alloc w (rowOf [49, 50, 51, 52, 53, 54, 55, 56, 57]) 5 (9, 10) none))
  rw [show sumB [49, 50, 51, 52, 53, 54, 55, 56, 57] = 3421780262 by decide +kernel] at h
  exact h
theorem same4 {w : World} {g : Nat} (hB : By w (some ⟨g, 0, none⟩) 4 [2, 1, 0, 0]) : Calls Tryd.prog 7 #[.slice (some ⟨g, 0, none⟩) 4 4, .slice (some ⟨w.heap.size, 0, none⟩) 4 4] (w.alloc (.cells #[.int .u8 2, .int .u8 1, .int .u8 0, .int .u8 0] 5)) fun e w' => e = .returned (.bool true) ∧ ∃ m, w' = (w.alloc (.cells #[.int .u8 2, .int .u8 1, .int .u8 0, .int .u8 0] 5)).drewN m :=
  same_yes (hB.kept (Kept.alloc w _ _ _ none)) (By.lit w [2, 1, 0, 0] (by decide) (by decide)) rfl

set_option maxRecDepth 100000 in
theorem alive_any (w : World) (ht : Table w) : Calls Tryd.prog 4 #[] w fun e w' => e = .returned (.bool true) ∧ Kept w w' none := by
  have HT : Hid (Table w) := ht
  clear ht
  go_enter Tryd.func4, Tryd.ntmps4
  go_wp2_with (first
    | (go_at_call 6; refine (put4 _).mono ?_; rintro e w1 ⟨rfl, hB, hk⟩)
    | (go_at_call 7; refine (same4 hB).mono ?_; rintro e w2 ⟨rfl, m, rfl⟩; have kc := conv9 ((w1.alloc (.cells #[.int .u8 2, .int .u8 1, .int .u8 0, .int .u8 0] 5)).drewN m) (w1.heap.size + 1) (by simp))
    | (go_at_call 5; refine (sum9 (w1.heap.size + 1) (by simp) (((HT.out.kept hk).kept (Kept.alloc w1 #[.int .u8 2, .int .u8 1, .int .u8 0, .int .u8 0] 5 (0, 0) none)).drewN m)).mono ?_; rintro e w3 ⟨rfl, m2, rfl⟩))
  go_ret
  exact ⟨rfl, (((hk.tr (Kept.alloc _ _ _ _ _)).tr (Kept.drewN _ _ _)).tr (Kept.alloc _ _ _ _ _)).tr (Kept.drewN _ _ _)⟩

end Go.Proofs.YtpngkgfanaebcabDoor
