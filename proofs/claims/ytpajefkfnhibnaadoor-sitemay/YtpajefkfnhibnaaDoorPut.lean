/-
  THE CONTRACTS of raw.Put and raw.Get.
-/
import Derived.Test.YtpajefkfnhibnaaDoorWorld
namespace Go.Proofs.YtpajefkfnhibnaaDoor
open Go.RowKit Go.Lib Go.Deep
set_option linter.unusedVariables false
set_option linter.unusedSimpArgs false

theorem Tryd.info5 : (Tryd.prog.info? 5).map (fun i => (i.zero, i.size, i.bytes)) = some (some (.int .u8 0), 1, 1) := by kernel_rfl

theorem put_step {w : World} {g q k : Nat} {l : List Nat} (h : w.rowIs g 5 q (fun j => .int .u8 ((if j < k then l.getD j 0 else 0 : Nat) : Int))) :
    (w.setCell ⟨g, k, none⟩ (.int .u8 ((l.getD k 0 : Nat) : Int))).rowIs g 5 q (fun j => .int .u8 ((if j < k + 1 then l.getD j 0 else 0 : Nat) : Int)) := by
  refine World.rowIs.congr (World.rowIs.set h k _) (fun i hi => ?_)
  by_cases a : i = k
  · subst a; rw [if_pos rfl, if_pos (by omega)]
  · rw [if_neg a]
    by_cases c : i < k
    · rw [if_pos c, if_pos (by omega)]
    · rw [if_neg c, if_neg (by omega)]

theorem put_no_width (n width : Int) (w : World) (h : width < 1 ∨ 8 < width) :
    Calls Tryd.prog 111 #[.int .u64 n, .int .i64 width] w fun e w' => e = .returned (.tuple #[.slice none 0 0, .int .i64 2]) ∧ w' = w := by
  rcases h with h | h
  · go_enter Tryd.func111, Tryd.ntmps111
    go_wp2
    go_ret2
    exact ⟨rfl, rfl⟩
  · go_enter Tryd.func111, Tryd.ntmps111
    go_wp2
    go_ret2
    exact ⟨rfl, rfl⟩

theorem pow_byte (n i : Nat) : ((n : Int) / 2 ^ (8 * i)) = ((n / 256 ^ i : Nat) : Int) := by
  have : (256 : Nat) ^ i = 2 ^ (8 * i) := by rw [Nat.pow_mul]
  rw [this]
  simp
theorem put_no (n q : Nat) (w : World) (h1 : 1 ≤ q) (h2 : q ≤ 8) (hn : n < 18446744073709551616) (h : n / 256 ^ q ≠ 0) :
    Calls Tryd.prog 111 #[.int .u64 n, .int .i64 q] w fun e w' => e = .returned (.tuple #[.slice none 0 0, .int .i64 2]) ∧ w' = w := by
  have hne : (((n : Int) / 2 ^ (8 * q)) != 0) = true := by rw [pow_byte]; generalize n / 256 ^ q = z at h; simp; omega
  clear h
  go_enter Tryd.func111, Tryd.ntmps111
  go_wp2
  go_ret2
  exact ⟨rfl, rfl⟩
theorem put_yes (n q : Nat) (w : World) (h1 : 1 ≤ q) (h2 : q ≤ 8) (hn : n < 18446744073709551616) (h : n / 256 ^ q = 0) :
    Calls Tryd.prog 111 #[.int .u64 n, .int .i64 q] w fun e w' => e = .returned (.tuple #[.slice (some ⟨w.heap.size, 0, none⟩) q q, .int .i64 0]) ∧ By w' (some ⟨w.heap.size, 0, none⟩) q (leb q n) ∧ Kept w w' none ∧ w'.heap.size = w.heap.size + 1 := by
  have hne : (((n : Int) / 2 ^ (8 * q)) != 0) = false := by rw [pow_byte, h]; rfl
  clear h
  have hmk := run_make_row' (P := Tryd.prog) 44 5 (.int .u8 0) 1 Tryd.uB Tryd.info5 rfl .i64 .i64 q (by omega) (by omega)
  go_enter Tryd.func111, Tryd.ntmps111
  go_wp2
  clear hmk hne
  go_loopw [25] (fun i wr => ∃ k : Nat, k ≤ q ∧ i = .int .i64 k ∧ wr.rowIs w.heap.size 5 q (fun j => .int .u8 ((if j < k then (leb q n).getD j 0 else 0 : Nat) : Int)) ∧ Kept w wr none ∧ wr.heap.size = w.heap.size + 1) (fun i _ => q - (intOf i).toNat)
  case atStart => exact ⟨0, Nat.zero_le _, rfl, World.rowIs.congr (World.rowIs_made _ _ _ _) (fun i hi => by simp), Kept.alloc _ _ _ _ _, by simp⟩
  case round =>
    obtain ⟨k, hk, rfl, hrow, hkept, hsz⟩ := hrel
    by_cases hlt : k < q
    · have hcell := hrow.cell hlt
      have hfz := hrow.frozen k
      have hv : ((n : Int) / 2 ^ (8 * k)) % 256 = (((leb q n).getD k 0 : Nat) : Int) := by rw [pow_byte, leb_getD q n k hlt]; simp
      go_wp2
      go_roundw
      case rel => exact ⟨k + 1, by omega, by go_num, by first | exact put_step hrow | (rw [← hv]; exact put_step hrow) | (rw [hv]; exact put_step hrow), hkept.setNew (Nat.le_refl _) _, by simpa [World.setCell] using hsz⟩
      case measure => simp [intOf]; omega
    · have hkq : k = q := by omega
      subst hkq
      go_wp2
      go_ret2
      exact ⟨rfl, By.row hrow _ k (Nat.le_refl _) (leb_length _ _) (by omega) (leb_lt _ _) (fun i hi => by rw [if_pos hi]), hkept, hsz⟩

/-! ### Get -/

end Go.Proofs.YtpajefkfnhibnaaDoor
