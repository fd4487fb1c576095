/-
  THE CONTRACTS of bytes.Equal and Parts.
-/
import Derived.Test.YtpajefkfnhibnabDoorSiteR0
import Derived.Test.YtpajefkfnhibnabDoorWhole2
namespace Go.Proofs.YtpajefkfnhibnabDoor
open Go.RowKit Go.Lib Go.Deep
set_option linter.unusedVariables false
set_option linter.unusedSimpArgs false

theorem textOf_inj {L M : List Nat} (hL : ∀ x ∈ L, x < 256) (hM : ∀ x ∈ M, x < 256) (h : textOf L = textOf M) : L = M := by
  unfold textOf at h
  have h1 : L.map UInt8.ofNat = M.map UInt8.ofNat := by injection h with h; simpa using h
  have h2 : ∀ N : List Nat, (∀ x ∈ N, x < 256) → (N.map UInt8.ofNat).map UInt8.toNat = N := by
    intro N hN
    rw [List.map_map]
    conv => rhs; rw [← List.map_id N]
    apply List.map_congr_left
    intro x hx
    have := hN x hx
    simp; omega
  rw [← h2 L hL, ← h2 M hM, h1]
theorem textOf_eq {L M : List Nat} (hL : ∀ x ∈ L, x < 256) (hM : ∀ x ∈ M, x < 256) : ((textOf L).toList == (textOf M).toList) = decide (L = M) := by
  rw [ByteArray.toList_eq, ByteArray.toList_eq]
  by_cases e : L = M
  · subst e; simp
  · have : ¬ (textOf L).data.toList = (textOf M).data.toList := fun e2 => e (textOf_inj hL hM (by
      have : (textOf L).data = (textOf M).data := Array.toList_inj.1 e2
      show ByteArray.mk (textOf L).data = ByteArray.mk (textOf M).data
      rw [this]))
    rw [decide_eq_false e]
    exact beq_eq_false_iff_ne.2 this
theorem equal_any {w : World} {a a' : Option Addr} {n n' c c' : Nat} {L M : List Nat} (hL : By w a n L) (hM : By w a' n' M) : Calls Tryd.prog 39 #[.slice a n c, .slice a' n' c'] w fun e w' => e = .returned (.bool (decide (L = M))) ∧ w' = w := by
  have t1 := run_text hL c
  have t2 := run_text hM c'
  have HE := Hid.mk' (textOf_eq hL.lt hM.lt)
  generalize hd : decide (L = M) = d at *
  clear hd hL hM
  go_enter Tryd.func39, Tryd.ntmps39
  go_wp2
  go_ret
  exact ⟨by rw [← HE.out]; simp, rfl⟩
theorem readerOf_any {w : World} {a : Option Addr} {n c : Nat} : Calls Tryd.prog 21 #[.slice a n c] w fun e w' => e = .returned (.agg #[.slice a n c, .bool false]) ∧ Kept w w' none := by
  go_enter Tryd.func21, Tryd.ntmps21
  go_wp2
  refine bodyPost_ret (v := .agg #[.slice a n c, .bool false]) (by simp [results, Tryd.results21, go_sem]) rfl ⟨rfl, ?_⟩
  exact Kept.alloc _ _ _ (0, 0) _
/-- A reader that has just been made. -/
theorem rdr_new {w : World} {a : Option Addr} {n c : Nat} {L : List Nat} (h : Come w a n c L) (t : TypeId) (v : Value) : Rdr (w.alloc (.cells #[.slice a n c, .bool false, v] t)) (w.heap.size + 1) w.heap.size (L, false) := by
  refine ⟨⟨a, n, c, by go_simp, h.keptR (Kept.alloc _ _ _ (0, 0) none) (fun _ _ _ => by simp), fun hp x hx => ?_⟩, by go_simp, by go_simp, by go_simp, ⟨v, by go_simp⟩, by go_simp, by omega⟩
  obtain ⟨b, off, e, hb, _⟩ := h.by_.at_ hp
  rw [hx] at e
  injection e with e
  subst e
  dsimp only
  omega
theorem kept_own {w W w' : World} (h : Kept w W none) (k : Kept W w' (some w.heap.size)) : Kept w w' none :=
  ⟨k.os.trans h.os, k.tape.trans h.tape, k.output.trans h.output, Nat.le_trans h.size k.size, fun i hi _ => (k.block i (Nat.lt_of_lt_of_le hi h.size) (fun e => by have := Option.some.inj e; omega)).trans (h.block i hi (by simp))⟩
def partsB (L : List Nat) : Bool := doneB (plansM (L, false)).2 && allB (plansM (L, false)).1.length (fun k => mayB ((plansM (L, false)).1.getD k q0))
end Go.Proofs.YtpajefkfnhibnabDoor
