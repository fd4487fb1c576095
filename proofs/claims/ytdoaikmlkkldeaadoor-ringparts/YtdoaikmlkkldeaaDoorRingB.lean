/-
  THE CONTRACTS of package ring's calls over a ring, more: All, Sum, Full.
-/
import Derived.Test.YtdoaikmlkkldeaaDoorRing
namespace Go.Proofs.YtdoaikmlkkldeaaDoor
open Go.RowKit Go.Lib Go.Deep
set_option linter.unusedVariables false
set_option linter.unusedSimpArgs false

theorem Tryd.underlyingTS : Tryd.prog.underlying 35 = some (.slice 3) := by kernel_rfl
theorem Tryd.info3 : (Tryd.prog.info? 3).map (fun i => (i.zero, i.size, i.bytes)) = some (some (.int .i64 0), 1, 8) := by kernel_rfl

theorem all_step {w : World} {g q k : Nat} {l : List Int} (h : w.rowIs g 3 q (fun j => .int .i64 (if j < k then l.getD j 0 else 0))) (m : Nat) :
    ((w.drewN m).setCell ⟨g, k, none⟩ (.int .i64 (l.getD k 0))).rowIs g 3 q (fun j => .int .i64 (if j < k + 1 then l.getD j 0 else 0)) := by
  refine World.rowIs.congr (World.rowIs.set (w := w.drewN m) h k _) (fun i hi => ?_)
  by_cases a : i = k
  · subst a; rw [if_pos rfl, if_pos (by omega)]
  · rw [if_neg a]
    by_cases c : i < k
    · rw [if_pos c, if_pos (by omega)]
    · rw [if_neg c, if_neg (by omega)]

set_option maxHeartbeats 400000 in
theorem all_ring {b N : Nat} {L : List Int} {w : World} (h : IsRing w b N L) :
    Calls Tryd.prog 12 #[.pointer (some ⟨b, 0, none⟩)] w fun e w' => e = .returned (.tuple #[.slice (some ⟨w.heap.size, 0, none⟩) (min L.length N) (min L.length N), .int .i64 0]) ∧
      w'.rowIs w.heap.size 3 (min L.length N) (fun j => .int .i64 ((lastN N L).getD j 0)) ∧ w'.heap.size = w.heap.size + 1 ∧ Kept w w' none := by
  have cm := h.cm
  have hN := h.n2
  have hb := h.lt
  obtain ⟨q, hq⟩ : ∃ q, q = min L.length N := ⟨_, rfl⟩
  have hq2 : q ≤ 1024 := by omega
  rw [← hq] at cm ⊢
  have HQ : Hid (q = min L.length N) := hq
  clear hq hN
  have hmk := run_make_row' (P := Tryd.prog) 35 3 (.int .i64 0) 8 Tryd.underlyingTS Tryd.info3 rfl .i64 .i64 q (by omega) (by omega)
  go_enter Tryd.func12, Tryd.ntmps12
  go_wp2_with (go_at_call 23; refine (made_ring h).mono ?_; rintro e w ⟨rfl, rfl⟩)
  clear hmk
  go_loopw [16] (fun i wr => ∃ k : Nat, k ≤ q ∧ i = .int .i64 k ∧ wr.rowIs w.heap.size 3 q (fun j => .int .i64 (if j < k then (lastN N L).getD j 0 else 0)) ∧ Kept w wr none ∧ wr.heap.size = w.heap.size + 1) (fun i _ => q - (intOf i).toNat)
  case atStart => exact ⟨0, Nat.zero_le _, rfl, World.rowIs.congr (World.rowIs_made _ _ _ _) (fun i hi => by simp), Kept.alloc _ _ _ _, by simp⟩
  case round =>
    obtain ⟨k, hk, rfl, hrow, hkept, hsz⟩ := hrel
    have hring := h.kept hkept (by simp)
    have cmr := hring.cm
    rw [← HQ.out] at cmr
    by_cases hlt : k < q
    · have hcell := hrow.cell hlt
      have hfz := hrow.frozen k
      have HB : Hid (L.getD (L.length - 1 - (q - 1 - k)) 0 = (lastN N L).getD k 0) := by have := lastN_back N L k (by rw [← HQ.out]; exact hlt); rw [HQ.out]; exact this
      go_wp2_with (go_at_call 24; refine (back_ring hring (q - 1 - k) _ (by omega) (by rw [← HQ.out]; omega)).mono ?_; rintro e w' ⟨rfl, m, rfl⟩; rw [HB.out])
      go_roundw
      case rel => exact ⟨k + 1, by omega, by go_num, all_step hrow _, (hkept.trans (Kept.drewN _ _ _)).setNew (Nat.le_refl _) _, by simpa [World.setCell] using hsz⟩
      case measure => simp [intOf]; omega
    · have hkq : k = q := by omega
      subst hkq
      go_wp2
      go_ret2
      exact ⟨rfl, hrow.congr (fun i hi => by rw [if_pos hi]), hsz, hkept⟩

theorem full_core (b m n : Nat) (w : World) (h1 : 1 ≤ n) (cn : w.cell? ⟨b, 1024, none⟩ = some (.int .i64 n)) (cm : w.cell? ⟨b, 1026, none⟩ = some (.int .i64 m)) :
    Calls Tryd.prog 10 #[.pointer (some ⟨b, 0, none⟩)] w fun e w' => e = .returned (.bool ((m : Int) == (n : Int))) ∧ ∃ k, w' = w.drewN k := by
  go_enter Tryd.func10, Tryd.ntmps10
  go_wp2_with fail
  go_quiet ((go_at_call 23; exact Calls.quiet_of_same (made_yes _ _ _ (by omega) cn)))
  go_wp2
  go_ret
  exact ⟨rfl, _, rfl⟩
theorem full_ring {b N : Nat} {L : List Int} {w : World} (h : IsRing w b N L) :
    Calls Tryd.prog 10 #[.pointer (some ⟨b, 0, none⟩)] w fun e w' => e = .returned (.bool (decide (N ≤ L.length))) ∧ ∃ k, w' = w.drewN k := by
  refine (full_core b _ N w h.n1 h.cn h.cm).mono ?_
  rintro e w' ⟨rfl, k, rfl⟩
  refine ⟨ret_bool ?_, k, rfl⟩
  rw [Bool.eq_iff_iff]; simp; omega
theorem full_yes {b N : Nat} {L : List Int} {w : World} (h : IsRing w b N L) (hle : N ≤ L.length) :
    Calls Tryd.prog 10 #[.pointer (some ⟨b, 0, none⟩)] w fun e w' => e = .returned (.bool true) ∧ ∃ k, w' = w.drewN k := by
  refine (full_ring h).mono ?_
  rintro e w' ⟨rfl, k⟩
  exact ⟨by rw [decide_eq_true hle], k⟩
theorem full_no {b N : Nat} {L : List Int} {w : World} (h : IsRing w b N L) (hle : L.length < N) :
    Calls Tryd.prog 10 #[.pointer (some ⟨b, 0, none⟩)] w fun e w' => e = .returned (.bool false) ∧ ∃ k, w' = w.drewN k := by
  refine (full_ring h).mono ?_
  rintro e w' ⟨rfl, k⟩
  exact ⟨by rw [decide_eq_false (by omega)], k⟩
theorem all_ring' {b N : Nat} {L : List Int} {w : World} (h : IsRing w b N L) (q : Nat) (hq : min L.length N = q) :
    Calls Tryd.prog 12 #[.pointer (some ⟨b, 0, none⟩)] w fun e w' => e = .returned (.tuple #[.slice (some ⟨w.heap.size, 0, none⟩) q q, .int .i64 0]) ∧
      w'.rowIs w.heap.size 3 q (fun j => .int .i64 ((lastN N L).getD j 0)) ∧ w'.heap.size = w.heap.size + 1 ∧ Kept w w' none := by
  subst hq; exact all_ring h

end Go.Proofs.YtdoaikmlkkldeaaDoor
