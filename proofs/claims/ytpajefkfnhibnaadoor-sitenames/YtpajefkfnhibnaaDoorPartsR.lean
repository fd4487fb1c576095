/-
  THE CONTRACTS of bytes.Equal and Parts.
-/
import Derived.Test.YtpajefkfnhibnaaDoorSiteR0
import Derived.Test.YtpajefkfnhibnaaDoorWhole2
namespace Go.Proofs.YtpajefkfnhibnaaDoor
open Go.RowKit Go.Lib Go.Deep
set_option linter.unusedVariables false
set_option linter.unusedSimpArgs false

theorem textOf_inj {L M : List Nat} (hL : ∀ x ∈ L, x < 256) (hM : ∀ x ∈ M, x < 256) (h : textOf L = textOf M) : L = M := by
  unfold textOf at h
  have h1 : L.map UInt8.ofNat = M.map UInt8.ofNat := by injection h with h; simpa using h
  have h2 : ∀ N : List Nat, (∀ x ∈ N, x < 256) → (N.map UInt8.ofNat).map UInt8.toNat = N := by
    intro N hN
    rw [List.map_map]
    conv => rhs; rw [← List.map_id N]
    apply List.map_congr_left
    intro x hx
    have := hN x hx
    simp; omega
  rw [← h2 L hL, ← h2 M hM, h1]
theorem textOf_eq {L M : List Nat} (hL : ∀ x ∈ L, x < 256) (hM : ∀ x ∈ M, x < 256) : ((textOf L).toList == (textOf M).toList) = decide (L = M) := by
  rw [ByteArray.toList_eq, ByteArray.toList_eq]
  by_cases e : L = M
  · subst e; simp
  · have : ¬ (textOf L).data.toList = (textOf M).data.toList := fun e2 => e (textOf_inj hL hM (by
      have : (textOf L).data = (textOf M).data := Array.toList_inj.1 e2
      show ByteArray.mk (textOf L).data = ByteArray.mk (textOf M).data
      rw [this]))
    rw [decide_eq_false e]
    exact beq_eq_false_iff_ne.2 this
theorem equal_any {w : World} {a a' : Option Addr} {n n' c c' : Nat} {L M : List Nat} (hL : By w a n L) (hM : By w a' n' M) : Calls Tryd.prog 89 #[.slice a n c, .slice a' n' c'] w fun e w' => e = .returned (.bool (decide (L = M))) ∧ w' = w := by
  have t1 := run_text hL c
  have t2 := run_text hM c'
  have HE := Hid.mk' (textOf_eq hL.lt hM.lt)
  generalize hd : decide (L = M) = d at *
  clear hd hL hM
  go_enter Tryd.func89, Tryd.ntmps89
  go_wp2
  go_ret
  exact ⟨by rw [← HE.out]; simp, rfl⟩
theorem readerOf_any {w : World} {a : Option Addr} {n c : Nat} : Calls Tryd.prog 44 #[.slice a n c] w fun e w' => e = .returned (.agg #[.slice a n c, .bool false]) ∧ Kept w w' none := by
  go_enter Tryd.func44, Tryd.ntmps44
  go_wp2
  refine bodyPost_ret (v := .agg #[.slice a n c, .bool false]) (by simp [results, Tryd.results44, go_sem]) rfl ⟨rfl, ?_⟩
  exact Kept.alloc _ _ _ (0, 0) _
/-- A reader that has just been made. -/
theorem rdr_new {w : World} {a : Option Addr} {n c : Nat} {L : List Nat} (h : Come w a n c L) (t : TypeId) (v : Value) : Rdr (w.alloc (.cells #[.slice a n c, .bool false, v] t)) (w.heap.size + 1) w.heap.size (L, false) := by
  refine ⟨⟨a, n, c, by go_simp, h.keptR (Kept.alloc _ _ _ (0, 0) none) (fun _ _ _ => by simp), fun hp x hx => ?_⟩, by go_simp, by go_simp, by go_simp, ⟨v, by go_simp⟩, by go_simp, by omega⟩
  obtain ⟨b, off, e, hb, _⟩ := h.by_.at_ hp
  rw [hx] at e
  injection e with e
  subst e
  dsimp only
  omega
theorem kept_own {w W w' : World} (h : Kept w W none) (k : Kept W w' (some w.heap.size)) : Kept w w' none :=
  ⟨k.os.trans h.os, k.tape.trans h.tape, k.output.trans h.output, Nat.le_trans h.size k.size, fun i hi _ => (k.block i (Nat.lt_of_lt_of_le hi h.size) (fun e => by have := Option.some.inj e; omega)).trans (h.block i hi (by simp))⟩
def partsB (L : List Nat) : Bool := doneB (plansM (L, false)).2 && allB (plansM (L, false)).1.length (fun k => mayB ((plansM (L, false)).1.getD k q0))
set_option maxRecDepth 100000 in
set_option maxHeartbeats 1000000 in
theorem parts_any {w : World} {a : Option Addr} {n c : Nat} {L : List Nat} (h : Come w a n c L) : Calls Tryd.prog 15 #[.slice a n c] w fun e w' => Kept w w' none ∧ ((partsB L = true ∧ ∃ g, e = .returned (.tuple #[.slice (some ⟨g, 0, none⟩) (plansM (L, false)).1.length (plansM (L, false)).1.length, .int .i64 0]) ∧ Plans w' (some ⟨g, 0, none⟩) (plansM (L, false)).1.length (plansM (L, false)).1.length (plansM (L, false)).1) ∨ (partsB L = false ∧ e = .returned (.tuple #[.slice none 0 0, .int .i64 8]))) := by
  have hcall := fun (v : World) (hv : Kept w v none) => readPlans_any (rdr_new (h.keptR hv (fun _ _ _ => by simp)) 88 (.slice none 0 0)) (by simp)
  have HB : Hid (partsB L = (doneB (plansM (L, false)).2 && allB (plansM (L, false)).1.length (fun k => mayB ((plansM (L, false)).1.getD k q0)))) := rfl
  have hR := plansM_r (L, false)
  rw [HB.out]
  clear HB
  generalize plansM (L, false) = u at *
  obtain ⟨l, s'⟩ := u
  dsimp only at *
  have HC := Hid.mk' hcall
  have HR := Hid.mk' hR
  clear hcall hR h
  generalize hm : allB l.length (fun k => mayB (l.getD k q0)) = m
  have HM := Hid.mk' hm
  clear hm
  generalize hd : doneB s' = d
  have HD := Hid.mk' hd
  clear hd
  cases d <;> cases m <;>
    go_enter Tryd.func15, Tryd.ntmps15 <;>
    go_wp2_with (first
      | (have hgo := P2; clear hgo; go_at_call 42; have hn := allMay_any P2.out; rw [HM.out] at hn; refine hn.mono ?_; rintro e w3 ⟨rfl, hk3⟩; have P3 := Hid.mk' (P2.out.kept hk3); have c3 := cell_kept0 c2 hk3)
      | (have hgo := R1; clear hgo; go_at_call 46; have hn := done_any R1.out; rw [HD.out] at hn; refine hn.mono ?_; rintro e w2 ⟨rfl, rfl⟩)
      | (go_at_call 45; refine (HC.out _ hk0).mono ?_; rintro e w1 ⟨rfl, g, c2, hl1, hr1, hk1⟩; have R1 := Hid.mk' hr1; have P2 := Hid.mk' (hl1.plans rfl (by have := HR.out.1; omega) HR.out.2); have K1 := Hid.mk' (hk0.tr (kept_own (Kept.alloc w0 #[.slice a n c, .bool false, .slice none 0 0] 88 (0, 0) none) hk1)); clear hr1 hl1 hk1)
      | (go_at_call 44; refine readerOf_any.mono ?_; rintro e w0 ⟨rfl, hk0⟩))
  all_goals go_ret2
  · exact ⟨K1.out, .inr ⟨rfl, rfl⟩⟩
  · exact ⟨K1.out, .inr ⟨rfl, rfl⟩⟩
  · exact ⟨K1.out.tr hk3, .inr ⟨rfl, rfl⟩⟩
  · exact ⟨K1.out.tr hk3, .inl ⟨rfl, g, rfl, P3.out⟩⟩

end Go.Proofs.YtpajefkfnhibnaaDoor
