/-
  TwinPlans: plans in new memory are the same plans.
-/
import Derived.Test.YtpajefkfnhibnaaDoorTwinB
namespace Go.Proofs.YtpajefkfnhibnaaDoor
open Go.RowKit Go.Lib Go.Deep
set_option linter.unusedVariables false
set_option linter.unusedSimpArgs false

theorem Lie.ltrA {lo : Nat} {w w' : World} {a : Option Addr} {n k : Nat} {f : Nat → Nat → Value} (h : Lie w a n k f) (q : LtrZ lo w w') (hl : ∀ b, a = some b → lo ≤ b.block) : Lie w' a n k f :=
  ⟨fun hp => by
    obtain ⟨b, off, rfl, hb, hc⟩ := h.at_ hp
    exact ⟨b, off, rfl, Nat.lt_of_lt_of_le hb q.size, fun i hi j hj => q.cell (hc i hi j hj) (hl _ rfl)⟩⟩
theorem Ints.ltrA {lo : Nat} {w w' : World} {a : Option Addr} {n c : Nat} {l : List Int} (h : Ints w a n c l) (q : LtrZ lo w w') (hl : ∀ b, a = some b → lo ≤ b.block) : Ints w' a n c l := ⟨h.lie.ltrA q hl, h.size, h.cap, h.rng⟩
def TwP (w : World) (l : List Pl) (n : Nat) (e : Ending) (w' : World) : Prop := ∃ a' c', e = .returned (.slice a' n c') ∧ (∀ w'', LtrZ w.heap.size w' w'' → Plans w'' a' n c' l) ∧ Kept w w' none
theorem Tp.start (w : World) (l : List Pl) : Tp w l w 0 (.slice none 0 0) := ⟨⟨fun _ => (none, 0), World.ownsRow_nil _ _ _ _, fun i hi => by omega, fun i hi => by omega⟩, Kept.refl _ _⟩
theorem Tp.done {w wr : World} {l : List Pl} {n : Nat} {v : Value} (h : Tp w l wr n v) (hl : l.length = n) (hr : ∀ p ∈ l, i64B p.cycle ∧ i64B p.offset) : TwP w l n (.returned v) wr := by
  obtain ⟨⟨r, ho, hi, hb⟩, hk⟩ := h
  obtain ⟨a', cap, rfl, h1, h2, h3⟩ := lie_own (by omega) ho
  exact ⟨a', cap, rfl, fun w'' q => ⟨⟨r, h1.ltrA q (fun b e => (h3 b e).1), fun i hin => (hi i hin).ltrA q (fun b e => (hb i hin b e).2.2)⟩, hl, h2, hr⟩, hk⟩
set_option maxRecDepth 100000 in
set_option maxHeartbeats 4000000 in
theorem twinPlans_any {w : World} {a : Option Addr} {n c : Nat} {l : List Pl} (hP : Plans w a n c l) (hn : n ≤ 40) (hs : ∀ i, i < n → (l.getD i q0).splits.length ≤ 40) : Calls Tryd.prog 32 #[.slice a n c] w fun e w' => TwP w l n e w' := by
  have HP := Hid.mk' hP
  have HS := Hid.mk' hs
  have HLN := Hid.mk' hP.size
  have HRG := Hid.mk' hP.rng
  clear hP hs
  go_enter Tryd.func32, Tryd.ntmps32
  go_wp2
  go_loopw [3, 4] (fun v i wr => ∃ k : Nat, k ≤ n ∧ i = .int .i64 k ∧ Hid (Tp w l wr k v)) (fun _ i _ => n - (intOf i).toNat)
  case atStart => exact ⟨0, Nat.zero_le _, rfl, Tp.start w l⟩
  case round =>
    obtain ⟨k, hk, rfl, HT⟩ := hrel
    by_cases hlt : k < n
    case neg =>
      have e : k = n := by omega
      subst e
      go_wp2
      go_ret
      exact HT.out.done HLN.out HRG.out
    obtain ⟨b, off, ar, cr, ea, p0, p1, p2, hI⟩ := (HP.out.kept HT.out.kept).at_ hlt
    subst ea
    have hm := HS.out k hlt
    have hbl := block_lt p0
    obtain ⟨i0, hi0, hz0, hz1, hz2⟩ := info_parts Tryd.infoIn
    obtain ⟨a', cap, W2, hrun, h1, h2, h3, h4⟩ := twin_run (w := wr.alloc (plB (l.getD k q0) ar cr)) (ty := 31) Tryd.uIns hi0 hz0 hz1 hz2 rfl (by omega) (by omega) (hI.kept (Kept.alloc wr _ _ _ _)).lie hI.cap (by omega) (fun i j => rfl)
    have hJ : Ints W2 a' (l.getD k q0).splits.length cap (l.getD k q0).splits := ⟨h1, rfl, h2, hI.rng⟩
    obtain ⟨v', W5, hrun2, hT5⟩ := HT.out.step (by omega) h4 hJ (fun b e => (h3 b e).1) (fun b e => (h3 b e).2)
    have HT5 := Hid.mk' hT5
    have HR1 := Hid.mk' hrun
    have HR2 := Hid.mk' hrun2
    have hk4 := h4
    have z2 : wr.heap.size + 1 ≤ W2.heap.size := by have := h4.size; simpa using this
    have q0' : W2.cell? ⟨wr.heap.size, 0, none⟩ = some (.int .i64 (l.getD k q0).cycle) := cell_kept0 (by simp [World.cell?_alloc_mark]) h4
    have q1' : W2.cell? ⟨wr.heap.size, 1, none⟩ = some (.int .i64 (l.getD k q0).offset) := cell_kept0 (by simp [World.cell?_alloc_mark]) h4
    have q2' : W2.cell? ⟨wr.heap.size, 2, none⟩ = some (.slice ar (l.getD k q0).splits.length cr) := cell_kept0 (by simp [World.cell?_alloc_mark]) h4
    have qf : W2.frozen? ⟨wr.heap.size, 2, none⟩ = false := (frozen_blockZ (h4.block _ (by simp) (by simp))).trans (by go_simp)
    clear hI h1 h2 h3 h4 hJ hT5 hrun hrun2 hk4
    generalize l.getD k q0 = p at *
    go_wp2_with (first
      | (have hgo := hdone; clear hgo; at_builtin; refine wpList_app (by rfl) _ _ _ (by rfl) (by rfl) (by rfl) HR2.out ?_)
      | (at_builtin; refine wpList_app (by rfl) _ _ _ (by rfl) (by rfl) (by rfl) HR1.out ?_; have hdone := trivial))
    go_roundw
    case rel => exact ⟨k + 1, by omega, by go_num, HT5⟩
    case measure => simp [intOf]; omega

end Go.Proofs.YtpajefkfnhibnaaDoor
