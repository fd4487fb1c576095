/-
  OWN BYTES THAT ARE WRITTEN OVER: what stays known of them.
-/
import Derived.Test.YtflehhliddcfgaaDoorRefD
namespace Go.Proofs.YtflehhliddcfgaaDoor
open Go.RowKit Go.Lib Go.Deep
set_option linter.unusedVariables false
set_option linter.unusedSimpArgs false

/-- n bytes, some ones, in a block of at least 'lo'. -/
structure Ovr (w : World) (lo : Nat) (a : Option Addr) (n : Nat) : Prop where
  at_ : 0 < n → ∃ g, a = some ⟨g, 0, none⟩ ∧ lo ≤ g ∧ (∀ i, i < n → ∃ x : Nat, x < 256 ∧ w.cell? ⟨g, i, none⟩ = some (.int .u8 (x : Int))) ∧ ∀ i, w.frozen? ⟨g, i, none⟩ = false
theorem Ovr.kept {w w' : World} {lo : Nat} {a : Option Addr} {n : Nat} (h : Ovr w lo a n) (k : Kept w w' none) : Ovr w' lo a n := by
  refine ⟨fun hp => ?_⟩
  obtain ⟨g, e, hl, hc, hf⟩ := h.at_ hp
  obtain ⟨x, hx, h0⟩ := hc 0 hp
  have hb : g < w.heap.size := block_lt h0
  refine ⟨g, e, hl, fun i hi => ?_, fun i => (frozen_kept (x := ⟨g, i, none⟩) k hb).trans (hf i)⟩
  obtain ⟨x, hx, h1⟩ := hc i hi
  exact ⟨x, hx, (cell_kept (x := ⟨g, i, none⟩) k hb).trans h1⟩
theorem Ovr.set {w : World} {lo : Nat} {a : Option Addr} {n : Nat} (h : Ovr w lo a n) (b j : Nat) {v : Value} (hv : ∃ y : Nat, y < 256 ∧ v = .int .u8 (y : Int)) : Ovr (w.setCell ⟨b, j, none⟩ v) lo a n := by
  refine ⟨fun hp => ?_⟩
  obtain ⟨g, e, hl, hc, hf⟩ := h.at_ hp
  refine ⟨g, e, hl, fun i hi => ?_, fun i => by rw [World.frozen?_setCell]; exact hf i⟩
  obtain ⟨x, hx, h1⟩ := hc i hi
  obtain ⟨y, hy, rfl⟩ := hv
  by_cases hs : b = g ∧ j = i
  · obtain ⟨rfl, rfl⟩ := hs
    exact ⟨y, hy, World.cell?_setCell_same _ _ _ h1⟩
  · exact ⟨x, hx, (World.cell?_setCell_other _ _ _ _ (by intro e; injection e with e1 e2; exact hs ⟨e1, e2⟩)).trans h1⟩
theorem Mine.rowW {w : World} {base g n cap : Nat} {L : List Nat} (h : Mine w base (some ⟨g, 0, none⟩) n cap L) : n ≤ cap ∧ ∃ f : Nat → Value, w.rowIs g 5 cap (fun j => if j < n then .int .u8 ((L.getD j 0 : Nat) : Int) else f j) := by
  have hl : L.length = n := by have := h.own.1; simpa using this
  obtain ⟨_, ⟨e, _⟩ | ⟨g', cap', cur, e, hb, hh, hle, hmx, hsz, htk⟩⟩ := h.own
  · cases e
  · injection e with e1 e2 e3
    subst e3
    injection e1 with e1
    injection e1 with e1 _
    subst e1
    refine ⟨hle, fun j => (cur[j]?).getD (.bool false), cur, hh, by omega, fun i hi => ?_⟩
    show cur[i]? = some (if i < n then _ else _)
    by_cases hin : i < n
    · rw [if_pos hin]
      have : (cur.toList.take (n * 1))[i]? = (L.map byteV)[i]? := by rw [htk]
      rw [List.getElem?_take_of_lt (by omega)] at this
      have hiL : i < L.length := by omega
      simp [hiL] at this
      simp [this, hiL]
    · rw [if_neg hin]
      have : i < cur.size := by omega
      simp [this]
theorem Mine.ovr {w : World} {base : Nat} {a : Option Addr} {n cap : Nat} {L : List Nat} (h : Mine w base a n cap L) (hL : ∀ x ∈ L, x < 256) {lo : Nat} (hlo : lo ≤ base) : Ovr w lo a n := by
  refine ⟨fun hp => ?_⟩
  rcases id h.own.2 with ⟨e, e2⟩ | ⟨g, cap', cur, e, hb, hh, hle, hmx, hsz, htk⟩
  · exact absurd e2 (by omega)
  · injection e with e1 e2 e3
    subst e1 e3
    obtain ⟨_, f, hr⟩ := h.rowW
    have hl : L.length = n := by have := h.own.1; simpa using this
    refine ⟨g, rfl, by omega, fun i hi => ⟨L.getD i 0, ?_, ?_⟩, fun i => hr.frozen i⟩
    · have : L.getD i 0 = L[i]'(by omega) := by simp [show i < L.length by omega]
      rw [this]; exact hL _ (List.getElem_mem _)
    · have := hr.cell (i := i) (by omega)
      simpa [hi] using this
theorem Box.farW {w : World} {b : Nat} {v0 v1 v2 : Value} (h : Box w b v0 v1 v2) {g : Nat} (hne : g ≠ b) (i : Nat) (u : Value) : Box (w.setCell ⟨g, i, none⟩ u) b v0 v1 v2 :=
  ⟨(World.cell?_setCell_other _ _ _ _ (by simp [hne])).trans h.c0, (World.cell?_setCell_other _ _ _ _ (by simp [hne])).trans h.c1, (World.cell?_setCell_other _ _ _ _ (by simp [hne])).trans h.c2, by rw [World.frozen?_setCell]; exact h.f0, by rw [World.frozen?_setCell]; exact h.f1, by rw [World.frozen?_setCell]; exact h.f2, by simpa [World.setCell] using h.lt⟩
theorem wrap8 (z : Int) : ∃ y : Nat, y < 256 ∧ Value.int .u8 (IntKind.u8.wrap z) = .int .u8 (y : Int) := by
  refine ⟨(z % 256).toNat, by omega, ?_⟩
  congr 1
  simp [IntKind.wrap, IntKind.bits, IntKind.signed]
  omega

end Go.Proofs.YtflehhliddcfgaaDoor
