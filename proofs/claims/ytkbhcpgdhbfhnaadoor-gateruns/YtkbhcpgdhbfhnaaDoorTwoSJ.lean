/-
  Texts joined: some of those that the proofs of this seat stand on.
-/
import Derived.Test.YtkbhcpgdhbfhnaaDoorSafeKJ
import Derived.Test.YtkbhcpgdhbfhnaaDoorOwn8J
import Derived.Laws.AppendOwnNone
import Derived.Test.YtkbhcpgdhbfhnaaDoorGateMJ
/-
  THE CONTRACT of two, of the statements (made by a program).
-/
namespace Go.Proofs.YtkbhcpgdhbfhnaaDoor
open Go.RowKit Go.Lib Go.Deep
set_option linter.unusedVariables false
set_option linter.unusedSimpArgs false

/-- The chapter's site. -/
def S8 : St := ⟨1, [⟨1, 2, 1⟩, ⟨1, 2, 1⟩], [2, 1], [[0, 2], [2, 0]], [⟨1, 2, 5, 1, false⟩, ⟨2, 2, 5, 1, false⟩], [], 9, 2, 3, 20, 60, []⟩
theorem s8_may : siteB S8 = true := by decide +kernel
theorem cap8 {a : Addr} {n : Nat} (h : n ≤ 1000) : Cap (some a) n n := ⟨fun e => (nomatch e), Nat.le_refl _, by omega⟩
theorem lie_of8 {w : World} {g n K : Nat} {F : Nat → Nat → Value} (hb : g < w.heap.size) (h : ∀ i, i < n → ∀ j, j < K → w.cell? ⟨g, i * K + j, none⟩ = some (F i j)) : Lie w (some ⟨g, 0, none⟩) n K F :=
  ⟨fun _ => ⟨g, 0, rfl, hb, fun i hi j hj => by rw [Nat.zero_add]; exact h i hi j hj⟩⟩
theorem two_cases {P : Nat → Prop} (h0 : P 0) (h1 : P 1) : ∀ i, i < 2 → P i := fun i hi => by
  have : i = 0 ∨ i = 1 := by omega
  rcases this with rfl | rfl
  · exact h0
  · exact h1
set_option maxRecDepth 100000 in
set_option maxHeartbeats 1000000 in
theorem two_any {w : World} : Calls Tryd.prog 11 #[] w fun e w' => ∃ X, e = .returned (siteV X S8) ∧ Sat w' X S8 ∧ Kept w w' none := by
  go_enter Tryd.func11, Tryd.ntmps11
  have hW : ∃ W, W = ((((((((((w.alloc (.cells #[.int .i64 1, .slice (some ⟨w.heap.size + 1 + 1 + 1 + 1, 0, none⟩) 2 2, .slice (some ⟨w.heap.size + 1 + 1 + 1 + 1 + 1, 0, none⟩) 2 2, .slice (some ⟨w.heap.size + 1 + 1 + 1 + 1 + 1 + 1 + 1 + 1, 0, none⟩) 2 2, .slice (some ⟨w.heap.size + 1 + 1 + 1 + 1 + 1 + 1 + 1 + 1 + 1, 0, none⟩) 2 2, .slice none 0 0, .int .i64 9, .int .i64 2, .int .i64 3, .int .i64 20, .int .i64 60, .slice none 0 0] 34)).alloc (.cells #[.int .u8 1, .int .i64 2, .int .i64 1] 72)).alloc (.cells #[.int .u32 1, .int .i64 2, .int .i64 5, .int .i64 1, .bool false] 75)).alloc (.cells #[.int .u32 2, .int .i64 2, .int .i64 5, .int .i64 1, .bool false] 75)).alloc (.cells #[.int .u8 1, .int .i64 2, .int .i64 1, .int .u8 1, .int .i64 2, .int .i64 1] 72)).alloc (.cells #[.int .u32 2, .int .u32 1] 73)).alloc (.cells #[.int .i64 0, .int .i64 2] 3)).alloc (.cells #[.int .i64 2, .int .i64 0] 3)).alloc (.cells #[.slice (some ⟨w.heap.size + 1 + 1 + 1 + 1 + 1 + 1, 0, none⟩) 2 2, .slice (some ⟨w.heap.size + 1 + 1 + 1 + 1 + 1 + 1 + 1, 0, none⟩) 2 2] 76)).alloc (.cells #[.int .u32 1, .int .i64 2, .int .i64 5, .int .i64 1, .bool false, .int .u32 2, .int .i64 2, .int .i64 5, .int .i64 1, .bool false] 75)) := ⟨_, rfl⟩
  obtain ⟨W, hW⟩ := hW
  have hk : Kept w W none := by
    rw [hW]
    exact ((((((((((Kept.alloc w _ _ (0, 0) _).tr (Kept.alloc _ _ _ (0, 0) _)).tr (Kept.alloc _ _ _ (0, 0) _)).tr (Kept.alloc _ _ _ (0, 0) _)).tr (Kept.alloc _ _ _ (0, 0) _)).tr (Kept.alloc _ _ _ (0, 0) _)).tr (Kept.alloc _ _ _ (0, 0) _)).tr (Kept.alloc _ _ _ (0, 0) _)).tr (Kept.alloc _ _ _ (0, 0) _)).tr (Kept.alloc _ _ _ (0, 0) _))
  have hs : W.heap.size = w.heap.size + 10 := by rw [hW]; simp
  have c0x0 : W.cell? ⟨w.heap.size, 0, none⟩ = some (.int .i64 1) := by rw [hW]; go_simp
  have c0x1 : W.cell? ⟨w.heap.size, 1, none⟩ = some (.slice (some ⟨w.heap.size + 1 + 1 + 1 + 1, 0, none⟩) 2 2) := by rw [hW]; go_simp
  have c0x2 : W.cell? ⟨w.heap.size, 2, none⟩ = some (.slice (some ⟨w.heap.size + 1 + 1 + 1 + 1 + 1, 0, none⟩) 2 2) := by rw [hW]; go_simp
  have c0x3 : W.cell? ⟨w.heap.size, 3, none⟩ = some (.slice (some ⟨w.heap.size + 1 + 1 + 1 + 1 + 1 + 1 + 1 + 1, 0, none⟩) 2 2) := by rw [hW]; go_simp
  have c0x4 : W.cell? ⟨w.heap.size, 4, none⟩ = some (.slice (some ⟨w.heap.size + 1 + 1 + 1 + 1 + 1 + 1 + 1 + 1 + 1, 0, none⟩) 2 2) := by rw [hW]; go_simp
  have c0x5 : W.cell? ⟨w.heap.size, 5, none⟩ = some (.slice none 0 0) := by rw [hW]; go_simp
  have c0x6 : W.cell? ⟨w.heap.size, 6, none⟩ = some (.int .i64 9) := by rw [hW]; go_simp
  have c0x7 : W.cell? ⟨w.heap.size, 7, none⟩ = some (.int .i64 2) := by rw [hW]; go_simp
  have c0x8 : W.cell? ⟨w.heap.size, 8, none⟩ = some (.int .i64 3) := by rw [hW]; go_simp
  have c0x9 : W.cell? ⟨w.heap.size, 9, none⟩ = some (.int .i64 20) := by rw [hW]; go_simp
  have c0x10 : W.cell? ⟨w.heap.size, 10, none⟩ = some (.int .i64 60) := by rw [hW]; go_simp
  have c0x11 : W.cell? ⟨w.heap.size, 11, none⟩ = some (.slice none 0 0) := by rw [hW]; go_simp
  have c4x0 : W.cell? ⟨w.heap.size + 1 + 1 + 1 + 1, 0, none⟩ = some (.int .u8 1) := by rw [hW]; go_simp
  have c4x1 : W.cell? ⟨w.heap.size + 1 + 1 + 1 + 1, 1, none⟩ = some (.int .i64 2) := by rw [hW]; go_simp
  have c4x2 : W.cell? ⟨w.heap.size + 1 + 1 + 1 + 1, 2, none⟩ = some (.int .i64 1) := by rw [hW]; go_simp
  have c4x3 : W.cell? ⟨w.heap.size + 1 + 1 + 1 + 1, 3, none⟩ = some (.int .u8 1) := by rw [hW]; go_simp
  have c4x4 : W.cell? ⟨w.heap.size + 1 + 1 + 1 + 1, 4, none⟩ = some (.int .i64 2) := by rw [hW]; go_simp
  have c4x5 : W.cell? ⟨w.heap.size + 1 + 1 + 1 + 1, 5, none⟩ = some (.int .i64 1) := by rw [hW]; go_simp
  have c5x0 : W.cell? ⟨w.heap.size + 1 + 1 + 1 + 1 + 1, 0, none⟩ = some (.int .u32 2) := by rw [hW]; go_simp
  have c5x1 : W.cell? ⟨w.heap.size + 1 + 1 + 1 + 1 + 1, 1, none⟩ = some (.int .u32 1) := by rw [hW]; go_simp
  have c6x0 : W.cell? ⟨w.heap.size + 1 + 1 + 1 + 1 + 1 + 1, 0, none⟩ = some (.int .i64 0) := by rw [hW]; go_simp
  have c6x1 : W.cell? ⟨w.heap.size + 1 + 1 + 1 + 1 + 1 + 1, 1, none⟩ = some (.int .i64 2) := by rw [hW]; go_simp
  have c7x0 : W.cell? ⟨w.heap.size + 1 + 1 + 1 + 1 + 1 + 1 + 1, 0, none⟩ = some (.int .i64 2) := by rw [hW]; go_simp
  have c7x1 : W.cell? ⟨w.heap.size + 1 + 1 + 1 + 1 + 1 + 1 + 1, 1, none⟩ = some (.int .i64 0) := by rw [hW]; go_simp
  have c8x0 : W.cell? ⟨w.heap.size + 1 + 1 + 1 + 1 + 1 + 1 + 1 + 1, 0, none⟩ = some (.slice (some ⟨w.heap.size + 1 + 1 + 1 + 1 + 1 + 1, 0, none⟩) 2 2) := by rw [hW]; go_simp
  have c8x1 : W.cell? ⟨w.heap.size + 1 + 1 + 1 + 1 + 1 + 1 + 1 + 1, 1, none⟩ = some (.slice (some ⟨w.heap.size + 1 + 1 + 1 + 1 + 1 + 1 + 1, 0, none⟩) 2 2) := by rw [hW]; go_simp
  have c9x0 : W.cell? ⟨w.heap.size + 1 + 1 + 1 + 1 + 1 + 1 + 1 + 1 + 1, 0, none⟩ = some (.int .u32 1) := by rw [hW]; go_simp
  have c9x1 : W.cell? ⟨w.heap.size + 1 + 1 + 1 + 1 + 1 + 1 + 1 + 1 + 1, 1, none⟩ = some (.int .i64 2) := by rw [hW]; go_simp
  have c9x2 : W.cell? ⟨w.heap.size + 1 + 1 + 1 + 1 + 1 + 1 + 1 + 1 + 1, 2, none⟩ = some (.int .i64 5) := by rw [hW]; go_simp
  have c9x3 : W.cell? ⟨w.heap.size + 1 + 1 + 1 + 1 + 1 + 1 + 1 + 1 + 1, 3, none⟩ = some (.int .i64 1) := by rw [hW]; go_simp
  have c9x4 : W.cell? ⟨w.heap.size + 1 + 1 + 1 + 1 + 1 + 1 + 1 + 1 + 1, 4, none⟩ = some (.bool false) := by rw [hW]; go_simp
  have c9x5 : W.cell? ⟨w.heap.size + 1 + 1 + 1 + 1 + 1 + 1 + 1 + 1 + 1, 5, none⟩ = some (.int .u32 2) := by rw [hW]; go_simp
  have c9x6 : W.cell? ⟨w.heap.size + 1 + 1 + 1 + 1 + 1 + 1 + 1 + 1 + 1, 6, none⟩ = some (.int .i64 2) := by rw [hW]; go_simp
  have c9x7 : W.cell? ⟨w.heap.size + 1 + 1 + 1 + 1 + 1 + 1 + 1 + 1 + 1, 7, none⟩ = some (.int .i64 5) := by rw [hW]; go_simp
  have c9x8 : W.cell? ⟨w.heap.size + 1 + 1 + 1 + 1 + 1 + 1 + 1 + 1 + 1, 8, none⟩ = some (.int .i64 1) := by rw [hW]; go_simp
  have c9x9 : W.cell? ⟨w.heap.size + 1 + 1 + 1 + 1 + 1 + 1 + 1 + 1 + 1, 9, none⟩ = some (.bool false) := by rw [hW]; go_simp
  go_wp2
  rw [← hW]
  clear hW
  refine bodyPost_ret (v := .agg #[.int .i64 1, .slice (some ⟨w.heap.size + 1 + 1 + 1 + 1, 0, none⟩) 2 2, .slice (some ⟨w.heap.size + 1 + 1 + 1 + 1 + 1, 0, none⟩) 2 2, .slice (some ⟨w.heap.size + 1 + 1 + 1 + 1 + 1 + 1 + 1 + 1, 0, none⟩) 2 2, .slice (some ⟨w.heap.size + 1 + 1 + 1 + 1 + 1 + 1 + 1 + 1 + 1, 0, none⟩) 2 2, .slice none 0 0, .int .i64 9, .int .i64 2, .int .i64 3, .int .i64 20, .int .i64 60, .slice none 0 0]) (by simp [results, Tryd.results11, go_sem, c0x0, c0x1, c0x2, c0x3, c0x4, c0x5, c0x6, c0x7, c0x8, c0x9, c0x10, c0x11]) rfl ?_
  refine ⟨⟨some ⟨w.heap.size + 1 + 1 + 1 + 1, 0, none⟩, 2, some ⟨w.heap.size + 1 + 1 + 1 + 1 + 1, 0, none⟩, 2, some ⟨w.heap.size + 1 + 1 + 1 + 1 + 1 + 1 + 1 + 1, 0, none⟩, 2, some ⟨w.heap.size + 1 + 1 + 1 + 1 + 1 + 1 + 1 + 1 + 1, 0, none⟩, 2, none, 0, none, 0⟩, rfl, ?_, hk⟩
  have hi : ∀ x : Int, -1000 ≤ x → x ≤ 1000 → i64B x := fun x h1 h2 => by unfold i64B; omega
  constructor
  · exact lie_of8 (by omega) (two_cases (fun j hj => by
      have : j = 0 ∨ j = 1 ∨ j = 2 := by omega
      rcases this with rfl | rfl | rfl
      · exact c4x0
      · exact c4x1
      · exact c4x2) (fun j hj => by
      have : j = 0 ∨ j = 1 ∨ j = 2 := by omega
      rcases this with rfl | rfl | rfl
      · exact c4x3
      · exact c4x4
      · exact c4x5))
  · exact lie_of8 (by omega) (two_cases (fun j hj => by
      have : j = 0 := by omega
      subst this; exact c5x0) (fun j hj => by
      have : j = 0 := by omega
      subst this; exact c5x1))
  · refine ⟨⟨fun i => if i = 0 then (some ⟨w.heap.size + 1 + 1 + 1 + 1 + 1 + 1, 0, none⟩, 2) else (some ⟨w.heap.size + 1 + 1 + 1 + 1 + 1 + 1 + 1, 0, none⟩, 2), ?_, ?_⟩, rfl, cap8 (show 2 ≤ 1000 by omega)⟩
    · exact lie_of8 (by omega) (two_cases (fun j hj => by
      have : j = 0 := by omega
      subst this; exact c8x0) (fun j hj => by
      have : j = 0 := by omega
      subst this; exact c8x1))
    · refine two_cases ⟨lie_of8 (by omega) (two_cases (fun j hj => by
      have : j = 0 := by omega
      subst this; exact c6x0) (fun j hj => by
      have : j = 0 := by omega
      subst this; exact c6x1)), rfl, cap8 (show 2 ≤ 1000 by omega), ?_⟩ ⟨lie_of8 (by omega) (two_cases (fun j hj => by
      have : j = 0 := by omega
      subst this; exact c7x0) (fun j hj => by
      have : j = 0 := by omega
      subst this; exact c7x1)), rfl, cap8 (show 2 ≤ 1000 by omega), ?_⟩
      · intro x hx
        have : x = 0 ∨ x = 2 := by simpa [S8] using hx
        omega
      · intro x hx
        have : x = 2 ∨ x = 0 := by simpa [S8] using hx
        omega
  · exact lie_of8 (by omega) (two_cases (fun j hj => by
      have : j = 0 ∨ j = 1 ∨ j = 2 ∨ j = 3 ∨ j = 4 := by omega
      rcases this with rfl | rfl | rfl | rfl | rfl
      · exact c9x0
      · exact c9x1
      · exact c9x2
      · exact c9x3
      · exact c9x4) (fun j hj => by
      have : j = 0 ∨ j = 1 ∨ j = 2 ∨ j = 3 ∨ j = 4 := by omega
      rcases this with rfl | rfl | rfl | rfl | rfl
      · exact c9x5
      · exact c9x6
      · exact c9x7
      · exact c9x8
      · exact c9x9))
  · exact ⟨fun hp => absurd hp (by decide)⟩
  · exact ⟨⟨fun _ => (none, 0), ⟨fun hp => absurd hp (by decide)⟩, fun i hi => absurd hi (Nat.not_lt_zero i)⟩, rfl, ⟨fun _ => ⟨rfl, rfl⟩, Nat.le_refl _, Nat.zero_le _⟩, fun p hp => by cases hp⟩
  · exact cap8 (show 2 ≤ 1000 by omega)
  · exact cap8 (show 2 ≤ 1000 by omega)
  · exact cap8 (show 2 ≤ 1000 by omega)
  · exact ⟨fun _ => ⟨rfl, rfl⟩, Nat.le_refl _, Nat.zero_le _⟩
  · intro g hg
    have : g = ⟨1, 2, 1⟩ := by simpa [S8] using hg
    subst this
    exact ⟨by decide, hi _ (by decide) (by decide), hi _ (by decide) (by decide)⟩
  · intro x hx
    have : x = 2 ∨ x = 1 := by simpa [S8] using hx
    omega
  · intro p hp
    have : p = ⟨1, 2, 5, 1, false⟩ ∨ p = ⟨2, 2, 5, 1, false⟩ := by simpa [S8] using hp
    rcases this with rfl | rfl
    · exact ⟨by decide, hi _ (by decide) (by decide), hi _ (by decide) (by decide), hi _ (by decide) (by decide)⟩
    · exact ⟨by decide, hi _ (by decide) (by decide), hi _ (by decide) (by decide), hi _ (by decide) (by decide)⟩
  · intro e he
    cases he
  · exact ⟨hi _ (by decide) (by decide), hi _ (by decide) (by decide), hi _ (by decide) (by decide), hi _ (by decide) (by decide), hi _ (by decide) (by decide), hi _ (by decide) (by decide)⟩

end Go.Proofs.YtkbhcpgdhbfhnaaDoor

/-
  LISTS OF LIGHTS of one's own; aspects by letters.
-/
namespace Go.Proofs.YtkbhcpgdhbfhnaaDoor
open Go.RowKit Go.Lib Go.Deep
set_option linter.unusedVariables false
set_option linter.unusedSimpArgs false

theorem By.keptS {w w' : World} {r : Option Nat} {a : Option Addr} {n : Nat} {L : List Nat} (h : By w a n L) (q : Kept w w' r) (hr : 0 < n → ∀ b, a = some b → some b.block ≠ r) : By w' a n L := by
  obtain ⟨h1, h2, h3, h4⟩ := h
  refine ⟨h1, h2, h3, fun hp => ?_⟩
  obtain ⟨b, off, rfl, hb, hc⟩ := h4 hp
  exact ⟨b, off, rfl, Nat.lt_of_lt_of_le hb q.size, fun i hi => (World.cell?_of_block (w := w) (a := ⟨b, off + i, none⟩) (q.block b hb (hr hp _ rfl))).trans (hc i hi)⟩
/-- A slice of lights: where it lies, its aspects, its room. -/
abbrev Lt := Option Addr × List Nat × Nat
def ltV (x : Lt) (_ : Nat) : Value := .slice x.1 x.2.1.length x.2.2
def lt0 : Lt := (none, [], 0)
theorem Tryd.infoBys : (Tryd.prog.info? 36).map (fun i => (i.zero, i.size, i.bytes)) = some (some (.slice none 0 0), 1, 24) := by kernel_rfl
theorem Tryd.uByss : Tryd.prog.underlying 23 = some (.slice 36) := by kernel_rfl
/-- A list of lights of one's own. -/
structure LtS (w : World) (base : Nat) (v : Value) (l : List Lt) : Prop where
  own : Ow8 36 1 ltV lt0 w base v l
  bys : ∀ x ∈ l, By w x.1 x.2.1.length x.2.1
  ne : ∀ x ∈ l, 0 < x.2.1.length → ∀ b, x.1 = some b → v.ownBlock ≠ some b.block ∧ b.block < w.heap.size
theorem LtS.nil (w : World) (base : Nat) : LtS w base (.slice none 0 0) [] := ⟨Ow8.nil .., fun _ h => (nomatch h), fun _ h => (nomatch h)⟩
theorem LtS.shape {w : World} {base : Nat} {v : Value} {l : List Lt} (h : LtS w base v l) : ∃ a c, v = .slice a l.length c := by
  obtain ⟨a, c, e, _⟩ := h.own.lie (by omega)
  exact ⟨a, c, e⟩
theorem LtS.kept {w w' : World} {base : Nat} {v : Value} {l : List Lt} (h : LtS w base v l) (q : Kept w w' none) : LtS w' base v l :=
  ⟨h.own.keptR q (fun _ e => nomatch e), fun x hx => (h.bys x hx).kept q, fun x hx hp b e => ⟨(h.ne x hx hp b e).1, Nat.lt_of_lt_of_le (h.ne x hx hp b e).2 q.size⟩⟩
/-- As a trace. -/
theorem LtS.trc {w : World} {base : Nat} {v : Value} {l : List Lt} (h : LtS w base v l) (hl : l.length ≤ 1000) : ∃ a c, v = .slice a l.length c ∧ Trc w a l.length (l.map (·.2.1)) := by
  obtain ⟨a, c, e, hL, hc, _⟩ := h.own.lie (by omega)
  refine ⟨a, c, e, by simp, by omega, fun hp => ?_⟩
  obtain ⟨b, off, rfl, hb, hcell⟩ := hL.one hp
  refine ⟨b, off, rfl, hb, fun i hi => ?_⟩
  have h1 := hcell i hi
  have e1 : l.getD i lt0 = l[i] := by simp [hi]
  have e2 : tk (l.map (·.2.1)) i = l[i].2.1 := by unfold tk; simp [hi]
  rw [e1] at h1
  rw [e2]
  exact ⟨l[i].1, l[i].2.2, h1, h.bys _ (List.getElem_mem hi)⟩
theorem cellsL_app {l x : List Lt} : cellsL l.length 1 (fun i j => ltV (l.getD i lt0) j) ++ cellsL x.length 1 (fun i j => ltV (x.getD i lt0) j) = cellsL (l ++ x).length 1 (fun i j => ltV ((l ++ x).getD i lt0) j) := by
  unfold cellsL
  simp only [Nat.mul_one, Nat.div_one, List.length_append]
  rw [List.range_add, List.map_append]
  congr 1
  · refine List.map_congr_left fun q hq => ?_
    have hq' := List.mem_range.1 hq
    simp [hq', List.getElem?_append_left]
  · rw [List.map_map]
    refine List.map_congr_left fun q hq => ?_
    have e : (l ++ x).getD (l.length + q) lt0 = x.getD q lt0 := by rw [List.getD_eq_getElem?_getD, List.getD_eq_getElem?_getD, List.getElem?_append_right (by omega), Nat.add_sub_cancel_left]
    simp only [Function.comp]
    rw [e]
    rfl
/-- More behind. -/
theorem LtS.join {w : World} {base : Nat} {v : Value} {l : List Lt} (h : LtS w base v l) (x : List Lt) {pa : Option Addr} {c m : Nat} (hm : m = x.length) (hL : Lie w pa m 1 (fun i j => ltV (x.getD i lt0) j)) (hC : Cap pa m c) (hB : ∀ y ∈ x, By w y.1 y.2.1.length y.2.1) (hx : ∀ y ∈ x, 0 < y.2.1.length → ∀ b, y.1 = some b → v.ownBlock ≠ some b.block ∧ b.block < w.heap.size) (hn : l.length + x.length ≤ 900) (hb : base ≤ w.heap.size) :
    ∃ a' c' w', (Builtin.append_ #[23, 23] 23 #[v, .slice pa m c]).run Tryd.prog w = .ok (.slice a' (l.length + m) c') w' ∧ LtS w' base (.slice a' (l.length + m) c') (l ++ x) ∧ Kept w w' v.ownBlock := by
  subst hm
  obtain ⟨i, hi, hz, hs, hby⟩ := info_parts Tryd.infoBys
  cases pa with
  | none =>
    obtain ⟨h0, rfl⟩ := hC.nil rfl
    have hx0 : x = [] := List.length_eq_zero_iff.1 h0
    subst hx0
    have hrun := run_append_owned_none (P := Tryd.prog) (w := w) base 23 23 36 i 1 Tryd.uByss hi v l.length _ h.own
    obtain ⟨a, c', e⟩ := h.shape
    subst e
    refine ⟨a, c', w, hrun, ?_, Kept.refl _ _⟩
    rw [List.append_nil]
    exact h
  | some ad =>
    have hnews : ∀ j u, (cellsL x.length 1 (fun i j => ltV (x.getD i lt0) j))[j]? = some u → w.cell? (ad.add j) = some u := by
      by_cases hp : 0 < x.length
      · obtain ⟨b, off, e, _, hcell⟩ := hL.at_ hp
        injection e with e
        subst e
        exact cellsL_news (by omega) hcell
      · intro j u hu
        rw [show x.length = 0 by omega] at hu
        simp [cellsL] at hu
    have hbytes : (l.length + x.length) * 24 ≤ 140737488355328 := by omega
    obtain ⟨v', w', hr, g1, g2, _, g3⟩ := run_append_own_at (P := Tryd.prog) w base 23 23 36 i _ 1 24 Tryd.uByss hi hz hs hby rfl (by omega) v l.length _ h.own ad x.length c _ (by rw [cellsL_len]) hnews (cellsL_one (fun _ _ => rfl)) (by unfold maxLen; omega) hbytes hb
    rw [cellsL_app] at g1
    have hle : l.length + x.length = (l ++ x).length := by simp
    rw [hle] at g1
    obtain ⟨a', c', rfl, _⟩ := lie_own (by omega) g1
    have hk2 : Kept w w' v.ownBlock := g2
    have vfr : ∀ g, (Value.slice a' (l ++ x).length c').ownBlock = some g → v.ownBlock = some g ∨ w.heap.size ≤ g := fun g hg => by
      rcases g3 with e | e
      · exact .inl (e.symm.trans hg)
      · rw [e] at hg; injection hg with hg; exact .inr (by omega)
    have key : ∀ y ∈ l ++ x, 0 < y.2.1.length → ∀ b, y.1 = some b → v.ownBlock ≠ some b.block ∧ b.block < w.heap.size := fun y hy => by
      rcases List.mem_append.1 hy with hy | hy
      · exact h.ne y hy
      · exact hx y hy
    rw [hle]
    refine ⟨a', c', w', hr, ⟨g1, fun y hy => ?_, fun y hy hp b e => ?_⟩, hk2⟩
    · have hBy : By w y.1 y.2.1.length y.2.1 := by
        rcases List.mem_append.1 hy with hy | hy
        · exact h.bys y hy
        · exact hB y hy
      exact hBy.keptS hk2 (fun hp b e ec => (key y hy hp b e).1 ec.symm)
    · have hs5 := hk2.size
      have := key y hy hp b e
      exact ⟨fun ec => by rcases vfr _ ec with q | q; exact this.1 q; omega, by omega⟩
/-- One more behind. -/
theorem LtS.grow {w : World} {base : Nat} {v : Value} {l : List Lt} (h : LtS w base v l) (x : Lt) (hB : By w x.1 x.2.1.length x.2.1) (hx : ∀ b, x.1 = some b → v.ownBlock ≠ some b.block ∧ b.block < w.heap.size) (hn : l.length ≤ 800) (hb : base ≤ w.heap.size) :
    ∃ a' c' w', (Builtin.append_ #[23, 23] 23 #[v, .slice (some ⟨w.heap.size, 0, none⟩) 1 1]).run Tryd.prog (w.alloc (.cells #[.slice x.1 x.2.1.length x.2.2] 36)) = .ok (.slice a' (l.length + 1) c') w' ∧ LtS w' base (.slice a' (l.length + 1) c') (l ++ [x]) ∧ Kept w w' v.ownBlock := by
  have hk : Kept w (w.alloc (.cells #[.slice x.1 x.2.1.length x.2.2] 36)) none := Kept.alloc _ _ _ _ _
  have hlie : Lie (w.alloc (.cells #[.slice x.1 x.2.1.length x.2.2] 36)) (some ⟨w.heap.size, 0, none⟩) 1 1 (fun i j => ltV ([x].getD i lt0) j) := ⟨fun _ => ⟨w.heap.size, 0, rfl, by simp, fun i hi j hj => by
    obtain rfl : i = 0 := by omega
    obtain rfl : j = 0 := by omega
    exact alloc_at8 _ _ _ rfl rfl⟩⟩
  obtain ⟨a', c', w', hr, h1, h2⟩ := (h.kept hk).join [x] (c := 1) (m := 1) rfl hlie ⟨fun e => (nomatch e), Nat.le_refl _, by omega⟩ (fun y hy => by
    obtain rfl : y = x := by simpa using hy
    exact hB.kept hk) (fun y hy hp b e => by
    obtain rfl : y = x := by simpa using hy
    have := hx b e
    exact ⟨this.1, by have := hk.size; omega⟩) (by simp; omega) (by have := hk.size; omega)
  exact ⟨a', c', w', hr, h1, ⟨h2.os.trans hk.os, h2.tape.trans hk.tape, h2.output.trans hk.output, Nat.le_trans hk.size h2.size, fun i hi hne => (h2.block i (Nat.lt_of_lt_of_le hi hk.size) hne).trans (hk.block i hi (by simp))⟩⟩
/-- A trace that came in, as a list of lights. -/
theorem Trc.list {w : World} {pa : Option Addr} {n : Nat} {T : List (List Nat)} (h : Trc w pa n T) : ∃ l : List Lt, l.length = n ∧ l.map (·.2.1) = T ∧ Lie w pa n 1 (fun i j => ltV (l.getD i lt0) j) ∧ ∀ y ∈ l, By w y.1 y.2.1.length y.2.1 := by
  have each : ∀ i, ∃ y : Lt, i < n → y.2.1 = tk T i ∧ By w y.1 y.2.1.length y.2.1 ∧ ∀ b off, pa = some ⟨b, off, none⟩ → w.cell? ⟨b, off + i, none⟩ = some (ltV y 0) := by
    intro i
    by_cases hi : i < n
    · obtain ⟨b, off, rfl, hb, hc⟩ := h.at_ (by omega)
      obtain ⟨a, c, h1, h2⟩ := hc i hi
      exact ⟨(a, tk T i, c), fun _ => ⟨rfl, h2, fun b' off' e => by injection e with e; injection e with e1 e2; subst e1 e2; exact h1⟩⟩
    · exact ⟨lt0, fun hh => absurd hh hi⟩
  obtain ⟨f, hf⟩ : ∃ f : Nat → Lt, ∀ i, i < n → (f i).2.1 = tk T i ∧ By w (f i).1 (f i).2.1.length (f i).2.1 ∧ ∀ b off, pa = some ⟨b, off, none⟩ → w.cell? ⟨b, off + i, none⟩ = some (ltV (f i) 0) := ⟨fun i => Classical.choose (each i), fun i => Classical.choose_spec (each i)⟩
  refine ⟨(List.range n).map f, by simp, ?_, ⟨fun hp => ?_⟩, fun y hy => ?_⟩
  · rw [List.map_map]
    refine List.ext_getElem (by simp [h.size]) (fun i h1 h2 => ?_)
    have hi : i < n := by simpa using h1
    have := (hf i hi).1
    simp only [List.getElem_map, List.getElem_range, Function.comp]
    rw [this]
    unfold tk
    simp [h2]
  · obtain ⟨b, off, rfl, hb, _⟩ := h.at_ hp
    refine ⟨b, off, rfl, hb, fun i hi j hj => ?_⟩
    obtain rfl : j = 0 := by omega
    have := (hf i hi).2.2 b off rfl
    simp only [Nat.mul_one, Nat.add_zero]
    rw [this]
    simp [hi]
  · simp only [List.mem_map, List.mem_range] at hy
    obtain ⟨i, hi, rfl⟩ := hy
    exact (hf i hi).2.1

/-! ### Letters -/
def aspN (c : Nat) : Nat := if c = 82 then 1 else if c = 71 then 2 else if c = 89 then 3 else 4
theorem aspN_lt (c : Nat) : aspN c < 256 := by
  unfold aspN
  split
  · omega
  · split
    · omega
    · split <;> omega
theorem asp_any (x : Nat) (w : World) : Calls Tryd.prog 41 #[.int .u8 (x : Int)] w fun e w' => e = .returned (.int .u8 ((aspN x : Nat) : Int)) ∧ w' = w := by
  unfold aspN
  by_cases h1 : x = 82
  · subst h1
    go_enter Tryd.func41, Tryd.ntmps41
    go_wp2
    go_ret
    exact ⟨rfl, rfl⟩
  · have b1 : ((x : Int) == 82) = false := by simp; omega
    rw [if_neg h1]
    by_cases h2 : x = 71
    · subst h2
      go_enter Tryd.func41, Tryd.ntmps41
      go_wp2
      go_ret
      exact ⟨rfl, rfl⟩
    · have b2 : ((x : Int) == 71) = false := by simp; omega
      rw [if_neg h2]
      by_cases h3 : x = 89
      · subst h3
        go_enter Tryd.func41, Tryd.ntmps41
        go_wp2
        go_ret
        exact ⟨rfl, rfl⟩
      · have b3 : ((x : Int) == 89) = false := by simp; omega
        rw [if_neg h3]
        go_enter Tryd.func41, Tryd.ntmps41
        go_wp2
        go_ret
        exact ⟨rfl, rfl⟩

end Go.Proofs.YtkbhcpgdhbfhnaaDoor

/-
  THE CONTRACT of Run (made by a program).
-/
namespace Go.Proofs.YtkbhcpgdhbfhnaaDoor
open Go.RowKit Go.Lib Go.Deep
set_option linter.unusedVariables false
set_option linter.unusedSimpArgs false

set_option maxRecDepth 100000 in
set_option maxHeartbeats 2000000 in
theorem grun_no {X : Sa} {S : St} {w : World} {pa : Option Addr} {n cp : Nat} {T : List (List Nat)} (h : Sat w X S) (hT : Tabb w) (hP : Trc w pa n T) (hs : siteB S = false) : Calls Tryd.prog 10 #[siteV X S, .slice pa n cp] w fun e w' => e = .returned (.tuple #[.slice none 0 0, .int .i64 50]) ∧ Kept w w' none := by
  have k1 : Kept w (w.alloc (.cells #[.int .i64 S.id, .slice X.g S.groups.length X.gc, .slice X.a S.apart.length X.ac, .slice X.b S.between.length X.bc, .slice X.p S.phases.length X.pc, .slice X.e S.eyes.length X.ec, .int .i64 S.watch, .int .i64 S.feed, .int .i64 S.heal, .int .i64 S.low, .int .i64 S.high, .slice X.l S.plans.length X.lc] 34)) none := Kept.alloc _ _ _ _ _
  have hsb := sbox_alloc h 34
  have hsz : (w.alloc (.cells #[.int .i64 S.id, .slice X.g S.groups.length X.gc, .slice X.a S.apart.length X.ac, .slice X.b S.between.length X.bc, .slice X.p S.phases.length X.pc, .slice X.e S.eyes.length X.ec, .int .i64 S.watch, .int .i64 S.feed, .int .i64 S.heal, .int .i64 S.low, .int .i64 S.high, .slice X.l S.plans.length X.lc] 34)).heap.size = w.heap.size + 1 := by simp
  have hSA := h.kept k1
  have hTA := hT.kept k1
  have hPA := hP.kept k1
  obtain ⟨W1, hW1⟩ : ∃ W1, w.alloc (.cells #[.int .i64 S.id, .slice X.g S.groups.length X.gc, .slice X.a S.apart.length X.ac, .slice X.b S.between.length X.bc, .slice X.p S.phases.length X.pc, .slice X.e S.eyes.length X.ec, .int .i64 S.watch, .int .i64 S.feed, .int .i64 S.heal, .int .i64 S.low, .int .i64 S.high, .slice X.l S.plans.length X.lc] 34) = W1 := ⟨_, rfl⟩
  rw [hW1] at k1 hsb hsz hSA hTA hPA
  have HSB := Hid.mk' hsb
  have HSZ := Hid.mk' hsz
  have HK := Hid.mk' k1
  have HS := Hid.mk' hSA
  have HT := Hid.mk' hTA
  have HP := Hid.mk' hPA
  have s0_ := HSB.out.c0
  have s1_ := HSB.out.c1
  have s2_ := HSB.out.c2
  have s3_ := HSB.out.c3
  have s4_ := HSB.out.c4
  have s5_ := HSB.out.c5
  have s6_ := HSB.out.c6
  have s7_ := HSB.out.c7
  have s8_ := HSB.out.c8
  have s9_ := HSB.out.c9
  have s10_ := HSB.out.c10
  have s11_ := HSB.out.c11
  have hPm := hP.max
  clear h hT hP k1 hsb hsz hSA hTA hPA
  go_enter Tryd.func10, Tryd.ntmps10
  go_wp2_with (first | rw [hW1] | (go_at_call 13; refine (first_no HS.out HT.out hs).mono ?_; rintro e wF ⟨rfl, hkF⟩))
  go_ret2
  exact ⟨rfl, (HK.out.tr hkF).tr (Kept.alloc _ _ _ _ _)⟩
set_option maxRecDepth 100000 in
set_option maxHeartbeats 2000000 in
theorem grun_many {X : Sa} {S : St} {w : World} {pa : Option Addr} {n cp : Nat} {T : List (List Nat)} (h : Sat w X S) (hT : Tabb w) (hP : Trc w pa n T) (hs : siteB S = true) (hn : 4096 < n) : Calls Tryd.prog 10 #[siteV X S, .slice pa n cp] w fun e w' => e = .returned (.tuple #[.slice none 0 0, .int .i64 4]) ∧ Kept w w' none := by
  have k1 : Kept w (w.alloc (.cells #[.int .i64 S.id, .slice X.g S.groups.length X.gc, .slice X.a S.apart.length X.ac, .slice X.b S.between.length X.bc, .slice X.p S.phases.length X.pc, .slice X.e S.eyes.length X.ec, .int .i64 S.watch, .int .i64 S.feed, .int .i64 S.heal, .int .i64 S.low, .int .i64 S.high, .slice X.l S.plans.length X.lc] 34)) none := Kept.alloc _ _ _ _ _
  have hsb := sbox_alloc h 34
  have hsz : (w.alloc (.cells #[.int .i64 S.id, .slice X.g S.groups.length X.gc, .slice X.a S.apart.length X.ac, .slice X.b S.between.length X.bc, .slice X.p S.phases.length X.pc, .slice X.e S.eyes.length X.ec, .int .i64 S.watch, .int .i64 S.feed, .int .i64 S.heal, .int .i64 S.low, .int .i64 S.high, .slice X.l S.plans.length X.lc] 34)).heap.size = w.heap.size + 1 := by simp
  have hSA := h.kept k1
  have hTA := hT.kept k1
  have hPA := hP.kept k1
  obtain ⟨W1, hW1⟩ : ∃ W1, w.alloc (.cells #[.int .i64 S.id, .slice X.g S.groups.length X.gc, .slice X.a S.apart.length X.ac, .slice X.b S.between.length X.bc, .slice X.p S.phases.length X.pc, .slice X.e S.eyes.length X.ec, .int .i64 S.watch, .int .i64 S.feed, .int .i64 S.heal, .int .i64 S.low, .int .i64 S.high, .slice X.l S.plans.length X.lc] 34) = W1 := ⟨_, rfl⟩
  rw [hW1] at k1 hsb hsz hSA hTA hPA
  have HSB := Hid.mk' hsb
  have HSZ := Hid.mk' hsz
  have HK := Hid.mk' k1
  have HS := Hid.mk' hSA
  have HT := Hid.mk' hTA
  have HP := Hid.mk' hPA
  have s0_ := HSB.out.c0
  have s1_ := HSB.out.c1
  have s2_ := HSB.out.c2
  have s3_ := HSB.out.c3
  have s4_ := HSB.out.c4
  have s5_ := HSB.out.c5
  have s6_ := HSB.out.c6
  have s7_ := HSB.out.c7
  have s8_ := HSB.out.c8
  have s9_ := HSB.out.c9
  have s10_ := HSB.out.c10
  have s11_ := HSB.out.c11
  have hPm := hP.max
  clear h hT hP k1 hsb hsz hSA hTA hPA
  go_enter Tryd.func10, Tryd.ntmps10
  go_wp2_with (first | rw [hW1] | (go_at_call 13; refine (first_yes2 HS.out HT.out hs).mono ?_; rintro e wF ⟨b, rfl, hbm, hog, hkF⟩; have c1f := (HSB.out.kept (hkF.tr (Kept.alloc wF #[.slice (some ⟨b, 0, none⟩) S.groups.length S.groups.length, .int .i64 (worstM S), .bool false] 41 (0, 0) none))).c1))
  go_ret2
  exact ⟨rfl, (HK.out.tr hkF).tr (Kept.alloc _ _ _ _ _)⟩
set_option maxRecDepth 100000 in
set_option maxHeartbeats 2000000 in
theorem grun_ask {X : Sa} {S : St} {w : World} {pa : Option Addr} {n cp : Nat} {T : List (List Nat)} (h : Sat w X S) (hT : Tabb w) (hP : Trc w pa n T) (hs : siteB S = true) (hn : n ≤ 4096) {k0 : Nat} (hk0 : k0 < n) (hbad : (tk T k0).length ≠ S.groups.length) : Calls Tryd.prog 10 #[siteV X S, .slice pa n cp] w fun e w' => e = .returned (.tuple #[.slice none 0 0, .int .i64 90]) ∧ Kept w w' none := by
  have k1 : Kept w (w.alloc (.cells #[.int .i64 S.id, .slice X.g S.groups.length X.gc, .slice X.a S.apart.length X.ac, .slice X.b S.between.length X.bc, .slice X.p S.phases.length X.pc, .slice X.e S.eyes.length X.ec, .int .i64 S.watch, .int .i64 S.feed, .int .i64 S.heal, .int .i64 S.low, .int .i64 S.high, .slice X.l S.plans.length X.lc] 34)) none := Kept.alloc _ _ _ _ _
  have hsb := sbox_alloc h 34
  have hsz : (w.alloc (.cells #[.int .i64 S.id, .slice X.g S.groups.length X.gc, .slice X.a S.apart.length X.ac, .slice X.b S.between.length X.bc, .slice X.p S.phases.length X.pc, .slice X.e S.eyes.length X.ec, .int .i64 S.watch, .int .i64 S.feed, .int .i64 S.heal, .int .i64 S.low, .int .i64 S.high, .slice X.l S.plans.length X.lc] 34)).heap.size = w.heap.size + 1 := by simp
  have hSA := h.kept k1
  have hTA := hT.kept k1
  have hPA := hP.kept k1
  obtain ⟨W1, hW1⟩ : ∃ W1, w.alloc (.cells #[.int .i64 S.id, .slice X.g S.groups.length X.gc, .slice X.a S.apart.length X.ac, .slice X.b S.between.length X.bc, .slice X.p S.phases.length X.pc, .slice X.e S.eyes.length X.ec, .int .i64 S.watch, .int .i64 S.feed, .int .i64 S.heal, .int .i64 S.low, .int .i64 S.high, .slice X.l S.plans.length X.lc] 34) = W1 := ⟨_, rfl⟩
  rw [hW1] at k1 hsb hsz hSA hTA hPA
  have HSB := Hid.mk' hsb
  have HSZ := Hid.mk' hsz
  have HK := Hid.mk' k1
  have HS := Hid.mk' hSA
  have HT := Hid.mk' hTA
  have HP := Hid.mk' hPA
  have s0_ := HSB.out.c0
  have s1_ := HSB.out.c1
  have s2_ := HSB.out.c2
  have s3_ := HSB.out.c3
  have s4_ := HSB.out.c4
  have s5_ := HSB.out.c5
  have s6_ := HSB.out.c6
  have s7_ := HSB.out.c7
  have s8_ := HSB.out.c8
  have s9_ := HSB.out.c9
  have s10_ := HSB.out.c10
  have s11_ := HSB.out.c11
  have hPm := hP.max
  clear h hT hP k1 hsb hsz hSA hTA hPA
  have HBAD := Hid.mk' hbad
  clear hbad
  go_enter Tryd.func10, Tryd.ntmps10
  go_wp2_with (first | rw [hW1] | (go_at_call 13; refine (first_yes2 HS.out HT.out hs).mono ?_; rintro e wF ⟨b, rfl, hbm, hog, hkF⟩; have c1f := (HSB.out.kept (hkF.tr (Kept.alloc wF #[.slice (some ⟨b, 0, none⟩) S.groups.length S.groups.length, .int .i64 (worstM S), .bool false] 41 (0, 0) none))).c1))
  obtain ⟨W2, hW2⟩ : ∃ W2, wF.alloc (.cells #[.slice (some ⟨b, 0, none⟩) S.groups.length S.groups.length, .int .i64 (worstM S), .bool false] 41) = W2 := ⟨_, rfl⟩
  have kN : Kept wF W2 none := by rw [← hW2]; exact Kept.alloc _ _ _ _ _
  have bN := box_alloc wF (.slice (some ⟨b, 0, none⟩) S.groups.length S.groups.length) (.int .i64 (worstM S)) (.bool false) 41
  have hsz2 : (wF.alloc (.cells #[.slice (some ⟨b, 0, none⟩) S.groups.length S.groups.length, .int .i64 (worstM S), .bool false] 41)).heap.size = wF.heap.size + 1 := by simp
  rw [hW2] at bN hsz2 c1f ⊢
  have K2 := Hid.mk' (hkF.tr kN)
  have BN := Hid.mk' bN
  have HOG := Hid.mk' (row_kept hog kN (by simp))
  have HZ2 := Hid.mk' hsz2
  have hfz := hkF.size
  have hbz := hog.lt
  rw [HSZ.out] at hfz hbm
  have C1 := Hid.mk' c1f
  clear hW2 kN bN hsz2 hog hkF c1f s0_ s1_ s2_ s3_ s4_ s5_ s6_ s7_ s8_ s9_ s10_ s11_
  go_loopw [9, 26] (fun _ i wr => ∃ k : Nat, k ≤ n ∧ i = .int .i64 k ∧ wr = W2 ∧ ∀ j, j < k → (tk T j).length = S.groups.length) (fun _ i _ => n - (intOf i).toNat)
  case atStart => exact ⟨0, by omega, rfl, rfl, fun j hj => by omega⟩
  case round =>
    obtain ⟨k, hk, rfl, rfl, hno⟩ := hrel
    have HN := Hid.mk' hno
    by_cases hlt : k < n
    · obtain ⟨bp, op, rfl, hbp, hcp⟩ := HP.out.at_ (by omega)
      obtain ⟨al, cl, kc0, hB0⟩ := hcp k hlt
      have kc := cell_kept0 kc0 K2.out
      have c1 := C1.out
      have HEX : Hid ((tk T k).length = S.groups.length → ∀ j, j < k + 1 → (tk T j).length = S.groups.length) := fun e => ext_no hno e
      clear hcp kc0 hB0 hno
      by_cases hq : (tk T k).length = S.groups.length
      · have HN2 := Hid.mk' (HEX.out hq)
        have hqb : (((tk T k).length : Int) != (S.groups.length : Int)) = false := by simp; omega
        clear hq HEX
        go_wp2
        go_roundw
        case rel => exact ⟨k + 1, by omega, by go_num, by first | trivial | rfl, HN2.out⟩
        case measure => simp [intOf]; omega
      · have hqb : (((tk T k).length : Int) != (S.groups.length : Int)) = true := by simp; omega
        clear hq HEX
        go_wp2
        go_ret2
        exact ⟨rfl, HK.out.tr K2.out⟩
    · have e : n = k := by omega
      subst e
      exact absurd (HN.out k0 hk0) HBAD.out

/-- What the ticks go by. -/
structure Rn (W1 wr : World) (S : St) (T : List (List Nat)) (n bN bT k : Nat) : Prop where
  kp : Kept W1 wr none
  bx : ∃ bg, bg ≠ bT ∧ Box wr bN (.slice (some ⟨bg, 0, none⟩) S.groups.length S.groups.length) (.int .i64 (runF S T k).start) (.bool (runF S T k).flashed) ∧ OwnG wr bg S.groups.length (runF S T k).g
  rows : ∃ q : Nat → Nat, wr.rowIs bT 36 n (fun i => if i < k then .slice (some ⟨q i, 0, none⟩) S.groups.length S.groups.length else .slice none 0 0) ∧ ∀ i, i < k → q i ≠ bT ∧ q i ≠ bN ∧ wr.rowIs (q i) 5 S.groups.length (fun j => .int .u8 ((lg (runL S T i) j : Nat) : Int))
theorem Box.set3 {w : World} {b : Nat} {v0 v1 v2 : Value} (h : Box w b v0 v1 v2) (x0 x1 x2 : Value) : Box (((w.setCell ⟨b, 0, none⟩ x0).setCell ⟨b, 1, none⟩ x1).setCell ⟨b, 2, none⟩ x2) b x0 x1 x2 := by
  have h1 : Box (w.setCell ⟨b, 0, none⟩ x0) b x0 v1 v2 := ⟨World.cell?_setCell_same _ _ _ h.c0, (World.cell?_setCell_other _ _ _ _ (by simp)).trans h.c1, (World.cell?_setCell_other _ _ _ _ (by simp)).trans h.c2, (World.frozen?_setCell ..).trans h.f0, (World.frozen?_setCell ..).trans h.f1, (World.frozen?_setCell ..).trans h.f2, by simpa [World.setCell] using h.lt⟩
  exact (h1.set1 x1).set2 x2
theorem next_go2 {X : Sa} {S : St} {w : World} {a : Option Addr} {c : Nat} {F : Sf} {al : Option Addr} {n cl : Nat} {L : List Nat} (h : Sat w X S) (hT : Tabb w) (hF : SafeAt w a c F) (hB : By w al n L) (hs : siteB S = true) (hm : mayS S F = true) (hz : faultV S F L = 0) : Calls Tryd.prog 23 #[siteV X S, .agg #[.slice a S.groups.length c, .int .i64 F.start, .bool F.flashed], .slice al n cl] w fun e w' => ∃ b, e = .returned (.tuple #[.agg #[.slice (some ⟨b, 0, none⟩) S.groups.length S.groups.length, .int .i64 (behindV S F L).start, .bool (behindV S F L).flashed], .int .u8 0, .int .i64 0]) ∧ w.heap.size ≤ b ∧ OwnG w' b S.groups.length (behindV S F L).g ∧ Kept w w' none := by
  have hfn := (mayS_parts hm).1
  have hl := fault_len hz
  have hx := next_go (cl := cl) h hT hF hB hs hm hz
  rw [safeV, hfn] at hx
  refine hx.mono ?_
  rintro e w' ⟨b, rfl, h1, h2, h3⟩
  refine ⟨b, by rw [safeV, behindV_len, hl], h1, h2.congr (fun q hq => ?_), h3⟩
  unfold gcell
  rw [behindV_g (by omega)]
theorem run_len {S : St} {T : List (List Nat)} (hs : siteB S = true) (hT : ∀ k, k < T.length → (tk T k).length = S.groups.length) {k : Nat} (hk : k ≤ T.length) : (runF S T k).groups.length = S.groups.length := (mayS_parts (goes_parts (run_goes hs hT k hk)).1).1
theorem letV_lt (S : St) (F : Sf) (A : List Nat) : ∀ x ∈ letV S F A, x < 256 := by
  intro x hx
  simp only [letV, List.mem_map] at hx
  obtain ⟨i, _, rfl⟩ := hx
  have := letF_rng S F A i
  omega
theorem runF_rng {S : St} {T : List (List Nat)} : ∀ k, ∀ s ∈ (runF S T k).groups, s.asp < 256 ∧ i64B s.since ∧ i64B s.ended
  | 0, s, hs => by
    have : s = seen1 := by
      unfold runF firstV at hs
      exact (List.mem_replicate.1 hs).2
    subst this
    unfold i64B; simp
  | k + 1, s, hs => by
    unfold runF behindV at hs
    simp only [List.mem_map, List.mem_range] at hs
    obtain ⟨i, hi, rfl⟩ := hs
    exact sndV_rng _ _ (letV_lt _ _ _ _ (lg_mem hi))
/-- A drawn region's one way, a block that was met inside it left open. -/
def Rb (A : Nat → Act) (P : World → Prop) (e : Exit) (a : Act) (w : World) : Prop := match e with
  | .normal => (∃ u, a = A u) ∧ P w
  | _ => False
theorem Rb.out {A : Nat → Act} {P : World → Prop} {w : World} {e : Exit} {a : Act} (h : Rb A P e a w) : e = .normal ∧ (∃ u, a = A u) ∧ P w := by
  cases e with
  | normal => exact ⟨rfl, h.1, h.2⟩
  | _ => exact h.elim
def qX (q : Nat → Nat) (k b i : Nat) : Nat := if i = k then b else q i
theorem Rn.step {W1 wr wL wS w7 : World} {S : St} {T : List (List Nat)} {n bN bT k b2 bL : Nat} {q : Nat → Nat} (hkp : Kept W1 wr none) (hrow : wr.rowIs bT 36 n (fun i => if i < k then .slice (some ⟨q i, 0, none⟩) S.groups.length S.groups.length else .slice none 0 0)) (hq : ∀ i, i < k → q i ≠ bT ∧ q i ≠ bN ∧ wr.rowIs (q i) 5 S.groups.length (fun j => .int .u8 ((lg (runL S T i) j : Nat) : Int))) (hkL : Kept wr wL none) (hrL : wL.rowIs bL 5 S.groups.length (fun j => .int .u8 ((lg (runL S T k) j : Nat) : Int))) (hbL : wr.heap.size ≤ bL) (hwS : wL.setCell ⟨bT, k, none⟩ (.slice (some ⟨bL, 0, none⟩) S.groups.length S.groups.length) = wS) (h7 : Kept wS w7 none) (hb2 : wS.heap.size ≤ b2) (ho2 : OwnG w7 b2 S.groups.length (runF S T (k + 1)).g) {v0 v1 v2 : Value} (hbx : Box w7 bN v0 v1 v2) (h1 : W1.heap.size ≤ bN) (h2 : bN < bT) (h3 : bT < wr.heap.size) (h4 : bL < wS.heap.size) : Rn W1 (((w7.setCell ⟨bN, 0, none⟩ (.slice (some ⟨b2, 0, none⟩) S.groups.length S.groups.length)).setCell ⟨bN, 1, none⟩ (.int .i64 (runF S T (k + 1)).start)).setCell ⟨bN, 2, none⟩ (.bool (runF S T (k + 1)).flashed)) S T n bN bT (k + 1) := by
  have hS : Kept W1 wS none := by rw [← hwS]; exact (hkp.tr hkL).setNew (by show W1.heap.size ≤ bT; omega) _
  have oth : ∀ {b : Nat} {t : TypeId} {m : Nat} {f : Nat → Value}, wS.rowIs b t m f → b ≠ bN → (((w7.setCell ⟨bN, 0, none⟩ (.slice (some ⟨b2, 0, none⟩) S.groups.length S.groups.length)).setCell ⟨bN, 1, none⟩ (.int .i64 (runF S T (k + 1)).start)).setCell ⟨bN, 2, none⟩ (.bool (runF S T (k + 1)).flashed)).rowIs b t m f := fun h hb => (((row_kept h h7 (by simp)).setOther (a := ⟨bN, 0, none⟩) hb _).setOther (a := ⟨bN, 1, none⟩) hb _).setOther (a := ⟨bN, 2, none⟩) hb _
  have hbN2 : b2 ≠ bN := by
    have := hS.size
    have e : wS.heap.size = wL.heap.size := by rw [← hwS]; simp [World.setCell]
    have := hkL.size
    omega
  refine ⟨(((hS.tr h7).setNew h1 _).setNew h1 _).setNew h1 _, ⟨b2, ?_, hbx.set3 _ _ _, ((ho2.setOther (a := ⟨bN, 0, none⟩) hbN2 _).setOther (a := ⟨bN, 1, none⟩) hbN2 _).setOther (a := ⟨bN, 2, none⟩) hbN2 _⟩, ⟨qX q k bL, oth ?_ (by omega), fun i hi => ?_⟩⟩
  · have e : wS.heap.size = wL.heap.size := by rw [← hwS]; simp [World.setCell]
    have := hkL.size
    omega
  · rw [← hwS]
    refine ((row_kept hrow hkL (by simp)).set k _).congr (fun i hi => ?_)
    show (if i = k then _ else if i < k then _ else _) = if i < k + 1 then Value.slice (some ⟨qX q k bL i, 0, none⟩) _ _ else _
    unfold qX
    by_cases e : i = k
    · subst e; rw [if_pos rfl, if_pos (by omega), if_pos rfl]
    · rw [if_neg e]
      by_cases e2 : i < k
      · rw [if_pos e2, if_pos (by omega), if_neg e]
      · rw [if_neg e2, if_neg (by omega)]
  · unfold qX
    by_cases e : i = k
    · subst e
      rw [if_pos rfl]
      refine ⟨by omega, by omega, oth ?_ (by omega)⟩
      rw [← hwS]
      exact hrL.setOther (a := ⟨bT, i, none⟩) (by show bL ≠ bT; omega) _
    · rw [if_neg e]
      obtain ⟨h5, h6, h8⟩ := hq i (by omega)
      refine ⟨h5, h6, oth ?_ h6⟩
      rw [← hwS]
      exact (row_kept h8 hkL (by simp)).setOther (a := ⟨bT, k, none⟩) h5 _
theorem Rn.trc {W1 wr : World} {S : St} {T : List (List Nat)} {n bN bT : Nat} (h : Rn W1 wr S T n bN bT n) (hn : T.length = n) (hm : n ≤ 9223372036854775807) (hs : S.groups.length ≤ 100) (hl : ∀ k, k < n → (tk T k).length = S.groups.length) : Trc wr (some ⟨bT, 0, none⟩) n (runV S T) := by
  obtain ⟨q, hr, hq⟩ := h.rows
  refine ⟨(runV_len S T).trans hn, hm, fun _ => ⟨bT, 0, rfl, hr.lt, fun i hi => ?_⟩⟩
  have hc := hr.cell (i := i) hi
  rw [if_pos hi] at hc
  have hli : (runL S T i).length = S.groups.length := (letV_len _ _ _).trans (hl i hi)
  rw [runV_tk (by omega), hli]
  refine ⟨_, _, by rw [Nat.zero_add]; exact hc, By.row (hq i hi).2.2 _ _ (Nat.le_refl _) hli (by omega) (letV_lt _ _ _) (fun j hj => rfl)⟩
set_option maxRecDepth 100000 in
set_option maxHeartbeats 4000000 in
theorem grun_go {X : Sa} {S : St} {w : World} {pa : Option Addr} {n cp : Nat} {T : List (List Nat)} (h : Sat w X S) (hT : Tabb w) (hP : Trc w pa n T) (hs : siteB S = true) (hn : n ≤ 4096) (hall : ∀ k, k < n → (tk T k).length = S.groups.length) : Calls Tryd.prog 10 #[siteV X S, .slice pa n cp] w fun e w' => ∃ b, e = .returned (.tuple #[.slice (some ⟨b, 0, none⟩) n n, .int .i64 0]) ∧ w.heap.size ≤ b ∧ Trc w' (some ⟨b, 0, none⟩) n (runV S T) ∧ Kept w w' none := by
  have HTL := Hid.mk' hP.size
  have HSH := Hid.mk' (span_may hs).base.sh
  have hng := HSH.out.ok.ng
  have HALL := Hid.mk' hall
  have k1 : Kept w (w.alloc (.cells #[.int .i64 S.id, .slice X.g S.groups.length X.gc, .slice X.a S.apart.length X.ac, .slice X.b S.between.length X.bc, .slice X.p S.phases.length X.pc, .slice X.e S.eyes.length X.ec, .int .i64 S.watch, .int .i64 S.feed, .int .i64 S.heal, .int .i64 S.low, .int .i64 S.high, .slice X.l S.plans.length X.lc] 34)) none := Kept.alloc _ _ _ _ _
  have hsb := sbox_alloc h 34
  have hsz : (w.alloc (.cells #[.int .i64 S.id, .slice X.g S.groups.length X.gc, .slice X.a S.apart.length X.ac, .slice X.b S.between.length X.bc, .slice X.p S.phases.length X.pc, .slice X.e S.eyes.length X.ec, .int .i64 S.watch, .int .i64 S.feed, .int .i64 S.heal, .int .i64 S.low, .int .i64 S.high, .slice X.l S.plans.length X.lc] 34)).heap.size = w.heap.size + 1 := by simp
  have hSA := h.kept k1
  have hTA := hT.kept k1
  have hPA := hP.kept k1
  obtain ⟨W1, hW1⟩ : ∃ W1, w.alloc (.cells #[.int .i64 S.id, .slice X.g S.groups.length X.gc, .slice X.a S.apart.length X.ac, .slice X.b S.between.length X.bc, .slice X.p S.phases.length X.pc, .slice X.e S.eyes.length X.ec, .int .i64 S.watch, .int .i64 S.feed, .int .i64 S.heal, .int .i64 S.low, .int .i64 S.high, .slice X.l S.plans.length X.lc] 34) = W1 := ⟨_, rfl⟩
  rw [hW1] at k1 hsb hsz hSA hTA hPA
  have HSB := Hid.mk' hsb
  have HSZ := Hid.mk' hsz
  have HK := Hid.mk' k1
  have HS := Hid.mk' hSA
  have HT := Hid.mk' hTA
  have HP := Hid.mk' hPA
  have s0_ := HSB.out.c0
  have s1_ := HSB.out.c1
  have s2_ := HSB.out.c2
  have s3_ := HSB.out.c3
  have s4_ := HSB.out.c4
  have s5_ := HSB.out.c5
  have s6_ := HSB.out.c6
  have s7_ := HSB.out.c7
  have s8_ := HSB.out.c8
  have s9_ := HSB.out.c9
  have s10_ := HSB.out.c10
  have s11_ := HSB.out.c11
  have hPm := hP.max
  clear h hT hP k1 hsb hsz hSA hTA hPA
  clear hall
  have hmk := run_make_row' (P := Tryd.prog) 23 36 (.slice none 0 0) 24 Tryd.uByss Tryd.infoBys rfl .i64 .i64 n (by omega) (by omega)
  go_enter Tryd.func10, Tryd.ntmps10
  go_wp2_with (first | rw [hW1] | (go_at_call 13; refine (first_yes2 HS.out HT.out hs).mono ?_; rintro e wF ⟨b, rfl, hbm, hog, hkF⟩; have c1f := (HSB.out.kept (hkF.tr (Kept.alloc wF #[.slice (some ⟨b, 0, none⟩) S.groups.length S.groups.length, .int .i64 (worstM S), .bool false] 41 (0, 0) none))).c1))
  obtain ⟨W2, hW2⟩ : ∃ W2, wF.alloc (.cells #[.slice (some ⟨b, 0, none⟩) S.groups.length S.groups.length, .int .i64 (worstM S), .bool false] 41) = W2 := ⟨_, rfl⟩
  have kN : Kept wF W2 none := by rw [← hW2]; exact Kept.alloc _ _ _ _ _
  have bN := box_alloc wF (.slice (some ⟨b, 0, none⟩) S.groups.length S.groups.length) (.int .i64 (worstM S)) (.bool false) 41
  have hsz2 : (wF.alloc (.cells #[.slice (some ⟨b, 0, none⟩) S.groups.length S.groups.length, .int .i64 (worstM S), .bool false] 41)).heap.size = wF.heap.size + 1 := by simp
  rw [hW2] at bN hsz2 c1f ⊢
  have K2 := Hid.mk' (hkF.tr kN)
  have BN := Hid.mk' bN
  have HOG := Hid.mk' (row_kept hog kN (by simp))
  have HZ2 := Hid.mk' hsz2
  have hfz := hkF.size
  have hbz := hog.lt
  rw [HSZ.out] at hfz hbm
  have C1 := Hid.mk' c1f
  clear hW2 kN bN hsz2 hog hkF c1f s0_ s1_ s2_ s3_ s4_ s5_ s6_ s7_ s8_ s9_ s10_ s11_
  go_loopw [9, 26] (fun _ i wr => ∃ k : Nat, k ≤ n ∧ i = .int .i64 k ∧ wr = W2 ∧ ∀ j, j < k → (tk T j).length = S.groups.length) (fun _ i _ => n - (intOf i).toNat)
  case atStart => exact ⟨0, by omega, rfl, rfl, fun j hj => by omega⟩
  case round =>
    obtain ⟨k, hk, rfl, rfl, hno⟩ := hrel
    have HN := Hid.mk' hno
    by_cases hlt : k < n
    · obtain ⟨bp, op, rfl, hbp, hcp⟩ := HP.out.at_ (by omega)
      obtain ⟨al, cl, kc0, hB0⟩ := hcp k hlt
      have kc := cell_kept0 kc0 K2.out
      have c1 := C1.out
      have HEX : Hid ((tk T k).length = S.groups.length → ∀ j, j < k + 1 → (tk T j).length = S.groups.length) := fun e => ext_no hno e
      clear hcp kc0 hB0 hno
      have hq := HALL.out k hlt
      have HN2 := Hid.mk' (HEX.out hq)
      have hqb : (((tk T k).length : Int) != (S.groups.length : Int)) = false := by simp; omega
      clear hq HEX
      go_wp2
      go_roundw
      case rel => exact ⟨k + 1, by omega, by go_num, by first | trivial | rfl, HN2.out⟩
      case measure => simp [intOf]; omega
    · have e : n = k := by omega
      subst e
      obtain ⟨W2, hW2⟩ : ∃ W2, W2 = wr := ⟨_, rfl⟩
      subst hW2
      go_wp2
      have hrw := World.rowIs_made W2 (.slice none 0 0) n 36
      have kM : Kept W2 (W2.alloc (.cells (madeCells #[.slice none 0 0] n) 36)) none := Kept.alloc _ _ _ _ _
      obtain ⟨W3, hW3⟩ : ∃ W3, W2.alloc (.cells (madeCells #[.slice none 0 0] n) 36) = W3 := ⟨_, rfl⟩
      rw [hW3] at hrw kM ⊢
      have hzz := HZ2.out
      have HRN : Hid (Rn W1 W3 S T n wF.heap.size W2.heap.size 0) := ⟨K2.out.tr kM, ⟨b, by omega, BN.out.kept kM, (row_kept HOG.out kM (by simp)).congr (fun q hq => by unfold gcell; rw [show runF S T 0 = firstV S from rfl, firstV_g (by omega)])⟩, ⟨fun _ => 0, hrw.congr (fun i hi => by rw [if_neg (by omega)]), fun i hi => by omega⟩⟩
      have hNT : wF.heap.size < W2.heap.size := by omega
      have hN1 : W1.heap.size ≤ wF.heap.size := by rw [HSZ.out]; exact hfz
      have hsz1 := HSZ.out
      clear hW3 hrw kM hmk hzz HZ2 BN HOG C1 HN hno hbz hbm
      generalize wF.heap.size = bN at *
      generalize W2.heap.size = bT at *
      go_loopw [11, 12, 42] (fun _ _ i wr => ∃ k : Nat, k ≤ n ∧ i = .int .i64 k ∧ Rn W1 wr S T n bN bT k) (fun _ _ i _ => n - (intOf i).toNat)
      case atStart => exact ⟨0, by omega, rfl, HRN.out⟩
      case round =>
        obtain ⟨k, hk, rfl, hrn⟩ := hrel
        by_cases hlt : k < n
        · obtain ⟨bg, hgT, hbx, hog⟩ := hrn.bx
          obtain ⟨q, hrow, hq⟩ := hrn.rows
          obtain ⟨bp, op, rfl, hbp, hcp⟩ := HP.out.at_ (by omega)
          obtain ⟨al, cl, kc0, hB0⟩ := hcp k hlt
          have hkp := hrn.kp
          have kc := cell_kept0 kc0 hkp
          have hA := HALL.out k hlt
          have hgo := run_goes hs (fun k hk => HALL.out k (by have := HTL.out; omega)) k (by have := HTL.out; omega)
          have hmy := (goes_parts hgo).1
          have hFl := (mayS_parts hmy).1
          have hz := let_safe hs hgo hA
          have hsf : SafeAt wr (some ⟨bg, 0, none⟩) S.groups.length (runF S T k) := hog.safe hFl (fun _ _ => rfl) (by omega) (runF_rng k)
          have hLL : (runL S T k).length = S.groups.length := (letV_len _ _ _).trans hA
          have hLG : ∀ j, j < S.groups.length → letF S (runF S T k) (tk T k) j = lg (runL S T k) j := fun j hj => (letV_lg (by omega)).symm
          have hLT : ∀ x ∈ runL S T k, x < 256 := letV_lt _ _ _
          have HNX0 : Hid (runF S T (k + 1) = behindV S (runF S T k) (runL S T k)) := rfl
          have HRL : Hid (letV S (runF S T k) (tk T k) = runL S T k) := rfl
          rw [HRL.out] at hz
          have hlet := glet_any (cl := cl) (HSB.out.kept hkp) HSH.out hsf hFl (hB0.kept hkp) hA
          rw [safeV, hFl] at hlet
          have HLET := Hid.mk' hlet
          have hbxl := hbx.lt
          have hTl := hrow.lt
          have hkz := hkp.size
          have HMY := Hid.mk' hmy
          have HZ := Hid.mk' hz
          have HSF := Hid.mk' hsf
          have HLL := Hid.mk' hLL
          have HLG := Hid.mk' hLG
          have HLT := Hid.mk' hLT
          have HQ := Hid.mk' hq
          have HROW := Hid.mk' hrow
          have HKP := Hid.mk' hkp
          have HBX0 := Hid.mk' hbx
          have HOG0 := Hid.mk' hog
          have HFL := Hid.mk' hFl
          have HRNG := Hid.mk' (runF_rng (S := S) (T := T) k)
          have c0 := hbx.c0
          have c1 := hbx.c1
          have c2 := hbx.c2
          clear hlet hcp kc0 hB0 hA hgo hmy hFl hz hsf hLL hLG hLT HRL hq hrow hrn hog hbx
          rw [show (tk T k).length = S.groups.length from HALL.out k hlt] at kc HLET
          generalize tk T k = A at *
          generalize runF S T k = F at *
          go_wp2_with (go_at_call 28; refine HLET.out.mono ?_; rintro e wL ⟨bL, rfl, hbL, hrL, hkL⟩; have rT := row_kept HROW.out hkL (by simp); have y0 : wL.cell? ⟨bT, k, none⟩ = some (.slice none 0 0) := (rT.cell (i := k) hlt).trans (by simp); have z0 := rT.frozen k)
          obtain ⟨wS, hwS⟩ : ∃ wS, wL.setCell ⟨bT, k, none⟩ (.slice (some ⟨bL, 0, none⟩) S.groups.length S.groups.length) = wS := ⟨_, rfl⟩
          have hsS : wS.heap.size = wL.heap.size := by rw [← hwS]; simp [World.setCell]
          have hLz := hkL.size
          have hLl := hrL.lt
          have hKS : Kept W1 wS none := by rw [← hwS]; exact (HKP.out.tr hkL).setNew (by show W1.heap.size ≤ bT; omega) _
          have hoS : OwnG wS bg S.groups.length F.g := by
            rw [← hwS]
            exact (row_kept HOG0.out hkL (by simp)).setOther (a := ⟨bT, k, none⟩) hgT _
          have hsS2 : SafeAt wS (some ⟨bg, 0, none⟩) S.groups.length F := hoS.safe HFL.out (fun _ _ => rfl) (by omega) HRNG.out
          have bS : Box wS bN (.slice (some ⟨bg, 0, none⟩) S.groups.length S.groups.length) (.int .i64 F.start) (.bool F.flashed) := by
            rw [← hwS]
            exact (HBX0.out.kept hkL).other (by show bT ≠ bN; omega) _
          have hrL2 : wL.rowIs bL 5 S.groups.length (fun j => .int .u8 ((lg (runL S T k) j : Nat) : Int)) := hrL.congr (fun i hi => by rw [HLG.out i hi])
          have rLS : wS.rowIs bL 5 S.groups.length (fun j => .int .u8 ((lg (runL S T k) j : Nat) : Int)) := by
            rw [← hwS]
            exact hrL2.setOther (a := ⟨bT, k, none⟩) (by show bL ≠ bT; omega) _
          have hByS : By wS (some ⟨bL, 0, none⟩) S.groups.length (runL S T k) := By.row rLS _ _ (Nat.le_refl _) HLL.out (by omega) HLT.out (fun j hj => rfl)
          have HNX : Hid (∀ w', Kept wS w' none → Calls Tryd.prog 23 #[siteV X S, .agg #[.slice (some ⟨bg, 0, none⟩) S.groups.length S.groups.length, .int .i64 F.start, .bool F.flashed], .slice (some ⟨bL, 0, none⟩) S.groups.length S.groups.length] w' fun e w2 => ∃ b2, e = .returned (.tuple #[.agg #[.slice (some ⟨b2, 0, none⟩) S.groups.length S.groups.length, .int .i64 (runF S T (k + 1)).start, .bool (runF S T (k + 1)).flashed], .int .u8 0, .int .i64 0]) ∧ w'.heap.size ≤ b2 ∧ OwnG w2 b2 S.groups.length (runF S T (k + 1)).g ∧ Kept w' w2 none) := fun w' qk => by
            rw [HNX0.out]
            exact next_go2 ((HS.out.kept hKS).kept qk) ((HT.out.kept hKS).kept qk) (hsS2.kept qk) (hByS.kept qk) hs HMY.out HZ.out
          have HFIN : Hid (∀ w7 b2, Kept wS w7 none → wS.heap.size ≤ b2 → OwnG w7 b2 S.groups.length (runF S T (k + 1)).g → Rn W1 (((w7.setCell ⟨bN, 0, none⟩ (.slice (some ⟨b2, 0, none⟩) S.groups.length S.groups.length)).setCell ⟨bN, 1, none⟩ (.int .i64 (runF S T (k + 1)).start)).setCell ⟨bN, 2, none⟩ (.bool (runF S T (k + 1)).flashed)) S T n bN bT (k + 1)) := fun w7 b2 h7 hb2 ho2 =>
            Rn.step HKP.out HROW.out HQ.out hkL hrL2 hbL hwS h7 hb2 ho2 (bS.kept h7) (by omega) (by omega) (by omega) (by omega)
          have HBX := Hid.mk' bS
          have bx0 := bS.c0
          have bx1 := bS.c1
          have bx2 := bS.c2
          have tT : ∀ w', Kept wS w' (some bN) → w'.cell? ⟨bT, k, none⟩ = some (.slice (some ⟨bL, 0, none⟩) S.groups.length S.groups.length) := fun w' qk => cell_keptS (by rw [← hwS]; exact World.cell?_setCell_same _ _ _ y0) qk (by intro e; have := Option.some.inj e; omega)
          have s0_ : ∀ w', Kept wS w' (some bN) → w'.cell? ⟨w.heap.size, 0, none⟩ = some (.int .i64 S.id) := fun w' qk => cell_keptS (HSB.out.kept hKS).c0 qk (by intro e; have := Option.some.inj e; omega)
          have s1_ : ∀ w', Kept wS w' (some bN) → w'.cell? ⟨w.heap.size, 1, none⟩ = some (.slice X.g S.groups.length X.gc) := fun w' qk => cell_keptS (HSB.out.kept hKS).c1 qk (by intro e; have := Option.some.inj e; omega)
          have s2_ : ∀ w', Kept wS w' (some bN) → w'.cell? ⟨w.heap.size, 2, none⟩ = some (.slice X.a S.apart.length X.ac) := fun w' qk => cell_keptS (HSB.out.kept hKS).c2 qk (by intro e; have := Option.some.inj e; omega)
          have s3_ : ∀ w', Kept wS w' (some bN) → w'.cell? ⟨w.heap.size, 3, none⟩ = some (.slice X.b S.between.length X.bc) := fun w' qk => cell_keptS (HSB.out.kept hKS).c3 qk (by intro e; have := Option.some.inj e; omega)
          have s4_ : ∀ w', Kept wS w' (some bN) → w'.cell? ⟨w.heap.size, 4, none⟩ = some (.slice X.p S.phases.length X.pc) := fun w' qk => cell_keptS (HSB.out.kept hKS).c4 qk (by intro e; have := Option.some.inj e; omega)
          have s5_ : ∀ w', Kept wS w' (some bN) → w'.cell? ⟨w.heap.size, 5, none⟩ = some (.slice X.e S.eyes.length X.ec) := fun w' qk => cell_keptS (HSB.out.kept hKS).c5 qk (by intro e; have := Option.some.inj e; omega)
          have s6_ : ∀ w', Kept wS w' (some bN) → w'.cell? ⟨w.heap.size, 6, none⟩ = some (.int .i64 S.watch) := fun w' qk => cell_keptS (HSB.out.kept hKS).c6 qk (by intro e; have := Option.some.inj e; omega)
          have s7_ : ∀ w', Kept wS w' (some bN) → w'.cell? ⟨w.heap.size, 7, none⟩ = some (.int .i64 S.feed) := fun w' qk => cell_keptS (HSB.out.kept hKS).c7 qk (by intro e; have := Option.some.inj e; omega)
          have s8_ : ∀ w', Kept wS w' (some bN) → w'.cell? ⟨w.heap.size, 8, none⟩ = some (.int .i64 S.heal) := fun w' qk => cell_keptS (HSB.out.kept hKS).c8 qk (by intro e; have := Option.some.inj e; omega)
          have s9_ : ∀ w', Kept wS w' (some bN) → w'.cell? ⟨w.heap.size, 9, none⟩ = some (.int .i64 S.low) := fun w' qk => cell_keptS (HSB.out.kept hKS).c9 qk (by intro e; have := Option.some.inj e; omega)
          have s10_ : ∀ w', Kept wS w' (some bN) → w'.cell? ⟨w.heap.size, 10, none⟩ = some (.int .i64 S.high) := fun w' qk => cell_keptS (HSB.out.kept hKS).c10 qk (by intro e; have := Option.some.inj e; omega)
          have s11_ : ∀ w', Kept wS w' (some bN) → w'.cell? ⟨w.heap.size, 11, none⟩ = some (.slice X.l S.plans.length X.lc) := fun w' qk => cell_keptS (HSB.out.kept hKS).c11 qk (by intro e; have := Option.some.inj e; omega)
          rw [hwS]
          clear y0 z0 c0 c1 c2 kc
          clear hwS hkL hrL hrL2 rLS rT hoS hsS2 bS hByS hKS hLz hLl hsS hbL
          refine Code.wp_mono (Q := Rb ?A (fun w' => Rn W1 w' S T n bN bT (k + 1))) ?cont ?reg
          case reg =>
            repeat (rename_i hh; clear hh)
            refine wp_region_held_drew (S := fun w' => Kept wS w' (some bN)) (by kernel_rfl) (Kept.drew _ _) (fun hHeld => ?_)
            refine held_take (i := 0) (v := ?v1) rfl rfl (by kernel_rfl) (by kernel_rfl) (by kernel_rfl) (fun _ _ _ h => h) (Or.inl ⟨by rfl, ?hy1⟩) hHeld ?rest1
            case hy1 => first | (intro w hSw; (try dsimp only at hSw); go_simp; done) | (intro w hSw; (try dsimp only at hSw); go_simp; with_reducible rfl)
            try simp only [List.setIfInBounds_toArray, List.set_cons_zero, List.set_cons_succ]
            refine held_take (i := 2) (v := ?v2) rfl rfl (by kernel_rfl) (by kernel_rfl) (by kernel_rfl) (fun _ _ _ h => h) (Or.inl ⟨by rfl, ?hy2⟩) hHeld ?rest2
            case hy2 => first | (intro w hSw; (try dsimp only at hSw); go_simp; done) | (intro w hSw; (try dsimp only at hSw); go_simp; with_reducible rfl)
            try simp only [List.setIfInBounds_toArray, List.set_cons_zero, List.set_cons_succ]
            refine held_take (i := 3) (v := ?v3) rfl rfl (by kernel_rfl) (by kernel_rfl) (by kernel_rfl) (fun _ _ _ h => h) (Or.inl ⟨by rfl, ?hy3⟩) hHeld ?rest3
            case hy3 => first | (intro w hSw; (try dsimp only at hSw); go_simp; done) | (intro w hSw; (try dsimp only at hSw); go_simp; with_reducible rfl)
            try simp only [List.setIfInBounds_toArray, List.set_cons_zero, List.set_cons_succ]
            refine held_take (i := 4) (v := ?v4) rfl rfl (by kernel_rfl) (by kernel_rfl) (by kernel_rfl) (fun _ _ _ h => h) (Or.inl ⟨by rfl, ?hy4⟩) hHeld ?rest4
            case hy4 => first | (intro w hSw; (try dsimp only at hSw); go_simp; done) | (intro w hSw; (try dsimp only at hSw); go_simp; with_reducible rfl)
            try simp only [List.setIfInBounds_toArray, List.set_cons_zero, List.set_cons_succ]
            refine held_take (i := 5) (v := ?v5) rfl rfl (by kernel_rfl) (by kernel_rfl) (by kernel_rfl) (fun _ _ _ h => h) (Or.inl ⟨by rfl, ?hy5⟩) hHeld ?rest5
            case hy5 => first | (intro w hSw; (try dsimp only at hSw); go_simp; done) | (intro w hSw; (try dsimp only at hSw); go_simp; with_reducible rfl)
            try simp only [List.setIfInBounds_toArray, List.set_cons_zero, List.set_cons_succ]
            refine wpAnyH_ready (rs := [1]) (by kernel_rfl) (by simp) ?_
            refine AllReadyH.cons rfl (fun K hK => ?_) AllReadyH.nil
            go_simp
            refine hK.out _ _ hHeld (fun hHeld => ?_)
            clear hK K
            refine wpAnyH_ready (rs := [6]) (by kernel_rfl) (by simp) ?_
            refine AllReadyH.cons rfl (fun K hK => ?_) AllReadyH.nil
            go_simp
            go_wp2_with (go_at_call 23; refine (HNX.out _ (Kept.drew _ _)).mono ?_; rintro e w7 ⟨b2, rfl, hb2, hog2, hk7⟩)
            have hk7' : Kept wS w7 none := Kept.tr (Kept.drew _ _) hk7
            refine hK.out _ _ (hk7'.weakS _) (fun hHeld => ?_)
            clear hK K
            refine held_take (i := 7) (v := ?v6) rfl rfl (by kernel_rfl) (by kernel_rfl) (by kernel_rfl) (fun _ _ _ h => h) (Or.inl ⟨by rfl, ?hy6⟩) hHeld ?rest6
            case hy6 => first | (intro w hSw; (try dsimp only at hSw); go_simp; done) | (intro w hSw; (try dsimp only at hSw); go_simp; with_reducible rfl)
            try simp only [List.setIfInBounds_toArray, List.set_cons_zero, List.set_cons_succ]
            refine held_take (i := 8) (v := ?v7) rfl rfl (by kernel_rfl) (by kernel_rfl) (by kernel_rfl) (fun _ _ _ h => h) (Or.inl ⟨by rfl, ?hy7⟩) hHeld ?rest7
            case hy7 => first | (intro w hSw; (try dsimp only at hSw); go_simp; done) | (intro w hSw; (try dsimp only at hSw); go_simp; with_reducible rfl)
            try simp only [List.setIfInBounds_toArray, List.set_cons_zero, List.set_cons_succ]
            refine held_take (i := 9) (v := ?v8) rfl rfl (by kernel_rfl) (by kernel_rfl) (by kernel_rfl) (fun _ _ _ h => h) (Or.inl ⟨by rfl, ?hy8⟩) hHeld ?rest8
            case hy8 => first | (intro w hSw; (try dsimp only at hSw); go_simp; done) | (intro w hSw; (try dsimp only at hSw); go_simp; with_reducible rfl)
            try simp only [List.setIfInBounds_toArray, List.set_cons_zero, List.set_cons_succ]
            refine held_take (i := 10) (v := ?v9) rfl rfl (by kernel_rfl) (by kernel_rfl) (by kernel_rfl) (fun _ _ _ h => h) (Or.inl ⟨by rfl, ?hy9⟩) hHeld ?rest9
            case hy9 => first | (intro w hSw; (try dsimp only at hSw); go_simp; done) | (intro w hSw; (try dsimp only at hSw); go_simp; with_reducible rfl)
            try simp only [List.setIfInBounds_toArray, List.set_cons_zero, List.set_cons_succ]
            have BX7 := Hid.mk' (HBX.out.kept hk7')
            have v0 := BX7.out.c0
            have v1 := BX7.out.c1
            have v2 := BX7.out.c2
            have f0 := BX7.out.f0
            have f1 := BX7.out.f1
            have f2 := BX7.out.f2
            refine wpAnyH_ready (rs := [11]) (by kernel_rfl) (by simp) ?_
            refine AllReadyH.cons rfl (fun K hK => ?_) AllReadyH.nil
            go_simp
            refine hK.out _ _ (((hHeld.setRow _ _).setRow _ _).setRow _ _) (fun hHeld => ?_)
            clear hK K
            refine wpAnyH_done (by kernel_rfl) ?_ _
            refine And.intro ⟨b2, by with_reducible rfl⟩ ?_
            exact HFIN.out w7 b2 hk7' hb2 hog2
          case cont =>
          intro e a' w' hq'
          obtain ⟨rfl, ⟨b2, rfl⟩, hrq⟩ := hq'.out
          go_wp2
          go_roundw
          case rel => exact ⟨k + 1, by omega, by go_num, hrq⟩
          case measure => simp [intOf]; omega
        · have e : n = k := by omega
          subst e
          have HRF := Hid.mk' hrn
          clear hrn
          go_wp2
          go_ret2
          exact ⟨bT, ⟨rfl, by omega, HRF.out.trc HTL.out hPm (by omega) HALL.out, HK.out.tr HRF.out.kp⟩⟩


end Go.Proofs.YtkbhcpgdhbfhnaaDoor

