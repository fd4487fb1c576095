/-
  Texts joined: some of those that the proofs of this seat stand on.
-/
import Derived.Test.YtcgflfngoaccoaaDoorSafeFJ
import Derived.Test.YtcgflfngoaccoaaDoorTwinA
/-
  THE CONTRACT of copied: a standing in memory of its own.
-/
namespace Go.Proofs.YtcgflfngoaccoaaDoor
open Go.RowKit Go.Lib Go.Deep
set_option linter.unusedVariables false
set_option linter.unusedSimpArgs false

/-- copy of standings into a row of one's own. -/
theorem run_copy_seen {w : World} {ty : TypeId} {g n cd : Nat} {b off c : Nat} {f : Nat → Sn} {h : Nat → Sn} (hg : OwnG w g n f) (hsrc : ∀ i, i < n → ∀ j, j < 3 → w.cell? ⟨b, off + i * 3 + j, none⟩ = some (snV (h i) j)) :
    ∃ w', (Builtin.copy_ #[43, 43] ty #[.slice (some ⟨g, 0, none⟩) n cd, .slice (some ⟨b, off, none⟩) n c]).run Tryd.prog w = .ok (goInt n) w' ∧ OwnG w' g n h ∧ Kept w w' (some g) := by
  obtain ⟨cur, hb, hn, hc⟩ := hg
  have hl := run_loadCells_list (P := Tryd.prog) w ⟨b, off, none⟩ (cellsL n 3 (fun i j => snV (h i) j)) (cellsL_news (by omega) hsrc)
  have hst := run_storeCells_at Tryd.prog g 0 63 (cellsL n 3 (fun i j => snV (h i) j)) 0 cur w hb (by rw [cellsL_len]; omega) (cellsL_one (fun i j => by unfold snV; split <;> rfl))
  rw [cellsL_len] at hl
  obtain ⟨i, hi, hzz⟩ := Option.map_eq_some_iff.1 Tryd.infoSeen
  simp only [Prod.mk.injEq] at hzz
  obtain ⟨_, hs, _⟩ := hzz
  have hmin : min n n = n := by omega
  have hrow : ((List.take (0 + 0) cur.toList ++ cellsL n 3 (fun i j => snV (h i) j)) ++ List.drop (0 + 0 + (cellsL n 3 (fun i j => snV (h i) j)).length) cur.toList).toArray = (cellsL n 3 (fun i j => snV (h i) j)).toArray := by
    rw [cellsL_len, List.drop_of_length_le (by simp [hn])]
    simp
  rw [hrow] at hst
  refine ⟨w.setRow g (cellsL n 3 (fun i j => snV (h i) j)).toArray, by
    simp [Builtin.copy_, run_underlying Tryd.underlying43, Builtin.lenOf, Builtin.firstCells, sizeOf, typeInfo, hi, hs, hmin, hl, hst], ?_, ?_⟩
  · refine ⟨_, setRow_heap w g cur _ _ _ hb, by simp [cellsL_len], fun q hq => ?_⟩
    rw [List.getElem?_toArray, cellsL_at hq]
    rfl
  · exact ⟨rfl, rfl, rfl, by simp, fun k hk hr => setRow_other w g k _ (fun e => hr (by rw [e]))⟩
end Go.Proofs.YtcgflfngoaccoaaDoor

/-
  THE CONTRACT of mayBe.
-/
namespace Go.Proofs.YtcgflfngoaccoaaDoor
open Go.RowKit Go.Lib Go.Deep
set_option linter.unusedVariables false
set_option linter.unusedSimpArgs false

theorem Tryd.infoByte : (Tryd.prog.info? 5).map (fun i => (i.zero, i.size, i.bytes)) = some (some (.int .u8 0), 1, 1) := by kernel_rfl
def bcell (k : Nat) (L : List Nat) (i : Nat) : Value := .int .u8 ((if i < k then lg L i else 0 : Nat) : Int)
theorem bcell_set {k : Nat} {L : List Nat} : (fun j => if j = k then Value.int .u8 (lg L k : Int) else bcell k L j) = bcell (k + 1) L := by
  funext j
  unfold bcell
  by_cases h : j = k
  · subst h; simp
  · rw [if_neg h]
    by_cases h2 : j < k
    · rw [if_pos h2, if_pos (by omega)]
    · rw [if_neg h2, if_neg (by omega)]
end Go.Proofs.YtcgflfngoaccoaaDoor

