/-
  LISTS OF LIGHTS of one's own; aspects by letters.
-/
import Derived.Test.YtpnmlgillphodaaDoorOwn8
import Derived.Test.YtpnmlgillphodaaDoorTwoS
namespace Go.Proofs.YtpnmlgillphodaaDoor
open Go.RowKit Go.Lib Go.Deep
set_option linter.unusedVariables false
set_option linter.unusedSimpArgs false

theorem By.keptS {w w' : World} {r : Option Nat} {a : Option Addr} {n : Nat} {L : List Nat} (h : By w a n L) (q : Kept w w' r) (hr : ∀ b, a = some b → some b.block ≠ r) : By w' a n L := by
  obtain ⟨h1, h2, h3, h4⟩ := h
  refine ⟨h1, h2, h3, fun hp => ?_⟩
  obtain ⟨b, off, rfl, hb, hc⟩ := h4 hp
  exact ⟨b, off, rfl, Nat.lt_of_lt_of_le hb q.size, fun i hi => (World.cell?_of_block (w := w) (a := ⟨b, off + i, none⟩) (q.block b hb (hr _ rfl))).trans (hc i hi)⟩
/-- A slice of lights: where it lies, its aspects, its room. -/
abbrev Lt := Option Addr × List Nat × Nat
def ltV (x : Lt) (_ : Nat) : Value := .slice x.1 x.2.1.length x.2.2
def lt0 : Lt := (none, [], 0)
theorem Tryd.infoBys : (Tryd.prog.info? 35).map (fun i => (i.zero, i.size, i.bytes)) = some (some (.slice none 0 0), 1, 24) := by kernel_rfl
theorem Tryd.uByss : Tryd.prog.underlying 36 = some (.slice 35) := by kernel_rfl
/-- A list of lights of one's own. -/
structure LtS (w : World) (base : Nat) (v : Value) (l : List Lt) : Prop where
  own : Ow8 35 1 ltV lt0 w base v l
  bys : ∀ x ∈ l, By w x.1 x.2.1.length x.2.1
  ne : ∀ x ∈ l, ∀ b, x.1 = some b → v.ownBlock ≠ some b.block ∧ b.block < w.heap.size
theorem LtS.nil (w : World) (base : Nat) : LtS w base (.slice none 0 0) [] := ⟨Ow8.nil .., fun _ h => (nomatch h), fun _ h => (nomatch h)⟩
theorem LtS.shape {w : World} {base : Nat} {v : Value} {l : List Lt} (h : LtS w base v l) : ∃ a c, v = .slice a l.length c := by
  obtain ⟨a, c, e, _⟩ := h.own.lie (by omega)
  exact ⟨a, c, e⟩
theorem LtS.kept {w w' : World} {base : Nat} {v : Value} {l : List Lt} (h : LtS w base v l) (q : Kept w w' none) : LtS w' base v l :=
  ⟨h.own.keptR q (fun _ e => nomatch e), fun x hx => (h.bys x hx).kept q, fun x hx b e => ⟨(h.ne x hx b e).1, Nat.lt_of_lt_of_le (h.ne x hx b e).2 q.size⟩⟩
/-- As a trace. -/
theorem LtS.trc {w : World} {base : Nat} {v : Value} {l : List Lt} (h : LtS w base v l) (hl : l.length ≤ 1000) : ∃ a c, v = .slice a l.length c ∧ Trc w a l.length (l.map (·.2.1)) := by
  obtain ⟨a, c, e, hL, hc, _⟩ := h.own.lie (by omega)
  refine ⟨a, c, e, by simp, by omega, fun hp => ?_⟩
  obtain ⟨b, off, rfl, hb, hcell⟩ := hL.one hp
  refine ⟨b, off, rfl, hb, fun i hi => ?_⟩
  have h1 := hcell i hi
  have e1 : l.getD i lt0 = l[i] := by simp [hi]
  have e2 : tk (l.map (·.2.1)) i = l[i].2.1 := by unfold tk; simp [hi]
  rw [e1] at h1
  rw [e2]
  exact ⟨l[i].1, l[i].2.2, h1, h.bys _ (List.getElem_mem hi)⟩
/-- One more behind. -/
theorem LtS.grow {w : World} {base : Nat} {v : Value} {l : List Lt} (h : LtS w base v l) (x : Lt) (hB : By w x.1 x.2.1.length x.2.1) (hx : ∀ b, x.1 = some b → v.ownBlock ≠ some b.block ∧ b.block < w.heap.size) (hn : l.length ≤ 900) (hb : base ≤ w.heap.size) :
    ∃ a' c' w', (Builtin.append_ #[36, 36] 36 #[v, .slice (some ⟨w.heap.size, 0, none⟩) 1 1]).run Tryd.prog (w.alloc (.cells #[.slice x.1 x.2.1.length x.2.2] 35)) = .ok (.slice a' (l.length + 1) c') w' ∧ LtS w' base (.slice a' (l.length + 1) c') (l ++ [x]) ∧ Kept w w' v.ownBlock := by
  obtain ⟨i, hi, hz, hs, hby⟩ := info_parts Tryd.infoBys
  have hk : Kept w (w.alloc (.cells #[.slice x.1 x.2.1.length x.2.2] 35)) none := Kept.alloc _ _ _ _ _
  have hz4 : (w.alloc (.cells #[.slice x.1 x.2.1.length x.2.2] 35)).heap.size = w.heap.size + 1 := by simp
  have hc : ∀ j, j < 1 → (w.alloc (.cells #[.slice x.1 x.2.1.length x.2.2] 35)).cell? ⟨w.heap.size, 0 + j, none⟩ = some (ltV x j) := fun j hj => by
    obtain rfl : j = 0 := by omega
    exact alloc_at8 _ _ _ rfl rfl
  have own4 : (w.alloc (.cells #[.slice x.1 x.2.1.length x.2.2] 35)).ownsRow base 35 1 v l.length (cellsL l.length 1 (fun i j => ltV (l.getD i lt0) j)) := own_kept8 h.own hk (fun g _ => by simp)
  obtain ⟨v', w', hr, g1, g2, g3⟩ := grow_run8 (t := 36) (ty := 36) (c := 1) Tryd.uByss hi hz hs hby rfl (by omega) (by omega) (g := fun j => ltV x j) own4 hc (fun j => rfl) (by omega) (by omega)
  obtain ⟨a', c', rfl, _⟩ := lie_own (by omega) g1
  have h2 : Kept (w.alloc (.cells #[.slice x.1 x.2.1.length x.2.2] 35)) w' v.ownBlock := g2
  have hk2 : Kept w w' v.ownBlock := ⟨h2.os.trans hk.os, h2.tape.trans hk.tape, h2.output.trans hk.output, Nat.le_trans hk.size h2.size, fun i hi hne => (h2.block i (Nat.lt_of_lt_of_le hi hk.size) hne).trans (hk.block i hi (by simp))⟩
  have vfr : ∀ g, (Value.slice a' (l.length + 1) c').ownBlock = some g → v.ownBlock = some g ∨ w.heap.size ≤ g := fun g hg => by
    rcases g3 with e | e
    · exact .inl (e.symm.trans hg)
    · rw [e] at hg; injection hg with hg; exact .inr (by omega)
  refine ⟨a', c', w', hr, ⟨?_, fun y hy => ?_, fun y hy b e => ?_⟩, hk2⟩
  · unfold Ow8
    rw [List.length_append]
    have he : cellsL (l.length + 1) 1 (fun i j => if i = l.length then ltV x j else ltV (l.getD i lt0) j) = cellsL (l.length + [x].length) 1 (fun i j => ltV ((l ++ [x]).getD i lt0) j) := by
      show cellsL (l.length + 1) 1 _ = cellsL (l.length + 1) 1 _
      unfold cellsL
      refine List.map_congr_left fun q _ => ?_
      show (if q / 1 = l.length then ltV x (q % 1) else ltV (l.getD (q / 1) lt0) (q % 1)) = ltV ((l ++ [x]).getD (q / 1) lt0) (q % 1)
      rw [getD_snoc8]
      split <;> rfl
    rw [← he]
    exact g1
  · rcases List.mem_append.1 hy with hy | hy
    · exact (h.bys y hy).keptS hk2 (fun b e ec => (h.ne y hy b e).1 ec.symm)
    · obtain rfl : y = x := by simpa using hy
      exact hB.keptS hk2 (fun b e ec => (hx b e).1 ec.symm)
  · have hs5 := hk2.size
    have key : v.ownBlock ≠ some b.block ∧ b.block < w.heap.size := by
      rcases List.mem_append.1 hy with hy | hy
      · exact h.ne y hy b e
      · obtain rfl : y = x := by simpa using hy
        exact hx b e
    exact ⟨fun ec => by rcases vfr _ ec with q | q; exact key.1 q; omega, by omega⟩

/-! ### Letters -/
def aspN (c : Nat) : Nat := if c = 82 then 1 else if c = 71 then 2 else if c = 89 then 3 else if c = 70 then 4 else 0
theorem aspN_lt (c : Nat) : aspN c < 256 := by
  unfold aspN
  split
  · omega
  · split
    · omega
    · split
      · omega
      · split <;> omega
theorem asp_any (x : Nat) (w : World) : Calls Tryd.prog 37 #[.int .u8 (x : Int)] w fun e w' => e = .returned (.int .u8 ((aspN x : Nat) : Int)) ∧ w' = w := by
  unfold aspN
  by_cases h1 : x = 82
  · subst h1
    go_enter Tryd.func37, Tryd.ntmps37
    go_wp2
    go_ret
    exact ⟨rfl, rfl⟩
  · have b1 : ((x : Int) == 82) = false := by simp; omega
    rw [if_neg h1]
    by_cases h2 : x = 71
    · subst h2
      go_enter Tryd.func37, Tryd.ntmps37
      go_wp2
      go_ret
      exact ⟨rfl, rfl⟩
    · have b2 : ((x : Int) == 71) = false := by simp; omega
      rw [if_neg h2]
      by_cases h3 : x = 89
      · subst h3
        go_enter Tryd.func37, Tryd.ntmps37
        go_wp2
        go_ret
        exact ⟨rfl, rfl⟩
      · have b3 : ((x : Int) == 89) = false := by simp; omega
        rw [if_neg h3]
        by_cases h4 : x = 70
        · subst h4
          go_enter Tryd.func37, Tryd.ntmps37
          go_wp2
          go_ret
          exact ⟨rfl, rfl⟩
        · have b4 : ((x : Int) == 70) = false := by simp; omega
          rw [if_neg h4]
          go_enter Tryd.func37, Tryd.ntmps37
          go_wp2
          go_ret
          exact ⟨rfl, rfl⟩

end Go.Proofs.YtpnmlgillphodaaDoor
