/-
  LISTS OF LIGHTS of one's own; aspects by letters.
-/
import Derived.Test.YtcgflfngoaccoaaDoorOwn8
import Derived.Test.YtcgflfngoaccoaaDoorTwoS
import Derived.Laws.AppendOwnNone
namespace Go.Proofs.YtcgflfngoaccoaaDoor
open Go.RowKit Go.Lib Go.Deep
set_option linter.unusedVariables false
set_option linter.unusedSimpArgs false

theorem By.keptS {w w' : World} {r : Option Nat} {a : Option Addr} {n : Nat} {L : List Nat} (h : By w a n L) (q : Kept w w' r) (hr : 0 < n → ∀ b, a = some b → some b.block ≠ r) : By w' a n L := by
  obtain ⟨h1, h2, h3, h4⟩ := h
  refine ⟨h1, h2, h3, fun hp => ?_⟩
  obtain ⟨b, off, rfl, hb, hc⟩ := h4 hp
  exact ⟨b, off, rfl, Nat.lt_of_lt_of_le hb q.size, fun i hi => (World.cell?_of_block (w := w) (a := ⟨b, off + i, none⟩) (q.block b hb (hr hp _ rfl))).trans (hc i hi)⟩
/-- A slice of lights: where it lies, its aspects, its room. -/
abbrev Lt := Option Addr × List Nat × Nat
def ltV (x : Lt) (_ : Nat) : Value := .slice x.1 x.2.1.length x.2.2
def lt0 : Lt := (none, [], 0)
theorem Tryd.infoBys : (Tryd.prog.info? 36).map (fun i => (i.zero, i.size, i.bytes)) = some (some (.slice none 0 0), 1, 24) := by kernel_rfl
theorem Tryd.uByss : Tryd.prog.underlying 30 = some (.slice 36) := by kernel_rfl
/-- A list of lights of one's own. -/
structure LtS (w : World) (base : Nat) (v : Value) (l : List Lt) : Prop where
  own : Ow8 36 1 ltV lt0 w base v l
  bys : ∀ x ∈ l, By w x.1 x.2.1.length x.2.1
  ne : ∀ x ∈ l, 0 < x.2.1.length → ∀ b, x.1 = some b → v.ownBlock ≠ some b.block ∧ b.block < w.heap.size
theorem LtS.nil (w : World) (base : Nat) : LtS w base (.slice none 0 0) [] := ⟨Ow8.nil .., fun _ h => (nomatch h), fun _ h => (nomatch h)⟩
theorem LtS.shape {w : World} {base : Nat} {v : Value} {l : List Lt} (h : LtS w base v l) : ∃ a c, v = .slice a l.length c := by
  obtain ⟨a, c, e, _⟩ := h.own.lie (by omega)
  exact ⟨a, c, e⟩
theorem LtS.kept {w w' : World} {base : Nat} {v : Value} {l : List Lt} (h : LtS w base v l) (q : Kept w w' none) : LtS w' base v l :=
  ⟨h.own.keptR q (fun _ e => nomatch e), fun x hx => (h.bys x hx).kept q, fun x hx hp b e => ⟨(h.ne x hx hp b e).1, Nat.lt_of_lt_of_le (h.ne x hx hp b e).2 q.size⟩⟩
/-- As a trace. -/
theorem LtS.trc {w : World} {base : Nat} {v : Value} {l : List Lt} (h : LtS w base v l) (hl : l.length ≤ 1000) : ∃ a c, v = .slice a l.length c ∧ Trc w a l.length (l.map (·.2.1)) := by
  obtain ⟨a, c, e, hL, hc, _⟩ := h.own.lie (by omega)
  refine ⟨a, c, e, by simp, by omega, fun hp => ?_⟩
  obtain ⟨b, off, rfl, hb, hcell⟩ := hL.one hp
  refine ⟨b, off, rfl, hb, fun i hi => ?_⟩
  have h1 := hcell i hi
  have e1 : l.getD i lt0 = l[i] := by simp [hi]
  have e2 : tk (l.map (·.2.1)) i = l[i].2.1 := by unfold tk; simp [hi]
  rw [e1] at h1
  rw [e2]
  exact ⟨l[i].1, l[i].2.2, h1, h.bys _ (List.getElem_mem hi)⟩
theorem cellsL_app {l x : List Lt} : cellsL l.length 1 (fun i j => ltV (l.getD i lt0) j) ++ cellsL x.length 1 (fun i j => ltV (x.getD i lt0) j) = cellsL (l ++ x).length 1 (fun i j => ltV ((l ++ x).getD i lt0) j) := by
  unfold cellsL
  simp only [Nat.mul_one, Nat.div_one, List.length_append]
  rw [List.range_add, List.map_append]
  congr 1
  · refine List.map_congr_left fun q hq => ?_
    have hq' := List.mem_range.1 hq
    simp [hq', List.getElem?_append_left]
  · rw [List.map_map]
    refine List.map_congr_left fun q hq => ?_
    have e : (l ++ x).getD (l.length + q) lt0 = x.getD q lt0 := by rw [List.getD_eq_getElem?_getD, List.getD_eq_getElem?_getD, List.getElem?_append_right (by omega), Nat.add_sub_cancel_left]
    simp only [Function.comp]
    rw [e]
    rfl
/-- More behind. -/
theorem LtS.join {w : World} {base : Nat} {v : Value} {l : List Lt} (h : LtS w base v l) (x : List Lt) {pa : Option Addr} {c m : Nat} (hm : m = x.length) (hL : Lie w pa m 1 (fun i j => ltV (x.getD i lt0) j)) (hC : Cap pa m c) (hB : ∀ y ∈ x, By w y.1 y.2.1.length y.2.1) (hx : ∀ y ∈ x, 0 < y.2.1.length → ∀ b, y.1 = some b → v.ownBlock ≠ some b.block ∧ b.block < w.heap.size) (hn : l.length + x.length ≤ 900) (hb : base ≤ w.heap.size) :
    ∃ a' c' w', (Builtin.append_ #[30, 30] 30 #[v, .slice pa m c]).run Tryd.prog w = .ok (.slice a' (l.length + m) c') w' ∧ LtS w' base (.slice a' (l.length + m) c') (l ++ x) ∧ Kept w w' v.ownBlock := by
  subst hm
  obtain ⟨i, hi, hz, hs, hby⟩ := info_parts Tryd.infoBys
  cases pa with
  | none =>
    obtain ⟨h0, rfl⟩ := hC.nil rfl
    have hx0 : x = [] := List.length_eq_zero_iff.1 h0
    subst hx0
    have hrun := run_append_owned_none (P := Tryd.prog) (w := w) base 30 30 36 i 1 Tryd.uByss hi v l.length _ h.own
    obtain ⟨a, c', e⟩ := h.shape
    subst e
    refine ⟨a, c', w, hrun, ?_, Kept.refl _ _⟩
    rw [List.append_nil]
    exact h
  | some ad =>
    have hnews : ∀ j u, (cellsL x.length 1 (fun i j => ltV (x.getD i lt0) j))[j]? = some u → w.cell? (ad.add j) = some u := by
      by_cases hp : 0 < x.length
      · obtain ⟨b, off, e, _, hcell⟩ := hL.at_ hp
        injection e with e
        subst e
        exact cellsL_news (by omega) hcell
      · intro j u hu
        rw [show x.length = 0 by omega] at hu
        simp [cellsL] at hu
    have hbytes : (l.length + x.length) * 24 ≤ 140737488355328 := by omega
    obtain ⟨v', w', hr, g1, g2, _, g3⟩ := run_append_own_at (P := Tryd.prog) w base 30 30 36 i _ 1 24 Tryd.uByss hi hz hs hby rfl (by omega) v l.length _ h.own ad x.length c _ (by rw [cellsL_len]) hnews (cellsL_one (fun _ _ => rfl)) (by unfold maxLen; omega) hbytes hb
    rw [cellsL_app] at g1
    have hle : l.length + x.length = (l ++ x).length := by simp
    rw [hle] at g1
    obtain ⟨a', c', rfl, _⟩ := lie_own (by omega) g1
    have hk2 : Kept w w' v.ownBlock := g2
    have vfr : ∀ g, (Value.slice a' (l ++ x).length c').ownBlock = some g → v.ownBlock = some g ∨ w.heap.size ≤ g := fun g hg => by
      rcases g3 with e | e
      · exact .inl (e.symm.trans hg)
      · rw [e] at hg; injection hg with hg; exact .inr (by omega)
    have key : ∀ y ∈ l ++ x, 0 < y.2.1.length → ∀ b, y.1 = some b → v.ownBlock ≠ some b.block ∧ b.block < w.heap.size := fun y hy => by
      rcases List.mem_append.1 hy with hy | hy
      · exact h.ne y hy
      · exact hx y hy
    rw [hle]
    refine ⟨a', c', w', hr, ⟨g1, fun y hy => ?_, fun y hy hp b e => ?_⟩, hk2⟩
    · have hBy : By w y.1 y.2.1.length y.2.1 := by
        rcases List.mem_append.1 hy with hy | hy
        · exact h.bys y hy
        · exact hB y hy
      exact hBy.keptS hk2 (fun hp b e ec => (key y hy hp b e).1 ec.symm)
    · have hs5 := hk2.size
      have := key y hy hp b e
      exact ⟨fun ec => by rcases vfr _ ec with q | q; exact this.1 q; omega, by omega⟩
/-- One more behind. -/
theorem LtS.grow {w : World} {base : Nat} {v : Value} {l : List Lt} (h : LtS w base v l) (x : Lt) (hB : By w x.1 x.2.1.length x.2.1) (hx : ∀ b, x.1 = some b → v.ownBlock ≠ some b.block ∧ b.block < w.heap.size) (hn : l.length ≤ 800) (hb : base ≤ w.heap.size) :
    ∃ a' c' w', (Builtin.append_ #[30, 30] 30 #[v, .slice (some ⟨w.heap.size, 0, none⟩) 1 1]).run Tryd.prog (w.alloc (.cells #[.slice x.1 x.2.1.length x.2.2] 36)) = .ok (.slice a' (l.length + 1) c') w' ∧ LtS w' base (.slice a' (l.length + 1) c') (l ++ [x]) ∧ Kept w w' v.ownBlock := by
  have hk : Kept w (w.alloc (.cells #[.slice x.1 x.2.1.length x.2.2] 36)) none := Kept.alloc _ _ _ _ _
  have hlie : Lie (w.alloc (.cells #[.slice x.1 x.2.1.length x.2.2] 36)) (some ⟨w.heap.size, 0, none⟩) 1 1 (fun i j => ltV ([x].getD i lt0) j) := ⟨fun _ => ⟨w.heap.size, 0, rfl, by simp, fun i hi j hj => by
    obtain rfl : i = 0 := by omega
    obtain rfl : j = 0 := by omega
    exact alloc_at8 _ _ _ rfl rfl⟩⟩
  obtain ⟨a', c', w', hr, h1, h2⟩ := (h.kept hk).join [x] (c := 1) (m := 1) rfl hlie ⟨fun e => (nomatch e), Nat.le_refl _, by omega⟩ (fun y hy => by
    obtain rfl : y = x := by simpa using hy
    exact hB.kept hk) (fun y hy hp b e => by
    obtain rfl : y = x := by simpa using hy
    have := hx b e
    exact ⟨this.1, by have := hk.size; omega⟩) (by simp; omega) (by have := hk.size; omega)
  exact ⟨a', c', w', hr, h1, ⟨h2.os.trans hk.os, h2.tape.trans hk.tape, h2.output.trans hk.output, Nat.le_trans hk.size h2.size, fun i hi hne => (h2.block i (Nat.lt_of_lt_of_le hi hk.size) hne).trans (hk.block i hi (by simp))⟩⟩
/-- A trace that came in, as a list of lights. -/
theorem Trc.list {w : World} {pa : Option Addr} {n : Nat} {T : List (List Nat)} (h : Trc w pa n T) : ∃ l : List Lt, l.length = n ∧ l.map (·.2.1) = T ∧ Lie w pa n 1 (fun i j => ltV (l.getD i lt0) j) ∧ ∀ y ∈ l, By w y.1 y.2.1.length y.2.1 := by
  have each : ∀ i, ∃ y : Lt, i < n → y.2.1 = tk T i ∧ By w y.1 y.2.1.length y.2.1 ∧ ∀ b off, pa = some ⟨b, off, none⟩ → w.cell? ⟨b, off + i, none⟩ = some (ltV y 0) := by
    intro i
    by_cases hi : i < n
    · obtain ⟨b, off, rfl, hb, hc⟩ := h.at_ (by omega)
      obtain ⟨a, c, h1, h2⟩ := hc i hi
      exact ⟨(a, tk T i, c), fun _ => ⟨rfl, h2, fun b' off' e => by injection e with e; injection e with e1 e2; subst e1 e2; exact h1⟩⟩
    · exact ⟨lt0, fun hh => absurd hh hi⟩
  obtain ⟨f, hf⟩ : ∃ f : Nat → Lt, ∀ i, i < n → (f i).2.1 = tk T i ∧ By w (f i).1 (f i).2.1.length (f i).2.1 ∧ ∀ b off, pa = some ⟨b, off, none⟩ → w.cell? ⟨b, off + i, none⟩ = some (ltV (f i) 0) := ⟨fun i => Classical.choose (each i), fun i => Classical.choose_spec (each i)⟩
  refine ⟨(List.range n).map f, by simp, ?_, ⟨fun hp => ?_⟩, fun y hy => ?_⟩
  · rw [List.map_map]
    refine List.ext_getElem (by simp [h.size]) (fun i h1 h2 => ?_)
    have hi : i < n := by simpa using h1
    have := (hf i hi).1
    simp only [List.getElem_map, List.getElem_range, Function.comp]
    rw [this]
    unfold tk
    simp [h2]
  · obtain ⟨b, off, rfl, hb, _⟩ := h.at_ hp
    refine ⟨b, off, rfl, hb, fun i hi j hj => ?_⟩
    obtain rfl : j = 0 := by omega
    have := (hf i hi).2.2 b off rfl
    simp only [Nat.mul_one, Nat.add_zero]
    rw [this]
    simp [hi]
  · simp only [List.mem_map, List.mem_range] at hy
    obtain ⟨i, hi, rfl⟩ := hy
    exact (hf i hi).2.1

/-! ### Letters -/
def aspN (c : Nat) : Nat := if c = 82 then 1 else if c = 71 then 2 else if c = 89 then 3 else if c = 70 then 4 else 0
theorem aspN_lt (c : Nat) : aspN c < 256 := by
  unfold aspN
  split
  · omega
  · split
    · omega
    · split
      · omega
      · split <;> omega
theorem asp_any (x : Nat) (w : World) : Calls Tryd.prog 23 #[.int .u8 (x : Int)] w fun e w' => e = .returned (.int .u8 ((aspN x : Nat) : Int)) ∧ w' = w := by
  unfold aspN
  by_cases h1 : x = 82
  · subst h1
    go_enter Tryd.func23, Tryd.ntmps23
    go_wp2
    go_ret
    exact ⟨rfl, rfl⟩
  · have b1 : ((x : Int) == 82) = false := by simp; omega
    rw [if_neg h1]
    by_cases h2 : x = 71
    · subst h2
      go_enter Tryd.func23, Tryd.ntmps23
      go_wp2
      go_ret
      exact ⟨rfl, rfl⟩
    · have b2 : ((x : Int) == 71) = false := by simp; omega
      rw [if_neg h2]
      by_cases h3 : x = 89
      · subst h3
        go_enter Tryd.func23, Tryd.ntmps23
        go_wp2
        go_ret
        exact ⟨rfl, rfl⟩
      · have b3 : ((x : Int) == 89) = false := by simp; omega
        rw [if_neg h3]
        by_cases h4 : x = 70
        · subst h4
          go_enter Tryd.func23, Tryd.ntmps23
          go_wp2
          go_ret
          exact ⟨rfl, rfl⟩
        · have b4 : ((x : Int) == 70) = false := by simp; omega
          rw [if_neg h4]
          go_enter Tryd.func23, Tryd.ntmps23
          go_wp2
          go_ret
          exact ⟨rfl, rfl⟩

end Go.Proofs.YtcgflfngoaccoaaDoor
