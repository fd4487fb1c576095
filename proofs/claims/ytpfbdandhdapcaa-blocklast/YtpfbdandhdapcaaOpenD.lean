/-
  WHAT CAME IN: devices, lists of writes, bytes, as the walks want them.
-/
import Derived.Test.YtpfbdandhdapcaaBlkB
import Derived.Test.YtpfbdandhdapcaaRows
import Derived.Deep.Grids
import Derived.Deep.Strs
import Derived.OpenShut
import Derived.ShutString
namespace Go.Proofs.Ytpfbdandhdapcaa
open Go.ChangeShapes Go.WideShapes Go.ChangeAt Go.RowKit Go.Lib Go.Deep
set_option linter.unusedVariables false
set_option linter.unusedSimpArgs false

section
variable {H : Type} {enc : TypeId × Value → H}
abbrev Trd (enc : TypeId × Value → H) (W : World) (n : Nat) (t : TypeId) (cs : List Value) (x : DataW H × List MemPlace) : Prop := DataW.trod enc Try.prog W 0 (fun _ => true) true n t cs = some x
theorem trd_flds {W : World} {fuel : Nat} {t : TypeId} {fs : Array Field} {cs : List Value} {x : DataW H × List MemPlace} (ht : Try.prog.underlying t = some (.struct fs)) (h : Trd enc W fuel t cs x) : ∃ n, cs.length = Try.prog.cellsOf t ∧ ∀ (i : Nat) (f : Field), fs[i]? = some f → ∃ y, Trd enc W n f.type ((cs.drop f.offset).take (Try.prog.cellsOf f.type)) y := by
  obtain ⟨xs, n, _, _, hl, hlen, hf⟩ := DataW.trod_struct ht h
  refine ⟨n, hl, fun i f hi => ?_⟩
  have hi' : i < fs.size := (Array.getElem?_eq_some_iff.1 hi).1
  exact ⟨xs[i]'(by omega), (hf i f hi).trans (List.getElem?_eq_getElem (by omega))⟩
theorem trd_int {W : World} {n : Nat} {t : TypeId} {k : IntKind} {cs : List Value} {x : DataW H × List MemPlace} (ht : Try.prog.underlying t = some (.int k)) (h : Trd enc W n t cs x) : ∃ z, cs = [.int k z] ∧ (Lit.int k z).wf = true := by
  obtain ⟨z, e, _, hw⟩ := DataW.trod_int ht h
  exact ⟨z, e, hw⟩
theorem addr_pl {w : World} {a : Addr} {v : Value} (h : w.cell? a = some v) : ∃ b off, a = ⟨b, off, none⟩ := by
  obtain ⟨b, off, s⟩ := a
  cases s with
  | none => exact ⟨b, off, rfl⟩
  | some x =>
    simp [World.cell?] at h
    split at h <;> simp at h
theorem trd_come {W : World} {fuel : Nat} {c : Value} {x : DataW H × List MemPlace} (h : Trd enc W fuel 22 [c] x) : ∃ a len cap L, c = .slice a len cap ∧ L.length = len ∧ Come W a len cap L := by
  rcases open_ints Try.underlying22 Try.underlying5 (by kernel_rfl) h with ⟨hcs, _⟩ | ⟨x, l, c', zs, hcs, _, hl, hm, hz, _, hcell, hwz⟩
  · have e : c = .slice none 0 0 := by simpa using hcs
    exact ⟨none, 0, 0, [], e, rfl, By.nil _ _, fun _ => rfl, Nat.le_refl _, by omega⟩
  · have e : c = .slice (some x) l c' := by simpa using hcs
    have hC := come_of (w := W) (a := some x) (len := l) (cap := c') (zs := zs) (.inr ⟨x, rfl, hl, hm, by simpa using hz, hcell, hwz⟩)
    exact ⟨some x, l, c', _, e, hC.by_.size, hC⟩
theorem open_bts {W : World} {a : Option Addr} {len cap : Nat} {d : DataW H} {p : List MemPlace} (h : DataW.Trod enc Try.prog W 0 (fun _ => true) true 22 (.slice a len cap) d p) : ∃ L, Come W a len cap L := by
  obtain ⟨fuel, hf⟩ := h
  simp [Value.cells] at hf
  obtain ⟨a', len', cap', L, e, hl, hC⟩ := trd_come hf
  injection e with e1 e2 e3
  subst e1 e2 e3
  exact ⟨L, hC⟩
theorem open_dev {W : World} {base : Nat} {v : Value} {d : DataW H} {p : List MemPlace} (hv : Value.okWide Try.prog W .any base 24 v) (h : DataW.Trod enc Try.prog W 0 (fun _ => true) true 24 v d p) : ∃ a n c L, v = .agg #[.slice a n c] ∧ Come W a n c L := by
  have hC : Try.prog.cellsOf 24 = 1 := by kernel_rfl
  obtain ⟨cs, rfl, hsz⟩ := okWide_struct Try.underlying24 hv
  rw [hC] at hsz
  obtain ⟨l⟩ := cs
  match l, hsz with
  | [c0], _ =>
    obtain ⟨fuel, hf⟩ := h
    simp [Value.cells] at hf
    obtain ⟨n, _, hall⟩ := trd_flds Try.underlying24 hf
    have g0 : ∃ y, Trd enc W n 22 (([c0].drop 0).take (Try.prog.cellsOf 22)) y := hall 0 _ rfl
    obtain ⟨y0, h0⟩ := g0
    rw [show Try.prog.cellsOf 22 = 1 by kernel_rfl] at h0
    obtain ⟨a, len, cap, L, e, hl, hC⟩ := trd_come h0
    have e' : c0 = .slice a len cap := e
    subst e'
    exact ⟨a, len, cap, L, rfl, hC⟩
theorem trd_put {W : World} {fuel : Nat} {c0 c1 : Value} {x : DataW H × List MemPlace} (h : Trd enc W fuel 36 [c0, c1] x) : ∃ (p : Pw) (a : Option Addr) (cap : Nat), c0 = .int .i64 p.n ∧ c1 = .slice a p.data.length cap ∧ Come W a p.data.length cap p.data := by
  obtain ⟨n, _, hall⟩ := trd_flds Try.underlying36 h
  have g0 : ∃ y, Trd enc W n 3 (([c0, c1].drop 0).take (Try.prog.cellsOf 3)) y := hall 0 _ rfl
  have g1 : ∃ y, Trd enc W n 22 (([c0, c1].drop 1).take (Try.prog.cellsOf 22)) y := hall 1 _ rfl
  obtain ⟨y0, h0⟩ := g0
  obtain ⟨y1, h1⟩ := g1
  rw [show Try.prog.cellsOf 3 = 1 by kernel_rfl] at h0
  rw [show Try.prog.cellsOf 22 = 1 by kernel_rfl] at h1
  obtain ⟨z, e0, _⟩ := trd_int Try.underlying3 h0
  obtain ⟨a, len, cap, L, e1, hl, hC⟩ := trd_come h1
  have e0' : c0 = .int .i64 z := by simpa using e0
  have e1' : c1 = .slice a len cap := e1
  subst hl
  exact ⟨⟨z, L⟩, a, cap, e0', e1', hC⟩
theorem open_puts {W : World} {a : Option Addr} {len cap : Nat} {d : DataW H} {p : List MemPlace} (h : DataW.Trod enc Try.prog W 0 (fun _ => true) true 37 (.slice a len cap) d p) :
    ∃ l : List Pw, Plw W a len l ∧ (a = none → cap = 0) ∧ len ≤ cap ∧ cap ≤ 9223372036854775807 ∧ (0 < cap → ∃ b off, a = some ⟨b, off, none⟩) := by
  obtain ⟨fuel, hf⟩ := h
  simp [Value.cells] at hf
  have hC : Try.prog.cellsOf 36 = 2 := by kernel_rfl
  rcases open_slice Try.underlying37 hf with ⟨hcs, _⟩ | ⟨a', len', cap', m, n, D, Pl, hcs, _, hl, hm, hmm, _, hx⟩
  · simp at hcs
    obtain ⟨rfl, rfl, rfl⟩ := hcs
    exact ⟨[], ⟨rfl, by omega, fun h => by omega⟩, fun _ => rfl, Nat.le_refl _, by omega, fun h => absurd h (by omega)⟩
  · simp at hcs
    obtain ⟨rfl, rfl, rfl⟩ := hcs
    rw [hC] at hx
    simp at hmm
    subst hmm
    unfold maxLen at hm
    have hpl : 0 < m → ∃ b off, some a' = some ⟨b, off, none⟩ := fun h0 => by
      obtain ⟨cs', h1, h2⟩ := hx 0 h0
      obtain ⟨_, hlen, hcell⟩ := World.cells?_some h1
      match cs', hlen with
      | [c0, c1], _ =>
        have q0 := hcell 0 (by omega)
        rw [show (a'.add (0 * 2)).add 0 = a' from rfl] at q0
        obtain ⟨b, off, rfl⟩ := addr_pl q0
        exact ⟨b, off, rfl⟩
    have each : ∀ i, ∃ mm : Pw, i < len → ∃ a c, W.cell? (a'.add (i * 2)) = some (.int .i64 mm.n) ∧ W.cell? (a'.add (i * 2 + 1)) = some (.slice a mm.data.length c) ∧ Come W a mm.data.length c mm.data := by
      intro i
      by_cases hi : i < len
      · obtain ⟨cs', h1, h2⟩ := hx i (by omega)
        obtain ⟨_, hlen, hcell⟩ := World.cells?_some h1
        match cs', hlen with
        | [c0, c1], _ =>
          obtain ⟨mm, a, c, rfl, rfl, k1⟩ := trd_put h2
          have add2 : ∀ j, (a'.add (i * 2)).add j = a'.add (i * 2 + j) := fun j => by
            unfold Addr.add
            by_cases h3 : i * 2 = 0
            · simp [h3]
            · by_cases hj : j = 0
              · simp [hj, h3]
              · simp [h3, hj, Nat.add_assoc]
          have q0 := hcell 0 (by omega)
          have q1 := hcell 1 (by omega)
          rw [add2] at q0 q1
          exact ⟨mm, fun _ => ⟨a, c, by simpa using q0, by simpa using q1, k1⟩⟩
      · exact ⟨⟨0, []⟩, fun h => absurd h hi⟩
    have hc := fun i => Classical.choose_spec (each i)
    generalize hf2 : (fun i => Classical.choose (each i)) = f at *
    have hc' : ∀ i, i < len → ∃ a c, W.cell? (a'.add (i * 2)) = some (.int .i64 (f i).n) ∧ W.cell? (a'.add (i * 2 + 1)) = some (.slice a (f i).data.length c) ∧ Come W a (f i).data.length c (f i).data := by
      intro i hi
      rw [← hf2]
      exact hc i hi
    refine ⟨(List.range len).map f, ⟨by simp, by omega, fun hp => ?_⟩, fun e => (nomatch e), hl, by omega, hpl⟩
    obtain ⟨_, _, q0, _⟩ := hc' 0 hp
    rw [show a'.add (0 * 2) = a' from rfl] at q0
    obtain ⟨b, off, rfl⟩ := addr_pl q0
    refine ⟨b, off, rfl, block_lt q0, fun i m hm => ?_⟩
    have hi : i < len := by
      have := (List.getElem?_eq_some_iff.1 hm).1
      simpa using this
    have e : f i = m := by
      rw [List.getElem?_map, List.getElem?_range hi] at hm
      simpa using hm
    subst e
    obtain ⟨a, c, r0, r1, r3⟩ := hc' i hi
    rw [Addr.add_lit] at r0 r1
    exact ⟨a, c, r0, r1, r3⟩
end

end Go.Proofs.Ytpfbdandhdapcaa
