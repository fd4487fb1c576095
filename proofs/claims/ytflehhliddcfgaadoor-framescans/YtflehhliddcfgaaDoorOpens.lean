/-
  WHAT CAME IN: a message, messages, pieces, as the walks want them.
-/
import Derived.Test.YtflehhliddcfgaaDoorScan
import Derived.Deep.Matrix
import Derived.Deep.Strs
import Derived.OpenShut
import Derived.ShutString
namespace Go.Proofs.YtflehhliddcfgaaDoor
open Go.ChangeShapes Go.WideShapes Go.ChangeAt Go.RowKit Go.Lib Go.Deep
set_option linter.unusedVariables false
set_option linter.unusedSimpArgs false

/-- Lists of bytes that lie somewhere. -/
structure Ps (w : World) (pa : Option Addr) (n : Nat) (Ls : List (List Nat)) : Prop where
  size : Ls.length = n
  max : n ≤ 9223372036854775807
  at_ : 0 < n → ∃ b off, pa = some ⟨b, off, none⟩ ∧ b < w.heap.size ∧ ∀ i L, Ls[i]? = some L → ∃ a c, w.cell? ⟨b, off + i, none⟩ = some (.slice a L.length c) ∧ Come w a L.length c L
theorem Ps.kept {w w' : World} {la : Option Addr} {n : Nat} {l : List (List Nat)} (h : Ps w la n l) (k : Kept w w' none) : Ps w' la n l := by
  refine ⟨h.size, h.max, fun hp => ?_⟩
  obtain ⟨b, off, rfl, hb, hc⟩ := h.at_ hp
  refine ⟨b, off, rfl, Nat.lt_of_lt_of_le hb k.size, fun i m hm => ?_⟩
  obtain ⟨a, c, h1, h4⟩ := hc i m hm
  exact ⟨a, c, (cell_kept k hb).trans h1, h4.kept k⟩

theorem nat_u8 {z : Int} (h : (Lit.int .u8 z).wf = true) : ∃ n : Nat, z = (n : Int) ∧ n < 256 := by
  have := bounds_u8 h
  exact ⟨z.toNat, by omega, by omega⟩
theorem nat_u32 {z : Int} (h : (Lit.int .u32 z).wf = true) : ∃ n : Nat, z = (n : Int) ∧ n < 4294967296 := by
  have := bounds_u32 h
  exact ⟨z.toNat, by omega, by omega⟩
theorem addr_plain {w : World} {a : Addr} {v : Value} (h : w.cell? a = some v) : ∃ b off, a = ⟨b, off, none⟩ := by
  obtain ⟨b, off, s⟩ := a
  cases s with
  | none => exact ⟨b, off, rfl⟩
  | some x =>
    simp [World.cell?] at h
    split at h <;> simp at h
section
variable {H : Type} {enc : TypeId × Value → H}
theorem come_trod {W : World} {fuel : Nat} {c : Value} {x : DataW H × List MemPlace} (h : DataW.trod enc Tryd.prog W 0 (fun _ => true) true fuel 22 [c] = some x) : ∃ a len cap L, c = .slice a len cap ∧ L.length = len ∧ Come W a len cap L := by
  rcases open_ints Tryd.underlying22 Tryd.underlying5 (by kernel_rfl) h with ⟨hcs, _⟩ | ⟨x, l, c', zs, hcs, _, hl, hm, hz, _, hcell, hwz⟩
  · have e : c = .slice none 0 0 := by simpa using hcs
    exact ⟨none, 0, 0, [], e, rfl, By.nil _ _, fun _ => rfl, Nat.le_refl _, by omega⟩
  · have e : c = .slice (some x) l c' := by simpa using hcs
    have hC := come_of (w := W) (a := some x) (len := l) (cap := c') (zs := zs) (.inr ⟨x, rfl, hl, hm, by simpa using hz, hcell, hwz⟩)
    exact ⟨some x, l, c', _, e, hC.by_.size, hC⟩
theorem cells_msg {W : World} {fuel : Nat} {c0 c1 c2 : Value} {x : DataW H × List MemPlace} (h : DataW.trod enc Tryd.prog W 0 (fun _ => true) true fuel 30 [c0, c1, c2] = some x) :
    ∃ (m : Msg) (a : Option Addr) (cap : Nat), c0 = .int .u8 (m.1 : Int) ∧ c1 = .int .u32 (m.2.1 : Int) ∧ c2 = .slice a m.2.2.length cap ∧ Come W a m.2.2.length cap m.2.2 ∧ Mok m := by
  obtain ⟨y0, y1, y2, n, _, _, h0, h1, h2⟩ := trod_struct3 Tryd.underlying30 h
  have k5 : Tryd.prog.cellsOf 5 = 1 := by kernel_rfl
  have k32 : Tryd.prog.cellsOf 28 = 1 := by kernel_rfl
  have kB : Tryd.prog.cellsOf 22 = 1 := by kernel_rfl
  simp [k5] at h0
  simp [k32] at h1
  simp [kB] at h2
  obtain ⟨z0, e0, _, w0⟩ := DataW.trod_int Tryd.underlying5 h0
  obtain ⟨z1, e1, _, w1⟩ := DataW.trod_int Tryd.underlying28 h1
  obtain ⟨a, len, cap, L, e2, hl, hC⟩ := come_trod h2
  obtain ⟨n0, rfl, b0⟩ := nat_u8 w0
  obtain ⟨n1, rfl, b1⟩ := nat_u32 w1
  subst hl
  exact ⟨(n0, n1, L), a, cap, by simpa using e0, by simpa using e1, e2, hC, b0, b1, hC.by_.lt⟩
theorem open_msg {W : World} {base : Nat} {v : Value} {d : DataW H} {p : List MemPlace} (hv : Value.okWide Tryd.prog W .any base 30 v) (h : DataW.Trod enc Tryd.prog W 0 (fun _ => true) true 30 v d p) :
    ∃ (m : Msg) (a : Option Addr) (cap : Nat), v = msgV m a m.2.2.length cap ∧ Come W a m.2.2.length cap m.2.2 ∧ Mok m := by
  obtain ⟨cs, rfl, hsz⟩ := okWide_struct Tryd.underlying30 hv
  have hC : Tryd.prog.cellsOf 30 = 3 := by kernel_rfl
  rw [hC] at hsz
  obtain ⟨l⟩ := cs
  match l, hsz with
  | [c0, c1, c2], _ =>
    obtain ⟨fuel, hf⟩ := h
    simp [Value.cells] at hf
    obtain ⟨m, a, cap, rfl, rfl, rfl, h1, h2⟩ := cells_msg hf
    exact ⟨m, a, cap, rfl, h1, h2⟩
theorem open_msgs {W : World} {a : Option Addr} {len cap : Nat} {d : DataW H} {p : List MemPlace} (h : DataW.Trod enc Tryd.prog W 0 (fun _ => true) true 31 (.slice a len cap) d p) :
    ∃ l : List Msg, Ms W a len l ∧ (∀ m ∈ l, Mok m) ∧ (a = none → cap = 0) := by
  obtain ⟨fuel, hf⟩ := h
  simp [Value.cells] at hf
  have hC : Tryd.prog.cellsOf 30 = 3 := by kernel_rfl
  rcases open_slice Tryd.underlying31 hf with ⟨hcs, _⟩ | ⟨a', len', cap', m, n, D, Pl, hcs, _, hl, hm, hmm, _, hx⟩
  · simp at hcs
    obtain ⟨rfl, rfl, rfl⟩ := hcs
    exact ⟨[], ⟨rfl, by omega, fun h => by omega⟩, by simp, fun _ => rfl⟩
  · simp at hcs
    obtain ⟨rfl, rfl, rfl⟩ := hcs
    rw [hC] at hx
    simp at hmm
    subst hmm
    unfold maxLen at hm
    have each : ∀ i, ∃ mm : Msg, i < len → ∃ a c, W.cell? (a'.add (i * 3)) = some (.int .u8 (mm.1 : Int)) ∧ W.cell? (a'.add (i * 3 + 1)) = some (.int .u32 (mm.2.1 : Int)) ∧ W.cell? (a'.add (i * 3 + 2)) = some (.slice a mm.2.2.length c) ∧ Come W a mm.2.2.length c mm.2.2 ∧ Mok mm := by
      intro i
      by_cases hi : i < len
      · obtain ⟨cs', h1, h2⟩ := hx i (by omega)
        obtain ⟨_, hlen, hcell⟩ := World.cells?_some h1
        match cs', hlen with
        | [c0, c1, c2], _ =>
          obtain ⟨mm, a, c, rfl, rfl, rfl, k1, k2⟩ := cells_msg h2
          have add2 : ∀ j, (a'.add (i * 3)).add j = a'.add (i * 3 + j) := fun j => by
            unfold Addr.add
            by_cases h3 : i * 3 = 0
            · simp [h3]
            · by_cases hj : j = 0
              · simp [hj, h3]
              · simp [h3, hj, Nat.add_assoc]
          have q0 := hcell 0 (by omega)
          have q1 := hcell 1 (by omega)
          have q2 := hcell 2 (by omega)
          rw [add2] at q0 q1 q2
          exact ⟨mm, fun _ => ⟨a, c, by simpa using q0, by simpa using q1, by simpa using q2, k1, k2⟩⟩
      · exact ⟨(0, 0, []), fun h => absurd h hi⟩
    have hc := fun i => Classical.choose_spec (each i)
    generalize hf2 : (fun i => Classical.choose (each i)) = f at *
    have hc' : ∀ i, i < len → ∃ a c, W.cell? (a'.add (i * 3)) = some (.int .u8 ((f i).1 : Int)) ∧ W.cell? (a'.add (i * 3 + 1)) = some (.int .u32 ((f i).2.1 : Int)) ∧ W.cell? (a'.add (i * 3 + 2)) = some (.slice a (f i).2.2.length c) ∧ Come W a (f i).2.2.length c (f i).2.2 ∧ Mok (f i) := by
      intro i hi
      rw [← hf2]
      exact hc i hi
    refine ⟨(List.range len).map f, ⟨by simp, by omega, fun hp => ?_⟩, fun m hm => ?_, fun e => by cases e⟩
    · obtain ⟨_, _, q0, _⟩ := hc' 0 hp
      rw [show a'.add (0 * 3) = a' from rfl] at q0
      obtain ⟨b, off, rfl⟩ := addr_plain q0
      refine ⟨b, off, rfl, block_lt q0, fun i m hm => ?_⟩
      have hi : i < len := by
        have := (List.getElem?_eq_some_iff.1 hm).1
        simpa using this
      have e : f i = m := by
        rw [List.getElem?_map, List.getElem?_range hi] at hm
        simpa using hm
      subst e
      obtain ⟨a, c, r0, r1, r2, r3, _⟩ := hc' i hi
      rw [Addr.add_lit] at r0 r1 r2
      exact ⟨a, c, r0, r1, r2, r3⟩
    · simp only [List.mem_map, List.mem_range] at hm
      obtain ⟨i, hi, rfl⟩ := hm
      obtain ⟨_, _, _, _, _, _, h⟩ := hc' i hi
      exact h
theorem open_pieces {W : World} {a : Option Addr} {len cap : Nat} {d : DataW H} {p : List MemPlace} (h : DataW.Trod enc Tryd.prog W 0 (fun _ => true) true 26 (.slice a len cap) d p) :
    ∃ Ls : List (List Nat), Ps W a len Ls := by
  obtain ⟨fuel, hf⟩ := h
  simp [Value.cells] at hf
  rcases open_int_rows Tryd.underlying26 Tryd.underlying22 Tryd.underlying5 (by kernel_rfl) (by kernel_rfl) hf with ⟨hcs, _⟩ | ⟨a', len', cap', A, L, C, Z, hcs, _, hl, hm, _, hx⟩
  · simp at hcs
    obtain ⟨rfl, rfl, rfl⟩ := hcs
    exact ⟨[], rfl, by omega, fun h => by omega⟩
  · simp at hcs
    obtain ⟨rfl, rfl, rfl⟩ := hcs
    unfold maxLen at hm
    have each : ∀ r, r < cap → W.cell? (a'.add r) = some (.slice (A r) (L r) (C r)) ∧ Come W (A r) (L r) (C r) (((Z r).take (L r)).map Int.toNat) := by
      intro r hr
      obtain ⟨h1, h2, h3, h4, h5, h6, h7⟩ := hx r hr
      refine ⟨h1, ?_⟩
      cases hA : A r with
      | none =>
        have hc := h6 hA
        have : Z r = [] := List.length_eq_zero_iff.1 (by omega)
        rw [show C r = 0 from hc, show L r = 0 by omega, this]
        exact ⟨By.nil _ _, fun _ => rfl, Nat.le_refl _, by omega⟩
      | some x =>
        exact come_of (.inr ⟨x, rfl, h2, h3, h4, fun i hi => (h7 x hA).2 i (by omega), h5⟩)
    refine ⟨(List.range len).map (fun r => ((Z r).take (L r)).map Int.toNat), by simp, by omega, fun hp => ?_⟩
    have q0 := (each 0 (by omega)).1
    rw [show a'.add 0 = a' from rfl] at q0
    obtain ⟨b, off, rfl⟩ := addr_plain q0
    refine ⟨b, off, rfl, block_lt q0, fun i M hM => ?_⟩
    have hi : i < len := by
      have := (List.getElem?_eq_some_iff.1 hM).1
      simpa using this
    have e : ((Z i).take (L i)).map Int.toNat = M := by
      rw [List.getElem?_map, List.getElem?_range hi] at hM
      simpa using hM
    subst e
    obtain ⟨r0, r1⟩ := each i (by omega)
    rw [Addr.add_lit] at r0
    have hs := r1.by_.size
    exact ⟨A i, C i, by rw [hs]; exact r0, by rw [hs]; exact r1⟩
end

end Go.Proofs.YtflehhliddcfgaaDoor
