/-
  WHAT CAME IN: links, messages, lists of them, as the walks want them.
-/
import Derived.Test.YtnmfigcemknjbaaSOpenS
import Derived.Test.YtnmfigcemknjbaaLnkE
import Derived.Test.YtnmfigcemknjbaaRows
import Derived.Deep.Grids
import Derived.Deep.Strs
import Derived.OpenShut
import Derived.ShutString
namespace Go.Proofs.Ytnmfigcemknjbaa
open Go.ChangeShapes Go.WideShapes Go.ChangeAt Go.RowKit Go.Lib Go.Deep
set_option linter.unusedVariables false
set_option linter.unusedSimpArgs false

theorem nat_u8K {z : Int} (h : (Lit.int .u8 z).wf = true) : ∃ n : Nat, z = (n : Int) ∧ n < 256 := by
  have := bounds_u8 h
  exact ⟨z.toNat, by omega, by omega⟩
theorem nat_u32K {z : Int} (h : (Lit.int .u32 z).wf = true) : ∃ n : Nat, z = (n : Int) ∧ n < 4294967296 := by
  have := bounds_u32 h
  exact ⟨z.toNat, by omega, by omega⟩
section
variable {H : Type} {enc : TypeId × Value → H}
theorem tr_comeK {W : World} {fuel : Nat} {c : Value} {x : DataW H × List MemPlace} (h : Tr enc W fuel 34 [c] x) : ∃ a len cap L, c = .slice a len cap ∧ L.length = len ∧ Come W a len cap L := by
  rcases open_ints Try.underlying34 Try.underlying5 (by kernel_rfl) h with ⟨hcs, _⟩ | ⟨x, l, c', zs, hcs, _, hl, hm, hz, _, hcell, hwz⟩
  · have e : c = .slice none 0 0 := by simpa using hcs
    exact ⟨none, 0, 0, [], e, rfl, By.nil _ _, fun _ => rfl, Nat.le_refl _, by omega⟩
  · have e : c = .slice (some x) l c' := by simpa using hcs
    have hC := come_of (w := W) (a := some x) (len := l) (cap := c') (zs := zs) (.inr ⟨x, rfl, hl, hm, by simpa using hz, hcell, hwz⟩)
    exact ⟨some x, l, c', _, e, hC.by_.size, hC⟩
set_option maxRecDepth 100000 in
theorem open_msg1 {W : World} {n : Nat} {cs : List Value} {x : DataW H × List MemPlace} (h : Tr enc W n 47 cs x) : ∃ y : Msg × Option Addr × Nat, (∀ j, j < 3 → cs[j]? = some (fMs y.1 y.2.1 y.2.2 j)) ∧ cs.length = 3 ∧ Come W y.2.1 y.1.2.2.length y.2.2 y.1.2.2 ∧ Mok y.1 := by
  obtain ⟨n, hl, hf⟩ := flds Try.underlying47 h
  have hC : Try.prog.cellsOf 47 = 3 := by kernel_rfl
  have kU : Try.prog.cellsOf 5 = 1 := by kernel_rfl
  have kW : Try.prog.cellsOf 22 = 1 := by kernel_rfl
  have kL : Try.prog.cellsOf 34 = 1 := by kernel_rfl
  rw [hC] at hl
  match cs, hl with
  | [c0, c1, c2], _ =>
    obtain ⟨y0, h0⟩ := hf 0 _ rfl
    obtain ⟨y1, h1⟩ := hf 1 _ rfl
    obtain ⟨y2, h2⟩ := hf 2 _ rfl
    simp [kU] at h0
    simp [kW] at h1
    simp [kL] at h2
    obtain ⟨z0, e0, w0⟩ := open_int1 Try.underlying5 h0
    obtain ⟨z1, e1, w1⟩ := open_int1 Try.underlying22 h1
    obtain ⟨a, len, cap, L, e2, hl, hB⟩ := tr_comeK h2
    simp at e0 e1
    subst e0 e1 e2 hl
    obtain ⟨m0, rfl, b0⟩ := nat_u8K w0
    obtain ⟨m1, rfl, b1⟩ := nat_u32K w1
    exact ⟨((m0, m1, L), a, cap), fun j hj => by
      have : j = 0 ∨ j = 1 ∨ j = 2 := by omega
      rcases this with rfl | rfl | rfl <;> rfl, rfl, hB, b0, b1, hB.by_.lt⟩
theorem open_msgs1 {W : World} {fuel : Nat} {c : Value} {x : DataW H × List MemPlace} (h : Tr enc W fuel 25 [c] x) : ∃ (a : Option Addr) (cap : Nat) (l : List Msg), c = .slice a l.length cap ∧ Ms W a l.length l ∧ ∀ m ∈ l, Mok m := by
  obtain ⟨a, cap, l, rfl, h1, h2, h3⟩ := open_list ((m0, none, 0) : Msg × Option Addr × Nat) (e := 47) (K := 3) (by omega) (fun y j => fMs y.1 y.2.1 y.2.2 j) (fun y => Come W y.2.1 y.1.2.2.length y.2.2 y.1.2.2 ∧ Mok y.1) Try.underlying25 (by kernel_rfl) (fun n cs x h => by
    obtain ⟨y, e1, _, e2⟩ := open_msg1 h
    exact ⟨y, e1, e2⟩) h
  refine ⟨a, cap, l.map Prod.fst, by simp, ⟨rfl, ?_, fun hp => ?_⟩, fun m hm => ?_⟩
  · have := h2.max; have := h2.room; simp; omega
  · rw [List.length_map] at hp
    obtain ⟨b, off, rfl, hb, hc⟩ := h1.at_ hp
    refine ⟨b, off, rfl, hb, fun i m hm => ?_⟩
    obtain ⟨y, hy, rfl⟩ : ∃ y, l[i]? = some y ∧ y.1 = m := by
      rw [List.getElem?_map] at hm
      cases hy : l[i]? with
      | none => rw [hy] at hm; cases hm
      | some y => rw [hy] at hm; exact ⟨y, rfl, Option.some.inj hm⟩
    obtain ⟨hi, _⟩ := List.getElem?_eq_some_iff.1 hy
    have hd : l.getD i (m0, none, 0) = y := by rw [List.getD_eq_getElem?_getD, hy]; rfl
    have c0 := hc i hi 0 (by omega)
    have c1 := hc i hi 1 (by omega)
    have c2 := hc i hi 2 (by omega)
    simp only [hd] at c0 c1 c2
    exact ⟨y.2.1, y.2.2, c0, c1, c2, (h3 y (List.mem_of_getElem? hy)).1⟩
  · simp only [List.mem_map] at hm
    obtain ⟨y, hy, rfl⟩ := hm
    exact (h3 y hy).2
theorem open_msgs {W : World} {a : Option Addr} {len cap : Nat} {d : DataW H} {p : List MemPlace} (h : DataW.Trod enc Try.prog W 0 (fun _ => true) true 25 (.slice a len cap) d p) : ∃ l, Ms W a len l ∧ ∀ m ∈ l, Mok m := by
  obtain ⟨fuel, hf⟩ := h
  simp [Value.cells] at hf
  obtain ⟨a', cap', l, e, h1, h2⟩ := open_msgs1 hf
  injection e with e1 e2 e3
  subst e1 e2 e3
  exact ⟨l, h1, h2⟩
theorem open_msgss {W : World} {a : Option Addr} {len cap : Nat} {d : DataW H} {p : List MemPlace} (h : DataW.Trod enc Try.prog W 0 (fun _ => true) true 71 (.slice a len cap) d p) : ∃ ls, Ts W a len ls ∧ ∀ l ∈ ls, ∀ m ∈ l, Mok m := by
  obtain ⟨fuel, hf⟩ := h
  simp [Value.cells] at hf
  obtain ⟨a', cap', l, e, h1, h2, h3⟩ := open_list (([], none, 0) : List Msg × Option Addr × Nat) (e := 25) (K := 1) (by omega) (fun y _ => .slice y.2.1 y.1.length y.2.2) (fun y => Ms W y.2.1 y.1.length y.1 ∧ ∀ m ∈ y.1, Mok m) Try.underlying71 (by kernel_rfl) (fun n cs x h => by
    obtain ⟨c, rfl⟩ : ∃ c, cs = [c] := by
      rcases DataW.trod_slice Try.underlying25 h with ⟨e, _⟩ | ⟨a, len, cap, _, _, _, _, e, _⟩
      · exact ⟨_, e⟩
      · exact ⟨_, e⟩
    obtain ⟨a, cap, l, rfl, k1, k2⟩ := open_msgs1 h
    exact ⟨(l, a, cap), fun j hj => by rw [show j = 0 by omega]; rfl, k1, k2⟩) hf
  injection e with e1 e2 e3
  subst e1 e2 e3
  refine ⟨l.map Prod.fst, ⟨by simp, ?_, fun hp => ?_⟩, fun m hm => ?_⟩
  · have := h2.max; have := h2.room; omega
  · obtain ⟨b, off, rfl, hb, hc⟩ := h1.at_ hp
    refine ⟨b, off, rfl, hb, fun i m hm => ?_⟩
    obtain ⟨y, hy, rfl⟩ : ∃ y, l[i]? = some y ∧ y.1 = m := by
      rw [List.getElem?_map] at hm
      cases hy : l[i]? with
      | none => rw [hy] at hm; cases hm
      | some y => rw [hy] at hm; exact ⟨y, rfl, Option.some.inj hm⟩
    obtain ⟨hi, _⟩ := List.getElem?_eq_some_iff.1 hy
    have hd : l.getD i ([], none, 0) = y := by rw [List.getD_eq_getElem?_getD, hy]; rfl
    have c0 := hc i hi 0 (by omega)
    simp only [hd, Nat.mul_one, Nat.add_zero] at c0
    exact ⟨y.2.1, y.2.2, c0, (h3 y (List.mem_of_getElem? hy)).1⟩
  · simp only [List.mem_map] at hm
    obtain ⟨y, hy, rfl⟩ := hm
    exact (h3 y hy).2
set_option maxRecDepth 100000 in
theorem open_msg {W : World} {base : Nat} {v : Value} {d : DataW H} {p : List MemPlace} (hv : Value.okWide Try.prog W .any base 47 v) (h : DataW.Trod enc Try.prog W 0 (fun _ => true) true 47 v d p) : ∃ (m : Msg) (a : Option Addr) (cap : Nat), v = .agg (msC m a cap) ∧ Come W a m.2.2.length cap m.2.2 ∧ Mok m := by
  have hC : Try.prog.cellsOf 47 = 3 := by kernel_rfl
  obtain ⟨cs, rfl, hsz⟩ := okWide_struct Try.underlying47 hv
  rw [hC] at hsz
  obtain ⟨l⟩ := cs
  match l, hsz with
  | [c0, c1, c2], _ =>
    obtain ⟨fuel, hf⟩ := h
    simp [Value.cells] at hf
    obtain ⟨y, e, _, e2, e3⟩ := open_msg1 hf
    have f0 := e 0 (by omega)
    have f1 := e 1 (by omega)
    have f2 := e 2 (by omega)
    have g0 : c0 = .int .u8 (y.1.1 : Int) := Option.some.inj f0
    have g1 : c1 = .int .u32 (y.1.2.1 : Int) := Option.some.inj f1
    have g2 : c2 = .slice y.2.1 y.1.2.2.length y.2.2 := Option.some.inj f2
    subst g0 g1 g2
    exact ⟨y.1, y.2.1, y.2.2, rfl, e2, e3⟩
set_option maxRecDepth 100000 in
theorem open_link {W : World} {base : Nat} {v : Value} {d : DataW H} {p : List MemPlace} (hv : Value.okWide Try.prog W .any base 24 v) (h : DataW.Trod enc Try.prog W 0 (fun _ => true) true 24 v d p) : ∃ s : Lk, v = lkV s ∧ s.last < 4294967296 := by
  have hC : Try.prog.cellsOf 24 = 3 := by kernel_rfl
  have kB : Try.prog.cellsOf 4 = 1 := by kernel_rfl
  have kW : Try.prog.cellsOf 22 = 1 := by kernel_rfl
  have kI : Try.prog.cellsOf 3 = 1 := by kernel_rfl
  obtain ⟨cs, rfl, hsz⟩ := okWide_struct Try.underlying24 hv
  rw [hC] at hsz
  obtain ⟨l⟩ := cs
  match l, hsz with
  | [c0, c1, c2], _ =>
    obtain ⟨fuel, hf⟩ := h
    simp [Value.cells] at hf
    obtain ⟨n, _, hall⟩ := flds Try.underlying24 hf
    obtain ⟨y0, h0⟩ := hall 0 _ rfl
    obtain ⟨y1, h1⟩ := hall 1 _ rfl
    obtain ⟨y2, h2⟩ := hall 2 _ rfl
    simp [kB] at h0
    simp [kW] at h1
    simp [kI] at h2
    obtain ⟨z0, e0, _⟩ := DataW.trod_bool Try.underlying4 h0
    obtain ⟨z1, e1, w1⟩ := open_int1 Try.underlying22 h1
    obtain ⟨z2, e2, w2⟩ := open_int1 Try.underlying3 h2
    simp at e0 e1 e2
    subst e0 e1 e2
    obtain ⟨m1, rfl, b1⟩ := nat_u32K w1
    exact ⟨⟨z0, m1, z2⟩, rfl, b1⟩
end

end Go.Proofs.Ytnmfigcemknjbaa
