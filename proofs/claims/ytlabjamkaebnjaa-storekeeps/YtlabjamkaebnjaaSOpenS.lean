/-
  Of the text OpenS: what this stage needs (culled by a program).
-/
import Derived.Test.YtlabjamkaebnjaaMathsJ
import Derived.Test.YtlabjamkaebnjaaSStMJ
import Derived.Test.YtlabjamkaebnjaaSmallJ
import Derived.Deep.Matrix
import Derived.Deep.Strs
import Derived.OpenShut
import Derived.ShutString
namespace Go.Proofs.Ytlabjamkaebnjaa
open Go.ChangeShapes Go.WideShapes Go.ChangeAt Go.RowKit Go.Lib Go.Deep
set_option linter.unusedVariables false
set_option linter.unusedSimpArgs false

theorem i64_of {z : Int} (h : (Lit.int .i64 z).wf = true) : i64B z := by
  have := bounds_i64 h
  unfold i64B
  omega
theorem addr_plain {w : World} {a : Addr} {v : Value} (h : w.cell? a = some v) : ∃ b off, a = ⟨b, off, none⟩ := by
  obtain ⟨b, off, s⟩ := a
  cases s with
  | none => exact ⟨b, off, rfl⟩
  | some x =>
    simp [World.cell?] at h
    split at h <;> simp at h
theorem add_add (a : Addr) (i j : Nat) : (a.add i).add j = a.add (i + j) := by
  unfold Addr.add
  by_cases h3 : i = 0
  · simp [h3]
  · by_cases hj : j = 0
    · simp [hj, h3]
    · simp [h3, hj, Nat.add_assoc]
section
variable {H : Type} {enc : TypeId × Value → H}
abbrev Tr (enc : TypeId × Value → H) (W : World) (n : Nat) (t : TypeId) (cs : List Value) (x : DataW H × List MemPlace) : Prop := DataW.trod enc Try.prog W 0 (fun _ => true) true n t cs = some x
theorem flds {W : World} {fuel : Nat} {t : TypeId} {fs : Array Field} {cs : List Value} {x : DataW H × List MemPlace} (ht : Try.prog.underlying t = some (.struct fs)) (h : Tr enc W fuel t cs x) : ∃ n, cs.length = Try.prog.cellsOf t ∧ ∀ (i : Nat) (f : Field), fs[i]? = some f → ∃ y, Tr enc W n f.type ((cs.drop f.offset).take (Try.prog.cellsOf f.type)) y := by
  obtain ⟨xs, n, _, _, hl, hlen, hf⟩ := DataW.trod_struct ht h
  refine ⟨n, hl, fun i f hi => ?_⟩
  have hi' : i < fs.size := (Array.getElem?_eq_some_iff.1 hi).1
  exact ⟨xs[i]'(by omega), (hf i f hi).trans (List.getElem?_eq_getElem (by omega))⟩
/-- A list of elements of K cells. -/
theorem open_list {α : Type} (d : α) {W : World} {fuel : Nat} {t e : TypeId} {K : Nat} {c : Value} {x : DataW H × List MemPlace} (hK : 0 < K) (f : α → Nat → Value) (Ok : α → Prop) (ht : Try.prog.underlying t = some (.slice e)) (hc : Try.prog.cellsOf e = K)
    (hel : ∀ n cs x, Tr enc W n e cs x → ∃ y : α, (∀ j, j < K → cs[j]? = some (f y j)) ∧ Ok y) (h : Tr enc W fuel t [c] x) :
    ∃ (a : Option Addr) (cap : Nat) (l : List α), c = .slice a l.length cap ∧ Lie W a l.length K (fun i j => f (l.getD i d) j) ∧ Cap a l.length cap ∧ ∀ y ∈ l, Ok y := by
  rcases open_slice ht h with ⟨hcs, _⟩ | ⟨a', len', cap', m, n, D, Pl, hcs, _, hl, hm, hmm, _, hx⟩
  · simp at hcs
    subst hcs
    exact ⟨none, 0, [], rfl, ⟨fun h => absurd h (by simp)⟩, ⟨fun _ => ⟨rfl, rfl⟩, Nat.le_refl _, by omega⟩, by simp⟩
  · simp at hcs
    subst hcs
    rw [hc] at hx
    have hmm : m = cap' := by simpa using hmm
    subst hmm
    unfold maxLen at hm
    have each : ∀ i, ∃ y : α, i < len' → (∀ j, j < K → W.cell? (a'.add (i * K + j)) = some (f y j)) ∧ Ok y := by
      intro i
      by_cases hi : i < len'
      · obtain ⟨cs', h1, h2⟩ := hx i (by omega)
        obtain ⟨_, hlen, hcell⟩ := World.cells?_some h1
        obtain ⟨y, hy, ho⟩ := hel _ _ _ h2
        refine ⟨y, fun _ => ⟨fun j hj => ?_, ho⟩⟩
        have q := hcell j (by omega)
        rw [add_add] at q
        rw [q]
        exact hy j hj
      · exact ⟨d, fun h => absurd h hi⟩
    have hcc := fun i => Classical.choose_spec (each i)
    obtain ⟨F, hcc⟩ : ∃ F : Nat → α, ∀ i, i < len' → (∀ j, j < K → W.cell? (a'.add (i * K + j)) = some (f (F i) j)) ∧ Ok (F i) := ⟨fun i => Classical.choose (each i), hcc⟩
    refine ⟨some a', m, (List.range len').map F, by simp, ⟨fun hp => ?_⟩, ⟨fun e => (nomatch e), by simpa using hl, by omega⟩, fun y hy => ?_⟩
    · have hp' : 0 < len' := by simpa using hp
      have q0 := (hcc 0 hp').1 0 hK
      rw [show a'.add (0 * K + 0) = a' by simp [Addr.add]] at q0
      obtain ⟨b, off, rfl⟩ := addr_plain q0
      refine ⟨b, off, rfl, block_lt q0, fun i hi j hj => ?_⟩
      have hi' : i < len' := by simpa using hi
      have q := (hcc i hi').1 j hj
      rw [Addr.add_lit, ← Nat.add_assoc] at q
      rw [q]
      simp [hi']
    · simp only [List.mem_map, List.mem_range] at hy
      obtain ⟨i, hi, rfl⟩ := hy
      exact (hcc i hi).2
theorem open_int1 {W : World} {n : Nat} {t : TypeId} {k : IntKind} {cs : List Value} {x : DataW H × List MemPlace} (ht : Try.prog.underlying t = some (.int k)) (h : Tr enc W n t cs x) : ∃ z, cs = [.int k z] ∧ (Lit.int k z).wf = true := by
  obtain ⟨z, e, _, hw⟩ := DataW.trod_int ht h
  exact ⟨z, e, hw⟩
/-- Numbers. -/
theorem open_nums {W : World} {fuel : Nat} {c : Value} {x : DataW H × List MemPlace} (h : Tr enc W fuel 61 [c] x) : ∃ (a : Option Addr) (cap : Nat) (l : List Int), c = .slice a l.length cap ∧ Ints W a l.length cap l := by
  obtain ⟨a, cap, l, rfl, h1, h2, h3⟩ := open_list (0 : Int) (e := 3) (K := 1) (by omega) (fun z _ => .int .i64 z) (fun z => i64B z) Try.underlying61 (by kernel_rfl) (fun n cs x h => by
    obtain ⟨z, rfl, hw⟩ := open_int1 Try.underlying3 h
    exact ⟨z, fun j hj => by rw [show j = 0 by omega]; rfl, i64_of hw⟩) h
  exact ⟨a, cap, l, rfl, h1, rfl, h2, h3⟩
set_option maxRecDepth 100000 in
theorem open_plan1 {W : World} {n : Nat} {cs : List Value} {x : DataW H × List MemPlace} (h : Tr enc W n 63 cs x) : ∃ y : Pl × Option Addr × Nat, (∀ j, j < 3 → cs[j]? = some (plV y.1 y.2.1 y.2.2 j)) ∧ Ints W y.2.1 y.1.splits.length y.2.2 y.1.splits ∧ i64B y.1.cycle ∧ i64B y.1.offset := by
  obtain ⟨n, hl, hf⟩ := flds Try.underlying63 h
  have hC : Try.prog.cellsOf 63 = 3 := by kernel_rfl
  have kI : Try.prog.cellsOf 3 = 1 := by kernel_rfl
  have kL : Try.prog.cellsOf 61 = 1 := by kernel_rfl
  rw [hC] at hl
  match cs, hl with
  | [c0, c1, c2], _ =>
    obtain ⟨y0, h0⟩ := hf 0 _ rfl
    obtain ⟨y1, h1⟩ := hf 1 _ rfl
    obtain ⟨y2, h2⟩ := hf 2 _ rfl
    simp [kI] at h0 h1
    simp [kL] at h2
    obtain ⟨z0, e0, w0⟩ := open_int1 Try.underlying3 h0
    obtain ⟨z1, e1, w1⟩ := open_int1 Try.underlying3 h1
    obtain ⟨a, cap, l, rfl, hI⟩ := open_nums h2
    simp at e0 e1
    subst e0 e1
    refine ⟨(⟨z0, z1, l⟩, a, cap), fun j hj => ?_, hI, i64_of w0, i64_of w1⟩
    match j, hj with
    | 0, _ => rfl
    | 1, _ => rfl
    | 2, _ => rfl
theorem open_plansC {W : World} {fuel : Nat} {c : Value} {x : DataW H × List MemPlace} (h : Tr enc W fuel 25 [c] x) : ∃ (a : Option Addr) (cap : Nat) (l : List Pl), c = .slice a l.length cap ∧ Plans W a l.length cap l := by
  obtain ⟨a, cap, l, rfl, h1, h2, h3⟩ := open_list ((q0, none, 0) : Pl × Option Addr × Nat) (e := 63) (K := 3) (by omega) (fun y j => plV y.1 y.2.1 y.2.2 j) (fun y => Ints W y.2.1 y.1.splits.length y.2.2 y.1.splits ∧ i64B y.1.cycle ∧ i64B y.1.offset) Try.underlying25 (by kernel_rfl) (fun n cs x h => open_plan1 h) h
  refine ⟨a, cap, l.map Prod.fst, by simp, ⟨⟨fun i => (l.getD i (q0, none, 0)).2, ?_, ?_⟩, by simp, by simpa using h2, ?_⟩⟩
  · rw [List.length_map]
    refine h1.congr (fun i hi j hj => ?_)
    simp [hi]
  · intro i hi
    rw [List.length_map] at hi
    have := (h3 (l[i]) (List.getElem_mem _)).1
    simpa [hi] using this
  · intro p hp
    simp only [List.mem_map] at hp
    obtain ⟨y, hy, rfl⟩ := hp
    exact (h3 y hy).2
end

end Go.Proofs.Ytlabjamkaebnjaa
