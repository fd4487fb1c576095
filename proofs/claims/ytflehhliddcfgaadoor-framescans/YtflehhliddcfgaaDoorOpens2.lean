/-
  PIECES THAT CAME IN, and how long they can be.
-/
import Derived.Test.YtflehhliddcfgaaDoorOpens
import Derived.SizedLaws
namespace Go.Proofs.YtflehhliddcfgaaDoor
open Go.ChangeShapes Go.WideShapes Go.ChangeAt Go.RowKit Go.Lib Go.Deep
set_option linter.unusedVariables false
set_option linter.unusedSimpArgs false

theorem weighs {H : Type} {P : Program} {e : TypeId} : ∀ {l : List (DataW H)} {d : DataW H} {n : Nat}, d ∈ l → n ∈ d.weights P e → n ∈ DataW.weightsAll P e l
  | [], d, n, h, _ => by cases h
  | x :: l, d, n, h, hn => by
    rw [DataW.weightsAll, List.mem_append]
    rcases List.mem_cons.1 h with rfl | h
    · exact .inl hn
    · exact .inr (weighs h hn)
theorem open_pieces2 {H : Type} {enc : TypeId × Value → H} {W : World} {a : Option Addr} {len cap : Nat} {d : DataW H} {p : List MemPlace} (h : DataW.Trod enc Tryd.prog W 0 (fun _ => true) true 26 (.slice a len cap) d p)
    {ts : List TypeId} {ds : List (DataW H)} {j : Nat} (hsz : (DataW.weightsEach Tryd.prog ts ds).all (· ≤ reachBytes) = true) (ht : ts[j]? = some 26) (hd : ds[j]? = some d) :
    ∃ Ls : List (List Nat), Ps W a len Ls ∧ len ≤ 5864062014805 ∧ ∀ L ∈ Ls, L.length ≤ 140737488351232 := by
  have hall : ∀ n ∈ d.weights Tryd.prog 26, n ≤ 140737488351232 := fun n hn => of_decide_eq_true (List.all_eq_true.1 hsz n (DataW.weights_mem_each ht hd n hn))
  have kB : Tryd.prog.bytesOf 22 = 24 := by kernel_rfl
  have k5 : Tryd.prog.bytesOf 5 = 1 := by kernel_rfl
  obtain ⟨fuel, hf⟩ := h
  simp [Value.cells] at hf
  rcases open_int_rows Tryd.underlying26 Tryd.underlying22 Tryd.underlying5 (by kernel_rfl) (by kernel_rfl) hf with ⟨hcs, _⟩ | ⟨a', len', cap', A, L, C, Z, hcs, _, hl, hm, hxx, hx⟩
  · simp at hcs
    obtain ⟨rfl, rfl, rfl⟩ := hcs
    exact ⟨[], ⟨rfl, by omega, fun h => by omega⟩, by omega, by simp⟩
  · simp at hcs
    obtain ⟨rfl, rfl, rfl⟩ := hcs
    unfold maxLen at hm
    have hd2 : d = .slice ((List.range len).map fun r => intRow .u8 (A r) (L r) (Z r)) ((List.range (cap - len)).map fun j => intRow .u8 (A (len + j)) (L (len + j)) (Z (len + j))) := by
      injection hxx
    rw [hd2] at hall
    simp only [DataW.weights, Tryd.underlying26] at hall
    have hlen : len ≤ 5864062014805 := by
      have := hall _ (List.mem_cons_self ..)
      rw [kB] at this
      simp at this
      omega
    have each : ∀ r, r < cap → W.cell? (a'.add r) = some (.slice (A r) (L r) (C r)) ∧ Come W (A r) (L r) (C r) (((Z r).take (L r)).map Int.toNat) := by
      intro r hr
      obtain ⟨h1, h2, h3, h4, h5, h6, h7⟩ := hx r hr
      refine ⟨h1, ?_⟩
      cases hA : A r with
      | none =>
        have hc := h6 hA
        have : Z r = [] := List.length_eq_zero_iff.1 (by omega)
        rw [show C r = 0 from hc, show L r = 0 by omega, this]
        exact ⟨By.nil _ _, fun _ => rfl, Nat.le_refl _, by omega⟩
      | some x =>
        exact come_of (.inr ⟨x, rfl, h2, h3, h4, fun i hi => (h7 x hA).2 i (by omega), h5⟩)
    refine ⟨(List.range len).map (fun r => ((Z r).take (L r)).map Int.toNat), ⟨by simp, by omega, fun hp => ?_⟩, hlen, ?_⟩
    · have q0 := (each 0 (by omega)).1
      rw [show a'.add 0 = a' from rfl] at q0
      obtain ⟨b, off, rfl⟩ := addr_plain q0
      refine ⟨b, off, rfl, block_lt q0, fun i M hM => ?_⟩
      have hi : i < len := by
        have := (List.getElem?_eq_some_iff.1 hM).1
        simpa using this
      have e : ((Z i).take (L i)).map Int.toNat = M := by
        rw [List.getElem?_map, List.getElem?_range hi] at hM
        simpa using hM
      subst e
      obtain ⟨r0, r1⟩ := each i (by omega)
      rw [Addr.add_lit] at r0
      have hs := r1.by_.size
      exact ⟨A i, C i, by rw [hs]; exact r0, by rw [hs]; exact r1⟩
    · intro M hM
      simp only [List.mem_map, List.mem_range] at hM
      obtain ⟨i, hi, rfl⟩ := hM
      obtain ⟨_, h2, h3, h4, _, h6, _⟩ := hx i (by omega)
      have hs := (each i (by omega)).2.by_.size
      rw [hs]
      cases hA : A i with
      | none => have := h6 hA; omega
      | some x =>
        have hmem : (intRow .u8 (A i) (L i) (Z i) : DataW H) ∈ (List.range len).map fun r => intRow .u8 (A r) (L r) (Z r) := List.mem_map.2 ⟨i, List.mem_range.2 hi, rfl⟩
        have hw : ((lits (H := H) .u8 ((Z i).take (L i))).length + (lits (H := H) .u8 ((Z i).drop (L i))).length) * Tryd.prog.bytesOf 5 ∈ (intRow .u8 (A i) (L i) (Z i) : DataW H).weights Tryd.prog 22 := by
          rw [hA]
          simp only [intRow, DataW.weights, Tryd.underlying22]
          exact List.mem_cons_self ..
        have := hall _ (List.mem_cons_of_mem _ (List.mem_append_left _ (weighs hmem hw)))
        rw [k5] at this
        simp [lits] at this
        omega

end Go.Proofs.YtflehhliddcfgaaDoor
