/-
  HOW LONG BODIES OF MESSAGES THAT CAME IN CAN BE: no longer than memory reaches.
-/
import Derived.Test.YtnmfigcemknjbaaOpenK
import Derived.SizedLaws
namespace Go.Proofs.Ytnmfigcemknjbaa
open Go.ChangeShapes Go.WideShapes Go.ChangeAt Go.RowKit Go.Lib Go.Deep
set_option linter.unusedVariables false
set_option linter.unusedSimpArgs false

theorem weighsK {H : Type} {P : Program} {e : TypeId} : ∀ {l : List (DataW H)} {d : DataW H} {n : Nat}, d ∈ l → n ∈ d.weights P e → n ∈ DataW.weightsAll P e l
  | [], d, n, h, _ => by cases h
  | x :: l, d, n, h, hn => by
    rw [DataW.weightsAll, List.mem_append]
    rcases List.mem_cons.1 h with rfl | h
    · exact .inl hn
    · exact .inr (weighsK h hn)
section
variable {H : Type} {enc : TypeId × Value → H}
theorem come_weight {W : World} {fuel : Nat} {a : Option Addr} {len cap B : Nat} {x : DataW H × List MemPlace} (h : Tr enc W fuel 34 [.slice a len cap] x) (hw : ∀ n ∈ x.1.weights Try.prog 34, n ≤ B) : len ≤ B := by
  have k5 : Try.prog.bytesOf 5 = 1 := by kernel_rfl
  rcases open_ints Try.underlying34 Try.underlying5 (by kernel_rfl) h with ⟨hcs, _⟩ | ⟨y, l, c', zs, hcs, _, hl, hm, hz, rfl, hcell, hwz⟩
  · have e : Value.slice a len cap = .slice none 0 0 := by simpa using hcs
    injection e with e1 e2 e3
    omega
  · have e : Value.slice a len cap = .slice (some y) l c' := by simpa using hcs
    injection e with e1 e2 e3
    subst e2
    simp only [DataW.weights, Try.underlying34] at hw
    have := hw _ (List.mem_cons_self ..)
    rw [k5] at this
    simp [lits] at this
    simp at hz
    omega
set_option maxRecDepth 100000 in
theorem msg_weight {W : World} {fuel : Nat} {cs : List Value} {B : Nat} {x : DataW H × List MemPlace} (h : Tr enc W fuel 47 cs x) (hw : ∀ n ∈ x.1.weights Try.prog 47, n ≤ B) {a : Option Addr} {len cap : Nat} (hc : cs[2]? = some (.slice a len cap)) : len ≤ B := by
  have hC : Try.prog.cellsOf 47 = 3 := by kernel_rfl
  have kL : Try.prog.cellsOf 34 = 1 := by kernel_rfl
  obtain ⟨xs, n, _, rfl, hl, hlen, hf⟩ := DataW.trod_struct Try.underlying47 h
  rw [hC] at hl
  have h2 := hf 2 _ rfl
  match cs, hl, xs, hlen with
  | [c0, c1, c2], _, [u0, u1, u2], _ =>
    have e : c2 = .slice a len cap := by simpa using hc
    subst e
    simp [kL] at h2
    refine come_weight h2 (fun n hn => hw n ?_)
    simp [DataW.weights, Try.underlying47, DataW.weightsEach]
    exact .inr (.inr hn)
theorem msgs_weight {W : World} {a : Option Addr} {len cap B : Nat} {d : DataW H} {p : List MemPlace} {l : List Msg} (h : DataW.Trod enc Try.prog W 0 (fun _ => true) true 25 (.slice a len cap) d p) (hM : Ms W a len l) (hw : ∀ n ∈ d.weights Try.prog 25, n ≤ B) : ∀ m ∈ l, m.2.2.length ≤ B := by
  intro m hm
  obtain ⟨i, hi, hmi⟩ := List.mem_iff_getElem.1 hm
  have hi2 : i < len := by rw [← hM.size]; exact hi
  have hC : Try.prog.cellsOf 47 = 3 := by kernel_rfl
  obtain ⟨fuel, hf⟩ := h
  simp [Value.cells] at hf
  obtain ⟨b, off, ea, hb, hc⟩ := hM.at_ (by omega)
  obtain ⟨am, cm, _, _, c2, _⟩ := hc i m (by rw [List.getElem?_eq_getElem hi, hmi])
  rcases open_slice Try.underlying25 hf with ⟨hcs, _⟩ | ⟨a', len', cap', mm, n, D, Pl, hcs, _, hl, hmx, hmm, hx0, hx⟩
  · simp at hcs
    omega
  · simp at hcs
    obtain ⟨e1, e2, e3⟩ := hcs
    subst e1 e2 e3
    injection ea with ea
    subst ea
    have hmm' : mm = cap := by simpa using hmm
    subst hmm'
    obtain ⟨cs', h1, h2⟩ := hx i (by omega)
    rw [hC] at h1
    obtain ⟨_, hlen, hcell⟩ := World.cells?_some h1
    have q2 := hcell 2 (by omega)
    have hd2 : d = .slice ((List.range len).map D) ((List.range (mm - len)).map fun j => D (len + j)) := by
      injection hx0
    have e9 : (⟨b, off, none⟩ : Addr).add (i * 3) = ⟨b, off + i * 3, none⟩ := Addr.add_lit ..
    rw [e9, Addr.add_lit, c2] at q2
    refine msg_weight h2 (fun n hn => hw n ?_) q2.symm
    rw [hd2]
    simp only [DataW.weights, Try.underlying25]
    refine List.mem_cons_of_mem _ (List.mem_append_left _ (weighsK (List.mem_map.2 ⟨i, List.mem_range.2 hi2, rfl⟩) hn))
theorem open_msgsz {W : World} {a : Option Addr} {len cap : Nat} {d : DataW H} {p : List MemPlace} (h : DataW.Trod enc Try.prog W 0 (fun _ => true) true 25 (.slice a len cap) d p)
    {ts : List TypeId} {ds : List (DataW H)} {j : Nat} (hsz : (DataW.weightsEach Try.prog ts ds).all (· ≤ reachBytes) = true) (ht : ts[j]? = some 25) (hd : ds[j]? = some d) :
    ∃ l, Ms W a len l ∧ (∀ m ∈ l, Mok m) ∧ ∀ m ∈ l, m.2.2.length ≤ 140737488351232 := by
  have hall : ∀ n ∈ d.weights Try.prog 25, n ≤ 140737488351232 := fun n hn => of_decide_eq_true (List.all_eq_true.1 hsz n (DataW.weights_mem_each ht hd n hn))
  obtain ⟨l, h1, h2⟩ := open_msgs h
  exact ⟨l, h1, h2, msgs_weight h h1 hall⟩
end

end Go.Proofs.Ytnmfigcemknjbaa
