/-
  Texts joined: some of those that the proofs of this seat stand on.
-/
import Derived.Test.YtkgimccffggfdaaDoorLay
import Derived.Test.YtkgimccffggfdaaDoorOpenS
/-
  LISTS of words that came in, and what is told of them going round.
-/
namespace Go.Proofs.YtkgimccffggfdaaDoor
open Go.RowKit Go.Lib Go.Deep
set_option linter.unusedVariables false
set_option linter.unusedSimpArgs false

/-- A list of words. -/
structure U3 (w : World) (a : Option Addr) (n c : Nat) (L : List Nat) : Prop where
  size : L.length = n
  lie : Lie w a L.length 1 (fun i _ => .int .u32 ((L.getD i 0 : Nat) : Int))
  cap : Cap a L.length c
  rng : ∀ x ∈ L, x < 4294967296
theorem U3.kept {w w' : World} {a : Option Addr} {n c : Nat} {L : List Nat} (h : U3 w a n c L) (q : Kept w w' none) : U3 w' a n c L := ⟨h.size, h.lie.kept q, h.cap, h.rng⟩
/-- An element, going round. -/
def atU (L : List Nat) (n : Nat) : Nat := if L.length = 0 then 0 else L.getD (n % L.length) 0
theorem atU_lt {L : List Nat} (h : ∀ x ∈ L, x < 4294967296) (n : Nat) : atU L n < 4294967296 := by
  unfold atU
  split
  · omega
  · rename_i e
    have hl : n % L.length < L.length := Nat.mod_lt _ (by omega)
    rw [List.getD_eq_getElem?_getD, List.getElem?_eq_getElem hl]
    exact h _ (List.getElem_mem hl)

end Go.Proofs.YtkgimccffggfdaaDoor

/-
  WHAT CAME IN: where it is, calls and gaps, as the walks want them.
-/
namespace Go.Proofs.YtkgimccffggfdaaDoor
open Go.ChangeShapes Go.WideShapes Go.ChangeAt Go.RowKit Go.Lib Go.Deep
set_option linter.unusedVariables false
set_option linter.unusedSimpArgs false

section
variable {H : Type} {enc : TypeId × Value → H}
set_option maxRecDepth 100000 in
theorem open_seq {W : World} {base : Nat} {v : Value} {d : DataW H} {p : List MemPlace} (hv : Value.okWide Tryd.prog W .any base 40 v) (h : DataW.Trod enc Tryd.prog W 0 (fun _ => true) true 40 v d p) : ∃ x y : Int, v = .agg #[.int .i64 x, .int .i64 y] ∧ i64B x ∧ i64B y := by
  obtain ⟨cs, rfl, hsz⟩ := okWide_struct Tryd.underlying40 hv
  have hC : Tryd.prog.cellsOf 40 = 2 := by kernel_rfl
  rw [hC] at hsz
  obtain ⟨l⟩ := cs
  have kI : Tryd.prog.cellsOf 3 = 1 := by kernel_rfl
  match l, hsz with
  | [c0, c1], _ =>
    obtain ⟨fuel, hf0⟩ := h
    simp [Value.cells] at hf0
    obtain ⟨n, hl, hf⟩ := flds Tryd.underlying40 hf0
    obtain ⟨y0, h0⟩ := hf 0 _ rfl
    obtain ⟨y1, h1⟩ := hf 1 _ rfl
    simp [kI] at h0 h1
    obtain ⟨z0, q0, w0⟩ := open_int1 Tryd.underlying3 h0
    obtain ⟨z1, q1, w1⟩ := open_int1 Tryd.underlying3 h1
    simp at q0 q1
    subst q0 q1
    exact ⟨z0, z1, rfl, i64_of w0, i64_of w1⟩
theorem open_u32s {W : World} {a : Option Addr} {len cap : Nat} {d : DataW H} {p : List MemPlace} (h : DataW.Trod enc Tryd.prog W 0 (fun _ => true) true 31 (.slice a len cap) d p) : ∃ L : List Nat, U3 W a len cap L := by
  obtain ⟨fuel, hf⟩ := h
  simp [Value.cells] at hf
  obtain ⟨a', cap', l, e, h1, h2, h3⟩ := open_apart hf
  injection e with e1 e2 e3
  subst e1 e2 e3
  exact ⟨l, rfl, h1, h2, h3⟩
end

end Go.Proofs.YtkgimccffggfdaaDoor

