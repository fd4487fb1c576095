/-
  WORLDS AND BYTES IN MEMORY, as the contracts of this stage want them; two lists of bytes that are the same.
-/
import Derived.Test.YtkdfiaeghbkgnaaMaths
import Derived.WalkKit
import Derived.WalkSpells
import Derived.WalkSmall
import Derived.Deep.QuietTactic
import Derived.BigQuiet
import Derived.Deep.OwnRows
import Derived.Laws.Tables
import Derived.Laws.IdiomStrings
import Derived.OpenShut
import Derived.ProofKit
namespace Go.Proofs.Ytkdfiaeghbkgnaa
open Go.RowKit Go.Lib Go.Deep
set_option linter.unusedVariables false
set_option linter.unusedSimpArgs false

theorem ret_int {k : IntKind} {a b : Int} (h : a = b) : Ending.returned (.int k a) = .returned (.int k b) := by rw [h]
theorem ret_bool {a b : Bool} (h : a = b) : Ending.returned (.bool a) = .returned (.bool b) := by rw [h]
theorem ret_int2 {k l : IntKind} {a b c d : Int} (h : a = b) (h' : c = d) : Ending.returned (.tuple #[.int k a, .int l c]) = .returned (.tuple #[.int k b, .int l d]) := by rw [h, h']

/-! ### Worlds -/

/-- Nothing that was there has turned, but for block 'row'. -/
abbrev Kept (w w' : World) (row : Option Nat) : Prop := w.grownBy w' row

theorem Kept.drewN (w : World) (m : Nat) (r : Option Nat) : Kept w (w.drewN m) r := ⟨rfl, rfl, rfl, Nat.le_refl _, fun _ _ _ => rfl⟩
theorem Kept.refl (w : World) (r : Option Nat) : Kept w w r := ⟨rfl, rfl, rfl, Nat.le_refl _, fun _ _ _ => rfl⟩
theorem Kept.tr {a b c : World} {r : Option Nat} (h : Kept a b r) (k : Kept b c r) : Kept a c r :=
  ⟨k.os.trans h.os, k.tape.trans h.tape, k.output.trans h.output, Nat.le_trans h.size k.size, fun i hi hr => (k.block i (Nat.lt_of_lt_of_le hi h.size) hr).trans (h.block i hi hr)⟩
theorem Kept.alloc (w : World) (c : Array Value) (t : TypeId) (fr : Nat × Nat) (r : Option Nat) : Kept w (w.alloc (.cells c t fr)) r :=
  ⟨rfl, rfl, rfl, by simp, fun k hk _ => Below.heap_alloc _ _ _ hk⟩
/-- A store into a block that is new. -/
theorem Kept.setNew {a b : World} {r : Option Nat} (h : Kept a b r) {p : Addr} (hp : a.heap.size ≤ p.block) (v : Value) : Kept a (b.setCell p v) r :=
  ⟨h.os, h.tape, h.output, by simpa [World.setCell] using h.size, fun k hk hr => (Below.heap_setCell _ _ _ _ (by omega)).trans (h.block k hk hr)⟩
/-- What grows in a block that is new. -/
theorem Kept.newRow {a b c : World} {r : Option Nat} (h : Kept a b none) (k : Kept b c r) (hr : ∀ i, r = some i → a.heap.size ≤ i) : Kept a c none :=
  ⟨k.os.trans h.os, k.tape.trans h.tape, k.output.trans h.output, Nat.le_trans h.size k.size, fun i hi _ => (k.block i (Nat.lt_of_lt_of_le hi h.size) (fun e => by have := hr i e.symm; omega)).trans (h.block i hi (by simp))⟩
theorem Kept.below {w w' : World} (h : Kept w w' none) : Below w.heap.size w w' := ⟨h.os, h.tape, h.output, h.size, fun k hk => h.block k hk (by simp)⟩
theorem Kept.of_below {w w' : World} (h : Below w.heap.size w w') : Kept w w' none := ⟨h.os, h.tape, h.output, h.size, fun k hk _ => h.block k hk⟩
theorem row_kept {w w' : World} {b : Nat} {t : TypeId} {n : Nat} {f : Nat → Value} {r : Option Nat} (h : w.rowIs b t n f) (k : Kept w w' r) (hr : some b ≠ r) : w'.rowIs b t n f := h.of_block (k.block b h.lt hr)

/-! ### Bytes in memory -/

theorem block_lt {w : World} {a : Addr} {v : Value} (h : w.cell? a = some v) : a.block < w.heap.size := by
  by_cases hh : a.block < w.heap.size
  · exact hh
  · have hn : w.heap[a.block]? = none := Array.getElem?_eq_none (by omega)
    simp [World.cell?, hn] at h

/-- A byte's cell. -/
abbrev byteV (x : Nat) : Value := .int .u8 (x : Int)

/-- The bytes L lie where the slice leads. -/
structure By (w : World) (a : Option Addr) (len : Nat) (L : List Nat) : Prop where
  size : L.length = len
  max : len ≤ 9223372036854775807
  lt : ∀ x ∈ L, x < 256
  at_ : 0 < len → ∃ b off, a = some ⟨b, off, none⟩ ∧ b < w.heap.size ∧ ∀ i, i < len → w.cell? ⟨b, off + i, none⟩ = some (.int .u8 ((L.getD i 0 : Nat) : Int))

theorem By.getD {w : World} {a : Option Addr} {len : Nat} {L : List Nat} (h : By w a len L) (i : Nat) : L.getD i 0 < 256 := by
  by_cases hi : i < L.length
  · have : L.getD i 0 = L[i] := by simp [hi]
    rw [this]; exact h.lt _ (List.getElem_mem hi)
  · simp [show L.length ≤ i by omega]
theorem By.nil (w : World) (a : Option Addr) : By w a 0 [] := ⟨rfl, by omega, fun _ h => (nomatch h), fun h => absurd h (by omega)⟩
theorem By.below {w w' : World} {a : Option Addr} {len : Nat} {L : List Nat} (h : By w a len L) (k : Below w.heap.size w w') : By w' a len L := by
  obtain ⟨h1, h2, h3, h4⟩ := h
  refine ⟨h1, h2, h3, fun hp => ?_⟩
  obtain ⟨b, off, rfl, hb, hc⟩ := h4 hp
  exact ⟨b, off, rfl, Nat.lt_of_lt_of_le hb k.size, fun i hi => (k.cell (p := ⟨b, off + i, none⟩) hb).trans (hc i hi)⟩
theorem By.kept {w w' : World} {a : Option Addr} {len : Nat} {L : List Nat} (h : By w a len L) (k : Kept w w' none) : By w' a len L := by
  obtain ⟨h1, h2, h3, h4⟩ := h
  refine ⟨h1, h2, h3, fun hp => ?_⟩
  obtain ⟨b, off, rfl, hb, hc⟩ := h4 hp
  exact ⟨b, off, rfl, Nat.lt_of_lt_of_le hb k.size, fun i hi => (World.cell?_of_block (w := w) (a := ⟨b, off + i, none⟩) (k.block b hb (by simp))).trans (hc i hi)⟩
theorem By.drewN {w : World} {a : Option Addr} {len : Nat} {L : List Nat} (h : By w a len L) (m : Nat) : By (w.drewN m) a len L := h.kept (Kept.drewN w m none)
/-- The first k of them. -/
theorem By.take {w : World} {a : Option Addr} {len : Nat} {L : List Nat} (h : By w a len L) (k : Nat) (hk : k ≤ len) : By w a k (L.take k) := by
  obtain ⟨h1, h2, h3, h4⟩ := h
  refine ⟨by simp; omega, by omega, fun x hx => h3 x (List.mem_of_mem_take hx), fun hp => ?_⟩
  obtain ⟨b, off, rfl, hb, hc⟩ := h4 (by omega)
  refine ⟨b, off, rfl, hb, fun i hi => ?_⟩
  rw [hc i (by omega)]
  simp [List.getElem?_take, hi]
/-- A row of the call's own. -/
theorem By.row {w : World} {b n : Nat} {t : TypeId} {f : Nat → Value} (h : w.rowIs b t n f) (L : List Nat) (k : Nat) (hk : k ≤ n) (hl : L.length = k) (h2 : k ≤ 9223372036854775807) (hb : ∀ x ∈ L, x < 256) (hf : ∀ i, i < k → f i = .int .u8 ((L.getD i 0 : Nat) : Int)) : By w (some ⟨b, 0, none⟩) k L :=
  ⟨hl, h2, hb, fun _ => ⟨b, 0, rfl, h.lt, fun i hi => by rw [Nat.zero_add, h.cell (by omega), hf i hi]⟩⟩
/-- A list as a row of cells, just laid. -/
theorem By.alloc (w : World) (L : List Nat) (t : TypeId) (fr : Nat × Nat) (cs : Array Value) (hc : ∀ i, i < L.length → cs[i]? = some (.int .u8 ((L.getD i 0 : Nat) : Int))) (h2 : L.length ≤ 9223372036854775807) (hb : ∀ x ∈ L, x < 256) : By (w.alloc (.cells cs t fr)) (some ⟨w.heap.size, 0, none⟩) L.length L :=
  ⟨rfl, h2, hb, fun _ => ⟨_, 0, rfl, by simp, fun i hi => by rw [Nat.zero_add, World.cell?_alloc_mark, hc i hi]⟩⟩

/-- A slice of bytes that came in. -/
theorem by_of {w : World} {a : Option Addr} {len cap : Nat} {zs : List Int}
    (h : (a = none ∧ len = 0 ∧ cap = 0 ∧ zs = []) ∨ ∃ x, a = some x ∧ len ≤ cap ∧ cap ≤ maxLen ∧ zs.length = cap ∧ (∀ i, i < zs.length → w.cell? (x.add i) = some (.int .u8 (zs.getD i 0))) ∧ ∀ n ∈ zs, (Lit.int .u8 n).wf = true) :
    By w a len ((zs.take len).map Int.toNat) := by
  rcases h with ⟨rfl, rfl, rfl, rfl⟩ | ⟨x, rfl, hl, hm, hz, hcell, hwz⟩
  · exact By.nil _ _
  · unfold maxLen at hm
    have hr : ∀ n ∈ zs, 0 ≤ n ∧ n < 256 := fun n hn => by
      have := bounds_u8 (hwz n hn)
      omega
    refine ⟨by simp; omega, by omega, fun y hy => ?_, fun hp => ?_⟩
    · simp only [List.mem_map] at hy
      obtain ⟨z, hz1, rfl⟩ := hy
      have := hr z (List.mem_of_mem_take hz1)
      omega
    · obtain ⟨b, off, rfl, hc⟩ := ints_at hcell (by omega)
      refine ⟨b, off, rfl, block_lt (hc 0 (by omega)), fun i hi => ?_⟩
      rw [hc i (by omega)]
      have hi' : i < zs.length := by omega
      have := hr zs[i] (List.getElem_mem hi')
      have e : ((zs.take len).map Int.toNat).getD i 0 = zs[i].toNat := by
        simp [List.getElem?_take, hi, hi']
      rw [e]
      have e2 : zs.getD i 0 = zs[i] := by simp [hi']
      rw [e2]
      congr 2
      omega

/-! ### Two lists of bytes -/
/-- The bytes as a text. -/
def textOf (L : List Nat) : ByteArray := ⟨(L.map UInt8.ofNat).toArray⟩
theorem Try.u5 : Try.prog.underlying 5 = some (.int .u8) := by kernel_rfl
theorem Try.uS : Try.prog.underlying 9 = some .string := by kernel_rfl
end Go.Proofs.Ytkdfiaeghbkgnaa
