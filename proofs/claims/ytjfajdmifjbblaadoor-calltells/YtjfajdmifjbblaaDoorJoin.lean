/-
  append(own, b...): the bytes of the one, then the bytes of the other, in memory of the call's own.
-/
import Derived.Test.YtjfajdmifjbblaaDoorSmall
import Derived.Laws.AppendOwnNone
namespace Go.Proofs.YtjfajdmifjbblaaDoor
open Go.RowKit Go.Lib Go.Deep
set_option linter.unusedVariables false
set_option linter.unusedSimpArgs false

/-- A slice of the call's own, nil or not: its bytes are L. -/
structure Mine (w : World) (base : Nat) (a : Option Addr) (n cap : Nat) (L : List Nat) : Prop where
  own : w.ownsRow base 5 1 (.slice a n cap) n (L.map byteV)
  nil : a = none → n = 0 ∧ cap = 0
  room : n ≤ cap
  max : cap ≤ 9223372036854775807
theorem mine_of {w : World} {base : Nat} {v : Value} {n : Nat} {L : List Nat} (h : w.ownsRow base 5 1 v n (L.map byteV)) : ∃ a cap, v = .slice a n cap ∧ Mine w base a n cap L := by
  rcases id h.2 with ⟨rfl, rfl⟩ | ⟨g, cap, cur, rfl, _, _, hle, hm, _, _⟩
  · exact ⟨none, 0, rfl, h, fun _ => ⟨rfl, rfl⟩, Nat.le_refl _, by omega⟩
  · unfold maxLen at hm
    exact ⟨some ⟨g, 0, none⟩, cap, rfl, h, fun e => (nomatch e), hle, by omega⟩
theorem Mine.by {w : World} {base : Nat} {a : Option Addr} {n cap : Nat} {L : List Nat} (h : Mine w base a n cap L) (hb : ∀ x ∈ L, x < 256) : By w a n L := by
  have hm := h.max
  have hr := h.room
  rcases id h.own.2 with ⟨e, rfl⟩ | ⟨g, cap', cur, e, _⟩
  · have hl : L = [] := List.length_eq_zero_iff.1 (by have := h.own.1; simpa using this)
    subst hl
    exact By.nil _ _
  · injection e with e1 e2 e3
    subst e1 e3
    exact Own.by h.own (by omega) hb
theorem Mine.new {w : World} {base : Nat} {a : Option Addr} {n cap : Nat} {L : List Nat} (h : Mine w base a n cap L) : ∀ k, (Value.slice a n cap).ownBlock = some k → base ≤ k := fun k hk => (h.own.lt k hk).1

theorem bytes_news {w : World} {b off m : Nat} {M : List Nat} (hl : M.length = m) (hc : ∀ i, i < m → w.cell? ⟨b, off + i, none⟩ = some (.int .u8 ((M.getD i 0 : Nat) : Int))) :
    ∀ j u, (M.map byteV)[j]? = some u → w.cell? ((⟨b, off, none⟩ : Addr).add j) = some u := by
  intro j u hu
  have hj : j < M.length := by have := (List.getElem?_eq_some_iff.1 hu).1; simpa using this
  rw [Addr.add_lit, hc j (by omega), ← hu]
  simp [hj]
theorem bytes_one (M : List Nat) : ∀ u ∈ M.map byteV, u.oneCell' = true := by
  intro u hu
  simp only [List.mem_map] at hu
  obtain ⟨x, _, rfl⟩ := hu
  rfl

/-- What is known of a slice of bytes that came in. -/
structure Come (w : World) (a : Option Addr) (len cap : Nat) (L : List Nat) : Prop where
  by_ : By w a len L
  nil : a = none → cap = 0
  room : len ≤ cap
  max : cap ≤ 9223372036854775807
theorem come_of {w : World} {a : Option Addr} {len cap : Nat} {zs : List Int}
    (h : (a = none ∧ len = 0 ∧ cap = 0 ∧ zs = []) ∨ ∃ x, a = some x ∧ len ≤ cap ∧ cap ≤ maxLen ∧ zs.length = cap ∧ (∀ i, i < zs.length → w.cell? (x.add i) = some (.int .u8 (zs.getD i 0))) ∧ ∀ n ∈ zs, (Lit.int .u8 n).wf = true) :
    Come w a len cap ((zs.take len).map Int.toNat) := by
  have hb := by_of h
  rcases h with ⟨rfl, rfl, rfl, rfl⟩ | ⟨x, rfl, hl, hm, hz, hcell, hwz⟩
  · exact ⟨hb, fun _ => rfl, Nat.le_refl _, by omega⟩
  · unfold maxLen at hm
    exact ⟨hb, fun e => (nomatch e), hl, by omega⟩

end Go.Proofs.YtjfajdmifjbblaaDoor
