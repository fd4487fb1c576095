/-
  append(own, b...): the bytes of the one, then the bytes of the other, in memory of the call's own.
-/
import Derived.Test.YtnmfigcemknjbaaPutJ
import Derived.Laws.AppendOwnNone
namespace Go.Proofs.Ytnmfigcemknjbaa
open Go.RowKit Go.Lib Go.Deep
set_option linter.unusedVariables false
set_option linter.unusedSimpArgs false

/-- A slice of the call's own, nil or not: its bytes are L. -/
structure Mine (w : World) (base : Nat) (a : Option Addr) (n cap : Nat) (L : List Nat) : Prop where
  own : w.ownsRow base 5 1 (.slice a n cap) n (L.map byteV)
  nil : a = none → n = 0 ∧ cap = 0
  room : n ≤ cap
  max : cap ≤ 9223372036854775807
theorem mine_of {w : World} {base : Nat} {v : Value} {n : Nat} {L : List Nat} (h : w.ownsRow base 5 1 v n (L.map byteV)) : ∃ a cap, v = .slice a n cap ∧ Mine w base a n cap L := by
  rcases id h.2 with ⟨rfl, rfl⟩ | ⟨g, cap, cur, rfl, _, _, hle, hm, _, _⟩
  · exact ⟨none, 0, rfl, h, fun _ => ⟨rfl, rfl⟩, Nat.le_refl _, by omega⟩
  · unfold maxLen at hm
    exact ⟨some ⟨g, 0, none⟩, cap, rfl, h, fun e => (nomatch e), hle, by omega⟩
theorem Mine.by {w : World} {base : Nat} {a : Option Addr} {n cap : Nat} {L : List Nat} (h : Mine w base a n cap L) (hb : ∀ x ∈ L, x < 256) : By w a n L := by
  have hm := h.max
  have hr := h.room
  rcases id h.own.2 with ⟨e, rfl⟩ | ⟨g, cap', cur, e, _⟩
  · have hl : L = [] := List.length_eq_zero_iff.1 (by have := h.own.1; simpa using this)
    subst hl
    exact By.nil _ _
  · injection e with e1 e2 e3
    subst e1 e3
    exact Own.by h.own (by omega) hb
theorem Mine.new {w : World} {base : Nat} {a : Option Addr} {n cap : Nat} {L : List Nat} (h : Mine w base a n cap L) : ∀ k, (Value.slice a n cap).ownBlock = some k → base ≤ k := fun k hk => (h.own.lt k hk).1

theorem bytes_news {w : World} {b off m : Nat} {M : List Nat} (hl : M.length = m) (hc : ∀ i, i < m → w.cell? ⟨b, off + i, none⟩ = some (.int .u8 ((M.getD i 0 : Nat) : Int))) :
    ∀ j u, (M.map byteV)[j]? = some u → w.cell? ((⟨b, off, none⟩ : Addr).add j) = some u := by
  intro j u hu
  have hj : j < M.length := by have := (List.getElem?_eq_some_iff.1 hu).1; simpa using this
  rw [Addr.add_lit, hc j (by omega), ← hu]
  simp [hj]
theorem bytes_one (M : List Nat) : ∀ u ∈ M.map byteV, u.oneCell' = true := by
  intro u hu
  simp only [List.mem_map] at hu
  obtain ⟨x, _, rfl⟩ := hu
  rfl

theorem wpList_join {ops : Array Oper} {rest : List Oper} {o : Oper} {act : Act} {Q : Exit → Act → World → Prop} {w : World} (hgd : o.guard = none) (s x : Operand)
    (ho : o.op = .call { callee := .builtin .append, args := #[s, x], argTypes := #[34, 34] })
    (base : Nat) (v : Value) (n : Nat) (L : List Nat) (hs : act.eval s = v) (hown : w.ownsRow base 5 1 v n (L.map byteV))
    (a : Option Addr) (m c : Nat) (M : List Nat) (hx : act.eval x = .slice a m c) (hB : By w a m M) (ha : a = none → c = 0)
    (hnm : n + m ≤ 70368744177664) (hbase : base ≤ w.heap.size)
    (h : ∀ a' cap w', Mine w' base a' (n + m) cap (L ++ M) → w.grownBy w' v.ownBlock → wpList Try.prog ops Q rest (act.put o.dst (.slice a' (n + m) cap)) w') : wpList Try.prog ops Q (o :: rest) act w := by
  obtain ⟨i0, hi0, hz0, hz1, hz2⟩ := info_parts Try.info5
  have key : ∀ v' w', w'.ownsRow base 5 1 v' (n + m) ((L ++ M).map byteV) → w.grownBy w' v.ownBlock → wpList Try.prog ops Q rest (act.put o.dst v') w' := by
    intro v' w' h1 h2
    obtain ⟨a', cap, rfl, hm⟩ := mine_of h1
    exact h a' cap w' hm h2
  cases a with
  | none =>
    have hm0 : m = 0 := by
      by_cases hm : 0 < m
      · obtain ⟨b, off, e, _⟩ := hB.at_ hm
        cases e
      · omega
    subst hm0
    have hM : M = [] := List.length_eq_zero_iff.1 hB.size
    subst hM
    have hc := ha rfl
    subst hc
    refine wpList_append_own_none hgd s x 34 ho base 5 i0 1 Try.uB hi0 v n (L.map byteV) hs hown hx (key v w ?_ (World.grownBy.refl w _))
    simpa using hown
  | some ad =>
    by_cases hm : 0 < m
    · obtain ⟨b, off, e, hb, hc⟩ := hB.at_ hm
      injection e with e
      subst e
      refine wpList_append_own w hgd s x 34 ho base 5 i0 _ 1 1 Try.uB hi0 hz0 hz1 hz2 rfl (by omega) v n (L.map byteV) hs hown ⟨b, off, none⟩ m c (M.map byteV) hx (by simp [hB.size]) (bytes_news hB.size hc) (bytes_one M) (by unfold maxLen; omega) (by omega) hbase ?_
      intro v' w' h1 h2 _
      exact key v' w' (by rw [List.map_append]; exact h1) h2
    · have hm0 : m = 0 := by omega
      subst hm0
      have hM : M = [] := List.length_eq_zero_iff.1 hB.size
      subst hM
      refine wpList_append_own w hgd s x 34 ho base 5 i0 _ 1 1 Try.uB hi0 hz0 hz1 hz2 rfl (by omega) v n (L.map byteV) hs hown ad 0 c [] hx (by simp) (fun j u hu => by simp at hu) (fun u hu => by cases hu) (by unfold maxLen; omega) (by omega) hbase ?_
      intro v' w' h1 h2 _
      exact key v' w' (by simpa using h1) h2

/-- What is known of a slice of bytes that came in. -/
structure Come (w : World) (a : Option Addr) (len cap : Nat) (L : List Nat) : Prop where
  by_ : By w a len L
  nil : a = none → cap = 0
  room : len ≤ cap
  max : cap ≤ 9223372036854775807
theorem come_of {w : World} {a : Option Addr} {len cap : Nat} {zs : List Int}
    (h : (a = none ∧ len = 0 ∧ cap = 0 ∧ zs = []) ∨ ∃ x, a = some x ∧ len ≤ cap ∧ cap ≤ maxLen ∧ zs.length = cap ∧ (∀ i, i < zs.length → w.cell? (x.add i) = some (.int .u8 (zs.getD i 0))) ∧ ∀ n ∈ zs, (Lit.int .u8 n).wf = true) :
    Come w a len cap ((zs.take len).map Int.toNat) := by
  have hb := by_of h
  rcases h with ⟨rfl, rfl, rfl, rfl⟩ | ⟨x, rfl, hl, hm, hz, hcell, hwz⟩
  · exact ⟨hb, fun _ => rfl, Nat.le_refl _, by omega⟩
  · unfold maxLen at hm
    exact ⟨hb, fun e => (nomatch e), hl, by omega⟩

end Go.Proofs.Ytnmfigcemknjbaa
