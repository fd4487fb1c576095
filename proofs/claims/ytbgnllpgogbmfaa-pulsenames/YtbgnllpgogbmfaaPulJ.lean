/-
  append(own, b...): the truths of the one, then those of the other, in memory of the call's own.
-/
import Derived.Test.YtbgnllpgogbmfaaPulA
import Derived.Test.YtbgnllpgogbmfaaPulN
import Derived.Laws.AppendOwnNone
namespace Go.Proofs.Ytbgnllpgogbmfaa
open Go.RowKit Go.Lib Go.Deep
set_option linter.unusedVariables false
set_option linter.unusedSimpArgs false

theorem wpList_bjoin {ops : Array Oper} {rest : List Oper} {o : Oper} {act : Act} {Q : Exit → Act → World → Prop} {w : World} (hgd : o.guard = none ∨ Region.wanted o (yielded ops act.tmps) = true) (s x : Operand)
    (ho : o.op = .call { callee := .builtin .append, args := #[s, x], argTypes := #[27, 27] })
    (base : Nat) (v : Value) (n : Nat) (L : List Bool) (hs : act.eval s = v) (hown : w.ownsRow base 4 1 v n (L.map boolV))
    (a : Option Addr) (m c : Nat) (M : List Bool) (hx : act.eval x = .slice a m c) (hB : Bo w a m M) (ha : a = none → c = 0)
    (hnm : n + m ≤ 70368744177664) (hbase : base ≤ w.heap.size) (hg : o.guard = none)
    (h : ∀ a' cap w', Bow w' base a' (n + m) cap (L ++ M) → w.grownBy w' v.ownBlock → wpList Try.prog ops Q rest (act.put o.dst (.slice a' (n + m) cap)) w') : wpList Try.prog ops Q (o :: rest) act w := by
  obtain ⟨i0, hi0, hz0, hz1, hz2⟩ := info_parts Try.info4b
  have key : ∀ v' w', w'.ownsRow base 4 1 v' (n + m) ((L ++ M).map boolV) → w.grownBy w' v.ownBlock → wpList Try.prog ops Q rest (act.put o.dst v') w' := by
    intro v' w' h1 h2
    obtain ⟨a', cap, rfl, hm⟩ := bow_of h1
    exact h a' cap w' hm h2
  cases a with
  | none =>
    have hm0 : m = 0 := by
      by_cases hm : 0 < m
      · obtain ⟨b, off, e, _⟩ := hB.at_ hm
        cases e
      · omega
    subst hm0
    have hM : M = [] := List.length_eq_zero_iff.1 hB.size
    subst hM
    have hc := ha rfl
    subst hc
    refine wpList_append_own_none hg s x 27 ho base 4 i0 1 Try.underlying27 hi0 v n (L.map boolV) hs hown hx (key v w ?_ (World.grownBy.refl w _))
    simpa using hown
  | some ad =>
    by_cases hm : 0 < m
    · obtain ⟨b, off, e, hb, hc⟩ := hB.at_ hm
      injection e with e
      subst e
      refine wpList_append_own w hg s x 27 ho base 4 i0 _ 1 1 Try.underlying27 hi0 hz0 hz1 hz2 rfl (by omega) v n (L.map boolV) hs hown ⟨b, off, none⟩ m c (M.map boolV) hx (by simp [hB.size]) (truths_news hB.size hc) (truths_one M) (by unfold maxLen; omega) (by omega) hbase ?_
      intro v' w' h1 h2 _
      exact key v' w' (by rw [List.map_append]; exact h1) h2
    · have hm0 : m = 0 := by omega
      subst hm0
      have hM : M = [] := List.length_eq_zero_iff.1 hB.size
      subst hM
      refine wpList_append_own w hg s x 27 ho base 4 i0 _ 1 1 Try.underlying27 hi0 hz0 hz1 hz2 rfl (by omega) v n (L.map boolV) hs hown ad 0 c [] hx (by simp) (fun j u hu => by simp at hu) (fun u hu => by cases hu) (by unfold maxLen; omega) (by omega) hbase ?_
      intro v' w' h1 h2 _
      exact key v' w' (by simpa using h1) h2
/-- append([]bool(nil), b...). -/
theorem wpList_bjoin0 {ops : Array Oper} {rest : List Oper} {o : Oper} {act : Act} {Q : Exit → Act → World → Prop} {w : World} (hg : o.guard = none) (s x : Operand)
    (ho : o.op = .call { callee := .builtin .append, args := #[s, x], argTypes := #[27, 27] })
    (base : Nat) (hs : act.eval s = .slice none 0 0) (a : Option Addr) (m c : Nat) (M : List Bool) (hx : act.eval x = .slice a m c) (hB : Bo w a m M) (ha : a = none → c = 0)
    (hm : m ≤ 70368744177664) (hbase : base ≤ w.heap.size)
    (h : ∀ a' cap w', Bow w' base a' m cap M → Kept w w' none → wpList Try.prog ops Q rest (act.put o.dst (.slice a' m cap)) w') : wpList Try.prog ops Q (o :: rest) act w := by
  refine wpList_bjoin (.inl hg) s x ho base (.slice none 0 0) 0 [] hs (World.ownsRow_nil _ _ _ _) a m c M hx hB ha (by omega) hbase hg ?_
  intro a' cap w' h1 h2
  rw [Nat.zero_add, List.nil_append] at h1
  rw [Nat.zero_add]
  exact h a' cap w' h1 h2

end Go.Proofs.Ytbgnllpgogbmfaa
