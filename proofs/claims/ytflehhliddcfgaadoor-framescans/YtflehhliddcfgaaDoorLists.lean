/-
  LISTS OF MESSAGES THAT ARE PUT TOGETHER, whoever's their Bodies are: those that came in and those that were found lie below block H, the list's own row does not.
-/
import Derived.Test.YtflehhliddcfgaaDoorAlive
namespace Go.Proofs.YtflehhliddcfgaaDoor
open Go.RowKit Go.Lib Go.Deep
set_option linter.unusedVariables false
set_option linter.unusedSimpArgs false

theorem By.sepz {w w' : World} {a : Option Addr} {len : Nat} {L : List Nat} {S : Nat → Prop} (h : By w a len L) (k : Sep w w' S) (hS : 0 < len → ∀ x, a = some x → ¬ S x.block) : By w' a len L := by
  obtain ⟨h1, h2, h3, h4⟩ := h
  refine ⟨h1, h2, h3, fun hp => ?_⟩
  obtain ⟨b, off, rfl, hb, hc⟩ := h4 hp
  exact ⟨b, off, rfl, Nat.lt_of_lt_of_le hb k.size, fun i hi => (World.cell?_of_block (w := w) (a := ⟨b, off + i, none⟩) (k.block b hb (hS hp _ rfl))).trans (hc i hi)⟩
/-- A slice of bytes whose bytes, if it has any, lie below block H. -/
structure Bz (w : World) (H : Nat) (a : Option Addr) (n c : Nat) (L : List Nat) : Prop where
  come : Come w a n c L
  at_ : 0 < n → ∀ x, a = some x → x.block < H
theorem bz_of {w : World} {a : Option Addr} {n c : Nat} {L : List Nat} (h : Come w a n c L) : Bz w w.heap.size a n c L :=
  ⟨h, fun hp x hx => by
    obtain ⟨b, off, e, hb, _⟩ := h.by_.at_ hp
    rw [e] at hx
    injection hx with hx
    subst hx
    exact hb⟩
theorem Bz.sep {w w' : World} {H : Nat} {S : Nat → Prop} {a : Option Addr} {n c : Nat} {L : List Nat} (h : Bz w H a n c L) (k : Sep w w' S) (hS : ∀ q, q < H → ¬ S q) : Bz w' H a n c L :=
  ⟨⟨h.come.by_.sepz k (fun hp x hx => hS _ (h.at_ hp x hx)), h.come.nil, h.come.room, h.come.max⟩, h.at_⟩
def zCells (w : World) (H : Nat) : List Value → List Msg → Prop
  | xs, [] => xs = []
  | xs, m :: l => ∃ a c ys, xs = .int .u8 (m.1 : Int) :: .int .u32 (m.2.1 : Int) :: .slice a m.2.2.length c :: ys ∧ Bz w H a m.2.2.length c m.2.2 ∧ zCells w H ys l
theorem zCells.sep {w w' : World} {H : Nat} {S : Nat → Prop} (k : Sep w w' S) (hS : ∀ q, q < H → ¬ S q) : ∀ {xs : List Value} {l : List Msg}, zCells w H xs l → zCells w' H xs l
  | xs, [], h => h
  | xs, m :: l, h => by
    obtain ⟨a, c, ys, h1, h2, h3⟩ := h
    exact ⟨a, c, ys, h1, h2.sep k hS, zCells.sep k hS h3⟩
theorem zCells.mono {w : World} {H H' : Nat} (hH : H ≤ H') : ∀ {xs : List Value} {l : List Msg}, zCells w H xs l → zCells w H' xs l
  | xs, [], h => h
  | xs, m :: l, h => by
    obtain ⟨a, c, ys, h1, h2, h3⟩ := h
    exact ⟨a, c, ys, h1, ⟨h2.come, fun hp x hx => Nat.lt_of_lt_of_le (h2.at_ hp x hx) hH⟩, zCells.mono hH h3⟩
theorem zCells.append {w : World} {H : Nat} : ∀ {xs ys : List Value} {l k : List Msg}, zCells w H xs l → zCells w H ys k → zCells w H (xs ++ ys) (l ++ k)
  | xs, ys, [], k, h, h' => by have : xs = [] := h; subst this; exact h'
  | xs, ys, m :: l, k, h, h' => by
    obtain ⟨a, c, zs, rfl, h2, h3⟩ := h
    exact ⟨a, c, zs ++ ys, rfl, h2, zCells.append h3 h'⟩
theorem zCells.length {w : World} {H : Nat} : ∀ {xs : List Value} {l : List Msg}, zCells w H xs l → xs.length = l.length * 3
  | xs, [], h => by have : xs = [] := h; subst this; rfl
  | xs, m :: l, h => by
    obtain ⟨a, c, zs, rfl, h2, h3⟩ := h
    have := zCells.length h3
    simp; omega
theorem zCells.at_ {w : World} {H : Nat} : ∀ {xs : List Value} {l : List Msg} (i : Nat) (m : Msg), zCells w H xs l → l[i]? = some m → ∃ a c, xs[i * 3]? = some (.int .u8 (m.1 : Int)) ∧ xs[i * 3 + 1]? = some (.int .u32 (m.2.1 : Int)) ∧ xs[i * 3 + 2]? = some (.slice a m.2.2.length c) ∧ Come w a m.2.2.length c m.2.2
  | xs, [], i, m, h, hi => by simp at hi
  | xs, m' :: l, 0, m, h, hi => by
    obtain ⟨a, c, zs, rfl, h2, h3⟩ := h
    have : m' = m := by simpa using hi
    subst this
    exact ⟨a, c, rfl, rfl, rfl, h2.come⟩
  | xs, m' :: l, i + 1, m, h, hi => by
    obtain ⟨a, c, zs, rfl, h2, h3⟩ := h
    obtain ⟨a', c', k1, k2, k3, k4⟩ := zCells.at_ i m h3 (by simpa using hi)
    exact ⟨a', c', by rw [show (i + 1) * 3 = i * 3 + 3 by omega]; simpa using k1, by rw [show (i + 1) * 3 + 1 = i * 3 + 1 + 3 by omega]; simpa using k2, by rw [show (i + 1) * 3 + 2 = i * 3 + 2 + 3 by omega]; simpa using k3, k4⟩
theorem zCells.one' {w : World} {H : Nat} : ∀ {xs : List Value} {l : List Msg}, zCells w H xs l → ∀ u ∈ xs, u.oneCell' = true
  | xs, [], h, u, hu => by have : xs = [] := h; subst this; cases hu
  | xs, m :: l, h, u, hu => by
    obtain ⟨a, c, zs, rfl, h2, h3⟩ := h
    simp only [List.mem_cons] at hu
    rcases hu with rfl | rfl | rfl | hu
    · rfl
    · rfl
    · rfl
    · exact zCells.one' h3 u hu
/-- Messages that lie below block H. -/
structure Mz (w : World) (H : Nat) (la : Option Addr) (n lc : Nat) (l : List Msg) : Prop where
  ex : ∃ xs, zCells w H xs l ∧ (0 < n → ∃ b off, la = some ⟨b, off, none⟩ ∧ b < H ∧ ∀ j u, xs[j]? = some u → w.cell? ⟨b, off + j, none⟩ = some u)
  size : l.length = n
  nil : la = none → lc = 0
  le : H ≤ w.heap.size
theorem Mz.sep {w w' : World} {H : Nat} {S : Nat → Prop} {la : Option Addr} {n lc : Nat} {l : List Msg} (h : Mz w H la n lc l) (k : Sep w w' S) (hS : ∀ q, q < H → ¬ S q) : Mz w' H la n lc l := by
  obtain ⟨xs, h1, h2⟩ := h.ex
  refine ⟨⟨xs, h1.sep k hS, fun hp => ?_⟩, h.size, h.nil, Nat.le_trans h.le k.size⟩
  obtain ⟨b, off, e, hb, hc⟩ := h2 hp
  exact ⟨b, off, e, hb, fun j u hu => (World.cell?_of_block (w := w) (a := ⟨b, off + j, none⟩) (k.block b (Nat.lt_of_lt_of_le hb h.le) (hS b hb))).trans (hc j u hu)⟩
theorem Mz.kept {w w' : World} {H : Nat} {la : Option Addr} {n lc : Nat} {l : List Msg} (h : Mz w H la n lc l) (k : Kept w w' none) : Mz w' H la n lc l := h.sep (S := fun _ => False) (Sep.kept k) (fun _ _ x => x)
theorem Mz.mono {w : World} {H H' : Nat} {la : Option Addr} {n lc : Nat} {l : List Msg} (h : Mz w H la n lc l) (hH : H ≤ H') (hle : H' ≤ w.heap.size) : Mz w H' la n lc l := by
  obtain ⟨xs, h1, h2⟩ := h.ex
  refine ⟨⟨xs, h1.mono hH, fun hp => ?_⟩, h.size, h.nil, hle⟩
  obtain ⟨b, off, e, hb, hc⟩ := h2 hp
  exact ⟨b, off, e, by omega, hc⟩
/-- From what came in. -/
theorem z_of_ms : ∀ (l : List Msg) (w : World) (b off : Nat), (∀ i m, l[i]? = some m → ∃ a c, w.cell? ⟨b, off + i * 3, none⟩ = some (.int .u8 (m.1 : Int)) ∧ w.cell? ⟨b, off + i * 3 + 1, none⟩ = some (.int .u32 (m.2.1 : Int)) ∧ w.cell? ⟨b, off + i * 3 + 2, none⟩ = some (.slice a m.2.2.length c) ∧ Come w a m.2.2.length c m.2.2) →
    ∃ xs, zCells w w.heap.size xs l ∧ ∀ j u, xs[j]? = some u → w.cell? ⟨b, off + j, none⟩ = some u
  | [], w, b, off, _ => ⟨[], rfl, fun j u h => by simp at h⟩
  | m :: l, w, b, off, h => by
    obtain ⟨xs, h1, h2⟩ := z_of_ms l w b (off + 3) (fun i m' hi => by
      obtain ⟨a, c, k1, k2, k3, k4⟩ := h (i + 1) m' (by simpa using hi)
      rw [show off + (i + 1) * 3 = off + 3 + i * 3 by omega] at k1 k2 k3
      exact ⟨a, c, k1, k2, k3, k4⟩)
    obtain ⟨a, c, k1, k2, k3, k4⟩ := h 0 m rfl
    refine ⟨_, ⟨a, c, xs, rfl, bz_of k4, h1⟩, fun j u hu => ?_⟩
    match j, hu with
    | 0, hu => have e : u = .int .u8 (m.1 : Int) := by simpa using hu.symm
               subst e; simpa using k1
    | 1, hu => have e : u = .int .u32 (m.2.1 : Int) := by simpa using hu.symm
               subst e; simpa using k2
    | 2, hu => have e : u = .slice a m.2.2.length c := by simpa using hu.symm
               subst e; simpa using k3
    | j + 3, hu =>
      have := h2 j u (by simpa using hu)
      rw [show off + (j + 3) = off + 3 + j by omega]; exact this
theorem Ms.mz {w : World} {la : Option Addr} {n lc : Nat} {l : List Msg} (h : Ms w la n l) (hn : la = none → lc = 0) : Mz w w.heap.size la n lc l := by
  by_cases hp : 0 < n
  · obtain ⟨b, off, rfl, hb, hc⟩ := h.at_ hp
    obtain ⟨xs, h1, h2⟩ := z_of_ms l w b off hc
    exact ⟨⟨xs, h1, fun _ => ⟨b, off, rfl, hb, h2⟩⟩, h.size, hn, Nat.le_refl _⟩
  · have e : l = [] := List.length_eq_zero_iff.1 (by have := h.size; omega)
    subst e
    exact ⟨⟨[], rfl, fun h => absurd h hp⟩, h.size, hn, Nat.le_refl _⟩
theorem Ml.mz {w : World} {P : Nat → Prop} {la : Option Addr} {n lc : Nat} {l : List Msg} (h : Ml w P la n lc l) : Mz w w.heap.size la n lc l := h.ms.mz (fun e => (h.room.2.2 e).2)
/-- A list of the call's own, in a row at H or behind it. -/
structure Mj (w : World) (H : Nat) (la : Option Addr) (n lc : Nat) (l : List Msg) : Prop where
  ex : ∃ xs, w.ownsRow H 30 3 (.slice la n lc) n xs ∧ zCells w H xs l
  size : l.length = n
theorem Mj.nil (w : World) (H : Nat) : Mj w H none 0 0 [] := ⟨⟨[], World.ownsRow_nil _ _ _ _, rfl⟩, rfl⟩
theorem Mj.ms {w : World} {H : Nat} {la : Option Addr} {n lc : Nat} {l : List Msg} (h : Mj w H la n lc l) : Ms w la n l := by
  obtain ⟨xs, h1, h2⟩ := h.ex
  rcases id h1.2 with ⟨e, e2⟩ | ⟨g, cap, cur, e, hb, hg, k1, k2, k3, k4⟩
  · exact ⟨h.size, by omega, fun hp => by omega⟩
  · injection e with e1 e2 e3
    subst e1 e3
    unfold maxLen at k2
    refine ⟨h.size, by omega, fun hp => ⟨g, 0, rfl, (h1.lt g rfl).2, fun i m hm => ?_⟩⟩
    obtain ⟨a, c, q1, q2, q3, q4⟩ := h2.at_ i m hm
    have hcell : ∀ j u, xs[j]? = some u → w.cell? ⟨g, 0 + j, none⟩ = some u := fun j u hu => by
      have := h1.cells (g := g) rfl j u hu
      rw [Addr.add_lit] at this
      exact this
    exact ⟨a, c, hcell _ _ q1, hcell _ _ q2, hcell _ _ q3, q4⟩
theorem wpList_mjoin {ops : Array Oper} {rest : List Oper} {o : Oper} {act : Act} {Q : Exit → Act → World → Prop} {w : World} (hgd : Region.wanted o (yielded ops act.tmps) = true) (s x : Operand)
    (ho : o.op = .call { callee := .builtin .append, args := #[s, x], argTypes := #[31, 31] })
    (H : Nat) (la : Option Addr) (n lc : Nat) (l : List Msg) (hs : act.eval s = .slice la n lc) (hown : Mj w H la n lc l)
    (a : Option Addr) (m c : Nat) (k : List Msg) (hx : act.eval x = .slice a m c) (hB : Mz w H a m c k)
    (hnm : n + m ≤ 1000000)
    (h : ∀ la' lc' w', Mj w' H la' (n + m) lc' (l ++ k) → Sep w w' (fun q => H ≤ q) → wpList Tryd.prog ops Q rest (act.put o.dst (.slice la' (n + m) lc')) w') : wpList Tryd.prog ops Q (o :: rest) act w := by
  obtain ⟨i0, hi0, hz0, hz1, hz2⟩ := info_parts Tryd.infoM
  obtain ⟨xs, ho1, ho2⟩ := hown.ex
  obtain ⟨ys, hy1, hy2⟩ := hB.ex
  have hH := hB.le
  have key : ∀ v' w', w'.ownsRow H 30 3 v' (n + m) (xs ++ ys) → w.grownBy w' (Value.slice la n lc).ownBlock → wpList Tryd.prog ops Q rest (act.put o.dst v') w' := by
    intro v' w' h1 h2
    have hsep : Sep w w' (fun q => H ≤ q) := Sep.row h2 (fun i _ e => (ho1.lt i e).1)
    have hz : zCells w' H (xs ++ ys) (l ++ k) := (ho2.append hy1).sep hsep (fun q hq => by omega)
    have hf : ∃ la' lc', v' = .slice la' (n + m) lc' := by
      rcases id h1.2 with ⟨e, e2⟩ | ⟨g, cap, cur, e, _⟩
      · exact ⟨none, 0, by rw [e, e2]⟩
      · exact ⟨_, _, e⟩
    obtain ⟨la', lc', rfl⟩ := hf
    exact h la' lc' w' ⟨⟨xs ++ ys, h1, hz⟩, by rw [List.length_append, hown.size, hB.size]⟩ hsep
  refine wpList_step fun K hK => ?_
  rw [if_pos hgd]
  cases a with
  | none =>
    have hm0 : m = 0 := by
      by_cases hm : 0 < m
      · obtain ⟨b, off, e, _⟩ := hy2 hm
        cases e
      · omega
    subst hm0
    have hk : k = [] := List.length_eq_zero_iff.1 hB.size
    subst hk
    have hys : ys = [] := hy1
    subst hys
    have hc := hB.nil rfl
    subst hc
    have hrun := run_append_owned_none (P := Tryd.prog) (w := w) H 31 o.type 30 i0 3 Tryd.uML hi0 (.slice la n lc) n xs ho1
    unfold Oper.wp
    simp [execOp, ho, resolve, invoke, builtin, hs, hx, hrun, Result.andThen]
    exact hK _ _ (key _ w (by simpa using ho1) (World.grownBy.refl w _))
  | some ad =>
    by_cases hm : 0 < m
    · obtain ⟨b, off, e, hb, hc⟩ := hy2 hm
      injection e with e
      subst e
      refine wp_append_own w s x 31 ho H 30 i0 _ 3 32 Tryd.uML hi0 hz0 hz1 hz2 rfl (by omega) (.slice la n lc) n xs hs ho1 ⟨b, off, none⟩ m c ys hx (by rw [hy1.length, hB.size]) (fun j u hu => by rw [Addr.add_lit]; exact hc j u hu) hy1.one' (by unfold maxLen; omega) (by omega) hH ?_
      intro v' w' h1 h2 _
      exact hK _ _ (key v' w' h1 h2)
    · have hm0 : m = 0 := by omega
      subst hm0
      have hk : k = [] := List.length_eq_zero_iff.1 hB.size
      subst hk
      have hys : ys = [] := hy1
      subst hys
      refine wp_append_own w s x 31 ho H 30 i0 _ 3 32 Tryd.uML hi0 hz0 hz1 hz2 rfl (by omega) (.slice la n lc) n xs hs ho1 ad 0 c [] hx (by simp) (fun j u hu => by simp at hu) (fun u hu => by cases hu) (by unfold maxLen; omega) (by omega) hH ?_
      intro v' w' h1 h2 _
      exact hK _ _ (key v' w' h1 h2)

end Go.Proofs.YtflehhliddcfgaaDoor
