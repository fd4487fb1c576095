/-
  MESSAGES IN MEMORY; THE CONTRACTS of Feed and Scan.
-/
import Derived.Test.YtflehhliddcfgaaDoorReader
namespace Go.Proofs.YtflehhliddcfgaaDoor
open Go.RowKit Go.Lib Go.Deep
set_option linter.unusedVariables false
set_option linter.unusedSimpArgs false

/-- A slice of bytes in blocks P. -/
structure Bd (w : World) (P : Nat → Prop) (a : Option Addr) (n c : Nat) (L : List Nat) : Prop where
  come : Come w a n c L
  at_ : ∀ x, a = some x → P x.block ∧ x.block < w.heap.size
theorem Bd.sep {w w' : World} {P S : Nat → Prop} {a : Option Addr} {n c : Nat} {L : List Nat} (h : Bd w P a n c L) (k : Sep w w' S) (hS : ∀ q, P q → ¬ S q) : Bd w' P a n c L :=
  ⟨⟨h.come.by_.sep k (fun x hx => hS _ (h.at_ x hx).1), h.come.nil, h.come.room, h.come.max⟩, fun x hx => ⟨(h.at_ x hx).1, Nat.lt_of_lt_of_le (h.at_ x hx).2 k.size⟩⟩
theorem Bd.mono {w : World} {P Q : Nat → Prop} {a : Option Addr} {n c : Nat} {L : List Nat} (h : Bd w P a n c L) (hQ : ∀ q, q < w.heap.size → P q → Q q) : Bd w Q a n c L :=
  ⟨h.come, fun x hx => ⟨hQ _ (h.at_ x hx).2 (h.at_ x hx).1, (h.at_ x hx).2⟩⟩
theorem Mine.bd {w : World} {base : Nat} {a : Option Addr} {n c : Nat} {L : List Nat} (h : Mine w base a n c L) (hb : ∀ x ∈ L, x < 256) : Bd w (fun q => base ≤ q) a n c L :=
  ⟨h.come hb, fun x hx => by
    subst hx
    exact h.own.lt _ rfl⟩
/-- The cells of messages, their Bodies in blocks P. -/
def mCells (w : World) (P : Nat → Prop) : List Value → List Msg → Prop
  | xs, [] => xs = []
  | xs, m :: l => ∃ a c ys, xs = .int .u8 (m.1 : Int) :: .int .u32 (m.2.1 : Int) :: .slice a m.2.2.length c :: ys ∧ Bd w P a m.2.2.length c m.2.2 ∧ mCells w P ys l
theorem mCells.sep {w w' : World} {P S : Nat → Prop} (k : Sep w w' S) (hS : ∀ q, P q → ¬ S q) : ∀ {xs : List Value} {l : List Msg}, mCells w P xs l → mCells w' P xs l
  | xs, [], h => h
  | xs, m :: l, h => by
    obtain ⟨a, c, ys, h1, h2, h3⟩ := h
    exact ⟨a, c, ys, h1, h2.sep k hS, mCells.sep k hS h3⟩
theorem mCells.mono {w : World} {P Q : Nat → Prop} (hQ : ∀ q, q < w.heap.size → P q → Q q) : ∀ {xs : List Value} {l : List Msg}, mCells w P xs l → mCells w Q xs l
  | xs, [], h => h
  | xs, m :: l, h => by
    obtain ⟨a, c, ys, h1, h2, h3⟩ := h
    exact ⟨a, c, ys, h1, h2.mono hQ, mCells.mono hQ h3⟩
theorem mCells.append {w : World} {P : Nat → Prop} : ∀ {xs ys : List Value} {l k : List Msg}, mCells w P xs l → mCells w P ys k → mCells w P (xs ++ ys) (l ++ k)
  | xs, ys, [], k, h, h' => by have : xs = [] := h; subst this; exact h'
  | xs, ys, m :: l, k, h, h' => by
    obtain ⟨a, c, zs, rfl, h2, h3⟩ := h
    exact ⟨a, c, zs ++ ys, rfl, h2, mCells.append h3 h'⟩
theorem mCells.one {w : World} {P : Nat → Prop} {m : Msg} {a : Option Addr} {c : Nat} (h : Bd w P a m.2.2.length c m.2.2) : mCells w P [.int .u8 (m.1 : Int), .int .u32 (m.2.1 : Int), .slice a m.2.2.length c] [m] := ⟨a, c, [], rfl, h, rfl⟩
theorem mCells.length {w : World} {P : Nat → Prop} : ∀ {xs : List Value} {l : List Msg}, mCells w P xs l → xs.length = l.length * 3
  | xs, [], h => by have : xs = [] := h; subst this; rfl
  | xs, m :: l, h => by
    obtain ⟨a, c, zs, rfl, h2, h3⟩ := h
    have := mCells.length h3
    simp; omega
theorem mCells.at_ {w : World} {P : Nat → Prop} : ∀ {xs : List Value} {l : List Msg} (i : Nat) (m : Msg), mCells w P xs l → l[i]? = some m → ∃ a c, xs[3 * i]? = some (.int .u8 (m.1 : Int)) ∧ xs[3 * i + 1]? = some (.int .u32 (m.2.1 : Int)) ∧ xs[3 * i + 2]? = some (.slice a m.2.2.length c) ∧ Bd w P a m.2.2.length c m.2.2
  | xs, [], i, m, h, hi => by simp at hi
  | xs, m' :: l, 0, m, h, hi => by
    obtain ⟨a, c, zs, rfl, h2, h3⟩ := h
    have : m' = m := by simpa using hi
    subst this
    exact ⟨a, c, rfl, rfl, rfl, h2⟩
  | xs, m' :: l, i + 1, m, h, hi => by
    obtain ⟨a, c, zs, rfl, h2, h3⟩ := h
    obtain ⟨a', c', k1, k2, k3, k4⟩ := mCells.at_ i m h3 (by simpa using hi)
    exact ⟨a', c', by rw [show 3 * (i + 1) = 3 * i + 3 by omega]; simpa using k1, by rw [show 3 * (i + 1) + 1 = 3 * i + 1 + 3 by omega]; simpa using k2, by rw [show 3 * (i + 1) + 2 = 3 * i + 2 + 3 by omega]; simpa using k3, k4⟩
theorem mCells.one' {w : World} {P : Nat → Prop} : ∀ {xs : List Value} {l : List Msg}, mCells w P xs l → ∀ u ∈ xs, u.oneCell' = true
  | xs, [], h, u, hu => by have : xs = [] := h; subst this; cases hu
  | xs, m :: l, h, u, hu => by
    obtain ⟨a, c, zs, rfl, h2, h3⟩ := h
    simp only [List.mem_cons] at hu
    rcases hu with rfl | rfl | rfl | hu
    · rfl
    · rfl
    · rfl
    · exact mCells.one' h3 u hu

/-- A list of messages of the call's own. -/
structure Ml (w : World) (P : Nat → Prop) (la : Option Addr) (n lc : Nat) (l : List Msg) : Prop where
  ex : ∃ xs, w.ownsRow 0 30 3 (.slice la n lc) n xs ∧ mCells w (fun q => P q ∧ (Value.slice la n lc).ownBlock ≠ some q) xs l
  size : l.length = n
  at_ : ∀ q, (Value.slice la n lc).ownBlock = some q → P q
theorem Ml.nil (w : World) (P : Nat → Prop) : Ml w P none 0 0 [] := ⟨⟨[], World.ownsRow_nil _ _ _ _, rfl⟩, rfl, fun q h => by simp [Value.ownBlock] at h⟩
theorem Ml.lt {w : World} {P : Nat → Prop} {la : Option Addr} {n lc : Nat} {l : List Msg} (h : Ml w P la n lc l) : ∀ q, (Value.slice la n lc).ownBlock = some q → q < w.heap.size := by
  obtain ⟨xs, h1, _⟩ := h.ex
  exact fun q hq => (h1.lt q hq).2
theorem Ml.sep {w w' : World} {P S : Nat → Prop} {la : Option Addr} {n lc : Nat} {l : List Msg} (h : Ml w P la n lc l) (k : Sep w w' S) (hS : ∀ q, P q → ¬ S q) : Ml w' P la n lc l := by
  obtain ⟨xs, h1, h2⟩ := h.ex
  exact ⟨⟨xs, own_sep h1 k (fun i hi => hS i (h.at_ i hi)), h2.sep k (fun q hq => hS q hq.1)⟩, h.size, h.at_⟩
theorem Ml.kept {w w' : World} {P : Nat → Prop} {la : Option Addr} {n lc : Nat} {l : List Msg} (h : Ml w P la n lc l) (k : Kept w w' none) : Ml w' P la n lc l :=
  h.sep (S := fun _ => False) (Sep.kept k) (fun _ _ x => x)
theorem Ml.mono {w : World} {P Q : Nat → Prop} {la : Option Addr} {n lc : Nat} {l : List Msg} (h : Ml w P la n lc l) (hQ : ∀ q, q < w.heap.size → P q → Q q) : Ml w Q la n lc l := by
  obtain ⟨xs, h1, h2⟩ := h.ex
  exact ⟨⟨xs, h1, h2.mono (fun q hq hp => ⟨hQ q hq hp.1, hp.2⟩)⟩, h.size, fun q hq => hQ q (h1.lt q hq).2 (h.at_ q hq)⟩
theorem Ml.room {w : World} {P : Nat → Prop} {la : Option Addr} {n lc : Nat} {l : List Msg} (h : Ml w P la n lc l) : n ≤ lc ∧ lc ≤ 9223372036854775807 ∧ (la = none → n = 0 ∧ lc = 0) := by
  obtain ⟨xs, h1, h2⟩ := h.ex
  rcases h1.2 with ⟨e, rfl⟩ | ⟨g, cap, cur, e, hb, hg, k1, k2, k3, k4⟩
  · injection e with e1 e2 e3
    subst e1 e3
    exact ⟨Nat.le_refl _, by omega, fun _ => ⟨rfl, rfl⟩⟩
  · injection e with e1 e2 e3
    subst e1 e3
    unfold maxLen at k2
    exact ⟨k1, by omega, fun e => (nomatch e)⟩
/-- Messages behind the list: what append leaves. -/
theorem Ml.grow {w w' : World} {P : Nat → Prop} {la : Option Addr} {n lc : Nat} {l k : List Msg} {xs ys : List Value} {g cap m : Nat} (h : Ml w P la n lc l)
    (hx : mCells w (fun q => P q ∧ (Value.slice la n lc).ownBlock ≠ some q) xs l) (hy : mCells w (fun q => P q ∧ (Value.slice la n lc).ownBlock ≠ some q) ys k) (hk : k.length = m)
    (ho : w'.ownsRow 0 30 3 (.slice (some ⟨g, 0, none⟩) (n + m) cap) (n + m) (xs ++ ys)) (hg : w.grownBy w' (Value.slice la n lc).ownBlock) (hat : (Value.slice la n lc).ownBlock = some g ∨ g = w.heap.size) (hP : P w.heap.size) :
    Ml w' P (some ⟨g, 0, none⟩) (n + m) cap (l ++ k) := by
  have hs : Sep w w' (fun q => (Value.slice la n lc).ownBlock = some q) := Sep.row hg (fun i _ e => e)
  refine ⟨⟨xs ++ ys, ho, ?_⟩, by rw [List.length_append, h.size, hk], ?_⟩
  · refine mCells.sep hs (fun q hq => ?_) (P := fun q => (P q ∧ (Value.slice (some ⟨g, 0, none⟩) (n + m) cap).ownBlock ≠ some q) ∧ (Value.slice la n lc).ownBlock ≠ some q) ?_ |> mCells.mono (fun q _ hq => hq.1)
    · exact hq.2
    · refine mCells.mono (fun q hq hp => ⟨⟨hp.1, ?_⟩, hp.2⟩) (hx.append hy)
      intro e
      have e : g = q := by simpa [Value.ownBlock] using e
      subst e
      rcases hat with h1 | h1
      · exact hp.2 h1
      · omega
  · intro q hq
    have e : g = q := by simpa [Value.ownBlock] using hq
    subst e
    rcases hat with h1 | h1
    · exact h.at_ _ h1
    · rw [h1]; exact hP

theorem Tryd.uML : Tryd.prog.underlying 31 = some (.slice 30) := by kernel_rfl
theorem Tryd.infoM : (Tryd.prog.info? 30).map (fun i => (i.zero, i.size, i.bytes)) = some (some (.agg #[.int .u8 0, .int .u32 0, .slice none 0 0]), 3, 32) := by kernel_rfl

theorem feed_count : ∀ (L : List Nat) (s : Rs), (L.foldl rst s).2.length ≤ s.2.length + L.length
  | [], s => by simp
  | x :: L, s => by
    have h := feed_count L (rst s x)
    rw [List.foldl_cons, List.length_cons]
    have : (rst s x).2.length ≤ s.2.length + 1 := by
      unfold rst
      split
      · rw [cutM_eq]
        split <;> simp
      · simp
    omega
theorem feedR_count (s : Pc) (L : List Nat) : (feedR s L).2.length ≤ L.length := by
  have := feed_count L (s, [])
  simpa [feedR] using this
theorem Table.sep {w w' : World} {S : Nat → Prop} (h : Table w) (k : Sep w w' S) (hS : ¬ S 0) : Table w' := fun i hi =>
  (World.cell?_of_block (w := w) (a := ⟨0, i, none⟩) (k.block 0 h.lt hS)).trans (h i hi)

end Go.Proofs.YtflehhliddcfgaaDoor
