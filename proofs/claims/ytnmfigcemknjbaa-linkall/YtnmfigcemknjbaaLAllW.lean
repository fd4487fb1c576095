/-
  THE WALK of LinkAll.
-/
import Derived.Test.YtnmfigcemknjbaaLFreW
namespace Go.Proofs.Ytnmfigcemknjbaa
open Go.RowKit Go.Lib Go.Deep
set_option linter.unusedVariables false
set_option linter.unusedSimpArgs false

/-- What comes from the message of place a on, d messages, each again behind itself where ag says so. -/
def nwL (f : Nat) (ag : Nat → Bool) (a : Nat) : Nat → List Msg
  | 0 => []
  | d + 1 => nwL f ag a d ++ ofL [f + (a + d)] ++ (if ag (a + d) = true then ofL [f + (a + d), f] else [])
theorem nw_len (f : Nat) (ag : Nat → Bool) (a : Nat) : ∀ d, (nwL f ag a d).length ≤ 3 * d
  | 0 => by simp [nwL]
  | d + 1 => by
    have := nw_len f ag a d
    unfold nwL
    rw [List.length_append, List.length_append, ofL_len]
    split
    · rw [ofL_len]; simp only [List.length_cons, List.length_nil]; omega
    · simp only [List.length_cons, List.length_nil]; omega
theorem nw_body (f : Nat) (ag : Nat → Bool) (a : Nat) : ∀ d, ∀ m ∈ nwL f ag a d, m.2.2 = []
  | 0, m, h => by simp [nwL] at h
  | d + 1, m, h => by
    have ho : ∀ l : List Nat, m ∈ ofL l → m.2.2 = [] := fun l h => by
      unfold ofL at h
      simp only [List.mem_map] at h
      obtain ⟨q, _, rfl⟩ := h
      rfl
    unfold nwL at h
    rcases List.mem_append.1 h with h | h
    · rcases List.mem_append.1 h with h | h
      · exact nw_body f ag a d m h
      · exact ho _ h
    · by_cases q : ag (a + d) = true
      · rw [if_pos q] at h; exact ho _ h
      · rw [if_neg q] at h; cases h
theorem nw_seq (f : Nat) (ag : Nat → Bool) (a : Nat) : ∀ d, ∀ m ∈ nwL f ag a d, m.1 = 2 ∧ m.2.1 ≤ f + (a + d)
  | 0, m, h => by simp [nwL] at h
  | d + 1, m, h => by
    have ho : ∀ l : List Nat, (∀ q ∈ l, q ≤ f + (a + (d + 1))) → m ∈ ofL l → m.1 = 2 ∧ m.2.1 ≤ f + (a + (d + 1)) := fun l hl h => by
      unfold ofL at h
      simp only [List.mem_map] at h
      obtain ⟨q, hq, rfl⟩ := h
      exact ⟨rfl, hl q hq⟩
    unfold nwL at h
    rcases List.mem_append.1 h with h | h
    · rcases List.mem_append.1 h with h | h
      · have := nw_seq f ag a d m h; omega
      · exact ho _ (by simp <;> omega) h
    · by_cases q : ag (a + d) = true
      · rw [if_pos q] at h; exact ho _ (by simp <;> omega) h
      · rw [if_neg q] at h; cases h
/-- A link behind a messages taken. -/
structure Lka (s : Lk) (f a : Nat) : Prop where
  may : mayK s
  no : a = 0 → s.any = false
  yes : 0 < a → s.any = true ∧ s.last + 1 = f + a
theorem nw_run (f : Nat) (ag : Nat → Bool) (a : Nat) (s : Lk) (h0 : a = 0 → s.any = false) (h1 : 0 < a → s.any = true ∧ s.last + 1 = f + a) : ∀ d, (ruK s (nwL f ag a d)).2 = ofL ((List.range d).map fun j => f + (a + j)) ∧ (d = 0 → (ruK s (nwL f ag a d)).1 = s) ∧ (0 < d → (ruK s (nwL f ag a d)).1 = ⟨true, f + (a + d) - 1, 0⟩)
  | 0 => ⟨rfl, fun _ => rfl, fun h => absurd h (by omega)⟩
  | d + 1 => by
    obtain ⟨i1, i2, i3⟩ := nw_run f ag a s h0 h1 d
    have e1 : ruK s (nwL f ag a d ++ ofL [f + (a + d)]) = (⟨true, f + (a + d), 0⟩, ofL ((List.range (d + 1)).map fun j => f + (a + j))) := by
      have e2 : ofL [f + (a + d)] = [(2, f + (a + d), [])] := rfl
      rw [e2, ru_snoc, stK_new]
      · rw [i1, List.range_succ, List.map_append]
        unfold ofL
        rw [List.map_append]
        rfl
      · intro q
        have q1 := q.1
        have q2 := q.2
        by_cases hd : d = 0
        · rw [i2 hd] at q1 q2
          by_cases ha : a = 0
          · rw [h0 ha] at q1; cases q1
          · have := (h1 (by omega)).2
            dsimp only at q2
            omega
        · rw [i3 (by omega)] at q2
          dsimp only at q2
          omega
    have e3 : ruK s (nwL f ag a (d + 1)) = ruK s (nwL f ag a d ++ ofL [f + (a + d)]) := by
      have e5 : nwL f ag a (d + 1) = nwL f ag a d ++ ofL [f + (a + d)] ++ (if ag (a + d) = true then ofL [f + (a + d), f] else []) := rfl
      rw [e5]
      by_cases q : ag (a + d) = true
      · rw [if_pos q]
        have e4 : nwL f ag a d ++ ofL [f + (a + d)] ++ ofL [f + (a + d), f] = nwL f ag a d ++ ofL [f + (a + d)] ++ [(2, f + (a + d), [])] ++ [(2, f, [])] := by
          unfold ofL; simp
        rw [e4, ru_snoc, ru_snoc, e1, stK_old (m := (2, f + (a + d), [])) ⟨rfl, Nat.le_refl _⟩, stK_old (m := (2, f, [])) ⟨rfl, by show f ≤ f + (a + d); omega⟩]
      · rw [if_neg q, List.append_nil]
    rw [e3, e1]
    exact ⟨rfl, fun h => by omega, fun _ => by show (⟨true, f + (a + d), 0⟩ : Lk) = ⟨true, f + (a + (d + 1)) - 1, 0⟩; congr 1⟩
/-- All of them are taken. -/
theorem nw_next {s : Lk} {f a : Nat} (h : Lka s f a) (ag : Nat → Bool) (d : Nat) (hd : 0 < d) (hd2 : d ≤ 41) : nxE s (nwL f ag a d) = 0 ∧ nxT s (nwL f ag a d) = ofL ((List.range d).map fun j => f + (a + j)) ∧ Lka (nxL s (nwL f ag a d)) f (a + d) := by
  have hE : nxE s (nwL f ag a d) = 0 := nx_ok h.may (by have := nw_len f ag a d; omega) (long_no (fun m hm => by rw [nw_body f ag a d m hm]; simp))
  obtain ⟨r1, _, r3⟩ := nw_run f ag a (ageK s) h.no h.yes d
  refine ⟨hE, ?_, nxL_may hE, fun q => by omega, fun _ => ?_⟩
  · unfold nxT; rw [if_pos hE]; exact r1
  · unfold nxL; rw [if_pos hE, r3 hd]; exact ⟨rfl, by show f + (a + d) - 1 + 1 = f + (a + d); omega⟩
theorem range_at (f a d k : Nat) (hk : k < d) : (ofL ((List.range d).map fun j => f + (a + j)))[k]? = some (2, f + (a + k), []) := by
  unfold ofL
  rw [List.map_map, List.getElem?_map, List.getElem?_range hk]
  rfl
theorem range_len (f a d : Nat) : (ofL ((List.range d).map fun j => f + (a + j))).length = d := by simp [ofL]

/-- An own list, as what is appended. -/
theorem Mw.src {w0 w : World} {k : List Msg} {a : Option Addr} {n c : Nat} (h : Mw w0 w k (.slice a n c)) (hp : 0 < n) : ∃ g ys, a = some ⟨g, 0, Option.none⟩ ∧ k.length = n ∧ (∀ j u, ys[j]? = some u → w.cell? ⟨g, 0 + j, Option.none⟩ = some u) ∧ nCells w w0.heap.size ys k := by
  obtain ⟨⟨xs, o, hx⟩, q⟩ := h
  rcases id o.2 with ⟨e, e0⟩ | ⟨b, cap, cur', e, hb, hh, h1, h2, h3, h4⟩
  · injection e with e1 e2 e3
    omega
  · injection e with e1 e2 e3
    subst e1 e2 e3
    refine ⟨b, xs, rfl, rfl, fun j u hu => ?_, hx⟩
    have := o.cells (g := b) rfl j u hu
    rw [Addr.add_lit] at this
    exact this
/-- append(now, other...). -/
theorem Mw.add {w0 w1 w2 : World} {l k : List Msg} {v : Value} {a : Option Addr} {n c : Nat} (h : Mw w0 w1 l v) (hk : Kept w1 w2 Option.none) (hs : Mw w1 w2 k (.slice a n c)) (hp : 0 < n) (hn : l.length + k.length ≤ 100000) (ty : TypeId) :
    ∃ v' w', (Builtin.append_ #[25, 25] ty #[v, .slice a n c]).run Try.prog w2 = .ok v' w' ∧ Mw w0 w' (l ++ k) v' ∧ Kept w2 w' v.ownBlock ∧ NoB w2 5 v.ownBlock ∧ NoB w2 24 v.ownBlock := by
  obtain ⟨g, ys, rfl, rfl, hc, hy⟩ := hs.src hp
  exact (h.keptN hk).join hc (hy.base h.kept.size) hn ty
structure Bls (w : World) (a : Option Addr) (n : Nat) (B : List Bool) : Prop where
  size : B.length = n
  lie : Lie w a n 1 (fun i _ => .bool (B.getD i false))
theorem Bls.kept {w w' : World} {a : Option Addr} {n : Nat} {B : List Bool} (h : Bls w a n B) (q : Kept w w' none) : Bls w' a n B := ⟨h.size, h.lie.kept q⟩
theorem Bls.at_ {w : World} {a : Option Addr} {n : Nat} {B : List Bool} (h : Bls w a n B) {k : Nat} (hk : k < n) : ∃ b off, a = some ⟨b, off, none⟩ ∧ b < w.heap.size ∧ w.cell? ⟨b, off + k, none⟩ = some (.bool (B.getD k false)) := by
  obtain ⟨b, off, e, hb, hc⟩ := h.lie.one (by omega)
  exact ⟨b, off, e, hb, hc k hk⟩
/-- How the loop stands. -/
structure Als (w wr : World) (B f a : Nat) (ag : Nat → Bool) (d : Nat) (s : Lk) (v : Value) : Prop where
  lb : Lb wr B s
  lk : Lka s f a
  mw : Mw w wr (nwL f ag a d) v
  le : w.heap.size ≤ B
  lt : s.last < 4294967296
theorem Als.keptN {w wr w' : World} {B f a d : Nat} {ag : Nat → Bool} {s : Lk} {v : Value} (h : Als w wr B f a ag d s v) (q : Kept wr w' none) : Als w w' B f a ag d s v := ⟨row_kept h.lb q (by simp), h.lk, h.mw.keptN q, h.le, h.lt⟩
def agB (again : List Bool) (i : Nat) : Bool := again.getD i false
theorem nw_add1 (f : Nat) (ag : Nat → Bool) (a d : Nat) (h : ag (a + d) = false) : nwL f ag a d ++ ofL [f + (a + d)] = nwL f ag a (d + 1) := by
  show _ = nwL f ag a d ++ ofL [f + (a + d)] ++ (if ag (a + d) = true then ofL [f + (a + d), f] else [])
  rw [if_neg (by rw [h]; decide), List.append_nil]
theorem nw_add2 (f : Nat) (ag : Nat → Bool) (a d : Nat) (h : ag (a + d) = true) : nwL f ag a d ++ ofL [f + (a + d)] ++ ofL [f + (a + d), f] = nwL f ag a (d + 1) := by
  show _ = nwL f ag a d ++ ofL [f + (a + d)] ++ (if ag (a + d) = true then ofL [f + (a + d), f] else [])
  rw [if_pos h]

end Go.Proofs.Ytnmfigcemknjbaa
