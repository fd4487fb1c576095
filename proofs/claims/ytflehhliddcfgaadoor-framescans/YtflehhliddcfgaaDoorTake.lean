/-
  THE CONTRACTS of a piece: take, whole.
-/
import Derived.Test.YtflehhliddcfgaaDoorSep
namespace Go.Proofs.YtflehhliddcfgaaDoor
open Go.RowKit Go.Lib Go.Deep
set_option linter.unusedVariables false
set_option linter.unusedSimpArgs false

theorem Tryd.sM : True := trivial
/-- What take leaves. -/
abbrev Took (w w' : World) (b off : Nat) (T : TypeId) (n : Nat) (v : Value) (f : Nat → Value) (s' : Pc) : Prop :=
  ∃ v' f', Pce w' b off T n v' s' f' ∧ (∀ j, j < off → f' j = f j) ∧ Moved w v v' ∧ Sep w w' (PS b v)

set_option maxRecDepth 100000 in
set_option maxHeartbeats 1000000 in
theorem take_half {w : World} {b off : Nat} {T : TypeId} {n : Nat} {v : Value} {f : Nat → Value} (M : List Nat) (l : Bool) (h : Pce w b off T n v (M, false, l) f) :
    Calls Tryd.prog 29 #[.pointer (some ⟨b, off, none⟩), .int .u8 125] w fun e w' => e = .returned (.tuple #[]) ∧ Took w w' b off T n v f (M, true, l) := by
  have hc1 := h.row.cell (i := off + 1) (by have := h.fit; omega)
  rw [h.half] at hc1
  have hf1 := h.row.frozen (off + 1)
  go_enter Tryd.func29, Tryd.ntmps29
  go_wp2
  go_end0
  exact ⟨rfl, v, _, h.setHalf true, fun j hj => by rw [if_neg (by omega)], .inl rfl, (Sep.set _ _ _ _).mono (fun i _ e => .inl e)⟩

/-- The other ways without a byte more. -/
theorem take_end {w : World} {b off : Nat} {T : TypeId} {n : Nat} {v : Value} {f : Nat → Value} (M : List Nat) (l : Bool) (h : Pce w b off T n v (M, false, l) f) :
    Calls Tryd.prog 29 #[.pointer (some ⟨b, off, none⟩), .int .u8 126] w fun e w' => e = .returned (.tuple #[]) ∧ Took w w' b off T n v f (M, false, true) := by
  have hc1 := h.row.cell (i := off + 1) (by have := h.fit; omega)
  rw [h.half] at hc1
  have hc2 := h.row.cell (i := off + 2) (by have := h.fit; omega)
  have hf2 := h.row.frozen (off + 2)
  go_enter Tryd.func29, Tryd.ntmps29
  go_wp2
  go_end0
  exact ⟨rfl, v, _, h.setLost true, fun j hj => by rw [if_neg (by omega)], .inl rfl, (Sep.set _ _ _ _).mono (fun i _ e => .inl e)⟩
theorem sep_push {w w2 : World} {o : Obj} {v : Value} (hg : (w.alloc o).grownBy w2 v.ownBlock) : Sep w w2 (fun k => v.ownBlock = some k) :=
  (Sep.kept (S := fun k => v.ownBlock = some k) (World.grownBy_alloc w o none)).tr (Sep.row (S := fun k => v.ownBlock = some k) hg (fun i _ e => e)) (fun i _ e => e)
theorem took_push {w w2 : World} {b off : Nat} {T : TypeId} {n : Nat} {v : Value} {f : Nat → Value} {s : Pc} {x g cap : Nat} (h : Pce w b off T n v s f)
    (ho : w2.ownsRow 0 5 1 (.slice (some ⟨g, 0, none⟩) (s.1.length + 1) cap) (s.1.length + 1) (s.1.map byteV ++ [byteV x])) (hg : Sep w w2 (fun k => v.ownBlock = some k)) (hm : v.ownBlock = some g ∨ w.heap.size ≤ g) :
    Took w (w2.setCell ⟨b, off, none⟩ (.slice (some ⟨g, 0, none⟩) (s.1.length + 1) cap)) b off T n v f (s.1 ++ [x], s.2.1, s.2.2) := by
  refine ⟨_, _, h.setBare ho hg hm, fun j hj => by rw [if_neg (by omega)], ?_, ?_⟩
  · rcases hm with hm | hm
    · exact .inl hm.symm
    · exact .inr ⟨g, rfl, hm⟩
  · exact (hg.mono (T := PS b v) (fun i _ e => .inr e)).tr (Sep.set _ _ _ _) (fun i _ e => .inl e)

set_option maxRecDepth 100000 in
set_option maxHeartbeats 1000000 in
theorem take_more {w : World} {b off : Nat} {T : TypeId} {n : Nat} {v : Value} {f : Nat → Value} (M : List Nat) (l : Bool) (x : Nat) (h : Pce w b off T n v (M, false, l) f) (hx : x < 256) (h1 : x ≠ 125) (h2 : x ≠ 126) (hM : M.length ≤ 1000000) :
    Calls Tryd.prog 29 #[.pointer (some ⟨b, off, none⟩), .int .u8 x] w fun e w' => e = .returned (.tuple #[]) ∧ Took w w' b off T n v f (M ++ [x], false, l) := by
  obtain ⟨i0, hi0, hz0, hz1, hz2⟩ := info_parts Tryd.info5
  have hc1 := h.row.cell (i := off + 1) (by have := h.fit; omega)
  rw [h.half] at hc1
  have hc0 := h.row.cell (i := off) (by have := h.fit; omega)
  rw [h.bare] at hc0
  have hb := h.row.lt
  have H : Hid (Pce w b off T n v (M, false, l) f) := h
  clear h
  go_enter Tryd.func29, Tryd.ntmps29
  go_wp2_with (at_builtin; refine wpList_append_lies _ (by rfl) _ _ 22 (by rfl) 0 5 i0 _ 1 1 Tryd.uB hi0 hz0 hz1 hz2 rfl (by omega) v M.length (M.map byteV) (by rfl) (H.out.own.alloc _) ⟨w.heap.size, 0, none⟩ 1 1 [byteV x] (by rfl) (by rfl) (World.news_of_block (cs := #[byteV x]) (t := 5) (fr := (0, 0)) (heap_alloc_new w _)) (by simp [Value.oneCell']) (by omega) (by unfold maxLen; omega) (by omega) (Nat.zero_le _) (w.heap.size + 1) (by simp) ?_; intro g cap w2 hO hg hat hlt; have hS := sep_push hg; have hr2 := row_sep H.out.row hS (fun e => H.out.ne e); have hc2 := hr2.cell (i := off) (by have := H.out.fit; omega); have hf2 := hr2.frozen off)
  go_end0
  exact ⟨rfl, took_push H.out hO hS (hat.imp id (fun e => by omega))⟩

/-! ### Behind the first byte of a pair -/
theorem took_of {w w1 w' : World} {b off : Nat} {T : TypeId} {n : Nat} {v : Value} {f f1 : Nat → Value} {s' : Pc} (k : Sep w w1 (fun k => k = b)) (hf : ∀ j, j < off → f1 j = f j) (h : Took w1 w' b off T n v f1 s') : Took w w' b off T n v f s' := by
  obtain ⟨v', f', h1, h2, h3, h4⟩ := h
  refine ⟨v', f', h1, fun j hj => (h2 j hj).trans (hf j hj), ?_, (k.mono (T := PS b v) (fun i _ e => .inl e)).tr h4 (fun i _ e => e)⟩
  rcases h3 with h3 | ⟨g, h3, h5⟩
  · exact .inl h3
  · exact .inr ⟨g, h3, Nat.le_trans k.size h5⟩
set_option maxRecDepth 100000 in
set_option maxHeartbeats 1000000 in
theorem take_pair {w : World} {b off : Nat} {T : TypeId} {n : Nat} {v : Value} {f : Nat → Value} (M : List Nat) (l : Bool) (x y : Nat) (h : Pce w b off T n v (M, true, l) f) (hx : x = 93 ∧ y = 125 ∨ x = 94 ∧ y = 126) (hM : M.length ≤ 1000000) :
    Calls Tryd.prog 29 #[.pointer (some ⟨b, off, none⟩), .int .u8 x] w fun e w' => e = .returned (.tuple #[]) ∧ Took w w' b off T n v f (M ++ [y], false, l) := by
  obtain ⟨i0, hi0, hz0, hz1, hz2⟩ := info_parts Tryd.info5
  have hc1 := h.row.cell (i := off + 1) (by have := h.fit; omega)
  rw [h.half] at hc1
  have hf1 := h.row.frozen (off + 1)
  have H1 : Hid (Pce (w.setCell ⟨b, off + 1, none⟩ (.int .u8 0)) b off T n v (M, false, l) (fun j => if j = off + 1 then .int .u8 0 else f j)) := h.setHalf false
  have hc0 := H1.out.row.cell (i := off) (by have := h.fit; omega)
  rw [H1.out.bare] at hc0
  clear h
  rcases hx with ⟨rfl, rfl⟩ | ⟨rfl, rfl⟩
  all_goals
    go_enter Tryd.func29, Tryd.ntmps29
    go_wp2_with (at_builtin; refine wpList_append_lies _ (by rfl) _ _ 22 (by rfl) 0 5 i0 _ 1 1 Tryd.uB hi0 hz0 hz1 hz2 rfl (by omega) v M.length (M.map byteV) (by rfl) (H1.out.own.alloc _) ⟨w.heap.size, 0, none⟩ 1 1 [_] (by rfl) (by rfl) (World.news_of_block (cs := #[_]) (t := 5) (fr := (0, 0)) (by simpa [World.setCell] using heap_alloc_new (w.setCell ⟨b, off + 1, none⟩ (.int .u8 0)) _)) (by simp [Value.oneCell']) (by omega) (by unfold maxLen; omega) (by omega) (Nat.zero_le _) (w.heap.size + 1) (by simp [World.setCell]) ?_; intro g cap w2 hO hg hat hlt; have hS := sep_push hg; have hr2 := row_sep H1.out.row hS (fun e => H1.out.ne e); have hc2 := hr2.cell (i := off) (by have := H1.out.fit; omega); have hf2 := hr2.frozen off)
    go_end0
    exact ⟨rfl, took_of (Sep.set _ _ _ _) (fun j hj => by rw [if_neg (by omega)]) (took_push H1.out hO hS (hat.imp id (fun e => by simp [World.setCell]; omega)))⟩
theorem take_bad {w : World} {b off : Nat} {T : TypeId} {n : Nat} {v : Value} {f : Nat → Value} (M : List Nat) (l : Bool) (x : Nat) (h : Pce w b off T n v (M, true, l) f) (hx : x < 256) (h1 : x ≠ 93) (h2 : x ≠ 94) :
    Calls Tryd.prog 29 #[.pointer (some ⟨b, off, none⟩), .int .u8 x] w fun e w' => e = .returned (.tuple #[]) ∧ Took w w' b off T n v f (M, false, true) := by
  have hc1 := h.row.cell (i := off + 1) (by have := h.fit; omega)
  rw [h.half] at hc1
  have hf1 := h.row.frozen (off + 1)
  have H1 : Hid (Pce (w.setCell ⟨b, off + 1, none⟩ (.int .u8 0)) b off T n v (M, false, l) (fun j => if j = off + 1 then .int .u8 0 else f j)) := h.setHalf false
  have hc2 := H1.out.row.cell (i := off + 2) (by have := h.fit; omega)
  rw [H1.out.lost] at hc2
  have hf2 := H1.out.row.frozen (off + 2)
  clear h
  go_enter Tryd.func29, Tryd.ntmps29
  go_wp2
  go_end0
  exact ⟨rfl, took_of (f1 := fun j => if j = off + 1 then .int .u8 0 else f j) (Sep.set _ _ _ _) (fun j hj => by rw [if_neg (by omega)]) ⟨v, _, H1.out.setLost true, fun j hj => by rw [if_neg (by omega)], .inl rfl, (Sep.set _ _ _ _).mono (fun i _ e => .inl e)⟩⟩
/-- One byte more, whatever it is. -/
theorem take_any {w : World} {b off : Nat} {T : TypeId} {n : Nat} {v : Value} {f : Nat → Value} {s : Pc} (x : Nat) (h : Pce w b off T n v s f) (hx : x < 256) (hM : s.1.length ≤ 1000000) :
    Calls Tryd.prog 29 #[.pointer (some ⟨b, off, none⟩), .int .u8 x] w fun e w' => e = .returned (.tuple #[]) ∧ Took w w' b off T n v f (tk s x) := by
  obtain ⟨M, hh, l⟩ := s
  cases hh with
  | false =>
    by_cases h1 : x = 125
    · subst h1; exact take_half M l h
    · by_cases h2 : x = 126
      · subst h2; exact take_end M l h
      · have e : tk (M, false, l) x = (M ++ [x], false, l) := by simp [tk, h1, h2]
        rw [e]; exact take_more M l x h hx h1 h2 hM
  | true =>
    by_cases h1 : x = 93
    · subst h1; exact take_pair M l 93 125 h (.inl ⟨rfl, rfl⟩) hM
    · by_cases h2 : x = 94
      · subst h2; exact take_pair M l 94 126 h (.inr ⟨rfl, rfl⟩) hM
      · have e : tk (M, true, l) x = (M, false, true) := by simp [tk, h1, h2]
        rw [e]; exact take_bad M l x h hx h1 h2
theorem whole_any {w : World} {b off : Nat} {T : TypeId} {n : Nat} {v : Value} {f : Nat → Value} {s : Pc} (h : Pce w b off T n v s f) :
    Calls Tryd.prog 30 #[.pointer (some ⟨b, off, none⟩)] w fun e w' => e = .returned (.bool (wholeP s)) ∧ w' = w := by
  have hc1 := h.row.cell (i := off + 1) (by have := h.fit; omega)
  rw [h.half] at hc1
  have hc2 := h.row.cell (i := off + 2) (by have := h.fit; omega)
  rw [h.lost] at hc2
  clear h
  obtain ⟨M, hh, l⟩ := s
  cases hh <;> cases l
  all_goals
    go_enter Tryd.func30, Tryd.ntmps30
    go_wp2
    go_ret
    exact ⟨rfl, rfl⟩

end Go.Proofs.YtflehhliddcfgaaDoor
