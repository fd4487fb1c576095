/-
  THE MATHS OF FRAMES: stuffed bytes, insides, messages found in bytes.
-/
import Derived.Test.YtlabjamkaebnjaaCrcJ
namespace Go.Proofs.Ytlabjamkaebnjaa
set_option linter.unusedVariables false
set_option linter.unusedSimpArgs false

/-! ### Stuffed bytes -/
def stuff : List Nat → List Nat
  | [] => []
  | x :: L => if x = 125 then 125 :: 93 :: stuff L else if x = 126 then 125 :: 94 :: stuff L else x :: stuff L
theorem stuff_append : ∀ L M : List Nat, stuff (L ++ M) = stuff L ++ stuff M
  | [], M => rfl
  | x :: L, M => by
    have := stuff_append L M
    simp only [List.cons_append, stuff, this]
    split
    · rfl
    · split <;> rfl
theorem stuff_lt : ∀ L : List Nat, (∀ x ∈ L, x < 256) → ∀ x ∈ stuff L, x < 256
  | [], _, x, h => by simp [stuff] at h
  | y :: L, hb, x, h => by
    have ih := stuff_lt L (fun z hz => hb z (List.mem_cons_of_mem _ hz)) x
    have hy := hb y (List.mem_cons_self ..)
    unfold stuff at h
    split at h
    · simp at h; rcases h with h | h | h
      · omega
      · omega
      · exact ih h
    · split at h
      · simp at h; rcases h with h | h | h
        · omega
        · omega
        · exact ih h
      · simp at h; rcases h with h | h
        · omega
        · exact ih h
theorem stuff_no : ∀ L : List Nat, ∀ x ∈ stuff L, x ≠ 126
  | [], x, h => by simp [stuff] at h
  | y :: L, x, h => by
    have ih := stuff_no L x
    unfold stuff at h
    split at h
    · simp at h; rcases h with h | h | h
      · omega
      · omega
      · exact ih h
    · split at h
      · simp at h; rcases h with h | h | h
        · omega
        · omega
        · exact ih h
      · simp at h; rcases h with h | h
        · omega
        · exact ih h
theorem stuff_len : ∀ L : List Nat, L.length ≤ (stuff L).length ∧ (stuff L).length ≤ 2 * L.length
  | [] => by simp [stuff]
  | y :: L => by
    have ih := stuff_len L
    unfold stuff
    split
    · simp; omega
    · split
      · simp; omega
      · simp; omega

/-- A piece as it comes: what it tells, half of a pair, lost. -/
abbrev Pc := List Nat × Bool × Bool
def tk (s : Pc) (x : Nat) : Pc :=
  if s.2.1 = true then (if x = 93 then (s.1 ++ [125], false, s.2.2) else if x = 94 then (s.1 ++ [126], false, s.2.2) else (s.1, false, true))
  else (if x = 125 then (s.1, true, s.2.2) else if x = 126 then (s.1, false, true) else (s.1 ++ [x], false, s.2.2))
def bareS (L : List Nat) : Pc := L.foldl tk ([], false, false)
def wholeP (s : Pc) : Bool := !s.2.1 && !s.2.2
def bareO (L : List Nat) : Option (List Nat) := if wholeP (bareS L) = true then some (bareS L).1 else none
def bareL (L : List Nat) : List Nat := if wholeP (bareS L) = true then (bareS L).1 else []
def bareE (L : List Nat) : Nat := if wholeP (bareS L) = true then 0 else 8

theorem tk_stuff1 (M : List Nat) (l : Bool) (x : Nat) : (stuff [x]).foldl tk (M, false, l) = (M ++ [x], false, l) := by
  unfold stuff
  split
  · subst_vars; simp [stuff, tk]
  · split
    · subst_vars; simp [stuff, tk]
    · simp [stuff, tk, *]
theorem tk_stuff : ∀ (N M : List Nat) (l : Bool), (stuff N).foldl tk (M, false, l) = (M ++ N, false, l)
  | [], M, l => by simp [stuff]
  | x :: N, M, l => by
    have h : stuff (x :: N) = stuff [x] ++ stuff N := stuff_append [x] N
    rw [h, List.foldl_append, tk_stuff1, tk_stuff N]
    simp
def tailH (h : Bool) : List Nat := if h = true then [125] else []
theorem tk_back1 (s : Pc) (x : Nat) (h : (tk s x).2.2 = false) : s.2.2 = false ∧ stuff (tk s x).1 ++ tailH (tk s x).2.1 = stuff s.1 ++ tailH s.2.1 ++ [x] := by
  obtain ⟨M, hf, l⟩ := s
  unfold tk at h ⊢
  cases hf with
  | true =>
    simp only [if_pos] at h ⊢
    by_cases h1 : x = 93
    · subst h1; simp at h; simp [h, stuff_append, stuff, tailH]
    · rw [if_neg h1] at h ⊢
      by_cases h2 : x = 94
      · subst h2; simp at h; simp [h, stuff_append, stuff, tailH]
      · rw [if_neg h2] at h; simp at h
  | false =>
    simp only [Bool.false_eq_true, if_false] at h ⊢
    by_cases h1 : x = 125
    · subst h1; simp at h; simp [h, tailH]
    · rw [if_neg h1] at h ⊢
      by_cases h2 : x = 126
      · subst h2; simp at h
      · rw [if_neg h2] at h ⊢; simp at h; simp [h, stuff_append, stuff, tailH, h1, h2]
theorem tk_back : ∀ (L : List Nat) (s : Pc), (L.foldl tk s).2.2 = false → s.2.2 = false ∧ stuff (L.foldl tk s).1 ++ tailH (L.foldl tk s).2.1 = stuff s.1 ++ tailH s.2.1 ++ L
  | [], s, h => ⟨h, by simp⟩
  | x :: L, s, h => by
    obtain ⟨h1, h2⟩ := tk_back L (tk s x) h
    obtain ⟨h3, h4⟩ := tk_back1 s x h1
    refine ⟨h3, ?_⟩
    rw [List.foldl_cons, h2, h4]
    simp
theorem bareS_stuff (N : List Nat) : bareS (stuff N) = (N, false, false) := by unfold bareS; rw [tk_stuff]; simp
theorem whole_iff (s : Pc) : wholeP s = true ↔ s.2.1 = false ∧ s.2.2 = false := by unfold wholeP; simp
theorem bare_back {L : List Nat} (h : wholeP (bareS L) = true) : stuff (bareS L).1 = L := by
  rw [whole_iff] at h
  have := (tk_back L ([], false, false) h.2).2
  rw [show L.foldl tk ([], false, false) = bareS L from rfl, h.1] at this
  simpa [stuff, tailH] using this
theorem bareO_iff (L M : List Nat) : bareO L = some M ↔ stuff M = L := by
  unfold bareO
  constructor
  · intro h
    split at h
    · rename_i hw
      injection h with h
      subst h
      exact bare_back hw
    · cases h
  · intro h
    subst h
    rw [bareS_stuff]
    rfl
theorem tk_lt (s : Pc) (x : Nat) (h : ∀ y ∈ s.1, y < 256) (hx : x < 256) : ∀ y ∈ (tk s x).1, y < 256 := by
  intro y hy
  unfold tk at hy
  split at hy
  · split at hy
    · simp at hy; rcases hy with hy | hy
      · exact h y hy
      · omega
    · split at hy
      · simp at hy; rcases hy with hy | hy
        · exact h y hy
        · omega
      · exact h y hy
  · split at hy
    · exact h y hy
    · split at hy
      · exact h y hy
      · simp at hy; rcases hy with hy | hy
        · exact h y hy
        · omega
theorem tks_lt : ∀ (L : List Nat) (s : Pc), (∀ y ∈ s.1, y < 256) → (∀ y ∈ L, y < 256) → ∀ y ∈ (L.foldl tk s).1, y < 256
  | [], s, h, _ => h
  | x :: L, s, h, k => tks_lt L _ (tk_lt s x h (k x (List.mem_cons_self ..))) (fun y hy => k y (List.mem_cons_of_mem _ hy))
theorem bareS_lt {L : List Nat} (k : ∀ y ∈ L, y < 256) : ∀ y ∈ (bareS L).1, y < 256 := tks_lt L _ (by simp) k
theorem bareL_lt {L : List Nat} (k : ∀ y ∈ L, y < 256) : ∀ y ∈ bareL L, y < 256 := by
  unfold bareL; split
  · exact bareS_lt k
  · simp
theorem tk_len (s : Pc) (x : Nat) : s.1.length ≤ (tk s x).1.length ∧ (tk s x).1.length ≤ s.1.length + 1 := by
  unfold tk
  split
  · split
    · simp
    · split <;> simp
  · split
    · simp
    · split <;> simp
theorem tks_len : ∀ (L : List Nat) (s : Pc), s.1.length ≤ (L.foldl tk s).1.length ∧ (L.foldl tk s).1.length ≤ s.1.length + L.length
  | [], s => by simp
  | x :: L, s => by
    have h1 := tks_len L (tk s x)
    have h2 := tk_len s x
    rw [List.foldl_cons, List.length_cons]
    omega
theorem bareL_len (L : List Nat) : (bareL L).length ≤ L.length := by
  unfold bareL; split
  · have := (tks_len L ([], false, false)).2
    simpa [bareS] using this
  · simp
theorem bareS_len (L : List Nat) : (bareS L).1.length ≤ L.length := by
  have := (tks_len L ([], false, false)).2
  simpa [bareS] using this
theorem tk_lost (s : Pc) (x : Nat) (h : s.2.2 = true) : (tk s x).2.2 = true := by
  unfold tk
  split
  · split
    · exact h
    · split
      · exact h
      · rfl
  · split
    · exact h
    · split
      · rfl
      · exact h
theorem tks_lost : ∀ (L : List Nat) (s : Pc), s.2.2 = true → (L.foldl tk s).2.2 = true
  | [], s, h => h
  | x :: L, s, h => tks_lost L _ (tk_lost s x h)
theorem bareS_take (L : List Nat) (k : Nat) (h : k < L.length) : bareS (L.take (k + 1)) = tk (bareS (L.take k)) (L.getD k 0) := by
  unfold bareS
  rw [takeN_snoc L k h, List.foldl_append]
  rfl
theorem stuff_take (L : List Nat) (k : Nat) (h : k < L.length) : stuff (L.take (k + 1)) = stuff (L.take k) ++ stuff [L.getD k 0] := by
  rw [takeN_snoc L k h, stuff_append]

/-! ### Messages -/
abbrev Msg := Nat × Nat × List Nat
structure Mok (m : Msg) : Prop where
  kind : m.1 < 256
  seq : m.2.1 < 4294967296
  body : ∀ x ∈ m.2.2, x < 256
def headB (m : Msg) : List Nat := m.1 :: (leb 4 m.2.1 ++ m.2.2)
def inside (m : Msg) : List Nat := headB m ++ leb 4 (sumB (headB m))
theorem headB_len (m : Msg) : (headB m).length = 5 + m.2.2.length := by simp [headB, leb_length]; omega
theorem inside_len (m : Msg) : (inside m).length = 9 + m.2.2.length := by simp [inside, leb_length, headB_len]; omega
theorem headB_lt {m : Msg} (h : Mok m) : ∀ x ∈ headB m, x < 256 := by
  intro x hx
  simp only [headB, List.mem_cons, List.mem_append] at hx
  rcases hx with hx | hx | hx
  · have := h.kind; omega
  · exact leb_lt _ _ _ hx
  · exact h.body x hx
theorem inside_lt {m : Msg} (h : Mok m) : ∀ x ∈ inside m, x < 256 := by
  intro x hx
  simp only [inside, List.mem_append] at hx
  rcases hx with hx | hx
  · exact headB_lt h x hx
  · exact leb_lt _ _ _ hx
def told (L : List Nat) : List Nat := L.take (L.length - 4)
def tolds (L : List Nat) : List Nat := L.drop (L.length - 4)
def opnB (L : List Nat) : Bool := decide (9 ≤ L.length) && decide (L.length ≤ 521) && decide (tolds L = leb 4 (sumB (told L)))
def opnM (L : List Nat) : Msg := if opnB L = true then ((told L).getD 0 0, v256 (((told L).take 5).drop 1), (told L).drop 5) else (0, 0, [])
def opnE (L : List Nat) : Nat := if opnB L = true then 0 else 8
def opn (L : List Nat) : Option Msg := if opnB L = true then some (opnM L) else none
theorem opnB_iff (L : List Nat) : opnB L = true ↔ 9 ≤ L.length ∧ L.length ≤ 521 ∧ tolds L = leb 4 (sumB (told L)) := by unfold opnB; simp [and_assoc]
theorem told_inside (m : Msg) : told (inside m) = headB m := by
  unfold told
  rw [inside_len, inside]
  have h := headB_len m
  rw [show 9 + m.2.2.length - 4 = (headB m).length by omega, List.take_left]
theorem tolds_inside (m : Msg) : tolds (inside m) = leb 4 (sumB (headB m)) := by
  unfold tolds
  rw [inside_len, inside]
  have h := headB_len m
  rw [show 9 + m.2.2.length - 4 = (headB m).length by omega, List.drop_left]
theorem headB_parts (m : Msg) (h : Mok m) : (headB m).getD 0 0 = m.1 ∧ v256 (((headB m).take 5).drop 1) = m.2.1 ∧ (headB m).drop 5 = m.2.2 := by
  have e : headB m = (m.1 :: leb 4 m.2.1) ++ m.2.2 := by simp [headB]
  have l : (m.1 :: leb 4 m.2.1).length = 5 := by simp [leb_length]
  refine ⟨by simp [headB], ?_, ?_⟩
  · rw [e, ← l, List.take_left]
    simp only [List.drop_succ_cons, List.drop_zero]
    rw [v256_leb]
    have := h.seq
    omega
  · rw [e, ← l, List.drop_left]
theorem opnB_inside (m : Msg) (h : m.2.2.length ≤ 512) : opnB (inside m) = true := by
  rw [opnB_iff, told_inside, tolds_inside, inside_len]
  exact ⟨by omega, by omega, rfl⟩
theorem opnM_inside (m : Msg) (hm : Mok m) (h : m.2.2.length ≤ 512) : opnM (inside m) = m := by
  unfold opnM
  rw [if_pos (opnB_inside m h), told_inside]
  obtain ⟨h1, h2, h3⟩ := headB_parts m hm
  rw [h1, h2, h3]
theorem opn_inside (m : Msg) (hm : Mok m) (h : m.2.2.length ≤ 512) : opn (inside m) = some m := by
  unfold opn
  rw [if_pos (opnB_inside m h), opnM_inside m hm h]
theorem told_lt {L : List Nat} (hb : ∀ x ∈ L, x < 256) : ∀ x ∈ told L, x < 256 := fun x hx => hb x (List.mem_of_mem_take hx)
theorem told_len (L : List Nat) : (told L).length = L.length - 4 := by simp [told]
theorem opnM_ok {L : List Nat} (hb : ∀ x ∈ L, x < 256) : Mok (opnM L) := by
  unfold opnM
  split
  · have ht := told_lt hb
    refine ⟨?_, ?_, fun x hx => ht x (List.mem_of_mem_drop hx)⟩
    · by_cases h : 0 < (told L).length
      · have : (told L).getD 0 0 = (told L)[0] := by simp [h]
        simp only [this]
        exact ht _ (List.getElem_mem h)
      · have : told L = [] := List.length_eq_zero_iff.1 (by omega)
        simp [this]
    · have h := v256_lt (((told L).take 5).drop 1) (fun x hx => ht x (List.mem_of_mem_take (List.mem_of_mem_drop hx)))
      refine Nat.lt_of_lt_of_le h ?_
      have : (((told L).take 5).drop 1).length ≤ 4 := by simp; omega
      exact Nat.pow_le_pow_right (n := 256) (j := 4) (by omega) this
  · exact ⟨by decide, by decide, by simp⟩
theorem opnM_len (L : List Nat) : (opnM L).2.2.length ≤ 512 := by
  unfold opnM
  split
  · rename_i h
    rw [opnB_iff] at h
    simp [told_len]; omega
  · simp
theorem leb_v256 : ∀ L : List Nat, (∀ x ∈ L, x < 256) → leb L.length (v256 L) = L
  | [], _ => rfl
  | x :: L, h => by
    have hx := h x (List.mem_cons_self ..)
    have ih := leb_v256 L (fun y hy => h y (List.mem_cons_of_mem _ hy))
    rw [List.length_cons, leb, v256]
    rw [show (x + 256 * v256 L) % 256 = x by omega, show (x + 256 * v256 L) / 256 = v256 L by omega, ih]
theorem inside_opnM {L : List Nat} (hb : ∀ x ∈ L, x < 256) (h : opnB L = true) : inside (opnM L) = L := by
  have h' := (opnB_iff L).1 h
  have hl := told_len L
  have ht := told_lt hb
  have e : headB (opnM L) = told L := by
    unfold opnM
    rw [if_pos h]
    unfold headB
    have l4 : (((told L).take 5).drop 1).length = 4 := by simp; omega
    have := leb_v256 (((told L).take 5).drop 1) (fun x hx => ht x (List.mem_of_mem_take (List.mem_of_mem_drop hx)))
    rw [l4] at this
    simp only [this]
    match hT : told L with
    | [] => rw [hT] at hl; simp at hl; omega
    | x :: T =>
      simp
  unfold inside
  rw [e, ← h'.2.2]
  exact List.take_append_drop ..
theorem opn_some {L : List Nat} {m : Msg} (hb : ∀ x ∈ L, x < 256) (h : opn L = some m) : inside m = L ∧ Mok m ∧ m.2.2.length ≤ 512 ∧ opnB L = true ∧ opnM L = m := by
  unfold opn at h
  split at h
  · rename_i hB
    injection h with h
    subst h
    exact ⟨inside_opnM hb hB, opnM_ok hb, opnM_len L, hB, rfl⟩
  · cases h

/-! ### Messages in bytes -/
/-- The message that a piece is. -/
def msgOf (P : List Nat) : List Msg := match bareO P with
  | some M => (opn M).toList
  | none => []
/-- What is known behind some bytes: the piece under way (none ahead of the first end), what was found. -/
abbrev Sp := Option (List Nat) × List Msg
def sst (s : Sp) (x : Nat) : Sp := if x = 126 then (some [], s.2 ++ (match s.1 with
  | some P => msgOf P
  | none => [])) else (s.1.map (· ++ [x]), s.2)
def spec (L : List Nat) : Sp := L.foldl sst (none, [])
def scanM (L : List Nat) : List Msg := (spec L).2
theorem sst_out (p : Option (List Nat)) (o : List Msg) (x : Nat) : sst (p, o) x = ((sst (p, []) x).1, o ++ (sst (p, []) x).2) := by
  unfold sst
  split <;> simp
theorem ssts_out : ∀ (L : List Nat) (p : Option (List Nat)) (o : List Msg), L.foldl sst (p, o) = ((L.foldl sst (p, [])).1, o ++ (L.foldl sst (p, [])).2)
  | [], p, o => by simp
  | x :: L, p, o => by
    rw [List.foldl_cons, List.foldl_cons, sst_out p o x, ssts_out L, ssts_out L (sst (p, []) x).1 (sst (p, []) x).2]
    simp
theorem ssts_plain : ∀ (L : List Nat) (P : List Nat) (o : List Msg), (∀ x ∈ L, x ≠ 126) → L.foldl sst (some P, o) = (some (P ++ L), o)
  | [], P, o, _ => by simp
  | x :: L, P, o, h => by
    rw [List.foldl_cons, sst, if_neg (h x (List.mem_cons_self ..))]
    have := ssts_plain L (P ++ [x]) o (fun y hy => h y (List.mem_cons_of_mem _ hy))
    simp at this ⊢
    exact this
/-- A frame. -/
def frameB (m : Msg) : List Nat := 126 :: (stuff (inside m) ++ [126])
theorem frameB_len (m : Msg) : (frameB m).length = (stuff (inside m)).length + 2 := by simp [frameB]
theorem frameB_lt {m : Msg} (h : Mok m) : ∀ x ∈ frameB m, x < 256 := by
  intro x hx
  simp only [frameB, List.mem_cons, List.mem_append, List.not_mem_nil, or_false] at hx
  rcases hx with hx | hx | hx
  · omega
  · exact stuff_lt _ (inside_lt h) x hx
  · omega
theorem msgOf_stuff (m : Msg) (hm : Mok m) (h : m.2.2.length ≤ 512) : msgOf (stuff (inside m)) = [m] := by
  unfold msgOf
  rw [(bareO_iff _ _).2 rfl]
  simp only [opn_inside m hm h, Option.toList]
theorem msgOf_nil : msgOf [] = [] := by
  have : bareO [] = some [] := (bareO_iff _ _).2 rfl
  unfold msgOf
  rw [this]
  have h : opnB [] = false := by
    cases e : opnB [] with
    | false => rfl
    | true => have := (opnB_iff _).1 e; simp at this
  simp [opn, h]
def framesB (l : List Msg) : List Nat := (l.map frameB).flatten
structure Moks (l : List Msg) : Prop where
  all : ∀ m ∈ l, Mok m ∧ m.2.2.length ≤ 512
theorem frame_from (m : Msg) (hm : Mok m) (h : m.2.2.length ≤ 512) (s : Sp) : (frameB m).foldl sst s = (some [], (sst s 126).2 ++ [m]) := by
  unfold frameB
  rw [List.foldl_cons, List.foldl_append]
  have e : sst s 126 = (some [], (sst s 126).2) := by unfold sst; simp
  rw [e, ssts_plain _ _ _ (stuff_no _)]
  simp [sst, msgOf_stuff m hm h]
theorem frames_from : ∀ (l : List Msg), (∀ m ∈ l, Mok m ∧ m.2.2.length ≤ 512) → ∀ (s : Sp), s.1 = some [] → (framesB l).foldl sst s = (some [], s.2 ++ l)
  | [], _, s, h => by obtain ⟨a, b⟩ := s; simp at h; subst h; simp [framesB]
  | m :: l, h, s, hs => by
    have hm := h m (List.mem_cons_self ..)
    have e : framesB (m :: l) = frameB m ++ framesB l := by simp [framesB]
    rw [e, List.foldl_append, frame_from m hm.1 hm.2, frames_from l (fun x hx => h x (List.mem_cons_of_mem _ hx)) _ rfl]
    have : (sst s 126).2 = s.2 := by unfold sst; simp [hs, msgOf_nil]
    rw [this]
    simp
/-- The stage's theorem: frames that stand one behind the other are found, and nothing else between them. -/
theorem found (A B : List Nat) (l : List Msg) (hl : l ≠ []) (h : ∀ m ∈ l, Mok m ∧ m.2.2.length ≤ 512) : scanM (A ++ framesB l ++ B) = scanM (A ++ [126]) ++ l ++ scanM (126 :: B) := by
  match l, hl with
  | m :: l, _ =>
    have hm := h m (List.mem_cons_self ..)
    have e : framesB (m :: l) = frameB m ++ framesB l := by simp [framesB]
    have e2 : sst (none, []) 126 = (some [], []) := by unfold sst; simp
    have e3 : scanM (126 :: B) = (B.foldl sst (some [], [])).2 := by unfold scanM spec; rw [List.foldl_cons, e2]
    have e4 : scanM (A ++ [126]) = (sst (A.foldl sst (none, [])) 126).2 := by unfold scanM spec; rw [List.foldl_append]; rfl
    rw [e3, e4]
    unfold scanM spec
    rw [e, List.foldl_append, List.foldl_append, List.foldl_append, frame_from m hm.1 hm.2, frames_from l (fun x hx => h x (List.mem_cons_of_mem _ hx)) _ rfl, ssts_out B]
    simp

/-! ### The reader -/
def rtk (s : Pc) (x : Nat) : Pc := if s.2.2 = true then s else if 521 < (tk s x).1.length then ((tk s x).1, (tk s x).2.1, true) else tk s x
abbrev Rs := Pc × List Msg
def cutM (s : Pc) : List Msg := if wholeP s = true then (opn s.1).toList else []
def rst (s : Rs) (x : Nat) : Rs := if x = 126 then (([], false, false), s.2 ++ cutM s.1) else (rtk s.1 x, s.2)
def feedR (s : Pc) (L : List Nat) : Rs := L.foldl rst (s, [])
def newP : Pc := ([], false, true)
theorem rst_out (p : Pc) (o : List Msg) (x : Nat) : rst (p, o) x = ((rst (p, []) x).1, o ++ (rst (p, []) x).2) := by
  unfold rst
  split <;> simp
theorem rsts_out : ∀ (L : List Nat) (p : Pc) (o : List Msg), L.foldl rst (p, o) = ((L.foldl rst (p, [])).1, o ++ (L.foldl rst (p, [])).2)
  | [], p, o => by simp
  | x :: L, p, o => by
    rw [List.foldl_cons, List.foldl_cons, rst_out p o x, rsts_out L, rsts_out L (rst (p, []) x).1 (rst (p, []) x).2]
    simp
theorem feedR_append (s : Pc) (L M : List Nat) : feedR s (L ++ M) = ((feedR (feedR s L).1 M).1, (feedR s L).2 ++ (feedR (feedR s L).1 M).2) := by
  unfold feedR
  rw [List.foldl_append]
  generalize L.foldl rst (s, []) = t
  obtain ⟨p, o⟩ := t
  exact rsts_out M p o
theorem feedR_take (s : Pc) (L : List Nat) (k : Nat) (h : k < L.length) : feedR s (L.take (k + 1)) = rst (feedR s (L.take k)) (L.getD k 0) := by
  unfold feedR
  rw [takeN_snoc L k h, List.foldl_append]
  rfl
theorem rtk_lt (s : Pc) (x : Nat) (h : ∀ y ∈ s.1, y < 256) (hx : x < 256) : ∀ y ∈ (rtk s x).1, y < 256 := by
  unfold rtk
  split
  · exact h
  · split
    · exact tk_lt s x h hx
    · exact tk_lt s x h hx
/-- What a reader's piece always is. -/
structure Pok (s : Pc) : Prop where
  lt : ∀ y ∈ s.1, y < 256
  len : s.1.length ≤ 522
  own : s.2.2 = false → s.1.length ≤ 521
theorem pok_rtk {s : Pc} {x : Nat} (h : Pok s) (hx : x < 256) : Pok (rtk s x) := by
  refine ⟨rtk_lt s x h.lt hx, ?_, ?_⟩
  · have := tk_len s x
    unfold rtk
    split
    · exact h.len
    · rename_i h1
      have := h.own (by simpa using h1)
      split
      · show (tk s x).1.length ≤ 522
        omega
      · omega
  · intro e
    unfold rtk at e ⊢
    split at e
    · rename_i h1; rw [h1] at e; cases e
    · split at e
      · cases e
      · rename_i h1 h2
        rw [if_neg h1, if_neg h2]
        omega
theorem pok_zero : Pok ([], false, false) := ⟨by simp, by simp, by simp⟩
theorem pok_new : Pok newP := ⟨by simp [newP], by simp [newP], by simp [newP]⟩
theorem pok_rst {s : Rs} {x : Nat} (h : Pok s.1) (hx : x < 256) : Pok (rst s x).1 := by
  unfold rst
  split
  · exact pok_zero
  · exact pok_rtk h hx
theorem pok_rsts : ∀ (L : List Nat) (s : Rs), Pok s.1 → (∀ y ∈ L, y < 256) → Pok (L.foldl rst s).1
  | [], s, h, _ => h
  | x :: L, s, h, k => pok_rsts L _ (pok_rst h (k x (List.mem_cons_self ..))) (fun y hy => k y (List.mem_cons_of_mem _ hy))
theorem pok_feed {s : Pc} {L : List Nat} (h : Pok s) (k : ∀ y ∈ L, y < 256) : Pok (feedR s L).1 := pok_rsts L (s, []) h k
theorem cutM_ok {s : Pc} (h : Pok s) : ∀ m ∈ cutM s, Mok m ∧ m.2.2.length ≤ 512 := by
  unfold cutM
  split
  · intro m hm
    have : opn s.1 = some m := by simpa using hm
    obtain ⟨_, h1, h2, _⟩ := opn_some h.lt this
    exact ⟨h1, h2⟩
  · simp
/-- How the reader's piece and the piece itself go together. -/
def Rel (p : Option (List Nat)) (s : Pc) : Prop := match p with
  | none => s.2.2 = true
  | some P => (s.2.2 = true ∧ ∀ Q, msgOf (P ++ Q) = []) ∨ (s.2.2 = false ∧ bareS P = s)
theorem msgOf_lost {P : List Nat} (h : (bareS P).2.2 = true) : msgOf P = [] := by
  unfold msgOf bareO
  rw [if_neg (by rw [whole_iff]; simp [h])]
theorem msgOf_long {P : List Nat} (h : 521 < (bareS P).1.length) : msgOf P = [] := by
  unfold msgOf bareO
  split
  · rename_i M hM
    split at hM
    · injection hM with hM
      subst hM
      unfold opn
      rw [if_neg (by rw [opnB_iff]; omega)]
      rfl
    · cases hM
  · rfl
theorem bareS_append (P Q : List Nat) : bareS (P ++ Q) = Q.foldl tk (bareS P) := by unfold bareS; rw [List.foldl_append]
theorem rel_step (p : Option (List Nat)) (s : Pc) (o : List Msg) (x : Nat) (h : Rel p s) : Rel (sst (p, o) x).1 (rst (s, o) x).1 ∧ (sst (p, o) x).2 = (rst (s, o) x).2 := by
  unfold sst rst
  by_cases hx : x = 126
  · simp only [if_pos hx]
    refine ⟨.inr ⟨rfl, rfl⟩, ?_⟩
    congr 1
    cases p with
    | none => simp only [Rel] at h; unfold cutM; rw [if_neg (by rw [whole_iff]; simp [h])]
    | some P =>
      rcases h with ⟨h1, h2⟩ | ⟨h1, h2⟩
      · have := h2 []
        rw [List.append_nil] at this
        simp only [this]
        unfold cutM
        rw [if_neg (by rw [whole_iff]; simp [h1])]
      · subst h2
        show msgOf P = cutM (bareS P)
        unfold msgOf bareO cutM
        by_cases hw : wholeP (bareS P) = true
        · rw [if_pos hw, if_pos hw]
        · rw [if_neg hw, if_neg hw]
  · simp only [if_neg hx]
    refine ⟨?_, trivial⟩
    cases p with
    | none => simp only [Rel, Option.map] at h ⊢; unfold rtk; rw [if_pos h]; exact h
    | some P =>
      simp only [Option.map]
      rcases h with ⟨h1, h2⟩ | ⟨h1, h2⟩
      · left
        unfold rtk
        rw [if_pos h1]
        exact ⟨h1, fun Q => by rw [List.append_assoc]; exact h2 _⟩
      · have e : bareS (P ++ [x]) = tk s x := by rw [bareS_append, h2]; rfl
        unfold rtk
        rw [if_neg (by rw [h1]; simp)]
        by_cases hl : 521 < (tk s x).1.length
        · rw [if_pos hl]
          left
          refine ⟨rfl, fun Q => msgOf_long ?_⟩
          rw [bareS_append, e]
          have := (tks_len Q (tk s x)).1
          omega
        · rw [if_neg hl]
          cases hlost : (tk s x).2.2 with
          | true =>
            left
            refine ⟨hlost, fun Q => msgOf_lost ?_⟩
            rw [bareS_append, e]
            exact tks_lost Q _ hlost
          | false => right; exact ⟨hlost, e⟩
theorem rel_steps : ∀ (L : List Nat) (p : Option (List Nat)) (s : Pc) (o : List Msg), Rel p s → (L.foldl sst (p, o)).2 = (L.foldl rst (s, o)).2
  | [], p, s, o, h => rfl
  | x :: L, p, s, o, h => by
    obtain ⟨h1, h2⟩ := rel_step p s o x h
    rw [List.foldl_cons, List.foldl_cons]
    have := rel_steps L (sst (p, o) x).1 (rst (s, o) x).1 (sst (p, o) x).2 h1
    rw [show ((sst (p, o) x).1, (sst (p, o) x).2) = sst (p, o) x from rfl] at this
    rw [this, h2]
theorem feed_scan (L : List Nat) : (feedR newP L).2 = scanM L := by
  unfold feedR scanM spec
  exact (rel_steps L none newP [] rfl).symm

/-! ### The place of the last end -/
def lastK (L : List Nat) : Nat → Int
  | 0 => -1
  | k + 1 => if L.getD k 0 = 126 then (k : Int) else lastK L k
def lastE (L : List Nat) : Int := lastK L L.length
theorem lastK_le (L : List Nat) : ∀ k, -1 ≤ lastK L k ∧ lastK L k < k
  | 0 => by simp [lastK]
  | k + 1 => by
    have := lastK_le L k
    unfold lastK
    split <;> omega

end Go.Proofs.Ytlabjamkaebnjaa
