/-
  Texts joined: some of those that the proofs of this seat stand on.
-/
import Derived.Test.YtfhmfanmnhclfaaDoorLampM
import Derived.Test.YtfhmfanmnhclfaaDoorFitsJ
/-
  HOW A SITE STANDS, in numbers: what may be, a tick's fault, what stands behind it, a trace's first fault; no text of the program.
-/
namespace Go.Proofs.YtfhmfanmnhclfaaDoor
open Go.RowKit Go.Lib Go.Deep
set_option linter.unusedVariables false
set_option linter.unusedSimpArgs false

/-- How a group stands. -/
structure Sn where
  asp : Nat
  since : Int
  ended : Int
/-- How a site stands. -/
structure Sf where
  groups : List Sn
  start : Int
  flashed : Bool
def n0 : Sn := ⟨0, 0, 0⟩
def Sf.g (F : Sf) (i : Nat) : Sn := F.groups.getD i n0
def lg (L : List Nat) (i : Nat) : Nat := L.getD i 0
/-- The aspects of a standing. -/
def shown (F : Sf) : List Nat := F.groups.map (·.asp)
def allIs (L : List Nat) (x : Nat) : Bool := L.all (fun y => y == x)
def hasIt (L : List Nat) (x : Nat) : Bool := L.any (fun y => y == x)
theorem lg_mem {L : List Nat} {i : Nat} (h : i < L.length) : lg L i ∈ L := getD_mem h
theorem allIs_no {L : List Nat} {x i : Nat} (hi : i < L.length) (h : lg L i ≠ x) : allIs L x = false := by
  cases e : allIs L x with
  | false => rfl
  | true =>
    unfold allIs at e
    rw [List.all_eq_true] at e
    have := e _ (lg_mem hi)
    simp at this
    exact absurd this h
theorem allIs_yes {L : List Nat} {x : Nat} (h : ∀ i, i < L.length → lg L i = x) : allIs L x = true := by
  unfold allIs
  rw [List.all_eq_true]
  intro y hy
  obtain ⟨i, hi, rfl⟩ := List.getElem_of_mem hy
  have := h i hi
  simp [lg, hi] at this
  simp [this]
theorem allIs_iff {L : List Nat} {x : Nat} : allIs L x = true ↔ ∀ i, i < L.length → lg L i = x := by
  refine ⟨fun h i hi => ?_, allIs_yes⟩
  by_cases e : lg L i = x
  · exact e
  · rw [allIs_no hi e] at h; cases h
theorem hasIt_yes {L : List Nat} {x i : Nat} (hi : i < L.length) (h : lg L i = x) : hasIt L x = true := by
  unfold hasIt
  rw [List.any_eq_true]
  exact ⟨_, lg_mem hi, by simp [h]⟩
theorem hasIt_no {L : List Nat} {x : Nat} (h : ∀ i, i < L.length → lg L i ≠ x) : hasIt L x = false := by
  cases e : hasIt L x with
  | false => rfl
  | true =>
    unfold hasIt at e
    rw [List.any_eq_true] at e
    obtain ⟨y, hy, hx⟩ := e
    obtain ⟨i, hi, rfl⟩ := List.getElem_of_mem hy
    refine absurd ?_ (h i hi)
    simpa [lg, hi] using hx
theorem hasIt_iff {L : List Nat} {x : Nat} : hasIt L x = false ↔ ∀ i, i < L.length → lg L i ≠ x := by
  refine ⟨fun h i hi e => ?_, hasIt_no⟩
  rw [hasIt_yes hi e] at h; cases h

/-- The first of numbers that is not 0. -/
def firstN (f : Nat → Int) : Nat → Option Nat
  | 0 => none
  | n + 1 => match firstN f n with
    | some k => some k
    | none => if f n = 0 then none else some n
theorem firstN_none {f : Nat → Int} : ∀ {n : Nat}, (∀ j, j < n → f j = 0) → firstN f n = none
  | 0, _ => rfl
  | n + 1, h => by rw [firstN, firstN_none (n := n) (fun j hj => h j (by omega))]; simp [h n (by omega)]
theorem firstN_some {f : Nat → Int} : ∀ {n k : Nat}, k < n → (∀ j, j < k → f j = 0) → f k ≠ 0 → firstN f n = some k
  | 0, k, hk, _, _ => by omega
  | n + 1, k, hk, h, h1 => by
    rw [firstN]
    by_cases e : k < n
    · rw [firstN_some e h h1]
    · have : k = n := by omega
      subst this
      rw [firstN_none h]
      simp [h1]
theorem firstN_cases (f : Nat → Int) (n : Nat) : (firstN f n = none ∧ ∀ j, j < n → f j = 0) ∨ ∃ k, firstN f n = some k ∧ k < n ∧ (∀ j, j < k → f j = 0) ∧ f k ≠ 0 := by
  induction n with
  | zero => exact .inl ⟨rfl, fun j hj => by omega⟩
  | succ n ih =>
    rcases ih with ⟨h1, h2⟩ | ⟨k, h1, h2, h3, h4⟩
    · by_cases e : f n = 0
      · refine .inl ⟨?_, fun j hj => ?_⟩
        · rw [firstN, h1]; simp [e]
        · by_cases hj' : j < n
          · exact h2 j hj'
          · rw [show j = n by omega]; exact e
      · exact .inr ⟨n, by rw [firstN, h1]; simp [e], by omega, h2, e⟩
    · exact .inr ⟨k, by rw [firstN, h1], by omega, h3, h4⟩
/-- That number, and 0 without one; its place and itself, and -1 and 0 without one. -/
def ownV (f : Nat → Int) (n : Nat) : Int := match firstN f n with
  | some k => f k
  | none => 0
def ansN (f : Nat → Int) (n : Nat) : Int := match firstN f n with
  | some k => (k : Int)
  | none => -1
theorem ownV_at {f : Nat → Int} {n k : Nat} (hk : k < n) (h : ∀ j, j < k → f j = 0) (h1 : f k ≠ 0) : ownV f n = f k := by unfold ownV; rw [firstN_some hk h h1]
theorem ownV_no {f : Nat → Int} {n : Nat} (h : ∀ j, j < n → f j = 0) : ownV f n = 0 := by unfold ownV; rw [firstN_none h]
theorem ansN_at {f : Nat → Int} {n k : Nat} (hk : k < n) (h : ∀ j, j < k → f j = 0) (h1 : f k ≠ 0) : ansN f n = k := by unfold ansN; rw [firstN_some hk h h1]
theorem ansN_no {f : Nat → Int} {n : Nat} (h : ∀ j, j < n → f j = 0) : ansN f n = -1 := by unfold ansN; rw [firstN_none h]
theorem ownV_zero {f : Nat → Int} {n : Nat} (h : ownV f n = 0) : ∀ j, j < n → f j = 0 := by
  rcases firstN_cases f n with ⟨_, h2⟩ | ⟨k, h1, h2, h3, h4⟩
  · exact h2
  · rw [ownV_at h2 h3 h4] at h; exact absurd h h4

/-- Two that are apart, both other than red. -/
def pairM (S : St) (L : List Nat) (a b : Nat) : Bool := !(lg L a == 1) && (!(lg L b == 1) && (S.ap a).testBit b)
def mtB (S : St) (L : List Nat) : Bool := !allB L.length (fun a => allB a (fun b => !pairM S L a b))
theorem mtB_yes {S : St} {L : List Nat} {a b : Nat} (ha : a < L.length) (hb : b < a) (h : pairM S L a b = true) : mtB S L = true := by
  unfold mtB
  rw [allB_no ha (allB_no hb (by rw [h]; rfl))]
  rfl
theorem mtB_no {S : St} {L : List Nat} (h : ∀ a, a < L.length → ∀ b, b < a → pairM S L a b = false) : mtB S L = false := by
  unfold mtB
  rw [allB_iff.2 (fun a ha => allB_iff.2 (fun b hb => by rw [h a ha b hb]; rfl))]
  rfl
theorem mtB_iff {S : St} {L : List Nat} : mtB S L = false ↔ ∀ a, a < L.length → ∀ b, b < a → pairM S L a b = false := by
  refine ⟨fun h a ha b hb => ?_, mtB_no⟩
  cases e : pairM S L a b with
  | false => rfl
  | true => rw [mtB_yes ha hb e] at h; cases h
/-- A group that turns green too soon behind one that is apart. -/
def pairS (S : St) (F : Sf) (L : List Nat) (b a : Nat) : Bool := (lg L b == 2) && (!((F.g b).asp == 2) && ((S.ap a).testBit b && decide ((F.g a).ended < S.bt a b)))
def soonB (S : St) (F : Sf) (L : List Nat) : Bool := !allB L.length (fun b => allB L.length (fun a => !pairS S F L b a))
theorem soonB_yes {S : St} {F : Sf} {L : List Nat} {a b : Nat} (hb : b < L.length) (ha : a < L.length) (h : pairS S F L b a = true) : soonB S F L = true := by
  unfold soonB
  rw [allB_no hb (allB_no ha (by rw [h]; rfl))]
  rfl
theorem soonB_no {S : St} {F : Sf} {L : List Nat} (h : ∀ b, b < L.length → ∀ a, a < L.length → pairS S F L b a = false) : soonB S F L = false := by
  unfold soonB
  rw [allB_iff.2 (fun a ha => allB_iff.2 (fun b hb => by rw [h a ha b hb]; rfl))]
  rfl
theorem soonB_iff {S : St} {F : Sf} {L : List Nat} : soonB S F L = false ↔ ∀ b, b < L.length → ∀ a, a < L.length → pairS S F L b a = false := by
  refine ⟨fun h b hb a ha => ?_, soonB_no⟩
  cases e : pairS S F L b a with
  | false => rfl
  | true => rw [soonB_yes hb ha e] at h; cases h
/-- What lamp.May tells of each group, and of the first one that has a fault. -/
def oneF (S : St) (F : Sf) (L : List Nat) (i : Nat) : Int := mayV (S.gr i).min (S.gr i).yellow (F.g i).asp (F.g i).since (lg L i)
def oneV (S : St) (F : Sf) (L : List Nat) : Int := if F.flashed = true then 0 else ownV (oneF S F L) L.length
/-- The fault of a tick's lights. -/
def faultV (S : St) (F : Sf) (L : List Nat) : Int :=
  if L.length ≠ S.groups.length then 1
  else if allIs L 4 = true then 0
  else if hasIt L 4 = true then 7
  else if (F.flashed = true ∨ 0 < F.start) ∧ allIs L 1 = false then 8
  else if oneV S F L ≠ 0 then oneV S F L
  else if mtB S L = true then 3
  else if soonB S F L = true then 4
  else 0
/-- How a group stands behind an aspect; a site behind lights. -/
def sndV (s : Sn) (b : Nat) : Sn := ⟨b, sinceV s.asp s.since b, endedV s.ended b⟩
def startV (S : St) (F : Sf) (L : List Nat) : Int := if allIs L 4 = true then worstM S else max ((if F.flashed = true then worstM S else F.start) - 1) 0
def behindV (S : St) (F : Sf) (L : List Nat) : Sf := ⟨(List.range L.length).map (fun i => sndV (F.g i) (lg L i)), startV S F L, allIs L 4⟩
def firstV (S : St) : Sf := ⟨List.replicate S.groups.length ⟨1, 1, 1048576⟩, worstM S, false⟩
/-- A standing that may be. -/
def mayS (S : St) (F : Sf) : Bool := decide (F.groups.length = S.groups.length) && (inB F.start 0 1048576 && (!mtB S (shown F) || allIs (shown F) 4))
/-- A trace. -/
def tk (T : List (List Nat)) (k : Nat) : List Nat := T.getD k []
def atV (S : St) (T : List (List Nat)) : Nat → Sf
  | 0 => firstV S
  | k + 1 => behindV S (atV S T k) (tk T k)
def fltV (S : St) (T : List (List Nat)) (k : Nat) : Int := faultV S (atV S T k) (tk T k)
theorem behindV_len (S : St) (F : Sf) (L : List Nat) : (behindV S F L).groups.length = L.length := by simp [behindV]
theorem behindV_g {S : St} {F : Sf} {L : List Nat} {i : Nat} (h : i < L.length) : (behindV S F L).g i = sndV (F.g i) (lg L i) := by simp [behindV, Sf.g, h]
theorem shown_lg {F : Sf} {i : Nat} (h : i < F.groups.length) : lg (shown F) i = (F.g i).asp := by simp [shown, lg, Sf.g, h]
theorem shown_len (F : Sf) : (shown F).length = F.groups.length := by simp [shown]

/-! ### In memory -/
def snV (s : Sn) (j : Nat) : Value := match j with
  | 0 => .int .u8 (s.asp : Int)
  | 1 => .int .i64 s.since
  | _ => .int .i64 s.ended
abbrev safeV (a : Option Addr) (c : Nat) (F : Sf) : Value := .agg #[.slice a F.groups.length c, .int .i64 F.start, .bool F.flashed]
/-- A standing's groups lie where its slice leads. -/
structure SafeAt (w : World) (a : Option Addr) (c : Nat) (F : Sf) : Prop where
  lie : Lie w a F.groups.length 3 (fun i j => snV (F.g i) j)
  cap : Cap a F.groups.length c
  rng : ∀ s ∈ F.groups, s.asp < 256 ∧ i64B s.since ∧ i64B s.ended
theorem SafeAt.kept {w w' : World} {a : Option Addr} {c : Nat} {F : Sf} (h : SafeAt w a c F) (k : Kept w w' none) : SafeAt w' a c F := ⟨h.lie.kept k, h.cap, h.rng⟩
theorem SafeAt.at_ {w : World} {a : Option Addr} {c : Nat} {F : Sf} (h : SafeAt w a c F) {i : Nat} (hi : i < F.groups.length) : ∃ b off, a = some ⟨b, off, none⟩ ∧ b < w.heap.size ∧ w.cell? ⟨b, off + i * 3, none⟩ = some (.int .u8 ((F.g i).asp : Int)) ∧ w.cell? ⟨b, off + i * 3 + 1, none⟩ = some (.int .i64 (F.g i).since) ∧ w.cell? ⟨b, off + i * 3 + 2, none⟩ = some (.int .i64 (F.g i).ended) := by
  obtain ⟨b, off, e, hb, hc⟩ := h.lie.at_ (by omega)
  exact ⟨b, off, e, hb, hc i hi 0 (by omega), hc i hi 1 (by omega), hc i hi 2 (by omega)⟩
/-- A standing's groups in a block of one's own. -/
def gcell (g : Nat → Sn) (q : Nat) : Value := snV (g (q / 3)) (q % 3)
abbrev OwnG (w : World) (b n : Nat) (g : Nat → Sn) : Prop := w.rowIs b 95 (n * 3) (gcell g)
theorem OwnG.cells {w : World} {b n : Nat} {g : Nat → Sn} (h : OwnG w b n g) {i : Nat} (hi : i < n) : w.cell? ⟨b, i * 3, none⟩ = some (.int .u8 ((g i).asp : Int)) ∧ w.cell? ⟨b, i * 3 + 1, none⟩ = some (.int .i64 (g i).since) ∧ w.cell? ⟨b, i * 3 + 2, none⟩ = some (.int .i64 (g i).ended) := by
  have h0 := h.cell (i := i * 3) (by omega)
  have h1 := h.cell (i := i * 3 + 1) (by omega)
  have h2 := h.cell (i := i * 3 + 2) (by omega)
  unfold gcell at h0 h1 h2
  rw [show i * 3 / 3 = i by omega, show i * 3 % 3 = 0 by omega] at h0
  rw [show (i * 3 + 1) / 3 = i by omega, show (i * 3 + 1) % 3 = 1 by omega] at h1
  rw [show (i * 3 + 2) / 3 = i by omega, show (i * 3 + 2) % 3 = 2 by omega] at h2
  exact ⟨h0, h1, h2⟩
theorem OwnG.safe {w : World} {b n : Nat} {g : Nat → Sn} (h : OwnG w b n g) {F : Sf} (hn : F.groups.length = n) (hg : ∀ i, i < n → F.g i = g i) (hm : n ≤ 9223372036854775807) (hr : ∀ s ∈ F.groups, s.asp < 256 ∧ i64B s.since ∧ i64B s.ended) : SafeAt w (some ⟨b, 0, none⟩) n F := by
  refine ⟨⟨fun hp => ⟨b, 0, rfl, h.lt, fun i hi j hj => ?_⟩⟩, ⟨fun e => (nomatch e), by omega, hm⟩, hr⟩
  rw [hn] at hi
  obtain ⟨h0, h1, h2⟩ := h.cells hi
  rw [← hg i hi] at h0 h1 h2
  match j, hj with
  | 0, _ => simpa [snV] using h0
  | 1, _ => simpa [snV] using h1
  | 2, _ => simpa [snV] using h2
/-- One element stored. -/
theorem OwnG.set {w : World} {b n : Nat} {g : Nat → Sn} (h : OwnG w b n g) {i : Nat} (s : Sn) : OwnG (((w.setCell ⟨b, i * 3, none⟩ (.int .u8 (s.asp : Int))).setCell ⟨b, i * 3 + 1, none⟩ (.int .i64 s.since)).setCell ⟨b, i * 3 + 2, none⟩ (.int .i64 s.ended)) b n (fun k => if k = i then s else g k) := by
  refine (((World.rowIs.set h (i * 3) _).set (i * 3 + 1) _).set (i * 3 + 2) _).congr (fun q hq => ?_)
  show (if q = i * 3 + 2 then _ else if q = i * 3 + 1 then _ else if q = i * 3 then _ else gcell g q) = gcell _ q
  unfold gcell
  show _ = snV (if q / 3 = i then s else g (q / 3)) (q % 3)
  by_cases e : q / 3 = i
  · rcases (show q = i * 3 ∨ q = i * 3 + 1 ∨ q = i * 3 + 2 by omega) with e1 | e1 | e1
    · rw [if_neg (by omega), if_neg (by omega), if_pos e1, if_pos e, show q % 3 = 0 by omega]; rfl
    · rw [if_neg (by omega), if_pos e1, if_pos e, show q % 3 = 1 by omega]; rfl
    · rw [if_pos e1, if_pos e, show q % 3 = 2 by omega]; rfl
  · rw [if_neg (by omega), if_neg (by omega), if_neg (by omega), if_neg e]

end Go.Proofs.YtfhmfanmnhclfaaDoor

