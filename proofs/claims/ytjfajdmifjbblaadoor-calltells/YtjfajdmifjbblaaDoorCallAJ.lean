/-
  Texts joined: some of those that the proofs of this seat stand on.
-/
import Derived.Test.YtjfajdmifjbblaaDoorEyeUJ
import Derived.Test.YtjfajdmifjbblaaDoorEyeL
/-
  CALLS, in numbers: sets that are gathered, the first one going round, and going round again and again.
-/
namespace Go.Proofs.YtjfajdmifjbblaaDoor
open Go.RowKit Go.Lib Go.Deep
set_option linter.unusedVariables false
set_option linter.unusedSimpArgs false

/-- A, and the numbers P k of those of the first n that B tells of. -/
def belA (A : Nat) (P : Nat → Int) (B : Nat → Bool) : Nat → Nat
  | 0 => A
  | k + 1 => if B k = true then withV (belA A P B k) (P k) else belA A P B k
theorem belA_yes {A : Nat} {P : Nat → Int} {B : Nat → Bool} {k : Nat} (h : B k = true) : belA A P B (k + 1) = withV (belA A P B k) (P k) := if_pos h
theorem belA_no {A : Nat} {P : Nat → Int} {B : Nat → Bool} {k : Nat} (h : B k = false) : belA A P B (k + 1) = belA A P B k := if_neg (by rw [h]; decide)
theorem belA_lt {A : Nat} (hA : A < 4294967296) (P : Nat → Int) (B : Nat → Bool) : ∀ k, belA A P B k < 4294967296
  | 0 => hA
  | k + 1 => by
    cases h : B k
    · rw [belA_no h]; exact belA_lt hA P B k
    · rw [belA_yes h]; exact withV_lt (belA_lt hA P B k) _
theorem belA_bit {A : Nat} {P : Nat → Int} {B : Nat → Bool} (j : Nat) : ∀ k, (∀ i, i < k → 0 ≤ P i ∧ P i < 32) → ((belA A P B k).testBit j = true ↔ A.testBit j = true ∨ ∃ i, i < k ∧ B i = true ∧ P i = (j : Int))
  | 0, _ => by
    constructor
    · intro h; exact .inl h
    · rintro (h | ⟨i, hi, _⟩)
      · exact h
      · omega
  | k + 1, hP => by
    have ih := belA_bit (A := A) (B := B) j k (fun i hi => hP i (by omega))
    obtain ⟨p, hp⟩ : ∃ p : Nat, P k = (p : Int) := ⟨(P k).toNat, by have := hP k (by omega); omega⟩
    cases h : B k
    · rw [belA_no h, ih]
      constructor
      · rintro (q | ⟨i, a, b⟩)
        · exact .inl q
        · exact .inr ⟨i, by omega, b⟩
      · rintro (q | ⟨i, a, b, c⟩)
        · exact .inl q
        · by_cases e : i = k
          · rw [e, h] at b; cases b
          · exact .inr ⟨i, by omega, b, c⟩
    · rw [belA_yes h, hp, with_bit (by have := hP k (by omega); omega), Bool.or_eq_true, ih]
      constructor
      · rintro ((q | ⟨i, a, b⟩) | q)
        · exact .inl q
        · exact .inr ⟨i, by omega, b⟩
        · have := of_decide_eq_true q
          exact .inr ⟨k, by omega, h, by rw [hp, this]⟩
      · rintro (q | ⟨i, a, b, c⟩)
        · exact .inl (.inl q)
        · by_cases e : i = k
          · right
            subst e
            exact decide_eq_true (by omega)
          · exact .inl (.inr ⟨i, by omega, b, c⟩)
/-- One bit put into a set, as the program reckons it. -/
theorem or_shift {N k : Nat} (hN : N < 4294967296) (hk : k < 32) : bits BinOp.or IntKind.u32 (N : Int) ((2 : Int) ^ k % 4294967296) = ((withV N (k : Int) : Nat) : Int) := by
  rw [pow_int hk, u32_or_nat N (2 ^ k) hN (pow_lt32 hk), with_in hk]
theorem without_bits {T : Nat} (hT : T < 4294967296) (g : Int) (j : Nat) : (withoutV T g).testBit j = (T.testBit j && !decide ((j : Int) = g)) := by
  by_cases h : 0 ≤ g ∧ g < 32
  · obtain ⟨n, rfl⟩ : ∃ n : Nat, g = (n : Int) := ⟨g.toNat, by omega⟩
    rw [without_in (by omega), without_bit T n j hT (by omega)]
    congr 2
    exact decide_eq_decide.2 (by omega)
  · rw [without_out hT h]
    cases e : T.testBit j
    · rfl
    · have := lt_bit hT e
      rw [decide_eq_false (by omega)]
      rfl

/-! ### The first one -/
/-- The least number below n that f tells of; n, if there is none. -/
def lst (f : Nat → Bool) : Nat → Nat
  | 0 => 0
  | n + 1 => if lst f n < n then lst f n else if f n = true then n else n + 1
theorem lst_succ (f : Nat → Bool) (n : Nat) : lst f (n + 1) = if lst f n < n then lst f n else if f n = true then n else n + 1 := rfl
theorem lst_none {f : Nat → Bool} : ∀ n, (∀ j, j < n → f j = false) → lst f n = n
  | 0, _ => rfl
  | n + 1, h => by
    rw [lst_succ, lst_none n (fun j hj => h j (by omega)), if_neg (by omega), if_neg (by rw [h n (by omega)]; decide)]
theorem lst_of {f : Nat → Bool} {k : Nat} (hk : f k = true) (hl : ∀ j, j < k → f j = false) : ∀ n, k < n → lst f n = k
  | 0, h => by omega
  | n + 1, h => by
    by_cases e : k < n
    · rw [lst_succ, lst_of hk hl n e, if_pos e]
    · obtain rfl : k = n := by omega
      rw [lst_succ, lst_none k hl, if_neg (by omega), if_pos hk]
/-- Either none, or a first one. -/
theorem lst_cases (f : Nat → Bool) : ∀ n, (∀ j, j < n → f j = false) ∨ ∃ k, k < n ∧ f k = true ∧ ∀ j, j < k → f j = false
  | 0 => .inl (fun j hj => by omega)
  | n + 1 => by
    rcases lst_cases f n with h | ⟨k, hk, h1, h2⟩
    · cases e : f n
      · exact .inl (fun j hj => by
          by_cases q : j = n
          · rw [q]; exact e
          · exact h j (by omega))
      · exact .inr ⟨n, by omega, e, h⟩
    · exact .inr ⟨k, by omega, h1, h2⟩
/-- The bit that is met behind k more, from q on. -/
def atR (c n q k : Nat) : Bool := c.testBit ((q + k) % n)
/-- The first one of c going round from q on; -1: none. -/
def firV (c n q : Nat) : Int := if lst (atR c n q) n < n then (((q + lst (atR c n q) n) % n : Nat) : Int) else -1
theorem firV_of {c n q k : Nat} (hk : k < n) (h : atR c n q k = true) (hl : ∀ j, j < k → atR c n q j = false) : firV c n q = (((q + k) % n : Nat) : Int) := by
  unfold firV
  rw [lst_of h hl n hk, if_pos hk]
theorem firV_none {c n q : Nat} (h : ∀ j, j < n → atR c n q j = false) : firV c n q = -1 := by
  unfold firV
  rw [lst_none n h, if_neg (by omega)]
theorem firV_cases (c n q : Nat) : (firV c n q = -1 ∧ ∀ j, j < n → atR c n q j = false) ∨ ∃ k, k < n ∧ firV c n q = (((q + k) % n : Nat) : Int) ∧ atR c n q k = true ∧ ∀ j, j < k → atR c n q j = false := by
  rcases lst_cases (atR c n q) n with h | ⟨k, hk, h1, h2⟩
  · exact .inl ⟨firV_none h, h⟩
  · exact .inr ⟨k, hk, firV_of hk h1 h2, h1, h2⟩
/-- Each number is met. -/
theorem met {n b : Nat} (hb : b < n) (q : Nat) : ∃ k, k < n ∧ (q + k) % n = b := by
  have hq : q % n < n := Nat.mod_lt _ (by omega)
  by_cases e : q % n ≤ b
  · refine ⟨b - q % n, by omega, ?_⟩
    rw [Nat.add_mod, Nat.mod_eq_of_lt (show b - q % n < n by omega), show q % n + (b - q % n) = b by omega, Nat.mod_eq_of_lt hb]
  · refine ⟨b + n - q % n, by omega, ?_⟩
    rw [Nat.add_mod, Nat.mod_eq_of_lt (show b + n - q % n < n by omega), show q % n + (b + n - q % n) = b + n by omega, Nat.add_mod_right, Nat.mod_eq_of_lt hb]
theorem one_way {n q j k : Nat} (hjk : j < k) (hk : k < n) : (q + j) % n ≠ (q + k) % n := fun e => by
  have h := Nat.sub_mod_eq_zero_of_mod_eq e.symm
  rw [show q + k - (q + j) = k - j by omega, Nat.mod_eq_of_lt (by omega)] at h
  omega
theorem bits_lt {c n b : Nat} (hc : c < 2 ^ n) (h : c.testBit b = true) : b < n := by
  by_cases e : b < n
  · exact e
  · have h1 : c < 2 ^ b := Nat.lt_of_lt_of_le hc (Nat.pow_le_pow_right (by omega) (by omega))
    rw [Nat.testBit_lt_two_pow h1] at h
    cases h
theorem bits_some {c : Nat} (h : c ≠ 0) : ∃ b, c.testBit b = true := Nat.exists_testBit_of_ne_zero h
theorem firV_some {c n : Nat} (hc : c < 2 ^ n) (h0 : c ≠ 0) (q : Nat) : ∃ k, k < n ∧ firV c n q = (((q + k) % n : Nat) : Int) ∧ atR c n q k = true ∧ ∀ j, j < k → atR c n q j = false := by
  rcases firV_cases c n q with ⟨_, h⟩ | h
  · obtain ⟨b, hb⟩ := bits_some h0
    obtain ⟨k, hk, e⟩ := met (bits_lt hc hb) q
    have := h k hk
    unfold atR at this
    rw [e, hb] at this
    cases this
  · exact h
theorem firV_zero (n q : Nat) : firV 0 n q = -1 := firV_none (fun j _ => by unfold atR; exact Nat.zero_testBit _)

/-! ### Round and round -/
/-- Those of c that are met within k, from q on. -/
def setR (c n q k : Nat) : Nat := belA 0 (fun j => (((q + j) % n : Nat) : Int)) (atR c n q) k
theorem setR_zero (c n q : Nat) : setR c n q 0 = 0 := rfl
theorem setR_lt (c n q k : Nat) : setR c n q k < 4294967296 := belA_lt (by decide) _ _ k
theorem setR_bit {c n q : Nat} (hn : 0 < n) (h32 : n ≤ 32) (k b : Nat) : (setR c n q k).testBit b = true ↔ ∃ j, j < k ∧ atR c n q j = true ∧ (q + j) % n = b := by
  unfold setR
  rw [belA_bit b k (fun i _ => by have := Nat.mod_lt (q + i) hn; omega)]
  constructor
  · rintro (h | ⟨j, h1, h2, h3⟩)
    · simp at h
    · exact ⟨j, h1, h2, by omega⟩
  · rintro ⟨j, h1, h2, h3⟩
    exact .inr ⟨j, h1, h2, by omega⟩
theorem setR_full {c n q : Nat} (hn : 0 < n) (h32 : n ≤ 32) (hc : c < 2 ^ n) : setR c n q n = c := by
  refine Nat.eq_of_testBit_eq fun b => ?_
  have h := setR_bit (c := c) (q := q) hn h32 n b
  cases e : c.testBit b
  · cases e2 : (setR c n q n).testBit b
    · rfl
    · obtain ⟨j, _, h2, h3⟩ := h.1 e2
      unfold atR at h2
      rw [h3, e] at h2
      cases h2
  · obtain ⟨j, hj, e3⟩ := met (bits_lt hc e) q
    exact h.2 ⟨j, hj, by unfold atR; rw [e3]; exact e, e3⟩
theorem setR_not {c n q k : Nat} (hn : 0 < n) (h32 : n ≤ 32) (hk : k < n) : (setR c n q k).testBit ((q + k) % n) = false := by
  cases e : (setR c n q k).testBit ((q + k) % n)
  · rfl
  · obtain ⟨j, h1, _, h3⟩ := (setR_bit hn h32 k _).1 e
    exact absurd h3 (one_way h1 hk)
theorem setR_skip {c n q k : Nat} : ∀ d, (∀ j, k ≤ j → j < k + d → atR c n q j = false) → setR c n q (k + d) = setR c n q k
  | 0, _ => rfl
  | d + 1, h => by
    have ih := setR_skip d (fun j h1 h2 => h j h1 (by omega))
    rw [← ih]
    exact belA_no (h (k + d) (by omega) (by omega))
theorem atR_turn {c n q k : Nat} : atR c n (q + n) k = atR c n q k := by
  unfold atR
  rw [show q + n + k = q + k + n by omega, Nat.add_mod_right]
/-- From the one that is told on. -/
theorem round_step {c n q K : Nat} (hn : 0 < n) (h32 : n ≤ 32) (hc : c < 2 ^ n) (hK : K < n) (hb : atR c n q K = true) : ∃ K', K < K' ∧ K' ≤ n ∧ withV (setR c n q K) (((q + K) % n : Nat) : Int) = setR c n q K' ∧ ((K' < n ∧ atR c n q K' = true ∧ firV c n ((q + K) % n + 1) = (((q + K') % n : Nat) : Int)) ∨ (K' = n ∧ firV c n ((q + K) % n + 1) = firV c n q)) := by
  have h0 : c ≠ 0 := fun e => by
    unfold atR at hb
    rw [e, Nat.zero_testBit] at hb
    cases hb
  have eR : ∀ k, atR c n ((q + K) % n + 1) k = atR c n q (K + 1 + k) := fun k => by
    unfold atR
    rw [show (q + K) % n + 1 + k = (q + K) % n + (1 + k) by omega, Nat.mod_add_mod, show q + K + (1 + k) = q + (K + 1 + k) by omega]
  have eP : ∀ k, ((q + K) % n + 1 + k) % n = (q + (K + 1 + k)) % n := fun k => by
    rw [show (q + K) % n + 1 + k = (q + K) % n + (1 + k) by omega, Nat.mod_add_mod, show q + K + (1 + k) = q + (K + 1 + k) by omega]
  have hW : withV (setR c n q K) (((q + K) % n : Nat) : Int) = setR c n q (K + 1) := (belA_yes hb).symm
  obtain ⟨k, hk, h1, h2, h3⟩ := firV_some hc h0 ((q + K) % n + 1)
  rw [eP] at h1
  rw [eR] at h2
  by_cases e : K + 1 + k < n
  · refine ⟨K + 1 + k, by omega, by omega, ?_, .inl ⟨e, h2, h1⟩⟩
    rw [hW, setR_skip k (fun j a b => ?_)]
    have := h3 (j - (K + 1)) (by omega)
    rw [eR, show K + 1 + (j - (K + 1)) = j by omega] at this
    exact this
  · refine ⟨n, hK, Nat.le_refl _, ?_, .inr ⟨rfl, ?_⟩⟩
    · rw [hW]
      have := setR_skip (c := c) (n := n) (q := q) (k := K + 1) (n - (K + 1)) (fun j a b => by
        have := h3 (j - (K + 1)) (by omega)
        rw [eR, show K + 1 + (j - (K + 1)) = j by omega] at this
        exact this)
      rw [show K + 1 + (n - (K + 1)) = n by omega] at this
      exact this.symm
    · have eT : ∀ j, atR c n q (j + n) = atR c n q j := fun j => by
        unfold atR
        rw [show q + (j + n) = q + j + n by omega, Nat.add_mod_right]
      have e2 : K + 1 + k = K + 1 + k - n + n := by omega
      rw [h1, firV_of (q := q) (k := K + 1 + k - n) (by omega) (by rw [← eT, ← e2]; exact h2) (fun j hj => by
        have := h3 (j + n - (K + 1)) (by omega)
        rw [eR, show K + 1 + (j + n - (K + 1)) = j + n by omega, eT] at this
        exact this)]
      rw [show q + (K + 1 + k) = q + (K + 1 + k - n) + n by omega, Nat.add_mod_right]

end Go.Proofs.YtjfajdmifjbblaaDoor

/-
  WHO IS CALLED, in numbers: the phases that are wanted, the calls a tick later; what the program's and the document's reckonings come to.
-/
namespace Go.Proofs.YtjfajdmifjbblaaDoor
open Go.RowKit Go.Lib Go.Deep
set_option linter.unusedVariables false
set_option linter.unusedSimpArgs false

/-- Does one of the first n that B tells of belong to p? -/
def anyW (P : Nat → Int) (B : Nat → Bool) (p : Int) : Nat → Bool
  | 0 => false
  | k + 1 => anyW P B p k || (decide (P k = p) && B k)
theorem anyW_succ (P : Nat → Int) (B : Nat → Bool) (p : Int) (k : Nat) : anyW P B p (k + 1) = (anyW P B p k || (decide (P k = p) && B k)) := rfl
theorem anyW_iff {P : Nat → Int} {B : Nat → Bool} {p : Int} : ∀ k, anyW P B p k = true ↔ ∃ i, i < k ∧ B i = true ∧ P i = p
  | 0 => by
    constructor
    · intro h; cases h
    · rintro ⟨i, hi, _⟩; omega
  | k + 1 => by
    have ih := anyW_iff (P := P) (B := B) (p := p) k
    rw [anyW_succ, Bool.or_eq_true, ih, Bool.and_eq_true, decide_eq_true_eq]
    constructor
    · rintro (⟨i, a, b⟩ | ⟨a, b⟩)
      · exact ⟨i, by omega, b⟩
      · exact ⟨k, by omega, b, a⟩
    · rintro ⟨i, a, b, d⟩
      by_cases e : i = k
      · subst e; exact .inr ⟨d, b⟩
      · exact .inl ⟨i, by omega, b, d⟩
def eyP (S : St) (i : Nat) : Int := (S.ey i).phase
def wnt (L : List Lk) (i : Nat) : Bool := (lk L i).up || (lk L i).bad
def alw (S : St) (i : Nat) : Bool := (S.ph i).always
def idN (i : Nat) : Int := (i : Int)
/-- Is phase p wanted? -/
def wantB (S : St) (L : List Lk) (p : Nat) : Bool := (decide (p < S.phases.length) && alw S p) || anyW (eyP S) (wnt L) (p : Int) L.length
/-- The phases that are always wanted, of the first k; and those besides that detectors want. -/
def alwN (S : St) (k : Nat) : Nat := belA 0 idN (alw S) k
def wanK (S : St) (L : List Lk) (k : Nat) : Nat := belA (alwN S S.phases.length) (eyP S) (wnt L) k
def wanN (S : St) (L : List Lk) : Nat := wanK S L L.length
theorem alwN_lt (S : St) (k : Nat) : alwN S k < 4294967296 := belA_lt (by decide) _ _ k
theorem wanK_lt (S : St) (L : List Lk) (k : Nat) : wanK S L k < 4294967296 := belA_lt (alwN_lt S _) _ _ k
theorem wanN_lt (S : St) (L : List Lk) : wanN S L < 4294967296 := wanK_lt S L _
/-- What a site that may be tells. -/
structure CalF (S : St) : Prop where
  p0 : 1 ≤ S.phases.length
  p1 : S.phases.length ≤ 8
  e1 : S.eyes.length ≤ 24
  ey : ∀ i, i < S.eyes.length → 0 ≤ eyP S i ∧ eyP S i < (S.phases.length : Int)
theorem cal_facts {S : St} (hs : siteB S = true) : CalF S := by
  have hf := eye_facts hs
  have h1 : 1 ≤ S.phases.length := by
    have hs' := hs
    unfold siteB countsB at hs'
    simp only [Bool.and_eq_true, inB_iff, decide_eq_true_eq] at hs'
    omega
  exact ⟨h1, hf.p, hf.n, fun i hi => by have := hf.ey i hi; unfold eyP; omega⟩
theorem wan_bit {S : St} {L : List Lk} (hs : siteB S = true) (hl : L.length = S.eyes.length) (j : Nat) : (wanN S L).testBit j = wantB S L j := by
  have hf := cal_facts hs
  have hp := hf.p1
  have key : (wanN S L).testBit j = true ↔ wantB S L j = true := by
    unfold wanN wanK alwN wantB
    rw [belA_bit j _ (fun i hi => by have := hf.ey i (by omega); omega), belA_bit j _ (fun i hi => by unfold idN; omega), Bool.or_eq_true, anyW_iff, Bool.and_eq_true, decide_eq_true_eq]
    constructor
    · rintro ((h | ⟨i, h1, h2, h3⟩) | h)
      · simp at h
      · unfold idN at h3
        obtain rfl : i = j := by omega
        exact .inl ⟨h1, h2⟩
      · exact .inr h
    · rintro (⟨h1, h2⟩ | h)
      · exact .inl (.inr ⟨j, h1, h2, rfl⟩)
      · exact .inr h
  cases h : wantB S L j
  · cases e : (wanN S L).testBit j
    · rfl
    · rw [key.1 e] at h; cases h
  · exact key.2 h
theorem want_far {S : St} {L : List Lk} (hs : siteB S = true) (hl : L.length = S.eyes.length) {j : Nat} (hj : S.phases.length ≤ j) : wantB S L j = false := by
  have hf := cal_facts hs
  unfold wantB
  rw [decide_eq_false (by omega), Bool.false_and, Bool.false_or]
  cases e : anyW (eyP S) (wnt L) (j : Int) L.length
  · rfl
  · obtain ⟨i, h1, _, h3⟩ := (anyW_iff _).1 e
    have := hf.ey i (by omega)
    omega
/-- Gathered number by number it is the same. -/
theorem gather {T n : Nat} (B : Nat → Bool) (h32 : n ≤ 32) (h : ∀ j, T.testBit j = (decide (j < n) && B j)) : belA 0 idN B n = T := by
  refine Nat.eq_of_testBit_eq fun j => ?_
  have hb := belA_bit (A := 0) (P := idN) (B := B) j n (fun i hi => by unfold idN; omega)
  rw [h j]
  cases e : (decide (j < n) && B j)
  · cases e2 : (belA 0 idN B n).testBit j
    · rfl
    · rcases hb.1 e2 with q | ⟨i, h1, h2, h3⟩
      · simp at q
      · unfold idN at h3
        obtain rfl : i = j := by omega
        rw [decide_eq_true h1, h2] at e
        cases e
  · rw [Bool.and_eq_true, decide_eq_true_eq] at e
    exact hb.2 (.inr ⟨j, e.1, e.2, rfl⟩)
/-- The document's Real. -/
def reaK (S : St) (L : List Lk) (k : Nat) : Nat := belA 0 idN (wantB S L) k
theorem reaK_lt (S : St) (L : List Lk) (k : Nat) : reaK S L k < 4294967296 := belA_lt (by decide) _ _ k
theorem rea_is {S : St} {L : List Lk} (hs : siteB S = true) (hl : L.length = S.eyes.length) : reaK S L S.phases.length = wanN S L :=
  gather _ (by have := (cal_facts hs).p1; omega) (fun j => by
    rw [wan_bit hs hl]
    by_cases e : j < S.phases.length
    · rw [decide_eq_true e, Bool.true_and]
    · rw [decide_eq_false e, Bool.false_and, want_far hs hl (by omega)])
/-- The calls a tick later. -/
def nxtN (S : St) (c : Nat) (L : List Lk) (g : Int) : Nat := withoutV (c ||| wanN S L) g
theorem or_lt32 {a b : Nat} (ha : a < 4294967296) (hb : b < 4294967296) : a ||| b < 4294967296 := Nat.or_lt_two_pow (n := 32) ha hb
theorem nxtN_lt {S : St} {c : Nat} {L : List Lk} {g : Int} (hc : c < 4294967296) : nxtN S c L g < 4294967296 := withoutV_lt (or_lt32 hc (wanN_lt S L)) g
theorem nxt_bit {S : St} {c : Nat} {L : List Lk} {g : Int} (hc : c < 4294967296) (hs : siteB S = true) (hl : L.length = S.eyes.length) (j : Nat) : (nxtN S c L g).testBit j = ((c.testBit j || wantB S L j) && !decide ((j : Int) = g)) := by
  unfold nxtN
  rw [without_bits (or_lt32 hc (wanN_lt S L)), Nat.testBit_or, wan_bit hs hl]
/-- The document's Next. -/
def nexB (S : St) (c : Nat) (L : List Lk) (g : Int) (p : Nat) : Bool := !decide ((p : Int) = g) && (hasB c (p : Int) || hasB (wanN S L) (p : Int))
def nexK (S : St) (c : Nat) (L : List Lk) (g : Int) (k : Nat) : Nat := belA 0 idN (nexB S c L g) k
theorem nexK_lt (S : St) (c : Nat) (L : List Lk) (g : Int) (k : Nat) : nexK S c L g k < 4294967296 := belA_lt (by decide) _ _ k
theorem pow_le8 {n : Nat} (h : n ≤ 8) : 2 ^ n ≤ 256 := Nat.pow_le_pow_right (n := 2) (by omega) h
theorem nex_is {S : St} {c : Nat} {L : List Lk} {g : Int} (hs : siteB S = true) (hl : L.length = S.eyes.length) (hc : c < 2 ^ S.phases.length) : nexK S c L g S.phases.length = nxtN S c L g := by
  have hp := (cal_facts hs).p1
  have hc2 : c < 4294967296 := by have := pow_le8 hp; omega
  refine gather _ (by omega) (fun j => ?_)
  rw [nxt_bit hc2 hs hl]
  by_cases e : j < S.phases.length
  · rw [decide_eq_true e, Bool.true_and]
    unfold nexB
    rw [has_in (by omega), has_in (by omega), wan_bit hs hl, Bool.and_comm]
  · rw [decide_eq_false e, Bool.false_and, want_far hs hl (by omega)]
    cases q : c.testBit j
    · rfl
    · exact absurd (bits_lt hc q) e
/-- The errors. -/
def calE (S : St) (c : Nat) (g : Int) : Int := if c < 2 ^ S.phases.length then (if -1 ≤ g ∧ g < (S.phases.length : Int) then 0 else 2) else 8
def nexE (S : St) (c : Nat) (L : List Lk) (g : Int) : Int := if allE S L = 0 then calE S c g else allE S L
def firE (S : St) (c : Nat) (g : Int) : Int := if siteB S = true then calE S c g else 50
def reaV (S : St) (L : List Lk) : Nat := if allE S L = 0 then wanN S L else 0
def nexV (S : St) (c : Nat) (L : List Lk) (g : Int) : Nat := if nexE S c L g = 0 then nxtN S c L g else 0
def fstV (S : St) (c : Nat) (g : Int) : Int := if firE S c g = 0 then firV c S.phases.length (g + 1).toNat else 0
theorem calE_bad {S : St} {c : Nat} {g : Int} (h : ¬ c < 2 ^ S.phases.length) : calE S c g = 8 := by unfold calE; rw [if_neg h]
theorem calE_arg {S : St} {c : Nat} {g : Int} (h : c < 2 ^ S.phases.length) (h2 : ¬ (-1 ≤ g ∧ g < (S.phases.length : Int))) : calE S c g = 2 := by unfold calE; rw [if_pos h, if_neg h2]
theorem calE_ok {S : St} {c : Nat} {g : Int} (h : c < 2 ^ S.phases.length) (h2 : -1 ≤ g ∧ g < (S.phases.length : Int)) : calE S c g = 0 := by unfold calE; rw [if_pos h, if_pos h2]
theorem calE_zero {S : St} {c : Nat} {g : Int} (h : calE S c g = 0) : c < 2 ^ S.phases.length ∧ -1 ≤ g ∧ g < (S.phases.length : Int) := by
  unfold calE at h
  split at h
  · split at h
    · rename_i a b; exact ⟨a, b.1, b.2⟩
    · omega
  · omega
theorem nexE_zero {S : St} {c : Nat} {L : List Lk} {g : Int} (h : nexE S c L g = 0) : allE S L = 0 ∧ calE S c g = 0 := by
  unfold nexE at h
  split at h
  · rename_i a; exact ⟨a, h⟩
  · rename_i a; exact absurd h a
theorem firE_zero {S : St} {c : Nat} {g : Int} (h : firE S c g = 0) : siteB S = true ∧ calE S c g = 0 := by
  unfold firE at h
  split at h
  · rename_i a; exact ⟨a, h⟩
  · omega
/-- No bit at n or beyond. -/
theorem shr_zero {c n : Nat} : (((c : Int) / 2 ^ n != 0) : Bool) = !decide (c < 2 ^ n) := by
  have e : (c : Int) / 2 ^ n = ((c / 2 ^ n : Nat) : Int) := by simp
  rw [e]
  by_cases h : c < 2 ^ n
  · rw [Nat.div_eq_of_lt h, decide_eq_true h]; rfl
  · have h1 : 0 < c / 2 ^ n := Nat.div_pos (by omega) (Nat.two_pow_pos _)
    rw [decide_eq_false h]
    simp
    omega

end Go.Proofs.YtjfajdmifjbblaaDoor

/-
  THE CONTRACTS of call.wanted and call.checkCalls (made by a program).
-/
namespace Go.Proofs.YtjfajdmifjbblaaDoor
open Go.RowKit Go.Lib Go.Deep
set_option linter.unusedVariables false
set_option linter.unusedSimpArgs false

/-- A phase's cells. -/
theorem Sat.phs {w : World} {X : Sa} {S : St} (h : Sat w X S) {pb po : Nat} (e : X.p = some ⟨pb, po, none⟩) {k : Nat} (hk : k < S.phases.length) : pb < w.heap.size ∧ w.cell? ⟨pb, po + k * 5, none⟩ = some (.int .u32 ((S.ph k).groups : Int)) ∧ w.cell? ⟨pb, po + k * 5 + 1, none⟩ = some (.int .i64 (S.ph k).min) ∧ w.cell? ⟨pb, po + k * 5 + 2, none⟩ = some (.int .i64 (S.ph k).max) ∧ w.cell? ⟨pb, po + k * 5 + 3, none⟩ = some (.int .i64 (S.ph k).gap) ∧ w.cell? ⟨pb, po + k * 5 + 4, none⟩ = some (.bool (S.ph k).always) := by
  obtain ⟨b, off, e2, hb, hc⟩ := h.p.at_ (by omega)
  rw [e] at e2
  injection e2 with e2
  injection e2 with e3 e4
  subst e3 e4
  exact ⟨hb, hc k hk 0 (by omega), hc k hk 1 (by omega), hc k hk 2 (by omega), hc k hk 3 (by omega), hc k hk 4 (by omega)⟩
theorem Sat.pp {w : World} {X : Sa} {S : St} (h : Sat w X S) (hk : 0 < S.phases.length) : ∃ pb po, X.p = some ⟨pb, po, none⟩ := by
  obtain ⟨b, off, e2, hb, hc⟩ := h.p.at_ hk
  exact ⟨b, off, e2⟩
set_option maxRecDepth 100000 in
set_option maxHeartbeats 2000000 in
theorem cwant_any {X : Sa} {S : St} {w : World} (h : Sat w X S) {a : Option Addr} {n c : Nat} {L : List Lk} (hA : Lks w a n L) (hc : Cap a n c) (hs : siteB S = true) (hl : n = S.eyes.length) : Calls Tryd.prog 21 #[siteV X S, .slice a n c] w fun e w' => e = .returned (.int .u32 ((wanN S L : Nat) : Int)) ∧ Kept w w' none := by
  have hf := cal_facts hs
  have hp1 := hf.p1
  have hle1 : n ≤ S.eyes.length := by omega
  have HEY := Hid.mk' (fun i hi => (⟨(hf.ey i hi).1, by have := (hf.ey i hi).2; omega⟩ : 0 ≤ eyP S i ∧ eyP S i < 32))
  have HW : Hid (wanN S L = wanK S L n) := by show _ = _; rw [← hA.size]; rfl
  obtain ⟨pb, po, ep⟩ := h.pp hf.p0
  clear hs hl hf
  have hkA : Kept w (w.alloc (.cells #[.int .i64 S.id, .slice X.g S.groups.length X.gc, .slice X.a S.apart.length X.ac, .slice X.b S.between.length X.bc, .slice X.p S.phases.length X.pc, .slice X.e S.eyes.length X.ec, .int .i64 S.watch, .int .i64 S.feed, .int .i64 S.heal, .int .i64 S.low, .int .i64 S.high, .slice X.l S.plans.length X.lc] 29)) none := Kept.alloc _ _ _ _ _
  have hsb := sbox_alloc h 29
  have HS := Hid.mk' (h.kept hkA)
  have HA := Hid.mk' (hA.kept hkA)
  have HSZ := Hid.mk' hA.size
  have hn9 : n ≤ 9223372036854775807 := by have := hc.room; have := hc.max; omega
  have hE9 : S.eyes.length ≤ 9223372036854775807 := by have := h.ek.room; have := h.ek.max; omega
  have hP9 : S.phases.length ≤ 9223372036854775807 := by have := h.pk.room; have := h.pk.max; omega
  obtain ⟨WA, hWA⟩ : ∃ WA, (w.alloc (.cells #[.int .i64 S.id, .slice X.g S.groups.length X.gc, .slice X.a S.apart.length X.ac, .slice X.b S.between.length X.bc, .slice X.p S.phases.length X.pc, .slice X.e S.eyes.length X.ec, .int .i64 S.watch, .int .i64 S.feed, .int .i64 S.heal, .int .i64 S.low, .int .i64 S.high, .slice X.l S.plans.length X.lc] 29)) = WA := ⟨_, rfl⟩
  rw [hWA] at hkA hsb HS HA
  have hlA : w.heap.size < WA.heap.size := hsb.lt
  have HK := Hid.mk' hkA
  have HSB := Hid.mk' hsb
  have hK0 := Kept.refl WA none
  clear h hA hkA hsb
  have s0_ : ∀ w', Kept WA w' none → w'.cell? ⟨w.heap.size, 0, none⟩ = some (.int .i64 S.id) := fun w' q => (HSB.out.kept q).c0
  have s1_ : ∀ w', Kept WA w' none → w'.cell? ⟨w.heap.size, 1, none⟩ = some (.slice X.g S.groups.length X.gc) := fun w' q => (HSB.out.kept q).c1
  have s2_ : ∀ w', Kept WA w' none → w'.cell? ⟨w.heap.size, 2, none⟩ = some (.slice X.a S.apart.length X.ac) := fun w' q => (HSB.out.kept q).c2
  have s3_ : ∀ w', Kept WA w' none → w'.cell? ⟨w.heap.size, 3, none⟩ = some (.slice X.b S.between.length X.bc) := fun w' q => (HSB.out.kept q).c3
  have s4_ : ∀ w', Kept WA w' none → w'.cell? ⟨w.heap.size, 4, none⟩ = some (.slice X.p S.phases.length X.pc) := fun w' q => (HSB.out.kept q).c4
  have s5_ : ∀ w', Kept WA w' none → w'.cell? ⟨w.heap.size, 5, none⟩ = some (.slice X.e S.eyes.length X.ec) := fun w' q => (HSB.out.kept q).c5
  have s6_ : ∀ w', Kept WA w' none → w'.cell? ⟨w.heap.size, 6, none⟩ = some (.int .i64 S.watch) := fun w' q => (HSB.out.kept q).c6
  have s7_ : ∀ w', Kept WA w' none → w'.cell? ⟨w.heap.size, 7, none⟩ = some (.int .i64 S.feed) := fun w' q => (HSB.out.kept q).c7
  have s8_ : ∀ w', Kept WA w' none → w'.cell? ⟨w.heap.size, 8, none⟩ = some (.int .i64 S.heal) := fun w' q => (HSB.out.kept q).c8
  have s9_ : ∀ w', Kept WA w' none → w'.cell? ⟨w.heap.size, 9, none⟩ = some (.int .i64 S.low) := fun w' q => (HSB.out.kept q).c9
  have s10_ : ∀ w', Kept WA w' none → w'.cell? ⟨w.heap.size, 10, none⟩ = some (.int .i64 S.high) := fun w' q => (HSB.out.kept q).c10
  have s11_ : ∀ w', Kept WA w' none → w'.cell? ⟨w.heap.size, 11, none⟩ = some (.slice X.l S.plans.length X.lc) := fun w' q => (HSB.out.kept q).c11
  rw [ep] at s4_
  have HEP := Hid.mk' ep
  clear ep
  go_enter Tryd.func21, Tryd.ntmps21
  go_wp2_with (rw [hWA])
  have hA0 : (0 : Int) = ((alwN S 0 : Nat) : Int) := rfl
  go_loopw [5, 6, 7, 13] (fun uv _ _ iv wr => ∃ k : Nat, k ≤ S.phases.length ∧ iv = .int .i64 k ∧ uv = .int .u32 ((alwN S k : Nat) : Int) ∧ Kept WA wr none) (fun _ _ _ iv _ => S.phases.length - (intOf iv).toNat)
  case atStart => exact ⟨0, by omega, rfl, rfl, hK0⟩
  case round =>
    clear hA0
    obtain ⟨k, hk, rfl, rfl, hkr⟩ := hrel
    by_cases hlt : k < S.phases.length
    · obtain ⟨hb, c0, c1, c2, c3, c4⟩ := (HS.out.kept hkr).phs HEP.out hlt
      have hN9 := alwN_lt S k
      cases hal : alw S k
      ·
        have HN : Hid (alwN S (k + 1) = alwN S k) := belA_no hal
        have hal2 : (S.ph k).always = false := hal
        rw [hal2] at c4
        clear hal hal2
        generalize alwN S k = N1 at *
        generalize S.ph k = x at *
        obtain ⟨x0', x1', x2', x3', x4'⟩ := x
        dsimp only at c0 c1 c2 c3
        go_wp2
        go_roundw
        case rel => exact ⟨k + 1, by omega, by go_num, by rw [HN.out], hkr.tr (by (repeat (first | exact Kept.refl _ _ | assumption | (refine Kept.setNew ?_ (by first | omega | (simp <;> omega)) _) | (refine Kept.tr ?_ (Kept.alloc _ _ _ _ _)) | (refine Kept.tr ?_ (Kept.drew _ _)))))⟩
        case measure => simp [intOf]; omega
      ·
        have HN : Hid (alwN S (k + 1) = withV (alwN S k) (idN k)) := belA_yes hal
        have hal2 : (S.ph k).always = true := hal
        rw [hal2] at c4
        clear hal hal2
        have hor := or_shift hN9 (show k < 32 by omega)
        have hN2 : Hid (((alwN S (k + 1) : Nat) : Int) = ((withV (alwN S k) (k : Int) : Nat) : Int)) := by show _ = _; rw [HN.out]; rfl
        generalize withV (alwN S k) (k : Int) = M at *
        generalize alwN S k = N1 at *
        generalize S.ph k = x at *
        obtain ⟨x0', x1', x2', x3', x4'⟩ := x
        dsimp only at c0 c1 c2 c3
        go_wp2
        go_roundw
        case rel => exact ⟨k + 1, by omega, by go_num, by rw [hN2.out], hkr.tr (by (repeat (first | exact Kept.refl _ _ | assumption | (refine Kept.setNew ?_ (by first | omega | (simp <;> omega)) _) | (refine Kept.tr ?_ (Kept.alloc _ _ _ _ _)) | (refine Kept.tr ?_ (Kept.drew _ _)))))⟩
        case measure => simp [intOf]; omega
    · obtain rfl : k = S.phases.length := by omega
      have HW0 : Hid (alwN S S.phases.length = wanK S L 0) := rfl
      have hw0 := HW0.out
      rw [hw0]
      clear hw0
      obtain ⟨wo, hwo⟩ : ∃ wo, wo = wr := ⟨_, rfl⟩
      subst hwo
      go_wp2
      go_loopw [5, 8, 9, 27] (fun uv _ _ iv wr => ∃ k : Nat, k ≤ n ∧ iv = .int .i64 k ∧ uv = .int .u32 ((wanK S L k : Nat) : Int) ∧ Kept WA wr none) (fun _ _ _ iv _ => n - (intOf iv).toNat)
      case atStart => exact ⟨0, by omega, rfl, rfl, hkr⟩
      case round =>
        clear hkr hk hlt
        obtain ⟨k, hk, rfl, rfl, hkr⟩ := hrel
        by_cases hlt : k < n
        · obtain ⟨b, off, ea, hb, c0, c1, c2, c3, c4⟩ := (HA.out.kept hkr).at_ hlt
          subst ea
          have hke : k < S.eyes.length := by omega
          obtain ⟨eb, eo, ee, heb, y0, y1, y2, y3⟩ := (HS.out.kept hkr).eye (k := k) hke
          clear y1 y2 y3
          have hN9 := wanK_lt S L k
          have s5 := s5_ wr hkr
          rw [ee] at s5
          clear ee s5_
          have hwl : w.heap.size < wr.heap.size := Nat.lt_of_lt_of_le hlA hkr.size
          cases hup : wnt L k
          ·
            have HN : Hid (wanK S L (k + 1) = wanK S L k) := belA_no hup
            have HWN : Hid (∀ w', Calls Tryd.prog 35 #[lkV (lk L k)] w' fun e w'' => e = .returned (.bool false) ∧ Kept w' w'' none) := fun w' => by have := wants_any (lk L k) w'; rw [show ((lk L k).up || (lk L k).bad) = false from hup] at this; exact this
            clear hup
            clear y0
            generalize lk L k = x at *
            obtain ⟨x0', x1', x2', x3', x4'⟩ := x
            dsimp only at c0 c1 c2 c3 c4
            generalize wanK S L k = N1 at *
            go_wp2_with (go_at_call 35; refine (HWN.out _).mono ?_; rintro e wB ⟨rfl, hkB⟩; have hkX : Kept wr wB none := (Kept.alloc _ _ _ _ _).tr hkB; have lwB : w.heap.size < wB.heap.size := Nat.lt_of_lt_of_le hwl hkX.size; have leB : eb < wB.heap.size := Nat.lt_of_lt_of_le heb hkX.size)
            go_roundw
            case rel => exact ⟨k + 1, by omega, by go_num, by rw [HN.out], hkr.tr hkX⟩
            case measure => simp [intOf]; omega
          ·
            have HN : Hid (wanK S L (k + 1) = withV (wanK S L k) (eyP S k)) := belA_yes hup
            have HWN : Hid (∀ w', Calls Tryd.prog 35 #[lkV (lk L k)] w' fun e w'' => e = .returned (.bool true) ∧ Kept w' w'' none) := fun w' => by have := wants_any (lk L k) w'; rw [show ((lk L k).up || (lk L k).bad) = true from hup] at this; exact this
            clear hup
            obtain ⟨p, hp⟩ : ∃ p : Nat, eyP S k = (p : Int) := ⟨(eyP S k).toNat, by have := HEY.out k hke; omega⟩
            have hp32 : p < 32 := by have := HEY.out k hke; omega
            have hor := or_shift hN9 hp32
            rw [hp] at HN
            have y0_ : ∀ w', Kept wr w' none → w'.cell? ⟨eb, eo + k * 4, none⟩ = some (.int .i64 (p : Int)) := fun w' q => by rw [← hp]; exact cell_kr y0 q (by simp)
            have s5k : ∀ w', Kept wr w' none → w'.cell? ⟨w.heap.size, 5, none⟩ = some (.slice (some ⟨eb, eo, none⟩) S.eyes.length X.ec) := fun w' q => cell_kr s5 q (by simp)
            clear y0 hp s5
            generalize lk L k = x at *
            obtain ⟨x0', x1', x2', x3', x4'⟩ := x
            dsimp only at c0 c1 c2 c3 c4
            generalize wanK S L k = N1 at *
            generalize withV N1 (p : Int) = M at *
            go_wp2_with (go_at_call 35; refine (HWN.out _).mono ?_; rintro e wB ⟨rfl, hkB⟩; have hkX : Kept wr wB none := (Kept.alloc _ _ _ _ _).tr hkB; have lwB : w.heap.size < wB.heap.size := Nat.lt_of_lt_of_le hwl hkX.size; have leB : eb < wB.heap.size := Nat.lt_of_lt_of_le heb hkX.size)
            go_roundw
            case rel => exact ⟨k + 1, by omega, by go_num, by rw [HN.out], hkr.tr hkX⟩
            case measure => simp [intOf]; omega
        · obtain rfl : k = n := by omega
          have hN9 := wanK_lt S L k
          generalize wanK S L k = N1 at *
          go_wp2
          go_ret
          exact ⟨by rw [HW.out]; rfl, HK.out.tr hkr⟩

end Go.Proofs.YtjfajdmifjbblaaDoor

