/-
  CALLS, in numbers: sets that are gathered, the first one going round, and going round again and again.
-/
import Derived.Test.YtjfajdmifjbblaaDoorEyeU
namespace Go.Proofs.YtjfajdmifjbblaaDoor
open Go.RowKit Go.Lib Go.Deep
set_option linter.unusedVariables false
set_option linter.unusedSimpArgs false

/-- A, and the numbers P k of those of the first n that B tells of. -/
def belA (A : Nat) (P : Nat → Int) (B : Nat → Bool) : Nat → Nat
  | 0 => A
  | k + 1 => if B k = true then withV (belA A P B k) (P k) else belA A P B k
theorem belA_yes {A : Nat} {P : Nat → Int} {B : Nat → Bool} {k : Nat} (h : B k = true) : belA A P B (k + 1) = withV (belA A P B k) (P k) := if_pos h
theorem belA_no {A : Nat} {P : Nat → Int} {B : Nat → Bool} {k : Nat} (h : B k = false) : belA A P B (k + 1) = belA A P B k := if_neg (by rw [h]; decide)
theorem belA_lt {A : Nat} (hA : A < 4294967296) (P : Nat → Int) (B : Nat → Bool) : ∀ k, belA A P B k < 4294967296
  | 0 => hA
  | k + 1 => by
    cases h : B k
    · rw [belA_no h]; exact belA_lt hA P B k
    · rw [belA_yes h]; exact withV_lt (belA_lt hA P B k) _
theorem belA_bit {A : Nat} {P : Nat → Int} {B : Nat → Bool} (j : Nat) : ∀ k, (∀ i, i < k → 0 ≤ P i ∧ P i < 32) → ((belA A P B k).testBit j = true ↔ A.testBit j = true ∨ ∃ i, i < k ∧ B i = true ∧ P i = (j : Int))
  | 0, _ => by
    constructor
    · intro h; exact .inl h
    · rintro (h | ⟨i, hi, _⟩)
      · exact h
      · omega
  | k + 1, hP => by
    have ih := belA_bit (A := A) (B := B) j k (fun i hi => hP i (by omega))
    obtain ⟨p, hp⟩ : ∃ p : Nat, P k = (p : Int) := ⟨(P k).toNat, by have := hP k (by omega); omega⟩
    cases h : B k
    · rw [belA_no h, ih]
      constructor
      · rintro (q | ⟨i, a, b⟩)
        · exact .inl q
        · exact .inr ⟨i, by omega, b⟩
      · rintro (q | ⟨i, a, b, c⟩)
        · exact .inl q
        · by_cases e : i = k
          · rw [e, h] at b; cases b
          · exact .inr ⟨i, by omega, b, c⟩
    · rw [belA_yes h, hp, with_bit (by have := hP k (by omega); omega), Bool.or_eq_true, ih]
      constructor
      · rintro ((q | ⟨i, a, b⟩) | q)
        · exact .inl q
        · exact .inr ⟨i, by omega, b⟩
        · have := of_decide_eq_true q
          exact .inr ⟨k, by omega, h, by rw [hp, this]⟩
      · rintro (q | ⟨i, a, b, c⟩)
        · exact .inl (.inl q)
        · by_cases e : i = k
          · right
            subst e
            exact decide_eq_true (by omega)
          · exact .inl (.inr ⟨i, by omega, b, c⟩)
/-- One bit put into a set, as the program reckons it. -/
theorem or_shift {N k : Nat} (hN : N < 4294967296) (hk : k < 32) : bits BinOp.or IntKind.u32 (N : Int) ((2 : Int) ^ k % 4294967296) = ((withV N (k : Int) : Nat) : Int) := by
  rw [pow_int hk, u32_or_nat N (2 ^ k) hN (pow_lt32 hk), with_in hk]
theorem without_bits {T : Nat} (hT : T < 4294967296) (g : Int) (j : Nat) : (withoutV T g).testBit j = (T.testBit j && !decide ((j : Int) = g)) := by
  by_cases h : 0 ≤ g ∧ g < 32
  · obtain ⟨n, rfl⟩ : ∃ n : Nat, g = (n : Int) := ⟨g.toNat, by omega⟩
    rw [without_in (by omega), without_bit T n j hT (by omega)]
    congr 2
    exact decide_eq_decide.2 (by omega)
  · rw [without_out hT h]
    cases e : T.testBit j
    · rfl
    · have := lt_bit hT e
      rw [decide_eq_false (by omega)]
      rfl

/-! ### The first one -/
/-- The least number below n that f tells of; n, if there is none. -/
def lst (f : Nat → Bool) : Nat → Nat
  | 0 => 0
  | n + 1 => if lst f n < n then lst f n else if f n = true then n else n + 1
theorem lst_succ (f : Nat → Bool) (n : Nat) : lst f (n + 1) = if lst f n < n then lst f n else if f n = true then n else n + 1 := rfl
theorem lst_none {f : Nat → Bool} : ∀ n, (∀ j, j < n → f j = false) → lst f n = n
  | 0, _ => rfl
  | n + 1, h => by
    rw [lst_succ, lst_none n (fun j hj => h j (by omega)), if_neg (by omega), if_neg (by rw [h n (by omega)]; decide)]
theorem lst_of {f : Nat → Bool} {k : Nat} (hk : f k = true) (hl : ∀ j, j < k → f j = false) : ∀ n, k < n → lst f n = k
  | 0, h => by omega
  | n + 1, h => by
    by_cases e : k < n
    · rw [lst_succ, lst_of hk hl n e, if_pos e]
    · obtain rfl : k = n := by omega
      rw [lst_succ, lst_none k hl, if_neg (by omega), if_pos hk]
/-- Either none, or a first one. -/
theorem lst_cases (f : Nat → Bool) : ∀ n, (∀ j, j < n → f j = false) ∨ ∃ k, k < n ∧ f k = true ∧ ∀ j, j < k → f j = false
  | 0 => .inl (fun j hj => by omega)
  | n + 1 => by
    rcases lst_cases f n with h | ⟨k, hk, h1, h2⟩
    · cases e : f n
      · exact .inl (fun j hj => by
          by_cases q : j = n
          · rw [q]; exact e
          · exact h j (by omega))
      · exact .inr ⟨n, by omega, e, h⟩
    · exact .inr ⟨k, by omega, h1, h2⟩
/-- The bit that is met behind k more, from q on. -/
def atR (c n q k : Nat) : Bool := c.testBit ((q + k) % n)
/-- The first one of c going round from q on; -1: none. -/
def firV (c n q : Nat) : Int := if lst (atR c n q) n < n then (((q + lst (atR c n q) n) % n : Nat) : Int) else -1
theorem firV_of {c n q k : Nat} (hk : k < n) (h : atR c n q k = true) (hl : ∀ j, j < k → atR c n q j = false) : firV c n q = (((q + k) % n : Nat) : Int) := by
  unfold firV
  rw [lst_of h hl n hk, if_pos hk]
theorem firV_none {c n q : Nat} (h : ∀ j, j < n → atR c n q j = false) : firV c n q = -1 := by
  unfold firV
  rw [lst_none n h, if_neg (by omega)]
theorem firV_cases (c n q : Nat) : (firV c n q = -1 ∧ ∀ j, j < n → atR c n q j = false) ∨ ∃ k, k < n ∧ firV c n q = (((q + k) % n : Nat) : Int) ∧ atR c n q k = true ∧ ∀ j, j < k → atR c n q j = false := by
  rcases lst_cases (atR c n q) n with h | ⟨k, hk, h1, h2⟩
  · exact .inl ⟨firV_none h, h⟩
  · exact .inr ⟨k, hk, firV_of hk h1 h2, h1, h2⟩
/-- Each number is met. -/
theorem met {n b : Nat} (hb : b < n) (q : Nat) : ∃ k, k < n ∧ (q + k) % n = b := by
  have hq : q % n < n := Nat.mod_lt _ (by omega)
  by_cases e : q % n ≤ b
  · refine ⟨b - q % n, by omega, ?_⟩
    rw [Nat.add_mod, Nat.mod_eq_of_lt (show b - q % n < n by omega), show q % n + (b - q % n) = b by omega, Nat.mod_eq_of_lt hb]
  · refine ⟨b + n - q % n, by omega, ?_⟩
    rw [Nat.add_mod, Nat.mod_eq_of_lt (show b + n - q % n < n by omega), show q % n + (b + n - q % n) = b + n by omega, Nat.add_mod_right, Nat.mod_eq_of_lt hb]
theorem one_way {n q j k : Nat} (hjk : j < k) (hk : k < n) : (q + j) % n ≠ (q + k) % n := fun e => by
  have h := Nat.sub_mod_eq_zero_of_mod_eq e.symm
  rw [show q + k - (q + j) = k - j by omega, Nat.mod_eq_of_lt (by omega)] at h
  omega
theorem bits_lt {c n b : Nat} (hc : c < 2 ^ n) (h : c.testBit b = true) : b < n := by
  by_cases e : b < n
  · exact e
  · have h1 : c < 2 ^ b := Nat.lt_of_lt_of_le hc (Nat.pow_le_pow_right (by omega) (by omega))
    rw [Nat.testBit_lt_two_pow h1] at h
    cases h
theorem bits_some {c : Nat} (h : c ≠ 0) : ∃ b, c.testBit b = true := Nat.exists_testBit_of_ne_zero h
theorem firV_some {c n : Nat} (hc : c < 2 ^ n) (h0 : c ≠ 0) (q : Nat) : ∃ k, k < n ∧ firV c n q = (((q + k) % n : Nat) : Int) ∧ atR c n q k = true ∧ ∀ j, j < k → atR c n q j = false := by
  rcases firV_cases c n q with ⟨_, h⟩ | h
  · obtain ⟨b, hb⟩ := bits_some h0
    obtain ⟨k, hk, e⟩ := met (bits_lt hc hb) q
    have := h k hk
    unfold atR at this
    rw [e, hb] at this
    cases this
  · exact h
theorem firV_zero (n q : Nat) : firV 0 n q = -1 := firV_none (fun j _ => by unfold atR; exact Nat.zero_testBit _)

/-! ### Round and round -/
/-- Those of c that are met within k, from q on. -/
def setR (c n q k : Nat) : Nat := belA 0 (fun j => (((q + j) % n : Nat) : Int)) (atR c n q) k
theorem setR_zero (c n q : Nat) : setR c n q 0 = 0 := rfl
theorem setR_lt (c n q k : Nat) : setR c n q k < 4294967296 := belA_lt (by decide) _ _ k
theorem setR_bit {c n q : Nat} (hn : 0 < n) (h32 : n ≤ 32) (k b : Nat) : (setR c n q k).testBit b = true ↔ ∃ j, j < k ∧ atR c n q j = true ∧ (q + j) % n = b := by
  unfold setR
  rw [belA_bit b k (fun i _ => by have := Nat.mod_lt (q + i) hn; omega)]
  constructor
  · rintro (h | ⟨j, h1, h2, h3⟩)
    · simp at h
    · exact ⟨j, h1, h2, by omega⟩
  · rintro ⟨j, h1, h2, h3⟩
    exact .inr ⟨j, h1, h2, by omega⟩
theorem setR_full {c n q : Nat} (hn : 0 < n) (h32 : n ≤ 32) (hc : c < 2 ^ n) : setR c n q n = c := by
  refine Nat.eq_of_testBit_eq fun b => ?_
  have h := setR_bit (c := c) (q := q) hn h32 n b
  cases e : c.testBit b
  · cases e2 : (setR c n q n).testBit b
    · rfl
    · obtain ⟨j, _, h2, h3⟩ := h.1 e2
      unfold atR at h2
      rw [h3, e] at h2
      cases h2
  · obtain ⟨j, hj, e3⟩ := met (bits_lt hc e) q
    exact h.2 ⟨j, hj, by unfold atR; rw [e3]; exact e, e3⟩
theorem setR_not {c n q k : Nat} (hn : 0 < n) (h32 : n ≤ 32) (hk : k < n) : (setR c n q k).testBit ((q + k) % n) = false := by
  cases e : (setR c n q k).testBit ((q + k) % n)
  · rfl
  · obtain ⟨j, h1, _, h3⟩ := (setR_bit hn h32 k _).1 e
    exact absurd h3 (one_way h1 hk)
theorem setR_skip {c n q k : Nat} : ∀ d, (∀ j, k ≤ j → j < k + d → atR c n q j = false) → setR c n q (k + d) = setR c n q k
  | 0, _ => rfl
  | d + 1, h => by
    have ih := setR_skip d (fun j h1 h2 => h j h1 (by omega))
    rw [← ih]
    exact belA_no (h (k + d) (by omega) (by omega))
theorem atR_turn {c n q k : Nat} : atR c n (q + n) k = atR c n q k := by
  unfold atR
  rw [show q + n + k = q + k + n by omega, Nat.add_mod_right]
/-- From the one that is told on. -/
theorem round_step {c n q K : Nat} (hn : 0 < n) (h32 : n ≤ 32) (hc : c < 2 ^ n) (hK : K < n) (hb : atR c n q K = true) : ∃ K', K < K' ∧ K' ≤ n ∧ withV (setR c n q K) (((q + K) % n : Nat) : Int) = setR c n q K' ∧ ((K' < n ∧ atR c n q K' = true ∧ firV c n ((q + K) % n + 1) = (((q + K') % n : Nat) : Int)) ∨ (K' = n ∧ firV c n ((q + K) % n + 1) = firV c n q)) := by
  have h0 : c ≠ 0 := fun e => by
    unfold atR at hb
    rw [e, Nat.zero_testBit] at hb
    cases hb
  have eR : ∀ k, atR c n ((q + K) % n + 1) k = atR c n q (K + 1 + k) := fun k => by
    unfold atR
    rw [show (q + K) % n + 1 + k = (q + K) % n + (1 + k) by omega, Nat.mod_add_mod, show q + K + (1 + k) = q + (K + 1 + k) by omega]
  have eP : ∀ k, ((q + K) % n + 1 + k) % n = (q + (K + 1 + k)) % n := fun k => by
    rw [show (q + K) % n + 1 + k = (q + K) % n + (1 + k) by omega, Nat.mod_add_mod, show q + K + (1 + k) = q + (K + 1 + k) by omega]
  have hW : withV (setR c n q K) (((q + K) % n : Nat) : Int) = setR c n q (K + 1) := (belA_yes hb).symm
  obtain ⟨k, hk, h1, h2, h3⟩ := firV_some hc h0 ((q + K) % n + 1)
  rw [eP] at h1
  rw [eR] at h2
  by_cases e : K + 1 + k < n
  · refine ⟨K + 1 + k, by omega, by omega, ?_, .inl ⟨e, h2, h1⟩⟩
    rw [hW, setR_skip k (fun j a b => ?_)]
    have := h3 (j - (K + 1)) (by omega)
    rw [eR, show K + 1 + (j - (K + 1)) = j by omega] at this
    exact this
  · refine ⟨n, hK, Nat.le_refl _, ?_, .inr ⟨rfl, ?_⟩⟩
    · rw [hW]
      have := setR_skip (c := c) (n := n) (q := q) (k := K + 1) (n - (K + 1)) (fun j a b => by
        have := h3 (j - (K + 1)) (by omega)
        rw [eR, show K + 1 + (j - (K + 1)) = j by omega] at this
        exact this)
      rw [show K + 1 + (n - (K + 1)) = n by omega] at this
      exact this.symm
    · have eT : ∀ j, atR c n q (j + n) = atR c n q j := fun j => by
        unfold atR
        rw [show q + (j + n) = q + j + n by omega, Nat.add_mod_right]
      have e2 : K + 1 + k = K + 1 + k - n + n := by omega
      rw [h1, firV_of (q := q) (k := K + 1 + k - n) (by omega) (by rw [← eT, ← e2]; exact h2) (fun j hj => by
        have := h3 (j + n - (K + 1)) (by omega)
        rw [eR, show K + 1 + (j + n - (K + 1)) = j + n by omega, eT] at this
        exact this)]
      rw [show q + (K + 1 + k) = q + (K + 1 + k - n) + n by omega, Nat.add_mod_right]

end Go.Proofs.YtjfajdmifjbblaaDoor
