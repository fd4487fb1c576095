import Derived.Test.YtfhmfanmnhclfaaDoorRows
import Derived.Laws.BitsAllLaws
import Derived.WalkKit
import Derived.WalkSpells
import Derived.WalkSmall
import Derived.Deep.QuietTactic
import Derived.BigQuiet
import Derived.Deep.OwnRows
import Derived.Laws.Tables
import Derived.Laws.IdiomStrings
import Derived.OpenShut
import Derived.ProofKit
import Derived.Below
namespace Go.Proofs.YtfhmfanmnhclfaaDoor
set_option linter.unusedVariables false
set_option linter.unusedSimpArgs false
section


/-! ### Bytes of a width -/
/-! ### Small bytes -/
/-- The number whose small bytes these are. -/
def v7 : List Nat → Nat
  | [] => 0
  | x :: L => x % 128 + 128 * v7 L
end
section
open Go.RowKit Go.Lib Go.Deep

theorem ret_int {k : IntKind} {a b : Int} (h : a = b) : Ending.returned (.int k a) = .returned (.int k b) := by rw [h]
theorem ret_bool {a b : Bool} (h : a = b) : Ending.returned (.bool a) = .returned (.bool b) := by rw [h]
/-! ### Worlds -/

/-- Nothing that was there has turned, but for block 'row'. -/
abbrev Kept (w w' : World) (row : Option Nat) : Prop := w.grownBy w' row

theorem Kept.drewN (w : World) (m : Nat) (r : Option Nat) : Kept w (w.drewN m) r := ⟨rfl, rfl, rfl, Nat.le_refl _, fun _ _ _ => rfl⟩
theorem Kept.refl (w : World) (r : Option Nat) : Kept w w r := ⟨rfl, rfl, rfl, Nat.le_refl _, fun _ _ _ => rfl⟩
theorem Kept.tr {a b c : World} {r : Option Nat} (h : Kept a b r) (k : Kept b c r) : Kept a c r :=
  ⟨k.os.trans h.os, k.tape.trans h.tape, k.output.trans h.output, Nat.le_trans h.size k.size, fun i hi hr => (k.block i (Nat.lt_of_lt_of_le hi h.size) hr).trans (h.block i hi hr)⟩
theorem Kept.alloc (w : World) (c : Array Value) (t : TypeId) (fr : Nat × Nat) (r : Option Nat) : Kept w (w.alloc (.cells c t fr)) r :=
  ⟨rfl, rfl, rfl, by simp, fun k hk _ => Below.heap_alloc _ _ _ hk⟩
/-- A store into a block that is new. -/
theorem Kept.setNew {a b : World} {r : Option Nat} (h : Kept a b r) {p : Addr} (hp : a.heap.size ≤ p.block) (v : Value) : Kept a (b.setCell p v) r :=
  ⟨h.os, h.tape, h.output, by simpa [World.setCell] using h.size, fun k hk hr => (Below.heap_setCell _ _ _ _ (by omega)).trans (h.block k hk hr)⟩
theorem Kept.below {w w' : World} (h : Kept w w' none) : Below w.heap.size w w' := ⟨h.os, h.tape, h.output, h.size, fun k hk => h.block k hk (by simp)⟩
theorem Kept.of_below {w w' : World} (h : Below w.heap.size w w') : Kept w w' none := ⟨h.os, h.tape, h.output, h.size, fun k hk _ => h.block k hk⟩
theorem row_kept {w w' : World} {b : Nat} {t : TypeId} {n : Nat} {f : Nat → Value} {r : Option Nat} (h : w.rowIs b t n f) (k : Kept w w' r) (hr : some b ≠ r) : w'.rowIs b t n f := h.of_block (k.block b h.lt hr)

/-! ### Bytes in memory -/

theorem block_lt {w : World} {a : Addr} {v : Value} (h : w.cell? a = some v) : a.block < w.heap.size := by
  by_cases hh : a.block < w.heap.size
  · exact hh
  · have hn : w.heap[a.block]? = none := Array.getElem?_eq_none (by omega)
    simp [World.cell?, hn] at h

/-- A byte's cell. -/
abbrev byteV (x : Nat) : Value := .int .u8 (x : Int)

/-- The bytes L lie where the slice leads. -/
structure By (w : World) (a : Option Addr) (len : Nat) (L : List Nat) : Prop where
  size : L.length = len
  max : len ≤ 9223372036854775807
  lt : ∀ x ∈ L, x < 256
  at_ : 0 < len → ∃ b off, a = some ⟨b, off, none⟩ ∧ b < w.heap.size ∧ ∀ i, i < len → w.cell? ⟨b, off + i, none⟩ = some (.int .u8 ((L.getD i 0 : Nat) : Int))

theorem By.getD {w : World} {a : Option Addr} {len : Nat} {L : List Nat} (h : By w a len L) (i : Nat) : L.getD i 0 < 256 := by
  by_cases hi : i < L.length
  · have : L.getD i 0 = L[i] := by simp [hi]
    rw [this]; exact h.lt _ (List.getElem_mem hi)
  · simp [show L.length ≤ i by omega]
theorem By.nil (w : World) (a : Option Addr) : By w a 0 [] := ⟨rfl, by omega, fun _ h => (nomatch h), fun h => absurd h (by omega)⟩
theorem By.below {w w' : World} {a : Option Addr} {len : Nat} {L : List Nat} (h : By w a len L) (k : Below w.heap.size w w') : By w' a len L := by
  obtain ⟨h1, h2, h3, h4⟩ := h
  refine ⟨h1, h2, h3, fun hp => ?_⟩
  obtain ⟨b, off, rfl, hb, hc⟩ := h4 hp
  exact ⟨b, off, rfl, Nat.lt_of_lt_of_le hb k.size, fun i hi => (k.cell (p := ⟨b, off + i, none⟩) hb).trans (hc i hi)⟩
theorem By.kept {w w' : World} {a : Option Addr} {len : Nat} {L : List Nat} (h : By w a len L) (k : Kept w w' none) : By w' a len L := by
  obtain ⟨h1, h2, h3, h4⟩ := h
  refine ⟨h1, h2, h3, fun hp => ?_⟩
  obtain ⟨b, off, rfl, hb, hc⟩ := h4 hp
  exact ⟨b, off, rfl, Nat.lt_of_lt_of_le hb k.size, fun i hi => (World.cell?_of_block (w := w) (a := ⟨b, off + i, none⟩) (k.block b hb (by simp))).trans (hc i hi)⟩
theorem By.drewN {w : World} {a : Option Addr} {len : Nat} {L : List Nat} (h : By w a len L) (m : Nat) : By (w.drewN m) a len L := h.kept (Kept.drewN w m none)
/-- The first k of them. -/
theorem By.take {w : World} {a : Option Addr} {len : Nat} {L : List Nat} (h : By w a len L) (k : Nat) (hk : k ≤ len) : By w a k (L.take k) := by
  obtain ⟨h1, h2, h3, h4⟩ := h
  refine ⟨by simp; omega, by omega, fun x hx => h3 x (List.mem_of_mem_take hx), fun hp => ?_⟩
  obtain ⟨b, off, rfl, hb, hc⟩ := h4 (by omega)
  refine ⟨b, off, rfl, hb, fun i hi => ?_⟩
  rw [hc i (by omega)]
  simp [List.getElem?_take, hi]
/-- A row of the call's own. -/
theorem By.row {w : World} {b n : Nat} {t : TypeId} {f : Nat → Value} (h : w.rowIs b t n f) (L : List Nat) (k : Nat) (hk : k ≤ n) (hl : L.length = k) (h2 : k ≤ 9223372036854775807) (hb : ∀ x ∈ L, x < 256) (hf : ∀ i, i < k → f i = .int .u8 ((L.getD i 0 : Nat) : Int)) : By w (some ⟨b, 0, none⟩) k L :=
  ⟨hl, h2, hb, fun _ => ⟨b, 0, rfl, h.lt, fun i hi => by rw [Nat.zero_add, h.cell (by omega), hf i hi]⟩⟩
/-- A list as a row of cells, just laid. -/
theorem By.alloc (w : World) (L : List Nat) (t : TypeId) (fr : Nat × Nat) (cs : Array Value) (hc : ∀ i, i < L.length → cs[i]? = some (.int .u8 ((L.getD i 0 : Nat) : Int))) (h2 : L.length ≤ 9223372036854775807) (hb : ∀ x ∈ L, x < 256) : By (w.alloc (.cells cs t fr)) (some ⟨w.heap.size, 0, none⟩) L.length L :=
  ⟨rfl, h2, hb, fun _ => ⟨_, 0, rfl, by simp, fun i hi => by rw [Nat.zero_add, World.cell?_alloc_mark, hc i hi]⟩⟩

/-! ### Two lists of bytes -/
theorem Tryd.u5 : Tryd.prog.underlying 5 = some (.int .u8) := by kernel_rfl
end
section


/-- How many of the first k bits are there. -/
def cnt (S : Nat) : Nat → Nat
  | 0 => 0
  | k + 1 => cnt S k + (S.testBit k).toNat
theorem cnt_succ (S k : Nat) : cnt S (k + 1) = cnt S k + (S.testBit k).toNat := rfl
theorem cnt_le (S k : Nat) : cnt S k ≤ k := by
  induction k with
  | zero => exact Nat.le_refl _
  | succ k ih => rw [cnt_succ]; have := Bool.toNat_le (S.testBit k); omega
theorem cnt_congr {S T : Nat} (k : Nat) (h : ∀ j, j < k → S.testBit j = T.testBit j) : cnt S k = cnt T k := by
  induction k with
  | zero => rfl
  | succ k ih => rw [cnt_succ, cnt_succ, ih (fun j hj => h j (by omega)), h k (by omega)]
theorem cnt_split (S a b : Nat) : cnt S (a + b) = cnt S a + cnt (S / 2 ^ a) b := by
  induction b with
  | zero => rfl
  | succ b ih =>
    rw [← Nat.add_assoc, cnt_succ, cnt_succ, ih, Nat.testBit_div_two_pow]
    rw [Nat.add_comm b a]; omega
theorem cnt_flat (S a b : Nat) (h : ∀ j, a ≤ j → j < a + b → S.testBit j = false) : cnt S (a + b) = cnt S a := by
  induction b with
  | zero => rfl
  | succ b ih =>
    rw [← Nat.add_assoc, cnt_succ, ih (fun j h1 h2 => h j h1 (by omega)), h (a + b) (by omega) (by omega)]; rfl
theorem cnt_mod (S k : Nat) : cnt (S % 2 ^ k) k = cnt S k := cnt_congr k (fun j hj => by rw [Nat.testBit_mod_two_pow]; simp [hj])

/-- The least of the bits. -/
def lowN : Nat → Nat → Nat
  | 0, _ => 0
  | f + 1, S => if S % 2 = 1 then 0 else lowN f (S / 2) + 1
theorem lowN_spec (f : Nat) : ∀ S, 0 < S → S < 2 ^ f → lowN f S < f ∧ S.testBit (lowN f S) = true ∧ ∀ j, j < lowN f S → S.testBit j = false := by
  induction f with
  | zero => intro S h1 h2; simp at h2; omega
  | succ f ih =>
    intro S h1 h2
    unfold lowN
    split
    · rename_i h
      exact ⟨by omega, by simp [Nat.testBit_zero, h], fun j hj => by omega⟩
    · rename_i h
      obtain ⟨a, b, c⟩ := ih (S / 2) (by omega) (by rw [Nat.pow_succ] at h2; omega)
      refine ⟨by omega, by rw [Nat.testBit_succ]; exact b, fun j hj => ?_⟩
      cases j with
      | zero => simp [Nat.testBit_zero]; omega
      | succ j => rw [Nat.testBit_succ]; exact c j (by omega)
theorem and_two (x y : Nat) : x &&& y = 2 * (x / 2 &&& y / 2) + (x % 2) * (y % 2) := by
  have h1 : (x &&& y) / 2 = x / 2 &&& y / 2 := Nat.and_div_two
  have h2 : (x &&& y) % 2 = (x % 2) * (y % 2) := by
    have := Nat.testBit_and x y 0
    simp only [Nat.testBit_zero] at this
    have e := decide_eq_decide.1 (by rw [this, ← Bool.decide_and] : decide ((x &&& y) % 2 = 1) = decide (x % 2 = 1 ∧ y % 2 = 1))
    by_cases hh : x % 2 = 1 ∧ y % 2 = 1
    · rw [e.2 hh, hh.1, hh.2]
    · have hn : ¬ (x &&& y) % 2 = 1 := fun k => hh (e.1 k)
      have h0 : (x &&& y) % 2 = 0 := by omega
      rw [h0]
      rcases Nat.mod_two_eq_zero_or_one x with hx | hx <;> rcases Nat.mod_two_eq_zero_or_one y with hy | hy
      · rw [hx, hy]
      · rw [hx, hy]
      · rw [hx, hy]
      · exact absurd ⟨hx, hy⟩ hh
  omega
theorem and_rest (f : Nat) : ∀ a, a < 2 ^ f → a &&& (2 ^ f - 1 - a) = 0 := by
  induction f with
  | zero => intro a h; simp at h; subst h; rfl
  | succ f ih =>
    intro a h
    rw [Nat.pow_succ] at h ⊢
    have := ih (a / 2) (by omega)
    rw [and_two]
    have e : (2 ^ f * 2 - 1 - a) / 2 = 2 ^ f - 1 - a / 2 := by omega
    rw [e, this]
    rcases Nat.mod_two_eq_zero_or_one a with ha | ha
    · rw [ha]; omega
    · have : (2 ^ f * 2 - 1 - a) % 2 = 0 := by omega
      rw [this]; omega
/-- A number and its turned one: the least bit is left. -/
theorem and_neg (f : Nat) : ∀ S, 0 < S → S < 2 ^ f → S &&& (2 ^ f - S) = 2 ^ lowN f S := by
  induction f with
  | zero => intro S h1 h2; simp at h2; omega
  | succ f ih =>
    intro S h1 h2
    rw [Nat.pow_succ] at h2
    rw [and_two]
    unfold lowN
    split
    · rename_i h
      have e : (2 ^ (f + 1) - S) / 2 = 2 ^ f - 1 - S / 2 := by rw [Nat.pow_succ]; omega
      have e2 : (2 ^ (f + 1) - S) % 2 = 1 := by rw [Nat.pow_succ]; omega
      rw [e, e2, h, and_rest f (S / 2) (by omega)]
    · rename_i h
      have h0 : S % 2 = 0 := by omega
      have e : (2 ^ (f + 1) - S) / 2 = 2 ^ f - S / 2 := by rw [Nat.pow_succ]; omega
      rw [e, h0, ih (S / 2) (by omega) (by omega), Nat.pow_succ]; omega

/-- Two numbers that share no bit: joined is added. -/
theorem or_two (x y : Nat) : x ||| y = 2 * (x / 2 ||| y / 2) + (if x % 2 = 1 ∨ y % 2 = 1 then 1 else 0) := by
  have h1 : (x ||| y) / 2 = x / 2 ||| y / 2 := Nat.or_div_two
  have h2 : (x ||| y) % 2 = (if x % 2 = 1 ∨ y % 2 = 1 then 1 else 0) := by
    have := Nat.testBit_or x y 0
    simp only [Nat.testBit_zero] at this
    have e := decide_eq_decide.1 (by rw [this, ← Bool.decide_or] : decide ((x ||| y) % 2 = 1) = decide (x % 2 = 1 ∨ y % 2 = 1))
    split
    · rename_i h; exact e.2 h
    · rename_i h
      have : ¬ (x ||| y) % 2 = 1 := fun k => h (e.1 k)
      omega
  omega
theorem or_add : ∀ (n x y : Nat), x + y ≤ n → x &&& y = 0 → x ||| y = x + y := by
  intro n
  induction n with
  | zero => intro x y h _; obtain rfl : x = 0 := by omega
            obtain rfl : y = 0 := by omega
            rfl
  | succ n ih =>
    intro x y h e
    by_cases hz : x + y = 0
    · obtain rfl : x = 0 := by omega
      obtain rfl : y = 0 := by omega
      rfl
    rw [and_two] at e
    have e1 : x / 2 &&& y / 2 = 0 := by omega
    have e2 : (x % 2) * (y % 2) = 0 := by omega
    rw [or_two, ih (x / 2) (y / 2) (by omega) e1]
    rcases Nat.mod_two_eq_zero_or_one x with hx | hx <;> rcases Nat.mod_two_eq_zero_or_one y with hy | hy
    · rw [hx, hy, if_neg (by omega)]; omega
    · rw [hx, hy, if_pos (by omega)]; omega
    · rw [hx, hy, if_pos (by omega)]; omega
    · rw [hx, hy] at e2; omega

theorem and_pow (S i : Nat) (h : S.testBit i = false) : S &&& 2 ^ i = 0 := by
  apply Nat.eq_of_testBit_eq
  intro j
  rw [Nat.testBit_and, Nat.testBit_two_pow]
  by_cases e : i = j
  · subst e; simp [h]
  · simp [e]
theorem and_pow_yes (S i : Nat) (h : S.testBit i = true) : S &&& 2 ^ i = 2 ^ i := by
  apply Nat.eq_of_testBit_eq
  intro j
  rw [Nat.testBit_and, Nat.testBit_two_pow]
  by_cases e : i = j
  · subst e; simp [h]
  · simp [e]
theorem or_pow_no (S i : Nat) (h : S.testBit i = false) : S ||| 2 ^ i = S + 2 ^ i := or_add _ _ _ (Nat.le_refl _) (and_pow S i h)
theorem or_pow_yes (S i : Nat) (h : S.testBit i = true) : S ||| 2 ^ i = S := by
  apply Nat.eq_of_testBit_eq
  intro j
  rw [Nat.testBit_or, Nat.testBit_two_pow]
  by_cases e : i = j
  · subst e; simp [h]
  · simp [e]
/-- All 32 bits but one. -/
theorem but_bit (i j : Nat) (hi : i < 32) : (4294967295 - 2 ^ i).testBit j = (decide (j < 32) && !decide (i = j)) := by
  have h : 2 ^ i < 2 ^ 32 := Nat.pow_lt_pow_right (by omega) hi
  have := Nat.testBit_two_pow_sub_succ h j
  rw [Nat.testBit_two_pow] at this
  rw [← this]
  congr 1
  have : (2 : Nat) ^ 32 = 4294967296 := by decide
  omega
theorem lt_bit {S : Nat} (h : S < 4294967296) {j : Nat} (hj : S.testBit j = true) : j < 32 := by
  by_cases hh : j < 32
  · exact hh
  · have : S < 2 ^ j := Nat.lt_of_lt_of_le h (Nat.pow_le_pow_right (by omega) (by omega) : 2 ^ 32 ≤ 2 ^ j)
    rw [Nat.testBit_lt_two_pow this] at hj; cases hj
theorem without_bit (S i j : Nat) (hS : S < 4294967296) (hi : i < 32) : (S &&& (4294967295 - 2 ^ i)).testBit j = (S.testBit j && !decide (i = j)) := by
  rw [Nat.testBit_and, but_bit i j hi]
  cases h : S.testBit j with
  | false => simp
  | true => simp [lt_bit hS h]
theorem without_yes (S i : Nat) (hS : S < 4294967296) (hi : i < 32) (h : S.testBit i = true) : S &&& (4294967295 - 2 ^ i) = S - 2 ^ i := by
  have e : (S &&& (4294967295 - 2 ^ i)) ||| 2 ^ i = S := by
    apply Nat.eq_of_testBit_eq
    intro j
    rw [Nat.testBit_or, without_bit S i j hS hi, Nat.testBit_two_pow]
    by_cases e : i = j
    · subst e; simp [h]
    · simp [e]
  have hb : (S &&& (4294967295 - 2 ^ i)).testBit i = false := by rw [without_bit S i i hS hi]; simp
  rw [or_pow_no _ i hb] at e
  omega
theorem or_pow_lt (S i : Nat) (hS : S < 4294967296) (hi : i < 32) : S ||| 2 ^ i < 4294967296 :=
  Nat.or_lt_two_pow (n := 32) hS (Nat.pow_lt_pow_right (by omega) hi)
end
section
open Go.RowKit Go.Lib Go.Deep

theorem pow_lt32 {i : Nat} (h : i < 32) : 2 ^ i < 4294967296 := by
  have h' : 2 ^ i < 2 ^ 32 := Nat.pow_lt_pow_right (by omega) h
  simpa using h'
theorem pow_int {i : Nat} (h : i < 32) : (2 : Int) ^ i % 4294967296 = ((2 ^ i : Nat) : Int) := by
  have := pow_lt32 h
  have e : (2 : Int) ^ i = ((2 ^ i : Nat) : Int) := by simp
  rw [e]
  generalize 2 ^ i = P at this ⊢
  omega

/-- What a set may have: the number's bit, none beyond. -/
def bitV (i : Int) : Nat := if 0 ≤ i ∧ i < 32 then 2 ^ i.toNat else 0
theorem bitV_lt (i : Int) : bitV i < 4294967296 := by
  unfold bitV; split
  · exact pow_lt32 (by omega)
  · omega
theorem bit_core (i : Nat) (w : World) (h : i < 32) : Calls Tryd.prog 115 #[.int .i64 i] w fun e w' => e = .returned (.int .u32 ((2 ^ i : Nat) : Int)) ∧ w' = w := by
  go_enter Tryd.func115, Tryd.ntmps115
  go_wp2
  go_ret
  exact ⟨ret_int (pow_int h), rfl⟩
theorem bit_no (i : Int) (w : World) (h : i < 0 ∨ 31 < i) : Calls Tryd.prog 115 #[.int .i64 i] w fun e w' => e = .returned (.int .u32 0) ∧ w' = w := by
  rcases h with h | h
  all_goals
    go_enter Tryd.func115, Tryd.ntmps115
    go_wp2
    go_ret
    exact ⟨rfl, rfl⟩
theorem bit_any (i : Int) (w : World) : Calls Tryd.prog 115 #[.int .i64 i] w fun e w' => e = .returned (.int .u32 ((bitV i : Nat) : Int)) ∧ w' = w := by
  unfold bitV
  by_cases h : 0 ≤ i ∧ i < 32
  · rw [if_pos h]
    obtain ⟨n, rfl⟩ : ∃ n : Nat, i = (n : Int) := ⟨i.toNat, by omega⟩
    exact bit_core n w (by omega)
  · rw [if_neg h]
    exact bit_no i w (by omega)

/-- Is i in S? -/
def hasB (S : Nat) (i : Int) : Bool := decide (0 ≤ i ∧ i < 32) && S.testBit i.toNat
/-- S with i; S without i. -/
def withV (S : Nat) (i : Int) : Nat := S ||| bitV i
def withoutV (S : Nat) (i : Int) : Nat := S &&& (4294967295 - bitV i)
theorem has_eq (S : Nat) (i : Int) : (((S &&& bitV i : Nat) : Int) != 0) = hasB S i := by
  unfold hasB bitV
  by_cases h : 0 ≤ i ∧ i < 32
  · rw [if_pos h, decide_eq_true h, Bool.true_and]
    have hp : 0 < 2 ^ i.toNat := Nat.two_pow_pos _
    cases hb : S.testBit i.toNat with
    | false => rw [and_pow S _ hb]; rfl
    | true =>
      rw [and_pow_yes S _ hb, bne_iff_ne]
      exact_mod_cast Nat.ne_of_gt hp
  · rw [if_neg h, decide_eq_false h, Nat.and_zero]; rfl

theorem has_any (S : Nat) (i : Int) (w : World) (hS : S < 4294967296) : Calls Tryd.prog 103 #[.int .u32 S, .int .i64 i] w fun e w' => e = .returned (.bool (hasB S i)) ∧ w' = w := by
  have hand := u32_and_nat S (bitV i) hS (bitV_lt i)
  go_enter Tryd.func103, Tryd.ntmps103
  go_wp2_with (go_at_call 115; refine (bit_any _ _).mono ?_; rintro e w ⟨rfl, rfl⟩)
  go_ret
  exact ⟨ret_bool (has_eq S i), rfl⟩
theorem without_any (S : Nat) (i : Int) (w : World) (hS : S < 4294967296) : Calls Tryd.prog 118 #[.int .u32 S, .int .i64 i] w fun e w' => e = .returned (.int .u32 ((withoutV S i : Nat) : Int)) ∧ w' = w := by
  have han := u32_andNot_nat S (bitV i) hS (bitV_lt i)
  go_enter Tryd.func118, Tryd.ntmps118
  go_wp2_with (go_at_call 115; refine (bit_any _ _).mono ?_; rintro e w ⟨rfl, rfl⟩)
  go_ret
  exact ⟨rfl, rfl⟩

/-! ### The document's -/
theorem has_ref (S i : Nat) : ((((S : Int) / 2 ^ i).tmod 2 == 1) : Bool) = S.testBit i := by
  have e : (S : Int) / 2 ^ i = ((S / 2 ^ i : Nat) : Int) := by simp
  rw [e, Int.tmod_eq_emod_of_nonneg (Int.natCast_nonneg _), Nat.testBit_eq_decide_div_mod_eq, Bool.eq_iff_iff]
  simp; omega
theorem rhas_core (S i : Nat) (w : World) (hS : S < 4294967296) (h : i < 32) : Calls Tryd.prog 97 #[.int .u32 S, .int .i64 i] w fun e w' => e = .returned (.bool (S.testBit i)) ∧ w' = w := by
  go_enter Tryd.func97, Tryd.ntmps97
  go_wp2
  go_ret
  exact ⟨ret_bool (has_ref S i), rfl⟩
theorem rhas_no (S : Nat) (i : Int) (w : World) (h : i < 0 ∨ 31 < i) : Calls Tryd.prog 97 #[.int .u32 S, .int .i64 i] w fun e w' => e = .returned (.bool false) ∧ w' = w := by
  rcases h with h | h
  · have h1 : decide (0 ≤ i) = false := by simp; omega
    go_enter Tryd.func97, Tryd.ntmps97
    go_wp2
    go_ret
    exact ⟨rfl, rfl⟩
  · have h0 : 0 ≤ i := by omega
    have h1 : decide (i < 32) = false := by simp; omega
    go_enter Tryd.func97, Tryd.ntmps97
    go_wp2
    go_ret
    exact ⟨rfl, rfl⟩
theorem rhas_any (S : Nat) (i : Int) (w : World) (hS : S < 4294967296) : Calls Tryd.prog 97 #[.int .u32 S, .int .i64 i] w fun e w' => e = .returned (.bool (hasB S i)) ∧ w' = w := by
  unfold hasB
  by_cases h : 0 ≤ i ∧ i < 32
  · rw [decide_eq_true h, Bool.true_and]
    obtain ⟨n, rfl⟩ : ∃ n : Nat, i = (n : Int) := ⟨i.toNat, by omega⟩
    exact rhas_core S n w hS (by omega)
  · rw [decide_eq_false h, Bool.false_and]
    exact rhas_no S i w (by omega)
theorem has_in {S n : Nat} (h : n < 32) : hasB S (n : Int) = S.testBit n := by
  unfold hasB; rw [decide_eq_true (by omega)]; simp
theorem rwith_yes (S : Nat) (i : Int) (w : World) (hS : S < 4294967296) (h : ¬ (0 ≤ i ∧ i < 32) ∨ hasB S i = true) : Calls Tryd.prog 98 #[.int .u32 S, .int .i64 i] w fun e w' => e = .returned (.int .u32 (S : Int)) ∧ w' = w := by
  by_cases h0 : 0 ≤ i ∧ i < 32
  · obtain ⟨h1, h2⟩ := h0
    have h3 : hasB S i = true := by rcases h with h | h; exact absurd ⟨h1, h2⟩ h; exact h
    clear h
    go_enter Tryd.func98, Tryd.ntmps98
    go_wp2_with (go_at_call 97; refine (rhas_any _ _ _ hS).mono ?_; rintro e w ⟨rfl, rfl⟩; rw [h3])
    go_ret
    exact ⟨rfl, rfl⟩
  · rcases (show i < 0 ∨ 31 < i by omega) with h1 | h1
    all_goals
      clear h h0
      go_enter Tryd.func98, Tryd.ntmps98
      go_wp2_with fail
      go_ret
      exact ⟨rfl, rfl⟩
theorem rwith_no (S n : Nat) (w : World) (hS : S < 4294967296) (hn : n < 32) (h : S.testBit n = false) : Calls Tryd.prog 98 #[.int .u32 S, .int .i64 n] w fun e w' => e = .returned (.int .u32 ((S + 2 ^ n : Nat) : Int)) ∧ w' = w := by
  have h3 : hasB S (n : Int) = false := by rw [has_in hn]; exact h
  have hp := pow_int hn
  have hlt : S + 2 ^ n < 4294967296 := by rw [← or_pow_no S n h]; exact or_pow_lt S n hS hn
  generalize 2 ^ n = P at hp hlt ⊢
  go_enter Tryd.func98, Tryd.ntmps98
  go_wp2_with (go_at_call 97; refine (rhas_any _ _ _ hS).mono ?_; rintro e w ⟨rfl, rfl⟩; rw [h3])
  go_ret
  exact ⟨ret_int (by omega), rfl⟩
theorem with_no {S : Nat} {i : Int} (h : ¬ (0 ≤ i ∧ i < 32)) : withV S i = S := by unfold withV bitV; rw [if_neg h, Nat.or_zero]
theorem with_in {S n : Nat} (h : n < 32) : withV S (n : Int) = S ||| 2 ^ n := by unfold withV bitV; rw [if_pos (by omega)]; simp
theorem without_in {S n : Nat} (h : n < 32) : withoutV S (n : Int) = S &&& (4294967295 - 2 ^ n) := by unfold withoutV bitV; rw [if_pos (by omega)]; simp
theorem rwith_any (S : Nat) (i : Int) (w : World) (hS : S < 4294967296) : Calls Tryd.prog 98 #[.int .u32 S, .int .i64 i] w fun e w' => e = .returned (.int .u32 ((withV S i : Nat) : Int)) ∧ w' = w := by
  by_cases h : 0 ≤ i ∧ i < 32
  · obtain ⟨n, rfl⟩ : ∃ n : Nat, i = (n : Int) := ⟨i.toNat, by omega⟩
    have hn : n < 32 := by omega
    rw [with_in hn]
    cases hb : S.testBit n with
    | true => rw [or_pow_yes S n hb]; exact rwith_yes S n w hS (.inr (by rw [has_in hn]; exact hb))
    | false => rw [or_pow_no S n hb]; exact rwith_no S n w hS hn hb
  · rw [with_no h]; exact rwith_yes S i w hS (.inl h)
theorem rcount_any (S : Nat) (w : World) (hS : S < 4294967296) : Calls Tryd.prog 99 #[.int .u32 S] w fun e w' => e = .returned (.int .i64 ((cnt S 32 : Nat) : Int)) ∧ w' = w := by
  go_enter Tryd.func99, Tryd.ntmps99
  go_wp2_with fail
  go_loop [3, 4] (fun c i => ∃ k : Nat, k ≤ 32 ∧ i = .int .i64 k ∧ c = .int .i64 ((cnt S k : Nat) : Int)) (fun _ i => 32 - (intOf i).toNat)
  case atStart => exact ⟨0, Nat.zero_le _, rfl, rfl⟩
  case round =>
    obtain ⟨k, hk, rfl, rfl⟩ := hrel
    have hc := cnt_le S k
    by_cases hlt : k < 32
    · have HS : Hid (cnt S (k + 1) = cnt S k + (S.testBit k).toNat) := cnt_succ S k
      generalize cnt S k = C at *
      cases hb : S.testBit k with
      | true =>
        have h3 : hasB S (k : Int) = true := by rw [has_in hlt]; exact hb
        rw [hb] at HS
        go_wp2_with (go_at_call 97; refine (rhas_any _ _ _ hS).mono ?_; rintro e w ⟨rfl, rfl⟩; rw [h3])
        go_round
        case rel => exact ⟨k + 1, by omega, by go_num, by rw [HS.out]; go_num⟩
        case measure => simp [intOf]; omega
      | false =>
        have h3 : hasB S (k : Int) = false := by rw [has_in hlt]; exact hb
        rw [hb] at HS
        go_wp2_with (go_at_call 97; refine (rhas_any _ _ _ hS).mono ?_; rintro e w ⟨rfl, rfl⟩; rw [h3])
        go_round
        case rel => exact ⟨k + 1, by omega, by go_num, by rw [HS.out]; go_num⟩
        case measure => simp [intOf]; omega
    · obtain rfl : k = 32 := by omega
      go_wp2_with fail
      go_ret
      exact ⟨rfl, rfl⟩

/-- The least one, -1 if there is none. -/
def leastV (S : Nat) : Int := if S = 0 then -1 else (lowN 32 S : Int)
end
end Go.Proofs.YtfhmfanmnhclfaaDoor
