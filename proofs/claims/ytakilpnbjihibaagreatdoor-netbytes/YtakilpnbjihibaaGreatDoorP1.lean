import Derived.Test.YtakilpnbjihibaaGreatDoorRows
import Derived.Laws.BitsAllLaws
import Derived.WalkKit
import Derived.WalkSpells
import Derived.WalkSmall
import Derived.Deep.QuietTactic
import Derived.BigQuiet
import Derived.Deep.OwnRows
import Derived.Laws.Tables
import Derived.Laws.IdiomStrings
import Derived.OpenShut
import Derived.ProofKit
import Derived.Below
import Derived.Lib.LaidTab
import Derived.LaidMore
import Derived.LaidSub
import Derived.Stop.Joined
import Derived.OwnWalk
import Derived.Deep.DeepAppendRoom
import Derived.Deep.AppendLies
namespace Go.Proofs.YtakilpnbjihibaaGreatDoor
set_option linter.unusedVariables false
set_option linter.unusedSimpArgs false
set_option maxHeartbeats 1000000
set_option maxRecDepth 100000
section

def leb : Nat -> Nat -> List Nat
 | 0, _ => []
 | w + 1, n => n % 256 :: leb w (n / 256)
theorem leb_length : ∀ w n, (leb w n).length = w
 | 0, _ => rfl
 | w + 1, n => by simp [leb, leb_length w]
theorem leb_lt : ∀ w n x, x ∈ leb w n -> x < 256
 | 0, _, x, h => by simp [leb] at h
 | w + 1, n, x, h => by
  simp [leb] at h; rcases h with h | h
  . omega
  . exact leb_lt w _ x h
theorem leb_getD : ∀ w n i, i < w -> (leb w n).getD i 0 = n / 256 ^ i % 256
 | 0, _, i, h => by omega
 | w + 1, n, 0, h => by simp [leb]
 | w + 1, n, i + 1, h => by
  have := leb_getD w (n / 256) i (by omega); simp only [leb, List.getD_cons_succ]; rw [this, Nat.div_div_eq_div_mul, Nat.pow_succ, Nat.mul_comm]
theorem takeN_snoc (L : List Nat) (k : Nat) (h : k < L.length) : L.take (k + 1) = L.take k ++ [L.getD k 0] := by
 rw [List.take_succ_eq_append_getElem h]; simp [h]
def smlF : Nat -> Nat -> List Nat
 | 0, n => [n]
 | f + 1, n => if n < 128 then [n] else (n % 128 + 128) :: smlF f (n / 128)
theorem smlF_eq : ∀ f g n, n <= f -> n <= g -> smlF f n = smlF g n
 | 0, 0, n, _, _ => rfl
 | 0, g + 1, n, h, _ => by rw [smlF, smlF, if_pos (by omega)]
 | f + 1, 0, n, _, h => by rw [smlF, smlF, if_pos (by omega)]
 | f + 1, g + 1, n, h, k => by
  rw [smlF, smlF]; by_cases hn : n < 128
  . rw [if_pos hn, if_pos hn]
  . rw [if_neg hn, if_neg hn, smlF_eq f g (n / 128) (by omega) (by omega)]
def sml (n : Nat) : List Nat := smlF n n
theorem sml_lo {n : Nat} (h : n < 128) : sml n = [n] := by
 unfold sml
 cases n with
 | zero => rfl
 | succ m => rw [smlF, if_pos h]
theorem sml_hi {n : Nat} (h : 128 <= n) : sml n = (n % 128 + 128) :: sml (n / 128) := by
 unfold sml; obtain ⟨m, rfl⟩ : ∃ m, n = m + 1 := ⟨n - 1, by omega⟩
 rw [smlF, if_neg (by omega), smlF_eq m ((m + 1) / 128) ((m + 1) / 128) (by omega) (by omega)]
theorem sml_pos (n : Nat) : 0 < (sml n).length := by
 by_cases h : n < 128
 . simp [sml_lo h]
 . simp [sml_hi (show 128 <= n by omega)]
theorem sml_lt (n : Nat) : ∀ x ∈ sml n, x < 256 := by
 induction n using Nat.strongRecOn with
 | ind n ih =>
  intro x hx; by_cases h : n < 128
  . rw [sml_lo h] at hx; simp at hx; omega
  . rw [sml_hi (by omega)] at hx; rcases List.mem_cons.1 hx with rfl | hx
    . omega
    . exact ih (n / 128) (by omega) x hx
theorem sml_len : ∀ (k n : Nat), n < 128 ^ (k + 1) -> (sml n).length <= k + 1
 | 0, n, h => by rw [sml_lo (by simpa using h)]; simp
 | k + 1, n, h => by
  by_cases hn : n < 128
  . simp [sml_lo hn]
  . rw [sml_hi (by omega), List.length_cons]; have := sml_len k (n / 128) (Nat.div_lt_of_lt_mul (by rw [Nat.pow_succ, Nat.mul_comm] at h; exact h)); omega
theorem sml_len10 (n : Nat) (h : n < 18446744073709551616) : (sml n).length <= 10 := sml_len 9 n (Nat.lt_of_lt_of_le h (by decide))
def v7 : List Nat -> Nat
 | [] => 0
 | x :: L => x % 128 + 128 * v7 L
theorem v7_snoc : ∀ (L : List Nat) (x : Nat), v7 (L ++ [x]) = v7 L + 128 ^ L.length * (x % 128)
 | [], x => by simp [v7]
 | y :: L, x => by
  have := v7_snoc L x; simp only [List.cons_append, v7, List.length_cons, this, Nat.pow_succ, Nat.mul_add]; rw [Nat.mul_comm (128 ^ L.length) 128, Nat.mul_assoc]; omega
theorem v7_lt : ∀ L : List Nat, v7 L < 128 ^ L.length
 | [] => by simp [v7]
 | x :: L => by
  have h1 := v7_lt L; rw [v7, List.length_cons, Nat.pow_succ]; omega
theorem v7_take (L : List Nat) (k : Nat) (h : k < L.length) : v7 (L.take (k + 1)) = v7 (L.take k) + 128 ^ k * (L.getD k 0 % 128) := by
 rw [takeN_snoc L k h, v7_snoc, List.length_take, Nat.min_eq_left (by omega)]
theorem v7_take_lt (L : List Nat) (k : Nat) (h : k <= L.length) : v7 (L.take k) < 128 ^ k := by
 have := v7_lt (L.take k)
 rwa [List.length_take, Nat.min_eq_left h] at this
theorem v7_sml (n : Nat) : v7 (sml n) = n := by
 induction n using Nat.strongRecOn with
 | ind n ih =>
  by_cases h : n < 128
  . simp [sml_lo h, v7]; omega
  . rw [sml_hi (by omega), v7, ih (n / 128) (by omega)]; omega
def fe : List Nat -> Nat
 | [] => 0
 | x :: L => if x < 128 then 0 else fe L + 1
theorem fe_ge : ∀ (L : List Nat) j, j < fe L -> 128 <= L.getD j 0
 | [], j, h => by simp [fe] at h
 | x :: L, j, h => by
  rw [fe] at h; split at h
  . omega
  . cases j with
    | zero => simp; omega
    | succ j => simpa using fe_ge L j (by omega)
theorem fe_at : ∀ (L : List Nat), fe L < L.length -> L.getD (fe L) 0 < 128
 | [], h => by simp at h
 | x :: L, h => by
  rw [fe] at h ⊢; split
  . simpa
  . rename_i hx; rw [if_neg hx] at h; simpa using fe_at L (by simpa using h)
theorem fe_low : ∀ (L : List Nat) k, (∀ j, j < k -> 128 <= L.getD j 0) -> k <= fe L
 | [], k, h => by
  cases k with
  | zero => exact Nat.zero_le _
  | succ k => have := h 0 (by omega); simp at this
 | x :: L, k, h => by
  cases k with
  | zero => exact Nat.zero_le _
  | succ k =>
   have h0 := h 0 (by omega); simp at h0; rw [fe, if_neg (by omega)]; have := fe_low L k (fun j hj => by have := h (j + 1) (by omega); simpa using this); omega
theorem fe_eq (L : List Nat) (k : Nat) (h : ∀ j, j < k -> 128 <= L.getD j 0) (h2 : L.getD k 0 < 128) : fe L = k := by
 have h1 := fe_low L k h; by_cases hk : fe L = k
 . exact hk
 . have := fe_ge L k (by omega); omega
def okR (L : List Nat) : Bool := decide (fe L < L.length) && decide (fe L < 10) && (decide (0 < L.getD (fe L) 0) || decide (fe L = 0)) && (decide (L.getD (fe L) 0 < 2) || decide (fe L < 9))
def rdN (L : List Nat) : Nat := if okR L = true then v7 (L.take (fe L + 1)) else 0
def rdK (L : List Nat) : Nat := if okR L = true then fe L + 1 else 0
def rdE (L : List Nat) : Nat := if okR L = true then 0 else 8
theorem okR_iff (L : List Nat) : okR L = true ↔ fe L < L.length /\ fe L < 10 /\ (0 < L.getD (fe L) 0 \/ fe L = 0) /\ (L.getD (fe L) 0 < 2 \/ fe L < 9) := by
 unfold okR; simp [and_assoc]
theorem rdN_lt (L : List Nat) : rdN L < 18446744073709551616 := by
 unfold rdN; split
 . rename_i h; obtain ⟨h1, h2, h3, h4⟩ := (okR_iff L).1 h; have hl := fe_at L h1; rw [v7_take L _ h1]; have hb := v7_take_lt L (fe L) (by omega); generalize v7 (L.take (fe L)) = a at *; generalize L.getD (fe L) 0 = x at *; by_cases h9 : fe L < 9
   . have h5 : 128 ^ fe L <= 128 ^ 8 := Nat.pow_le_pow_right (by omega) (by omega); have h6 : 128 ^ fe L * (x % 128) <= 128 ^ 8 * 127 := Nat.mul_le_mul h5 (by omega); omega
   . have e9 : fe L = 9 := by omega
     rw [e9] at hb ⊢; have hx : x % 128 <= 1 := by omega
     have h6 : 128 ^ 9 * (x % 128) <= 128 ^ 9 * 1 := Nat.mul_le_mul_left _ hx; omega
 . omega
theorem fe_sml : ∀ (k n : Nat) (R : List Nat), n < 128 ^ (k + 1) -> fe (sml n ++ R) = (sml n).length - 1
 | 0, n, R, h => by rw [sml_lo (by simpa using h)]; simp [fe]; simpa using h
 | k + 1, n, R, h => by
  by_cases hn : n < 128
  . rw [sml_lo hn]; simp [fe]; omega
  . have ih := fe_sml k (n / 128) R (Nat.div_lt_of_lt_mul (by rw [Nat.pow_succ, Nat.mul_comm] at h; exact h)); have hp := sml_pos (n / 128); rw [sml_hi (by omega), List.cons_append, fe, if_neg (by omega), ih, List.length_cons]; omega
theorem sml_last : ∀ (k n : Nat), n < 128 ^ (k + 1) -> (sml n).getD ((sml n).length - 1) 0 < 128 /\ (0 < (sml n).getD ((sml n).length - 1) 0 \/ (sml n).length = 1) /\ (∀ m, n < 128 ^ m * 2 -> (sml n).length <= m \/ (sml n).getD ((sml n).length - 1) 0 < 2)
 | 0, n, h => by
  have h : n < 128 := by simpa using h
  rw [sml_lo h]; refine ⟨by simpa using h, by simp, fun m hm => ?_⟩
  cases m with
  | zero => right; simpa using hm
  | succ m => left; simp
 | k + 1, n, h => by
  by_cases hn : n < 128
  . rw [sml_lo hn]; refine ⟨by simpa using hn, by simp, fun m hm => ?_⟩
    cases m with
    | zero => right; simpa using hm
    | succ m => left; simp
  . obtain ⟨i1, i2, i3⟩ := sml_last k (n / 128) (Nat.div_lt_of_lt_mul (by rw [Nat.pow_succ, Nat.mul_comm] at h; exact h)); have hp := sml_pos (n / 128); rw [sml_hi (by omega), List.length_cons]; obtain ⟨q, hq⟩ : ∃ q, (sml (n / 128)).length = q + 1 := ⟨(sml (n / 128)).length - 1, by omega⟩
    rw [hq] at i1 i2 i3 ⊢; simp only [Nat.add_sub_cancel] at i1 i2 i3 ⊢; rw [List.getD_cons_succ]; refine ⟨i1, ?_, fun m hm => ?_⟩
    . rcases i2 with i2 | i2
      . exact .inl i2
      . left; by_cases hz : n / 128 < 128
        . have e := sml_lo hz; rw [e] at hq ⊢; have : q = 0 := by simpa using hq.symm
          subst this; simp; omega
        . rw [sml_hi (show 128 <= n / 128 by omega), List.length_cons] at hq; have := sml_pos (n / 128 / 128); omega
    . cases m with
      | zero => exfalso; simp at hm; omega
      | succ m =>
       rcases i3 m (by rw [Nat.pow_succ] at hm; exact Nat.div_lt_of_lt_mul (by rw [<- Nat.mul_assoc, Nat.mul_comm 128]; exact hm)) with h | h
       . left; omega
       . right; exact h
theorem read_sml (n : Nat) (R : List Nat) (h : n < 18446744073709551616) : rdE (sml n ++ R) = 0 /\ rdN (sml n ++ R) = n /\ rdK (sml n ++ R) = (sml n).length := by
 have hn : n < 128 ^ (9 + 1) := Nat.lt_of_lt_of_le h (by decide); have h1 := fe_sml 9 n R hn; have hp := sml_pos n; have hl := sml_len10 n h; obtain ⟨l1, l2, l3⟩ := sml_last 9 n hn
 have l3' := l3 9 (by have : (128 : Nat) ^ 9 * 2 = 18446744073709551616 := by decide
                      omega)
 have hg : (sml n ++ R).getD ((sml n).length - 1) 0 = (sml n).getD ((sml n).length - 1) 0 := by
  simp only [List.getD_eq_getElem?_getD]; rw [List.getElem?_append_left (by omega)]
 have hok : okR (sml n ++ R) = true := by
  rw [okR_iff, h1, hg]; refine ⟨by simp; omega, by omega, ?_, ?_⟩
  . rcases l2 with l2 | l2
    . exact .inl l2
    . right; omega
  . rcases l3' with l3' | l3'
    . right; omega
    . exact .inl l3'
 unfold rdE rdN rdK; rw [if_pos hok, if_pos hok, if_pos hok, h1, Nat.sub_add_cancel hp]; refine ⟨rfl, ?_, rfl⟩; rw [List.take_append_of_le_length (Nat.le_refl _), List.take_length, v7_sml]
theorem sml_v7 : ∀ (k : Nat) (L : List Nat), k < L.length -> (∀ j, j < k -> 128 <= L.getD j 0) -> L.getD k 0 < 128 -> (0 < L.getD k 0 \/ k = 0) -> (∀ x ∈ L, x < 256) -> sml (v7 (L.take (k + 1))) = L.take (k + 1)
 | 0, [], h, _, _, _, _ => by simp at h
 | 0, x :: L, h, _, hx, _, _ => by
  simp at hx; simp [v7]; rw [Nat.mod_eq_of_lt hx, sml_lo hx]
 | k + 1, [], h, _, _, _, _ => by simp at h
 | k + 1, x :: L, h, h1, h2, h3, h4 => by
  have hx := h1 0 (by omega); simp at hx; have hx2 := h4 x (List.mem_cons_self ..)
  have g3 : 0 < L.getD k 0 := by
   rcases h3 with h3 | h3
   . simpa using h3
   . omega
  have ih := sml_v7 k L (by simpa using h) (fun j hj => by have := h1 (j + 1) (by omega); simpa using this) (by simpa using h2) (.inl g3) (fun y hy => h4 y (List.mem_cons_of_mem _ hy))
  have hpos : 0 < v7 (L.take (k + 1)) := by
   rw [v7_take L k (by simpa using h)]; have : L.getD k 0 % 128 = L.getD k 0 := Nat.mod_eq_of_lt (by simpa using h2); rw [this]; have : 0 < 128 ^ k * L.getD k 0 := Nat.mul_pos (Nat.pow_pos (by omega)) g3; omega
  rw [List.take_succ_cons, v7, sml_hi (by omega)]; have e1 : (x % 128 + 128 * v7 (L.take (k + 1))) % 128 + 128 = x := by omega
  have e2 : (x % 128 + 128 * v7 (L.take (k + 1))) / 128 = v7 (L.take (k + 1)) := by omega
  rw [e1, e2, ih]
theorem read_only (L : List Nat) (hb : ∀ x ∈ L, x < 256) (h : okR L = true) : sml (rdN L) = L.take (rdK L) /\ 1 <= rdK L /\ rdK L <= L.length /\ rdK L <= 10 := by
 obtain ⟨h1, h2, h3, h4⟩ := (okR_iff L).1 h; unfold rdN rdK; rw [if_pos h, if_pos h]; exact ⟨sml_v7 _ L h1 (fe_ge L) (fe_at L h1) h3 hb, by omega, by omega, by omega⟩
end
section
open Go.RowKit Go.Lib Go.Deep
theorem ret_int {k : IntKind} {a b : Int} (h : a = b) : Ending.returned (.int k a) = .returned (.int k b) := by rw [h]
theorem ret_bool {a b : Bool} (h : a = b) : Ending.returned (.bool a) = .returned (.bool b) := by rw [h]
abbrev Kept (w w' : World) (row : Option Nat) : Prop := w.grownBy w' row
theorem Kept.drewN (w : World) (m : Nat) (r : Option Nat) : Kept w (w.drewN m) r := ⟨rfl, rfl, rfl, Nat.le_refl _, fun _ _ _ => rfl⟩
theorem Kept.refl (w : World) (r : Option Nat) : Kept w w r := ⟨rfl, rfl, rfl, Nat.le_refl _, fun _ _ _ => rfl⟩
theorem Kept.tr {a b c : World} {r : Option Nat} (h : Kept a b r) (k : Kept b c r) : Kept a c r :=
 ⟨k.os.trans h.os, k.tape.trans h.tape, k.output.trans h.output, Nat.le_trans h.size k.size, fun i hi hr => (k.block i (Nat.lt_of_lt_of_le hi h.size) hr).trans (h.block i hi hr)⟩
theorem Kept.alloc (w : World) (c : Array Value) (t : TypeId) (fr : Nat × Nat) (r : Option Nat) : Kept w (w.alloc (.cells c t fr)) r :=
 ⟨rfl, rfl, rfl, by simp, fun k hk _ => Below.heap_alloc _ _ _ hk⟩
theorem Kept.setNew {a b : World} {r : Option Nat} (h : Kept a b r) {p : Addr} (hp : a.heap.size <= p.block) (v : Value) : Kept a (b.setCell p v) r :=
 ⟨h.os, h.tape, h.output, by simpa [World.setCell] using h.size, fun k hk hr => (Below.heap_setCell _ _ _ _ (by omega)).trans (h.block k hk hr)⟩
theorem Kept.newRow {a b c : World} {r : Option Nat} (h : Kept a b none) (k : Kept b c r) (hr : ∀ i, r = some i -> a.heap.size <= i) : Kept a c none :=
 ⟨k.os.trans h.os, k.tape.trans h.tape, k.output.trans h.output, Nat.le_trans h.size k.size, fun i hi _ => (k.block i (Nat.lt_of_lt_of_le hi h.size) (fun e => by have := hr i e.symm; omega)).trans (h.block i hi (by simp))⟩
theorem Kept.below {w w' : World} (h : Kept w w' none) : Below w.heap.size w w' := ⟨h.os, h.tape, h.output, h.size, fun k hk => h.block k hk (by simp)⟩
theorem Kept.of_below {w w' : World} (h : Below w.heap.size w w') : Kept w w' none := ⟨h.os, h.tape, h.output, h.size, fun k hk _ => h.block k hk⟩
theorem row_kept {w w' : World} {b : Nat} {t : TypeId} {n : Nat} {f : Nat -> Value} {r : Option Nat} (h : w.rowIs b t n f) (k : Kept w w' r) (hr : some b ≠ r) : w'.rowIs b t n f := h.of_block (k.block b h.lt hr)
theorem block_lt {w : World} {a : Addr} {v : Value} (h : w.cell? a = some v) : a.block < w.heap.size := by
 by_cases hh : a.block < w.heap.size
 . exact hh
 . have hn : w.heap[a.block]? = none := Array.getElem?_eq_none (by omega); simp [World.cell?, hn] at h
abbrev byteV (x : Nat) : Value := .int .u8 (x : Int)
structure By (w : World) (a : Option Addr) (len : Nat) (L : List Nat) : Prop where
 size : L.length = len
 max : len <= 9223372036854775807
 lt : ∀ x ∈ L, x < 256
 at_ : 0 < len -> ∃ b off, a = some ⟨b, off, none⟩ /\ b < w.heap.size /\ ∀ i, i < len -> w.cell? ⟨b, off + i, none⟩ = some (.int .u8 ((L.getD i 0 : Nat) : Int))
theorem By.getD {w : World} {a : Option Addr} {len : Nat} {L : List Nat} (h : By w a len L) (i : Nat) : L.getD i 0 < 256 := by
 by_cases hi : i < L.length
 . have : L.getD i 0 = L[i] := by simp [hi]
   rw [this]; exact h.lt _ (List.getElem_mem hi)
 . simp [show L.length <= i by omega]
theorem By.nil (w : World) (a : Option Addr) : By w a 0 [] := ⟨rfl, by omega, fun _ h => (nomatch h), fun h => absurd h (by omega)⟩
theorem By.below {w w' : World} {a : Option Addr} {len : Nat} {L : List Nat} (h : By w a len L) (k : Below w.heap.size w w') : By w' a len L := by
 obtain ⟨h1, h2, h3, h4⟩ := h; refine ⟨h1, h2, h3, fun hp => ?_⟩; obtain ⟨b, off, rfl, hb, hc⟩ := h4 hp; exact ⟨b, off, rfl, Nat.lt_of_lt_of_le hb k.size, fun i hi => (k.cell (p := ⟨b, off + i, none⟩) hb).trans (hc i hi)⟩
theorem By.kept {w w' : World} {a : Option Addr} {len : Nat} {L : List Nat} (h : By w a len L) (k : Kept w w' none) : By w' a len L := by
 obtain ⟨h1, h2, h3, h4⟩ := h; refine ⟨h1, h2, h3, fun hp => ?_⟩; obtain ⟨b, off, rfl, hb, hc⟩ := h4 hp; exact ⟨b, off, rfl, Nat.lt_of_lt_of_le hb k.size, fun i hi => (World.cell?_of_block (w := w) (a := ⟨b, off + i, none⟩) (k.block b hb (by simp))).trans (hc i hi)⟩
theorem By.drewN {w : World} {a : Option Addr} {len : Nat} {L : List Nat} (h : By w a len L) (m : Nat) : By (w.drewN m) a len L := h.kept (Kept.drewN w m none)
theorem By.take {w : World} {a : Option Addr} {len : Nat} {L : List Nat} (h : By w a len L) (k : Nat) (hk : k <= len) : By w a k (L.take k) := by
 obtain ⟨h1, h2, h3, h4⟩ := h; refine ⟨by simp; omega, by omega, fun x hx => h3 x (List.mem_of_mem_take hx), fun hp => ?_⟩; obtain ⟨b, off, rfl, hb, hc⟩ := h4 (by omega); refine ⟨b, off, rfl, hb, fun i hi => ?_⟩; rw [hc i (by omega)]; simp [List.getElem?_take, hi]
theorem By.row {w : World} {b n : Nat} {t : TypeId} {f : Nat -> Value} (h : w.rowIs b t n f) (L : List Nat) (k : Nat) (hk : k <= n) (hl : L.length = k) (h2 : k <= 9223372036854775807) (hb : ∀ x ∈ L, x < 256) (hf : ∀ i, i < k -> f i = .int .u8 ((L.getD i 0 : Nat) : Int)) : By w (some ⟨b, 0, none⟩) k L :=
 ⟨hl, h2, hb, fun _ => ⟨b, 0, rfl, h.lt, fun i hi => by rw [Nat.zero_add, h.cell (by omega), hf i hi]⟩⟩
theorem By.alloc (w : World) (L : List Nat) (t : TypeId) (fr : Nat × Nat) (cs : Array Value) (hc : ∀ i, i < L.length -> cs[i]? = some (.int .u8 ((L.getD i 0 : Nat) : Int))) (h2 : L.length <= 9223372036854775807) (hb : ∀ x ∈ L, x < 256) : By (w.alloc (.cells cs t fr)) (some ⟨w.heap.size, 0, none⟩) L.length L :=
 ⟨rfl, h2, hb, fun _ => ⟨_, 0, rfl, by simp, fun i hi => by rw [Nat.zero_add, World.cell?_alloc_mark, hc i hi]⟩⟩
theorem by_of {w : World} {a : Option Addr} {len cap : Nat} {zs : List Int}
 (h : (a = none /\ len = 0 /\ cap = 0 /\ zs = []) \/ ∃ x, a = some x /\ len <= cap /\ cap <= maxLen /\ zs.length = cap /\ (∀ i, i < zs.length -> w.cell? (x.add i) = some (.int .u8 (zs.getD i 0))) /\ ∀ n ∈ zs, (Lit.int .u8 n).wf = true) :
 By w a len ((zs.take len).map Int.toNat) := by
 rcases h with ⟨rfl, rfl, rfl, rfl⟩ | ⟨x, rfl, hl, hm, hz, hcell, hwz⟩
 . exact By.nil _ _
 . unfold maxLen at hm
   have hr : ∀ n ∈ zs, 0 <= n /\ n < 256 := fun n hn => by
    have := bounds_u8 (hwz n hn); omega
   refine ⟨by simp; omega, by omega, fun y hy => ?_, fun hp => ?_⟩
   . simp only [List.mem_map] at hy; obtain ⟨z, hz1, rfl⟩ := hy; have := hr z (List.mem_of_mem_take hz1); omega
   . obtain ⟨b, off, rfl, hc⟩ := ints_at hcell (by omega); refine ⟨b, off, rfl, block_lt (hc 0 (by omega)), fun i hi => ?_⟩; rw [hc i (by omega)]; have hi' : i < zs.length := by omega
     have := hr zs[i] (List.getElem_mem hi')
     have e : ((zs.take len).map Int.toNat).getD i 0 = zs[i].toNat := by
      simp [List.getElem?_take, hi, hi']
     rw [e]; have e2 : zs.getD i 0 = zs[i] := by simp [hi']
     rw [e2]
     congr 2
     omega
def textOf (L : List Nat) : ByteArray := ⟨(L.map UInt8.ofNat).toArray⟩
theorem Tryz.uB : Tryz.prog.underlying 27 = some (.slice 5) := by kernel_rfl
theorem Tryz.u5 : Tryz.prog.underlying 5 = some (.int .u8) := by kernel_rfl
theorem Tryz.uS : Tryz.prog.underlying 9 = some .string := by kernel_rfl
theorem run_text {w : World} {a : Option Addr} {len : Nat} {L : List Nat} (h : By w a len L) (cap : Nat) : (convert 27 9 (.slice a len cap)).run Tryz.prog w = .ok (.string (textOf L)) w := by
 obtain ⟨h1, h2, h3, h4⟩ := h; by_cases hp : 0 < len
 . obtain ⟨b, off, rfl, hb, hc⟩ := h4 hp
   have := run_convert_bytes_back (P := Tryz.prog) w 27 9 5 ⟨b, off, none⟩ cap (L.map UInt8.ofNat) Tryz.uB Tryz.u5 Tryz.uS (fun j hj => by
    have hj' : j < L.length := by simpa using hj
    rw [Addr.add_lit, hc j (by omega)]; have e : L.getD j 0 = L[j] := by simp [hj']
    have hx := h3 L[j] (List.getElem_mem hj'); rw [e]; simp; omega)
   rw [List.length_map, h1] at this; exact this
 . have e0 : len = 0 := by omega
   subst e0; have e1 : L = [] := List.length_eq_zero_iff.1 h1; subst e1; rw [run_convert_bytes_string w 27 9 5 a 0 cap Tryz.uB Tryz.u5 Tryz.uS]
   cases a with
   | none => rfl
   | some x => rfl
end
section

def cnt (S : Nat) : Nat -> Nat
 | 0 => 0
 | k + 1 => cnt S k + (S.testBit k).toNat
theorem cnt_succ (S k : Nat) : cnt S (k + 1) = cnt S k + (S.testBit k).toNat := rfl
theorem cnt_le (S k : Nat) : cnt S k <= k := by
 induction k with
 | zero => exact Nat.le_refl _
 | succ k ih => rw [cnt_succ]; have := Bool.toNat_le (S.testBit k); omega
theorem cnt_flat (S a b : Nat) (h : ∀ j, a <= j -> j < a + b -> S.testBit j = false) : cnt S (a + b) = cnt S a := by
 induction b with
 | zero => rfl
 | succ b ih =>
  rw [<- Nat.add_assoc, cnt_succ, ih (fun j h1 h2 => h j h1 (by omega)), h (a + b) (by omega) (by omega)]; rfl
def lowN : Nat -> Nat -> Nat
 | 0, _ => 0
 | f + 1, S => if S % 2 = 1 then 0 else lowN f (S / 2) + 1
theorem lowN_spec (f : Nat) : ∀ S, 0 < S -> S < 2 ^ f -> lowN f S < f /\ S.testBit (lowN f S) = true /\ ∀ j, j < lowN f S -> S.testBit j = false := by
 induction f with
 | zero => intro S h1 h2; simp at h2; omega
 | succ f ih =>
  intro S h1 h2; unfold lowN; split
  . rename_i h; exact ⟨by omega, by simp [Nat.testBit_zero, h], fun j hj => by omega⟩
  . rename_i h; obtain ⟨a, b, c⟩ := ih (S / 2) (by omega) (by rw [Nat.pow_succ] at h2; omega); refine ⟨by omega, by rw [Nat.testBit_succ]; exact b, fun j hj => ?_⟩
    cases j with
    | zero => simp [Nat.testBit_zero]; omega
    | succ j => rw [Nat.testBit_succ]; exact c j (by omega)
theorem and_two (x y : Nat) : x &&& y = 2 * (x / 2 &&& y / 2) + (x % 2) * (y % 2) := by
 have h1 : (x &&& y) / 2 = x / 2 &&& y / 2 := Nat.and_div_two
 have h2 : (x &&& y) % 2 = (x % 2) * (y % 2) := by
  have := Nat.testBit_and x y 0; simp only [Nat.testBit_zero] at this; have e := decide_eq_decide.1 (by rw [this, <- Bool.decide_and] : decide ((x &&& y) % 2 = 1) = decide (x % 2 = 1 /\ y % 2 = 1)); by_cases hh : x % 2 = 1 /\ y % 2 = 1
  . rw [e.2 hh, hh.1, hh.2]
  . have hn : ¬ (x &&& y) % 2 = 1 := fun k => hh (e.1 k)
    have h0 : (x &&& y) % 2 = 0 := by omega
    rw [h0]; rcases Nat.mod_two_eq_zero_or_one x with hx | hx <;> rcases Nat.mod_two_eq_zero_or_one y with hy | hy
    . rw [hx, hy]
    . rw [hx, hy]
    . rw [hx, hy]
    . exact absurd ⟨hx, hy⟩ hh
 omega
theorem and_rest (f : Nat) : ∀ a, a < 2 ^ f -> a &&& (2 ^ f - 1 - a) = 0 := by
 induction f with
 | zero => intro a h; simp at h; subst h; rfl
 | succ f ih =>
  intro a h; rw [Nat.pow_succ] at h ⊢; have := ih (a / 2) (by omega); rw [and_two]; have e : (2 ^ f * 2 - 1 - a) / 2 = 2 ^ f - 1 - a / 2 := by omega
  rw [e, this]; rcases Nat.mod_two_eq_zero_or_one a with ha | ha
  . rw [ha]; omega
  . have : (2 ^ f * 2 - 1 - a) % 2 = 0 := by omega
    rw [this]; omega
theorem and_neg (f : Nat) : ∀ S, 0 < S -> S < 2 ^ f -> S &&& (2 ^ f - S) = 2 ^ lowN f S := by
 induction f with
 | zero => intro S h1 h2; simp at h2; omega
 | succ f ih =>
  intro S h1 h2; rw [Nat.pow_succ] at h2; rw [and_two]; unfold lowN; split
  . rename_i h; have e : (2 ^ (f + 1) - S) / 2 = 2 ^ f - 1 - S / 2 := by rw [Nat.pow_succ]; omega
    have e2 : (2 ^ (f + 1) - S) % 2 = 1 := by rw [Nat.pow_succ]; omega
    rw [e, e2, h, and_rest f (S / 2) (by omega)]
  . rename_i h; have h0 : S % 2 = 0 := by omega
    have e : (2 ^ (f + 1) - S) / 2 = 2 ^ f - S / 2 := by rw [Nat.pow_succ]; omega
    rw [e, h0, ih (S / 2) (by omega) (by omega), Nat.pow_succ]; omega
theorem or_two (x y : Nat) : x ||| y = 2 * (x / 2 ||| y / 2) + (if x % 2 = 1 \/ y % 2 = 1 then 1 else 0) := by
 have h1 : (x ||| y) / 2 = x / 2 ||| y / 2 := Nat.or_div_two
 have h2 : (x ||| y) % 2 = (if x % 2 = 1 \/ y % 2 = 1 then 1 else 0) := by
  have := Nat.testBit_or x y 0; simp only [Nat.testBit_zero] at this; have e := decide_eq_decide.1 (by rw [this, <- Bool.decide_or] : decide ((x ||| y) % 2 = 1) = decide (x % 2 = 1 \/ y % 2 = 1)); split
  . rename_i h; exact e.2 h
  . rename_i h; have : ¬ (x ||| y) % 2 = 1 := fun k => h (e.1 k)
    omega
 omega
theorem or_add : ∀ (n x y : Nat), x + y <= n -> x &&& y = 0 -> x ||| y = x + y := by
 intro n
 induction n with
 | zero => intro x y h _; obtain rfl : x = 0 := by omega
           obtain rfl : y = 0 := by omega
           rfl
 | succ n ih =>
  intro x y h e; by_cases hz : x + y = 0
  . obtain rfl : x = 0 := by omega
    obtain rfl : y = 0 := by omega
    rfl
  rw [and_two] at e; have e1 : x / 2 &&& y / 2 = 0 := by omega
  have e2 : (x % 2) * (y % 2) = 0 := by omega
  rw [or_two, ih (x / 2) (y / 2) (by omega) e1]; rcases Nat.mod_two_eq_zero_or_one x with hx | hx <;> rcases Nat.mod_two_eq_zero_or_one y with hy | hy
  . rw [hx, hy, if_neg (by omega)]; omega
  . rw [hx, hy, if_pos (by omega)]; omega
  . rw [hx, hy, if_pos (by omega)]; omega
  . rw [hx, hy] at e2; omega
theorem and_pow (S i : Nat) (h : S.testBit i = false) : S &&& 2 ^ i = 0 := by
 apply Nat.eq_of_testBit_eq; intro j; rw [Nat.testBit_and, Nat.testBit_two_pow]; by_cases e : i = j
 . subst e; simp [h]
 . simp [e]
theorem and_pow_yes (S i : Nat) (h : S.testBit i = true) : S &&& 2 ^ i = 2 ^ i := by
 apply Nat.eq_of_testBit_eq; intro j; rw [Nat.testBit_and, Nat.testBit_two_pow]; by_cases e : i = j
 . subst e; simp [h]
 . simp [e]
theorem or_pow_no (S i : Nat) (h : S.testBit i = false) : S ||| 2 ^ i = S + 2 ^ i := or_add _ _ _ (Nat.le_refl _) (and_pow S i h)
theorem or_pow_yes (S i : Nat) (h : S.testBit i = true) : S ||| 2 ^ i = S := by
 apply Nat.eq_of_testBit_eq; intro j; rw [Nat.testBit_or, Nat.testBit_two_pow]; by_cases e : i = j
 . subst e; simp [h]
 . simp [e]
theorem but_bit (i j : Nat) (hi : i < 32) : (4294967295 - 2 ^ i).testBit j = (decide (j < 32) && !decide (i = j)) := by
 have h : 2 ^ i < 2 ^ 32 := Nat.pow_lt_pow_right (by omega) hi; have := Nat.testBit_two_pow_sub_succ h j; rw [Nat.testBit_two_pow] at this; rw [<- this]
 congr 1
 have : (2 : Nat) ^ 32 = 4294967296 := by decide
 omega
theorem lt_bit {S : Nat} (h : S < 4294967296) {j : Nat} (hj : S.testBit j = true) : j < 32 := by
 by_cases hh : j < 32
 . exact hh
 . have : S < 2 ^ j := Nat.lt_of_lt_of_le h (Nat.pow_le_pow_right (by omega) (by omega) : 2 ^ 32 <= 2 ^ j); rw [Nat.testBit_lt_two_pow this] at hj; cases hj
theorem without_bit (S i j : Nat) (hS : S < 4294967296) (hi : i < 32) : (S &&& (4294967295 - 2 ^ i)).testBit j = (S.testBit j && !decide (i = j)) := by
 rw [Nat.testBit_and, but_bit i j hi]
 cases h : S.testBit j with
 | false => simp
 | true => simp [lt_bit hS h]
theorem without_yes (S i : Nat) (hS : S < 4294967296) (hi : i < 32) (h : S.testBit i = true) : S &&& (4294967295 - 2 ^ i) = S - 2 ^ i := by
 have e : (S &&& (4294967295 - 2 ^ i)) ||| 2 ^ i = S := by
  apply Nat.eq_of_testBit_eq; intro j; rw [Nat.testBit_or, without_bit S i j hS hi, Nat.testBit_two_pow]; by_cases e : i = j
  . subst e; simp [h]
  . simp [e]
 have hb : (S &&& (4294967295 - 2 ^ i)).testBit i = false := by rw [without_bit S i i hS hi]; simp
 rw [or_pow_no _ i hb] at e; omega
theorem or_pow_lt (S i : Nat) (hS : S < 4294967296) (hi : i < 32) : S ||| 2 ^ i < 4294967296 :=
 Nat.or_lt_two_pow (n := 32) hS (Nat.pow_lt_pow_right (by omega) hi)
end
section
open Go.RowKit Go.Lib Go.Deep
theorem pow_lt32 {i : Nat} (h : i < 32) : 2 ^ i < 4294967296 := by
 have h' : 2 ^ i < 2 ^ 32 := Nat.pow_lt_pow_right (by omega) h; simpa using h'
theorem pow_int {i : Nat} (h : i < 32) : (2 : Int) ^ i % 4294967296 = ((2 ^ i : Nat) : Int) := by
 have := pow_lt32 h; have e : (2 : Int) ^ i = ((2 ^ i : Nat) : Int) := by simp
 rw [e]; generalize 2 ^ i = P at this ⊢; omega
def bitV (i : Int) : Nat := if 0 <= i /\ i < 32 then 2 ^ i.toNat else 0
theorem bitV_lt (i : Int) : bitV i < 4294967296 := by
 unfold bitV; split
 . exact pow_lt32 (by omega)
 . omega
theorem bit_core (i : Nat) (w : World) (h : i < 32) : Calls Tryz.prog 130 #[.int .i64 i] w fun e w' => e = .returned (.int .u32 ((2 ^ i : Nat) : Int)) /\ w' = w := by
 go_enter Tryz.func130, Tryz.ntmps130; go_wp2; go_ret; exact ⟨ret_int (pow_int h), rfl⟩
theorem bit_no (i : Int) (w : World) (h : i < 0 \/ 31 < i) : Calls Tryz.prog 130 #[.int .i64 i] w fun e w' => e = .returned (.int .u32 0) /\ w' = w := by
 rcases h with h | h
 all_goals
  go_enter Tryz.func130, Tryz.ntmps130; go_wp2; go_ret; exact ⟨rfl, rfl⟩
theorem bit_any (i : Int) (w : World) : Calls Tryz.prog 130 #[.int .i64 i] w fun e w' => e = .returned (.int .u32 ((bitV i : Nat) : Int)) /\ w' = w := by
 unfold bitV; by_cases h : 0 <= i /\ i < 32
 . rw [if_pos h]; obtain ⟨n, rfl⟩ : ∃ n : Nat, i = (n : Int) := ⟨i.toNat, by omega⟩
   exact bit_core n w (by omega)
 . rw [if_neg h]; exact bit_no i w (by omega)
def hasB (S : Nat) (i : Int) : Bool := decide (0 <= i /\ i < 32) && S.testBit i.toNat
def withV (S : Nat) (i : Int) : Nat := S ||| bitV i
def withoutV (S : Nat) (i : Int) : Nat := S &&& (4294967295 - bitV i)
theorem has_eq (S : Nat) (i : Int) : (((S &&& bitV i : Nat) : Int) != 0) = hasB S i := by
 unfold hasB bitV; by_cases h : 0 <= i /\ i < 32
 . rw [if_pos h, decide_eq_true h, Bool.true_and]; have hp : 0 < 2 ^ i.toNat := Nat.two_pow_pos _
   cases hb : S.testBit i.toNat with
   | false => rw [and_pow S _ hb]; rfl
   | true =>
    rw [and_pow_yes S _ hb, bne_iff_ne]
    exact_mod_cast Nat.ne_of_gt hp
 . rw [if_neg h, decide_eq_false h, Nat.and_zero]; rfl
theorem has_any (S : Nat) (i : Int) (w : World) (hS : S < 4294967296) : Calls Tryz.prog 124 #[.int .u32 S, .int .i64 i] w fun e w' => e = .returned (.bool (hasB S i)) /\ w' = w := by
 have hand := u32_and_nat S (bitV i) hS (bitV_lt i); go_enter Tryz.func124, Tryz.ntmps124; go_wp2_with (go_at_call 130; refine (bit_any _ _).mono ?_; rintro e w ⟨rfl, rfl⟩); go_ret; exact ⟨ret_bool (has_eq S i), rfl⟩
theorem without_any (S : Nat) (i : Int) (w : World) (hS : S < 4294967296) : Calls Tryz.prog 133 #[.int .u32 S, .int .i64 i] w fun e w' => e = .returned (.int .u32 ((withoutV S i : Nat) : Int)) /\ w' = w := by
 have han := u32_andNot_nat S (bitV i) hS (bitV_lt i); go_enter Tryz.func133, Tryz.ntmps133; go_wp2_with (go_at_call 130; refine (bit_any _ _).mono ?_; rintro e w ⟨rfl, rfl⟩); go_ret; exact ⟨rfl, rfl⟩
theorem has_ref (S i : Nat) : ((((S : Int) / 2 ^ i).tmod 2 == 1) : Bool) = S.testBit i := by
 have e : (S : Int) / 2 ^ i = ((S / 2 ^ i : Nat) : Int) := by simp
 rw [e, Int.tmod_eq_emod_of_nonneg (Int.natCast_nonneg _), Nat.testBit_eq_decide_div_mod_eq, Bool.eq_iff_iff]; simp; omega
theorem rhas_core (S i : Nat) (w : World) (hS : S < 4294967296) (h : i < 32) : Calls Tryz.prog 90 #[.int .u32 S, .int .i64 i] w fun e w' => e = .returned (.bool (S.testBit i)) /\ w' = w := by
 go_enter Tryz.func90, Tryz.ntmps90; go_wp2; go_ret; exact ⟨ret_bool (has_ref S i), rfl⟩
theorem rhas_no (S : Nat) (i : Int) (w : World) (h : i < 0 \/ 31 < i) : Calls Tryz.prog 90 #[.int .u32 S, .int .i64 i] w fun e w' => e = .returned (.bool false) /\ w' = w := by
 rcases h with h | h
 . have h1 : decide (0 <= i) = false := by simp; omega
   go_enter Tryz.func90, Tryz.ntmps90; go_wp2; go_ret; exact ⟨rfl, rfl⟩
 . have h0 : 0 <= i := by omega
   have h1 : decide (i < 32) = false := by simp; omega
   go_enter Tryz.func90, Tryz.ntmps90; go_wp2; go_ret; exact ⟨rfl, rfl⟩
theorem rhas_any (S : Nat) (i : Int) (w : World) (hS : S < 4294967296) : Calls Tryz.prog 90 #[.int .u32 S, .int .i64 i] w fun e w' => e = .returned (.bool (hasB S i)) /\ w' = w := by
 unfold hasB; by_cases h : 0 <= i /\ i < 32
 . rw [decide_eq_true h, Bool.true_and]; obtain ⟨n, rfl⟩ : ∃ n : Nat, i = (n : Int) := ⟨i.toNat, by omega⟩
   exact rhas_core S n w hS (by omega)
 . rw [decide_eq_false h, Bool.false_and]; exact rhas_no S i w (by omega)
theorem has_in {S n : Nat} (h : n < 32) : hasB S (n : Int) = S.testBit n := by
 unfold hasB; rw [decide_eq_true (by omega)]; simp
theorem rwith_yes (S : Nat) (i : Int) (w : World) (hS : S < 4294967296) (h : ¬ (0 <= i /\ i < 32) \/ hasB S i = true) : Calls Tryz.prog 91 #[.int .u32 S, .int .i64 i] w fun e w' => e = .returned (.int .u32 (S : Int)) /\ w' = w := by
 by_cases h0 : 0 <= i /\ i < 32
 . obtain ⟨h1, h2⟩ := h0; have h3 : hasB S i = true := by rcases h with h | h; exact absurd ⟨h1, h2⟩ h; exact h
   clear h; go_enter Tryz.func91, Tryz.ntmps91; go_wp2_with (go_at_call 90; refine (rhas_any _ _ _ hS).mono ?_; rintro e w ⟨rfl, rfl⟩; rw [h3]); go_ret; exact ⟨rfl, rfl⟩
 . rcases (show i < 0 \/ 31 < i by omega) with h1 | h1
   all_goals
    clear h h0; go_enter Tryz.func91, Tryz.ntmps91; go_wp2_with fail; go_ret; exact ⟨rfl, rfl⟩
theorem rwith_no (S n : Nat) (w : World) (hS : S < 4294967296) (hn : n < 32) (h : S.testBit n = false) : Calls Tryz.prog 91 #[.int .u32 S, .int .i64 n] w fun e w' => e = .returned (.int .u32 ((S + 2 ^ n : Nat) : Int)) /\ w' = w := by
 have h3 : hasB S (n : Int) = false := by rw [has_in hn]; exact h
 have hp := pow_int hn; have hlt : S + 2 ^ n < 4294967296 := by rw [<- or_pow_no S n h]; exact or_pow_lt S n hS hn
 generalize 2 ^ n = P at hp hlt ⊢; go_enter Tryz.func91, Tryz.ntmps91; go_wp2_with (go_at_call 90; refine (rhas_any _ _ _ hS).mono ?_; rintro e w ⟨rfl, rfl⟩; rw [h3]); go_ret; exact ⟨ret_int (by omega), rfl⟩
theorem with_no {S : Nat} {i : Int} (h : ¬ (0 <= i /\ i < 32)) : withV S i = S := by unfold withV bitV; rw [if_neg h, Nat.or_zero]
theorem with_in {S n : Nat} (h : n < 32) : withV S (n : Int) = S ||| 2 ^ n := by unfold withV bitV; rw [if_pos (by omega)]; simp
theorem without_in {S n : Nat} (h : n < 32) : withoutV S (n : Int) = S &&& (4294967295 - 2 ^ n) := by unfold withoutV bitV; rw [if_pos (by omega)]; simp
theorem rwith_any (S : Nat) (i : Int) (w : World) (hS : S < 4294967296) : Calls Tryz.prog 91 #[.int .u32 S, .int .i64 i] w fun e w' => e = .returned (.int .u32 ((withV S i : Nat) : Int)) /\ w' = w := by
 by_cases h : 0 <= i /\ i < 32
 . obtain ⟨n, rfl⟩ : ∃ n : Nat, i = (n : Int) := ⟨i.toNat, by omega⟩
   have hn : n < 32 := by omega
   rw [with_in hn]
   cases hb : S.testBit n with
   | true => rw [or_pow_yes S n hb]; exact rwith_yes S n w hS (.inr (by rw [has_in hn]; exact hb))
   | false => rw [or_pow_no S n hb]; exact rwith_no S n w hS hn hb
 . rw [with_no h]; exact rwith_yes S i w hS (.inl h)
theorem rcount_any (S : Nat) (w : World) (hS : S < 4294967296) : Calls Tryz.prog 92 #[.int .u32 S] w fun e w' => e = .returned (.int .i64 ((cnt S 32 : Nat) : Int)) /\ w' = w := by
 go_enter Tryz.func92, Tryz.ntmps92; go_wp2_with fail; go_loop [3, 4] (fun c i => ∃ k : Nat, k <= 32 /\ i = .int .i64 k /\ c = .int .i64 ((cnt S k : Nat) : Int)) (fun _ i => 32 - (intOf i).toNat)
 case atStart => exact ⟨0, Nat.zero_le _, rfl, rfl⟩
 case round =>
  obtain ⟨k, hk, rfl, rfl⟩ := hrel; have hc := cnt_le S k; by_cases hlt : k < 32
  . have HS : Hid (cnt S (k + 1) = cnt S k + (S.testBit k).toNat) := cnt_succ S k; generalize cnt S k = C at *
    cases hb : S.testBit k with
    | true =>
     have h3 : hasB S (k : Int) = true := by rw [has_in hlt]; exact hb
     rw [hb] at HS; go_wp2_with (go_at_call 90; refine (rhas_any _ _ _ hS).mono ?_; rintro e w ⟨rfl, rfl⟩; rw [h3]); go_round
     case rel => exact ⟨k + 1, by omega, by go_num, by rw [HS.out]; go_num⟩
     case measure => simp [intOf]; omega
    | false =>
     have h3 : hasB S (k : Int) = false := by rw [has_in hlt]; exact hb
     rw [hb] at HS; go_wp2_with (go_at_call 90; refine (rhas_any _ _ _ hS).mono ?_; rintro e w ⟨rfl, rfl⟩; rw [h3]); go_round
     case rel => exact ⟨k + 1, by omega, by go_num, by rw [HS.out]; go_num⟩
     case measure => simp [intOf]; omega
  . obtain rfl : k = 32 := by omega
    go_wp2_with fail; go_ret; exact ⟨rfl, rfl⟩
def leastV (S : Nat) : Int := if S = 0 then -1 else (lowN 32 S : Int)
def deB : List Int := [0, 1, 28, 2, 29, 14, 24, 3, 30, 22, 20, 15, 25, 17, 4, 8, 31, 27, 13, 23, 21, 19, 16, 7, 26, 12, 18, 6, 11, 5, 10, 9]
def Tabb (w : World) : Prop := ∀ i, i < 32 -> w.cell? ⟨1, i, none⟩ = some (.int .u8 (deB.getD i 0))
theorem Tabb.lt {w : World} (h : Tabb w) : 1 < w.heap.size := by
 by_cases hh : 1 < w.heap.size
 . exact hh
 . have hn : w.heap[1]? = none := Array.getElem?_eq_none (by omega); have := h 0 (by omega); simp [World.cell?, hn] at this
theorem Tabb.keptR {w w' : World} {r : Option Nat} (h : Tabb w) (k : Kept w w' r) (hr : some 1 ≠ r) : Tabb w' := fun i hi =>
 (World.cell?_of_block (w := w) (a := ⟨1, i, none⟩) (k.block 1 h.lt hr)).trans (h i hi)
theorem Tabb.kept {w w' : World} (h : Tabb w) (k : Kept w w' none) : Tabb w' := h.keptR k (by simp)
def spot (k : Nat) : Nat := 2 ^ k * 125613361 % 4294967296 / 134217728
theorem spot_lt (k : Nat) : spot k < 32 := by unfold spot; omega
theorem spot_tab : ∀ k, k < 32 -> deB.getD (spot k) 0 = (k : Int) := by decide +kernel
theorem zeros_any (S : Nat) (w : World) (hS : S < 4294967296) (h0 : 0 < S) (ht : Tabb w) : Calls Tryz.prog 135 #[.int .u32 S] w fun e w' => e = .returned (.int .i64 ((lowN 32 S : Nat) : Int)) /\ w' = w := by
 have hk := (lowN_spec 32 S h0 (by simpa using hS)).1
 have hand : bits .and .u32 (S : Int) ((4294967296 - S : Nat) : Int) = ((2 ^ lowN 32 S : Nat) : Int) := by
  rw [u32_and_nat S _ hS (by omega)]; have := and_neg 32 S h0 (by simpa using hS); rw [<- this]
 have hsp := spot_tab _ hk; have hlt := spot_lt (lowN 32 S); have hcell := ht (spot (lowN 32 S)) hlt; rw [hsp] at hcell; have hneg : -(S : Int) % 4294967296 = ((4294967296 - S : Nat) : Int) := by omega
 have hoff : (bits BinOp.and IntKind.u32 (S : Int) (-(S : Int) % 4294967296) * 125613361 % 4294967296 / 134217728).toNat = spot (lowN 32 S) := by
  rw [hneg, hand]; unfold spot; generalize 2 ^ lowN 32 S = P; have e : (P : Int) * 125613361 % 4294967296 / 134217728 = ((P * 125613361 % 4294967296 / 134217728 : Nat) : Int) := by simp
  rw [e]; exact Int.toNat_natCast _
 have hcell' : w.cell? ⟨1, (bits BinOp.and IntKind.u32 (S : Int) (-(S : Int) % 4294967296) * 125613361 % 4294967296 / 134217728).toNat, none⟩ = some (.int .u8 ((lowN 32 S : Nat) : Int)) := by rw [hoff]; exact hcell
 clear hsp hlt hcell hneg hoff hand ht; generalize lowN 32 S = K at *; go_enter Tryz.func135, Tryz.ntmps135; go_wp2; go_ret; exact ⟨rfl, rfl⟩
theorem least_any (S : Nat) (w : World) (hS : S < 4294967296) (ht : Tabb w) : Calls Tryz.prog 132 #[.int .u32 S] w fun e w' => e = .returned (.int .i64 (leastV S)) /\ w' = w := by
 unfold leastV; by_cases h : S = 0
 . rw [if_pos h]; subst h; go_enter Tryz.func132, Tryz.ntmps132; go_wp2_with fail; go_ret; exact ⟨rfl, rfl⟩
 . rw [if_neg h]; have h0 : 0 < S := by omega
   have HT : Hid (Tabb w) := ht; clear ht; go_enter Tryz.func132, Tryz.ntmps132; go_wp2_with (go_at_call 135; refine (zeros_any _ _ hS h0 HT.out).mono ?_; rintro e w ⟨rfl, rfl⟩); go_ret; exact ⟨rfl, rfl⟩
end
section

def st (r : Nat) : Nat := if r % 2 = 1 then (r / 2) ^^^ 3988292384 else r / 2
def st4 (r : Nat) : Nat := st (st (st (st r)))
def st8 (r : Nat) : Nat := st4 (st4 r)
def up (r x : Nat) : Nat := st8 (r ^^^ x)
def crc (L : List Nat) : Nat := L.foldl up 4294967295
def sumB (L : List Nat) : Nat := 4294967295 ^^^ crc L
theorem st_lin (a b : Nat) : st (a ^^^ b) = st a ^^^ st b := by
 have h1 : (a ^^^ b) / 2 = a / 2 ^^^ b / 2 := Nat.xor_div_two; have h2 : (a ^^^ b) % 2 = (a % 2) ^^^ (b % 2) := Nat.xor_mod_two_pow (n := 1); unfold st; rw [h1, h2]; rcases Nat.mod_two_eq_zero_or_one a with h | h <;> rcases Nat.mod_two_eq_zero_or_one b with k | k <;> simp only [h, k]
 . rfl
 . show (a / 2 ^^^ b / 2) ^^^ 3988292384 = a / 2 ^^^ (b / 2 ^^^ 3988292384)
   rw [Nat.xor_assoc]
 . show (a / 2 ^^^ b / 2) ^^^ 3988292384 = (a / 2 ^^^ 3988292384) ^^^ b / 2
   rw [Nat.xor_assoc, Nat.xor_assoc, Nat.xor_comm (b / 2)]
 . show a / 2 ^^^ b / 2 = (a / 2 ^^^ 3988292384) ^^^ (b / 2 ^^^ 3988292384)
   rw [Nat.xor_comm (b / 2), Nat.xor_assoc, <- Nat.xor_assoc 3988292384, Nat.xor_self, Nat.zero_xor]
theorem st4_lin (a b : Nat) : st4 (a ^^^ b) = st4 a ^^^ st4 b := by unfold st4; rw [st_lin, st_lin, st_lin, st_lin]
theorem st_even (k : Nat) : st (2 * k) = k := by unfold st; rw [if_neg (by omega)]; omega
theorem st4_even (k : Nat) : st4 (16 * k) = k := by
 unfold st4; rw [show 16 * k = 2 * (2 * (2 * (2 * k))) by omega, st_even, st_even, st_even, st_even]
theorem xor32 {a b : Nat} (h : a < 4294967296) (k : b < 4294967296) : a ^^^ b < 4294967296 := Nat.xor_lt_two_pow (n := 32) h k
theorem st_lt {r : Nat} (h : r < 4294967296) : st r < 4294967296 := by
 unfold st; split
 . exact xor32 (by omega) (by omega)
 . omega
theorem st4_lt {r : Nat} (h : r < 4294967296) : st4 r < 4294967296 := st_lt (st_lt (st_lt (st_lt h)))
theorem st8_lt {r : Nat} (h : r < 4294967296) : st8 r < 4294967296 := st4_lt (st4_lt h)
theorem xor_join (i x y : Nat) (hx : x % 2 ^ i = 0) (hy : y < 2 ^ i) : x ^^^ y = x + y := by
 rw [<- nat_join i x y hx hy]; apply Nat.eq_of_testBit_eq; intro j; rw [Nat.testBit_xor, Nat.testBit_or]; by_cases hj : j < i
 . have : x.testBit j = false := by
    have h := Nat.testBit_mod_two_pow x i j; rw [hx, Nat.zero_testBit] at h; simp [hj] at h; exact h
   rw [this]; simp
 . have : y.testBit j = false := Nat.testBit_lt_two_pow (Nat.lt_of_lt_of_le hy (Nat.pow_le_pow_right (by omega) (by omega))); rw [this]; simp
def halfs : List Int := [0, 498536548, 997073096, 651767980, 1994146192, 1802195444, 1303535960, 1342533948, 3988292384, 4027552580, 3604390888, 3412177804, 2607071920, 2262029012, 2685067896, 3183342108]
theorem halfs_st4 : ∀ m, m < 16 -> halfs.getD m 0 = ((st4 m : Nat) : Int) := by decide +kernel
theorem st4_half (r : Nat) : r / 16 ^^^ st4 (r % 16) = st4 r := by
 have e : r = 16 * (r / 16) ^^^ r % 16 := by
  rw [xor_join 4 (16 * (r / 16)) (r % 16) (by omega) (by omega)]; omega
 have : st4 r = st4 (16 * (r / 16) ^^^ r % 16) := by rw [<- e]
 rw [this, st4_lin, st4_even]
theorem up_lt {r x : Nat} (h : r < 4294967296) (hx : x < 256) : up r x < 4294967296 := st8_lt (xor32 h (by omega))
theorem fold_lt : ∀ (L : List Nat) (r : Nat), r < 4294967296 -> (∀ x ∈ L, x < 256) -> L.foldl up r < 4294967296
 | [], r, h, _ => h
 | x :: L, r, h, hb => fold_lt L _ (up_lt h (hb x (List.mem_cons_self ..))) (fun y hy => hb y (List.mem_cons_of_mem _ hy))
theorem crc_lt (L : List Nat) (hb : ∀ x ∈ L, x < 256) : crc L < 4294967296 := fold_lt L _ (by omega) hb
theorem crc_snoc (L : List Nat) (x : Nat) : crc (L ++ [x]) = up (crc L) x := by simp [crc]
theorem crc_take (L : List Nat) (k : Nat) (h : k < L.length) : crc (L.take (k + 1)) = up (crc (L.take k)) (L.getD k 0) := by rw [takeN_snoc L k h, crc_snoc]
theorem sumB_lt (L : List Nat) (hb : ∀ x ∈ L, x < 256) : sumB L < 4294967296 := xor32 (by omega) (crc_lt L hb)
end
section
open Go.RowKit Go.Lib Go.Deep
def Table (w : World) : Prop := ∀ i, i < 16 -> w.cell? ⟨0, i, none⟩ = some (.int .u32 (halfs.getD i 0))
theorem Table.lt {w : World} (h : Table w) : 0 < w.heap.size := by
 by_cases hh : 0 < w.heap.size
 . exact hh
 . have hn : w.heap[0]? = none := Array.getElem?_eq_none (by omega); have := h 0 (by omega); simp [World.cell?, hn] at this
theorem Table.kept {w w' : World} (h : Table w) (k : Kept w w' none) : Table w' := fun i hi =>
 (World.cell?_of_block (w := w) (a := ⟨0, i, none⟩) (k.block 0 h.lt (by simp))).trans (h i hi)
theorem Table.drewN {w : World} (h : Table w) (m : Nat) : Table (w.drewN m) := h
theorem low4 (r : Nat) (h : r < 4294967296) : bits .and .u32 (r : Int) 15 = ((r % 16 : Nat) : Int) := by
 have e := u32_and_nat r 15 h (by omega); rw [nat_mask4] at e; exact e
theorem half_xor (r : Nat) (h : r < 4294967296) : bits .xor .u32 ((r / 16 : Nat) : Int) ((st4 (r % 16) : Nat) : Int) = ((st4 r : Nat) : Int) := by
 rw [u32_xor_nat _ _ (by omega) (st4_lt (by omega)), st4_half]
theorem turn32 (r : Nat) (h : r < 4294967296) : bits .xor .u32 IntKind.u32.max (r : Int) = ((4294967295 ^^^ r : Nat) : Int) := by
 have e : IntKind.u32.max = ((4294967295 : Nat) : Int) := by decide
 rw [e, u32_xor_nat _ _ (by omega) h]
theorem sum_main {b off len c : Nat} {L : List Nat} {w : World} (hB : By w (some ⟨b, off, none⟩) len L) (hp : 0 < len) (ht : Table w) :
 Calls Tryz.prog 62 #[.slice (some ⟨b, off, none⟩) len c] w fun e w' => e = .returned (.int .u32 ((sumB L : Nat) : Int)) /\ ∃ m, w' = w.drewN m := by
 obtain ⟨b', off', e, hb, hcell⟩ := hB.at_ hp; injection e with e; injection e with e1 e2; subst e1 e2; have HL : Hid (L.length = len) := hB.size; have HG : Hid (∀ i, L.getD i 0 < 256) := hB.getD; have HX : Hid (∀ x ∈ L, x < 256) := hB.lt; have HC : Hid (∀ i, i < len -> w.cell? ⟨b, off + i, none⟩ = some (.int .u8 ((L.getD i 0 : Nat) : Int))) := hcell; have HT : Hid (Table w) := ht; have hl2 := hB.max; clear hB hcell ht; go_enter Tryz.func62, Tryz.ntmps62; go_wp2; go_loopw [3, 8] (fun r i wr => ∃ k : Nat, k <= len /\ r = .int .u32 ((crc (L.take k) : Nat) : Int) /\ i = .int .i64 k /\ ∃ m, wr = w.drewN m) (fun _ i _ => len - (intOf i).toNat)
 case atStart => exact ⟨0, Nat.zero_le _, by simp [crc], rfl, 0, rfl⟩
 case round =>
  obtain ⟨k, hk, rfl, rfl, m, rfl⟩ := hrel; have hr := crc_lt (L.take k) (fun x hx => HX.out x (List.mem_of_mem_take hx)); by_cases hlt : k < len
  . have hcell := HC.out k hlt; have hx := HG.out k; have HN : Hid (crc (L.take (k + 1)) = up (crc (L.take k)) (L.getD k 0)) := crc_take L k (by rw [HL.out]; exact hlt); generalize L.getD k 0 = x at *; generalize crc (L.take k) = r at *; have hxor := u32_xor_nat r x hr (by omega); have hA := xor32 hr (show x < 4294967296 by omega); have HU : Hid (up r x = st4 (st4 (r ^^^ x))) := rfl; generalize r ^^^ x = A at *; have hB := st4_lt hA; have h1 := low4 A hA; have h2 := half_xor A hA; have hc1 := HT.out (A % 16) (by omega); rw [halfs_st4 _ (by omega)] at hc1; have hD := st4_lt hB; have h3 := low4 (st4 A) hB; have h4 := half_xor (st4 A) hB; have hc2 := HT.out (st4 A % 16) (by omega); rw [halfs_st4 _ (by omega)] at hc2; generalize st4 (st4 A) = D at *; generalize st4 (st4 A % 16) = S2 at *; generalize st4 (A % 16) = S1 at *; generalize st4 A = B at *; have e1 : ((A / 16 : Nat) : Int) = (A : Int) / 16 := by omega
    have e2 : ((B / 16 : Nat) : Int) = (B : Int) / 16 := by omega
    rw [e1] at h2; rw [e2] at h4; clear e1 e2; have a1 : A % 16 < 16 := by omega
    have a2 : B % 16 < 16 := by omega
    generalize A % 16 = P1 at *; generalize B % 16 = P2 at *; go_wp2; go_roundw
    case rel => exact ⟨k + 1, by omega, by rw [HN.out, HU.out], by go_num, _, rfl⟩
    case measure => simp [intOf]; omega
  . have hkq : k = len := by omega
    subst hkq; rw [List.take_of_length_le (by rw [HL.out]; exact Nat.le_refl _)] at hr ⊢; have hs := turn32 (crc L) hr; have HS : Hid (4294967295 ^^^ crc L = sumB L) := rfl; rw [HS.out] at hs; go_wp2; go_ret; exact ⟨rfl, m, rfl⟩
theorem sum_empty {a : Option Addr} (c : Nat) (w : World) :
 Calls Tryz.prog 62 #[.slice a 0 c] w fun e w' => e = .returned (.int .u32 0) /\ ∃ m, w' = w.drewN m := by
 have hs : bits .xor .u32 IntKind.u32.max 4294967295 = 0 := by decide +kernel
 go_enter Tryz.func62, Tryz.ntmps62; go_wp2; go_loopw [3, 8] (fun r i wr => r = .int .u32 4294967295 /\ i = .int .i64 0 /\ ∃ m, wr = w.drewN m) (fun _ _ _ => 0)
 case atStart => exact ⟨rfl, rfl, 0, rfl⟩
 case round =>
  obtain ⟨rfl, rfl, m, rfl⟩ := hrel; go_wp2; go_ret; exact ⟨rfl, m, rfl⟩
theorem sum_any {a : Option Addr} {len c : Nat} {L : List Nat} {w : World} (hB : By w a len L) (ht : Table w) :
 Calls Tryz.prog 62 #[.slice a len c] w fun e w' => e = .returned (.int .u32 ((sumB L : Nat) : Int)) /\ ∃ m, w' = w.drewN m := by
 by_cases h : 0 < len
 . obtain ⟨b, off, rfl, _, _⟩ := hB.at_ h; exact sum_main hB h ht
 . have e0 : len = 0 := by omega
   subst e0; have e1 : L = [] := List.length_eq_zero_iff.1 hB.size; subst e1; exact sum_empty c w
abbrev laid2 : List (String × DataW Unit) := [("math/bits.deBruijn32tab", Rows.laid_math_bits_deBruijn32tab), ("stopline/raw.halfSums", Rows.laid_stopline_raw_halfSums)]
theorem gTabb : Tryz.prog.globalNamed "math/bits.deBruijn32tab" = some 1 := by kernel_rfl
theorem tTabb : (Tryz.prog.globals[1]?).map (·.type) = some 179 := by kernel_rfl
theorem uTabb : Tryz.prog.underlying 179 = some (.array 32 5) := by kernel_rfl
theorem uByte : Tryz.prog.underlying 5 = some (.int .u8) := by kernel_rfl
theorem cByte : Tryz.prog.cellsOf 5 = 1 := by kernel_rfl
theorem cTabb : Tryz.prog.cellsOf 179 = 32 := by kernel_rfl
theorem gTab : Tryz.prog.globalNamed "stopline/raw.halfSums" = some 0 := by kernel_rfl
theorem tTab : (Tryz.prog.globals[0]?).map (·.type) = some 136 := by kernel_rfl
theorem uTab : Tryz.prog.underlying 136 = some (.array 16 91) := by kernel_rfl
theorem uWord : Tryz.prog.underlying 91 = some (.int .u32) := by kernel_rfl
theorem cWord : Tryz.prog.cellsOf 91 = 1 := by kernel_rfl
theorem cTab : Tryz.prog.cellsOf 136 = 16 := by kernel_rfl
theorem of_laid2 {W : World} (h : laidMetH Tryz.prog laid2 W) : Tabb W /\ Table W := by
 rw [MakeChecks.laidMetH_plain _ _ _ (by kernel_rfl)] at h; have h1 : laidMet Tryz.prog (("math/bits.deBruijn32tab", tabData .u8 deB) :: []) W := h.filter (fun x => x.1 == "math/bits.deBruijn32tab"); have h2 : laidMet Tryz.prog (("stopline/raw.halfSums", tabData .u32 halfs) :: []) W := h.filter (fun x => x.1 == "stopline/raw.halfSums"); have hT := tabIs_of_head gTabb tTabb uTabb uByte cByte cTabb h1; have hT2 := tabIs_of_head gTab tTab uTab uWord cWord cTab h2; exact ⟨fun i hi => hT.cell gTabb i hi, fun i hi => hT2.cell gTab i hi⟩
theorem door_laid2 (os : Os) (args : Array Value) : laidMetH Tryz.prog laid2 ((World.doorLaid Tryz.prog 400 os).forCall (fun _ _ => 0) ⟨#[], args, []⟩).memory :=
 laidMetH_of_parts3 (fuel := 8) (laidMet_of_run' 8 (by kernel_rfl) (by kernel_rfl)) (by kernel_rfl) (by kernel_rfl)
theorem Tryz.info5 : (Tryz.prog.info? 5).map (fun i => (i.zero, i.size, i.bytes)) = some (some (.int .u8 0), 1, 1) := by kernel_rfl
theorem put_step {w : World} {g q k : Nat} {l : List Nat} (h : w.rowIs g 5 q (fun j => .int .u8 ((if j < k then l.getD j 0 else 0 : Nat) : Int))) :
 (w.setCell ⟨g, k, none⟩ (.int .u8 ((l.getD k 0 : Nat) : Int))).rowIs g 5 q (fun j => .int .u8 ((if j < k + 1 then l.getD j 0 else 0 : Nat) : Int)) := by
 refine World.rowIs.congr (World.rowIs.set h k _) (fun i hi => ?_); by_cases a : i = k
 . subst a; rw [if_pos rfl, if_pos (by omega)]
 . rw [if_neg a]; by_cases c : i < k
   . rw [if_pos c, if_pos (by omega)]
   . rw [if_neg c, if_neg (by omega)]
theorem pow_byte (n i : Nat) : ((n : Int) / 2 ^ (8 * i)) = ((n / 256 ^ i : Nat) : Int) := by
 have : (256 : Nat) ^ i = 2 ^ (8 * i) := by rw [Nat.pow_mul]
 rw [this]; simp
theorem put_yes (n q : Nat) (w : World) (h1 : 1 <= q) (h2 : q <= 8) (hn : n < 18446744073709551616) (h : n / 256 ^ q = 0) :
 Calls Tryz.prog 61 #[.int .u64 n, .int .i64 q] w fun e w' => e = .returned (.tuple #[.slice (some ⟨w.heap.size, 0, none⟩) q q, .int .i64 0]) /\ By w' (some ⟨w.heap.size, 0, none⟩) q (leb q n) /\ Kept w w' none /\ w'.heap.size = w.heap.size + 1 := by
 have hne : (((n : Int) / 2 ^ (8 * q)) != 0) = false := by rw [pow_byte, h]; rfl
 clear h; have hmk := run_make_row' (P := Tryz.prog) 27 5 (.int .u8 0) 1 Tryz.uB Tryz.info5 rfl .i64 .i64 q (by omega) (by omega); go_enter Tryz.func61, Tryz.ntmps61; go_wp2; clear hmk hne; go_loopw [25] (fun i wr => ∃ k : Nat, k <= q /\ i = .int .i64 k /\ wr.rowIs w.heap.size 5 q (fun j => .int .u8 ((if j < k then (leb q n).getD j 0 else 0 : Nat) : Int)) /\ Kept w wr none /\ wr.heap.size = w.heap.size + 1) (fun i _ => q - (intOf i).toNat)
 case atStart => exact ⟨0, Nat.zero_le _, rfl, World.rowIs.congr (World.rowIs_made _ _ _ _) (fun i hi => by simp), Kept.alloc _ _ _ _ _, by simp⟩
 case round =>
  obtain ⟨k, hk, rfl, hrow, hkept, hsz⟩ := hrel; by_cases hlt : k < q
  . have hcell := hrow.cell hlt; have hfz := hrow.frozen k; have hv : ((n : Int) / 2 ^ (8 * k)) % 256 = (((leb q n).getD k 0 : Nat) : Int) := by rw [pow_byte, leb_getD q n k hlt]; simp
    go_wp2; go_roundw
    case rel => exact ⟨k + 1, by omega, by go_num, by first | exact put_step hrow | (rw [<- hv]; exact put_step hrow) | (rw [hv]; exact put_step hrow), hkept.setNew (Nat.le_refl _) _, by simpa [World.setCell] using hsz⟩
    case measure => simp [intOf]; omega
  . have hkq : k = q := by omega
    subst hkq; go_wp2; go_ret2; exact ⟨rfl, By.row hrow _ k (Nat.le_refl _) (leb_length _ _) (by omega) (leb_lt _ _) (fun i hi => by rw [if_pos hi]), hkept, hsz⟩
abbrev Own (w : World) (base g n cap : Nat) (L : List Nat) : Prop := w.ownsRow base 5 1 (.slice (some ⟨g, 0, none⟩) n cap) n (L.map byteV)
theorem Own.by {w : World} {base g n cap : Nat} {L : List Nat} (h : Own w base g n cap L) (hn : n <= 9223372036854775807) (hb : ∀ x ∈ L, x < 256) : By w (some ⟨g, 0, none⟩) n L := by
 have hl : L.length = n := by have := h.1; simpa using this
 refine ⟨hl, hn, hb, fun hp => ⟨g, 0, rfl, (h.lt g rfl).2, fun i hi => ?_⟩⟩; have := h.cellAt i (by omega); rw [Nat.zero_add]; rw [this]; have hi' : i < L.length := by omega
 simp [hi']
theorem own_snoc {w : World} {base g n cap : Nat} {L : List Nat} {x : Nat} (hn : n = L.length) (h : w.ownsRow base 5 1 (.slice (some ⟨g, 0, none⟩) (n + 1) cap) (n + 1) (L.map byteV ++ [.int .u8 (x : Int)])) : Own w base g (L ++ [x]).length cap (L ++ [x]) := by
 subst hn; unfold Own; rw [List.length_append, List.map_append]; exact h
theorem or128 : ∀ x, x < 256 -> x ||| 128 = x % 128 + 128 := by decide +kernel
theorem byte_or (n : Nat) : bits .or .u8 ((n : Int) % 256) 128 = ((n % 128 + 128 : Nat) : Int) := by
 have h := u8_or_nat (n % 256) 128 (by omega) (by omega); rw [or128 _ (by omega)] at h; have e : ((n : Int) % 256) = ((n % 256 : Nat) : Int) := by omega
 rw [e]; refine Eq.trans h ?_; omega
theorem small_any (n : Nat) (w : World) (hn : n < 18446744073709551616) :
 Calls Tryz.prog 63 #[.int .u64 n] w fun e w' => e = .returned (.slice (some ⟨w.heap.size, 0, none⟩) (sml n).length 10) /\ Own w' w.heap.size w.heap.size (sml n).length 10 (sml n) /\ Kept w w' none := by
 obtain ⟨i0, hi0, hz0, hz1, hz2⟩ := info_parts Tryz.info5; obtain ⟨w1, hmk, hown, hg⟩ := run_make_own (P := Tryz.prog) w w.heap.size 27 5 i0 _ 1 Tryz.uB hi0 hz0 hz1 .i64 .i64 10 (by omega) (by unfold maxLen; omega) (Nat.le_refl _); rw [show ((10 : Nat) : Int) = 10 from rfl] at hmk; have hl10 := sml_len10 n hn; go_enter Tryz.func63, Tryz.ntmps63; go_wp2; clear hmk; go_loopw [0, 3] (fun nv lv wr => ∃ (cur : Nat) (pre : List Nat), nv = .int .u64 cur /\ lv = .slice (some ⟨w.heap.size, 0, none⟩) pre.length 10 /\ pre ++ sml cur = sml n /\ cur < 18446744073709551616 /\ Own wr w.heap.size w.heap.size pre.length 10 pre /\ Kept w wr none) (fun nv _ _ => (intOf nv).toNat)
 case atStart => exact ⟨n, [], rfl, rfl, rfl, hn, hown, hg⟩
 case round =>
  obtain ⟨cur, pre, rfl, rfl, he, hc, ho, hk⟩ := hrel; have hpl : pre.length + (sml cur).length = (sml n).length := by rw [<- he]; simp
  have hp := sml_pos cur; by_cases hlt : 128 <= cur
  . have hor := byte_or cur; have HE : Hid (pre ++ sml cur = sml n) := he; have hroom : pre.length + 1 <= 10 := by omega
    clear he hpl; go_wp2_with (at_builtin; refine wpList_append_own_spare _ (by rfl) _ _ 27 (by rfl) w.heap.size 5 i0 1 Tryz.uB hi0 hz1 w.heap.size pre.length 10 (pre.map byteV) (by rfl) (ho.alloc _) ⟨wr.heap.size, 0, none⟩ 1 1 [.int .u8 ((cur % 128 + 128 : Nat) : Int)] (by rfl) (by rfl) (World.news_of_block (cs := #[.int .u8 ((cur % 128 + 128 : Nat) : Int)]) (t := 5) (fr := (0, 0)) (heap_alloc_new wr _)) (by simp [Value.oneCell']) hroom ?_; intro w2 hown2 hg2); go_roundw
    case rel => exact ⟨cur / 128, pre ++ [cur % 128 + 128], by go_num, by simp, by rw [List.append_assoc, List.singleton_append, <- sml_hi hlt]; exact HE.out, by omega, own_snoc rfl hown2, (hk.tr (Kept.alloc _ _ _ _ _)).newRow hg2 (fun i h => by cases h; exact Nat.le_refl _)⟩
    case measure => simp [intOf]; omega
  . rw [sml_lo (by omega)] at he; have hroom : pre.length + 1 <= 10 := by rw [sml_lo (by omega)] at hpl; simp at hpl; omega
    have HE : Hid (pre ++ [cur] = sml n) := he; clear he hpl; go_wp2_with (at_builtin; refine wpList_append_own_spare _ (by rfl) _ _ 27 (by rfl) w.heap.size 5 i0 1 Tryz.uB hi0 hz1 w.heap.size pre.length 10 (pre.map byteV) (by rfl) (ho.alloc _) ⟨wr.heap.size, 0, none⟩ 1 1 [.int .u8 (cur : Int)] (by rfl) (by rfl) (World.news_of_block (cs := #[.int .u8 (cur : Int)]) (t := 5) (fr := (0, 0)) (heap_alloc_new wr _)) (by simp [Value.oneCell']) hroom ?_; intro w2 hown2 hg2); go_ret; have e : (sml n).length = pre.length + 1 := by rw [<- HE.out]; simp
    refine ⟨by rw [e]; rfl, ?_, (hk.tr (Kept.alloc _ _ _ _ _)).newRow hg2 (fun i h => by cases h; exact Nat.le_refl _)⟩; rw [<- HE.out]; exact own_snoc rfl hown2
end
end Go.Proofs.YtakilpnbjihibaaGreatDoor
