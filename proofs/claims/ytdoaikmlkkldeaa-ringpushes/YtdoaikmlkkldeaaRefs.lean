/-
  THE CONTRACTS of the document's answer (package stoplineref02): New, Last, At, Same, Sum over plain data.
-/
import Derived.Test.YtdoaikmlkkldeaaRingC
import Derived.Test.YtdoaikmlkkldeaaSlices
import Derived.OwnWalk
namespace Go.Proofs.Ytdoaikmlkkldeaa
open Go.RowKit Go.Lib Go.Deep
set_option linter.unusedVariables false
set_option linter.unusedSimpArgs false

/-- q numbers f lie where a slice's address leads. -/
def Rd (w : World) (a : Option Addr) (q : Nat) (f : Nat → Int) : Prop :=
  0 < q → ∃ b o, a = some ⟨b, o, none⟩ ∧ b < w.heap.size ∧ ∀ i, i < q → w.cell? ⟨b, o + i, none⟩ = some (.int .i64 (f i))
theorem Rd.kept {w w' : World} {a : Option Addr} {q : Nat} {f : Nat → Int} {r : Option Nat} (h : Rd w a q f) (k : Kept w w' r) (hr : ∀ b o, a = some ⟨b, o, none⟩ → some b ≠ r) : Rd w' a q f := by
  intro hq
  obtain ⟨b, o, rfl, hb, hc⟩ := h hq
  exact ⟨b, o, rfl, Nat.lt_of_lt_of_le hb k.size, fun i hi => (World.cell?_of_block (w := w) (k.block b hb (hr b o rfl))).trans (hc i hi)⟩
theorem Rd.keptN {w w' : World} {a : Option Addr} {q : Nat} {f : Nat → Int} (h : Rd w a q f) (k : Kept w w' none) : Rd w' a q f := h.kept k (fun _ _ _ => by simp)

/-- The slice of a ring of the document: nil where nothing was pushed, else a row. -/
def Src (w : World) (a : Option Addr) (c : Nat) (L : List Int) : Prop :=
  c ≤ 9223372036854775807 ∧ ((L = [] ∧ a = none ∧ c = 0) ∨
  ∃ g, a = some ⟨g, 0, none⟩ ∧ 0 < L.length ∧ L.length ≤ c ∧ g < w.heap.size ∧ ∀ i, i < L.length → w.cell? ⟨g, i, none⟩ = some (.int .i64 (L.getD i 0)))
theorem Src.kept {w w' : World} {a : Option Addr} {c : Nat} {L : List Int} {r : Option Nat} (h : Src w a c L) (k : Kept w w' r) (hr : ∀ b, a = some ⟨b, 0, none⟩ → some b ≠ r) : Src w' a c L := by
  obtain ⟨h0, h⟩ := h
  refine ⟨h0, ?_⟩
  rcases h with h | ⟨g, rfl, h1, h2, hg, hc⟩
  · exact .inl h
  · exact .inr ⟨g, rfl, h1, h2, Nat.lt_of_lt_of_le hg k.size, fun i hi => (World.cell?_of_block (w := w) (k.block g hg (hr g rfl))).trans (hc i hi)⟩
theorem Src.keptN {w w' : World} {a : Option Addr} {c : Nat} {L : List Int} (h : Src w a c L) (k : Kept w w' none) : Src w' a c L := h.kept k (fun _ _ => by simp)

theorem rnew_yes (n : Int) (w : World) (h1 : 1 ≤ n) (h2 : n ≤ 1024) :
    Calls Try.prog 7 #[.int .i64 n] w fun e w' => e = .returned (.tuple #[.agg #[.int .i64 n, .slice none 0 0], .int .i64 0]) ∧ w'.heap.size = w.heap.size + 1 ∧ Kept w w' none := by
  go_enter Try.func7, Try.ntmps7
  go_wp2
  exact bodyPost_ret (v := .tuple #[.agg #[.int .i64 n, .slice none 0 0], .int .i64 0]) (by simp [results, Try.results7, go_sem]) rfl ⟨rfl, by simp, Kept.alloc _ _ _ _⟩
theorem rnew_no (n : Int) (w : World) (h : n < 1 ∨ 1024 < n) :
    Calls Try.prog 7 #[.int .i64 n] w fun e w' => e = .returned (.tuple #[.agg #[.int .i64 0, .slice none 0 0], .int .i64 2]) ∧ w'.heap.size = w.heap.size + 1 ∧ Kept w w' none := by
  rcases h with h | h
  all_goals
    go_enter Try.func7, Try.ntmps7
    go_wp2
    exact bodyPost_ret (v := .tuple #[.agg #[.int .i64 0, .slice none 0 0], .int .i64 2]) (by simp [results, Try.results7, go_sem]) rfl ⟨rfl, by simp, Kept.alloc _ _ _ _⟩

theorem rlast_nil (n : Nat) (w : World) (h1 : 1 ≤ n) (h2 : n ≤ 1024) :
    Calls Try.prog 13 #[.agg #[.int .i64 n, .slice none 0 0]] w fun e w' => e = .returned (.slice none 0 0) ∧ w'.heap.size = w.heap.size + 1 ∧ Kept w w' none := by
  go_enter Try.func13, Try.ntmps13
  go_wp2
  go_ret
  exact ⟨rfl, by simp, Kept.alloc _ _ _ _⟩
theorem rlast_core (n g k cap q : Nat) (w : World) (h1 : 1 ≤ n) (h2 : n ≤ 1024) (h3 : 0 < k) (h4 : k ≤ 200) (h5 : k ≤ cap) (h6 : cap ≤ 9223372036854775807) (hq : q = min k n) :
    Calls Try.prog 13 #[.agg #[.int .i64 n, .slice (some ⟨g, 0, none⟩) k cap]] w fun e w' => e = .returned (.slice (some ⟨g, k - q, none⟩) q (cap - (k - q))) ∧ w'.heap.size = w.heap.size + 1 ∧ Kept w w' none := by
  by_cases hkn : n < k
  · obtain rfl : q = n := by omega
    clear hq
    have e : k - (k - q) = q := by omega
    go_enter Try.func13, Try.ntmps13
    go_wp2
    go_ret
    exact ⟨rfl, by simp, Kept.alloc _ _ _ _⟩
  · obtain rfl : q = k := by omega
    clear hq
    have e0 : q - q = 0 := by omega
    rw [e0]
    go_enter Try.func13, Try.ntmps13
    go_wp2
    go_ret
    exact ⟨rfl, by simp, Kept.alloc _ _ _ _⟩
/-- The numbers that a ring of the document has. -/
theorem rlast_src {a : Option Addr} {c N : Nat} {L : List Int} {w : World} (h : Src w a c L) (h1 : 1 ≤ N) (h2 : N ≤ 1024) (h4 : L.length ≤ 200) (k q : Nat) (hk : k = L.length) (hq : q = min L.length N) :
    Calls Try.prog 13 #[.agg #[.int .i64 N, .slice a k c]] w fun e w' => ∃ a' c', e = .returned (.slice a' q c') ∧ Rd w' a' q (fun i => (lastN N L).getD i 0) ∧ w'.heap.size = w.heap.size + 1 ∧ Kept w w' none := by
  subst hk
  obtain ⟨h0, ⟨rfl, rfl, rfl⟩ | ⟨g, rfl, hp, hc, hg, hcell⟩⟩ := h
  · obtain rfl : q = 0 := by simpa using hq
    refine (rlast_nil N w h1 h2).mono ?_
    rintro e w' ⟨rfl, hs, hk⟩
    exact ⟨none, 0, rfl, fun h => by omega, hs, hk⟩
  · refine (rlast_core N g L.length c q w h1 h2 hp h4 hc h0 hq).mono ?_
    rintro e w' ⟨rfl, hs, hk⟩
    refine ⟨_, _, rfl, fun _ => ⟨g, _, rfl, by omega, fun i hi => ?_⟩, hs, hk⟩
    show w'.cell? _ = some (.int .i64 ((lastN N L).getD i 0))
    rw [lastN_getD N L i (by omega), ← hq, ← hcell _ (by omega)]
    exact World.cell?_of_block (w := w) (hk.block g hg (by simp))

theorem rat_yes {a : Option Addr} {c N : Nat} {L : List Int} {w : World} (h : Src w a c L) (h1 : 1 ≤ N) (h2 : N ≤ 1024) (h4 : L.length ≤ 200) (k : Nat) (hk : k = L.length) (j : Nat) (i : Int) (e : i = (j : Int)) (hj : j < min L.length N) :
    Calls Try.prog 9 #[.agg #[.int .i64 N, .slice a k c], .int .i64 i] w fun e w' => e = .returned (.tuple #[.int .i64 (L.getD (L.length - 1 - j) 0), .int .i64 0]) ∧ w'.heap.size = w.heap.size + 2 ∧ Kept w w' none := by
  subst e
  obtain ⟨q, hq⟩ : ∃ q, q = min L.length N := ⟨_, rfl⟩
  have hjq : j < q := by omega
  have hq2 : q ≤ 200 := by omega
  have HQ : Hid (q = min L.length N) := hq
  have HK : Hid (k = L.length) := hk
  have HB : Hid ((lastN N L).getD (q - 1 - j) 0 = L.getD (L.length - 1 - j) 0) := by
    have := lastN_back N L (q - 1 - j) (by omega)
    rw [← hq] at this
    show _ = _
    rw [← this]; congr 1; omega
  clear hq hj hk
  have hA := h.keptN (Kept.alloc w #[.int .i64 N, .slice a k c] 28 none)
  go_enter Try.func9, Try.ntmps9
  go_wp2_with (go_at_call 13; refine (rlast_src hA h1 h2 h4 k q HK.out HQ.out).mono ?_; rintro e w' ⟨a', c', rfl, hrd, hs, hkp⟩; obtain ⟨b, o, rfl, hb, hc⟩ := hrd (by omega); have hx : w'.cell? ⟨b, o + (q - 1 - j), none⟩ = some (.int .i64 (L.getD (L.length - 1 - j) 0)) := by rw [← HB.out]; exact hc (q - 1 - j) (by omega))
  go_ret2
  exact ⟨rfl, by rw [hs]; simp, (Kept.alloc _ _ _ _).trans hkp⟩
theorem rat_no {a : Option Addr} {c N : Nat} {L : List Int} {w : World} (h : Src w a c L) (h1 : 1 ≤ N) (h2 : N ≤ 1024) (h4 : L.length ≤ 200) (k : Nat) (hk : k = L.length) (i : Int) (hi : i < 0 ∨ ((min L.length N : Nat) : Int) ≤ i) :
    Calls Try.prog 9 #[.agg #[.int .i64 N, .slice a k c], .int .i64 i] w fun e w' => e = .returned (.tuple #[.int .i64 0, .int .i64 2]) ∧ w'.heap.size = w.heap.size + 2 ∧ Kept w w' none := by
  obtain ⟨q, hq⟩ : ∃ q, q = min L.length N := ⟨_, rfl⟩
  have hq2 : q ≤ 200 := by omega
  rw [← hq] at hi
  have HQ : Hid (q = min L.length N) := hq
  have HK : Hid (k = L.length) := hk
  clear hq hk
  have hA := h.keptN (Kept.alloc w #[.int .i64 N, .slice a k c] 28 none)
  rcases hi with hi | hi
  all_goals
    go_enter Try.func9, Try.ntmps9
    go_wp2_with (go_at_call 13; refine (rlast_src hA h1 h2 h4 k q HK.out HQ.out).mono ?_; rintro e w' ⟨a', c', rfl, hrd, hs, hkp⟩)
    go_ret2
    exact ⟨rfl, by rw [hs]; simp, (Kept.alloc _ _ _ _).trans hkp⟩

/-- Two lists of the same numbers are the same. -/
theorem same_yes {a a' : Option Addr} {q c c' : Nat} {f : Nat → Int} {w : World} (h1 : Rd w a q f) (h2 : Rd w a' q f) (hq : q ≤ 1024) :
    Calls Try.prog 12 #[.slice a q c, .slice a' q c'] w fun e w' => e = .returned (.bool true) ∧ ∃ m, w' = w.drewN m := by
  have H1 : Hid (Rd w a q f) := h1
  have H2 : Hid (Rd w a' q f) := h2
  clear h1 h2
  go_enter Try.func12, Try.ntmps12
  go_wp2
  go_loopw [5] (fun i wr => ∃ k : Nat, k ≤ q ∧ i = .int .i64 k ∧ ∃ m, wr = w.drewN m) (fun i _ => q - (intOf i).toNat)
  case atStart => exact ⟨0, Nat.zero_le _, rfl, 0, rfl⟩
  case round =>
    obtain ⟨k, hk, rfl, m, rfl⟩ := hrel
    by_cases hlt : k < q
    · obtain ⟨b, o, rfl, _, hc⟩ := H1.out (by omega)
      obtain ⟨b', o', rfl, _, hc'⟩ := H2.out (by omega)
      have hx := hc k hlt
      have hx' := hc' k hlt
      obtain ⟨x, hxe⟩ : ∃ x, x = f k := ⟨_, rfl⟩
      rw [← hxe] at hx hx'
      have hne : (x != x) = false := by simp
      clear hc hc' hxe
      go_wp2
      go_quiet (fail)
      go_wp2
      go_roundw
      case rel => exact ⟨k + 1, by omega, by go_num, _, rfl⟩
      case measure => simp [intOf]; omega
    · go_wp2
      go_ret
      exact ⟨rfl, _, rfl⟩

end Go.Proofs.Ytdoaikmlkkldeaa
