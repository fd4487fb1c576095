/-
  THE WALK of RingLast.
-/
import Derived.Test.YtdoaikmlkkldeaaAlive
import Derived.Test.YtdoaikmlkkldeaaSlices
namespace Go.Proofs.Ytdoaikmlkkldeaa
open Go.RowKit Go.Lib Go.Deep
set_option linter.unusedVariables false
set_option linter.unusedSimpArgs false

theorem last_long (n : Int) (a : Option Addr) (len cap : Nat) (w : World) (h : 400 < len) (h2 : len ≤ 9223372036854775807) :
    Calls Try.prog 4 #[.int .i64 n, .slice a len cap] w fun e w' => e = .returned (.bool true) ∧ Below w.heap.size w w' := by
  go_enter Try.func4, Try.ntmps4
  go_wp2_with (go_at_call 18; refine (alive_any _).mono ?_; rintro e w1 ⟨rfl, ho, hs⟩)
  go_ret
  exact ⟨rfl, ho.below⟩

theorem last_bad (n : Int) (a : Option Addr) (len cap : Nat) (w : World) (h : len ≤ 400) (hn : n < 1 ∨ 1024 < n) :
    Calls Try.prog 4 #[.int .i64 n, .slice a len cap] w fun e w' => e = .returned (.bool true) ∧ Below w.heap.size w w' := by
  rcases hn with hn | hn
  · go_enter Try.func4, Try.ntmps4
    go_wp2_with (first
      | (go_at_call 18; refine (alive_any _).mono ?_; rintro e w1 ⟨rfl, ho, hs⟩)
      | (go_at_call 6; refine (new_no _ _ (.inl hn)).mono ?_; rintro e w1 ⟨rfl, rfl⟩))
    go_ret
    exact ⟨rfl, ho.below⟩
  · go_enter Try.func4, Try.ntmps4
    go_wp2_with (first
      | (go_at_call 18; refine (alive_any _).mono ?_; rintro e w1 ⟨rfl, ho, hs⟩)
      | (go_at_call 6; refine (new_no _ _ (.inr hn)).mono ?_; rintro e w1 ⟨rfl, rfl⟩))
    go_ret
    exact ⟨rfl, ho.below⟩

set_option maxHeartbeats 1000000 in
theorem last_main (N : Nat) (a : Option Addr) (len cap : Nat) (L : List Int) (w : World) (h : len ≤ 400) (h1 : 1 ≤ N) (h2 : N ≤ 1024) (hg : Given w a len L) :
    Calls Try.prog 4 #[.int .i64 N, .slice a len cap] w fun e w' => e = .returned (.bool true) ∧ Below w.heap.size w w' := by
  obtain ⟨hlen, _, _, hrow⟩ := hg
  have HLen : Hid (L.length = len) := hlen
  have HRow : Hid (0 < len → ∃ b off, a = some ⟨b, off, none⟩ ∧ b < w.heap.size ∧ ∀ i, i < len → w.cell? ⟨b, off + i, none⟩ = some (.int .i64 (L.getD i 0))) := hrow
  clear hlen hrow
  go_enter Try.func4, Try.ntmps4
  go_wp2_with (first
    | (go_at_call 18; refine (alive_any _).mono ?_; rintro e w1 ⟨rfl, ho, hs⟩)
    | (go_at_call 6; refine (new_yes N _ rfl _ h1 h2).mono ?_; rintro e w2 ⟨rfl, hr, hs2, hk⟩; rw [hs] at hr hs2))
  have ho2 := ho.kept hk (by omega) (fun _ h => by cases h)
  clear ho hk hs
  go_loopw [8] (fun i wr => ∃ k : Nat, k ≤ len ∧ i = .int .i64 k ∧ IsRing wr (w.heap.size + 2) N (L.take k) ∧ Old w.heap.size w wr ∧ wr.heap.size = w.heap.size + 3) (fun i _ => len - (intOf i).toNat)
  case atStart => exact ⟨0, Nat.zero_le _, rfl, hr, ho2, hs2⟩
  case round =>
    clear hr hs2 ho2
    obtain ⟨k, hk, rfl, hr, ho, hs⟩ := hrel
    by_cases hlt : k < len
    · obtain ⟨b, off, rfl, hb, hc⟩ := HRow.out (by omega)
      have hcell : wr.cell? ⟨b, off + k, none⟩ = some (.int .i64 (L.getD k 0)) := (ho.below.cell (by exact hb)).trans (hc k hlt)
      have HC : Hid (∀ i, i < len → w.cell? ⟨b, off + i, none⟩ = some (.int .i64 (L.getD i 0))) := hc
      have HT : Hid (L.take (k + 1) = L.take k ++ [L.getD k 0]) := take_snoc L k (by rw [HLen.out]; exact hlt)
      clear hc
      obtain ⟨x, hx⟩ : ∃ x, x = L.getD k 0 := ⟨_, rfl⟩
      rw [← hx] at hcell HT
      clear hx
      go_wp2_with (go_at_call 16; refine (push_ring hr _).mono ?_; rintro e w3 ⟨rfl, hr3, hs3, hk3⟩)
      go_roundw
      case rel => exact ⟨k + 1, by omega, by go_num, by rw [HT.out]; exact hr3, ho.kept hk3 (by omega) (fun i h => by cases h; omega), by omega⟩
      case measure => simp [intOf]; omega
    · have hkl : k = len := by omega
      subst hkl
      rw [List.take_of_length_le (by rw [HLen.out]; exact Nat.le_refl _)] at hr
      clear hk hlt
      by_cases hNl : N ≤ k
      · have HQ : Hid (min L.length N = N) := by have := HLen.out; show _ = _; omega
        go_wp2_with (first
          | (go_at_call 10; refine (all_ring' hr N HQ.out).mono ?_; rintro e w5 ⟨rfl, hrow, hs5, hk5⟩; rw [hs] at hrow hs5; have hr5 := hr.kept hk5 (by simp))
          | (go_at_call 15; refine (full_yes hr5 (by rw [HLen.out]; omega)).mono ?_; rintro e w6 ⟨rfl, m, rfl⟩))
        have ho5 := ho.kept hk5 (by omega) (fun _ h => by cases h)
        clear hr ho hk5
        go_loopw [11] (fun i wr => ∃ j : Nat, j ≤ N ∧ i = .int .i64 j ∧ ∃ m, wr = w5.drewN m) (fun i _ => N - (intOf i).toNat)
        case atStart => exact ⟨0, Nat.zero_le _, rfl, m, rfl⟩
        case round =>
          obtain ⟨j, hj, rfl, m2, rfl⟩ := hrel
          by_cases hjl : j < N
          · obtain ⟨b, off, rfl, hb, hc⟩ := HRow.out (by omega)
            have hx1 : w5.cell? ⟨w.heap.size + 3, j, none⟩ = some (.int .i64 ((lastN N L).getD j 0)) := hrow.cell hjl
            have hx2 : w5.cell? ⟨b, off + (k - N + j), none⟩ = some (.int .i64 ((lastN N L).getD j 0)) := by
              rw [lastN_getD N L j (by rw [HQ.out]; exact hjl), HQ.out, HLen.out, ← hc (k - N + j) (by omega)]
              exact ho5.below.cell hb
            have hr6 : IsRing (w5.drewN m2) (w.heap.size + 2) N L := hr5.kept (Kept.drewN _ _ none) (by simp)
            have HB : Hid (L.getD (L.length - 1 - (N - 1 - j)) 0 = (lastN N L).getD j 0) := by
              have := lastN_back N L j (by rw [HQ.out]; exact hjl)
              rw [HQ.out] at this; exact this
            clear hc
            obtain ⟨x, hx⟩ : ∃ x, x = (lastN N L).getD j 0 := ⟨_, rfl⟩
            rw [← hx] at hx1 hx2 HB
            have hne : (x != x) = false := by simp
            clear hx hrow hr5
            go_wp2_with (go_at_call 8; refine (at_yes hr6 (N - 1 - j) _ (by omega) (by rw [HQ.out]; omega)).mono ?_; rintro e w7 ⟨rfl, m3, rfl⟩; rw [HB.out])
            go_quiet (fail)
            go_wp2
            go_roundw
            case rel => exact ⟨j + 1, by omega, by go_num, _, rfl⟩
            case measure => simp [intOf]; omega
          · go_wp2
            go_ret
            exact ⟨rfl, below_drewN ho5.below _⟩
      · obtain ⟨q, hq⟩ : ∃ q, q = k := ⟨_, rfl⟩
        have hq1 : q ≤ k := by omega
        have hq2 : k ≤ q := by omega
        clear hq
        have HQ : Hid (min L.length N = q) := by have := HLen.out; show _ = _; omega
        go_wp2_with (first
          | (go_at_call 10; refine (all_ring' hr q HQ.out).mono ?_; rintro e w5 ⟨rfl, hrow, hs5, hk5⟩; rw [hs] at hrow hs5; have hr5 := hr.kept hk5 (by simp))
          | (go_at_call 15; refine (full_no hr5 (by rw [HLen.out]; omega)).mono ?_; rintro e w6 ⟨rfl, m, rfl⟩))
        have ho5 := ho.kept hk5 (by omega) (fun _ h => by cases h)
        clear hr ho hk5
        go_loopw [11] (fun i wr => ∃ j : Nat, j ≤ q ∧ i = .int .i64 j ∧ ∃ m, wr = w5.drewN m) (fun i _ => q - (intOf i).toNat)
        case atStart => exact ⟨0, Nat.zero_le _, rfl, m, rfl⟩
        case round =>
          obtain ⟨j, hj, rfl, m2, rfl⟩ := hrel
          by_cases hjl : j < q
          · obtain ⟨b, off, rfl, hb, hc⟩ := HRow.out (by omega)
            have hx1 : w5.cell? ⟨w.heap.size + 3, j, none⟩ = some (.int .i64 ((lastN N L).getD j 0)) := hrow.cell hjl
            have hx2 : w5.cell? ⟨b, off + (k - q + j), none⟩ = some (.int .i64 ((lastN N L).getD j 0)) := by
              rw [lastN_getD N L j (by rw [HQ.out]; exact hjl), HQ.out, HLen.out, ← hc (k - q + j) (by omega)]
              exact ho5.below.cell hb
            have hr6 : IsRing (w5.drewN m2) (w.heap.size + 2) N L := hr5.kept (Kept.drewN _ _ none) (by simp)
            have HB : Hid (L.getD (L.length - 1 - (q - 1 - j)) 0 = (lastN N L).getD j 0) := by
              have := lastN_back N L j (by rw [HQ.out]; exact hjl)
              rw [HQ.out] at this; exact this
            have hx3 : w5.cell? ⟨b, off + j, none⟩ = some (.int .i64 ((lastN N L).getD j 0)) := by rw [← hx2]; congr 2; omega
            clear hc
            obtain ⟨x, hx⟩ : ∃ x, x = (lastN N L).getD j 0 := ⟨_, rfl⟩
            rw [← hx] at hx1 hx2 hx3 HB
            have hne : (x != x) = false := by simp
            clear hx hrow hr5
            go_wp2_with (go_at_call 8; refine (at_yes hr6 (q - 1 - j) _ (by omega) (by rw [HQ.out]; omega)).mono ?_; rintro e w7 ⟨rfl, m3, rfl⟩; rw [HB.out])
            go_quiet (fail)
            go_wp2
            go_roundw
            case rel => exact ⟨j + 1, by omega, by go_num, _, rfl⟩
            case measure => simp [intOf]; omega
          · go_wp2
            go_ret
            exact ⟨rfl, below_drewN ho5.below _⟩

end Go.Proofs.Ytdoaikmlkkldeaa
