/-
  THE CONTRACT of (*Ring).Sum: the exact sum, stopped.
-/
import Derived.Test.YtdoaikmlkkldeaaDoorRingB
import Derived.Laws.Bits64b
namespace Go.Proofs.YtdoaikmlkkldeaaDoor
open Go.RowKit Go.Lib Go.Deep
set_option linter.unusedVariables false
set_option linter.unusedSimpArgs false

/-- The lower half of a word, by a mask: of a number below 0 too. -/
theorem low32 (n : Int) : bits .and .i64 n 4294967295 = n % 4294967296 := by
  have hm : (BitVec.ofInt 64 4294967295).toNat = 2 ^ 32 - 1 := by decide
  have hv : (BitVec.ofInt 64 n &&& BitVec.ofInt 64 4294967295).toNat = (n % ((2 ^ 64 : Nat) : Int)).toNat % 2 ^ 32 := by
    rw [BitVec.toNat_and, hm, Nat.and_two_pow_sub_one_eq_mod, BitVec.toNat_ofInt]
  have hd : bits .and .i64 n 4294967295 = IntKind.i64.wrap (((BitVec.ofInt 64 n &&& BitVec.ofInt 64 4294967295).toNat : Nat) : Int) := rfl
  rw [hd, hv, IntKind.wrap_i64]
  omega

theorem stop_hi (hi lo s : Int) (h : hi * 4294967296 + lo = s) (h1 : 1073741824 ≤ hi + lo / 4294967296) : stopS s = 4611686018427387904 := by
  unfold stopS; rw [if_pos (by omega)]
theorem stop_lo (hi lo s : Int) (h : hi * 4294967296 + lo = s) (h1 : hi + lo / 4294967296 < -1073741824) : stopS s = -4611686018427387904 := by
  unfold stopS; rw [if_neg (by omega), if_pos (by omega)]
theorem stop_id (hi lo s : Int) (h : hi * 4294967296 + lo = s) (h1 : hi + lo / 4294967296 < 1073741824) (h2 : -1073741824 ≤ hi + lo / 4294967296) : stopS s = (hi + lo / 4294967296) * 4294967296 + lo % 4294967296 := by
  unfold stopS; rw [if_neg (by omega), if_neg (by omega)]; omega

/-- Summed from the newest, or from the oldest: the same. -/
theorem lsum_back (N q : Nat) (L : List Int) (hq : q = min L.length N) : sm (fun j => L.getD (L.length - 1 - j) 0) q = lsum (lastN N L) := by
  unfold lsum
  rw [lastN_length, ← hq, ← sm_rev (fun j => (lastN N L).getD j 0) q]
  refine sm_congr q (fun j hj => ?_)
  rw [← lastN_back N L (q - 1 - j) (by omega), ← hq]
  congr 1; omega

set_option maxHeartbeats 400000 in
theorem sum_ring {b N : Nat} {L : List Int} {w : World} (h : IsRing w b N L) (hL : ∀ j, -9223372036854775808 ≤ L.getD j 0 ∧ L.getD j 0 ≤ 9223372036854775807) :
    Calls Tryd.prog 11 #[.pointer (some ⟨b, 0, none⟩)] w fun e w' => e = .returned (.tuple #[.int .i64 (stopS (lsum (lastN N L))), .int .i64 0]) ∧ ∃ m, w' = w.drewN m := by
  have cm := h.cm
  have hN := h.n2
  obtain ⟨q, hq⟩ : ∃ q, q = min L.length N := ⟨_, rfl⟩
  have hq2 : q ≤ 1024 := by omega
  rw [← hq] at cm
  have HQ : Hid (q = min L.length N) := hq
  clear hq hN
  obtain ⟨g, hg⟩ : ∃ g : Nat → Int, g = fun j => L.getD (L.length - 1 - j) 0 := ⟨_, rfl⟩
  have hgb : ∀ j, -9223372036854775808 ≤ g j ∧ g j ≤ 9223372036854775807 := fun j => by rw [hg]; exact hL _
  have HG : Hid (g = fun j => L.getD (L.length - 1 - j) 0) := hg
  have HR : Hid (sm g q = lsum (lastN N L)) := by rw [HG.out]; exact lsum_back N q L HQ.out
  clear hg hL
  have HGB : Hid (∀ j, -9223372036854775808 ≤ g j ∧ g j ≤ 9223372036854775807) := hgb
  clear hgb
  have hand := low32
  go_enter Tryd.func11, Tryd.ntmps11
  go_wp2_with (go_at_call 23; refine (made_ring h).mono ?_; rintro e w ⟨rfl, rfl⟩)
  go_loopw [4, 5, 15] (fun a c i wr => ∃ k : Nat, k ≤ q ∧ i = .int .i64 k ∧ a = .int .i64 (sm (fun j => g j / 4294967296) k) ∧ c = .int .i64 (sm (fun j => g j % 4294967296) k) ∧ ∃ m, wr = w.drewN m) (fun _ _ i _ => q - (intOf i).toNat)
  case atStart => exact ⟨0, Nat.zero_le _, rfl, rfl, rfl, 0, rfl⟩
  case round =>
    obtain ⟨k, hk, rfl, rfl, rfl, m, rfl⟩ := hrel
    have hb1 := sm_bound (fun j => g j / 4294967296) k (-2147483648) 2147483647 (fun j => by have := HGB.out j; omega)
    have hb2 := sm_bound (fun j => g j % 4294967296) k 0 4294967295 (fun j => by omega)
    by_cases hlt : k < q
    · have hx := HGB.out k
      have hring : IsRing (w.drewN m) b N L := h.kept (Kept.drewN _ _ none) (by simp)
      have HB : Hid (L.getD (L.length - 1 - k) 0 = g k) := by rw [HG.out]; rfl
      have HS1 : Hid (sm (fun j => g j / 4294967296) (k + 1) = sm (fun j => g j / 4294967296) k + g k / 4294967296) := sm_succ _ _
      have HS2 : Hid (sm (fun j => g j % 4294967296) (k + 1) = sm (fun j => g j % 4294967296) k + g k % 4294967296) := sm_succ _ _
      obtain ⟨x, hxe⟩ : ∃ x, x = g k := ⟨_, rfl⟩
      obtain ⟨hi, hhi⟩ : ∃ hi, hi = sm (fun j => g j / 4294967296) k := ⟨_, rfl⟩
      obtain ⟨lo, hlo⟩ : ∃ lo, lo = sm (fun j => g j % 4294967296) k := ⟨_, rfl⟩
      rw [← hxe] at HB HS1 HS2 hx
      rw [← hhi] at hb1 HS1 ⊢
      rw [← hlo] at hb2 HS2 ⊢
      clear hxe hhi hlo
      go_wp2_with (go_at_call 24; refine (back_ring hring k _ rfl (by rw [← HQ.out]; omega)).mono ?_; rintro e w' ⟨rfl, m', rfl⟩; rw [HB.out])
      go_roundw
      case rel => 
        refine ⟨k + 1, by omega, by go_num, ?_, ?_, _, rfl⟩
        · rw [HS1.out]
        · rw [HS2.out]
      case measure => simp [intOf]; omega
    · have hkq : k = q := by omega
      subst hkq
      obtain ⟨hi, hhi⟩ : ∃ hi, hi = sm (fun j => g j / 4294967296) k := ⟨_, rfl⟩
      obtain ⟨lo, hlo⟩ : ∃ lo, lo = sm (fun j => g j % 4294967296) k := ⟨_, rfl⟩
      have HV : Hid (hi * 4294967296 + lo = sm g k) := by rw [hhi, hlo]; exact halves g k
      rw [← hhi] at hb1 ⊢
      rw [← hlo] at hb2 ⊢
      clear hhi hlo
      go_wp2
      all_goals go_ret2
      · exact ⟨ret_int2 (by rw [← HR.out]; exact (stop_hi _ _ _ HV.out (by assumption)).symm) rfl, _, rfl⟩
      · exact ⟨ret_int2 (by rw [← HR.out]; exact (stop_lo _ _ _ HV.out (by assumption)).symm) rfl, _, rfl⟩
      · exact ⟨ret_int2 (by rw [← HR.out]; exact (stop_id _ _ _ HV.out (by assumption) (by assumption)).symm) rfl, _, rfl⟩

end Go.Proofs.YtdoaikmlkkldeaaDoor
