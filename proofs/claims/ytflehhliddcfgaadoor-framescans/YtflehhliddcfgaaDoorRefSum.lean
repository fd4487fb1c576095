/-
  THE CONTRACT of the document's sum (stoplineref03.Sum), bit by bit.
-/
import Derived.Test.YtflehhliddcfgaaDoorSum
namespace Go.Proofs.YtflehhliddcfgaaDoor
open Go.RowKit Go.Lib Go.Deep
set_option linter.unusedVariables false
set_option linter.unusedSimpArgs false

/-- k steps. -/
def stN : Nat → Nat → Nat
  | 0, r => r
  | k + 1, r => st (stN k r)
theorem stN_lt (k r : Nat) (h : r < 4294967296) : stN k r < 4294967296 := by
  induction k with
  | zero => exact h
  | succ k ih => exact st_lt ih
theorem stN8 (r : Nat) : stN 8 r = st8 r := rfl
theorem st_odd {r : Nat} (h : r % 2 = 1) : st r = (r / 2) ^^^ 3988292384 := by unfold st; rw [if_pos h]
theorem st_ev {r : Nat} (h : ¬ r % 2 = 1) : st r = r / 2 := by unfold st; rw [if_neg h]

set_option maxRecDepth 100000 in
set_option maxHeartbeats 1000000 in
theorem rsum_any {a : Option Addr} {len c : Nat} {L : List Nat} {w : World} (hB : By w a len L) :
    Calls Tryd.prog 40 #[.slice a len c] w fun e w' => e = .returned (.int .u32 ((sumB L : Nat) : Int)) ∧ ∃ m, w' = w.drewN m := by
  have HL : Hid (L.length = len) := hB.size
  have HG : Hid (∀ i, L.getD i 0 < 256) := hB.getD
  have HX : Hid (∀ x ∈ L, x < 256) := hB.lt
  have HA : Hid (0 < len → ∃ b off, a = some ⟨b, off, none⟩ ∧ b < w.heap.size ∧ ∀ i, i < len → w.cell? ⟨b, off + i, none⟩ = some (.int .u8 ((L.getD i 0 : Nat) : Int))) := hB.at_
  have hl2 := hB.max
  clear hB
  go_enter Tryd.func40, Tryd.ntmps40
  go_wp2
  go_loopw [3, 4] (fun r i wr => ∃ k : Nat, k ≤ len ∧ r = .int .u32 ((crc (L.take k) : Nat) : Int) ∧ i = .int .i64 k ∧ ∃ m, wr = w.drewN m) (fun _ i _ => len - (intOf i).toNat)
  case atStart => exact ⟨0, Nat.zero_le _, by simp [crc], rfl, 0, rfl⟩
  case round =>
    obtain ⟨k, hk, rfl, rfl, m, rfl⟩ := hrel
    have hr := crc_lt (L.take k) (fun x hx => HX.out x (List.mem_of_mem_take hx))
    by_cases hlt : k < len
    · obtain ⟨b, off, rfl, hb, hc⟩ := HA.out (by omega)
      have hcell := hc k hlt
      have hx := HG.out k
      have HN : Hid (crc (L.take (k + 1)) = up (crc (L.take k)) (L.getD k 0)) := crc_take L k (by rw [HL.out]; exact hlt)
      clear hc
      generalize L.getD k 0 = x at *
      generalize crc (L.take k) = r at *
      have hxor := u32_xor_nat r x hr (by omega)
      have hA := xor32 hr (show x < 4294967296 by omega)
      have HU : Hid (up r x = stN 8 (r ^^^ x)) := rfl
      generalize r ^^^ x = A at *
      go_wp2
      go_loopw [3, 5] (fun r i wr => ∃ j : Nat, j ≤ 8 ∧ r = .int .u32 ((stN j A : Nat) : Int) ∧ i = .int .i64 j ∧ ∃ m, wr = w.drewN m) (fun _ i _ => 8 - (intOf i).toNat)
      case atStart => exact ⟨0, Nat.zero_le _, rfl, rfl, m, rfl⟩
      case round =>
        obtain ⟨j, hj, rfl, rfl, m2, rfl⟩ := hrel
        have hsj := stN_lt j A hA
        by_cases hj8 : j < 8
        · by_cases hodd : stN j A % 2 = 1
          · have HS : Hid (stN (j + 1) A = (stN j A / 2) ^^^ 3988292384) := st_odd hodd
            generalize stN j A = s at *
            have hx2 := u32_xor_nat (s / 2) 3988292384 (by omega) (by omega)
            have e1 : ((s / 2 : Nat) : Int) = (s : Int) / 2 := by omega
            rw [e1] at hx2
            have he : (((s : Int) % 2) == 1) = true := by simp; omega
            go_wp2
            go_roundw
            case rel => exact ⟨j + 1, by omega, by rw [HS.out]; exact congrArg (Value.int IntKind.u32) hx2, by go_num, _, rfl⟩
            case measure => simp [intOf]; omega
          · have HS : Hid (stN (j + 1) A = stN j A / 2) := st_ev hodd
            generalize stN j A = s at *
            have he : (((s : Int) % 2) == 1) = false := by simp; omega
            go_wp2
            go_roundw
            case rel => exact ⟨j + 1, by omega, by rw [HS.out]; go_num, by go_num, _, rfl⟩
            case measure => simp [intOf]; omega
        · have hj9 : j = 8 := by omega
          subst hj9
          rw [← HU.out, ← HN.out]
          go_wp2
          go_roundw
          case rel => exact ⟨k + 1, by omega, rfl, by go_num, _, rfl⟩
          case measure => simp [intOf]; omega
    · have hkq : k = len := by omega
      subst hkq
      rw [List.take_of_length_le (by rw [HL.out]; exact Nat.le_refl _)] at hr ⊢
      have hs := turn32 (crc L) hr
      have HS : Hid (4294967295 ^^^ crc L = sumB L) := rfl
      rw [HS.out] at hs
      go_wp2
      go_ret
      exact ⟨rfl, m, rfl⟩

end Go.Proofs.YtflehhliddcfgaaDoor
