/-
  THE WALK of RawShort.
-/
import Derived.Test.YtpngkgfanaebcaaDoorAlive
import Derived.Test.YtpngkgfanaebcaaDoorSmall
namespace Go.Proofs.YtpngkgfanaebcaaDoor
open Go.RowKit Go.Lib Go.Deep
set_option linter.unusedVariables false
set_option linter.unusedSimpArgs false

/-- How many small bytes are left. -/
def leftN (x : Nat) : Nat := if x = 0 then 0 else (sml x).length
theorem left_start (n : Nat) : (sml n).length = 1 + leftN (n / 128) := by
  unfold leftN
  by_cases h : n < 128
  · rw [if_pos (by omega), sml_lo h]; rfl
  · rw [if_neg (by omega), sml_hi (by omega), List.length_cons]; omega
theorem left_step (x : Nat) (h : 0 < x) : leftN x = 1 + leftN (x / 128) := by
  rw [← left_start x]; unfold leftN; rw [if_neg (by omega)]

set_option maxRecDepth 100000 in
set_option maxHeartbeats 1000000 in
theorem short_main (n : Nat) (w : World) (hn : n < 18446744073709551616) (ht : Table w) :
    Calls Tryd.prog 7 #[.int .u64 n] w fun e w' => e = .returned (.bool true) ∧ Below w.heap.size w w' := by
  have HT : Hid (Table w) := ht
  clear ht
  have hl10 := sml_len10 n hn
  have hp := sml_pos n
  go_enter Tryd.func7, Tryd.ntmps7
  go_wp2_with (go_at_call 12; refine (alive_any _ HT.out).mono ?_; rintro e w1 ⟨rfl, hk1⟩)
  go_loopw [4, 5] (fun kv xv wr => ∃ k x : Nat, kv = .int .i64 k ∧ xv = .int .u64 x ∧ (sml n).length = k + leftN x ∧ x < 18446744073709551616 ∧ wr = w1) (fun _ xv _ => (intOf xv).toNat)
  case atStart => exact ⟨1, n / 128, rfl, by simp, left_start n, by omega, rfl⟩
  case round =>
    obtain ⟨k, x, rfl, rfl, he, hx, rfl⟩ := hrel
    have hkb : k ≤ 10 := by omega
    by_cases h0 : 0 < x
    · have HE : Hid ((sml n).length = k + 1 + leftN (x / 128)) := by have := left_step x h0; show _ = _; omega
      clear he
      go_wp2
      go_roundw
      case rel => exact ⟨k + 1, x / 128, by go_num, by go_num, HE.out, by omega, by trivial⟩
      case measure => simp [intOf]; omega
    · have hx0 : x = 0 := by omega
      subst hx0
      have hke : k = (sml n).length := by rw [he]; rfl
      subst hke
      clear he
      obtain ⟨q, hq⟩ : ∃ q, (sml n).length = q + 1 := ⟨(sml n).length - 1, by omega⟩
      have hlast : (sml n).getD q 0 < 128 := by have := (sml_last 9 n (Nat.lt_of_lt_of_le hn (by decide))).1; rw [hq] at this; exact this
      have HS : Hid (∀ w' : World, Own w' wr.heap.size wr.heap.size (sml n).length 10 (sml n) → w'.cell? ⟨wr.heap.size, q, none⟩ = some (.int .u8 (((sml n).getD q 0 : Nat) : Int))) := by
        intro w' hO
        have hB := hO.by (by omega) (sml_lt n)
        obtain ⟨b, off, e, _, hc⟩ := hB.at_ hp
        injection e with e
        injection e with e1 e2
        subst e1 e2
        have := hc q (by omega)
        rwa [Nat.zero_add] at this
      obtain ⟨y, hy⟩ : ∃ y, y = (sml n).getD q 0 := ⟨_, rfl⟩
      rw [← hy] at HS hlast
      clear hy
      go_wp2_with (go_at_call 13; refine (small_any n _ hn).mono ?_; rintro e w2 ⟨rfl, hO, hk2⟩; have hcell := HS.out w2 hO; rw [hq])
      go_ret
      exact ⟨show Ending.returned (.bool (decide ((y : Int) < 128))) = _ from ret_bool (by simp; omega), (hk1.tr hk2).below⟩

end Go.Proofs.YtpngkgfanaebcaaDoor
