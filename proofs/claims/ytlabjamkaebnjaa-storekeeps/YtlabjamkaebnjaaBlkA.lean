/-
  THE CONTRACTS of block's small functions: mayHave, blocksOf, hasBlock, Check, copied, blockOf.
-/
import Derived.Test.YtlabjamkaebnjaaBlkM
namespace Go.Proofs.Ytlabjamkaebnjaa
open Go.RowKit Go.Lib Go.Deep
set_option linter.unusedVariables false
set_option linter.unusedSimpArgs false

abbrev dvC (a : Option Addr) (n c : Nat) : Array Value := #[.slice a n c]
abbrev dvV (a : Option Addr) (n c : Nat) : Value := .agg (dvC a n c)
theorem bmayV_no {n : Int} (h : ¬ (1 ≤ n ∧ n ≤ 64)) : bmayV n = false := by
  unfold bmayV
  by_cases a : 1 ≤ n
  · rw [decide_eq_false (show ¬ n ≤ 64 by omega), Bool.and_false]
  · rw [decide_eq_false a, Bool.false_and]
theorem mayH_any (n : Int) (w : World) : Calls Try.prog 37 #[.int .i64 n] w fun e w' => e = .returned (.bool (bmayV n)) ∧ w' = w := by
  by_cases a : 1 ≤ n
  · by_cases b : n ≤ 64
    · go_enter Try.func37, Try.ntmps37
      go_wp2
      go_ret
      exact ⟨by simp [bmayV, a, b], rfl⟩
    · go_enter Try.func37, Try.ntmps37
      go_wp2
      go_ret
      exact ⟨by rw [bmayV_no (by omega)]; simp, rfl⟩
  · go_enter Try.func37, Try.ntmps37
    go_wp2
    go_ret
    exact ⟨by rw [bmayV_no (by omega)]; simp, rfl⟩
theorem blks_any (a : Option Addr) (n c : Nat) (w : World) (hn : n ≤ 9223372036854775807) : Calls Try.prog 70 #[dvV a n c] w fun e w' => e = .returned (.int .i64 ((n / 64 : Nat) : Int)) ∧ Kept w w' none := by
  go_enter Try.func70, Try.ntmps70
  go_wp2
  go_ret
  exact ⟨by simp, Kept.alloc _ _ _ _ _⟩
theorem bhas_any (a : Option Addr) (n c : Nat) (i : Int) (w : World) (hn : n ≤ 9223372036854775807) : Calls Try.prog 71 #[dvV a n c, .int .i64 i] w fun e w' => e = .returned (.bool (hasV n i)) ∧ Kept w w' none := by
  by_cases h0 : 0 ≤ i
  · go_enter Try.func71, Try.ntmps71
    go_wp2_with (go_at_call 70; refine (blks_any a n c _ hn).mono ?_; rintro e w1 ⟨rfl, hk1⟩)
    go_ret
    exact ⟨by simp [hasV, h0], (Kept.alloc _ _ _ _ _).tr hk1⟩
  · go_enter Try.func71, Try.ntmps71
    go_wp2_with (go_at_call 70; refine (blks_any a n c _ hn).mono ?_; rintro e w1 ⟨rfl, hk1⟩)
    go_ret
    exact ⟨by simp [hasV]; omega, Kept.alloc _ _ _ _ _⟩
theorem chk_bad {m : Nat} (h : ¬ (m % 64 = 0 ∧ 64 ≤ m ∧ m ≤ 4096)) : chkE m = 180 := if_neg h
theorem bchk_any (a : Option Addr) (n c : Nat) (w : World) (hn : n ≤ 9223372036854775807) : Calls Try.prog 69 #[dvV a n c] w fun e w' => e = .returned (.int .i64 (chkE n)) ∧ Kept w w' none := by
  by_cases h : n % 64 = 0
  · by_cases h1 : bmayV ((n : Int) / 64) = true
    · have HV := Hid.mk' h1
      have HE : Hid (chkE n = 0) := Hid.mk' (by unfold chkE; unfold bmayV at h1; simp at h1; rw [if_pos (by omega)])
      clear h1
      go_enter Try.func69, Try.ntmps69
      go_wp2_with (first | (go_at_call 37; refine (mayH_any ((n : Int) / 64) _).mono ?_; rw [HV.out]; rintro e w2 ⟨rfl, rfl⟩) | (go_at_call 70; refine (blks_any a n c _ hn).mono ?_; rintro e w1 ⟨rfl, hk1⟩))
      go_ret
      exact ⟨by rw [HE.out]; simp, (Kept.alloc _ _ _ _ _).tr hk1⟩
    · have HV : Hid (bmayV ((n : Int) / 64) = false) := Hid.mk' (by simpa using h1)
      have HE : Hid (chkE n = 180) := Hid.mk' (chk_bad (fun q => h1 (by unfold bmayV; simp; omega)))
      clear h1
      go_enter Try.func69, Try.ntmps69
      go_wp2_with (first | (go_at_call 37; refine (mayH_any ((n : Int) / 64) _).mono ?_; rw [HV.out]; rintro e w2 ⟨rfl, rfl⟩) | (go_at_call 70; refine (blks_any a n c _ hn).mono ?_; rintro e w1 ⟨rfl, hk1⟩))
      go_ret
      exact ⟨by rw [HE.out]; simp, (Kept.alloc _ _ _ _ _).tr hk1⟩
  · have HE : Hid (chkE n = 180) := Hid.mk' (chk_bad (fun q => h q.1))
    have hq : ¬ (n : Int) % 64 = 0 := by omega
    go_enter Try.func69, Try.ntmps69
    go_wp2_with (fail)
    go_ret
    exact ⟨by rw [HE.out]; simp, Kept.alloc _ _ _ _ _⟩
theorem bcop_any {a : Option Addr} {n c : Nat} {L : List Nat} {w : World} (hB : By w a n L) (hn : n ≤ 10000) : Calls Try.prog 72 #[.slice a n c] w fun e w' => e = .returned (.slice (some ⟨w.heap.size, 0, none⟩) n n) ∧ Row w' w.heap.size L ∧ Kept w w' none := by
  have hmk := run_make_row' (P := Try.prog) 22 5 (.int .u8 0) 1 Try.uB Try.info5 rfl .i64 .i64 n (by omega) (by omega)
  have hK : Kept w (w.alloc (.cells (madeCells #[.int .u8 0] n) 5)) none := Kept.alloc _ _ _ _ _
  have HB := Hid.mk' (hB.kept hK)
  have HR := Hid.mk' (row_made w n)
  have hs := hB.size
  have HE : Hid ((List.replicate n 0).take 0 ++ (L ++ (List.replicate n 0).drop (0 + n)) = L) := Hid.mk' (by simp)
  have HL : Hid (0 + n ≤ (List.replicate n 0).length) := Hid.mk' (by simp)
  clear hs
  go_enter Try.func72, Try.ntmps72
  go_wp2_with (refine wpList_cp (by rfl) _ _ (by rfl) _ _ _ _ _ _ (by rfl) (by rfl) w.heap.size 0 (List.replicate n 0) L HR.out HB.out (Nat.le_refl _) HL.out (fun _ => rfl) ?_; intro w2 hr2 hk2; rw [HE.out] at hr2; replace hr2 := Hid.mk' hr2; replace hk2 := Hid.mk' hk2)
  go_ret
  exact ⟨rfl, hr2.out, hK.newRow hk2.out (fun i e => by cases e; exact Nat.le_refl _)⟩
theorem blk_any {b off n c : Nat} {i : Int} {w : World} (h0 : 0 ≤ i) (h1 : 64 * i + 64 ≤ (n : Int)) (hc : n ≤ c) (hm : c ≤ 9223372036854775807) : Calls Try.prog 73 #[dvV (some ⟨b, off, none⟩) n c, .int .i64 i] w fun e w' => e = .returned (.slice (some ⟨b, off + 64 * i.toNat, none⟩) 64 (c - 64 * i.toNat)) ∧ Kept w w' none := by
  obtain ⟨k, rfl⟩ := Int.eq_ofNat_of_zero_le h0
  have hk : 64 * k + 64 ≤ n := by omega
  have hck : ¬ c = k * 64 := by omega
  clear h0 h1
  go_enter Try.func73, Try.ntmps73
  go_wp2
  go_ret
  exact ⟨by simp [Nat.mul_comm], Kept.alloc _ _ _ _ _⟩

end Go.Proofs.Ytlabjamkaebnjaa
