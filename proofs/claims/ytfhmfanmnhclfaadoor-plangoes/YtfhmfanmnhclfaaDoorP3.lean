import Derived.Lib.LaidTab
import Derived.Deep.QuietTactic
import Derived.BigQuiet
import Derived.Test.YtfhmfanmnhclfaaDoorRows
import Derived.ProofKit
import Derived.LaidMore
import Derived.LaidSub
import Derived.OpenShut
import Derived.Stop.Joined
import Derived.Deep.RegionWith
import Derived.Test.YtfhmfanmnhclfaaDoorP2
namespace Go.Proofs.YtfhmfanmnhclfaaDoor
set_option linter.unusedVariables false
set_option linter.unusedSimpArgs false
open Go.RowKit Go.Lib Go.Deep

/-- The number of bits of a byte, of an integer. -/
def popV (x : Int) : Int := (cnt x.toNat 8 : Int)
/-- The four bytes. -/
theorem four (S : Nat) (hS : S < 4294967296) : popV ((S : Int) / 16777216) + popV ((S : Int) / 65536 % 256) + popV ((S : Int) / 256 % 256) + popV ((S : Int) % 256) = ((cnt S 32 : Nat) : Int) := by
  have e0 : cnt S 32 = cnt S 8 + (cnt (S / 256) 8 + (cnt (S / 65536) 8 + cnt (S / 16777216) 8)) := by
    rw [show 32 = 8 + 24 from rfl, cnt_split, show 24 = 8 + 16 from rfl, cnt_split, show 16 = 8 + 8 from rfl, cnt_split, Nat.div_div_eq_div_mul, Nat.div_div_eq_div_mul]
  have m : ∀ x : Nat, cnt (x % 256) 8 = cnt x 8 := fun x => cnt_mod x 8
  unfold popV
  have t1 : ((S : Int) / 16777216).toNat = S / 16777216 := by omega
  have t2 : ((S : Int) / 65536 % 256).toNat = S / 65536 % 256 := by omega
  have t3 : ((S : Int) / 256 % 256).toNat = S / 256 % 256 := by omega
  have t4 : ((S : Int) % 256).toNat = S % 256 := by omega
  rw [t1, t2, t3, t4, m, m, m, e0]
  omega

/-! ### The least bit, by Go's table -/
def deB : List Int := [0, 1, 28, 2, 29, 14, 24, 3, 30, 22, 20, 15, 25, 17, 4, 8, 31, 27, 13, 23, 21, 19, 16, 7, 26, 12, 18, 6, 11, 5, 10, 9]
/-- The table lies in the program's first variable. -/
def Tabb (w : World) : Prop := ∀ i, i < 32 → w.cell? ⟨0, i, none⟩ = some (.int .u8 (deB.getD i 0))
theorem Tabb.lt {w : World} (h : Tabb w) : 0 < w.heap.size := by
  by_cases hh : 0 < w.heap.size
  · exact hh
  · have hn : w.heap[0]? = none := Array.getElem?_eq_none (by omega)
    have := h 0 (by omega)
    simp [World.cell?, hn] at this
theorem Tabb.keptR {w w' : World} {r : Option Nat} (h : Tabb w) (k : Kept w w' r) (hr : some 0 ≠ r) : Tabb w' := fun i hi =>
  (World.cell?_of_block (w := w) (a := ⟨0, i, none⟩) (k.block 0 h.lt hr)).trans (h i hi)
theorem Tabb.kept {w w' : World} (h : Tabb w) (k : Kept w w' none) : Tabb w' := h.keptR k (by simp)
/-- Where the least bit's place stands in the table. -/
def spot (k : Nat) : Nat := 2 ^ k * 125613361 % 4294967296 / 134217728
theorem spot_lt (k : Nat) : spot k < 32 := by unfold spot; omega
theorem spot_tab : ∀ k, k < 32 → deB.getD (spot k) 0 = (k : Int) := by decide +kernel
theorem zeros_any (S : Nat) (w : World) (hS : S < 4294967296) (h0 : 0 < S) (ht : Tabb w) : Calls Tryd.prog 121 #[.int .u32 S] w fun e w' => e = .returned (.int .i64 ((lowN 32 S : Nat) : Int)) ∧ w' = w := by
  have hk := (lowN_spec 32 S h0 (by simpa using hS)).1
  have hand : bits .and .u32 (S : Int) ((4294967296 - S : Nat) : Int) = ((2 ^ lowN 32 S : Nat) : Int) := by
    rw [u32_and_nat S _ hS (by omega)]
    have := and_neg 32 S h0 (by simpa using hS)
    rw [← this]
  have hsp := spot_tab _ hk
  have hlt := spot_lt (lowN 32 S)
  have hcell := ht (spot (lowN 32 S)) hlt
  rw [hsp] at hcell
  have hneg : -(S : Int) % 4294967296 = ((4294967296 - S : Nat) : Int) := by omega
  have hoff : (bits BinOp.and IntKind.u32 (S : Int) (-(S : Int) % 4294967296) * 125613361 % 4294967296 / 134217728).toNat = spot (lowN 32 S) := by
    rw [hneg, hand]
    unfold spot
    generalize 2 ^ lowN 32 S = P
    have e : (P : Int) * 125613361 % 4294967296 / 134217728 = ((P * 125613361 % 4294967296 / 134217728 : Nat) : Int) := by simp
    rw [e]
    exact Int.toNat_natCast _
  have hcell' : w.cell? ⟨0, (bits BinOp.and IntKind.u32 (S : Int) (-(S : Int) % 4294967296) * 125613361 % 4294967296 / 134217728).toNat, none⟩ = some (.int .u8 ((lowN 32 S : Nat) : Int)) := by rw [hoff]; exact hcell
  clear hsp hlt hcell hneg hoff hand ht
  generalize lowN 32 S = K at *
  go_enter Tryd.func121, Tryd.ntmps121
  go_wp2
  go_ret
  exact ⟨rfl, rfl⟩
theorem least_any (S : Nat) (w : World) (hS : S < 4294967296) (ht : Tabb w) : Calls Tryd.prog 117 #[.int .u32 S] w fun e w' => e = .returned (.int .i64 (leastV S)) ∧ w' = w := by
  unfold leastV
  by_cases h : S = 0
  · rw [if_pos h]
    subst h
    go_enter Tryd.func117, Tryd.ntmps117
    go_wp2_with fail
    go_ret
    exact ⟨rfl, rfl⟩
  · rw [if_neg h]
    have h0 : 0 < S := by omega
    have HT : Hid (Tabb w) := ht
    clear ht
    go_enter Tryd.func117, Tryd.ntmps117
    go_wp2_with (go_at_call 121; refine (zeros_any _ _ hS h0 HT.out).mono ?_; rintro e w ⟨rfl, rfl⟩)
    go_ret
    exact ⟨rfl, rfl⟩


abbrev laid1 : List (String × DataW Unit) := [("math/bits.deBruijn32tab", Rows.laid_math_bits_deBruijn32tab)]
theorem gTabb : Tryd.prog.globalNamed "math/bits.deBruijn32tab" = some 0 := by kernel_rfl
theorem tTabb : (Tryd.prog.globals[0]?).map (·.type) = some 145 := by kernel_rfl
theorem uTabb : Tryd.prog.underlying 145 = some (.array 32 5) := by kernel_rfl
theorem uByte : Tryd.prog.underlying 5 = some (.int .u8) := by kernel_rfl
theorem cByte : Tryd.prog.cellsOf 5 = 1 := by kernel_rfl
theorem cTabb : Tryd.prog.cellsOf 145 = 32 := by kernel_rfl
theorem of_laid1 {W : World} (h : laidMetH Tryd.prog laid1 W) : Tabb W := by
  rw [MakeChecks.laidMetH_plain _ _ _ (by kernel_rfl)] at h
  have h' : laidMet Tryd.prog (("math/bits.deBruijn32tab", tabData .u8 deB) :: []) W := h
  have hT := tabIs_of_head gTabb tTabb uTabb uByte cByte cTabb h'
  exact fun i hi => hT.cell gTabb i hi
theorem door_laid1 (os : Os) (args : Array Value) : laidMetH Tryd.prog laid1 ((World.doorLaid Tryd.prog 400 os).forCall (fun _ _ => 0) ⟨#[], args, []⟩).memory :=
  laidMetH_of_parts3 (fuel := 8) (laidMet_of_run' 8 (by kernel_rfl) (by kernel_rfl)) (by kernel_rfl) (by kernel_rfl)


theorem within_any (n lo hi : Int) (w : World) : Calls Tryd.prog 76 #[.int .i64 n, .int .i64 lo, .int .i64 hi] w fun e w' => e = .returned (.bool (inB n lo hi)) ∧ w' = w := by
  go_enter Tryd.func76, Tryd.ntmps76
  go_wp2
  all_goals
    go_ret
    refine ⟨?_, rfl⟩
    simp [inB, *] <;> (first | omega | (intros; omega))
theorem time_any (n : Int) (w : World) : Calls Tryd.prog 101 #[.int .i64 n] w fun e w' => e = .returned (.bool (timeB n)) ∧ w' = w := by
  go_enter Tryd.func101, Tryd.ntmps101
  go_wp2_with (go_at_call 76; refine (within_any _ _ _ _).mono ?_; rintro e w ⟨rfl, rfl⟩)
  go_ret
  exact ⟨rfl, rfl⟩
theorem own_any {B : Nat} {X : Sa} {S : St} {w : World} (h : Sbox w B X S) (i : Int) : Calls Tryd.prog 67 #[.pointer (some ⟨B, 0, none⟩), .int .i64 i] w fun e w' => e = .returned (.bool (ownB S)) ∧ w' = w := by
  have c0 := h.c0
  have c6 := h.c6
  have c7 := h.c7
  have c8 := h.c8
  clear h
  go_enter Tryd.func67, Tryd.ntmps67
  go_wp2_with (first
    | (go_at_call 76; refine (within_any _ _ _ _).mono ?_; rintro e w ⟨rfl, rfl⟩)
    | (go_at_call 101; refine (time_any _ _).mono ?_; rintro e w ⟨rfl, rfl⟩))
  all_goals
    go_ret
    refine ⟨?_, rfl⟩
    simp [ownB, *] <;> (first | omega | (intros; omega))
theorem counts_any {B : Nat} {X : Sa} {S : St} {w : World} (h : Sbox w B X S) (i : Int) : Calls Tryd.prog 66 #[.pointer (some ⟨B, 0, none⟩), .int .i64 i] w fun e w' => e = .returned (.bool (countsB S)) ∧ w' = w := by
  have c1 := h.c1
  have c2 := h.c2
  have c3 := h.c3
  have c4 := h.c4
  have c5 := h.c5
  have c11 := h.c11
  clear h
  go_enter Tryd.func66, Tryd.ntmps66
  go_wp2_with (go_at_call 76; refine (within_any _ _ _ _).mono ?_; rintro e w ⟨rfl, rfl⟩)
  all_goals
    go_ret
    refine ⟨?_, rfl⟩
    simp [countsB, *] <;> (first | omega | (intros; omega) | (rw [Bool.eq_iff_iff]; simp only [Bool.and_eq_true, decide_eq_true_eq]; omega))
theorem group_any {B : Nat} {X : Sa} {S : St} {w : World} (h : Sbox w B X S) (i : Nat) (hi : i < S.groups.length) (hl : S.groups.length ≤ 16) : Calls Tryd.prog 68 #[.pointer (some ⟨B, 0, none⟩), .int .i64 i] w fun e w' => e = .returned (.bool (groupB S i)) ∧ Kept w w' none := by
  have c1 := h.c1
  obtain ⟨b, off, e, k0, k1, k2⟩ := h.sat.grAt hi
  rw [e] at c1
  clear h e
  go_enter Tryd.func68, Tryd.ntmps68
  go_wp2_with (go_at_call 101; refine (time_any _ _).mono ?_; rintro e w ⟨rfl, rfl⟩)
  all_goals
    go_ret
    refine ⟨?_, Kept.alloc _ _ _ _ _⟩
    simp [groupB, *] <;> (first | omega | (intros; omega))
theorem allGroups_any {B : Nat} {X : Sa} {S : St} {w : World} (h : Sbox w B X S) (hl : S.groups.length ≤ 16) : Calls Tryd.prog 102 #[.pointer (some ⟨B, 0, none⟩)] w fun e w' => e = .returned (.int .u32 ((2 ^ S.groups.length - 1 : Nat) : Int)) ∧ w' = w := by
  have c1 := h.c1
  clear h
  have hp := pow_int (i := S.groups.length) (by omega)
  have hq : 1 ≤ 2 ^ S.groups.length := Nat.one_le_two_pow
  have hr := pow_lt32 (i := S.groups.length) (by omega)
  go_enter Tryd.func102, Tryd.ntmps102
  go_wp2
  go_ret
  refine ⟨?_, rfl⟩
  refine Eq.trans (b := Ending.returned (.int .u32 (((2 : Int) ^ S.groups.length % 4294967296 - 1) % 4294967296))) ?_ (ret_int ?_)
  · simp
  · rw [hp]; omega
/-- Numbers of groups alone. -/
theorem low_andn (x n : Nat) (hx : x < 4294967296) (hn : n ≤ 32) : (x &&& (4294967295 - (2 ^ n - 1)) = 0) ↔ x < 2 ^ n := by
  have hb : ∀ j, (4294967295 - (2 ^ n - 1)).testBit j = (decide (j < 32) && !decide (j < n)) := by
    intro j
    have h : 2 ^ n - 1 < 2 ^ 32 := by
      have : 2 ^ n ≤ 2 ^ 32 := Nat.pow_le_pow_right (by omega) hn
      have : 1 ≤ 2 ^ n := Nat.one_le_two_pow
      omega
    have := Nat.testBit_two_pow_sub_succ h j
    rw [Nat.testBit_two_pow_sub_one] at this
    rw [← this]
    congr 1
    omega
  constructor
  · intro h
    apply Nat.lt_pow_two_of_testBit
    intro j hj
    have := congrArg (fun y => y.testBit j) h
    simp only [Nat.testBit_and, hb, Nat.zero_testBit] at this
    cases hx2 : x.testBit j with
    | false => rfl
    | true =>
      have := lt_bit hx hx2
      simp_all
      omega
  · intro h
    apply Nat.eq_of_testBit_eq
    intro j
    rw [Nat.testBit_and, hb, Nat.zero_testBit]
    by_cases hj : j < n
    · simp [hj]
    · rw [Nat.testBit_lt_two_pow (Nat.lt_of_lt_of_le h (Nat.pow_le_pow_right (by omega) (by omega)))]
      rfl


theorem has_n (S i : Nat) (w : World) (hS : S < 4294967296) (hi : i < 32) : Calls Tryd.prog 103 #[.int .u32 S, .int .i64 i] w fun e w' => e = .returned (.bool (S.testBit i)) ∧ w' = w := by
  rw [← has_in hi]; exact has_any S i w hS
theorem has_is (S i : Nat) (b : Bool) (w : World) (hS : S < 4294967296) (hi : i < 32) (h : S.testBit i = b) : Calls Tryd.prog 103 #[.int .u32 S, .int .i64 i] w fun e w' => e = .returned (.bool b) ∧ w' = w := by
  rw [← h]; exact has_n S i w hS hi
set_option maxHeartbeats 1000000 in
theorem apart_any {B : Nat} {X : Sa} {S : St} {w : World} (h : Sbox w B X S) (a : Nat) (ha : a < S.groups.length) (hO : Okay S) : Calls Tryd.prog 69 #[.pointer (some ⟨B, 0, none⟩), .int .i64 a] w fun e w' => e = .returned (.bool (apartB S a)) ∧ ∃ m, w' = w.drewN m := by
  have c1 := h.c1
  have c2 := h.c2
  have hg16 := hO.ng.2
  have hna := hO.na
  have HB := Hid.mk' h
  obtain ⟨b, off, e, hc⟩ := h.sat.apAt (n := S.groups.length) (by omega) (by omega)
  rw [e] at c2
  have HC := Hid.mk' hc
  have ka := hc a ha
  have hr : ∀ i, S.ap i < 4294967296 := fun i => by
    by_cases hi : i < S.apart.length
    · exact h.sat.ar _ (getD_mem hi)
    · unfold St.ap; rw [List.getD_eq_getElem?_getD, List.getElem?_eq_none (by omega)]; simp
  have HR := Hid.mk' hr
  have har := hr a
  have hpl : 2 ^ S.groups.length - 1 < 4294967296 := by have := pow_lt32 (i := S.groups.length) (by omega); omega
  have han := u32_andNot_nat (S.ap a) (2 ^ S.groups.length - 1) har hpl
  have hlo := low_andn (S.ap a) S.groups.length har (by omega)
  by_cases hlow : S.ap a < 2 ^ S.groups.length
  · have hz := hlo.2 hlow
    have hz2 : (bits .andNot .u32 (S.ap a : Int) ((2 ^ S.groups.length - 1 : Nat) : Int) != 0) = false := by rw [han, hz]; rfl
    clear han hlo hz hc hr h e
    cases hself : (S.ap a).testBit a with
    | true =>
      have hans : apartB S a = false := by simp [apartB, hself]
      have HA := Hid.mk' hans
      clear hans
      go_enter Tryd.func69, Tryd.ntmps69
      go_wp2
      go_quiet ((first | (go_at_call 102; exact Calls.quiet_of_same (allGroups_any (HB.out.kept (Kept.drewN _ _ _)) hg16)) | (go_at_call 103; exact Calls.quiet_of_same (has_is _ _ _ _ har (by omega) hself))))
      go_wp2
      go_ret
      exact ⟨by rw [HA.out]; rfl, _, rfl⟩
    | false =>
      go_enter Tryd.func69, Tryd.ntmps69
      go_wp2
      go_quiet ((first | (go_at_call 102; exact Calls.quiet_of_same (allGroups_any (HB.out.kept (Kept.drewN _ _ _)) hg16)) | (go_at_call 103; exact Calls.quiet_of_same (has_is _ _ _ _ har (by omega) hself))))
      go_wp2
      go_loopw [34] (fun i wr => ∃ k : Nat, k ≤ S.groups.length ∧ i = .int .i64 k ∧ (∀ b, b < k → (S.ap a).testBit b = (S.ap b).testBit a) ∧ ∃ m, wr = w.drewN m) (fun i _ => S.groups.length - (intOf i).toNat)
      case atStart => exact ⟨0, Nat.zero_le _, rfl, fun b hb => by omega, _, rfl⟩
      case round =>
        obtain ⟨k, hk, rfl, hall, m, rfl⟩ := hrel
        have HALL := Hid.mk' hall
        have HLOW := Hid.mk' hlow
        have HSELF := Hid.mk' hself
        clear hall
        by_cases hlt : k < S.groups.length
        · have kb := HC.out k hlt
          have hbr := HR.out k
          cases heq : ((S.ap a).testBit k == (S.ap k).testBit a) with
          | true =>
            have hne : (!((S.ap a).testBit k == (S.ap k).testBit a)) = false := by rw [heq]; rfl
            have HEQ := Hid.mk' heq
            clear heq
            go_wp2_with (first | (go_at_call_of 103 (S.ap a); refine (has_n _ _ _ har (by omega)).mono ?_; rintro e w' ⟨rfl, rfl⟩) | (go_at_call 103; refine (has_n _ _ _ hbr (by omega)).mono ?_; rintro e w' ⟨rfl, rfl⟩))
            all_goals
              go_roundw
              case rel => exact ⟨k + 1, by omega, by go_num, fun b hb => by
                by_cases e : b = k
                · subst e; exact eq_of_beq HEQ.out
                · exact HALL.out b (by omega), _, rfl⟩
              case measure => simp [intOf]; omega
          | false =>
            have hne : (!((S.ap a).testBit k == (S.ap k).testBit a)) = true := by rw [heq]; rfl
            have hans : apartB S a = false := by
              unfold apartB
              rw [allB_no hlt heq]
              simp
            have HA := Hid.mk' hans
            clear heq hans
            go_wp2_with (first | (go_at_call_of 103 (S.ap a); refine (has_n _ _ _ har (by omega)).mono ?_; rintro e w' ⟨rfl, rfl⟩) | (go_at_call 103; refine (has_n _ _ _ hbr (by omega)).mono ?_; rintro e w' ⟨rfl, rfl⟩))
            all_goals
              go_ret
              exact ⟨by rw [HA.out]; rfl, _, rfl⟩
        · have hkk : k = S.groups.length := by omega
          have hans : apartB S a = true := by
            unfold apartB
            rw [allB_iff.2 (fun b hb => by rw [HALL.out b (by omega)]; exact beq_self_eq_true _), HSELF.out, decide_eq_true HLOW.out]
            rfl
          have HA := Hid.mk' hans
          clear hans
          go_wp2
          go_ret
          exact ⟨by rw [HA.out]; rfl, _, rfl⟩
  · have hz := fun e => hlow (hlo.1 e)
    have hz2 : (bits .andNot .u32 (S.ap a : Int) ((2 ^ S.groups.length - 1 : Nat) : Int) != 0) = true := by
      rw [han, bne_iff_ne]
      intro e
      exact hz (by omega)
    have hans : apartB S a = false := by simp [apartB, hlow]
    have HA := Hid.mk' hans
    clear han hlo hz hc hr h e hans
    go_enter Tryd.func69, Tryd.ntmps69
    go_wp2
    go_quiet ((go_at_call 102; exact Calls.quiet_of_same (allGroups_any (HB.out.kept (Kept.drewN _ _ _)) hg16)))
    go_wp2
    go_ret
    exact ⟨by rw [HA.out]; rfl, _, rfl⟩

end Go.Proofs.YtfhmfanmnhclfaaDoor
