/-
  THE CONTRACTS of Go's math/bits.OnesCount32 and TrailingZeros32, and of Count and Least over them.
-/
import Derived.Test.YtfhmfanmnhclfaaDoorSets
import Derived.Lib.LaidTab
import Derived.Deep.QuietTactic
import Derived.BigQuiet
namespace Go.Proofs.YtfhmfanmnhclfaaDoor
open Go.RowKit Go.Lib Go.Deep
set_option linter.unusedVariables false
set_option linter.unusedSimpArgs false

/-- How many bits a byte has, as the string that Go keeps. -/
def popL : List UInt8 := (List.range 256).map fun n => UInt8.ofNat (cnt n 8)
def popS : ByteArray := ByteArray.mk popL.toArray
theorem popS_size : popS.size = 256 := by show popL.toArray.size = 256; simp [popL]
theorem popS_get (n : Nat) (h : n < popS.size) : (popS[n]'h).toNat = cnt n 8 := by
  have hn : n < 256 := by rw [popS_size] at h; exact h
  show (popL.toArray[n]'_).toNat = _
  have := cnt_le n 8
  simp [popL]
  omega
theorem hide_pop (S : ByteArray) (hS : S = popS) (l : List UInt8) (h : l = popL) : ByteArray.mk l.toArray = S := by rw [h, hS]; rfl
/-- The number of bits of a byte, of an integer. -/
def popV (x : Int) : Int := (cnt x.toNat 8 : Int)
theorem popV_bd (x : Int) : 0 ≤ popV x ∧ popV x ≤ 8 := by unfold popV; have := cnt_le x.toNat 8; omega
theorem low8 (n : Int) (h0 : 0 ≤ n) (h1 : n < 4294967296) : bits .and .u32 n 255 = n % 256 := by
  have h := u32_and n 255 h0 h1 (by omega) (by omega)
  have e : n.toNat &&& 255 = n.toNat % 2 ^ 8 := Nat.and_two_pow_sub_one_eq_mod n.toNat 8
  have e2 : (255 : Int).toNat = 255 := rfl
  rw [h, e2, e]
  omega
/-- The four bytes. -/
theorem four (S : Nat) (hS : S < 4294967296) : popV ((S : Int) / 16777216) + popV ((S : Int) / 65536 % 256) + popV ((S : Int) / 256 % 256) + popV ((S : Int) % 256) = ((cnt S 32 : Nat) : Int) := by
  have e0 : cnt S 32 = cnt S 8 + (cnt (S / 256) 8 + (cnt (S / 65536) 8 + cnt (S / 16777216) 8)) := by
    rw [show 32 = 8 + 24 from rfl, cnt_split, show 24 = 8 + 16 from rfl, cnt_split, show 16 = 8 + 8 from rfl, cnt_split, Nat.div_div_eq_div_mul, Nat.div_div_eq_div_mul]
  have m : ∀ x : Nat, cnt (x % 256) 8 = cnt x 8 := fun x => cnt_mod x 8
  unfold popV
  have t1 : ((S : Int) / 16777216).toNat = S / 16777216 := by omega
  have t2 : ((S : Int) / 65536 % 256).toNat = S / 65536 % 256 := by omega
  have t3 : ((S : Int) / 256 % 256).toNat = S / 256 % 256 := by omega
  have t4 : ((S : Int) % 256).toNat = S % 256 := by omega
  rw [t1, t2, t3, t4, m, m, m, e0]
  omega

theorem popV_nat (x : Int) : ((cnt x.toNat 8 : Nat) : Int) = popV x := rfl
/-! ### The least bit, by Go's table -/
def deB : List Int := [0, 1, 28, 2, 29, 14, 24, 3, 30, 22, 20, 15, 25, 17, 4, 8, 31, 27, 13, 23, 21, 19, 16, 7, 26, 12, 18, 6, 11, 5, 10, 9]
/-- The table lies in the program's first variable. -/
def Tabb (w : World) : Prop := ∀ i, i < 32 → w.cell? ⟨0, i, none⟩ = some (.int .u8 (deB.getD i 0))
theorem Tabb.lt {w : World} (h : Tabb w) : 0 < w.heap.size := by
  by_cases hh : 0 < w.heap.size
  · exact hh
  · have hn : w.heap[0]? = none := Array.getElem?_eq_none (by omega)
    have := h 0 (by omega)
    simp [World.cell?, hn] at this
theorem Tabb.keptR {w w' : World} {r : Option Nat} (h : Tabb w) (k : Kept w w' r) (hr : some 0 ≠ r) : Tabb w' := fun i hi =>
  (World.cell?_of_block (w := w) (a := ⟨0, i, none⟩) (k.block 0 h.lt hr)).trans (h i hi)
theorem Tabb.kept {w w' : World} (h : Tabb w) (k : Kept w w' none) : Tabb w' := h.keptR k (by simp)
/-- Where the least bit's place stands in the table. -/
def spot (k : Nat) : Nat := 2 ^ k * 125613361 % 4294967296 / 134217728
theorem spot_lt (k : Nat) : spot k < 32 := by unfold spot; omega
theorem spot_tab : ∀ k, k < 32 → deB.getD (spot k) 0 = (k : Int) := by decide +kernel
theorem zeros_any (S : Nat) (w : World) (hS : S < 4294967296) (h0 : 0 < S) (ht : Tabb w) : Calls Tryd.prog 121 #[.int .u32 S] w fun e w' => e = .returned (.int .i64 ((lowN 32 S : Nat) : Int)) ∧ w' = w := by
  have hk := (lowN_spec 32 S h0 (by simpa using hS)).1
  have hand : bits .and .u32 (S : Int) ((4294967296 - S : Nat) : Int) = ((2 ^ lowN 32 S : Nat) : Int) := by
    rw [u32_and_nat S _ hS (by omega)]
    have := and_neg 32 S h0 (by simpa using hS)
    rw [← this]
  have hsp := spot_tab _ hk
  have hlt := spot_lt (lowN 32 S)
  have hcell := ht (spot (lowN 32 S)) hlt
  rw [hsp] at hcell
  have hneg : -(S : Int) % 4294967296 = ((4294967296 - S : Nat) : Int) := by omega
  have hoff : (bits BinOp.and IntKind.u32 (S : Int) (-(S : Int) % 4294967296) * 125613361 % 4294967296 / 134217728).toNat = spot (lowN 32 S) := by
    rw [hneg, hand]
    unfold spot
    generalize 2 ^ lowN 32 S = P
    have e : (P : Int) * 125613361 % 4294967296 / 134217728 = ((P * 125613361 % 4294967296 / 134217728 : Nat) : Int) := by simp
    rw [e]
    exact Int.toNat_natCast _
  have hcell' : w.cell? ⟨0, (bits BinOp.and IntKind.u32 (S : Int) (-(S : Int) % 4294967296) * 125613361 % 4294967296 / 134217728).toNat, none⟩ = some (.int .u8 ((lowN 32 S : Nat) : Int)) := by rw [hoff]; exact hcell
  clear hsp hlt hcell hneg hoff hand ht
  generalize lowN 32 S = K at *
  go_enter Tryd.func121, Tryd.ntmps121
  go_wp2
  go_ret
  exact ⟨rfl, rfl⟩
theorem least_any (S : Nat) (w : World) (hS : S < 4294967296) (ht : Tabb w) : Calls Tryd.prog 117 #[.int .u32 S] w fun e w' => e = .returned (.int .i64 (leastV S)) ∧ w' = w := by
  unfold leastV
  by_cases h : S = 0
  · rw [if_pos h]
    subst h
    go_enter Tryd.func117, Tryd.ntmps117
    go_wp2_with fail
    go_ret
    exact ⟨rfl, rfl⟩
  · rw [if_neg h]
    have h0 : 0 < S := by omega
    have HT : Hid (Tabb w) := ht
    clear ht
    go_enter Tryd.func117, Tryd.ntmps117
    go_wp2_with (go_at_call 121; refine (zeros_any _ _ hS h0 HT.out).mono ?_; rintro e w ⟨rfl, rfl⟩)
    go_ret
    exact ⟨rfl, rfl⟩

end Go.Proofs.YtfhmfanmnhclfaaDoor
