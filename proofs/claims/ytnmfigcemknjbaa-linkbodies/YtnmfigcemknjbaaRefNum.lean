/-
  THE CONTRACTS of the document's Put, Get, Small, Read (stoplineref03), and of the program's own, in one form for all inputs.
-/
import Derived.Test.YtnmfigcemknjbaaJoin
import Derived.Test.YtnmfigcemknjbaaRead
namespace Go.Proofs.Ytnmfigcemknjbaa
open Go.RowKit Go.Lib Go.Deep
set_option linter.unusedVariables false
set_option linter.unusedSimpArgs false

theorem by_one (w : World) (x : Nat) (h : x < 256) : By (w.alloc (.cells #[.int .u8 (x : Int)] 5)) (some ⟨w.heap.size, 0, none⟩) 1 [x] :=
  By.alloc w [x] 5 (0, 0) #[.int .u8 (x : Int)] (fun i hi => by
    have : i = 0 := by simpa using hi
    subst this; rfl) (by simp) (fun y hy => by simp at hy; omega)
theorem mine_nil (w : World) (base : Nat) : Mine w base none 0 0 [] := ⟨World.ownsRow_nil _ _ _ _, fun _ => ⟨rfl, rfl⟩, Nat.le_refl _, by omega⟩

/-! ### Put -/
theorem leb_snoc : ∀ k n, leb (k + 1) n = leb k n ++ [n / 256 ^ k % 256]
  | 0, n => by simp [leb]
  | k + 1, n => by
    rw [leb, leb_snoc k (n / 256), leb, List.cons_append, Nat.div_div_eq_div_mul, Nat.pow_succ, Nat.mul_comm 256]
def putOkB (n : Nat) (width : Int) : Bool := decide (1 ≤ width) && decide (width ≤ 8) && decide (n / 256 ^ width.toNat = 0)
abbrev putOk (n : Nat) (width : Int) : Prop := putOkB n width = true
theorem putOk_iff (n : Nat) (width : Int) : putOk n width ↔ 1 ≤ width ∧ width ≤ 8 ∧ n / 256 ^ width.toNat = 0 := by
  unfold putOk putOkB
  simp [and_assoc]
def putL (n : Nat) (width : Int) : List Nat := if putOk n width then leb width.toNat n else []
def putE (n : Nat) (width : Int) : Int := if putOk n width then 0 else 2
theorem putE_le (n : Nat) (width : Int) : 0 ≤ putE n width ∧ putE n width ≤ 2 := by unfold putE; split <;> omega

/-! ### Get -/
def getN (L : List Nat) : Nat := if 1 ≤ L.length ∧ L.length ≤ 8 then v256 L else 0
def getE (L : List Nat) : Nat := if 1 ≤ L.length ∧ L.length ≤ 8 then 0 else 8
/-! ### Small -/
set_option maxRecDepth 100000 in
set_option maxHeartbeats 1000000 in
theorem rsmall_any (n : Nat) (w : World) (hn : n < 18446744073709551616) :
    Calls Try.prog 46 #[.int .u64 n] w fun e w' => ∃ a k c, e = .returned (.slice a k c) ∧ By w' a k (sml n) ∧ Kept w w' none := by
  have hl10 := sml_len10 n hn
  go_enter Try.func46, Try.ntmps46
  go_wp2
  go_loopw [0, 3] (fun nv lv wr => ∃ (cur k : Nat) (a : Option Addr) (c : Nat) (pre : List Nat), nv = .int .u64 cur ∧ lv = .slice a k c ∧ pre ++ sml cur = sml n ∧ cur < 18446744073709551616 ∧ Mine wr w.heap.size a k c pre ∧ Kept w wr none) (fun nv _ _ => (intOf nv).toNat)
  case atStart => exact ⟨n, 0, none, 0, [], rfl, rfl, rfl, hn, mine_nil _ _, Kept.refl _ _⟩
  case round =>
    obtain ⟨cur, k, a, c, pre, rfl, rfl, he, hc, hm, hkept⟩ := hrel
    have hpl : k + (sml cur).length = (sml n).length := by
      have := hm.own.1
      rw [← he]; simp at this ⊢; omega
    have hp := sml_pos cur
    have hk10 : k + 1 ≤ 10 := by omega
    have HM : Hid (Mine wr w.heap.size a k c pre) := hm
    have hsz := hkept.size
    clear hm
    by_cases hlt : 128 ≤ cur
    · have HE : Hid (pre ++ sml cur = sml n) := he
      have hb := by_one wr (cur % 128 + 128) (by omega)
      have hee : (((cur % 128 + 128 : Nat) : Int)) = (cur : Int) % 128 + 128 := by omega
      rw [hee] at hb
      have HB : Hid (By (wr.alloc (.cells #[.int .u8 ((cur : Int) % 128 + 128)] 5)) (some ⟨wr.heap.size, 0, none⟩) 1 [cur % 128 + 128]) := hb
      clear he hpl hb hee
      go_wp2_with (at_builtin; refine wpList_join (by rfl) _ _ (by rfl) w.heap.size (.slice a k c) k pre (by rfl) (HM.out.own.alloc _) (some ⟨wr.heap.size, 0, none⟩) 1 1 [cur % 128 + 128] (by rfl) HB.out (fun e => (nomatch e)) (by omega) (by simp; omega) ?_; intro a2 c2 w2 hm2 hg2)
      go_roundw
      case rel => exact ⟨cur / 128, k + 1, a2, c2, pre ++ [cur % 128 + 128], by go_num, rfl, by rw [List.append_assoc, List.singleton_append, ← sml_hi hlt]; exact HE.out, by omega, hm2, (hkept.tr (Kept.alloc _ _ _ _ _)).newRow hg2 HM.out.new⟩
      case measure => simp [intOf]; omega
    · rw [sml_lo (by omega)] at he
      have HE : Hid (pre ++ [cur] = sml n) := he
      have HB : Hid (By (wr.alloc (.cells #[.int .u8 (cur : Int)] 5)) (some ⟨wr.heap.size, 0, none⟩) 1 [cur]) := by_one wr cur (by omega)
      clear he hpl
      go_wp2_with (at_builtin; refine wpList_join (by rfl) _ _ (by rfl) w.heap.size (.slice a k c) k pre (by rfl) (HM.out.own.alloc _) (some ⟨wr.heap.size, 0, none⟩) 1 1 [cur] (by rfl) HB.out (fun e => (nomatch e)) (by omega) (by simp; omega) ?_; intro a2 c2 w2 hm2 hg2)
      go_ret
      rw [HE.out] at hm2
      exact ⟨a2, k + 1, c2, rfl, hm2.by (sml_lt n), (hkept.tr (Kept.alloc _ _ _ _ _)).newRow hg2 HM.out.new⟩

end Go.Proofs.Ytnmfigcemknjbaa
