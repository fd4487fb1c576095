/-
  THE DOCUMENT's Small and Put, in memory of their own.
-/
import Derived.Test.YtlabjamkaebnjaaStoR
import Derived.Test.YtlabjamkaebnjaaSFitsJ
namespace Go.Proofs.Ytlabjamkaebnjaa
open Go.RowKit Go.Lib Go.Deep
set_option linter.unusedVariables false
set_option linter.unusedSimpArgs false

set_option maxRecDepth 100000 in
set_option maxHeartbeats 1000000 in
theorem rsmall_mine (n : Nat) (w : World) (hn : n < 18446744073709551616) :
    Calls Try.prog 49 #[.int .u64 n] w fun e w' => ∃ a c, e = .returned (.slice a (sml n).length c) ∧ Mine w' w.heap.size a (sml n).length c (sml n) ∧ Kept w w' none := by
  have hl10 := sml_len10 n hn
  go_enter Try.func49, Try.ntmps49
  go_wp2
  go_loopw [0, 3] (fun nv lv wr => ∃ (cur k : Nat) (a : Option Addr) (c : Nat) (pre : List Nat), nv = .int .u64 cur ∧ lv = .slice a k c ∧ pre ++ sml cur = sml n ∧ cur < 18446744073709551616 ∧ Mine wr w.heap.size a k c pre ∧ Kept w wr none) (fun nv _ _ => (intOf nv).toNat)
  case atStart => exact ⟨n, 0, none, 0, [], rfl, rfl, rfl, hn, mine_nil _ _, Kept.refl _ _⟩
  case round =>
    obtain ⟨cur, k, a, c, pre, rfl, rfl, he, hc, hm, hkept⟩ := hrel
    have hpl : k + (sml cur).length = (sml n).length := by
      have := hm.own.1
      rw [← he]; simp at this ⊢; omega
    have hp := sml_pos cur
    have hk10 : k + 1 ≤ 10 := by omega
    have HM : Hid (Mine wr w.heap.size a k c pre) := hm
    have hsz := hkept.size
    clear hm
    by_cases hlt : 128 ≤ cur
    · have HE : Hid (pre ++ sml cur = sml n) := he
      have hb := by_one wr (cur % 128 + 128) (by omega)
      have hee : (((cur % 128 + 128 : Nat) : Int)) = (cur : Int) % 128 + 128 := by omega
      rw [hee] at hb
      have HB : Hid (By (wr.alloc (.cells #[.int .u8 ((cur : Int) % 128 + 128)] 5)) (some ⟨wr.heap.size, 0, none⟩) 1 [cur % 128 + 128]) := hb
      clear he hpl hb hee
      go_wp2_with (at_builtin; refine wpList_join (by rfl) _ _ (by rfl) w.heap.size (.slice a k c) k pre (by rfl) (HM.out.own.alloc _) (some ⟨wr.heap.size, 0, none⟩) 1 1 [cur % 128 + 128] (by rfl) HB.out (fun e => (nomatch e)) (by omega) (by simp; omega) ?_; intro a2 c2 w2 hm2 hg2)
      go_roundw
      case rel => exact ⟨cur / 128, k + 1, a2, c2, pre ++ [cur % 128 + 128], by go_num, rfl, by rw [List.append_assoc, List.singleton_append, ← sml_hi hlt]; exact HE.out, by omega, hm2, (hkept.tr (Kept.alloc _ _ _ _ _)).newRow hg2 HM.out.new⟩
      case measure => simp [intOf]; omega
    · rw [sml_lo (by omega)] at he
      have HE : Hid (pre ++ [cur] = sml n) := he
      have HB : Hid (By (wr.alloc (.cells #[.int .u8 (cur : Int)] 5)) (some ⟨wr.heap.size, 0, none⟩) 1 [cur]) := by_one wr cur (by omega)
      clear he hpl
      go_wp2_with (at_builtin; refine wpList_join (by rfl) _ _ (by rfl) w.heap.size (.slice a k c) k pre (by rfl) (HM.out.own.alloc _) (some ⟨wr.heap.size, 0, none⟩) 1 1 [cur] (by rfl) HB.out (fun e => (nomatch e)) (by omega) (by simp; omega) ?_; intro a2 c2 w2 hm2 hg2)
      go_ret
      rw [HE.out] at hm2
      have hk1 : k + 1 = (sml n).length := by have := hm2.own.1; simpa using this.symm
      rw [hk1] at hm2 ⊢
      exact ⟨a2, c2, rfl, hm2, (hkept.tr (Kept.alloc _ _ _ _ _)).newRow hg2 HM.out.new⟩
set_option maxRecDepth 100000 in
set_option maxHeartbeats 1000000 in
theorem rput_mine (n q : Nat) (w : World) (hn : n < 18446744073709551616) (h1 : 1 ≤ q) (h2 : q ≤ 8) (h3 : n / 256 ^ q = 0) :
    Calls Try.prog 51 #[.int .u64 n, .int .i64 q] w fun e w' => ∃ a c, e = .returned (.tuple #[.slice a q c, .int .i64 0]) ∧ Mine w' w.heap.size a q c (leb q n) ∧ Kept w w' none := by
  have HP : Hid (putOk n (q : Int) ↔ n / 256 ^ q = 0) := by
    show _ ↔ _
    rw [putOk_iff]
    simp
    omega
  go_enter Try.func51, Try.ntmps51
  go_wp2
  go_loopw [0, 6, 7] (fun nv ov iv wr => ∃ k cur : Nat, ∃ a c, k ≤ q ∧ nv = .int .u64 cur ∧ cur = n / 256 ^ k ∧ ov = .slice a k c ∧ iv = .int .i64 k ∧ Mine wr w.heap.size a k c (leb k n) ∧ Kept w wr none ∧ cur < 18446744073709551616) (fun _ _ iv _ => q - (intOf iv).toNat)
  case atStart => exact ⟨0, n, none, 0, Nat.zero_le _, rfl, by simp, rfl, rfl, mine_nil _ _, Kept.refl _ _, hn⟩
  case round =>
    obtain ⟨k, cur, a, c, hk, rfl, hcur, rfl, rfl, hm, hkept, hc⟩ := hrel
    by_cases hlt : k < q
    · have HS : Hid (leb (k + 1) n = leb k n ++ [cur % 256]) := by show _ = _; rw [leb_snoc, ← hcur]
      have HD : Hid (cur / 256 = n / 256 ^ (k + 1)) := by show _ = _; rw [hcur, Nat.div_div_eq_div_mul, Nat.pow_succ]
      clear hcur
      have hb := by_one wr (cur % 256) (by omega)
      have he : (((cur % 256 : Nat) : Int)) = (cur : Int) % 256 := by omega
      rw [he] at hb
      have HB : Hid (By (wr.alloc (.cells #[.int .u8 ((cur : Int) % 256)] 5)) (some ⟨wr.heap.size, 0, none⟩) 1 [cur % 256]) := hb
      have HM : Hid (Mine wr w.heap.size a k c (leb k n)) := hm
      have hsz := hkept.size
      clear hb he hm
      go_wp2_with (at_builtin; refine wpList_join (by rfl) _ _ (by rfl) w.heap.size (.slice a k c) k (leb k n) (by rfl) (HM.out.own.alloc _) (some ⟨wr.heap.size, 0, none⟩) 1 1 [cur % 256] (by rfl) HB.out (fun e => (nomatch e)) (by omega) (by simp; omega) ?_; intro a2 c2 w2 hm2 hg2)
      go_roundw
      case rel => exact ⟨k + 1, cur / 256, a2, c2, by omega, by go_num, HD.out, rfl, by go_num, by rw [HS.out]; exact hm2, (hkept.tr (Kept.alloc _ _ _ _ _)).newRow hg2 HM.out.new, by omega⟩
      case measure => simp [intOf]; omega
    · have hkq : k = q := by omega
      subst hkq
      have HM : Hid (Mine wr w.heap.size a k c (leb k n)) := hm
      have HC : Hid (cur = n / 256 ^ k) := hcur
      clear hm hcur
      by_cases hz : 0 < cur
      · have ho : ¬ putOk n (k : Int) := by rw [HP.out, ← HC.out]; omega
        go_wp2
        go_ret2
        exact absurd (HC.out.trans h3) (by omega)
      · have ho : putOk n (k : Int) := by rw [HP.out, ← HC.out]; omega
        go_wp2
        go_ret2
        exact ⟨a, c, rfl, HM.out, hkept⟩

end Go.Proofs.Ytlabjamkaebnjaa
