/-
  THE CONTRACTS of the document's Put, Get, Small, Read (stoplineref03), and of the program's own, in one form for all inputs.
-/
import Derived.Test.YtabikoipjaggbaaSmallJ
import Derived.Test.YtabikoipjaggbaaRead
namespace Go.Proofs.Ytabikoipjaggbaa
open Go.RowKit Go.Lib Go.Deep
set_option linter.unusedVariables false
set_option linter.unusedSimpArgs false

theorem by_one (w : World) (x : Nat) (h : x < 256) : By (w.alloc (.cells #[.int .u8 (x : Int)] 5)) (some ⟨w.heap.size, 0, none⟩) 1 [x] :=
  By.alloc w [x] 5 (0, 0) #[.int .u8 (x : Int)] (fun i hi => by
    have : i = 0 := by simpa using hi
    subst this; rfl) (by simp) (fun y hy => by simp at hy; omega)
theorem mine_nil (w : World) (base : Nat) : Mine w base none 0 0 [] := ⟨World.ownsRow_nil _ _ _ _, fun _ => ⟨rfl, rfl⟩, Nat.le_refl _, by omega⟩

/-! ### Put -/
theorem leb_snoc : ∀ k n, leb (k + 1) n = leb k n ++ [n / 256 ^ k % 256]
  | 0, n => by simp [leb]
  | k + 1, n => by
    rw [leb, leb_snoc k (n / 256), leb, List.cons_append, Nat.div_div_eq_div_mul, Nat.pow_succ, Nat.mul_comm 256]
def putOkB (n : Nat) (width : Int) : Bool := decide (1 ≤ width) && decide (width ≤ 8) && decide (n / 256 ^ width.toNat = 0)
abbrev putOk (n : Nat) (width : Int) : Prop := putOkB n width = true
theorem putOk_iff (n : Nat) (width : Int) : putOk n width ↔ 1 ≤ width ∧ width ≤ 8 ∧ n / 256 ^ width.toNat = 0 := by
  unfold putOk putOkB
  simp [and_assoc]
def putL (n : Nat) (width : Int) : List Nat := if putOk n width then leb width.toNat n else []
def putE (n : Nat) (width : Int) : Int := if putOk n width then 0 else 2
theorem putE_le (n : Nat) (width : Int) : 0 ≤ putE n width ∧ putE n width ≤ 2 := by unfold putE; split <;> omega
theorem put_all (n : Nat) (width : Int) (w : World) (hn : n < 18446744073709551616) :
    Calls Try.prog 50 #[.int .u64 n, .int .i64 width] w fun e w' => ∃ a k c, e = .returned (.tuple #[.slice a k c, .int .i64 (putE n width)]) ∧ By w' a k (putL n width) ∧ Kept w w' none := by
  by_cases hw : width < 1 ∨ 8 < width
  · have ho : ¬ putOk n width := fun h => by obtain ⟨h1, h2, _⟩ := (putOk_iff _ _).1 h; omega
    unfold putE putL
    rw [if_neg ho, if_neg ho]
    refine (put_no_width n width w hw).mono ?_
    rintro e w ⟨rfl, rfl⟩
    exact ⟨none, 0, 0, rfl, By.nil _ _, Kept.refl _ _⟩
  · obtain ⟨q, rfl⟩ : ∃ q : Nat, width = (q : Int) := ⟨width.toNat, by omega⟩
    by_cases hz : n / 256 ^ q = 0
    · have ho : putOk n (q : Int) := (putOk_iff _ _).2 ⟨by omega, by omega, by simpa using hz⟩
      unfold putE putL
      rw [if_pos ho, if_pos ho]
      refine (put_yes n q w (by omega) (by omega) hn hz).mono ?_
      rintro e w' ⟨rfl, h1, h2, _⟩
      exact ⟨_, _, _, rfl, by simpa using h1, h2⟩
    · have ho : ¬ putOk n (q : Int) := fun h => hz (by have := ((putOk_iff _ _).1 h).2.2; simpa using this)
      unfold putE putL
      rw [if_neg ho, if_neg ho]
      refine (put_no n q w (by omega) (by omega) hn hz).mono ?_
      rintro e w ⟨rfl, rfl⟩
      exact ⟨none, 0, 0, rfl, By.nil _ _, Kept.refl _ _⟩
theorem rput_no_width (n width : Int) (w : World) (h : width < 1 ∨ 8 < width) :
    Calls Try.prog 61 #[.int .u64 n, .int .i64 width] w fun e w' => e = .returned (.tuple #[.slice none 0 0, .int .i64 2]) ∧ w' = w := by
  rcases h with h | h
  · go_enter Try.func61, Try.ntmps61
    go_wp2_with fail
    go_ret2
    exact ⟨rfl, rfl⟩
  · go_enter Try.func61, Try.ntmps61
    go_wp2_with fail
    go_ret2
    exact ⟨rfl, rfl⟩
set_option maxRecDepth 100000 in
set_option maxHeartbeats 1000000 in
theorem rput_main (n q : Nat) (w : World) (hn : n < 18446744073709551616) (h1 : 1 ≤ q) (h2 : q ≤ 8) :
    Calls Try.prog 61 #[.int .u64 n, .int .i64 q] w fun e w' => ∃ a k c, e = .returned (.tuple #[.slice a k c, .int .i64 (putE n q)]) ∧ By w' a k (putL n q) ∧ Kept w w' none := by
  have HP : Hid (putOk n (q : Int) ↔ n / 256 ^ q = 0) := by
    show _ ↔ _
    rw [putOk_iff]
    simp
    omega
  go_enter Try.func61, Try.ntmps61
  go_wp2
  go_loopw [0, 6, 7] (fun nv ov iv wr => ∃ k cur : Nat, ∃ a c, k ≤ q ∧ nv = .int .u64 cur ∧ cur = n / 256 ^ k ∧ ov = .slice a k c ∧ iv = .int .i64 k ∧ Mine wr w.heap.size a k c (leb k n) ∧ Kept w wr none ∧ cur < 18446744073709551616) (fun _ _ iv _ => q - (intOf iv).toNat)
  case atStart => exact ⟨0, n, none, 0, Nat.zero_le _, rfl, by simp, rfl, rfl, mine_nil _ _, Kept.refl _ _, hn⟩
  case round =>
    obtain ⟨k, cur, a, c, hk, rfl, hcur, rfl, rfl, hm, hkept, hc⟩ := hrel
    by_cases hlt : k < q
    · have HS : Hid (leb (k + 1) n = leb k n ++ [cur % 256]) := by show _ = _; rw [leb_snoc, ← hcur]
      have HD : Hid (cur / 256 = n / 256 ^ (k + 1)) := by show _ = _; rw [hcur, Nat.div_div_eq_div_mul, Nat.pow_succ]
      clear hcur
      have hb := by_one wr (cur % 256) (by omega)
      have he : (((cur % 256 : Nat) : Int)) = (cur : Int) % 256 := by omega
      rw [he] at hb
      have HB : Hid (By (wr.alloc (.cells #[.int .u8 ((cur : Int) % 256)] 5)) (some ⟨wr.heap.size, 0, none⟩) 1 [cur % 256]) := hb
      have HM : Hid (Mine wr w.heap.size a k c (leb k n)) := hm
      have hsz := hkept.size
      clear hb he hm
      go_wp2_with (at_builtin; refine wpList_join (by rfl) _ _ (by rfl) w.heap.size (.slice a k c) k (leb k n) (by rfl) (HM.out.own.alloc _) (some ⟨wr.heap.size, 0, none⟩) 1 1 [cur % 256] (by rfl) HB.out (fun e => (nomatch e)) (by omega) (by simp; omega) ?_; intro a2 c2 w2 hm2 hg2)
      go_roundw
      case rel => exact ⟨k + 1, cur / 256, a2, c2, by omega, by go_num, HD.out, rfl, by go_num, by rw [HS.out]; exact hm2, (hkept.tr (Kept.alloc _ _ _ _ _)).newRow hg2 HM.out.new, by omega⟩
      case measure => simp [intOf]; omega
    · have hkq : k = q := by omega
      subst hkq
      have HM : Hid (Mine wr w.heap.size a k c (leb k n)) := hm
      have HC : Hid (cur = n / 256 ^ k) := hcur
      clear hm hcur
      by_cases hz : 0 < cur
      · have ho : ¬ putOk n (k : Int) := by rw [HP.out, ← HC.out]; omega
        go_wp2
        go_ret2
        unfold putE putL
        rw [if_neg ho, if_neg ho]
        exact ⟨none, 0, 0, rfl, By.nil _ _, hkept⟩
      · have ho : putOk n (k : Int) := by rw [HP.out, ← HC.out]; omega
        go_wp2
        go_ret2
        unfold putE putL
        rw [if_pos ho, if_pos ho]
        exact ⟨a, k, c, rfl, by simpa using HM.out.by (leb_lt _ _), hkept⟩
theorem rput_all (n : Nat) (width : Int) (w : World) (hn : n < 18446744073709551616) :
    Calls Try.prog 61 #[.int .u64 n, .int .i64 width] w fun e w' => ∃ a k c, e = .returned (.tuple #[.slice a k c, .int .i64 (putE n width)]) ∧ By w' a k (putL n width) ∧ Kept w w' none := by
  by_cases hw : width < 1 ∨ 8 < width
  · have ho : ¬ putOk n width := fun h => by obtain ⟨h1, h2, _⟩ := (putOk_iff _ _).1 h; omega
    unfold putE putL
    rw [if_neg ho, if_neg ho]
    refine (rput_no_width n width w hw).mono ?_
    rintro e w ⟨rfl, rfl⟩
    exact ⟨none, 0, 0, rfl, By.nil _ _, Kept.refl _ _⟩
  · obtain ⟨q, rfl⟩ : ∃ q : Nat, width = (q : Int) := ⟨width.toNat, by omega⟩
    exact rput_main n q w hn (by omega) (by omega)

/-! ### Get -/
def getN (L : List Nat) : Nat := if 1 ≤ L.length ∧ L.length ≤ 8 then v256 L else 0
def getE (L : List Nat) : Nat := if 1 ≤ L.length ∧ L.length ≤ 8 then 0 else 8
theorem get_all {a : Option Addr} {len c : Nat} {L : List Nat} {w : World} (hB : By w a len L) :
    Calls Try.prog 71 #[.slice a len c] w fun e w' => e = .returned (.tuple #[.int .u64 ((getN L : Nat) : Int), .int .i64 ((getE L : Nat) : Int)]) ∧ ∃ m, w' = w.drewN m := by
  have hl := hB.size
  unfold getN getE
  by_cases h : 1 ≤ L.length ∧ L.length ≤ 8
  · rw [if_pos h, if_pos h]
    exact get_yes hB (by omega) (by omega)
  · rw [if_neg h, if_neg h]
    refine (get_no w (by omega) hB.max).mono ?_
    rintro e w ⟨rfl, rfl⟩
    exact ⟨rfl, 0, rfl⟩
theorem rget_no {a : Option Addr} {len c : Nat} (w : World) (h : len < 1 ∨ 8 < len) (h2 : len ≤ 9223372036854775807) :
    Calls Try.prog 85 #[.slice a len c] w fun e w' => e = .returned (.tuple #[.int .u64 0, .int .i64 8]) ∧ w' = w := by
  rcases h with h | h
  · go_enter Try.func85, Try.ntmps85
    go_wp2_with fail
    go_ret2
    exact ⟨rfl, rfl⟩
  · go_enter Try.func85, Try.ntmps85
    go_wp2_with fail
    go_ret2
    exact ⟨rfl, rfl⟩
theorem v256_drop (L : List Nat) (i : Nat) (h : i < L.length) : v256 (L.drop i) = L.getD i 0 + 256 * v256 (L.drop (i + 1)) := by
  rw [List.drop_eq_getElem_cons h, v256]; simp [h]
theorem v256_drop_lt (L : List Nat) (i : Nat) (hb : ∀ x ∈ L, x < 256) (h8 : L.length ≤ 8) : v256 (L.drop i) < 18446744073709551616 := by
  have := v256_lt (L.drop i) (fun x hx => hb x (List.mem_of_mem_drop hx))
  exact Nat.lt_of_lt_of_le this (Nat.le_trans (Nat.pow_le_pow_right (n := 256) (j := 8) (by omega) (by simp; omega)) (by decide))
set_option maxRecDepth 100000 in
theorem rget_yes {a : Option Addr} {len c : Nat} {L : List Nat} {w : World} (hB : By w a len L) (h1 : 1 ≤ len) (h2 : len ≤ 8) :
    Calls Try.prog 85 #[.slice a len c] w fun e w' => e = .returned (.tuple #[.int .u64 ((v256 L : Nat) : Int), .int .i64 0]) ∧ ∃ m, w' = w.drewN m := by
  obtain ⟨b, off, rfl, hb, hc⟩ := hB.at_ (by omega)
  have HL : Hid (L.length = len) := hB.size
  have HG : Hid (∀ i, L.getD i 0 < 256) := hB.getD
  have HX : Hid (∀ x ∈ L, x < 256) := hB.lt
  have HC : Hid (∀ i, i < len → w.cell? ⟨b, off + i, none⟩ = some (.int .u8 ((L.getD i 0 : Nat) : Int))) := hc
  clear hB hc
  go_enter Try.func85, Try.ntmps85
  go_wp2
  go_loopw [4, 5] (fun n i wr => ∃ k : Nat, k ≤ len ∧ n = .int .u64 ((v256 (L.drop k) : Nat) : Int) ∧ i = .int .i64 ((k : Int) - 1) ∧ ∃ m, wr = w.drewN m) (fun _ i _ => (intOf i + 1).toNat)
  case atStart => exact ⟨len, Nat.le_refl _, by rw [List.drop_of_length_le (by rw [HL.out]; exact Nat.le_refl _)]; rfl, rfl, 0, rfl⟩
  case round =>
    obtain ⟨k, hk, rfl, rfl, m, rfl⟩ := hrel
    by_cases hlt : 0 < k
    · obtain ⟨j, rfl⟩ : ∃ j, k = j + 1 := ⟨k - 1, by omega⟩
      have hcell := HC.out j (by omega)
      have hx := HG.out j
      have hn := v256_drop_lt L j HX.out (by rw [HL.out]; exact h2)
      have hd := v256_drop L j (by rw [HL.out]; omega)
      have HD : Hid (v256 (L.drop j) = L.getD j 0 + 256 * v256 (L.drop (j + 1))) := hd
      rw [hd] at hn
      clear hd
      generalize L.getD j 0 = x at *
      generalize v256 (L.drop (j + 1)) = v at *
      have hj : ((j + 1 : Nat) : Int) - 1 = (j : Int) := by omega
      rw [hj]
      go_wp2
      go_roundw
      case rel => exact ⟨j, by omega, by rw [HD.out]; go_num, by go_num, _, rfl⟩
      case measure => simp [intOf]
    · have hkq : k = 0 := by omega
      subst hkq
      rw [List.drop_zero]
      go_wp2
      go_ret2
      exact ⟨rfl, m, rfl⟩
theorem rget_all {a : Option Addr} {len c : Nat} {L : List Nat} {w : World} (hB : By w a len L) :
    Calls Try.prog 85 #[.slice a len c] w fun e w' => e = .returned (.tuple #[.int .u64 ((getN L : Nat) : Int), .int .i64 ((getE L : Nat) : Int)]) ∧ ∃ m, w' = w.drewN m := by
  have hl := hB.size
  unfold getN getE
  by_cases h : 1 ≤ L.length ∧ L.length ≤ 8
  · rw [if_pos h, if_pos h]
    exact rget_yes hB (by omega) (by omega)
  · rw [if_neg h, if_neg h]
    refine (rget_no w (by omega) hB.max).mono ?_
    rintro e w ⟨rfl, rfl⟩
    exact ⟨rfl, 0, rfl⟩

/-! ### Small -/
set_option maxRecDepth 100000 in
set_option maxHeartbeats 1000000 in
theorem rsmall_any (n : Nat) (w : World) (hn : n < 18446744073709551616) :
    Calls Try.prog 59 #[.int .u64 n] w fun e w' => ∃ a k c, e = .returned (.slice a k c) ∧ By w' a k (sml n) ∧ Kept w w' none := by
  have hl10 := sml_len10 n hn
  go_enter Try.func59, Try.ntmps59
  go_wp2
  go_loopw [0, 3] (fun nv lv wr => ∃ (cur k : Nat) (a : Option Addr) (c : Nat) (pre : List Nat), nv = .int .u64 cur ∧ lv = .slice a k c ∧ pre ++ sml cur = sml n ∧ cur < 18446744073709551616 ∧ Mine wr w.heap.size a k c pre ∧ Kept w wr none) (fun nv _ _ => (intOf nv).toNat)
  case atStart => exact ⟨n, 0, none, 0, [], rfl, rfl, rfl, hn, mine_nil _ _, Kept.refl _ _⟩
  case round =>
    obtain ⟨cur, k, a, c, pre, rfl, rfl, he, hc, hm, hkept⟩ := hrel
    have hpl : k + (sml cur).length = (sml n).length := by
      have := hm.own.1
      rw [← he]; simp at this ⊢; omega
    have hp := sml_pos cur
    have hk10 : k + 1 ≤ 10 := by omega
    have HM : Hid (Mine wr w.heap.size a k c pre) := hm
    have hsz := hkept.size
    clear hm
    by_cases hlt : 128 ≤ cur
    · have HE : Hid (pre ++ sml cur = sml n) := he
      have hb := by_one wr (cur % 128 + 128) (by omega)
      have hee : (((cur % 128 + 128 : Nat) : Int)) = (cur : Int) % 128 + 128 := by omega
      rw [hee] at hb
      have HB : Hid (By (wr.alloc (.cells #[.int .u8 ((cur : Int) % 128 + 128)] 5)) (some ⟨wr.heap.size, 0, none⟩) 1 [cur % 128 + 128]) := hb
      clear he hpl hb hee
      go_wp2_with (at_builtin; refine wpList_join (by rfl) _ _ (by rfl) w.heap.size (.slice a k c) k pre (by rfl) (HM.out.own.alloc _) (some ⟨wr.heap.size, 0, none⟩) 1 1 [cur % 128 + 128] (by rfl) HB.out (fun e => (nomatch e)) (by omega) (by simp; omega) ?_; intro a2 c2 w2 hm2 hg2)
      go_roundw
      case rel => exact ⟨cur / 128, k + 1, a2, c2, pre ++ [cur % 128 + 128], by go_num, rfl, by rw [List.append_assoc, List.singleton_append, ← sml_hi hlt]; exact HE.out, by omega, hm2, (hkept.tr (Kept.alloc _ _ _ _ _)).newRow hg2 HM.out.new⟩
      case measure => simp [intOf]; omega
    · rw [sml_lo (by omega)] at he
      have HE : Hid (pre ++ [cur] = sml n) := he
      have HB : Hid (By (wr.alloc (.cells #[.int .u8 (cur : Int)] 5)) (some ⟨wr.heap.size, 0, none⟩) 1 [cur]) := by_one wr cur (by omega)
      clear he hpl
      go_wp2_with (at_builtin; refine wpList_join (by rfl) _ _ (by rfl) w.heap.size (.slice a k c) k pre (by rfl) (HM.out.own.alloc _) (some ⟨wr.heap.size, 0, none⟩) 1 1 [cur] (by rfl) HB.out (fun e => (nomatch e)) (by omega) (by simp; omega) ?_; intro a2 c2 w2 hm2 hg2)
      go_ret
      rw [HE.out] at hm2
      exact ⟨a2, k + 1, c2, rfl, hm2.by (sml_lt n), (hkept.tr (Kept.alloc _ _ _ _ _)).newRow hg2 HM.out.new⟩

end Go.Proofs.Ytabikoipjaggbaa
