/-
  Texts joined: some of those that the proofs of this seat stand on.
-/
import Derived.Test.YtlabjamkaebnjaaSmallJ
import Derived.Test.YtlabjamkaebnjaaStorM
import Derived.Test.YtlabjamkaebnjaaBlkBJ
import Derived.Lib.AppendZerosOnto
import Derived.Lib.AppendZeros
/-
  THE CONTRACTS of the document's Put, Get, Small, Read (stoplineref03), and of the program's own, in one form for all inputs.
-/
namespace Go.Proofs.Ytlabjamkaebnjaa
open Go.RowKit Go.Lib Go.Deep
set_option linter.unusedVariables false
set_option linter.unusedSimpArgs false

theorem by_one (w : World) (x : Nat) (h : x < 256) : By (w.alloc (.cells #[.int .u8 (x : Int)] 5)) (some ⟨w.heap.size, 0, none⟩) 1 [x] :=
  By.alloc w [x] 5 (0, 0) #[.int .u8 (x : Int)] (fun i hi => by
    have : i = 0 := by simpa using hi
    subst this; rfl) (by simp) (fun y hy => by simp at hy; omega)
theorem mine_nil (w : World) (base : Nat) : Mine w base none 0 0 [] := ⟨World.ownsRow_nil _ _ _ _, fun _ => ⟨rfl, rfl⟩, Nat.le_refl _, by omega⟩

/-! ### Put -/
theorem leb_snoc : ∀ k n, leb (k + 1) n = leb k n ++ [n / 256 ^ k % 256]
  | 0, n => by simp [leb]
  | k + 1, n => by
    rw [leb, leb_snoc k (n / 256), leb, List.cons_append, Nat.div_div_eq_div_mul, Nat.pow_succ, Nat.mul_comm 256]
def putOkB (n : Nat) (width : Int) : Bool := decide (1 ≤ width) && decide (width ≤ 8) && decide (n / 256 ^ width.toNat = 0)
abbrev putOk (n : Nat) (width : Int) : Prop := putOkB n width = true
theorem putOk_iff (n : Nat) (width : Int) : putOk n width ↔ 1 ≤ width ∧ width ≤ 8 ∧ n / 256 ^ width.toNat = 0 := by
  unfold putOk putOkB
  simp [and_assoc]
def putL (n : Nat) (width : Int) : List Nat := if putOk n width then leb width.toNat n else []
def putE (n : Nat) (width : Int) : Int := if putOk n width then 0 else 2
theorem putE_le (n : Nat) (width : Int) : 0 ≤ putE n width ∧ putE n width ≤ 2 := by unfold putE; split <;> omega
theorem put_all (n : Nat) (width : Int) (w : World) (hn : n < 18446744073709551616) :
    Calls Try.prog 46 #[.int .u64 n, .int .i64 width] w fun e w' => ∃ a k c, e = .returned (.tuple #[.slice a k c, .int .i64 (putE n width)]) ∧ By w' a k (putL n width) ∧ Kept w w' none := by
  by_cases hw : width < 1 ∨ 8 < width
  · have ho : ¬ putOk n width := fun h => by obtain ⟨h1, h2, _⟩ := (putOk_iff _ _).1 h; omega
    unfold putE putL
    rw [if_neg ho, if_neg ho]
    refine (put_no_width n width w hw).mono ?_
    rintro e w ⟨rfl, rfl⟩
    exact ⟨none, 0, 0, rfl, By.nil _ _, Kept.refl _ _⟩
  · obtain ⟨q, rfl⟩ : ∃ q : Nat, width = (q : Int) := ⟨width.toNat, by omega⟩
    by_cases hz : n / 256 ^ q = 0
    · have ho : putOk n (q : Int) := (putOk_iff _ _).2 ⟨by omega, by omega, by simpa using hz⟩
      unfold putE putL
      rw [if_pos ho, if_pos ho]
      refine (put_yes n q w (by omega) (by omega) hn hz).mono ?_
      rintro e w' ⟨rfl, h1, h2, _⟩
      exact ⟨_, _, _, rfl, by simpa using h1, h2⟩
    · have ho : ¬ putOk n (q : Int) := fun h => hz (by have := ((putOk_iff _ _).1 h).2.2; simpa using this)
      unfold putE putL
      rw [if_neg ho, if_neg ho]
      refine (put_no n q w (by omega) (by omega) hn hz).mono ?_
      rintro e w ⟨rfl, rfl⟩
      exact ⟨none, 0, 0, rfl, By.nil _ _, Kept.refl _ _⟩
theorem rput_no_width (n width : Int) (w : World) (h : width < 1 ∨ 8 < width) :
    Calls Try.prog 51 #[.int .u64 n, .int .i64 width] w fun e w' => e = .returned (.tuple #[.slice none 0 0, .int .i64 2]) ∧ w' = w := by
  rcases h with h | h
  · go_enter Try.func51, Try.ntmps51
    go_wp2_with fail
    go_ret2
    exact ⟨rfl, rfl⟩
  · go_enter Try.func51, Try.ntmps51
    go_wp2_with fail
    go_ret2
    exact ⟨rfl, rfl⟩
set_option maxRecDepth 100000 in
set_option maxHeartbeats 1000000 in
theorem rput_main (n q : Nat) (w : World) (hn : n < 18446744073709551616) (h1 : 1 ≤ q) (h2 : q ≤ 8) :
    Calls Try.prog 51 #[.int .u64 n, .int .i64 q] w fun e w' => ∃ a k c, e = .returned (.tuple #[.slice a k c, .int .i64 (putE n q)]) ∧ By w' a k (putL n q) ∧ Kept w w' none := by
  have HP : Hid (putOk n (q : Int) ↔ n / 256 ^ q = 0) := by
    show _ ↔ _
    rw [putOk_iff]
    simp
    omega
  go_enter Try.func51, Try.ntmps51
  go_wp2
  go_loopw [0, 6, 7] (fun nv ov iv wr => ∃ k cur : Nat, ∃ a c, k ≤ q ∧ nv = .int .u64 cur ∧ cur = n / 256 ^ k ∧ ov = .slice a k c ∧ iv = .int .i64 k ∧ Mine wr w.heap.size a k c (leb k n) ∧ Kept w wr none ∧ cur < 18446744073709551616) (fun _ _ iv _ => q - (intOf iv).toNat)
  case atStart => exact ⟨0, n, none, 0, Nat.zero_le _, rfl, by simp, rfl, rfl, mine_nil _ _, Kept.refl _ _, hn⟩
  case round =>
    obtain ⟨k, cur, a, c, hk, rfl, hcur, rfl, rfl, hm, hkept, hc⟩ := hrel
    by_cases hlt : k < q
    · have HS : Hid (leb (k + 1) n = leb k n ++ [cur % 256]) := by show _ = _; rw [leb_snoc, ← hcur]
      have HD : Hid (cur / 256 = n / 256 ^ (k + 1)) := by show _ = _; rw [hcur, Nat.div_div_eq_div_mul, Nat.pow_succ]
      clear hcur
      have hb := by_one wr (cur % 256) (by omega)
      have he : (((cur % 256 : Nat) : Int)) = (cur : Int) % 256 := by omega
      rw [he] at hb
      have HB : Hid (By (wr.alloc (.cells #[.int .u8 ((cur : Int) % 256)] 5)) (some ⟨wr.heap.size, 0, none⟩) 1 [cur % 256]) := hb
      have HM : Hid (Mine wr w.heap.size a k c (leb k n)) := hm
      have hsz := hkept.size
      clear hb he hm
      go_wp2_with (at_builtin; refine wpList_join (by rfl) _ _ (by rfl) w.heap.size (.slice a k c) k (leb k n) (by rfl) (HM.out.own.alloc _) (some ⟨wr.heap.size, 0, none⟩) 1 1 [cur % 256] (by rfl) HB.out (fun e => (nomatch e)) (by omega) (by simp; omega) ?_; intro a2 c2 w2 hm2 hg2)
      go_roundw
      case rel => exact ⟨k + 1, cur / 256, a2, c2, by omega, by go_num, HD.out, rfl, by go_num, by rw [HS.out]; exact hm2, (hkept.tr (Kept.alloc _ _ _ _ _)).newRow hg2 HM.out.new, by omega⟩
      case measure => simp [intOf]; omega
    · have hkq : k = q := by omega
      subst hkq
      have HM : Hid (Mine wr w.heap.size a k c (leb k n)) := hm
      have HC : Hid (cur = n / 256 ^ k) := hcur
      clear hm hcur
      by_cases hz : 0 < cur
      · have ho : ¬ putOk n (k : Int) := by rw [HP.out, ← HC.out]; omega
        go_wp2
        go_ret2
        unfold putE putL
        rw [if_neg ho, if_neg ho]
        exact ⟨none, 0, 0, rfl, By.nil _ _, hkept⟩
      · have ho : putOk n (k : Int) := by rw [HP.out, ← HC.out]; omega
        go_wp2
        go_ret2
        unfold putE putL
        rw [if_pos ho, if_pos ho]
        exact ⟨a, k, c, rfl, by simpa using HM.out.by (leb_lt _ _), hkept⟩
theorem rput_all (n : Nat) (width : Int) (w : World) (hn : n < 18446744073709551616) :
    Calls Try.prog 51 #[.int .u64 n, .int .i64 width] w fun e w' => ∃ a k c, e = .returned (.tuple #[.slice a k c, .int .i64 (putE n width)]) ∧ By w' a k (putL n width) ∧ Kept w w' none := by
  by_cases hw : width < 1 ∨ 8 < width
  · have ho : ¬ putOk n width := fun h => by obtain ⟨h1, h2, _⟩ := (putOk_iff _ _).1 h; omega
    unfold putE putL
    rw [if_neg ho, if_neg ho]
    refine (rput_no_width n width w hw).mono ?_
    rintro e w ⟨rfl, rfl⟩
    exact ⟨none, 0, 0, rfl, By.nil _ _, Kept.refl _ _⟩
  · obtain ⟨q, rfl⟩ : ∃ q : Nat, width = (q : Int) := ⟨width.toNat, by omega⟩
    exact rput_main n q w hn (by omega) (by omega)

/-! ### Get -/
def getN (L : List Nat) : Nat := if 1 ≤ L.length ∧ L.length ≤ 8 then v256 L else 0
def getE (L : List Nat) : Nat := if 1 ≤ L.length ∧ L.length ≤ 8 then 0 else 8
theorem get_all {a : Option Addr} {len c : Nat} {L : List Nat} {w : World} (hB : By w a len L) :
    Calls Try.prog 64 #[.slice a len c] w fun e w' => e = .returned (.tuple #[.int .u64 ((getN L : Nat) : Int), .int .i64 ((getE L : Nat) : Int)]) ∧ ∃ m, w' = w.drewN m := by
  have hl := hB.size
  unfold getN getE
  by_cases h : 1 ≤ L.length ∧ L.length ≤ 8
  · rw [if_pos h, if_pos h]
    exact get_yes hB (by omega) (by omega)
  · rw [if_neg h, if_neg h]
    refine (get_no w (by omega) hB.max).mono ?_
    rintro e w ⟨rfl, rfl⟩
    exact ⟨rfl, 0, rfl⟩
theorem rget_no {a : Option Addr} {len c : Nat} (w : World) (h : len < 1 ∨ 8 < len) (h2 : len ≤ 9223372036854775807) :
    Calls Try.prog 68 #[.slice a len c] w fun e w' => e = .returned (.tuple #[.int .u64 0, .int .i64 8]) ∧ w' = w := by
  rcases h with h | h
  · go_enter Try.func68, Try.ntmps68
    go_wp2_with fail
    go_ret2
    exact ⟨rfl, rfl⟩
  · go_enter Try.func68, Try.ntmps68
    go_wp2_with fail
    go_ret2
    exact ⟨rfl, rfl⟩
theorem v256_drop (L : List Nat) (i : Nat) (h : i < L.length) : v256 (L.drop i) = L.getD i 0 + 256 * v256 (L.drop (i + 1)) := by
  rw [List.drop_eq_getElem_cons h, v256]; simp [h]
theorem v256_drop_lt (L : List Nat) (i : Nat) (hb : ∀ x ∈ L, x < 256) (h8 : L.length ≤ 8) : v256 (L.drop i) < 18446744073709551616 := by
  have := v256_lt (L.drop i) (fun x hx => hb x (List.mem_of_mem_drop hx))
  exact Nat.lt_of_lt_of_le this (Nat.le_trans (Nat.pow_le_pow_right (n := 256) (j := 8) (by omega) (by simp; omega)) (by decide))
set_option maxRecDepth 100000 in
theorem rget_yes {a : Option Addr} {len c : Nat} {L : List Nat} {w : World} (hB : By w a len L) (h1 : 1 ≤ len) (h2 : len ≤ 8) :
    Calls Try.prog 68 #[.slice a len c] w fun e w' => e = .returned (.tuple #[.int .u64 ((v256 L : Nat) : Int), .int .i64 0]) ∧ ∃ m, w' = w.drewN m := by
  obtain ⟨b, off, rfl, hb, hc⟩ := hB.at_ (by omega)
  have HL : Hid (L.length = len) := hB.size
  have HG : Hid (∀ i, L.getD i 0 < 256) := hB.getD
  have HX : Hid (∀ x ∈ L, x < 256) := hB.lt
  have HC : Hid (∀ i, i < len → w.cell? ⟨b, off + i, none⟩ = some (.int .u8 ((L.getD i 0 : Nat) : Int))) := hc
  clear hB hc
  go_enter Try.func68, Try.ntmps68
  go_wp2
  go_loopw [4, 5] (fun n i wr => ∃ k : Nat, k ≤ len ∧ n = .int .u64 ((v256 (L.drop k) : Nat) : Int) ∧ i = .int .i64 ((k : Int) - 1) ∧ ∃ m, wr = w.drewN m) (fun _ i _ => (intOf i + 1).toNat)
  case atStart => exact ⟨len, Nat.le_refl _, by rw [List.drop_of_length_le (by rw [HL.out]; exact Nat.le_refl _)]; rfl, rfl, 0, rfl⟩
  case round =>
    obtain ⟨k, hk, rfl, rfl, m, rfl⟩ := hrel
    by_cases hlt : 0 < k
    · obtain ⟨j, rfl⟩ : ∃ j, k = j + 1 := ⟨k - 1, by omega⟩
      have hcell := HC.out j (by omega)
      have hx := HG.out j
      have hn := v256_drop_lt L j HX.out (by rw [HL.out]; exact h2)
      have hd := v256_drop L j (by rw [HL.out]; omega)
      have HD : Hid (v256 (L.drop j) = L.getD j 0 + 256 * v256 (L.drop (j + 1))) := hd
      rw [hd] at hn
      clear hd
      generalize L.getD j 0 = x at *
      generalize v256 (L.drop (j + 1)) = v at *
      have hj : ((j + 1 : Nat) : Int) - 1 = (j : Int) := by omega
      rw [hj]
      go_wp2
      go_roundw
      case rel => exact ⟨j, by omega, by rw [HD.out]; go_num, by go_num, _, rfl⟩
      case measure => simp [intOf]
    · have hkq : k = 0 := by omega
      subst hkq
      rw [List.drop_zero]
      go_wp2
      go_ret2
      exact ⟨rfl, m, rfl⟩
theorem rget_all {a : Option Addr} {len c : Nat} {L : List Nat} {w : World} (hB : By w a len L) :
    Calls Try.prog 68 #[.slice a len c] w fun e w' => e = .returned (.tuple #[.int .u64 ((getN L : Nat) : Int), .int .i64 ((getE L : Nat) : Int)]) ∧ ∃ m, w' = w.drewN m := by
  have hl := hB.size
  unfold getN getE
  by_cases h : 1 ≤ L.length ∧ L.length ≤ 8
  · rw [if_pos h, if_pos h]
    exact rget_yes hB (by omega) (by omega)
  · rw [if_neg h, if_neg h]
    refine (rget_no w (by omega) hB.max).mono ?_
    rintro e w ⟨rfl, rfl⟩
    exact ⟨rfl, 0, rfl⟩

/-! ### Small -/
set_option maxRecDepth 100000 in
set_option maxHeartbeats 1000000 in
theorem rsmall_any (n : Nat) (w : World) (hn : n < 18446744073709551616) :
    Calls Try.prog 49 #[.int .u64 n] w fun e w' => ∃ a k c, e = .returned (.slice a k c) ∧ By w' a k (sml n) ∧ Kept w w' none := by
  have hl10 := sml_len10 n hn
  go_enter Try.func49, Try.ntmps49
  go_wp2
  go_loopw [0, 3] (fun nv lv wr => ∃ (cur k : Nat) (a : Option Addr) (c : Nat) (pre : List Nat), nv = .int .u64 cur ∧ lv = .slice a k c ∧ pre ++ sml cur = sml n ∧ cur < 18446744073709551616 ∧ Mine wr w.heap.size a k c pre ∧ Kept w wr none) (fun nv _ _ => (intOf nv).toNat)
  case atStart => exact ⟨n, 0, none, 0, [], rfl, rfl, rfl, hn, mine_nil _ _, Kept.refl _ _⟩
  case round =>
    obtain ⟨cur, k, a, c, pre, rfl, rfl, he, hc, hm, hkept⟩ := hrel
    have hpl : k + (sml cur).length = (sml n).length := by
      have := hm.own.1
      rw [← he]; simp at this ⊢; omega
    have hp := sml_pos cur
    have hk10 : k + 1 ≤ 10 := by omega
    have HM : Hid (Mine wr w.heap.size a k c pre) := hm
    have hsz := hkept.size
    clear hm
    by_cases hlt : 128 ≤ cur
    · have HE : Hid (pre ++ sml cur = sml n) := he
      have hb := by_one wr (cur % 128 + 128) (by omega)
      have hee : (((cur % 128 + 128 : Nat) : Int)) = (cur : Int) % 128 + 128 := by omega
      rw [hee] at hb
      have HB : Hid (By (wr.alloc (.cells #[.int .u8 ((cur : Int) % 128 + 128)] 5)) (some ⟨wr.heap.size, 0, none⟩) 1 [cur % 128 + 128]) := hb
      clear he hpl hb hee
      go_wp2_with (at_builtin; refine wpList_join (by rfl) _ _ (by rfl) w.heap.size (.slice a k c) k pre (by rfl) (HM.out.own.alloc _) (some ⟨wr.heap.size, 0, none⟩) 1 1 [cur % 128 + 128] (by rfl) HB.out (fun e => (nomatch e)) (by omega) (by simp; omega) ?_; intro a2 c2 w2 hm2 hg2)
      go_roundw
      case rel => exact ⟨cur / 128, k + 1, a2, c2, pre ++ [cur % 128 + 128], by go_num, rfl, by rw [List.append_assoc, List.singleton_append, ← sml_hi hlt]; exact HE.out, by omega, hm2, (hkept.tr (Kept.alloc _ _ _ _ _)).newRow hg2 HM.out.new⟩
      case measure => simp [intOf]; omega
    · rw [sml_lo (by omega)] at he
      have HE : Hid (pre ++ [cur] = sml n) := he
      have HB : Hid (By (wr.alloc (.cells #[.int .u8 (cur : Int)] 5)) (some ⟨wr.heap.size, 0, none⟩) 1 [cur]) := by_one wr cur (by omega)
      clear he hpl
      go_wp2_with (at_builtin; refine wpList_join (by rfl) _ _ (by rfl) w.heap.size (.slice a k c) k pre (by rfl) (HM.out.own.alloc _) (some ⟨wr.heap.size, 0, none⟩) 1 1 [cur] (by rfl) HB.out (fun e => (nomatch e)) (by omega) (by simp; omega) ?_; intro a2 c2 w2 hm2 hg2)
      go_ret
      rw [HE.out] at hm2
      exact ⟨a2, k + 1, c2, rfl, hm2.by (sml_lt n), (hkept.tr (Kept.alloc _ _ _ _ _)).newRow hg2 HM.out.new⟩

end Go.Proofs.Ytlabjamkaebnjaa

/-
  LISTS OF BLOCKS IN MEMORY; the numbers at a block's two ends; two lists held against one another.
-/
namespace Go.Proofs.Ytlabjamkaebnjaa
open Go.RowKit Go.Lib Go.Deep
set_option linter.unusedVariables false
set_option linter.unusedSimpArgs false

theorem Try.infoB2 : (Try.prog.info? 22).map (fun i => (i.zero, i.size, i.bytes)) = some (some (.slice none 0 0), 1, 24) := by kernel_rfl
theorem Try.uB2 : Try.prog.underlying 64 = some (.slice 22) := by kernel_rfl
/-- A list of slices of bytes, at block H or behind it. -/
structure Bl (w : World) (H : Nat) (la : Option Addr) (m : Nat) (B : List (List Nat)) : Prop where
  size : B.length = m
  max : m ≤ 1000000
  at_ : 0 < m → ∃ b off, la = some ⟨b, off, none⟩ ∧ H ≤ b ∧ b < w.heap.size ∧ ∀ i p, B[i]? = some p → ∃ a c, w.cell? ⟨b, off + i, none⟩ = some (.slice a p.length c) ∧ Come w a p.length c p ∧ (∀ x, a = some x → H ≤ x.block)
theorem Bl.kept {w w' : World} {H : Nat} {la : Option Addr} {m : Nat} {B : List (List Nat)} (h : Bl w H la m B) (k : Kept w w' none) : Bl w' H la m B := by
  refine ⟨h.size, h.max, fun hp => ?_⟩
  obtain ⟨b, off, rfl, hH, hb, hc⟩ := h.at_ hp
  refine ⟨b, off, rfl, hH, Nat.lt_of_lt_of_le hb k.size, fun i p hp => ?_⟩
  obtain ⟨a, c, h1, h2, h3⟩ := hc i p hp
  exact ⟨a, c, (cell_kpt k hb).trans h1, h2.kpt k, h3⟩
theorem Bl.mono {w : World} {H H' : Nat} {la : Option Addr} {m : Nat} {B : List (List Nat)} (h : Bl w H la m B) (k : H' ≤ H) : Bl w H' la m B := by
  refine ⟨h.size, h.max, fun hp => ?_⟩
  obtain ⟨b, off, rfl, hH, hb, hc⟩ := h.at_ hp
  refine ⟨b, off, rfl, Nat.le_trans k hH, hb, fun i p hp => ?_⟩
  obtain ⟨a, c, h1, h2, h3⟩ := hc i p hp
  exact ⟨a, c, h1, h2, fun x e => Nat.le_trans k (h3 x e)⟩
theorem Bl.nil (w : World) (H : Nat) (la : Option Addr) : Bl w H la 0 [] := ⟨rfl, by omega, fun h => absurd h (by omega)⟩
theorem Bl.lt {w : World} {H : Nat} {la : Option Addr} {m : Nat} {B : List (List Nat)} (h : Bl w H la m B) : ∀ p ∈ B, ∀ x ∈ p, x < 256 := by
  intro p hp
  obtain ⟨i, hi, rfl⟩ := List.mem_iff_getElem.1 hp
  obtain ⟨b, off, _, _, _, hc⟩ := h.at_ (by have := h.size; omega)
  obtain ⟨a, c, _, h4, _⟩ := hc i B[i] (by simp)
  exact h4.by_.lt
/-- The n'th one. -/
theorem Bl.get {w : World} {H : Nat} {la : Option Addr} {m : Nat} {B : List (List Nat)} (h : Bl w H la m B) {i : Nat} (hi : i < m) : ∃ b off a c, la = some ⟨b, off, none⟩ ∧ b < w.heap.size ∧ w.cell? ⟨b, off + i, none⟩ = some (.slice a (B.getD i []).length c) ∧ Come w a (B.getD i []).length c (B.getD i []) := by
  obtain ⟨b, off, e, _, hb, hc⟩ := h.at_ (by omega)
  have hs := h.size
  have hl : i < B.length := by omega
  have e2 : B.getD i [] = B[i] := by simp [hl]
  obtain ⟨a, c, h1, h2, _⟩ := hc i B[i] (by simp)
  exact ⟨b, off, a, c, e, hb, by rw [e2]; exact h1, by rw [e2]; exact h2⟩

theorem By.subN {w : World} {b off n : Nat} {L : List Nat} (h : By w (some ⟨b, off, none⟩) n L) {i k : Nat} (hik : i + k ≤ n) : By w (some ⟨b, off + i, none⟩) k ((L.drop i).take k) := by
  have hs := h.size
  have hm := h.max
  refine ⟨by rw [List.length_take, List.length_drop]; omega, by omega, fun x hx => h.lt x (List.mem_of_mem_drop (List.mem_of_mem_take hx)), fun hp => ?_⟩
  obtain ⟨b', off', e, hb, hc⟩ := h.at_ (by omega)
  injection e with e
  injection e with e1 e2 e3
  subst e1 e2
  refine ⟨b, off + i, rfl, hb, fun j hj => ?_⟩
  rw [Nat.add_assoc, hc (i + j) (by omega)]
  congr 2
  have : ((L.drop i).take k).getD j 0 = L.getD (i + j) 0 := by
    simp [List.getD_eq_getElem?_getD, List.getElem?_take, hj]
  rw [this]
theorem Come.subN {w : World} {b off n c : Nat} {L : List Nat} (h : Come w (some ⟨b, off, none⟩) n c L) {i k : Nat} (hik : i + k ≤ n) : Come w (some ⟨b, off + i, none⟩) k (c - i) ((L.drop i).take k) := by
  have h1 := h.room
  have h2 := h.max
  exact ⟨h.by_.subN hik, fun e => (nomatch e), by omega, by omega⟩
theorem getN_8 {L : List Nat} (h : L.length = 8) : getN L = v256 L := by
  unfold getN
  rw [if_pos ⟨by omega, by omega⟩]
theorem mineCome {w : World} {base : Nat} {a : Option Addr} {n c : Nat} {L : List Nat} (h : Mine w base a n c L) (hl : ∀ x ∈ L, x < 256) : Come w a n c L := ⟨h.by hl, fun e => (h.nil e).2, h.room, h.max⟩
theorem mineAt {w : World} {base : Nat} {a : Option Addr} {n c : Nat} {L : List Nat} (h : Mine w base a n c L) : ∀ x, a = some x → base ≤ x.block := fun x e => by subst e; exact h.new x.block (by simp [Value.ownBlock])
theorem kept_trR {w w1 w2 : World} {r : Option Nat} (h : Kept w w1 r) (k : Kept w1 w2 r) : Kept w w2 r := ⟨k.os.trans h.os, k.tape.trans h.tape, k.output.trans h.output, Nat.le_trans h.size k.size, fun i hi hne => (k.block i (Nat.lt_of_lt_of_le hi h.size) hne).trans (h.block i hi hne)⟩
theorem kept_drwN (w : World) (m : Nat) : Kept w (w.drewN m) none := Kept.drewN _ _ _

theorem first_any {a : Option Addr} {c : Nat} {L : List Nat} {w : World} (h : Come w a 64 c L) :
    Calls Try.prog 44 #[.slice a 64 c] w fun e w' => e = .returned (.int .u64 ((begN L : Nat) : Int)) ∧ Kept w w' none := by
  obtain ⟨b, off, rfl, hb, _⟩ := h.by_.at_ (by omega)
  have HS := Hid.mk' (h.by_.subN (i := 0) (k := 8) (by omega))
  rw [List.drop_zero, Nat.add_zero] at HS
  have hs := h.by_.size
  have HN : Hid (getN (L.take 8) = begN L) := Hid.mk' (by rw [getN_8 (by rw [List.length_take]; omega)]; rfl)
  have hr := h.room
  have hm := h.max
  clear h hs
  go_enter Try.func44, Try.ntmps44
  go_wp2_with (go_at_call 64; refine (get_all HS.out).mono ?_; rintro e w2 ⟨rfl, m, rfl⟩)
  go_ret
  exact ⟨by rw [HN.out]; rfl, kept_drwN _ _⟩
theorem last_any {a : Option Addr} {c : Nat} {L : List Nat} {w : World} (h : Come w a 64 c L) :
    Calls Try.prog 45 #[.slice a 64 c] w fun e w' => e = .returned (.int .u64 ((endN L : Nat) : Int)) ∧ Kept w w' none := by
  obtain ⟨b, off, rfl, hb, _⟩ := h.by_.at_ (by omega)
  have HS := Hid.mk' (h.by_.subN (i := 56) (k := 8) (by omega))
  have hs := h.by_.size
  have HN : Hid (getN ((L.drop 56).take 8) = endN L) := Hid.mk' (by
    rw [List.take_of_length_le (by rw [List.length_drop]; omega), getN_8 (by rw [List.length_drop]; omega)]
    rfl)
  have hr := h.room
  have hm := h.max
  clear h hs
  go_enter Try.func45, Try.ntmps45
  go_wp2_with (go_at_call 64; refine (get_all HS.out).mono ?_; rintro e w2 ⟨rfl, m, rfl⟩)
  go_ret
  exact ⟨by rw [HN.out]; rfl, kept_drwN _ _⟩

/-! ### Two lists held against one another -/
theorem take_eq_snoc {A B : List (List Nat)} {k : Nat} (ha : k < A.length) (hb : k < B.length) : (A.take (k + 1) = B.take (k + 1)) = (A.take k = B.take k ∧ A.getD k [] = B.getD k []) := by
  have e1 : A.getD k [] = A[k] := by simp [ha]
  have e2 : B.getD k [] = B[k] := by simp [hb]
  rw [e1, e2, List.take_succ_eq_append_getElem ha, List.take_succ_eq_append_getElem hb]
  apply propext
  constructor
  · intro h
    have := List.append_inj h (by rw [List.length_take, List.length_take]; omega)
    exact ⟨this.1, by simpa using this.2⟩
  · rintro ⟨h1, h2⟩
    rw [h1, h2]
set_option maxRecDepth 100000 in
set_option maxHeartbeats 1000000 in
theorem equf_any {a b : Option Addr} {m k c d : Nat} {A B : List (List Nat)} {w : World} (hA : Bl w 0 a m A) (hB : Bl w 0 b k B) :
    Calls Try.prog 76 #[.slice a m c, .slice b k d, .func (.func 77) #[] #[]] w fun e w' => e = .returned (.bool (decide (A = B))) ∧ Kept w w' none := by
  have HA := Hid.mk' hA
  have HB := Hid.mk' hB
  have hm := hA.max
  have hk := hB.max
  have hsa := Hid.mk' hA.size
  have hsb := Hid.mk' hB.size
  clear hA hB
  by_cases hmk : m = k
  · subst hmk
    go_enter Try.func76, Try.ntmps76
    go_wp2
    go_loopw [17] (fun i wr => ∃ q : Nat, q ≤ m ∧ i = .int .i64 q ∧ Hid (A.take q = B.take q) ∧ Kept w wr none) (fun i _ => m - (intOf i).toNat)
    case atStart => exact ⟨0, Nat.zero_le _, rfl, Hid.mk' rfl, Kept.refl _ _⟩
    case round =>
      obtain ⟨q, hq, rfl, hE, hkr⟩ := hrel
      have HK := Hid.mk' hkr
      by_cases hlt : q < m
      · obtain ⟨b1, o1, a1, c1, rfl, hb1, p1, hC1⟩ := (HA.out.kept hkr).get hlt
        obtain ⟨b2, o2, a2, c2, rfl, hb2, p2, hC2⟩ := (HB.out.kept hkr).get hlt
        have HQ := Hid.mk' (bequ_any (c := c1) (d := c2) hC1.by_ hC2.by_)
        have HS : Hid ((A.take (q + 1) = B.take (q + 1)) = (A.take q = B.take q ∧ A.getD q [] = B.getD q [])) := Hid.mk' (take_eq_snoc (by rw [hsa.out]; exact hlt) (by rw [hsb.out]; exact hlt))
        have hl1 := hC1.by_.max
        have hl2 := hC2.by_.max
        clear hC1 hC2 hkr
        generalize hx : A.getD q [] = x at *
        generalize hy : B.getD q [] = y at *
        clear hx hy
        by_cases hxy : x = y
        · have HD : Hid (decide (x = y) = true) := decide_eq_true hxy
          have HXY := Hid.mk' hxy
          clear hxy
          go_wp2_with (go_at_call 77; refine HQ.out.mono ?_; rw [HD.out]; rintro e w2 ⟨rfl, rfl⟩)
          go_roundw
          case rel => exact ⟨q + 1, by omega, by go_num, Hid.mk' (by rw [HS.out]; exact ⟨hE.out, HXY.out⟩), HK.out⟩
          case measure => simp [intOf]; omega
        · have HD : Hid (decide (x = y) = false) := decide_eq_false hxy
          have HXY := Hid.mk' hxy
          clear hxy
          go_wp2_with (go_at_call 77; refine HQ.out.mono ?_; rw [HD.out]; rintro e w2 ⟨rfl, rfl⟩)
          go_ret
          have hne : A = B → x = y := fun e => by
            have : A.take (q + 1) = B.take (q + 1) := by rw [e]
            rw [HS.out] at this
            exact this.2
          rw [show decide (A = B) = false from decide_eq_false (fun e => HXY.out (hne e))]
          exact ⟨rfl, HK.out⟩
      · have hqm : q = m := by omega
        subst hqm
        go_wp2
        go_ret
        have e := hE.out
        rw [List.take_of_length_le (by rw [hsa.out]; exact Nat.le_refl _), List.take_of_length_le (by rw [hsb.out]; exact Nat.le_refl _)] at e
        rw [show decide (A = B) = true from decide_eq_true e]
        exact ⟨rfl, HK.out⟩
  · have hmk' : ¬ (m : Int) = (k : Int) := by omega
    go_enter Try.func76, Try.ntmps76
    go_wp2
    go_ret
    rw [show decide (A = B) = false from decide_eq_false (fun e => hmk (by rw [← hsa.out, ← hsb.out, e]))]
    exact ⟨rfl, Kept.refl _ _⟩

end Go.Proofs.Ytlabjamkaebnjaa

/-
  THE CONTRACTS of slices.Grow (of nothing) and slices.Concat, over bytes; what stands between the numbers of all blocks, one behind the other (toldBy's loop).
-/
namespace Go.Proofs.Ytlabjamkaebnjaa
open Go.RowKit Go.Lib Go.Deep
set_option linter.unusedVariables false
set_option linter.unusedSimpArgs false

theorem grow_zeros (w : World) (n : Nat) (h0 : 0 < n) (hn : n ≤ 100000) : ∃ cap w', (Builtin.append_ #[22, 3] 22 #[.slice none 0 0, .int .i64 (n : Int)]).run Try.prog w = .ok (.slice (some ⟨w.heap.size, 0, none⟩) n cap) w' ∧ n ≤ cap ∧ cap ≤ 9223372036854775807 ∧ Mine w' w.heap.size (some ⟨w.heap.size, 0, none⟩) 0 cap [] ∧ Kept w w' none := by
  obtain ⟨i0, hi0, hz0, hz1, hz2⟩ := info_parts Try.info5
  have hr := run_append_nil_zeros (P := Try.prog) w 22 3 22 5 i0 _ .i64 .i64 Try.uB (by kernel_rfl) hi0 hz0 n h0 (by omega) (by omega) (by rw [hz2]; omega)
  have hge := grownCap_ge w n 0 5
  have hle := grownCap_le_maxLen w n 0 5 (by unfold maxLen; omega)
  refine ⟨_, _, hr, hge, by unfold maxLen at hle; omega, ⟨World.ownsRow_made w.drew _ _ (Nat.le_refl _) hle ?_, fun e => (nomatch e), Nat.zero_le _, by unfold maxLen at hle; omega⟩, (kept_drw w none).tr (Kept.alloc _ _ _ _ _)⟩
  simp [size_zeroCells, Value.cells]
  omega
set_option maxRecDepth 100000 in
set_option maxHeartbeats 1000000 in
theorem grow_any (n : Nat) (w : World) (h0 : 0 < n) (hn : n ≤ 100000) : Calls Try.prog 65 #[.slice none 0 0, .int .i64 (n : Int)] w fun e w' => ∃ cap, e = .returned (.slice (some ⟨w.heap.size, 0, none⟩) 0 cap) ∧ Mine w' w.heap.size (some ⟨w.heap.size, 0, none⟩) 0 cap [] ∧ Kept w w' none := by
  obtain ⟨cap, w', hr, hc1, hc2, hm, hk⟩ := grow_zeros w n h0 hn
  have HM := Hid.mk' hm
  have HR := Hid.mk' hr
  clear hm hr
  go_enter Try.func65, Try.ntmps65
  go_wp2_with (at_builtin; refine Lib.wpList_append_run _ rfl _ _ _ _ rfl _ _ rfl rfl _ _ HR.out ?_)
  go_ret
  exact ⟨cap, rfl, HM.out, hk⟩

theorem flat_succ {B : List (List Nat)} {k : Nat} (h : k < B.length) : (B.take (k + 1)).flatten = (B.take k).flatten ++ B.getD k [] := by
  rw [List.take_succ_eq_append_getElem h, List.flatten_append]
  simp [h]
theorem flat_le {B : List (List Nat)} (k : Nat) : (B.take k).flatten.length ≤ B.flatten.length := by
  conv => rhs; rw [← List.take_append_drop k B, List.flatten_append, List.length_append]
  omega
set_option maxRecDepth 100000 in
set_option maxHeartbeats 1000000 in
theorem conc_any {la : Option Addr} {m c : Nat} {B : List (List Nat)} {w : World} (h : Bl w 0 la m B) (h0 : 0 < B.flatten.length) (h1 : B.flatten.length ≤ 100000) :
    Calls Try.prog 47 #[.slice la m c] w fun e w' => ∃ a cap, e = .returned (.slice a B.flatten.length cap) ∧ Mine w' w.heap.size a B.flatten.length cap B.flatten ∧ Kept w w' none := by
  have HA := Hid.mk' h
  have hm := h.max
  have hsa := Hid.mk' h.size
  have HL := Hid.mk' h.lt
  clear h
  go_enter Try.func47, Try.ntmps47
  go_wp2
  go_loopw [3, 11] (fun s i wr => ∃ k : Nat, k ≤ m ∧ i = .int .i64 k ∧ s = .int .i64 (((B.take k).flatten.length : Nat) : Int) ∧ wr = w) (fun _ i _ => m - (intOf i).toNat)
  case atStart => exact ⟨0, Nat.zero_le _, rfl, rfl, by first | rfl | trivial⟩
  case round =>
    obtain ⟨k, hk, rfl, rfl, hw⟩ := hrel
    have hw2 := hw.symm
    clear hw
    subst hw2
    by_cases hlt : k < m
    · obtain ⟨b1, o1, a1, c1, rfl, hb1, p1, hC1⟩ := HA.out.get hlt
      have HF := Hid.mk' (flat_succ (B := B) (k := k) (by rw [hsa.out]; exact hlt))
      have hle := flat_le (B := B) (k + 1)
      rw [HF.out, List.length_append] at hle
      have hl1 := hC1.by_.max
      clear hC1
      generalize hx : B.getD k [] = x at *
      generalize hy : (B.take k).flatten = y at *
      clear hx hy
      go_wp2
      go_roundw
      case rel => exact ⟨k + 1, by omega, by go_num, by rw [HF.out, List.length_append]; go_num, by first | rfl | trivial⟩
      case measure => simp [intOf]; omega
    · have hkm : k = m := by omega
      subst hkm
      have e : B.take k = B := List.take_of_length_le (by rw [hsa.out]; exact Nat.le_refl _)
      rw [e]
      have HE := Hid.mk' e
      obtain ⟨N, hN⟩ : ∃ N, Hid (B.flatten.length = N) := ⟨_, Hid.mk' rfl⟩
      have HLE := Hid.mk' (fun q => flat_le (B := B) q)
      rw [hN.out] at h0 h1 HLE ⊢
      clear e
      go_wp2_with (go_at_call 65; refine (grow_any _ _ h0 h1).mono ?_; rintro e w2 ⟨cap2, rfl, hm2, hk2⟩; have HM2 := Hid.mk' hm2; clear hm2)
      go_loopw [6, 27] (fun s i wr => ∃ k' : Nat, k' ≤ k ∧ i = .int .i64 k' ∧ ∃ a' n' c', s = .slice a' n' c' ∧ n' = (B.take k').flatten.length ∧ Mine wr w.heap.size a' n' c' (B.take k').flatten ∧ Kept w wr none) (fun _ i _ => k - (intOf i).toNat)
      case atStart => exact ⟨0, Nat.zero_le _, rfl, _, _, _, rfl, by simp, HM2.out, hk2⟩
      case round =>
        obtain ⟨q, hq, rfl, a', n', c', rfl, hn', hMi, hkr⟩ := hrel
        have HN := Hid.mk' hn'
        have HMI := Hid.mk' hMi
        have HK := Hid.mk' hkr
        clear hMi
        by_cases hlt2 : q < k
        · obtain ⟨b1, o1, a1, c1, rfl, hb1, p1, hC1⟩ := (HA.out.kept hkr).get hlt2
          have HF := Hid.mk' (flat_succ (B := B) (k := q) (by rw [hsa.out]; exact hlt2))
          have hle := HLE.out (q + 1)
          rw [HF.out, List.length_append, ← hn'] at hle
          have hl1 := hC1.by_.max
          have HC := Hid.mk' hC1
          clear hC1 hn' hkr
          generalize hx : B.getD q [] = x at *
          generalize hy : (B.take q).flatten = y at *
          clear hx hy
          go_wp2_with (at_builtin; refine wpList_join (by rfl) _ _ (by rfl) w.heap.size (.slice a' n' c') n' y (by rfl) HMI.out.own a1 x.length c1 x (by rfl) HC.out.by_ HC.out.nil (by omega) HK.out.size ?_; intro a3 c3 w3 hm3 hg3)
          go_roundw
          case rel => exact ⟨q + 1, by omega, by go_num, a3, _, c3, rfl, by rw [HF.out, List.length_append, ← HN.out], by rw [HF.out]; exact hm3, HK.out.newRow hg3 (fun i h => HMI.out.new i h)⟩
          case measure => simp [intOf]; omega
        · have hqk : q = k := by omega
          subst hqk
          rw [HE.out] at HN HMI
          have hn2 := HN.out
          rw [hN.out] at hn2
          subst hn2
          clear hn'
          go_wp2
          go_ret
          rw [hN.out]
          exact ⟨a', c', rfl, HMI.out, HK.out⟩

end Go.Proofs.Ytlabjamkaebnjaa

