/-
  Texts joined: some of those that the proofs of this seat stand on.
-/
import Derived.Test.YtcjkghajeohfjaaDoorJoin
import Derived.Test.YtcjkghajeohfjaaDoorReadJ
import Derived.Test.YtcjkghajeohfjaaDoorCrcJ
import Derived.Test.YtcjkghajeohfjaaDoorSiteBJ
import Derived.Deep.RegionHeldLaw
/-
  THE CONTRACTS of the document's Put, Get, Small, Read (stoplineref03), and of the program's own, in one form for all inputs.
-/
namespace Go.Proofs.YtcjkghajeohfjaaDoor
open Go.RowKit Go.Lib Go.Deep
set_option linter.unusedVariables false
set_option linter.unusedSimpArgs false

theorem by_one (w : World) (x : Nat) (h : x < 256) : By (w.alloc (.cells #[.int .u8 (x : Int)] 5)) (some ⟨w.heap.size, 0, none⟩) 1 [x] :=
  By.alloc w [x] 5 (0, 0) #[.int .u8 (x : Int)] (fun i hi => by
    have : i = 0 := by simpa using hi
    subst this; rfl) (by simp) (fun y hy => by simp at hy; omega)
theorem mine_nil (w : World) (base : Nat) : Mine w base none 0 0 [] := ⟨World.ownsRow_nil _ _ _ _, fun _ => ⟨rfl, rfl⟩, Nat.le_refl _, by omega⟩

/-! ### Put -/
theorem leb_snoc : ∀ k n, leb (k + 1) n = leb k n ++ [n / 256 ^ k % 256]
  | 0, n => by simp [leb]
  | k + 1, n => by
    rw [leb, leb_snoc k (n / 256), leb, List.cons_append, Nat.div_div_eq_div_mul, Nat.pow_succ, Nat.mul_comm 256]
def putOkB (n : Nat) (width : Int) : Bool := decide (1 ≤ width) && decide (width ≤ 8) && decide (n / 256 ^ width.toNat = 0)
abbrev putOk (n : Nat) (width : Int) : Prop := putOkB n width = true
theorem putOk_iff (n : Nat) (width : Int) : putOk n width ↔ 1 ≤ width ∧ width ≤ 8 ∧ n / 256 ^ width.toNat = 0 := by
  unfold putOk putOkB
  simp [and_assoc]
def putL (n : Nat) (width : Int) : List Nat := if putOk n width then leb width.toNat n else []
def putE (n : Nat) (width : Int) : Int := if putOk n width then 0 else 2
theorem putE_le (n : Nat) (width : Int) : 0 ≤ putE n width ∧ putE n width ≤ 2 := by unfold putE; split <;> omega
theorem put_all (n : Nat) (width : Int) (w : World) (hn : n < 18446744073709551616) :
    Calls Tryd.prog 74 #[.int .u64 n, .int .i64 width] w fun e w' => ∃ a k c, e = .returned (.tuple #[.slice a k c, .int .i64 (putE n width)]) ∧ By w' a k (putL n width) ∧ Kept w w' none := by
  by_cases hw : width < 1 ∨ 8 < width
  · have ho : ¬ putOk n width := fun h => by obtain ⟨h1, h2, _⟩ := (putOk_iff _ _).1 h; omega
    unfold putE putL
    rw [if_neg ho, if_neg ho]
    refine (put_no_width n width w hw).mono ?_
    rintro e w ⟨rfl, rfl⟩
    exact ⟨none, 0, 0, rfl, By.nil _ _, Kept.refl _ _⟩
  · obtain ⟨q, rfl⟩ : ∃ q : Nat, width = (q : Int) := ⟨width.toNat, by omega⟩
    by_cases hz : n / 256 ^ q = 0
    · have ho : putOk n (q : Int) := (putOk_iff _ _).2 ⟨by omega, by omega, by simpa using hz⟩
      unfold putE putL
      rw [if_pos ho, if_pos ho]
      refine (put_yes n q w (by omega) (by omega) hn hz).mono ?_
      rintro e w' ⟨rfl, h1, h2, _⟩
      exact ⟨_, _, _, rfl, by simpa using h1, h2⟩
    · have ho : ¬ putOk n (q : Int) := fun h => hz (by have := ((putOk_iff _ _).1 h).2.2; simpa using this)
      unfold putE putL
      rw [if_neg ho, if_neg ho]
      refine (put_no n q w (by omega) (by omega) hn hz).mono ?_
      rintro e w ⟨rfl, rfl⟩
      exact ⟨none, 0, 0, rfl, By.nil _ _, Kept.refl _ _⟩
theorem rput_no_width (n width : Int) (w : World) (h : width < 1 ∨ 8 < width) :
    Calls Tryd.prog 43 #[.int .u64 n, .int .i64 width] w fun e w' => e = .returned (.tuple #[.slice none 0 0, .int .i64 2]) ∧ w' = w := by
  rcases h with h | h
  · go_enter Tryd.func43, Tryd.ntmps43
    go_wp2_with fail
    go_ret2
    exact ⟨rfl, rfl⟩
  · go_enter Tryd.func43, Tryd.ntmps43
    go_wp2_with fail
    go_ret2
    exact ⟨rfl, rfl⟩
set_option maxRecDepth 100000 in
set_option maxHeartbeats 1000000 in
theorem rput_main (n q : Nat) (w : World) (hn : n < 18446744073709551616) (h1 : 1 ≤ q) (h2 : q ≤ 8) :
    Calls Tryd.prog 43 #[.int .u64 n, .int .i64 q] w fun e w' => ∃ a k c, e = .returned (.tuple #[.slice a k c, .int .i64 (putE n q)]) ∧ By w' a k (putL n q) ∧ Kept w w' none := by
  have HP : Hid (putOk n (q : Int) ↔ n / 256 ^ q = 0) := by
    show _ ↔ _
    rw [putOk_iff]
    simp
    omega
  go_enter Tryd.func43, Tryd.ntmps43
  go_wp2
  go_loopw [0, 6, 7] (fun nv ov iv wr => ∃ k cur : Nat, ∃ a c, k ≤ q ∧ nv = .int .u64 cur ∧ cur = n / 256 ^ k ∧ ov = .slice a k c ∧ iv = .int .i64 k ∧ Mine wr w.heap.size a k c (leb k n) ∧ Kept w wr none ∧ cur < 18446744073709551616) (fun _ _ iv _ => q - (intOf iv).toNat)
  case atStart => exact ⟨0, n, none, 0, Nat.zero_le _, rfl, by simp, rfl, rfl, mine_nil _ _, Kept.refl _ _, hn⟩
  case round =>
    obtain ⟨k, cur, a, c, hk, rfl, hcur, rfl, rfl, hm, hkept, hc⟩ := hrel
    by_cases hlt : k < q
    · have HS : Hid (leb (k + 1) n = leb k n ++ [cur % 256]) := by show _ = _; rw [leb_snoc, ← hcur]
      have HD : Hid (cur / 256 = n / 256 ^ (k + 1)) := by show _ = _; rw [hcur, Nat.div_div_eq_div_mul, Nat.pow_succ]
      clear hcur
      have hb := by_one wr (cur % 256) (by omega)
      have he : (((cur % 256 : Nat) : Int)) = (cur : Int) % 256 := by omega
      rw [he] at hb
      have HB : Hid (By (wr.alloc (.cells #[.int .u8 ((cur : Int) % 256)] 5)) (some ⟨wr.heap.size, 0, none⟩) 1 [cur % 256]) := hb
      have HM : Hid (Mine wr w.heap.size a k c (leb k n)) := hm
      have hsz := hkept.size
      clear hb he hm
      go_wp2_with (at_builtin; refine wpList_join (by rfl) _ _ (by rfl) w.heap.size (.slice a k c) k (leb k n) (by rfl) (HM.out.own.alloc _) (some ⟨wr.heap.size, 0, none⟩) 1 1 [cur % 256] (by rfl) HB.out (fun e => (nomatch e)) (by omega) (by simp; omega) ?_; intro a2 c2 w2 hm2 hg2)
      go_roundw
      case rel => exact ⟨k + 1, cur / 256, a2, c2, by omega, by go_num, HD.out, rfl, by go_num, by rw [HS.out]; exact hm2, (hkept.tr (Kept.alloc _ _ _ _ _)).newRow hg2 HM.out.new, by omega⟩
      case measure => simp [intOf]; omega
    · have hkq : k = q := by omega
      subst hkq
      have HM : Hid (Mine wr w.heap.size a k c (leb k n)) := hm
      have HC : Hid (cur = n / 256 ^ k) := hcur
      clear hm hcur
      by_cases hz : 0 < cur
      · have ho : ¬ putOk n (k : Int) := by rw [HP.out, ← HC.out]; omega
        go_wp2
        go_ret2
        unfold putE putL
        rw [if_neg ho, if_neg ho]
        exact ⟨none, 0, 0, rfl, By.nil _ _, hkept⟩
      · have ho : putOk n (k : Int) := by rw [HP.out, ← HC.out]; omega
        go_wp2
        go_ret2
        unfold putE putL
        rw [if_pos ho, if_pos ho]
        exact ⟨a, k, c, rfl, by simpa using HM.out.by (leb_lt _ _), hkept⟩
theorem rput_all (n : Nat) (width : Int) (w : World) (hn : n < 18446744073709551616) :
    Calls Tryd.prog 43 #[.int .u64 n, .int .i64 width] w fun e w' => ∃ a k c, e = .returned (.tuple #[.slice a k c, .int .i64 (putE n width)]) ∧ By w' a k (putL n width) ∧ Kept w w' none := by
  by_cases hw : width < 1 ∨ 8 < width
  · have ho : ¬ putOk n width := fun h => by obtain ⟨h1, h2, _⟩ := (putOk_iff _ _).1 h; omega
    unfold putE putL
    rw [if_neg ho, if_neg ho]
    refine (rput_no_width n width w hw).mono ?_
    rintro e w ⟨rfl, rfl⟩
    exact ⟨none, 0, 0, rfl, By.nil _ _, Kept.refl _ _⟩
  · obtain ⟨q, rfl⟩ : ∃ q : Nat, width = (q : Int) := ⟨width.toNat, by omega⟩
    exact rput_main n q w hn (by omega) (by omega)

/-! ### Get -/
def getN (L : List Nat) : Nat := if 1 ≤ L.length ∧ L.length ≤ 8 then v256 L else 0
def getE (L : List Nat) : Nat := if 1 ≤ L.length ∧ L.length ≤ 8 then 0 else 8
/-! ### Small -/
set_option maxRecDepth 100000 in
set_option maxHeartbeats 1000000 in
theorem rsmall_any (n : Nat) (w : World) (hn : n < 18446744073709551616) :
    Calls Tryd.prog 61 #[.int .u64 n] w fun e w' => ∃ a k c, e = .returned (.slice a k c) ∧ By w' a k (sml n) ∧ Kept w w' none := by
  have hl10 := sml_len10 n hn
  go_enter Tryd.func61, Tryd.ntmps61
  go_wp2
  go_loopw [0, 3] (fun nv lv wr => ∃ (cur k : Nat) (a : Option Addr) (c : Nat) (pre : List Nat), nv = .int .u64 cur ∧ lv = .slice a k c ∧ pre ++ sml cur = sml n ∧ cur < 18446744073709551616 ∧ Mine wr w.heap.size a k c pre ∧ Kept w wr none) (fun nv _ _ => (intOf nv).toNat)
  case atStart => exact ⟨n, 0, none, 0, [], rfl, rfl, rfl, hn, mine_nil _ _, Kept.refl _ _⟩
  case round =>
    obtain ⟨cur, k, a, c, pre, rfl, rfl, he, hc, hm, hkept⟩ := hrel
    have hpl : k + (sml cur).length = (sml n).length := by
      have := hm.own.1
      rw [← he]; simp at this ⊢; omega
    have hp := sml_pos cur
    have hk10 : k + 1 ≤ 10 := by omega
    have HM : Hid (Mine wr w.heap.size a k c pre) := hm
    have hsz := hkept.size
    clear hm
    by_cases hlt : 128 ≤ cur
    · have HE : Hid (pre ++ sml cur = sml n) := he
      have hb := by_one wr (cur % 128 + 128) (by omega)
      have hee : (((cur % 128 + 128 : Nat) : Int)) = (cur : Int) % 128 + 128 := by omega
      rw [hee] at hb
      have HB : Hid (By (wr.alloc (.cells #[.int .u8 ((cur : Int) % 128 + 128)] 5)) (some ⟨wr.heap.size, 0, none⟩) 1 [cur % 128 + 128]) := hb
      clear he hpl hb hee
      go_wp2_with (at_builtin; refine wpList_join (by rfl) _ _ (by rfl) w.heap.size (.slice a k c) k pre (by rfl) (HM.out.own.alloc _) (some ⟨wr.heap.size, 0, none⟩) 1 1 [cur % 128 + 128] (by rfl) HB.out (fun e => (nomatch e)) (by omega) (by simp; omega) ?_; intro a2 c2 w2 hm2 hg2)
      go_roundw
      case rel => exact ⟨cur / 128, k + 1, a2, c2, pre ++ [cur % 128 + 128], by go_num, rfl, by rw [List.append_assoc, List.singleton_append, ← sml_hi hlt]; exact HE.out, by omega, hm2, (hkept.tr (Kept.alloc _ _ _ _ _)).newRow hg2 HM.out.new⟩
      case measure => simp [intOf]; omega
    · rw [sml_lo (by omega)] at he
      have HE : Hid (pre ++ [cur] = sml n) := he
      have HB : Hid (By (wr.alloc (.cells #[.int .u8 (cur : Int)] 5)) (some ⟨wr.heap.size, 0, none⟩) 1 [cur]) := by_one wr cur (by omega)
      clear he hpl
      go_wp2_with (at_builtin; refine wpList_join (by rfl) _ _ (by rfl) w.heap.size (.slice a k c) k pre (by rfl) (HM.out.own.alloc _) (some ⟨wr.heap.size, 0, none⟩) 1 1 [cur] (by rfl) HB.out (fun e => (nomatch e)) (by omega) (by simp; omega) ?_; intro a2 c2 w2 hm2 hg2)
      go_ret
      rw [HE.out] at hm2
      exact ⟨a2, k + 1, c2, rfl, hm2.by (sml_lt n), (hkept.tr (Kept.alloc _ _ _ _ _)).newRow hg2 HM.out.new⟩

end Go.Proofs.YtcjkghajeohfjaaDoor

/-
  THE CONTRACT of the document's sum (stoplineref03.Sum), bit by bit.
-/
namespace Go.Proofs.YtcjkghajeohfjaaDoor
open Go.RowKit Go.Lib Go.Deep
set_option linter.unusedVariables false
set_option linter.unusedSimpArgs false

/-- k steps. -/
def stN : Nat → Nat → Nat
  | 0, r => r
  | k + 1, r => st (stN k r)
theorem stN_lt (k r : Nat) (h : r < 4294967296) : stN k r < 4294967296 := by
  induction k with
  | zero => exact h
  | succ k ih => exact st_lt ih
theorem stN8 (r : Nat) : stN 8 r = st8 r := rfl
theorem st_odd {r : Nat} (h : r % 2 = 1) : st r = (r / 2) ^^^ 3988292384 := by unfold st; rw [if_pos h]
theorem st_ev {r : Nat} (h : ¬ r % 2 = 1) : st r = r / 2 := by unfold st; rw [if_neg h]

set_option maxRecDepth 100000 in
set_option maxHeartbeats 1000000 in
theorem rsum_any {a : Option Addr} {len c : Nat} {L : List Nat} {w : World} (hB : By w a len L) :
    Calls Tryd.prog 44 #[.slice a len c] w fun e w' => e = .returned (.int .u32 ((sumB L : Nat) : Int)) ∧ ∃ m, w' = w.drewN m := by
  have HL : Hid (L.length = len) := hB.size
  have HG : Hid (∀ i, L.getD i 0 < 256) := hB.getD
  have HX : Hid (∀ x ∈ L, x < 256) := hB.lt
  have HA : Hid (0 < len → ∃ b off, a = some ⟨b, off, none⟩ ∧ b < w.heap.size ∧ ∀ i, i < len → w.cell? ⟨b, off + i, none⟩ = some (.int .u8 ((L.getD i 0 : Nat) : Int))) := hB.at_
  have hl2 := hB.max
  clear hB
  go_enter Tryd.func44, Tryd.ntmps44
  go_wp2
  go_loopw [3, 4] (fun r i wr => ∃ k : Nat, k ≤ len ∧ r = .int .u32 ((crc (L.take k) : Nat) : Int) ∧ i = .int .i64 k ∧ ∃ m, wr = w.drewN m) (fun _ i _ => len - (intOf i).toNat)
  case atStart => exact ⟨0, Nat.zero_le _, by simp [crc], rfl, 0, rfl⟩
  case round =>
    obtain ⟨k, hk, rfl, rfl, m, rfl⟩ := hrel
    have hr := crc_lt (L.take k) (fun x hx => HX.out x (List.mem_of_mem_take hx))
    by_cases hlt : k < len
    · obtain ⟨b, off, rfl, hb, hc⟩ := HA.out (by omega)
      have hcell := hc k hlt
      have hx := HG.out k
      have HN : Hid (crc (L.take (k + 1)) = up (crc (L.take k)) (L.getD k 0)) := crc_take L k (by rw [HL.out]; exact hlt)
      clear hc
      generalize L.getD k 0 = x at *
      generalize crc (L.take k) = r at *
      have hxor := u32_xor_nat r x hr (by omega)
      have hA := xor32 hr (show x < 4294967296 by omega)
      have HU : Hid (up r x = stN 8 (r ^^^ x)) := rfl
      generalize r ^^^ x = A at *
      go_wp2
      go_loopw [3, 5] (fun r i wr => ∃ j : Nat, j ≤ 8 ∧ r = .int .u32 ((stN j A : Nat) : Int) ∧ i = .int .i64 j ∧ ∃ m, wr = w.drewN m) (fun _ i _ => 8 - (intOf i).toNat)
      case atStart => exact ⟨0, Nat.zero_le _, rfl, rfl, m, rfl⟩
      case round =>
        obtain ⟨j, hj, rfl, rfl, m2, rfl⟩ := hrel
        have hsj := stN_lt j A hA
        by_cases hj8 : j < 8
        · by_cases hodd : stN j A % 2 = 1
          · have HS : Hid (stN (j + 1) A = (stN j A / 2) ^^^ 3988292384) := st_odd hodd
            generalize stN j A = s at *
            have hx2 := u32_xor_nat (s / 2) 3988292384 (by omega) (by omega)
            have e1 : ((s / 2 : Nat) : Int) = (s : Int) / 2 := by omega
            rw [e1] at hx2
            have he : (((s : Int) % 2) == 1) = true := by simp; omega
            go_wp2
            go_roundw
            case rel => exact ⟨j + 1, by omega, by rw [HS.out]; exact congrArg (Value.int IntKind.u32) hx2, by go_num, _, rfl⟩
            case measure => simp [intOf]; omega
          · have HS : Hid (stN (j + 1) A = stN j A / 2) := st_ev hodd
            generalize stN j A = s at *
            have he : (((s : Int) % 2) == 1) = false := by simp; omega
            go_wp2
            go_roundw
            case rel => exact ⟨j + 1, by omega, by rw [HS.out]; go_num, by go_num, _, rfl⟩
            case measure => simp [intOf]; omega
        · have hj9 : j = 8 := by omega
          subst hj9
          rw [← HU.out, ← HN.out]
          go_wp2
          go_roundw
          case rel => exact ⟨k + 1, by omega, rfl, by go_num, _, rfl⟩
          case measure => simp [intOf]; omega
    · have hkq : k = len := by omega
      subst hkq
      rw [List.take_of_length_le (by rw [HL.out]; exact Nat.le_refl _)] at hr ⊢
      have hs := turn32 (crc L) hr
      have HS : Hid (4294967295 ^^^ crc L = sumB L) := rfl
      rw [HS.out] at hs
      go_wp2
      go_ret
      exact ⟨rfl, m, rfl⟩

end Go.Proofs.YtcjkghajeohfjaaDoor

/-
  THE CONTRACTS of the document's own writer of a site (stoplineref05): small, Summed.
-/
namespace Go.Proofs.YtcjkghajeohfjaaDoor
open Go.RowKit Go.Lib Go.Deep
set_option linter.unusedVariables false
set_option linter.unusedSimpArgs false

theorem By.some_of {w : World} {a : Option Addr} {n : Nat} {L : List Nat} (h : By w a n L) (hp : 0 < L.length) : ∃ x, a = some x ∧ n = L.length := by
  have hs := h.size
  obtain ⟨b, off, e, _⟩ := h.at_ (by omega)
  exact ⟨_, e, by omega⟩

/-- An append of bytes to a row of one's own, inside a region that draws. -/
theorem step_joinM {ops : Array Oper} {o : Oper} {act : Act} {K : Act → World → Prop} {Q : Exit → Act → World → Prop} {E : Prop} {w : World} (hgd : o.guard = none) (s x : Operand)
    (ho : o.op = .call { callee := .builtin .append, args := #[s, x], argTypes := #[30, 30] })
    (base : Nat) (v : Value) (n : Nat) (L : List Nat) (hs : act.eval s = v) (hown : w.ownsRow base 5 1 v n (L.map byteV)) (a : Option Addr) (m c : Nat) (M : List Nat) (hx : act.eval x = .slice a m c) (hB : By w a m M) (ha : a = none → c = 0)
    (hnm : n + m ≤ 70368744177664) (hbase : base ≤ w.heap.size)
    (h : ∀ a' cap w', Mine w' base a' (n + m) cap (L ++ M) → w.grownBy w' v.ownBlock → K (act.put o.dst (.slice a' (n + m) cap)) w') : if Region.wanted o (yielded ops act.tmps) = true then Oper.wp Tryd.prog o act w K Q else E := by
  have hw : Region.wanted o (yielded ops act.tmps) = true := by simp [Region.wanted, hgd]
  rw [if_pos hw]
  obtain ⟨i0, hi0, hz0, hz1, hz2⟩ := info_parts Tryd.info5
  have key : ∀ v' w', w'.ownsRow base 5 1 v' (n + m) ((L ++ M).map byteV) → w.grownBy w' v.ownBlock → K (act.put o.dst v') w' := by
    intro v' w' h1 h2
    obtain ⟨a', cap, rfl, hm⟩ := mine_of h1
    exact h a' cap w' hm h2
  cases a with
  | none =>
    have hm0 : m = 0 := by
      by_cases hm : 0 < m
      · obtain ⟨b, off, e, _⟩ := hB.at_ hm
        cases e
      · omega
    subst hm0
    have hM : M = [] := List.length_eq_zero_iff.1 hB.size
    subst hM
    have hc := ha rfl
    subst hc
    have hrun := run_append_owned_none (P := Tryd.prog) (w := w) base 30 o.type 5 i0 1 Tryd.uB hi0 v n (L.map byteV) hown
    unfold Oper.wp
    simp [execOp, ho, resolve, invoke, builtin, hs, hx, hrun, Result.andThen]
    exact key _ w (by simpa using hown) (World.grownBy.refl w _)
  | some ad =>
    by_cases hp : 0 < m
    · obtain ⟨b, off, e, hb, hc⟩ := hB.at_ hp
      injection e with e
      subst e
      refine wp_append_own w s x 30 ho base 5 i0 _ 1 1 Tryd.uB hi0 hz0 hz1 hz2 rfl (by omega) v n (L.map byteV) hs hown ⟨b, off, none⟩ m c (M.map byteV) hx (by simp [hB.size]) (bytes_news hB.size hc) (bytes_one M) (by unfold maxLen; omega) (by omega) hbase ?_
      intro v' w' h1 h2 _
      exact key v' w' (by rw [List.map_append]; exact h1) h2
    · have hm0 : m = 0 := by omega
      subst hm0
      have hM : M = [] := List.length_eq_zero_iff.1 hB.size
      subst hM
      refine wp_append_own w s x 30 ho base 5 i0 _ 1 1 Tryd.uB hi0 hz0 hz1 hz2 rfl (by omega) v n (L.map byteV) hs hown ad 0 c [] hx (by simp) (fun j u hu => by simp at hu) (fun u hu => by cases hu) (by unfold maxLen; omega) (by omega) hbase ?_
      intro v' w' h1 h2 _
      exact key v' w' (by simpa using h1) h2

set_option maxRecDepth 100000 in
set_option maxHeartbeats 1000000 in
theorem rsmalls_any {w : World} {b : Option Addr} {m d : Nat} {l : List Int} (hI : Ints w b m d l) (hpos : ∀ x ∈ l, 0 ≤ x) (hlen : m ≤ 1099511627776) :
    Calls Tryd.prog 30 #[.slice b m d] w fun e w' => ∃ a' c', e = .returned (.slice a' (smlI l).length c') ∧ Mine w' w.heap.size a' (smlI l).length c' (smlI l) ∧ Kept w w' none := by
  have HI := Hid.mk' hI
  have HPOS := Hid.mk' hpos
  have hsz := hI.size
  have HSZ := Hid.mk' hsz
  have hrng := hI.rng
  have HR := Hid.mk' hrng
  clear hI hpos hsz hrng
  go_enter Tryd.func30, Tryd.ntmps30
  go_wp2
  go_loopw [3, 4] (fun s i wr => ∃ k : Nat, k ≤ m ∧ i = .int .i64 k ∧ ∃ a1 n1 c1, s = .slice a1 n1 c1 ∧ n1 = (smlI (l.take k)).length ∧ n1 ≤ 10 * k ∧ Mine wr w.heap.size a1 n1 c1 (smlI (l.take k)) ∧ Kept w wr none) (fun _ i _ => m - (intOf i).toNat)
  case atStart => exact ⟨0, Nat.zero_le _, rfl, none, 0, 0, rfl, by simp [smlI], by omega, by simpa [smlI] using Mine.empty _ _, Kept.refl _ _⟩
  case round =>
    obtain ⟨k, hk, rfl, a1, n1, c1, rfl, hn1, hle, hMi, hkw⟩ := hrel
    have HMI := Hid.mk' hMi
    have HN1 := Hid.mk' hn1
    have HKW := Hid.mk' hkw
    clear hMi hn1
    by_cases hlt : k < m
    · obtain ⟨bi, oi, rfl, hbi, hci⟩ := (HI.out.kept hkw).at_ (by omega)
      have kc := hci k hlt
      have hkl : k < l.length := by have := HSZ.out; omega
      have hv0 := HPOS.out (l.getD k 0) (getD_mem hkl)
      have hv1 := (HR.out (l.getD k 0) (getD_mem hkl)).2
      have hst : smlI (l.take (k + 1)) = smlI (l.take k) ++ sml (l.getD k 0).toNat := by rw [take_snocI hkl, smlI_snoc]
      have HST := Hid.mk' hst
      have hs10 := sml_len10 (l.getD k 0).toNat (by omega)
      have hsp := sml_pos (l.getD k 0).toNat
      clear hci hst hkw
      generalize hv : l.getD k 0 = v at *
      clear hv
      obtain ⟨q, rfl⟩ : ∃ q : Nat, v = (q : Int) := ⟨v.toNat, by omega⟩
      rw [Int.toNat_natCast] at *
      have hwr := HKW.out.size
      go_wp2_with (first
        | (have hgo := O2; clear hgo; at_builtin; refine wpList_join (by rfl) _ _ (by rfl) w.heap.size (.slice a1 n1 c1) n1 (smlI (l.take k)) (by rfl) (own_keptR HMI.out.own K2.out (fun i _ => by simp)) _ _ _ (sml q) (by rfl) O2.out (fun e => by cases e) (by omega) (by have := K2.out.size; omega) ?_; intro a3 c3 w3 hm3 hg3)
        | (go_at_call 61; refine (rsmall_any q _ (by omega)).mono ?_; rintro e w2 ⟨a2, k2, c2, rfl, ho2, hk2⟩; obtain ⟨x2, rfl, rfl⟩ := ho2.some_of hsp; have O2 := Hid.mk' ho2; have K2 := Hid.mk' hk2; clear ho2 hk2))
      go_roundw
      case rel =>
        refine ⟨k + 1, by omega, by go_num, a3, _, c3, rfl, ?_, by omega, ?_, ?_⟩
        · rw [HST.out, List.length_append, HN1.out]
        · rw [HST.out]; exact hm3
        · exact (HKW.out.tr K2.out).newRow hg3 HMI.out.new
      case measure => simp [intOf]; omega
    · have hkk : l.take k = l := List.take_of_length_le (by have := HSZ.out; omega)
      rw [hkk] at HMI HN1
      have e := HN1.out
      subst e
      go_wp2
      go_ret
      exact ⟨a1, c1, rfl, HMI.out, HKW.out⟩

theorem putE_sum (L : List Nat) (h : ∀ x ∈ L, x < 256) : putE (sumB L) ((4 : Nat) : Int) = 0 ∧ putL (sumB L) ((4 : Nat) : Int) = sum4 L := by
  have hs := sumB_lt L h
  have ho : putOk (sumB L) ((4 : Nat) : Int) := (putOk_iff _ _).2 ⟨by omega, by omega, Nat.div_eq_of_lt (by simpa using hs)⟩
  unfold putE putL
  rw [if_pos ho, if_pos ho]
  exact ⟨rfl, by simp [sum4]⟩

set_option maxRecDepth 100000 in
set_option maxHeartbeats 1000000 in
theorem rsummed_any {w : World} {a : Option Addr} {n c : Nat} {L : List Nat} (base : Nat) (hM : Mine w base a n c L) (hbase : base ≤ w.heap.size) (hlt : ∀ x ∈ L, x < 256) (hlen : n ≤ 1000000) : Calls Tryd.prog 21 #[.slice a n c] w fun e w' => ∃ a' c', e = .returned (.slice a' (n + 4) c') ∧ Mine w' base a' (n + 4) c' (L ++ sum4 L) ∧ Kept w w' (Value.slice a n c).ownBlock := by
  have M3 := Hid.mk' hM
  have BY := Hid.mk' (hM.by hlt)
  have hs := sumB_lt L hlt
  have hp := rput_all (sumB L) ((4 : Nat) : Int)
  rw [(putE_sum L hlt).1, (putE_sum L hlt).2] at hp
  have HP := Hid.mk' hp
  have h4 : 0 < (sum4 L).length := by rw [sum4_len]; omega
  have h44 := sum4_len L
  clear hM hlt hp
  go_enter Tryd.func21, Tryd.ntmps21
  go_wp2_with (first
      | (have hgo := B4; clear hgo; at_builtin; refine wpList_joinA (by rfl) _ _ (by rfl) base _ n L (by rfl) (own_keptR M3.out.own K4.out (fun i _ => by simp)) _ 4 _ (sum4 L) (by rfl) B4.out (fun e => by cases e) (by omega) (by have := K4.out.size; omega) ?_; intro a5 c5 w5 hm5 hg5 hat5)
      | (have hgo := hdone; clear hgo; go_at_call 43; refine (HP.out _ (by omega)).mono ?_; rintro e w4 ⟨a4, k4, c4, rfl, hb4, hk4⟩; obtain ⟨x4, rfl, e4⟩ := hb4.some_of h4; rw [h44] at e4; subst e4; have B4 := Hid.mk' hb4; have K4 := Hid.mk' ((Kept.drewN _ _ _).tr hk4); clear hb4 hk4)
      | (go_at_call 44; refine (rsum_any BY.out).mono ?_; rintro e w2 ⟨rfl, m, rfl⟩; have hdone := trivial))
  go_ret
  exact ⟨a5, c5, rfl, hm5, (K4.out.weak _).tr hg5⟩

end Go.Proofs.YtcjkghajeohfjaaDoor

