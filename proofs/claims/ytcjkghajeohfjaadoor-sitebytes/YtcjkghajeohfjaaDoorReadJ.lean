/-
  Texts joined: some of those that the proofs of this seat stand on.
-/
import Derived.Test.YtcjkghajeohfjaaDoorPutJ
import Derived.Test.YtcjkghajeohfjaaDoorJoin
/-
  THE CONTRACTS of raw.mayEnd and raw.Read.
-/
namespace Go.Proofs.YtcjkghajeohfjaaDoor
open Go.RowKit Go.Lib Go.Deep
set_option linter.unusedVariables false
set_option linter.unusedSimpArgs false

theorem may_yes (x i : Nat) (w : World) (hx : x < 256) (hi : i < 10) (h1 : 0 < x ∨ i = 0) (h2 : x < 2 ∨ i < 9) :
    Calls Tryd.prog 98 #[.int .u8 x, .int .i64 i] w fun e w' => e = .returned (.bool true) ∧ w' = w := by
  by_cases c1 : 0 < x
  · by_cases c2 : x < 2
    · go_enter Tryd.func98, Tryd.ntmps98
      go_wp2
      go_ret
      exact ⟨rfl, rfl⟩
    · have c3 : i < 9 := by omega
      go_enter Tryd.func98, Tryd.ntmps98
      go_wp2
      go_ret
      refine ⟨show Ending.returned (.bool (decide ((x : Int) < 2) || decide ((i : Int) < 9))) = _ from ret_bool ?_, rfl⟩
      simp
      omega
  · have c2 : x = 0 := by omega
    have c3 : i = 0 := by omega
    subst c2 c3
    go_enter Tryd.func98, Tryd.ntmps98
    go_wp2
    go_ret
    exact ⟨rfl, rfl⟩
theorem may_no (x i : Nat) (w : World) (hx : x < 256) (hi : i < 10) (h : (x = 0 ∧ 0 < i) ∨ (2 ≤ x ∧ 9 ≤ i)) :
    Calls Tryd.prog 98 #[.int .u8 x, .int .i64 i] w fun e w' => e = .returned (.bool false) ∧ w' = w := by
  rcases h with ⟨h1, h2⟩ | ⟨h1, h2⟩
  · subst h1
    have hne : ((i : Int) == 0) = false := by simp; omega
    go_enter Tryd.func98, Tryd.ntmps98
    go_wp2
    go_ret
    exact ⟨rfl, rfl⟩
  · go_enter Tryd.func98, Tryd.ntmps98
    go_wp2
    go_ret
    refine ⟨show Ending.returned (.bool (decide ((x : Int) < 2) || decide ((i : Int) < 9))) = _ from ret_bool ?_, rfl⟩
    simp
    omega
theorem wrapU64 (n : Int) : IntKind.u64.wrap n = n % 18446744073709551616 := by simp [IntKind.wrap, IntKind.bits, IntKind.signed]
theorem andn128 : ∀ x, x < 256 → x &&& (255 - 128) = x % 128 := by decide +kernel
theorem byte_andn (x : Nat) (hx : x < 256) : bits .andNot .u8 (x : Int) 128 = ((x % 128 : Nat) : Int) := by
  have h := u8_andNot_nat x 128 hx (by omega)
  rw [andn128 x hx] at h
  exact h
/-- Seven bits more. -/
theorem read_or (v x k : Nat) (hv : v < 128 ^ k) (hx : x < 128) (hk : k ≤ 8 ∨ (k = 9 ∧ x < 2)) : bits .or .u64 (v : Int) (IntKind.u64.wrap ((x : Int) * 2 ^ (7 * k))) = ((v + 128 ^ k * x : Nat) : Int) := by
  rw [wrapU64]
  have hp : (2 : Nat) ^ (7 * k) = 128 ^ k := by rw [Nat.pow_mul]
  have hm2 : 128 ^ k * x < 18446744073709551616 := by
    rcases hk with hk | ⟨rfl, hk⟩
    · have h7 : 128 ^ k ≤ 128 ^ 8 := Nat.pow_le_pow_right (by omega) (by omega)
      exact Nat.lt_of_le_of_lt (Nat.mul_le_mul h7 (show x ≤ 127 by omega)) (by decide)
    · exact Nat.lt_of_le_of_lt (Nat.mul_le_mul_left _ (show x ≤ 1 by omega)) (by decide)
  have hv2 : v < 18446744073709551616 := by
    have h9 : 128 ^ k ≤ 128 ^ 9 := Nat.pow_le_pow_right (by omega) (by omega)
    exact Nat.lt_of_lt_of_le hv (Nat.le_trans h9 (by decide))
  have e : ((x : Int) * 2 ^ (7 * k) % 18446744073709551616) = ((128 ^ k * x : Nat) : Int) := by
    have : ((x : Int) * 2 ^ (7 * k)) = ((128 ^ k * x : Nat) : Int) := by rw [← hp]; simp [Int.mul_comm]
    rw [this]
    omega
  rw [e, u64_or_nat v _ hv2 hm2, Nat.or_comm, nat_join (7 * k) (128 ^ k * x) v (by rw [hp]; exact Nat.mul_mod_right _ _) (by rw [hp]; exact hv), Nat.add_comm]

theorem rd_none {L : List Nat} (h : ¬ okR L = true) : rdN L = 0 ∧ rdK L = 0 ∧ rdE L = 8 := by
  unfold rdN rdK rdE; rw [if_neg h, if_neg h, if_neg h]; exact ⟨rfl, rfl, rfl⟩
theorem rd_some {L : List Nat} (h : okR L = true) : rdN L = v7 (L.take (fe L + 1)) ∧ rdK L = fe L + 1 ∧ rdE L = 0 := by
  unfold rdN rdK rdE; rw [if_pos h, if_pos h, if_pos h]; exact ⟨rfl, rfl, rfl⟩
theorem read_empty {a : Option Addr} (c : Nat) (w : World) (ha : a = none → c = 0) (hc : c ≤ 9223372036854775807) :
    Calls Tryd.prog 92 #[.slice a 0 c] w fun e w' => e = .returned (.tuple #[.int .u64 0, .int .i64 0, .int .i64 8]) ∧ ∃ m, w' = w.drewN m := by
  cases a with
  | none =>
    have := ha rfl
    subst this
    go_enter Tryd.func92, Tryd.ntmps92
    go_wp2
    go_loopw [14] (fun i wr => i = .int .i64 0 ∧ ∃ m, wr = w.drewN m) (fun _ _ => 0)
    case atStart => exact ⟨rfl, 0, rfl⟩
    case round =>
      obtain ⟨rfl, m, rfl⟩ := hrel
      go_wp2
      go_ret3
      exact ⟨rfl, _, rfl⟩
  | some x =>
    obtain ⟨b, off, p⟩ := x
    go_enter Tryd.func92, Tryd.ntmps92
    go_wp2
    go_loopw [14] (fun i wr => i = .int .i64 0 ∧ ∃ m, wr = w.drewN m) (fun _ _ => 0)
    case atStart => exact ⟨rfl, 0, rfl⟩
    case round =>
      obtain ⟨rfl, m, rfl⟩ := hrel
      go_wp2
      go_ret3
      exact ⟨rfl, _, rfl⟩
set_option maxRecDepth 100000 in
set_option maxHeartbeats 1000000 in
theorem read_short {b off len c : Nat} {L : List Nat} {w : World} (hB : By w (some ⟨b, off, none⟩) len L) (hp : 0 < len) (hc : len ≤ c) (hc2 : c ≤ 9223372036854775807) (hlen : len ≤ 10) :
    Calls Tryd.prog 92 #[.slice (some ⟨b, off, none⟩) len c] w fun e w' => e = .returned (.tuple #[.int .u64 ((rdN L : Nat) : Int), .int .i64 ((rdK L : Nat) : Int), .int .i64 ((rdE L : Nat) : Int)]) ∧ ∃ m, w' = w.drewN m := by
  obtain ⟨b', off', e, hb, hcell⟩ := hB.at_ hp
  injection e with e
  injection e with e1 e2
  subst e1 e2
  have HL : Hid (L.length = len) := hB.size
  have HG : Hid (∀ i, L.getD i 0 < 256) := hB.getD
  have HC : Hid (∀ i, i < len → w.cell? ⟨b, off + i, none⟩ = some (.int .u8 ((L.getD i 0 : Nat) : Int))) := hcell
  have hl2 := hB.max
  clear hB hcell
  obtain ⟨q, hq⟩ : ∃ q : Nat, q = len := ⟨_, rfl⟩
  have HQ : Hid (q = min len 10) := by show _ = _; omega
  go_enter Tryd.func92, Tryd.ntmps92
  go_wp2
  go_loopw [5, 14] (fun n i wr => ∃ k : Nat, ∃ v : Int, k ≤ q ∧ n = .int .u64 v ∧ (k ≤ 9 → v = ((v7 (L.take k) : Nat) : Int)) ∧ i = .int .i64 k ∧ (∀ j, j < k → 128 ≤ L.getD j 0) ∧ ∃ m, wr = w.drewN m) (fun _ i _ => q - (intOf i).toNat)
  case atStart => exact ⟨0, 0, Nat.zero_le _, rfl, fun _ => by simp [v7], rfl, fun j hj => absurd hj (by omega), 0, rfl⟩
  case round =>
    obtain ⟨k, v, hk, rfl, hv, rfl, hge, m, rfl⟩ := hrel
    have HGE : Hid (∀ j, j < k → 128 ≤ L.getD j 0) := hge
    clear hge
    by_cases hlt : k < q
    · have hkl : k < len := by omega
      have hcell := HC.out k hkl
      have hx := HG.out k
      have hv' := hv (by omega)
      subst hv'
      clear hv
      have hand := byte_andn (L.getD k 0) hx
      obtain ⟨V, hV⟩ : ∃ V : Int, V = bits .or .u64 ((v7 (L.take k) : Nat) : Int) (IntKind.u64.wrap (((L.getD k 0 % 128 : Nat) : Int) * 2 ^ (7 * k))) := ⟨_, rfl⟩
      have HV : Hid (k ≤ 8 ∨ (k = 9 ∧ L.getD k 0 % 128 < 2) → V = ((v7 (L.take (k + 1)) : Nat) : Int)) := by
        intro h
        rw [hV, read_or _ _ k (v7_take_lt L k (by rw [HL.out]; omega)) (by omega) h, ← v7_take L k (by rw [HL.out]; exact hkl)]
      have hV' := hV.symm
      clear hV
      obtain ⟨y, hy⟩ : ∃ y, y = L.getD k 0 % 128 := ⟨_, rfl⟩
      rw [← hy] at hand hV' HV
      obtain ⟨x, hxe⟩ : ∃ x, x = L.getD k 0 := ⟨_, rfl⟩
      rw [← hxe] at hcell hx hand hy
      have HY : Hid (y = x % 128) := hy
      have hy2 : y < 128 := by omega
      clear hy
      have HXE : Hid (x = L.getD k 0) := hxe
      clear hxe
      generalize v7 (L.take k) = v0 at hV' ⊢
      by_cases hx2 : x < 128
      · have HF : Hid (fe L = k) := fe_eq L k HGE.out (by rw [← HXE.out]; exact hx2)
        by_cases hok : (0 < x ∨ k = 0) ∧ (x < 2 ∨ k < 9)
        · obtain ⟨g1, g2⟩ := hok
          have HO : Hid (okR L = true) := by
            show _
            rw [okR_iff, HF.out, ← HXE.out, HL.out]
            exact ⟨hkl, by omega, g1, g2⟩
          go_wp2_with (go_at_call 98; refine (may_yes x k _ hx (by omega) g1 g2).mono ?_; rintro e w3 ⟨rfl, rfl⟩)
          go_ret3
          obtain ⟨r1, r2, r3⟩ := rd_some HO.out
          rw [r1, r2, r3, HF.out, ← HV.out (by have := HY.out; omega)]
          exact ⟨by simp, _, rfl⟩
        · have g : (x = 0 ∧ 0 < k) ∨ (2 ≤ x ∧ 9 ≤ k) := by omega
          have HO : Hid (¬ okR L = true) := by
            show _
            rw [okR_iff, HF.out, ← HXE.out, HL.out]
            rintro ⟨_, _, g1, g2⟩
            exact hok ⟨g1, g2⟩
          go_wp2_with (go_at_call 98; refine (may_no x k _ hx (by omega) g).mono ?_; rintro e w3 ⟨rfl, rfl⟩)
          go_ret3
          obtain ⟨r1, r2, r3⟩ := rd_none HO.out
          rw [r1, r2, r3]
          exact ⟨rfl, _, rfl⟩
      · go_wp2
        go_roundw
        case rel =>
          refine ⟨k + 1, V, by omega, rfl, fun h9 => HV.out (by omega), by go_num, fun j hj => ?_, _, rfl⟩
          by_cases hjk : j < k
          · exact HGE.out j hjk
          · have : j = k := by omega
            subst this
            rw [← HXE.out]; omega
        case measure => simp [intOf]; omega
    · have HO : Hid (¬ okR L = true) := by
        show _
        rw [okR_iff]
        have h1 := fe_low L k HGE.out
        have h2 := HL.out
        have h3 := HQ.out
        rintro ⟨a1, a2, _, _⟩
        omega
      go_wp2
      go_ret3
      obtain ⟨r1, r2, r3⟩ := rd_none HO.out
      rw [r1, r2, r3]
      exact ⟨rfl, _, rfl⟩
set_option maxRecDepth 100000 in
set_option maxHeartbeats 1000000 in
theorem read_long {b off len c : Nat} {L : List Nat} {w : World} (hB : By w (some ⟨b, off, none⟩) len L) (hp : 0 < len) (hc : len ≤ c) (hc2 : c ≤ 9223372036854775807) (hlen : 10 < len) :
    Calls Tryd.prog 92 #[.slice (some ⟨b, off, none⟩) len c] w fun e w' => e = .returned (.tuple #[.int .u64 ((rdN L : Nat) : Int), .int .i64 ((rdK L : Nat) : Int), .int .i64 ((rdE L : Nat) : Int)]) ∧ ∃ m, w' = w.drewN m := by
  obtain ⟨b', off', e, hb, hcell⟩ := hB.at_ hp
  injection e with e
  injection e with e1 e2
  subst e1 e2
  have HL : Hid (L.length = len) := hB.size
  have HG : Hid (∀ i, L.getD i 0 < 256) := hB.getD
  have HC : Hid (∀ i, i < len → w.cell? ⟨b, off + i, none⟩ = some (.int .u8 ((L.getD i 0 : Nat) : Int))) := hcell
  have hl2 := hB.max
  clear hB hcell
  obtain ⟨q, hq⟩ : ∃ q : Nat, q = 10 := ⟨_, rfl⟩
  have HQ : Hid (q = min len 10) := by show _ = _; omega
  go_enter Tryd.func92, Tryd.ntmps92
  go_wp2
  go_loopw [5, 14] (fun n i wr => ∃ k : Nat, ∃ v : Int, k ≤ q ∧ n = .int .u64 v ∧ (k ≤ 9 → v = ((v7 (L.take k) : Nat) : Int)) ∧ i = .int .i64 k ∧ (∀ j, j < k → 128 ≤ L.getD j 0) ∧ ∃ m, wr = w.drewN m) (fun _ i _ => q - (intOf i).toNat)
  case atStart => exact ⟨0, 0, Nat.zero_le _, rfl, fun _ => by simp [v7], rfl, fun j hj => absurd hj (by omega), 0, rfl⟩
  case round =>
    obtain ⟨k, v, hk, rfl, hv, rfl, hge, m, rfl⟩ := hrel
    have HGE : Hid (∀ j, j < k → 128 ≤ L.getD j 0) := hge
    clear hge
    by_cases hlt : k < q
    · have hkl : k < len := by omega
      have hcell := HC.out k hkl
      have hx := HG.out k
      have hv' := hv (by omega)
      subst hv'
      clear hv
      have hand := byte_andn (L.getD k 0) hx
      obtain ⟨V, hV⟩ : ∃ V : Int, V = bits .or .u64 ((v7 (L.take k) : Nat) : Int) (IntKind.u64.wrap (((L.getD k 0 % 128 : Nat) : Int) * 2 ^ (7 * k))) := ⟨_, rfl⟩
      have HV : Hid (k ≤ 8 ∨ (k = 9 ∧ L.getD k 0 % 128 < 2) → V = ((v7 (L.take (k + 1)) : Nat) : Int)) := by
        intro h
        rw [hV, read_or _ _ k (v7_take_lt L k (by rw [HL.out]; omega)) (by omega) h, ← v7_take L k (by rw [HL.out]; exact hkl)]
      have hV' := hV.symm
      clear hV
      obtain ⟨y, hy⟩ : ∃ y, y = L.getD k 0 % 128 := ⟨_, rfl⟩
      rw [← hy] at hand hV' HV
      obtain ⟨x, hxe⟩ : ∃ x, x = L.getD k 0 := ⟨_, rfl⟩
      rw [← hxe] at hcell hx hand hy
      have HY : Hid (y = x % 128) := hy
      have hy2 : y < 128 := by omega
      clear hy
      have HXE : Hid (x = L.getD k 0) := hxe
      clear hxe
      generalize v7 (L.take k) = v0 at hV' ⊢
      by_cases hx2 : x < 128
      · have HF : Hid (fe L = k) := fe_eq L k HGE.out (by rw [← HXE.out]; exact hx2)
        by_cases hok : (0 < x ∨ k = 0) ∧ (x < 2 ∨ k < 9)
        · obtain ⟨g1, g2⟩ := hok
          have HO : Hid (okR L = true) := by
            show _
            rw [okR_iff, HF.out, ← HXE.out, HL.out]
            exact ⟨hkl, by omega, g1, g2⟩
          go_wp2_with (go_at_call 98; refine (may_yes x k _ hx (by omega) g1 g2).mono ?_; rintro e w3 ⟨rfl, rfl⟩)
          go_ret3
          obtain ⟨r1, r2, r3⟩ := rd_some HO.out
          rw [r1, r2, r3, HF.out, ← HV.out (by have := HY.out; omega)]
          exact ⟨by simp, _, rfl⟩
        · have g : (x = 0 ∧ 0 < k) ∨ (2 ≤ x ∧ 9 ≤ k) := by omega
          have HO : Hid (¬ okR L = true) := by
            show _
            rw [okR_iff, HF.out, ← HXE.out, HL.out]
            rintro ⟨_, _, g1, g2⟩
            exact hok ⟨g1, g2⟩
          go_wp2_with (go_at_call 98; refine (may_no x k _ hx (by omega) g).mono ?_; rintro e w3 ⟨rfl, rfl⟩)
          go_ret3
          obtain ⟨r1, r2, r3⟩ := rd_none HO.out
          rw [r1, r2, r3]
          exact ⟨rfl, _, rfl⟩
      · go_wp2
        go_roundw
        case rel =>
          refine ⟨k + 1, V, by omega, rfl, fun h9 => HV.out (by omega), by go_num, fun j hj => ?_, _, rfl⟩
          by_cases hjk : j < k
          · exact HGE.out j hjk
          · have : j = k := by omega
            subst this
            rw [← HXE.out]; omega
        case measure => simp [intOf]; omega
    · have HO : Hid (¬ okR L = true) := by
        show _
        rw [okR_iff]
        have h1 := fe_low L k HGE.out
        have h2 := HL.out
        have h3 := HQ.out
        rintro ⟨a1, a2, _, _⟩
        omega
      go_wp2
      go_ret3
      obtain ⟨r1, r2, r3⟩ := rd_none HO.out
      rw [r1, r2, r3]
      exact ⟨rfl, _, rfl⟩
theorem read_any {a : Option Addr} {len c : Nat} {L : List Nat} {w : World} (hB : By w a len L) (ha : a = none → c = 0) (hc : len ≤ c) (hc2 : c ≤ 9223372036854775807) :
    Calls Tryd.prog 92 #[.slice a len c] w fun e w' => e = .returned (.tuple #[.int .u64 ((rdN L : Nat) : Int), .int .i64 ((rdK L : Nat) : Int), .int .i64 ((rdE L : Nat) : Int)]) ∧ ∃ m, w' = w.drewN m := by
  by_cases h : 0 < len
  · obtain ⟨b, off, rfl, _, _⟩ := hB.at_ h
    by_cases h10 : len ≤ 10
    · exact read_short hB h hc hc2 h10
    · exact read_long hB h hc hc2 (by omega)
  · have e0 : len = 0 := by omega
    subst e0
    have e1 : L = [] := List.length_eq_zero_iff.1 hB.size
    subst e1
    exact read_empty c w ha hc2

end Go.Proofs.YtcjkghajeohfjaaDoor

/-
  THE CONTRACT of the document's Read (stoplineref03.Read).
-/
namespace Go.Proofs.YtcjkghajeohfjaaDoor
open Go.RowKit Go.Lib Go.Deep
set_option linter.unusedVariables false
set_option linter.unusedSimpArgs false

theorem v7_drop (L : List Nat) (i : Nat) (h : i < L.length) : v7 (L.drop i) = L.getD i 0 % 128 + 128 * v7 (L.drop (i + 1)) := by
  rw [List.drop_eq_getElem_cons h, v7]; simp [h]
theorem v7_drop_le : ∀ (L : List Nat) (i : Nat), v7 (L.drop i) ≤ v7 L
  | [], i => by simp
  | x :: L, 0 => by simp
  | x :: L, i + 1 => by
    have := v7_drop_le L i
    rw [List.drop_succ_cons, v7]
    omega

set_option maxRecDepth 100000 in
set_option maxHeartbeats 4000000 in
theorem rread_any {a : Option Addr} {len c : Nat} {L : List Nat} {w : World} (hB : By w a len L) :
    Calls Tryd.prog 83 #[.slice a len c] w fun e w' => e = .returned (.tuple #[.int .u64 ((rdN L : Nat) : Int), .int .i64 ((rdK L : Nat) : Int), .int .i64 ((rdE L : Nat) : Int)]) ∧ ∃ m, w' = w.drewN m := by
  have HL : Hid (L.length = len) := hB.size
  have HG : Hid (∀ i, L.getD i 0 < 256) := hB.getD
  have HA : Hid (0 < len → ∃ b off, a = some ⟨b, off, none⟩ ∧ b < w.heap.size ∧ ∀ i, i < len → w.cell? ⟨b, off + i, none⟩ = some (.int .u8 ((L.getD i 0 : Nat) : Int))) := hB.at_
  have hl2 := hB.max
  clear hB
  go_enter Tryd.func83, Tryd.ntmps83
  go_wp2
  go_loopw [5] (fun kv wr => ∃ k : Nat, k ≤ len ∧ k ≤ 10 ∧ kv = .int .i64 k ∧ (∀ j, j < k → 128 ≤ L.getD j 0) ∧ ∃ m, wr = w.drewN m) (fun kv _ => 10 - (intOf kv).toNat)
  case atStart => exact ⟨0, Nat.zero_le _, by omega, rfl, fun j hj => absurd hj (by omega), 0, rfl⟩
  case round =>
    obtain ⟨k, hk, hk10, rfl, hge, m, rfl⟩ := hrel
    have HGE : Hid (∀ j, j < k → 128 ≤ L.getD j 0) := hge
    clear hge
    by_cases c1 : k < len
    · obtain ⟨b, off, rfl, hb, hc⟩ := HA.out (by omega)
      have HC : Hid (∀ i, i < len → w.cell? ⟨b, off + i, none⟩ = some (.int .u8 ((L.getD i 0 : Nat) : Int))) := hc
      clear hc
      by_cases c2 : k < 10
      · have hcell := HC.out k c1
        have hx := HG.out k
        obtain ⟨x, hxe⟩ : ∃ x, x = L.getD k 0 := ⟨_, rfl⟩
        rw [← hxe] at hcell hx
        have HXE : Hid (x = L.getD k 0) := hxe
        clear hxe
        by_cases c3 : 128 ≤ x
        · have d3 : decide ((128 : Int) ≤ (x : Int)) = true := decide_eq_true (by omega)
          go_wp2
          go_roundw
          case rel =>
            refine ⟨k + 1, by omega, by omega, by go_num, fun j hj => ?_, _, rfl⟩
            by_cases hjk : j < k
            · exact HGE.out j hjk
            · have : j = k := by omega
              subst this
              rw [← HXE.out]; exact c3
          case measure => simp [intOf]; omega
        · have HF : Hid (fe L = k) := fe_eq L k HGE.out (by rw [← HXE.out]; omega)
          have d3 : decide ((128 : Int) ≤ (x : Int)) = false := decide_eq_false (by omega)
          by_cases k9 : k = 9
          · subst k9
            have d9 : ((9 : Int) == 9) = true := by decide
            by_cases x1 : 1 < x
            · have d1 : decide ((1 : Int) < (x : Int)) = true := decide_eq_true (by omega)
              have HO : Hid (¬ okR L = true) := by
                show ¬ _
                rw [okR_iff, HF.out, ← HXE.out, HL.out]
                rintro ⟨_, _, g1, g2⟩
                omega
              go_wp2
              go_ret3
              obtain ⟨r1, r2, r3⟩ := rd_none HO.out
              rw [r1, r2, r3]
              exact ⟨rfl, _, rfl⟩

            · have d1 : decide ((1 : Int) < (x : Int)) = false := decide_eq_false (by omega)
              by_cases x0 : x = 0
              · subst x0
                have HO : Hid (¬ okR L = true) := by
                  show ¬ _
                  rw [okR_iff, HF.out, ← HXE.out, HL.out]
                  rintro ⟨_, _, g1, g2⟩
                  omega
                go_wp2
                go_ret3
                obtain ⟨r1, r2, r3⟩ := rd_none HO.out
                rw [r1, r2, r3]
                exact ⟨rfl, _, rfl⟩

              · have x01 : x = 1 := by omega
                subst x01
                have HO : Hid (okR L = true) := by
                  show _ = _
                  rw [okR_iff, HF.out, ← HXE.out, HL.out]
                  exact ⟨c1, by omega, by omega, by omega⟩
                obtain ⟨r1, r2, r3⟩ := rd_some HO.out
                have hlt64 := rdN_lt L
                rw [r1] at hlt64
                rw [HF.out] at r1 r2 hlt64
                have HR1 : Hid (rdN L = v7 (L.take (9 + 1))) := r1
                have HR2 : Hid (rdK L = 9 + 1) := r2
                have HR3 : Hid (rdE L = 0) := r3
                have HXl : Hid ((L.take (9 + 1)).length = 9 + 1) := by have := HL.out; show _ = _; simp; omega
                have HXg : Hid (∀ j, j < 9 + 1 → (L.take (9 + 1)).getD j 0 = L.getD j 0) := fun j hj => by simp [List.getElem?_take, hj]
                have HX64 : Hid (v7 (L.take (9 + 1)) < 18446744073709551616) := hlt64
                clear r1 r2 r3 hlt64
                go_wp2
                go_loopw [6, 7] (fun n i wr => ∃ j : Nat, j ≤ 9 + 1 ∧ n = .int .u64 ((v7 ((L.take (9 + 1)).drop j) : Nat) : Int) ∧ i = .int .i64 ((j : Int) - 1) ∧ ∃ m, wr = w.drewN m) (fun _ i _ => (intOf i + 1).toNat)
                case atStart => exact ⟨9 + 1, Nat.le_refl _, by rw [List.drop_of_length_le (by rw [HXl.out]; exact Nat.le_refl _)]; rfl, by go_num, m, rfl⟩
                case round =>
                  obtain ⟨q, hq, rfl, rfl, m2, rfl⟩ := hrel
                  by_cases hlt : 0 < q
                  · obtain ⟨j, rfl⟩ : ∃ j, q = j + 1 := ⟨q - 1, by omega⟩
                    have hcj := HC.out j (by omega)
                    have hy := HG.out j
                    have hd := v7_drop (L.take (9 + 1)) j (by rw [HXl.out]; omega)
                    have hn := Nat.lt_of_le_of_lt (v7_drop_le (L.take (9 + 1)) j) HX64.out
                    rw [HXg.out j (by omega)] at hd
                    have HD : Hid (v7 ((L.take (9 + 1)).drop j) = L.getD j 0 % 128 + 128 * v7 ((L.take (9 + 1)).drop (j + 1))) := hd
                    rw [hd] at hn
                    clear hd
                    generalize L.getD j 0 = y at *
                    generalize v7 ((L.take (9 + 1)).drop (j + 1)) = v at *
                    have hj : ((j + 1 : Nat) : Int) - 1 = (j : Int) := by omega
                    rw [hj]
                    go_wp2
                    go_roundw
                    case rel => exact ⟨j, by omega, by rw [HD.out]; go_num, by go_num, _, rfl⟩
                    case measure => simp [intOf]
                  · have hq0 : q = 0 := by omega
                    subst hq0
                    rw [List.drop_zero]
                    go_wp2
                    go_ret3
                    rw [HR1.out, HR2.out, HR3.out]
                    exact ⟨by simp, _, rfl⟩

          · have d9 : ((k : Int) == 9) = false := by simp; omega
            by_cases k0 : k = 0
            · subst k0
              rw [Nat.add_zero] at hcell
              have HO : Hid (okR L = true) := by
                show _ = _
                rw [okR_iff, HF.out, ← HXE.out, HL.out]
                exact ⟨c1, by omega, by omega, by omega⟩
              obtain ⟨r1, r2, r3⟩ := rd_some HO.out
              have hlt64 := rdN_lt L
              rw [r1] at hlt64
              rw [HF.out] at r1 r2 hlt64
              have HR1 : Hid (rdN L = v7 (L.take (0 + 1))) := r1
              have HR2 : Hid (rdK L = 0 + 1) := r2
              have HR3 : Hid (rdE L = 0) := r3
              have HXl : Hid ((L.take (0 + 1)).length = 0 + 1) := by have := HL.out; show _ = _; simp; omega
              have HXg : Hid (∀ j, j < 0 + 1 → (L.take (0 + 1)).getD j 0 = L.getD j 0) := fun j hj => by simp [List.getElem?_take, hj]
              have HX64 : Hid (v7 (L.take (0 + 1)) < 18446744073709551616) := hlt64
              clear r1 r2 r3 hlt64
              go_wp2
              go_loopw [6, 7] (fun n i wr => ∃ j : Nat, j ≤ 0 + 1 ∧ n = .int .u64 ((v7 ((L.take (0 + 1)).drop j) : Nat) : Int) ∧ i = .int .i64 ((j : Int) - 1) ∧ ∃ m, wr = w.drewN m) (fun _ i _ => (intOf i + 1).toNat)
              case atStart => exact ⟨0 + 1, Nat.le_refl _, by rw [List.drop_of_length_le (by rw [HXl.out]; exact Nat.le_refl _)]; rfl, by go_num, m, rfl⟩
              case round =>
                obtain ⟨q, hq, rfl, rfl, m2, rfl⟩ := hrel
                by_cases hlt : 0 < q
                · obtain ⟨j, rfl⟩ : ∃ j, q = j + 1 := ⟨q - 1, by omega⟩
                  have hcj := HC.out j (by omega)
                  have hy := HG.out j
                  have hd := v7_drop (L.take (0 + 1)) j (by rw [HXl.out]; omega)
                  have hn := Nat.lt_of_le_of_lt (v7_drop_le (L.take (0 + 1)) j) HX64.out
                  rw [HXg.out j (by omega)] at hd
                  have HD : Hid (v7 ((L.take (0 + 1)).drop j) = L.getD j 0 % 128 + 128 * v7 ((L.take (0 + 1)).drop (j + 1))) := hd
                  rw [hd] at hn
                  clear hd
                  generalize L.getD j 0 = y at *
                  generalize v7 ((L.take (0 + 1)).drop (j + 1)) = v at *
                  have hj : ((j + 1 : Nat) : Int) - 1 = (j : Int) := by omega
                  rw [hj]
                  go_wp2
                  go_roundw
                  case rel => exact ⟨j, by omega, by rw [HD.out]; go_num, by go_num, _, rfl⟩
                  case measure => simp [intOf]
                · have hq0 : q = 0 := by omega
                  subst hq0
                  rw [List.drop_zero]
                  go_wp2
                  go_ret3
                  rw [HR1.out, HR2.out, HR3.out]
                  exact ⟨by simp, _, rfl⟩

            · have dk : decide ((0 : Int) < (k : Int)) = true := decide_eq_true (by omega)
              by_cases x0 : x = 0
              · subst x0
                have HO : Hid (¬ okR L = true) := by
                  show ¬ _
                  rw [okR_iff, HF.out, ← HXE.out, HL.out]
                  rintro ⟨_, _, g1, g2⟩
                  omega
                go_wp2
                go_ret3
                obtain ⟨r1, r2, r3⟩ := rd_none HO.out
                rw [r1, r2, r3]
                exact ⟨rfl, _, rfl⟩

              · have dx : ((x : Int) == 0) = false := by simp; omega
                have HO : Hid (okR L = true) := by
                  show _ = _
                  rw [okR_iff, HF.out, ← HXE.out, HL.out]
                  exact ⟨c1, by omega, by omega, by omega⟩
                obtain ⟨r1, r2, r3⟩ := rd_some HO.out
                have hlt64 := rdN_lt L
                rw [r1] at hlt64
                rw [HF.out] at r1 r2 hlt64
                have HR1 : Hid (rdN L = v7 (L.take (k + 1))) := r1
                have HR2 : Hid (rdK L = k + 1) := r2
                have HR3 : Hid (rdE L = 0) := r3
                have HXl : Hid ((L.take (k + 1)).length = k + 1) := by have := HL.out; show _ = _; simp; omega
                have HXg : Hid (∀ j, j < k + 1 → (L.take (k + 1)).getD j 0 = L.getD j 0) := fun j hj => by simp [List.getElem?_take, hj]
                have HX64 : Hid (v7 (L.take (k + 1)) < 18446744073709551616) := hlt64
                clear r1 r2 r3 hlt64
                go_wp2
                go_loopw [6, 7] (fun n i wr => ∃ j : Nat, j ≤ k + 1 ∧ n = .int .u64 ((v7 ((L.take (k + 1)).drop j) : Nat) : Int) ∧ i = .int .i64 ((j : Int) - 1) ∧ ∃ m, wr = w.drewN m) (fun _ i _ => (intOf i + 1).toNat)
                case atStart => exact ⟨k + 1, Nat.le_refl _, by rw [List.drop_of_length_le (by rw [HXl.out]; exact Nat.le_refl _)]; rfl, by go_num, m, rfl⟩
                case round =>
                  obtain ⟨q, hq, rfl, rfl, m2, rfl⟩ := hrel
                  by_cases hlt : 0 < q
                  · obtain ⟨j, rfl⟩ : ∃ j, q = j + 1 := ⟨q - 1, by omega⟩
                    have hcj := HC.out j (by omega)
                    have hy := HG.out j
                    have hd := v7_drop (L.take (k + 1)) j (by rw [HXl.out]; omega)
                    have hn := Nat.lt_of_le_of_lt (v7_drop_le (L.take (k + 1)) j) HX64.out
                    rw [HXg.out j (by omega)] at hd
                    have HD : Hid (v7 ((L.take (k + 1)).drop j) = L.getD j 0 % 128 + 128 * v7 ((L.take (k + 1)).drop (j + 1))) := hd
                    rw [hd] at hn
                    clear hd
                    generalize L.getD j 0 = y at *
                    generalize v7 ((L.take (k + 1)).drop (j + 1)) = v at *
                    have hj : ((j + 1 : Nat) : Int) - 1 = (j : Int) := by omega
                    rw [hj]
                    go_wp2
                    go_roundw
                    case rel => exact ⟨j, by omega, by rw [HD.out]; go_num, by go_num, _, rfl⟩
                    case measure => simp [intOf]
                  · have hq0 : q = 0 := by omega
                    subst hq0
                    rw [List.drop_zero]
                    go_wp2
                    go_ret3
                    rw [HR1.out, HR2.out, HR3.out]
                    exact ⟨by simp, _, rfl⟩

      · have HO : Hid (¬ okR L = true) := by
          show ¬ _
          rw [okR_iff]
          have h1 := fe_low L k HGE.out
          rintro ⟨_, a2, _, _⟩
          omega
        go_wp2
        go_ret3
        obtain ⟨r1, r2, r3⟩ := rd_none HO.out
        rw [r1, r2, r3]
        exact ⟨rfl, _, rfl⟩

    · have HO : Hid (¬ okR L = true) := by
        show ¬ _
        rw [okR_iff]
        have h1 := fe_low L k HGE.out
        have h2 := HL.out
        rintro ⟨a1, _, _, _⟩
        omega
      go_wp2
      go_ret3
      obtain ⟨r1, r2, r3⟩ := rd_none HO.out
      rw [r1, r2, r3]
      exact ⟨rfl, _, rfl⟩

end Go.Proofs.YtcjkghajeohfjaaDoor

