/-
  THE CONTRACTS of raw.mayEnd and raw.Read.
-/
import Derived.Test.YtnmfigcemknjbaaPutJ
namespace Go.Proofs.Ytnmfigcemknjbaa
open Go.RowKit Go.Lib Go.Deep
set_option linter.unusedVariables false
set_option linter.unusedSimpArgs false

theorem may_yes (x i : Nat) (w : World) (hx : x < 256) (hi : i < 10) (h1 : 0 < x ∨ i = 0) (h2 : x < 2 ∨ i < 9) :
    Calls Try.prog 64 #[.int .u8 x, .int .i64 i] w fun e w' => e = .returned (.bool true) ∧ w' = w := by
  by_cases c1 : 0 < x
  · by_cases c2 : x < 2
    · go_enter Try.func64, Try.ntmps64
      go_wp2
      go_ret
      exact ⟨rfl, rfl⟩
    · have c3 : i < 9 := by omega
      go_enter Try.func64, Try.ntmps64
      go_wp2
      go_ret
      refine ⟨show Ending.returned (.bool (decide ((x : Int) < 2) || decide ((i : Int) < 9))) = _ from ret_bool ?_, rfl⟩
      simp
      omega
  · have c2 : x = 0 := by omega
    have c3 : i = 0 := by omega
    subst c2 c3
    go_enter Try.func64, Try.ntmps64
    go_wp2
    go_ret
    exact ⟨rfl, rfl⟩
theorem may_no (x i : Nat) (w : World) (hx : x < 256) (hi : i < 10) (h : (x = 0 ∧ 0 < i) ∨ (2 ≤ x ∧ 9 ≤ i)) :
    Calls Try.prog 64 #[.int .u8 x, .int .i64 i] w fun e w' => e = .returned (.bool false) ∧ w' = w := by
  rcases h with ⟨h1, h2⟩ | ⟨h1, h2⟩
  · subst h1
    have hne : ((i : Int) == 0) = false := by simp; omega
    go_enter Try.func64, Try.ntmps64
    go_wp2
    go_ret
    exact ⟨rfl, rfl⟩
  · go_enter Try.func64, Try.ntmps64
    go_wp2
    go_ret
    refine ⟨show Ending.returned (.bool (decide ((x : Int) < 2) || decide ((i : Int) < 9))) = _ from ret_bool ?_, rfl⟩
    simp
    omega
theorem wrapU64 (n : Int) : IntKind.u64.wrap n = n % 18446744073709551616 := by simp [IntKind.wrap, IntKind.bits, IntKind.signed]
theorem andn128 : ∀ x, x < 256 → x &&& (255 - 128) = x % 128 := by decide +kernel
theorem byte_andn (x : Nat) (hx : x < 256) : bits .andNot .u8 (x : Int) 128 = ((x % 128 : Nat) : Int) := by
  have h := u8_andNot_nat x 128 hx (by omega)
  rw [andn128 x hx] at h
  exact h
/-- Seven bits more. -/
theorem read_or (v x k : Nat) (hv : v < 128 ^ k) (hx : x < 128) (hk : k ≤ 8 ∨ (k = 9 ∧ x < 2)) : bits .or .u64 (v : Int) (IntKind.u64.wrap ((x : Int) * 2 ^ (7 * k))) = ((v + 128 ^ k * x : Nat) : Int) := by
  rw [wrapU64]
  have hp : (2 : Nat) ^ (7 * k) = 128 ^ k := by rw [Nat.pow_mul]
  have hm2 : 128 ^ k * x < 18446744073709551616 := by
    rcases hk with hk | ⟨rfl, hk⟩
    · have h7 : 128 ^ k ≤ 128 ^ 8 := Nat.pow_le_pow_right (by omega) (by omega)
      exact Nat.lt_of_le_of_lt (Nat.mul_le_mul h7 (show x ≤ 127 by omega)) (by decide)
    · exact Nat.lt_of_le_of_lt (Nat.mul_le_mul_left _ (show x ≤ 1 by omega)) (by decide)
  have hv2 : v < 18446744073709551616 := by
    have h9 : 128 ^ k ≤ 128 ^ 9 := Nat.pow_le_pow_right (by omega) (by omega)
    exact Nat.lt_of_lt_of_le hv (Nat.le_trans h9 (by decide))
  have e : ((x : Int) * 2 ^ (7 * k) % 18446744073709551616) = ((128 ^ k * x : Nat) : Int) := by
    have : ((x : Int) * 2 ^ (7 * k)) = ((128 ^ k * x : Nat) : Int) := by rw [← hp]; simp [Int.mul_comm]
    rw [this]
    omega
  rw [e, u64_or_nat v _ hv2 hm2, Nat.or_comm, nat_join (7 * k) (128 ^ k * x) v (by rw [hp]; exact Nat.mul_mod_right _ _) (by rw [hp]; exact hv), Nat.add_comm]

theorem rd_none {L : List Nat} (h : ¬ okR L = true) : rdN L = 0 ∧ rdK L = 0 ∧ rdE L = 8 := by
  unfold rdN rdK rdE; rw [if_neg h, if_neg h, if_neg h]; exact ⟨rfl, rfl, rfl⟩
theorem rd_some {L : List Nat} (h : okR L = true) : rdN L = v7 (L.take (fe L + 1)) ∧ rdK L = fe L + 1 ∧ rdE L = 0 := by
  unfold rdN rdK rdE; rw [if_pos h, if_pos h, if_pos h]; exact ⟨rfl, rfl, rfl⟩
theorem read_empty {a : Option Addr} (c : Nat) (w : World) (ha : a = none → c = 0) (hc : c ≤ 9223372036854775807) :
    Calls Try.prog 62 #[.slice a 0 c] w fun e w' => e = .returned (.tuple #[.int .u64 0, .int .i64 0, .int .i64 8]) ∧ ∃ m, w' = w.drewN m := by
  cases a with
  | none =>
    have := ha rfl
    subst this
    go_enter Try.func62, Try.ntmps62
    go_wp2
    go_loopw [14] (fun i wr => i = .int .i64 0 ∧ ∃ m, wr = w.drewN m) (fun _ _ => 0)
    case atStart => exact ⟨rfl, 0, rfl⟩
    case round =>
      obtain ⟨rfl, m, rfl⟩ := hrel
      go_wp2
      go_ret3
      exact ⟨rfl, _, rfl⟩
  | some x =>
    obtain ⟨b, off, p⟩ := x
    go_enter Try.func62, Try.ntmps62
    go_wp2
    go_loopw [14] (fun i wr => i = .int .i64 0 ∧ ∃ m, wr = w.drewN m) (fun _ _ => 0)
    case atStart => exact ⟨rfl, 0, rfl⟩
    case round =>
      obtain ⟨rfl, m, rfl⟩ := hrel
      go_wp2
      go_ret3
      exact ⟨rfl, _, rfl⟩
set_option maxRecDepth 100000 in
set_option maxHeartbeats 1000000 in
theorem read_short {b off len c : Nat} {L : List Nat} {w : World} (hB : By w (some ⟨b, off, none⟩) len L) (hp : 0 < len) (hc : len ≤ c) (hc2 : c ≤ 9223372036854775807) (hlen : len ≤ 10) :
    Calls Try.prog 62 #[.slice (some ⟨b, off, none⟩) len c] w fun e w' => e = .returned (.tuple #[.int .u64 ((rdN L : Nat) : Int), .int .i64 ((rdK L : Nat) : Int), .int .i64 ((rdE L : Nat) : Int)]) ∧ ∃ m, w' = w.drewN m := by
  obtain ⟨b', off', e, hb, hcell⟩ := hB.at_ hp
  injection e with e
  injection e with e1 e2
  subst e1 e2
  have HL : Hid (L.length = len) := hB.size
  have HG : Hid (∀ i, L.getD i 0 < 256) := hB.getD
  have HC : Hid (∀ i, i < len → w.cell? ⟨b, off + i, none⟩ = some (.int .u8 ((L.getD i 0 : Nat) : Int))) := hcell
  have hl2 := hB.max
  clear hB hcell
  obtain ⟨q, hq⟩ : ∃ q : Nat, q = len := ⟨_, rfl⟩
  have HQ : Hid (q = min len 10) := by show _ = _; omega
  go_enter Try.func62, Try.ntmps62
  go_wp2
  go_loopw [5, 14] (fun n i wr => ∃ k : Nat, ∃ v : Int, k ≤ q ∧ n = .int .u64 v ∧ (k ≤ 9 → v = ((v7 (L.take k) : Nat) : Int)) ∧ i = .int .i64 k ∧ (∀ j, j < k → 128 ≤ L.getD j 0) ∧ ∃ m, wr = w.drewN m) (fun _ i _ => q - (intOf i).toNat)
  case atStart => exact ⟨0, 0, Nat.zero_le _, rfl, fun _ => by simp [v7], rfl, fun j hj => absurd hj (by omega), 0, rfl⟩
  case round =>
    obtain ⟨k, v, hk, rfl, hv, rfl, hge, m, rfl⟩ := hrel
    have HGE : Hid (∀ j, j < k → 128 ≤ L.getD j 0) := hge
    clear hge
    by_cases hlt : k < q
    · have hkl : k < len := by omega
      have hcell := HC.out k hkl
      have hx := HG.out k
      have hv' := hv (by omega)
      subst hv'
      clear hv
      have hand := byte_andn (L.getD k 0) hx
      obtain ⟨V, hV⟩ : ∃ V : Int, V = bits .or .u64 ((v7 (L.take k) : Nat) : Int) (IntKind.u64.wrap (((L.getD k 0 % 128 : Nat) : Int) * 2 ^ (7 * k))) := ⟨_, rfl⟩
      have HV : Hid (k ≤ 8 ∨ (k = 9 ∧ L.getD k 0 % 128 < 2) → V = ((v7 (L.take (k + 1)) : Nat) : Int)) := by
        intro h
        rw [hV, read_or _ _ k (v7_take_lt L k (by rw [HL.out]; omega)) (by omega) h, ← v7_take L k (by rw [HL.out]; exact hkl)]
      have hV' := hV.symm
      clear hV
      obtain ⟨y, hy⟩ : ∃ y, y = L.getD k 0 % 128 := ⟨_, rfl⟩
      rw [← hy] at hand hV' HV
      obtain ⟨x, hxe⟩ : ∃ x, x = L.getD k 0 := ⟨_, rfl⟩
      rw [← hxe] at hcell hx hand hy
      have HY : Hid (y = x % 128) := hy
      have hy2 : y < 128 := by omega
      clear hy
      have HXE : Hid (x = L.getD k 0) := hxe
      clear hxe
      generalize v7 (L.take k) = v0 at hV' ⊢
      by_cases hx2 : x < 128
      · have HF : Hid (fe L = k) := fe_eq L k HGE.out (by rw [← HXE.out]; exact hx2)
        by_cases hok : (0 < x ∨ k = 0) ∧ (x < 2 ∨ k < 9)
        · obtain ⟨g1, g2⟩ := hok
          have HO : Hid (okR L = true) := by
            show _
            rw [okR_iff, HF.out, ← HXE.out, HL.out]
            exact ⟨hkl, by omega, g1, g2⟩
          go_wp2_with (go_at_call 64; refine (may_yes x k _ hx (by omega) g1 g2).mono ?_; rintro e w3 ⟨rfl, rfl⟩)
          go_ret3
          obtain ⟨r1, r2, r3⟩ := rd_some HO.out
          rw [r1, r2, r3, HF.out, ← HV.out (by have := HY.out; omega)]
          exact ⟨by simp, _, rfl⟩
        · have g : (x = 0 ∧ 0 < k) ∨ (2 ≤ x ∧ 9 ≤ k) := by omega
          have HO : Hid (¬ okR L = true) := by
            show _
            rw [okR_iff, HF.out, ← HXE.out, HL.out]
            rintro ⟨_, _, g1, g2⟩
            exact hok ⟨g1, g2⟩
          go_wp2_with (go_at_call 64; refine (may_no x k _ hx (by omega) g).mono ?_; rintro e w3 ⟨rfl, rfl⟩)
          go_ret3
          obtain ⟨r1, r2, r3⟩ := rd_none HO.out
          rw [r1, r2, r3]
          exact ⟨rfl, _, rfl⟩
      · go_wp2
        go_roundw
        case rel =>
          refine ⟨k + 1, V, by omega, rfl, fun h9 => HV.out (by omega), by go_num, fun j hj => ?_, _, rfl⟩
          by_cases hjk : j < k
          · exact HGE.out j hjk
          · have : j = k := by omega
            subst this
            rw [← HXE.out]; omega
        case measure => simp [intOf]; omega
    · have HO : Hid (¬ okR L = true) := by
        show _
        rw [okR_iff]
        have h1 := fe_low L k HGE.out
        have h2 := HL.out
        have h3 := HQ.out
        rintro ⟨a1, a2, _, _⟩
        omega
      go_wp2
      go_ret3
      obtain ⟨r1, r2, r3⟩ := rd_none HO.out
      rw [r1, r2, r3]
      exact ⟨rfl, _, rfl⟩
set_option maxRecDepth 100000 in
set_option maxHeartbeats 1000000 in
theorem read_long {b off len c : Nat} {L : List Nat} {w : World} (hB : By w (some ⟨b, off, none⟩) len L) (hp : 0 < len) (hc : len ≤ c) (hc2 : c ≤ 9223372036854775807) (hlen : 10 < len) :
    Calls Try.prog 62 #[.slice (some ⟨b, off, none⟩) len c] w fun e w' => e = .returned (.tuple #[.int .u64 ((rdN L : Nat) : Int), .int .i64 ((rdK L : Nat) : Int), .int .i64 ((rdE L : Nat) : Int)]) ∧ ∃ m, w' = w.drewN m := by
  obtain ⟨b', off', e, hb, hcell⟩ := hB.at_ hp
  injection e with e
  injection e with e1 e2
  subst e1 e2
  have HL : Hid (L.length = len) := hB.size
  have HG : Hid (∀ i, L.getD i 0 < 256) := hB.getD
  have HC : Hid (∀ i, i < len → w.cell? ⟨b, off + i, none⟩ = some (.int .u8 ((L.getD i 0 : Nat) : Int))) := hcell
  have hl2 := hB.max
  clear hB hcell
  obtain ⟨q, hq⟩ : ∃ q : Nat, q = 10 := ⟨_, rfl⟩
  have HQ : Hid (q = min len 10) := by show _ = _; omega
  go_enter Try.func62, Try.ntmps62
  go_wp2
  go_loopw [5, 14] (fun n i wr => ∃ k : Nat, ∃ v : Int, k ≤ q ∧ n = .int .u64 v ∧ (k ≤ 9 → v = ((v7 (L.take k) : Nat) : Int)) ∧ i = .int .i64 k ∧ (∀ j, j < k → 128 ≤ L.getD j 0) ∧ ∃ m, wr = w.drewN m) (fun _ i _ => q - (intOf i).toNat)
  case atStart => exact ⟨0, 0, Nat.zero_le _, rfl, fun _ => by simp [v7], rfl, fun j hj => absurd hj (by omega), 0, rfl⟩
  case round =>
    obtain ⟨k, v, hk, rfl, hv, rfl, hge, m, rfl⟩ := hrel
    have HGE : Hid (∀ j, j < k → 128 ≤ L.getD j 0) := hge
    clear hge
    by_cases hlt : k < q
    · have hkl : k < len := by omega
      have hcell := HC.out k hkl
      have hx := HG.out k
      have hv' := hv (by omega)
      subst hv'
      clear hv
      have hand := byte_andn (L.getD k 0) hx
      obtain ⟨V, hV⟩ : ∃ V : Int, V = bits .or .u64 ((v7 (L.take k) : Nat) : Int) (IntKind.u64.wrap (((L.getD k 0 % 128 : Nat) : Int) * 2 ^ (7 * k))) := ⟨_, rfl⟩
      have HV : Hid (k ≤ 8 ∨ (k = 9 ∧ L.getD k 0 % 128 < 2) → V = ((v7 (L.take (k + 1)) : Nat) : Int)) := by
        intro h
        rw [hV, read_or _ _ k (v7_take_lt L k (by rw [HL.out]; omega)) (by omega) h, ← v7_take L k (by rw [HL.out]; exact hkl)]
      have hV' := hV.symm
      clear hV
      obtain ⟨y, hy⟩ : ∃ y, y = L.getD k 0 % 128 := ⟨_, rfl⟩
      rw [← hy] at hand hV' HV
      obtain ⟨x, hxe⟩ : ∃ x, x = L.getD k 0 := ⟨_, rfl⟩
      rw [← hxe] at hcell hx hand hy
      have HY : Hid (y = x % 128) := hy
      have hy2 : y < 128 := by omega
      clear hy
      have HXE : Hid (x = L.getD k 0) := hxe
      clear hxe
      generalize v7 (L.take k) = v0 at hV' ⊢
      by_cases hx2 : x < 128
      · have HF : Hid (fe L = k) := fe_eq L k HGE.out (by rw [← HXE.out]; exact hx2)
        by_cases hok : (0 < x ∨ k = 0) ∧ (x < 2 ∨ k < 9)
        · obtain ⟨g1, g2⟩ := hok
          have HO : Hid (okR L = true) := by
            show _
            rw [okR_iff, HF.out, ← HXE.out, HL.out]
            exact ⟨hkl, by omega, g1, g2⟩
          go_wp2_with (go_at_call 64; refine (may_yes x k _ hx (by omega) g1 g2).mono ?_; rintro e w3 ⟨rfl, rfl⟩)
          go_ret3
          obtain ⟨r1, r2, r3⟩ := rd_some HO.out
          rw [r1, r2, r3, HF.out, ← HV.out (by have := HY.out; omega)]
          exact ⟨by simp, _, rfl⟩
        · have g : (x = 0 ∧ 0 < k) ∨ (2 ≤ x ∧ 9 ≤ k) := by omega
          have HO : Hid (¬ okR L = true) := by
            show _
            rw [okR_iff, HF.out, ← HXE.out, HL.out]
            rintro ⟨_, _, g1, g2⟩
            exact hok ⟨g1, g2⟩
          go_wp2_with (go_at_call 64; refine (may_no x k _ hx (by omega) g).mono ?_; rintro e w3 ⟨rfl, rfl⟩)
          go_ret3
          obtain ⟨r1, r2, r3⟩ := rd_none HO.out
          rw [r1, r2, r3]
          exact ⟨rfl, _, rfl⟩
      · go_wp2
        go_roundw
        case rel =>
          refine ⟨k + 1, V, by omega, rfl, fun h9 => HV.out (by omega), by go_num, fun j hj => ?_, _, rfl⟩
          by_cases hjk : j < k
          · exact HGE.out j hjk
          · have : j = k := by omega
            subst this
            rw [← HXE.out]; omega
        case measure => simp [intOf]; omega
    · have HO : Hid (¬ okR L = true) := by
        show _
        rw [okR_iff]
        have h1 := fe_low L k HGE.out
        have h2 := HL.out
        have h3 := HQ.out
        rintro ⟨a1, a2, _, _⟩
        omega
      go_wp2
      go_ret3
      obtain ⟨r1, r2, r3⟩ := rd_none HO.out
      rw [r1, r2, r3]
      exact ⟨rfl, _, rfl⟩
theorem read_any {a : Option Addr} {len c : Nat} {L : List Nat} {w : World} (hB : By w a len L) (ha : a = none → c = 0) (hc : len ≤ c) (hc2 : c ≤ 9223372036854775807) :
    Calls Try.prog 62 #[.slice a len c] w fun e w' => e = .returned (.tuple #[.int .u64 ((rdN L : Nat) : Int), .int .i64 ((rdK L : Nat) : Int), .int .i64 ((rdE L : Nat) : Int)]) ∧ ∃ m, w' = w.drewN m := by
  by_cases h : 0 < len
  · obtain ⟨b, off, rfl, _, _⟩ := hB.at_ h
    by_cases h10 : len ≤ 10
    · exact read_short hB h hc hc2 h10
    · exact read_long hB h hc hc2 (by omega)
  · have e0 : len = 0 := by omega
    subst e0
    have e1 : L = [] := List.length_eq_zero_iff.1 hB.size
    subst e1
    exact read_empty c w ha hc2

end Go.Proofs.Ytnmfigcemknjbaa
