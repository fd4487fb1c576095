/-
  THE CONTRACT of the document's Read (stoplineref03.Read).
-/
import Derived.Test.YtnmfigcemknjbaaJoin
import Derived.Test.YtnmfigcemknjbaaRead
namespace Go.Proofs.Ytnmfigcemknjbaa
open Go.RowKit Go.Lib Go.Deep
set_option linter.unusedVariables false
set_option linter.unusedSimpArgs false

theorem v7_drop (L : List Nat) (i : Nat) (h : i < L.length) : v7 (L.drop i) = L.getD i 0 % 128 + 128 * v7 (L.drop (i + 1)) := by
  rw [List.drop_eq_getElem_cons h, v7]; simp [h]
theorem v7_drop_le : ∀ (L : List Nat) (i : Nat), v7 (L.drop i) ≤ v7 L
  | [], i => by simp
  | x :: L, 0 => by simp
  | x :: L, i + 1 => by
    have := v7_drop_le L i
    rw [List.drop_succ_cons, v7]
    omega

set_option maxRecDepth 100000 in
set_option maxHeartbeats 4000000 in
theorem rread_any {a : Option Addr} {len c : Nat} {L : List Nat} {w : World} (hB : By w a len L) :
    Calls Try.prog 58 #[.slice a len c] w fun e w' => e = .returned (.tuple #[.int .u64 ((rdN L : Nat) : Int), .int .i64 ((rdK L : Nat) : Int), .int .i64 ((rdE L : Nat) : Int)]) ∧ ∃ m, w' = w.drewN m := by
  have HL : Hid (L.length = len) := hB.size
  have HG : Hid (∀ i, L.getD i 0 < 256) := hB.getD
  have HA : Hid (0 < len → ∃ b off, a = some ⟨b, off, none⟩ ∧ b < w.heap.size ∧ ∀ i, i < len → w.cell? ⟨b, off + i, none⟩ = some (.int .u8 ((L.getD i 0 : Nat) : Int))) := hB.at_
  have hl2 := hB.max
  clear hB
  go_enter Try.func58, Try.ntmps58
  go_wp2
  go_loopw [5] (fun kv wr => ∃ k : Nat, k ≤ len ∧ k ≤ 10 ∧ kv = .int .i64 k ∧ (∀ j, j < k → 128 ≤ L.getD j 0) ∧ ∃ m, wr = w.drewN m) (fun kv _ => 10 - (intOf kv).toNat)
  case atStart => exact ⟨0, Nat.zero_le _, by omega, rfl, fun j hj => absurd hj (by omega), 0, rfl⟩
  case round =>
    obtain ⟨k, hk, hk10, rfl, hge, m, rfl⟩ := hrel
    have HGE : Hid (∀ j, j < k → 128 ≤ L.getD j 0) := hge
    clear hge
    by_cases c1 : k < len
    · obtain ⟨b, off, rfl, hb, hc⟩ := HA.out (by omega)
      have HC : Hid (∀ i, i < len → w.cell? ⟨b, off + i, none⟩ = some (.int .u8 ((L.getD i 0 : Nat) : Int))) := hc
      clear hc
      by_cases c2 : k < 10
      · have hcell := HC.out k c1
        have hx := HG.out k
        obtain ⟨x, hxe⟩ : ∃ x, x = L.getD k 0 := ⟨_, rfl⟩
        rw [← hxe] at hcell hx
        have HXE : Hid (x = L.getD k 0) := hxe
        clear hxe
        by_cases c3 : 128 ≤ x
        · have d3 : decide ((128 : Int) ≤ (x : Int)) = true := decide_eq_true (by omega)
          go_wp2
          go_roundw
          case rel =>
            refine ⟨k + 1, by omega, by omega, by go_num, fun j hj => ?_, _, rfl⟩
            by_cases hjk : j < k
            · exact HGE.out j hjk
            · have : j = k := by omega
              subst this
              rw [← HXE.out]; exact c3
          case measure => simp [intOf]; omega
        · have HF : Hid (fe L = k) := fe_eq L k HGE.out (by rw [← HXE.out]; omega)
          have d3 : decide ((128 : Int) ≤ (x : Int)) = false := decide_eq_false (by omega)
          by_cases k9 : k = 9
          · subst k9
            have d9 : ((9 : Int) == 9) = true := by decide
            by_cases x1 : 1 < x
            · have d1 : decide ((1 : Int) < (x : Int)) = true := decide_eq_true (by omega)
              have HO : Hid (¬ okR L = true) := by
                show ¬ _
                rw [okR_iff, HF.out, ← HXE.out, HL.out]
                rintro ⟨_, _, g1, g2⟩
                omega
              go_wp2
              go_ret3
              obtain ⟨r1, r2, r3⟩ := rd_none HO.out
              rw [r1, r2, r3]
              exact ⟨rfl, _, rfl⟩

            · have d1 : decide ((1 : Int) < (x : Int)) = false := decide_eq_false (by omega)
              by_cases x0 : x = 0
              · subst x0
                have HO : Hid (¬ okR L = true) := by
                  show ¬ _
                  rw [okR_iff, HF.out, ← HXE.out, HL.out]
                  rintro ⟨_, _, g1, g2⟩
                  omega
                go_wp2
                go_ret3
                obtain ⟨r1, r2, r3⟩ := rd_none HO.out
                rw [r1, r2, r3]
                exact ⟨rfl, _, rfl⟩

              · have x01 : x = 1 := by omega
                subst x01
                have HO : Hid (okR L = true) := by
                  show _ = _
                  rw [okR_iff, HF.out, ← HXE.out, HL.out]
                  exact ⟨c1, by omega, by omega, by omega⟩
                obtain ⟨r1, r2, r3⟩ := rd_some HO.out
                have hlt64 := rdN_lt L
                rw [r1] at hlt64
                rw [HF.out] at r1 r2 hlt64
                have HR1 : Hid (rdN L = v7 (L.take (9 + 1))) := r1
                have HR2 : Hid (rdK L = 9 + 1) := r2
                have HR3 : Hid (rdE L = 0) := r3
                have HXl : Hid ((L.take (9 + 1)).length = 9 + 1) := by have := HL.out; show _ = _; simp; omega
                have HXg : Hid (∀ j, j < 9 + 1 → (L.take (9 + 1)).getD j 0 = L.getD j 0) := fun j hj => by simp [List.getElem?_take, hj]
                have HX64 : Hid (v7 (L.take (9 + 1)) < 18446744073709551616) := hlt64
                clear r1 r2 r3 hlt64
                go_wp2
                go_loopw [6, 7] (fun n i wr => ∃ j : Nat, j ≤ 9 + 1 ∧ n = .int .u64 ((v7 ((L.take (9 + 1)).drop j) : Nat) : Int) ∧ i = .int .i64 ((j : Int) - 1) ∧ ∃ m, wr = w.drewN m) (fun _ i _ => (intOf i + 1).toNat)
                case atStart => exact ⟨9 + 1, Nat.le_refl _, by rw [List.drop_of_length_le (by rw [HXl.out]; exact Nat.le_refl _)]; rfl, by go_num, m, rfl⟩
                case round =>
                  obtain ⟨q, hq, rfl, rfl, m2, rfl⟩ := hrel
                  by_cases hlt : 0 < q
                  · obtain ⟨j, rfl⟩ : ∃ j, q = j + 1 := ⟨q - 1, by omega⟩
                    have hcj := HC.out j (by omega)
                    have hy := HG.out j
                    have hd := v7_drop (L.take (9 + 1)) j (by rw [HXl.out]; omega)
                    have hn := Nat.lt_of_le_of_lt (v7_drop_le (L.take (9 + 1)) j) HX64.out
                    rw [HXg.out j (by omega)] at hd
                    have HD : Hid (v7 ((L.take (9 + 1)).drop j) = L.getD j 0 % 128 + 128 * v7 ((L.take (9 + 1)).drop (j + 1))) := hd
                    rw [hd] at hn
                    clear hd
                    generalize L.getD j 0 = y at *
                    generalize v7 ((L.take (9 + 1)).drop (j + 1)) = v at *
                    have hj : ((j + 1 : Nat) : Int) - 1 = (j : Int) := by omega
                    rw [hj]
                    go_wp2
                    go_roundw
                    case rel => exact ⟨j, by omega, by rw [HD.out]; go_num, by go_num, _, rfl⟩
                    case measure => simp [intOf]
                  · have hq0 : q = 0 := by omega
                    subst hq0
                    rw [List.drop_zero]
                    go_wp2
                    go_ret3
                    rw [HR1.out, HR2.out, HR3.out]
                    exact ⟨by simp, _, rfl⟩

          · have d9 : ((k : Int) == 9) = false := by simp; omega
            by_cases k0 : k = 0
            · subst k0
              rw [Nat.add_zero] at hcell
              have HO : Hid (okR L = true) := by
                show _ = _
                rw [okR_iff, HF.out, ← HXE.out, HL.out]
                exact ⟨c1, by omega, by omega, by omega⟩
              obtain ⟨r1, r2, r3⟩ := rd_some HO.out
              have hlt64 := rdN_lt L
              rw [r1] at hlt64
              rw [HF.out] at r1 r2 hlt64
              have HR1 : Hid (rdN L = v7 (L.take (0 + 1))) := r1
              have HR2 : Hid (rdK L = 0 + 1) := r2
              have HR3 : Hid (rdE L = 0) := r3
              have HXl : Hid ((L.take (0 + 1)).length = 0 + 1) := by have := HL.out; show _ = _; simp; omega
              have HXg : Hid (∀ j, j < 0 + 1 → (L.take (0 + 1)).getD j 0 = L.getD j 0) := fun j hj => by simp [List.getElem?_take, hj]
              have HX64 : Hid (v7 (L.take (0 + 1)) < 18446744073709551616) := hlt64
              clear r1 r2 r3 hlt64
              go_wp2
              go_loopw [6, 7] (fun n i wr => ∃ j : Nat, j ≤ 0 + 1 ∧ n = .int .u64 ((v7 ((L.take (0 + 1)).drop j) : Nat) : Int) ∧ i = .int .i64 ((j : Int) - 1) ∧ ∃ m, wr = w.drewN m) (fun _ i _ => (intOf i + 1).toNat)
              case atStart => exact ⟨0 + 1, Nat.le_refl _, by rw [List.drop_of_length_le (by rw [HXl.out]; exact Nat.le_refl _)]; rfl, by go_num, m, rfl⟩
              case round =>
                obtain ⟨q, hq, rfl, rfl, m2, rfl⟩ := hrel
                by_cases hlt : 0 < q
                · obtain ⟨j, rfl⟩ : ∃ j, q = j + 1 := ⟨q - 1, by omega⟩
                  have hcj := HC.out j (by omega)
                  have hy := HG.out j
                  have hd := v7_drop (L.take (0 + 1)) j (by rw [HXl.out]; omega)
                  have hn := Nat.lt_of_le_of_lt (v7_drop_le (L.take (0 + 1)) j) HX64.out
                  rw [HXg.out j (by omega)] at hd
                  have HD : Hid (v7 ((L.take (0 + 1)).drop j) = L.getD j 0 % 128 + 128 * v7 ((L.take (0 + 1)).drop (j + 1))) := hd
                  rw [hd] at hn
                  clear hd
                  generalize L.getD j 0 = y at *
                  generalize v7 ((L.take (0 + 1)).drop (j + 1)) = v at *
                  have hj : ((j + 1 : Nat) : Int) - 1 = (j : Int) := by omega
                  rw [hj]
                  go_wp2
                  go_roundw
                  case rel => exact ⟨j, by omega, by rw [HD.out]; go_num, by go_num, _, rfl⟩
                  case measure => simp [intOf]
                · have hq0 : q = 0 := by omega
                  subst hq0
                  rw [List.drop_zero]
                  go_wp2
                  go_ret3
                  rw [HR1.out, HR2.out, HR3.out]
                  exact ⟨by simp, _, rfl⟩

            · have dk : decide ((0 : Int) < (k : Int)) = true := decide_eq_true (by omega)
              by_cases x0 : x = 0
              · subst x0
                have HO : Hid (¬ okR L = true) := by
                  show ¬ _
                  rw [okR_iff, HF.out, ← HXE.out, HL.out]
                  rintro ⟨_, _, g1, g2⟩
                  omega
                go_wp2
                go_ret3
                obtain ⟨r1, r2, r3⟩ := rd_none HO.out
                rw [r1, r2, r3]
                exact ⟨rfl, _, rfl⟩

              · have dx : ((x : Int) == 0) = false := by simp; omega
                have HO : Hid (okR L = true) := by
                  show _ = _
                  rw [okR_iff, HF.out, ← HXE.out, HL.out]
                  exact ⟨c1, by omega, by omega, by omega⟩
                obtain ⟨r1, r2, r3⟩ := rd_some HO.out
                have hlt64 := rdN_lt L
                rw [r1] at hlt64
                rw [HF.out] at r1 r2 hlt64
                have HR1 : Hid (rdN L = v7 (L.take (k + 1))) := r1
                have HR2 : Hid (rdK L = k + 1) := r2
                have HR3 : Hid (rdE L = 0) := r3
                have HXl : Hid ((L.take (k + 1)).length = k + 1) := by have := HL.out; show _ = _; simp; omega
                have HXg : Hid (∀ j, j < k + 1 → (L.take (k + 1)).getD j 0 = L.getD j 0) := fun j hj => by simp [List.getElem?_take, hj]
                have HX64 : Hid (v7 (L.take (k + 1)) < 18446744073709551616) := hlt64
                clear r1 r2 r3 hlt64
                go_wp2
                go_loopw [6, 7] (fun n i wr => ∃ j : Nat, j ≤ k + 1 ∧ n = .int .u64 ((v7 ((L.take (k + 1)).drop j) : Nat) : Int) ∧ i = .int .i64 ((j : Int) - 1) ∧ ∃ m, wr = w.drewN m) (fun _ i _ => (intOf i + 1).toNat)
                case atStart => exact ⟨k + 1, Nat.le_refl _, by rw [List.drop_of_length_le (by rw [HXl.out]; exact Nat.le_refl _)]; rfl, by go_num, m, rfl⟩
                case round =>
                  obtain ⟨q, hq, rfl, rfl, m2, rfl⟩ := hrel
                  by_cases hlt : 0 < q
                  · obtain ⟨j, rfl⟩ : ∃ j, q = j + 1 := ⟨q - 1, by omega⟩
                    have hcj := HC.out j (by omega)
                    have hy := HG.out j
                    have hd := v7_drop (L.take (k + 1)) j (by rw [HXl.out]; omega)
                    have hn := Nat.lt_of_le_of_lt (v7_drop_le (L.take (k + 1)) j) HX64.out
                    rw [HXg.out j (by omega)] at hd
                    have HD : Hid (v7 ((L.take (k + 1)).drop j) = L.getD j 0 % 128 + 128 * v7 ((L.take (k + 1)).drop (j + 1))) := hd
                    rw [hd] at hn
                    clear hd
                    generalize L.getD j 0 = y at *
                    generalize v7 ((L.take (k + 1)).drop (j + 1)) = v at *
                    have hj : ((j + 1 : Nat) : Int) - 1 = (j : Int) := by omega
                    rw [hj]
                    go_wp2
                    go_roundw
                    case rel => exact ⟨j, by omega, by rw [HD.out]; go_num, by go_num, _, rfl⟩
                    case measure => simp [intOf]
                  · have hq0 : q = 0 := by omega
                    subst hq0
                    rw [List.drop_zero]
                    go_wp2
                    go_ret3
                    rw [HR1.out, HR2.out, HR3.out]
                    exact ⟨by simp, _, rfl⟩

      · have HO : Hid (¬ okR L = true) := by
          show ¬ _
          rw [okR_iff]
          have h1 := fe_low L k HGE.out
          rintro ⟨_, a2, _, _⟩
          omega
        go_wp2
        go_ret3
        obtain ⟨r1, r2, r3⟩ := rd_none HO.out
        rw [r1, r2, r3]
        exact ⟨rfl, _, rfl⟩

    · have HO : Hid (¬ okR L = true) := by
        show ¬ _
        rw [okR_iff]
        have h1 := fe_low L k HGE.out
        have h2 := HL.out
        rintro ⟨a1, _, _, _⟩
        omega
      go_wp2
      go_ret3
      obtain ⟨r1, r2, r3⟩ := rd_none HO.out
      rw [r1, r2, r3]
      exact ⟨rfl, _, rfl⟩

end Go.Proofs.Ytnmfigcemknjbaa
