/-
  Texts joined: some of those that the proofs of this seat stand on.
-/
import Derived.Test.YtlabjamkaebnjaaSmallJ
import Derived.Test.YtlabjamkaebnjaaMathsJ
import Derived.Test.YtlabjamkaebnjaaCrcJ
import Derived.Test.YtlabjamkaebnjaaSSiteBJ
import Derived.Test.YtlabjamkaebnjaaSFitsJ
/-
  THE CONTRACT of the document's Read (stoplineref03.Read).
-/
namespace Go.Proofs.Ytlabjamkaebnjaa
open Go.RowKit Go.Lib Go.Deep
set_option linter.unusedVariables false
set_option linter.unusedSimpArgs false

theorem v7_drop (L : List Nat) (i : Nat) (h : i < L.length) : v7 (L.drop i) = L.getD i 0 % 128 + 128 * v7 (L.drop (i + 1)) := by
  rw [List.drop_eq_getElem_cons h, v7]; simp [h]
theorem v7_drop_le : ∀ (L : List Nat) (i : Nat), v7 (L.drop i) ≤ v7 L
  | [], i => by simp
  | x :: L, 0 => by simp
  | x :: L, i + 1 => by
    have := v7_drop_le L i
    rw [List.drop_succ_cons, v7]
    omega

set_option maxRecDepth 100000 in
set_option maxHeartbeats 4000000 in
theorem rread_any {a : Option Addr} {len c : Nat} {L : List Nat} {w : World} (hB : By w a len L) :
    Calls Try.prog 57 #[.slice a len c] w fun e w' => e = .returned (.tuple #[.int .u64 ((rdN L : Nat) : Int), .int .i64 ((rdK L : Nat) : Int), .int .i64 ((rdE L : Nat) : Int)]) ∧ ∃ m, w' = w.drewN m := by
  have HL : Hid (L.length = len) := hB.size
  have HG : Hid (∀ i, L.getD i 0 < 256) := hB.getD
  have HA : Hid (0 < len → ∃ b off, a = some ⟨b, off, none⟩ ∧ b < w.heap.size ∧ ∀ i, i < len → w.cell? ⟨b, off + i, none⟩ = some (.int .u8 ((L.getD i 0 : Nat) : Int))) := hB.at_
  have hl2 := hB.max
  clear hB
  go_enter Try.func57, Try.ntmps57
  go_wp2
  go_loopw [5] (fun kv wr => ∃ k : Nat, k ≤ len ∧ k ≤ 10 ∧ kv = .int .i64 k ∧ (∀ j, j < k → 128 ≤ L.getD j 0) ∧ ∃ m, wr = w.drewN m) (fun kv _ => 10 - (intOf kv).toNat)
  case atStart => exact ⟨0, Nat.zero_le _, by omega, rfl, fun j hj => absurd hj (by omega), 0, rfl⟩
  case round =>
    obtain ⟨k, hk, hk10, rfl, hge, m, rfl⟩ := hrel
    have HGE : Hid (∀ j, j < k → 128 ≤ L.getD j 0) := hge
    clear hge
    by_cases c1 : k < len
    · obtain ⟨b, off, rfl, hb, hc⟩ := HA.out (by omega)
      have HC : Hid (∀ i, i < len → w.cell? ⟨b, off + i, none⟩ = some (.int .u8 ((L.getD i 0 : Nat) : Int))) := hc
      clear hc
      by_cases c2 : k < 10
      · have hcell := HC.out k c1
        have hx := HG.out k
        obtain ⟨x, hxe⟩ : ∃ x, x = L.getD k 0 := ⟨_, rfl⟩
        rw [← hxe] at hcell hx
        have HXE : Hid (x = L.getD k 0) := hxe
        clear hxe
        by_cases c3 : 128 ≤ x
        · have d3 : decide ((128 : Int) ≤ (x : Int)) = true := decide_eq_true (by omega)
          go_wp2
          go_roundw
          case rel =>
            refine ⟨k + 1, by omega, by omega, by go_num, fun j hj => ?_, _, rfl⟩
            by_cases hjk : j < k
            · exact HGE.out j hjk
            · have : j = k := by omega
              subst this
              rw [← HXE.out]; exact c3
          case measure => simp [intOf]; omega
        · have HF : Hid (fe L = k) := fe_eq L k HGE.out (by rw [← HXE.out]; omega)
          have d3 : decide ((128 : Int) ≤ (x : Int)) = false := decide_eq_false (by omega)
          by_cases k9 : k = 9
          · subst k9
            have d9 : ((9 : Int) == 9) = true := by decide
            by_cases x1 : 1 < x
            · have d1 : decide ((1 : Int) < (x : Int)) = true := decide_eq_true (by omega)
              have HO : Hid (¬ okR L = true) := by
                show ¬ _
                rw [okR_iff, HF.out, ← HXE.out, HL.out]
                rintro ⟨_, _, g1, g2⟩
                omega
              go_wp2
              go_ret3
              obtain ⟨r1, r2, r3⟩ := rd_none HO.out
              rw [r1, r2, r3]
              exact ⟨rfl, _, rfl⟩

            · have d1 : decide ((1 : Int) < (x : Int)) = false := decide_eq_false (by omega)
              by_cases x0 : x = 0
              · subst x0
                have HO : Hid (¬ okR L = true) := by
                  show ¬ _
                  rw [okR_iff, HF.out, ← HXE.out, HL.out]
                  rintro ⟨_, _, g1, g2⟩
                  omega
                go_wp2
                go_ret3
                obtain ⟨r1, r2, r3⟩ := rd_none HO.out
                rw [r1, r2, r3]
                exact ⟨rfl, _, rfl⟩

              · have x01 : x = 1 := by omega
                subst x01
                have HO : Hid (okR L = true) := by
                  show _ = _
                  rw [okR_iff, HF.out, ← HXE.out, HL.out]
                  exact ⟨c1, by omega, by omega, by omega⟩
                obtain ⟨r1, r2, r3⟩ := rd_some HO.out
                have hlt64 := rdN_lt L
                rw [r1] at hlt64
                rw [HF.out] at r1 r2 hlt64
                have HR1 : Hid (rdN L = v7 (L.take (9 + 1))) := r1
                have HR2 : Hid (rdK L = 9 + 1) := r2
                have HR3 : Hid (rdE L = 0) := r3
                have HXl : Hid ((L.take (9 + 1)).length = 9 + 1) := by have := HL.out; show _ = _; simp; omega
                have HXg : Hid (∀ j, j < 9 + 1 → (L.take (9 + 1)).getD j 0 = L.getD j 0) := fun j hj => by simp [List.getElem?_take, hj]
                have HX64 : Hid (v7 (L.take (9 + 1)) < 18446744073709551616) := hlt64
                clear r1 r2 r3 hlt64
                go_wp2
                go_loopw [6, 7] (fun n i wr => ∃ j : Nat, j ≤ 9 + 1 ∧ n = .int .u64 ((v7 ((L.take (9 + 1)).drop j) : Nat) : Int) ∧ i = .int .i64 ((j : Int) - 1) ∧ ∃ m, wr = w.drewN m) (fun _ i _ => (intOf i + 1).toNat)
                case atStart => exact ⟨9 + 1, Nat.le_refl _, by rw [List.drop_of_length_le (by rw [HXl.out]; exact Nat.le_refl _)]; rfl, by go_num, m, rfl⟩
                case round =>
                  obtain ⟨q, hq, rfl, rfl, m2, rfl⟩ := hrel
                  by_cases hlt : 0 < q
                  · obtain ⟨j, rfl⟩ : ∃ j, q = j + 1 := ⟨q - 1, by omega⟩
                    have hcj := HC.out j (by omega)
                    have hy := HG.out j
                    have hd := v7_drop (L.take (9 + 1)) j (by rw [HXl.out]; omega)
                    have hn := Nat.lt_of_le_of_lt (v7_drop_le (L.take (9 + 1)) j) HX64.out
                    rw [HXg.out j (by omega)] at hd
                    have HD : Hid (v7 ((L.take (9 + 1)).drop j) = L.getD j 0 % 128 + 128 * v7 ((L.take (9 + 1)).drop (j + 1))) := hd
                    rw [hd] at hn
                    clear hd
                    generalize L.getD j 0 = y at *
                    generalize v7 ((L.take (9 + 1)).drop (j + 1)) = v at *
                    have hj : ((j + 1 : Nat) : Int) - 1 = (j : Int) := by omega
                    rw [hj]
                    go_wp2
                    go_roundw
                    case rel => exact ⟨j, by omega, by rw [HD.out]; go_num, by go_num, _, rfl⟩
                    case measure => simp [intOf]
                  · have hq0 : q = 0 := by omega
                    subst hq0
                    rw [List.drop_zero]
                    go_wp2
                    go_ret3
                    rw [HR1.out, HR2.out, HR3.out]
                    exact ⟨by simp, _, rfl⟩

          · have d9 : ((k : Int) == 9) = false := by simp; omega
            by_cases k0 : k = 0
            · subst k0
              rw [Nat.add_zero] at hcell
              have HO : Hid (okR L = true) := by
                show _ = _
                rw [okR_iff, HF.out, ← HXE.out, HL.out]
                exact ⟨c1, by omega, by omega, by omega⟩
              obtain ⟨r1, r2, r3⟩ := rd_some HO.out
              have hlt64 := rdN_lt L
              rw [r1] at hlt64
              rw [HF.out] at r1 r2 hlt64
              have HR1 : Hid (rdN L = v7 (L.take (0 + 1))) := r1
              have HR2 : Hid (rdK L = 0 + 1) := r2
              have HR3 : Hid (rdE L = 0) := r3
              have HXl : Hid ((L.take (0 + 1)).length = 0 + 1) := by have := HL.out; show _ = _; simp; omega
              have HXg : Hid (∀ j, j < 0 + 1 → (L.take (0 + 1)).getD j 0 = L.getD j 0) := fun j hj => by simp [List.getElem?_take, hj]
              have HX64 : Hid (v7 (L.take (0 + 1)) < 18446744073709551616) := hlt64
              clear r1 r2 r3 hlt64
              go_wp2
              go_loopw [6, 7] (fun n i wr => ∃ j : Nat, j ≤ 0 + 1 ∧ n = .int .u64 ((v7 ((L.take (0 + 1)).drop j) : Nat) : Int) ∧ i = .int .i64 ((j : Int) - 1) ∧ ∃ m, wr = w.drewN m) (fun _ i _ => (intOf i + 1).toNat)
              case atStart => exact ⟨0 + 1, Nat.le_refl _, by rw [List.drop_of_length_le (by rw [HXl.out]; exact Nat.le_refl _)]; rfl, by go_num, m, rfl⟩
              case round =>
                obtain ⟨q, hq, rfl, rfl, m2, rfl⟩ := hrel
                by_cases hlt : 0 < q
                · obtain ⟨j, rfl⟩ : ∃ j, q = j + 1 := ⟨q - 1, by omega⟩
                  have hcj := HC.out j (by omega)
                  have hy := HG.out j
                  have hd := v7_drop (L.take (0 + 1)) j (by rw [HXl.out]; omega)
                  have hn := Nat.lt_of_le_of_lt (v7_drop_le (L.take (0 + 1)) j) HX64.out
                  rw [HXg.out j (by omega)] at hd
                  have HD : Hid (v7 ((L.take (0 + 1)).drop j) = L.getD j 0 % 128 + 128 * v7 ((L.take (0 + 1)).drop (j + 1))) := hd
                  rw [hd] at hn
                  clear hd
                  generalize L.getD j 0 = y at *
                  generalize v7 ((L.take (0 + 1)).drop (j + 1)) = v at *
                  have hj : ((j + 1 : Nat) : Int) - 1 = (j : Int) := by omega
                  rw [hj]
                  go_wp2
                  go_roundw
                  case rel => exact ⟨j, by omega, by rw [HD.out]; go_num, by go_num, _, rfl⟩
                  case measure => simp [intOf]
                · have hq0 : q = 0 := by omega
                  subst hq0
                  rw [List.drop_zero]
                  go_wp2
                  go_ret3
                  rw [HR1.out, HR2.out, HR3.out]
                  exact ⟨by simp, _, rfl⟩

            · have dk : decide ((0 : Int) < (k : Int)) = true := decide_eq_true (by omega)
              by_cases x0 : x = 0
              · subst x0
                have HO : Hid (¬ okR L = true) := by
                  show ¬ _
                  rw [okR_iff, HF.out, ← HXE.out, HL.out]
                  rintro ⟨_, _, g1, g2⟩
                  omega
                go_wp2
                go_ret3
                obtain ⟨r1, r2, r3⟩ := rd_none HO.out
                rw [r1, r2, r3]
                exact ⟨rfl, _, rfl⟩

              · have dx : ((x : Int) == 0) = false := by simp; omega
                have HO : Hid (okR L = true) := by
                  show _ = _
                  rw [okR_iff, HF.out, ← HXE.out, HL.out]
                  exact ⟨c1, by omega, by omega, by omega⟩
                obtain ⟨r1, r2, r3⟩ := rd_some HO.out
                have hlt64 := rdN_lt L
                rw [r1] at hlt64
                rw [HF.out] at r1 r2 hlt64
                have HR1 : Hid (rdN L = v7 (L.take (k + 1))) := r1
                have HR2 : Hid (rdK L = k + 1) := r2
                have HR3 : Hid (rdE L = 0) := r3
                have HXl : Hid ((L.take (k + 1)).length = k + 1) := by have := HL.out; show _ = _; simp; omega
                have HXg : Hid (∀ j, j < k + 1 → (L.take (k + 1)).getD j 0 = L.getD j 0) := fun j hj => by simp [List.getElem?_take, hj]
                have HX64 : Hid (v7 (L.take (k + 1)) < 18446744073709551616) := hlt64
                clear r1 r2 r3 hlt64
                go_wp2
                go_loopw [6, 7] (fun n i wr => ∃ j : Nat, j ≤ k + 1 ∧ n = .int .u64 ((v7 ((L.take (k + 1)).drop j) : Nat) : Int) ∧ i = .int .i64 ((j : Int) - 1) ∧ ∃ m, wr = w.drewN m) (fun _ i _ => (intOf i + 1).toNat)
                case atStart => exact ⟨k + 1, Nat.le_refl _, by rw [List.drop_of_length_le (by rw [HXl.out]; exact Nat.le_refl _)]; rfl, by go_num, m, rfl⟩
                case round =>
                  obtain ⟨q, hq, rfl, rfl, m2, rfl⟩ := hrel
                  by_cases hlt : 0 < q
                  · obtain ⟨j, rfl⟩ : ∃ j, q = j + 1 := ⟨q - 1, by omega⟩
                    have hcj := HC.out j (by omega)
                    have hy := HG.out j
                    have hd := v7_drop (L.take (k + 1)) j (by rw [HXl.out]; omega)
                    have hn := Nat.lt_of_le_of_lt (v7_drop_le (L.take (k + 1)) j) HX64.out
                    rw [HXg.out j (by omega)] at hd
                    have HD : Hid (v7 ((L.take (k + 1)).drop j) = L.getD j 0 % 128 + 128 * v7 ((L.take (k + 1)).drop (j + 1))) := hd
                    rw [hd] at hn
                    clear hd
                    generalize L.getD j 0 = y at *
                    generalize v7 ((L.take (k + 1)).drop (j + 1)) = v at *
                    have hj : ((j + 1 : Nat) : Int) - 1 = (j : Int) := by omega
                    rw [hj]
                    go_wp2
                    go_roundw
                    case rel => exact ⟨j, by omega, by rw [HD.out]; go_num, by go_num, _, rfl⟩
                    case measure => simp [intOf]
                  · have hq0 : q = 0 := by omega
                    subst hq0
                    rw [List.drop_zero]
                    go_wp2
                    go_ret3
                    rw [HR1.out, HR2.out, HR3.out]
                    exact ⟨by simp, _, rfl⟩

      · have HO : Hid (¬ okR L = true) := by
          show ¬ _
          rw [okR_iff]
          have h1 := fe_low L k HGE.out
          rintro ⟨_, a2, _, _⟩
          omega
        go_wp2
        go_ret3
        obtain ⟨r1, r2, r3⟩ := rd_none HO.out
        rw [r1, r2, r3]
        exact ⟨rfl, _, rfl⟩

    · have HO : Hid (¬ okR L = true) := by
        show ¬ _
        rw [okR_iff]
        have h1 := fe_low L k HGE.out
        have h2 := HL.out
        rintro ⟨a1, _, _, _⟩
        omega
      go_wp2
      go_ret3
      obtain ⟨r1, r2, r3⟩ := rd_none HO.out
      rw [r1, r2, r3]
      exact ⟨rfl, _, rfl⟩

end Go.Proofs.Ytlabjamkaebnjaa

/-
  Of the text RefN: what this stage needs (culled by a program).
-/
namespace Go.Proofs.Ytlabjamkaebnjaa
open Go.RowKit Go.Lib Go.Deep
set_option linter.unusedVariables false
set_option linter.unusedSimpArgs false

/-- The next number, up to a bound. -/
def dnM (most : Nat) (s : Rd) : Nat × Rd := if (okR s.1 && decide (rdN s.1 ≤ most)) = true then (rdN s.1, (s.1.drop (rdK s.1), s.2)) else (0, (s.1, true))
theorem dnM_le (most : Nat) (s : Rd) : (dnM most s).1 ≤ most := by
  unfold dnM
  split
  · rename_i h
    simp only [Bool.and_eq_true, decide_eq_true_eq] at h
    exact h.2
  · omega
theorem dnM_no {most : Nat} {s : Rd} (h : (okR s.1 && decide (rdN s.1 ≤ most)) = false) : dnM most s = (0, (s.1, true)) := by unfold dnM; rw [if_neg (by rw [h]; decide)]
theorem dnM_yes {most : Nat} {s : Rd} (h : (okR s.1 && decide (rdN s.1 ≤ most)) = true) : dnM most s = (rdN s.1, (s.1.drop (rdK s.1), s.2)) := by unfold dnM; rw [if_pos h]
/-- A reader in block b, below block H; the bytes that it reads lie below H too, and not in b. -/
structure Drd (w : World) (H b : Nat) (s : Rd) : Prop where
  ex : ∃ a n c, w.cell? ⟨b, 0, none⟩ = some (.slice a n c) ∧ Come w a n c s.1 ∧ (0 < n → ∀ x, a = some x → x.block < H ∧ x.block ≠ b)
  c1 : w.cell? ⟨b, 1, none⟩ = some (.bool s.2)
  f0 : w.frozen? ⟨b, 0, none⟩ = false
  f1 : w.frozen? ⟨b, 1, none⟩ = false
  lt : b < H
theorem dfrozen_block {w w' : World} {b j : Nat} (h : w'.heap[b]? = w.heap[b]?) : w'.frozen? ⟨b, j, none⟩ = w.frozen? ⟨b, j, none⟩ := by
  unfold World.frozen?
  simp only [h]
theorem Come.dkeptR {w w' : World} {r : Option Nat} {a : Option Addr} {n c : Nat} {L : List Nat} (h : Come w a n c L) (q : Kept w w' r) (hr : 0 < n → ∀ x, a = some x → some x.block ≠ r) : Come w' a n c L := by
  refine ⟨?_, h.nil, h.room, h.max⟩
  obtain ⟨h1, h2, h3, h4⟩ := h.by_
  refine ⟨h1, h2, h3, fun hp => ?_⟩
  obtain ⟨b, off, rfl, hb, hc⟩ := h4 hp
  exact ⟨b, off, rfl, Nat.lt_of_lt_of_le hb q.size, fun i hi => (World.cell?_of_block (w := w) (a := ⟨b, off + i, none⟩) (q.block b hb (hr hp _ rfl))).trans (hc i hi)⟩
theorem Drd.kept {w w' : World} {H b : Nat} {s : Rd} {r : Option Nat} (h : Drd w H b s) (q : Kept w w' r) (hr : ∀ i, r = some i → H ≤ i) : Drd w' H b s := by
  have hb : some b ≠ r := fun e => by have := hr b e.symm; have := h.lt; omega
  obtain ⟨a, n, c, h1, h2, h3⟩ := h.ex
  have hbl := block_lt h1
  exact ⟨⟨a, n, c, cell_keptR h1 q hb, h2.dkeptR q (fun hp x hx e => by have := hr _ e.symm; have := (h3 hp x hx).1; omega), h3⟩, cell_keptR h.c1 q hb, (dfrozen_block (q.block b hbl hb)).trans h.f0, (dfrozen_block (q.block b hbl hb)).trans h.f1, h.lt⟩
theorem dkept_set (w : World) (b j : Nat) (v : Value) : Kept w (w.setCell ⟨b, j, none⟩ v) (some b) :=
  ⟨rfl, rfl, rfl, by simp [World.setCell], fun k hk hr => by
    simp only [World.setCell]
    rw [Array.getElem?_modify, if_neg (fun e => hr (by rw [e]))]⟩
theorem dfrozen_set (w : World) (p a : Addr) (v : Value) : (w.setCell p v).frozen? a = w.frozen? a := World.frozen?_setCell _ _ _ _
theorem Drd.bad {w : World} {H b : Nat} {s : Rd} (h : Drd w H b s) : Drd (w.setCell ⟨b, 1, none⟩ (.bool true)) H b (s.1, true) := by
  obtain ⟨a, n, c, h1, h2, h3⟩ := h.ex
  exact ⟨⟨a, n, c, (World.cell?_setCell_other _ _ _ _ (by simp)).trans h1, h2.dkeptR (dkept_set _ _ _ _) (fun hp x hx e => (h3 hp x hx).2 (by injection e)), h3⟩, World.cell?_setCell_same' _ _ _ (by rw [h.c1]; rfl), (dfrozen_set _ _ _ _).trans h.f0, (dfrozen_set _ _ _ _).trans h.f1, h.lt⟩
theorem By.ddrop {w : World} {b off n : Nat} {L : List Nat} (h : By w (some ⟨b, off, none⟩) n L) (k : Nat) (hk : k ≤ n) : By w (some ⟨b, off + k, none⟩) (n - k) (L.drop k) := by
  obtain ⟨h1, h2, h3, h4⟩ := h
  refine ⟨by simp; omega, by omega, fun x hx => h3 x (List.mem_of_mem_drop hx), fun hp => ?_⟩
  obtain ⟨b', off', e, hb, hc⟩ := h4 (by omega)
  injection e with e
  injection e with e1 e2
  subst e1 e2
  refine ⟨b, off + k, rfl, hb, fun i hi => ?_⟩
  rw [Nat.add_assoc, hc (k + i) (by omega)]
  simp
theorem Drd.set {w : World} {H b : Nat} {L L' : List Nat} {bd : Bool} {a : Option Addr} {n c : Nat} (h : Drd w H b (L, bd)) (hC : Come w a n c L') (hx : 0 < n → ∀ x, a = some x → x.block < H ∧ x.block ≠ b) : Drd (w.setCell ⟨b, 0, none⟩ (.slice a n c)) H b (L', bd) := by
  obtain ⟨a0, n0, c0, h1, _, _⟩ := h.ex
  exact ⟨⟨a, n, c, World.cell?_setCell_same' _ _ _ (by rw [h1]; rfl), hC.dkeptR (dkept_set _ _ _ _) (fun hp x hxx e => (hx hp x hxx).2 (by injection e)), hx⟩, (World.cell?_setCell_other _ _ _ _ (by simp)).trans h.c1, (dfrozen_set _ _ _ _).trans h.f0, (dfrozen_set _ _ _ _).trans h.f1, h.lt⟩
set_option maxRecDepth 100000 in
set_option maxHeartbeats 1000000 in
theorem rnum_any {w : World} {H b : Nat} {s : Rd} (h : Drd w H b s) (most : Nat) (hm : most ≤ 1099511627776) : Calls Try.prog 83 #[.pointer (some ⟨b, 0, none⟩), .int .i64 (most : Int)] w fun e w' => e = .returned (.int .i64 ((dnM most s).1 : Int)) ∧ Drd w' H b (dnM most s).2 ∧ Kept w w' (some b) := by
  have HR := Hid.mk' h
  obtain ⟨a, n, c, h1, h2, h3⟩ := h.ex
  have c1 := h.c1
  have f0 := h.f0
  have f1 := h.f1
  have HC := Hid.mk' h2
  have HX := Hid.mk' h3
  have hnN := rdN_lt s.1
  have hroom := h2.room
  have hcap := h2.max
  have hwm : IntKind.u64.wrap (most : Int) = (most : Int) := by rw [IntKind.wrap_u64]; omega
  obtain ⟨L, bd⟩ := s
  dsimp only at *
  clear h h2 h3
  cases hok : okR L with
  | false =>
    have hE : dnM most (L, bd) = (0, (L, true)) := dnM_no (by rw [hok]; rfl)
    rw [hE]
    obtain ⟨d1, d2, d3⟩ := rd_none (L := L) (by rw [hok]; decide)
    go_enter Try.func83, Try.ntmps83
    go_wp2_with (go_at_call 57; refine (rread_any HC.out.by_).mono ?_; rintro e w2 ⟨rfl, m, rfl⟩; rw [d1, d2, d3])
    go_ret
    exact ⟨rfl, (HR.out.kept (Kept.drewN _ _ none) (fun i e => by cases e)).bad, (Kept.drewN _ _ _).tr (dkept_set _ _ _ _)⟩
  | true =>
    obtain ⟨d1, d2, d3⟩ := rd_some (L := L) hok
    have hro := read_only L HC.out.by_.lt hok
    have hsz := HC.out.by_.size
    have hkn : rdK L ≤ n := by have := hro.2.2.1; omega
    have hk1 := hro.2.1
    have d3' : ((rdE L : Nat) : Int) = 0 := by rw [d3]; rfl
    have HSZ := Hid.mk' hsz
    clear d1 d2 d3 hro hsz
    by_cases hle : rdN L ≤ most
    · have hE : dnM most (L, bd) = (rdN L, (L.drop (rdK L), bd)) := dnM_yes (by rw [hok]; simp [hle])
      rw [hE]
      clear hE
      obtain ⟨bb, off, rfl, hbb, _⟩ := HC.out.by_.at_ (by omega)
      generalize hK : rdK L = K at *
      have HK := Hid.mk' hK
      clear hK
      generalize hNN : rdN L = N at *
      have HN := Hid.mk' hNN
      clear hNN
      have hdrop : ∀ m, Drd (w.drewN m) H b (L, bd) := fun m => HR.out.kept (Kept.drewN _ _ none) (fun i e => by cases e)
      have HD := Hid.mk' hdrop
      have hCm : ∀ m, Come (w.drewN m) (some ⟨bb, off + K, none⟩) (n - K) (c - K) (L.drop K) := fun m => ⟨(HC.out.by_.ddrop K hkn).drewN m, fun e => (nomatch e), by omega, by omega⟩
      have HCm := Hid.mk' hCm
      have hXm : 0 < n - K → ∀ x, some (⟨bb, off + K, none⟩ : Addr) = some x → x.block < H ∧ x.block ≠ b := fun hp x hx => by
        injection hx with hx
        subst hx
        exact HX.out (by omega) ⟨bb, off, none⟩ rfl
      have HXm := Hid.mk' hXm
      have hwn : IntKind.i64.wrap (N : Int) = (N : Int) := by simp [IntKind.wrap, IntKind.bits, IntKind.signed]; omega
      clear hdrop hCm hXm
      by_cases hcK : K = c
      · have hnK : n = K := by omega
        have hL0 : L.drop K = [] := by rw [List.drop_eq_nil_iff]; have := HSZ.out; omega
        subst hnK
        subst hcK
        rw [hL0]
        clear hL0 HCm HXm
        go_enter Try.func83, Try.ntmps83
        go_wp2_with (go_at_call 57; refine (rread_any HC.out.by_).mono ?_; rintro e w2 ⟨rfl, m, rfl⟩; rw [HK.out, HN.out, d3'])
        all_goals
          go_ret
          exact ⟨rfl, (HD.out _).set ⟨By.nil _ _, fun e => (by first | rfl | cases e), Nat.le_refl _, by omega⟩ (fun hp => absurd hp (by omega)), (Kept.drewN _ _ _).tr (dkept_set _ _ _ _)⟩
      · have hcK2 : ¬ c = K := fun e => hcK e.symm
        have hcK3 : K < c := by omega
        go_enter Try.func83, Try.ntmps83
        go_wp2_with (go_at_call 57; refine (rread_any HC.out.by_).mono ?_; rintro e w2 ⟨rfl, m, rfl⟩; rw [HK.out, HN.out, d3'])
        go_ret
        exact ⟨rfl, (HD.out _).set (HCm.out _) HXm.out, (Kept.drewN _ _ _).tr (dkept_set _ _ _ _)⟩
    · have hE : dnM most (L, bd) = (0, (L, true)) := dnM_no (by rw [hok]; simp [hle])
      rw [hE]
      have hgt : most < rdN L := by omega
      go_enter Try.func83, Try.ntmps83
      go_wp2_with (go_at_call 57; refine (rread_any HC.out.by_).mono ?_; rintro e w2 ⟨rfl, m, rfl⟩; rw [d3'])
      go_ret
      exact ⟨rfl, (HR.out.kept (Kept.drewN _ _ none) (fun i e => by cases e)).bad, (Kept.drewN _ _ _).tr (dkept_set _ _ _ _)⟩

end Go.Proofs.Ytlabjamkaebnjaa

