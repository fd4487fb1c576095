/-
  THE CONTRACTS of safe's small calls: has, allAre, and slices.Contains, slices.ContainsFunc at bytes; meet.
-/
import Derived.Test.YtfhmfanmnhclfaaDoorSafeM
import Derived.Test.YtfhmfanmnhclfaaDoorBits
import Derived.WalkMore
import Derived.Scope
namespace Go.Proofs.YtfhmfanmnhclfaaDoor
open Go.RowKit Go.Lib Go.Deep
set_option linter.unusedVariables false
set_option linter.unusedSimpArgs false

theorem has_bit (S i : Nat) (h : S < 4294967296) : (bits .and .u32 ((S : Int) / 2 ^ i) 1 == 1) = S.testBit i := by
  have e : ((S : Int) / 2 ^ i) = ((S / 2 ^ i : Nat) : Int) := by simp
  rw [e, show (1 : Int) = ((1 : Nat) : Int) from rfl, u32_and_nat _ _ (Nat.lt_of_le_of_lt (Nat.div_le_self _ _) h) (by omega)]
  rw [Nat.testBit, Nat.and_comm, Nat.shiftRight_eq_div_pow]
  rw [Nat.and_comm, Nat.and_one_is_mod]
  rcases Nat.mod_two_eq_zero_or_one (S / 2 ^ i) with h | h <;> simp [h]
theorem shas_any (S i : Nat) (w : World) (hS : S < 4294967296) (hi : i < 32) : Calls Tryd.prog 109 #[.int .u32 (S : Int), .int .i64 (i : Int)] w fun e w' => e = .returned (.bool (S.testBit i)) ∧ w' = w := by
  have hb := has_bit S i hS
  go_enter Tryd.func109, Tryd.ntmps109
  go_wp2
  go_ret
  exact ⟨by rw [← hb]; rfl, rfl⟩
theorem ext_no {P : Nat → Prop} {k : Nat} (h : ∀ j, j < k → P j) (e : P k) : ∀ j, j < k + 1 → P j := fun j hj => by
  by_cases ej : j = k
  · subst ej; exact e
  · exact h j (by omega)
set_option maxRecDepth 100000 in
theorem index_any {w : World} {a : Option Addr} {n c : Nat} {L : List Nat} (hB : By w a n L) (x : Nat) : Calls Tryd.prog 111 #[.slice a n c, .int .u8 (x : Int)] w fun e w' => (∃ z : Int, e = .returned (.int .i64 z) ∧ hasIt L x = decide (0 ≤ z)) ∧ w' = w := by
  have hs := hB.size
  have hm := hB.max
  have HB := Hid.mk' hB
  have HS := Hid.mk' hs
  clear hB hs
  go_enter Tryd.func111, Tryd.ntmps111
  go_wp2
  go_loop [5, 8] (fun _ i => ∃ k : Nat, k ≤ n ∧ i = .int .i64 k ∧ ∀ j, j < k → lg L j ≠ x) (fun _ i => n - (intOf i).toNat)
  case atStart => exact ⟨0, by omega, rfl, fun j hj => by omega⟩
  case round =>
    obtain ⟨k, hk, rfl, hno⟩ := hrel
    have HN := Hid.mk' hno
    clear hno
    by_cases hlt : k < n
    · obtain ⟨b, off, rfl, hb, hc⟩ := HB.out.at_ (by omega)
      have kc := hc k hlt
      rw [show L.getD k 0 = lg L k from rfl] at kc
      by_cases e : lg L k = x
      · have HY := Hid.mk' (hasIt_yes (by have := HS.out; omega) e)
        rw [e] at kc
        clear hc e
        go_wp2
        go_ret
        exact ⟨⟨_, rfl, by rw [HY.out]; simp⟩, rfl⟩
      · have HN2 := Hid.mk' (ext_no HN.out e)
        have e1 : ((x : Int) == (lg L k : Int)) = false := by simp; omega
        clear hc e
        generalize lg L k = y at *
        go_wp2
        exact ⟨⟨k + 1, by omega, by go_num, HN2.out⟩, by simp [intOf]; omega⟩
    · have HF := Hid.mk' (hasIt_no (L := L) (x := x) (fun i hi => HN.out i (by have := HS.out; omega)))
      go_wp2
      go_ret
      exact ⟨⟨_, rfl, by rw [HF.out]; simp⟩, rfl⟩
theorem contains_any {w : World} {a : Option Addr} {n c : Nat} {L : List Nat} (hB : By w a n L) (x : Nat) : Calls Tryd.prog 89 #[.slice a n c, .int .u8 (x : Int)] w fun e w' => e = .returned (.bool (hasIt L x)) ∧ w' = w := by
  have HB := Hid.mk' hB
  clear hB
  go_enter Tryd.func89, Tryd.ntmps89
  go_wp2_with (go_at_call 111; refine (index_any HB.out x).mono ?_; rintro e w' ⟨⟨z, rfl, hz⟩, rfl⟩)
  go_ret
  exact ⟨by rw [hz]; rfl, rfl⟩

/-! ### All the same -/
set_option maxRecDepth 100000 in
theorem indexFn_any {w : World} {a : Option Addr} {n c : Nat} {L : List Nat} (hB : By w a n L) (x B : Nat) (hx : w.cell? ⟨B, 0, none⟩ = some (.int .u8 (x : Int))) : Calls Tryd.prog 119 #[.slice a n c, .func (.func 110) #[] #[.pointer (some ⟨B, 0, none⟩)]] w fun e w' => (∃ z : Int, e = .returned (.int .i64 z) ∧ allIs L x = !decide (0 ≤ z)) ∧ w' = w := by
  have hs := hB.size
  have hm := hB.max
  have HB := Hid.mk' hB
  have HS := Hid.mk' hs
  clear hB hs
  go_enter Tryd.func119, Tryd.ntmps119
  go_wp2
  go_loop [5, 8] (fun _ i => ∃ k : Nat, k ≤ n ∧ i = .int .i64 k ∧ ∀ j, j < k → lg L j = x) (fun _ i => n - (intOf i).toNat)
  case atStart => exact ⟨0, by omega, rfl, fun j hj => by omega⟩
  case round =>
    obtain ⟨k, hk, rfl, hno⟩ := hrel
    have HN := Hid.mk' hno
    clear hno
    by_cases hlt : k < n
    · obtain ⟨b, off, rfl, hb, hc⟩ := HB.out.at_ (by omega)
      have kc := hc k hlt
      rw [show L.getD k 0 = lg L k from rfl] at kc
      by_cases e : lg L k = x
      · have HN2 := Hid.mk' (ext_no HN.out e)
        rw [e] at kc
        clear hc e
        go_wp2
        exact ⟨⟨k + 1, by omega, by go_num, HN2.out⟩, by simp [intOf]; omega⟩
      · have HY := Hid.mk' (allIs_no (by have := HS.out; omega) e)
        have e1 : ((lg L k : Int) == (x : Int)) = false := by simp; omega
        clear hc e
        generalize lg L k = y at *
        go_wp2
        go_ret
        exact ⟨⟨_, rfl, by rw [HY.out]; simp⟩, rfl⟩
    · have HF := Hid.mk' (allIs_yes (L := L) (x := x) (fun i hi => HN.out i (by have := HS.out; omega)))
      go_wp2
      go_ret
      exact ⟨⟨_, rfl, by rw [HF.out]; simp⟩, rfl⟩
theorem all_any {w : World} {a : Option Addr} {n c : Nat} {L : List Nat} (hB : By w a n L) (x : Nat) : Calls Tryd.prog 88 #[.slice a n c, .int .u8 (x : Int)] w fun e w' => e = .returned (.bool (allIs L x)) ∧ Kept w w' none := by
  have hk : Kept w (w.alloc (.cells #[.int .u8 (x : Int)] 5)) none := Kept.alloc _ _ _ _ _
  have HB := Hid.mk' (hB.kept hk)
  have HK := Hid.mk' hk
  clear hB hk
  have hc : (w.alloc (.cells #[.int .u8 (x : Int)] 5)).cell? ⟨w.heap.size, 0, none⟩ = some (.int .u8 (x : Int)) := by simp [World.cell?_alloc_mark]
  have HC := Hid.mk' hc
  clear hc
  go_enter Tryd.func88, Tryd.ntmps88
  go_wp2_with (first
    | (go_at_call 106; go_in)
    | (go_at_call 119; refine (indexFn_any HB.out x _ HC.out).mono ?_; rintro e w' ⟨⟨z, rfl, hz⟩, rfl⟩))
  go_ret
  exact ⟨by rw [hz]; rfl, HK.out⟩

/-! ### Two that are apart -/
set_option maxRecDepth 100000 in
set_option maxHeartbeats 1000000 in
theorem meet_any {w : World} {B : Nat} {X : Sa} {S : St} {a : Option Addr} {n c : Nat} {L : List Nat} (h : Sbox w B X S) (hO : Okay S) (hB : By w a n L) (hn : n = S.groups.length) : Calls Tryd.prog 87 #[.pointer (some ⟨B, 0, none⟩), .slice a n c] w fun e w' => e = .returned (.bool (mtB S L)) ∧ w' = w := by
  have c2 := h.c2
  have hna := hO.na
  have hng := hO.ng
  have hs := hB.size
  have hm := hB.max
  obtain ⟨ba, oa, ea, hca⟩ := h.sat.apAt (n := S.apart.length) (by omega) (by omega)
  obtain ⟨bl, ol, el, hbl, hcl⟩ := hB.at_ (by omega)
  have HAR := Hid.mk' h.sat.apr
  have HCA := Hid.mk' hca
  have HCL := Hid.mk' hcl
  have HS := Hid.mk' hs
  rw [ea, hna] at c2
  subst el
  have hal : S.groups.length ≤ 16 := hng.2
  have HNA := Hid.mk' hna
  clear h hB hca hcl hs ea hna hO
  subst hn
  go_enter Tryd.func87, Tryd.ntmps87
  go_wp2
  go_step3
  go_wp2
  go_step3
  go_wp2
  go_loop [5, 6, 7, 13] (fun _ _ _ i => ∃ k : Nat, k ≤ S.groups.length ∧ i = .int .i64 k ∧ ∀ j, j < k → ∀ b, b < j → pairM S L j b = false) (fun _ _ _ i => S.groups.length - (intOf i).toNat)
  case atStart => exact ⟨0, by omega, rfl, fun j hj => by omega⟩
  case round =>
    obtain ⟨k, hk, rfl, hno⟩ := hrel
    have HN := Hid.mk' hno
    clear hno
    by_cases hlt : k < S.groups.length
    · have ka := HCA.out k (by have := HNA.out; omega)
      have kl := HCL.out k hlt
      have har := HAR.out k
      rw [show L.getD k 0 = lg L k from rfl] at kl
      generalize hap : S.ap k = P at *
      go_wp2
      go_loop [7, 19] (fun _ i => ∃ q : Nat, q ≤ k ∧ i = .int .i64 q ∧ ∀ b, b < q → pairM S L k b = false) (fun _ i => k - (intOf i).toNat)
      case atStart => exact ⟨0, by omega, rfl, fun j hj => by omega⟩
      case round =>
        obtain ⟨q, hq, rfl, hno⟩ := hrel
        have HNB := Hid.mk' hno
        clear hno
        by_cases hql : q < k
        · by_cases e1 : lg L k = 1
          · have HN2 : Hid (∀ j, j < k + 1 → ∀ b, b < j → pairM S L j b = false) := ext_no HN.out (fun b hb => by simp [pairM, e1])
            rw [e1] at kl
            go_wp2
            exact ⟨⟨k + 1, by omega, by go_num, HN2.out⟩, by simp [intOf]; omega⟩
          · have kq := HCL.out q (by omega)
            rw [show L.getD q 0 = lg L q from rfl] at kq
            have e1b : ((lg L k : Int) == 1) = false := by simp; omega
            by_cases e2 : lg L q = 1
            · have HN2 : Hid (∀ b, b < q + 1 → pairM S L k b = false) := ext_no HNB.out (by simp [pairM, e2])
              rw [e2] at kq
              generalize lg L k = y at *
              go_wp2
              exact ⟨⟨q + 1, by omega, by go_num, HN2.out⟩, by simp [intOf]; omega⟩
            · have e2b : ((lg L q : Int) != 1) = true := by simp; omega
              have hpm : pairM S L k q = P.testBit q := by
                unfold pairM
                rw [show (lg L k == 1) = false by simpa using e1, show (lg L q == 1) = false by simpa using e2, hap]
                rfl
              have HPM := Hid.mk' hpm
              have hyes : P.testBit q = true → mtB S L = true := fun h => mtB_yes (by have := HS.out; omega) hql (hpm.trans h)
              have HY := Hid.mk' hyes
              clear hpm hyes e1 e2
              generalize lg L k = y at *
              generalize lg L q = z at *
              have HT := Hid.mk' (shas_any P q w har (by omega))
              generalize hbt : P.testBit q = t at *
              cases t with
              | true =>
                go_wp2_with (go_at_call 109; refine HT.out.mono ?_; rintro e w' ⟨rfl, rfl⟩)
                try rw [Exit.noGoto_ret]
                go_ret
                exact ⟨by rw [HY.out (by simp)]; rfl, rfl⟩
              | false =>
                have HN2 : Hid (∀ b, b < q + 1 → pairM S L k b = false) := ext_no HNB.out HPM.out
                go_wp2_with (go_at_call 109; refine HT.out.mono ?_; rintro e w' ⟨rfl, rfl⟩)
                exact ⟨⟨q + 1, by omega, by go_num, HN2.out⟩, by simp [intOf]; omega⟩
        · have HN2 : Hid (∀ j, j < k + 1 → ∀ b, b < j → pairM S L j b = false) := ext_no HN.out (fun b hb => HNB.out b (by omega))
          go_wp2
          exact ⟨⟨k + 1, by omega, by go_num, HN2.out⟩, by simp [intOf]; omega⟩
    · have HF := Hid.mk' (mtB_no (S := S) (L := L) (fun a ha b hb => HN.out a (by have := HS.out; omega) b hb))
      go_wp2
      try rw [Exit.noGoto_ret]
      go_ret
      exact ⟨by rw [HF.out]; rfl, rfl⟩

end Go.Proofs.YtfhmfanmnhclfaaDoor
