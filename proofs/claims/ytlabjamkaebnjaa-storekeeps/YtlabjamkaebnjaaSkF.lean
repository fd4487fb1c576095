/-
  THE DOCUMENT's newest.
-/
import Derived.Test.YtlabjamkaebnjaaSkA
import Derived.Test.YtlabjamkaebnjaaStoDJ
namespace Go.Proofs.Ytlabjamkaebnjaa
open Go.RowKit Go.Lib Go.Deep
set_option linter.unusedVariables false
set_option linter.unusedSimpArgs false

theorem tmod_ne (y g : Nat) : ((y : Int) % 256 != (g : Int) % 256) = !(y % 256 == g % 256) := by
  by_cases h : y % 256 = g % 256
  · have h2 : (y : Int) % 256 = (g : Int) % 256 := by omega
    rw [h, h2]
    simp
  · have h2 : ¬ (y : Int) % 256 = (g : Int) % 256 := by omega
    have e1 : ((y : Int) % 256 != (g : Int) % 256) = true := by simpa using h2
    have e2 : (y % 256 == g % 256) = false := by simpa using h
    rw [e1, e2]
    rfl
theorem freeB_snoc (B : List (List Nat)) {k : Nat} (hk : k < B.length) (g : Nat) : freeB ((B.take (k + 1)).map endN) g = (freeB ((B.take k).map endN) g && !(endN (B.getD k []) % 256 == g % 256)) := by
  have e : B.getD k [] = B[k] := by simp [hk]
  rw [List.take_succ_eq_append_getElem hk, List.map_append]
  unfold freeB
  rw [List.all_append, e]
  simp
theorem abv_step (B : List (List Nat)) {k : Nat} (hk : k < B.length) (g : Nat) : abvN g (B.take (k + 1)) = upN (upN (abvN g (B.take k)) (begN (B.getD k []))) (endN (B.getD k [])) := by
  have e : B.getD k [] = B[k] := by simp [hk]
  rw [List.take_succ_eq_append_getElem hk, abv_snoc, e]
theorem num8_lt {L : List Nat} (h : ∀ x ∈ L, x < 256) (h8 : L.length ≤ 8) : v256 L < 18446744073709551616 := by
  have h1 := v256_lt (L := L) h
  have h2 : (256 : Nat) ^ L.length ≤ 256 ^ 8 := Nat.pow_le_pow_right (by omega) h8
  have : (256 : Nat) ^ 8 = 18446744073709551616 := by decide
  omega
set_option maxRecDepth 100000 in
set_option maxHeartbeats 4000000 in
theorem rnewest_any {g : Nat} {la : Option Addr} {m c : Nat} {B : List (List Nat)} {w : World} (hB : Bl w 0 la m B) (h64 : ∀ p ∈ B, p.length = 64) (hm : m ≤ 32) (hg : g < gtop) :
    Calls Try.prog 31 #[.int .i64 (g : Int), .slice la m c] w fun e w' => e = .returned (.int .i64 ((newN g B : Nat) : Int)) ∧ Kept w w' none := by
  have HB := Hid.mk' hB
  have HS := Hid.mk' hB.size
  have H64 := Hid.mk' (fun k (hk : k < m) => (by
    have hk' : k < B.length := by rw [hB.size]; exact hk
    have : B.getD k [] = B[k] := by simp [hk']
    rw [this]
    exact h64 _ (List.getElem_mem hk') : (B.getD k []).length = 64))
  have HAB := Hid.mk' (fun k (hk : k < m) => abv_step B (k := k) (by rw [hB.size]; exact hk) g)
  have HFR := Hid.mk' (fun k (hk : k < m) => freeB_snoc B (k := k) (by rw [hB.size]; exact hk))
  have HLT := Hid.mk' (fun k => abv_lt (B.take k) g hg)
  obtain ⟨J, hJ, hJn, hJf, hJm⟩ := new_is (g := g) (B := B) (by rw [hB.size]; exact hm)
  have HJN := Hid.mk' hJn
  have HJF := Hid.mk' hJf
  have HJM := Hid.mk' hJm
  clear hB h64 hJn hJf hJm
  clear hg
  go_enter Try.func31, Try.ntmps31
  go_wp2
  go_loopw [0, 5] (fun gv iv wr => ∃ k : Nat, k ≤ m ∧ iv = .int .i64 (k : Int) ∧ gv = .int .i64 ((abvN g (B.take k) : Nat) : Int) ∧ Kept w wr none) (fun _ iv _ => m - (intOf iv).toNat)
  case atStart => exact ⟨0, Nat.zero_le _, rfl, rfl, Kept.refl _ _⟩
  case round =>
    obtain ⟨k, hk, rfl, rfl, hkw⟩ := hrel
    have KW := Hid.mk' hkw
    clear hkw
    have hlt1 : ((abvN g (B.take k) : Nat) : Int) < 4611686018427387904 := by have := HLT.out k; unfold gtop at this; omega
    by_cases hlt : k < m
    · obtain ⟨b1, o1, a1, c1, rfl, hb1, p1, hC1⟩ := (HB.out.kept KW.out).get hlt
      rw [H64.out k hlt] at p1 hC1
      have hab := HAB.out k hlt
      have HE := Hid.mk' (rends_any hC1)
      have hx1 : ((begN (B.getD k []) : Nat) : Int) < 18446744073709551616 := by have : begN (B.getD k []) < 18446744073709551616 := num8_lt (fun x hx => hC1.by_.lt x (List.mem_of_mem_take hx)) (by rw [List.length_take]; omega); omega
      have hy1 : ((endN (B.getD k []) : Nat) : Int) < 18446744073709551616 := by have : endN (B.getD k []) < 18446744073709551616 := num8_lt (fun x hx => hC1.by_.lt x (List.mem_of_mem_drop hx)) (by rw [List.length_drop, hC1.by_.size]; omega); omega
      clear hC1
      have hup : ∀ G x : Nat, ((upN G x : Nat) : Int) = if (x : Int) < 4611686018427387904 then max (G : Int) (x : Int) else (G : Int) := by
        intro G x
        unfold upN gtop
        by_cases h : x < 4611686018427387904
        · rw [if_pos h, if_pos (by omega)]; omega
        · rw [if_neg h, if_neg (by omega)]
      have hab2 : ((abvN g (B.take (k + 1)) : Nat) : Int) = if ((endN (B.getD k []) : Nat) : Int) < 4611686018427387904 then max (if ((begN (B.getD k []) : Nat) : Int) < 4611686018427387904 then max ((abvN g (B.take k) : Nat) : Int) ((begN (B.getD k []) : Nat) : Int) else ((abvN g (B.take k) : Nat) : Int)) ((endN (B.getD k []) : Nat) : Int) else (if ((begN (B.getD k []) : Nat) : Int) < 4611686018427387904 then max ((abvN g (B.take k) : Nat) : Int) ((begN (B.getD k []) : Nat) : Int) else ((abvN g (B.take k) : Nat) : Int)) := by
        rw [hab, hup, hup]
      have hx0 : 0 ≤ ((begN (B.getD k []) : Nat) : Int) := by omega
      have hy0 : 0 ≤ ((endN (B.getD k []) : Nat) : Int) := by omega
      have hg0 : 0 ≤ ((abvN g (B.take k) : Nat) : Int) := by omega
      have HABK := Hid.mk' hab2
      clear hup hab hab2
      generalize ((begN (B.getD k []) : Nat) : Int) = x at *
      generalize ((endN (B.getD k []) : Nat) : Int) = y at *
      generalize ((abvN g (B.take k) : Nat) : Int) = G at *
      by_cases hx : x < 4611686018427387904 <;> by_cases hy : y < 4611686018427387904 <;>
        go_wp2_with (go_at_call 52; refine HE.out.mono ?_; rintro e w2 ⟨rfl, hk2⟩; have K2 := Hid.mk' (KW.out.tr hk2); clear hk2)
      all_goals exact ⟨⟨k + 1, by omega, by go_num, congrArg (Value.int IntKind.i64) (by rw [HABK.out]; (repeat' split) <;> omega), K2.out⟩, by simp [intOf]; omega⟩
    · obtain rfl : k = m := by omega
      have e : B.take k = B := List.take_of_length_le (by rw [HS.out]; exact Nat.le_refl _)
      rw [e] at hlt1 ⊢
      clear e HAB
      have HH1 := Hid.mk' hlt1
      clear hlt1
      go_wp2
      go_loopw [0] (fun gv wr' => ∃ j : Nat, j ≤ J ∧ gv = .int .i64 ((abvN g B + j : Nat) : Int) ∧ Kept w wr' none) (fun gv _ => abvN g B + J + 1 - (intOf gv).toNat)
      case atStart => exact ⟨0, Nat.zero_le _, by rw [Nat.add_zero], KW.out⟩
      case round =>
        obtain ⟨j, hj, rfl, hkj⟩ := hrel
        have KJ := Hid.mk' hkj
        clear hkj
        have HJ1 := Hid.mk' hj
        have hq1 : ((abvN g B + j : Nat) : Int) < 4611686018427388000 := by have := HH1.out; omega
        have hq0 : 0 ≤ ((abvN g B + j : Nat) : Int) := by omega
        have HG := Hid.mk' (rfl : ((abvN g B + j : Nat) : Int) = ((abvN g B + j : Nat) : Int))
        obtain ⟨G, hG⟩ : ∃ G : Int, ((abvN g B + j : Nat) : Int) = G := ⟨_, rfl⟩
        have HGE := Hid.mk' hG
        rw [hG] at hq0 hq1 ⊢
        clear hG HG
        go_wp2
        go_loopw [8, 9] (fun fv iv wq => ∃ q : Nat, q ≤ k ∧ iv = .int .i64 (q : Int) ∧ fv = .bool (freeB ((B.take q).map endN) (abvN g B + j + 1)) ∧ Kept w wq none) (fun _ iv _ => k - (intOf iv).toNat)
        case atStart => exact ⟨0, Nat.zero_le _, rfl, rfl, KJ.out⟩
        case round =>
          obtain ⟨q, hq, rfl, rfl, hkq⟩ := hrel
          have KQ := Hid.mk' hkq
          clear hkq
          by_cases hltq : q < k
          · obtain ⟨b1, o1, a1, c1, rfl, hb1, p1, hC1⟩ := (HB.out.kept KQ.out).get hltq
            rw [H64.out q hltq] at p1 hC1
            have hfr := HFR.out q hltq (abvN g B + j + 1)
            have htm := tmod_ne (endN (B.getD q [])) (abvN g B + j + 1)
            rw [← htm] at hfr
            have hcast : ((abvN g B + j + 1 : Nat) : Int) = G + 1 := by have := HGE.out; omega
            rw [hcast] at hfr
            have HE := Hid.mk' (rends_any hC1)
            have hy1 : ((endN (B.getD q []) : Nat) : Int) < 18446744073709551616 := by have : endN (B.getD q []) < 18446744073709551616 := num8_lt (fun x hx => hC1.by_.lt x (List.mem_of_mem_drop hx)) (by rw [List.length_drop, hC1.by_.size]; omega); omega
            have hy0 : 0 ≤ ((endN (B.getD q []) : Nat) : Int) := by omega
            have HFQ := Hid.mk' hfr
            clear hC1 hfr htm hcast
            generalize ((begN (B.getD q []) : Nat) : Int) = x at *
            generalize ((endN (B.getD q []) : Nat) : Int) = y at *
            cases hfb : freeB ((B.take q).map endN) (abvN g B + j + 1)
            all_goals
              have HFB := Hid.mk' hfb
              clear hfb
              go_wp2_with (go_at_call 52; refine HE.out.mono ?_; rintro e w2 ⟨rfl, hk2⟩; have K2 := Hid.mk' (KQ.out.tr hk2); clear hk2)
              exact ⟨⟨q + 1, by omega, by go_num, congrArg Value.bool (by rw [HFQ.out, HFB.out]; rfl), K2.out⟩, by simp [intOf]; omega⟩
          · obtain rfl : q = k := by omega
            have e : B.take q = B := List.take_of_length_le (by rw [HS.out]; exact Nat.le_refl _)
            rw [e]
            cases hfb : freeB (B.map endN) (abvN g B + j + 1)
            · have hjJ : j + 1 ≤ J := by
                have h1 := HJ1.out
                by_cases q : j = J
                · exfalso
                  rw [q, show abvN g B + J + 1 = abvN g B + 1 + J by omega, HJF.out] at hfb
                  cases hfb
                · omega
              have HGJ := Hid.mk' hjJ
              clear hjJ hfb
              go_wp2
              have h2 := HGE.out
              have h3 := HGJ.out
              exact ⟨⟨j + 1, h3, congrArg (Value.int IntKind.i64) (by omega), KQ.out⟩, by simp [intOf]; omega⟩
            · have hjJ : j = J := by
                have h1 := HJ1.out
                by_cases q : j < J
                · exfalso
                  have h2 := HJM.out j q
                  rw [show abvN g B + 1 + j = abvN g B + j + 1 by omega, hfb] at h2
                  cases h2
                · omega
              have HNE : Hid (((newN g B : Nat) : Int) = G + 1) := Hid.mk' (by have h1 := HGE.out; have h2 := HJN.out; omega)
              clear hjJ hfb
              go_wp2
              go_ret
              exact ⟨by rw [HNE.out]; rfl, KQ.out⟩

end Go.Proofs.Ytlabjamkaebnjaa
