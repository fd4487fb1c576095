/-
  Texts joined: some of those that the proofs of this seat stand on.
-/
import Derived.Test.YtlabjamkaebnjaaStoB
import Derived.WalkMore
import Derived.Scope
import Derived.Test.YtlabjamkaebnjaaSPlanLJ
/-
  THE CONTRACT of a slot's genAbove.
-/
namespace Go.Proofs.Ytlabjamkaebnjaa
open Go.RowKit Go.Lib Go.Deep
set_option linter.unusedVariables false
set_option linter.unusedSimpArgs false

def upI (a x : Int) : Int := if x < 4611686018427387904 then (if a < x then x else a) else a
theorem up_int (a x : Nat) : ((upN a x : Nat) : Int) = upI (a : Int) (x : Int) := by
  unfold upN upI gtop
  by_cases h : x < 4611686018427387904
  · rw [if_pos h, if_pos (by omega)]
    by_cases h2 : (a : Int) < (x : Int)
    · rw [if_pos h2]; omega
    · rw [if_neg h2]; omega
  · rw [if_neg h, if_neg (by omega)]
theorem upI_big {a x : Int} (h : 4611686018427387904 ≤ x) : upI a x = a := by unfold upI; rw [if_neg (by omega)]
theorem upI_lt {a x : Int} (h : x < 4611686018427387904) (h2 : a < x) : upI a x = x := by unfold upI; rw [if_pos h, if_pos h2]
theorem upI_ge {a x : Int} (h2 : x ≤ a) : upI a x = a := by unfold upI; split <;> first | (rw [if_neg (by omega)]; done) | rfl
theorem upI_rng {a x : Int} (h0 : 0 ≤ a) (h1 : a < 4611686018427387904) : 0 ≤ upI a x ∧ upI a x < 4611686018427387904 := by
  unfold upI
  split
  · split <;> omega
  · omega
theorem abv_take {g : Nat} {B : List (List Nat)} {k : Nat} (h : k < B.length) : ((abvN g (B.take (k + 1)) : Nat) : Int) = upI (upI ((abvN g (B.take k) : Nat) : Int) ((begN (B.getD k []) : Nat) : Int)) ((endN (B.getD k []) : Nat) : Int) := by
  have e : B.getD k [] = B[k] := by simp [h]
  rw [List.take_succ_eq_append_getElem h, abv_snoc, up_int, up_int, e]
theorem v256_8 {L : List Nat} (hl : L.length ≤ 8) (h : ∀ x ∈ L, x < 256) : ((v256 L : Nat) : Int) < 18446744073709551616 := by
  have h8 := v256_lt L h
  have h10 : (256 : Nat) ^ L.length ≤ 256 ^ 8 := Nat.pow_le_pow_right (by omega) hl
  have : (256 : Nat) ^ 8 = 18446744073709551616 := by decide
  omega
def gnR (g : Nat) (B : List (List Nat)) : Int := if newN g B < gtop then (newN g B : Int) else 0
def gnE (g : Nat) (B : List (List Nat)) : Int := if newN g B < gtop then 0 else 190
theorem free_not {B : List (List Nat)} {N : Nat} {k : Nat} (hk : k < B.length) (h : endN (B.getD k []) % 256 = N % 256) : freeB (B.map endN) N = false := by
  cases e : freeB (B.map endN) N with
  | false => rfl
  | true =>
    unfold freeB at e
    have h2 := List.all_eq_true.1 e (endN (B.getD k [])) (List.mem_map.2 ⟨B.getD k [], by simp [hk], rfl⟩)
    rw [h] at h2
    simp at h2
theorem free_yes {B : List (List Nat)} {N : Nat} (h : ∀ k, k < B.length → endN (B.getD k []) % 256 ≠ N % 256) : freeB (B.map endN) N = true := by
  unfold freeB
  refine List.all_eq_true.2 (fun y hy => ?_)
  obtain ⟨b, hb, rfl⟩ := List.mem_map.1 hy
  obtain ⟨i, hi, rfl⟩ := List.mem_iff_getElem.1 hb
  have := h i hi
  have e : B.getD i [] = B[i] := by simp [hi]
  rw [e] at this
  simp [this]
set_option maxRecDepth 100000 in
set_option maxHeartbeats 4000000 in
theorem gen_any {g m' : Int} {m : Nat} {pa : Option Addr} {pn pc : Nat} {f : Int} {ba : Option Addr} {bn bc : Nat} {B : List (List Nat)} {w : World} {g0 : Nat} (hB : Bl w 0 ba bn B) (h64 : ∀ p ∈ B, p.length = 64) (hbn : bn ≤ 32) (hg0 : g0 < gtop) :
    Calls Try.prog 26 #[slV g m pa pn pc f ba bn bc, .int .i64 (g0 : Int)] w fun e w' => e = .returned (.tuple #[.int .i64 (gnR g0 B), .int .i64 (gnE g0 B)]) ∧ Kept w w' none := by
  have HB := Hid.mk' hB
  have hbm := hB.max
  have HS := Hid.mk' hB.size
  have HLT := Hid.mk' hB.lt
  have H64 := Hid.mk' (fun k (hk : k < bn) => (by
    have hk' : k < B.length := by rw [hB.size]; exact hk
    have : B.getD k [] = B[k] := by simp [hk']
    rw [this]
    exact h64 _ (List.getElem_mem hk') : (B.getD k []).length = 64))
  have HBG := Hid.mk' (fun k (hk : k < bn) => (by
    have hk' : k < B.length := by rw [hB.size]; exact hk
    have : B.getD k [] = B[k] := by simp [hk']
    rw [this]
    have hm := hB.lt _ (List.getElem_mem hk')
    have hl := h64 _ (List.getElem_mem hk')
    exact ⟨v256_8 (by rw [List.length_take]; omega) (fun x hx => hm x (List.mem_of_mem_take hx)), v256_8 (by rw [List.length_drop]; omega) (fun x hx => hm x (List.mem_of_mem_drop hx))⟩ : ((begN (B.getD k []) : Nat) : Int) < 18446744073709551616 ∧ ((endN (B.getD k []) : Nat) : Int) < 18446744073709551616))
  have HAL := Hid.mk' (fun k => abv_lt (B.take k) g0 hg0)
  obtain ⟨J, hJ, hnew, hfree, hleast⟩ := new_is (g := g0) (B := B) (by rw [hB.size]; exact hbn)
  obtain ⟨AB, hAB⟩ : ∃ AB, abvN g0 B = AB := ⟨_, rfl⟩
  rw [hAB] at hnew hfree hleast
  have HNEW := Hid.mk' hnew
  have HFR := Hid.mk' hfree
  have HLE := Hid.mk' hleast
  have HAB := Hid.mk' hAB
  have hABl : (AB : Int) < 4611686018427387904 := by
    have := abv_lt B g0 hg0
    rw [hAB] at this
    unfold gtop at this
    omega
  have hG3 : (g0 : Int) < 4611686018427387904 := by unfold gtop at hg0; omega
  obtain ⟨G, hG⟩ : ∃ G : Int, (g0 : Int) = G := ⟨_, rfl⟩
  have hG0 : 0 ≤ G := by omega
  rw [hG] at hG3 ⊢
  have HG := Hid.mk' hG
  clear hB h64 hg0 hnew hfree hleast hAB hG
  have R0 := Hid.mk' (row5 w (.int .i64 g) (.int .u8 (m : Int)) (.slice pa pn pc) (.int .i64 f) (.slice ba bn bc) 66)
  have hkA : Kept w (w.alloc (.cells #[.int .i64 g, .int .u8 (m : Int), .slice pa pn pc, .int .i64 f, .slice ba bn bc] 66)) none := Kept.alloc _ _ _ _ _
  have HKA := Hid.mk' hkA
  clear hkA
  go_enter Try.func26, Try.ntmps26
  go_wp2
  go_step3
  go_wp2
  go_loopw [6, 19] (fun a i wr => ∃ k : Nat, k ≤ bn ∧ i = .int .i64 k ∧ ∃ x : Int, a = .int .u64 x ∧ Hid (x = ((abvN g0 (B.take k) : Nat) : Int)) ∧ Kept (w.alloc (.cells #[.int .i64 g, .int .u8 (m : Int), .slice pa pn pc, .int .i64 f, .slice ba bn bc] 66)) wr none) (fun _ i _ => bn - (intOf i).toNat)
  case atStart => exact ⟨0, Nat.zero_le _, rfl, G, rfl, Hid.mk' HG.out.symm, Kept.refl _ _⟩
  case round =>
    obtain ⟨k, hk, rfl, x, rfl, hx, hkr⟩ := hrel
    have HK := Hid.mk' hkr
    have hxl : 0 ≤ x ∧ x < 4611686018427387904 := by
      have h1 := hx.out
      have h2 := HAL.out k
      unfold gtop at h2
      omega
    have hx0 := hxl.1
    have hx1 := hxl.2
    clear hxl hkr
    by_cases hlt : k < bn
    · obtain ⟨b1, o1, a1, c1, rfl, hb1, p1, hC1⟩ := (HB.out.kept (HKA.out.tr HK.out)).get hlt
      rw [H64.out k hlt] at p1 hC1
      have HC := Hid.mk' hC1
      have HXT := Hid.mk' (abv_take (g := g0) (B := B) (k := k) (by rw [HS.out]; exact hlt))
      rw [← hx.out] at HXT
      have hbg := HBG.out k hlt
      have HF := Hid.mk' (first_any HC.out)
      have HL := Hid.mk' (fun w' (h : Kept wr w' none) => last_any (HC.out.kpt h))
      have hp0 : (0 : Int) ≤ ((begN (B.getD k []) : Nat) : Int) := by omega
      have hq0 : (0 : Int) ≤ ((endN (B.getD k []) : Nat) : Int) := by omega
      generalize ((begN (B.getD k []) : Nat) : Int) = p at *
      generalize ((endN (B.getD k []) : Nat) : Int) = q at *
      have hp1 := hbg.1
      have hq1 := hbg.2
      clear hC1 hbg
      go_wp2_with (first
        | (have hgo := K2; clear hgo; go_at_call 45; refine (HL.out _ K2.out).mono ?_; rintro e w3 ⟨rfl, hk3⟩; have K3 := Hid.mk' (K2.out.tr hk3); clear hk3)
        | (go_at_call 44; refine HF.out.mono ?_; rintro e w2 ⟨rfl, hk2⟩; have K2 := Hid.mk' hk2; clear hk2))
      have hd0 := World.cell?_alloc_mark w3 #[.int .u64 p, .int .u64 q] 93 (0, 0) 0
      have hd1 := World.cell?_alloc_mark w3 #[.int .u64 p, .int .u64 q] 93 (0, 0) 1
      have hkW : Kept wr (w3.alloc (.cells #[.int .u64 p, .int .u64 q] 93)) none := K3.out.tr (Kept.alloc _ _ _ _ _)
      obtain ⟨W4, hW4⟩ : ∃ v, w3.alloc (.cells #[.int .u64 p, .int .u64 q] 93) = v := ⟨_, rfl⟩
      rw [hW4] at hd0 hd1 hkW ⊢
      clear hW4
      have HD := Hid.mk' (And.intro hd0 hd1)
      have HKW := Hid.mk' hkW
      clear hd0 hd1 hkW
      go_loopw [6, 29] (fun a i wr => ∃ y : Int, a = .int .u64 y ∧ wr = W4 ∧ ((i = .int .i64 0 ∧ y = x) ∨ (i = .int .i64 1 ∧ y = upI x p) ∨ (i = .int .i64 2 ∧ y = upI (upI x p) q))) (fun _ i _ => 2 - (intOf i).toNat)
      case atStart => exact ⟨x, rfl, rfl, .inl ⟨rfl, rfl⟩⟩
      case round =>
        obtain ⟨y, rfl, hwr, hyy⟩ := hrel
        have hwr2 := hwr.symm
        clear hwr
        subst hwr2
        rcases hyy with ⟨rfl, hy⟩ | ⟨rfl, hy⟩ | ⟨rfl, hy⟩
        · have d0 := HD.out.1
          have hy2 := hy.symm
          clear hy
          subst hy2
          by_cases hb : p < 4611686018427387904
          · rcases Int.lt_trichotomy x p with h3 | h3 | h3
            · go_wp2
              all_goals go_roundw
              all_goals first | (exact ⟨p, rfl, by first | rfl | trivial, .inr (.inl ⟨rfl, (upI_lt hb h3).symm⟩)⟩) | (simp [intOf]; done) | skip
            · subst h3
              go_wp2
              all_goals go_roundw
              all_goals first | (exact ⟨x, rfl, by first | rfl | trivial, .inr (.inl ⟨rfl, (upI_ge (Int.le_refl _)).symm⟩)⟩) | (simp [intOf]; done) | skip
            · go_wp2
              all_goals go_roundw
              all_goals first | (exact ⟨x, rfl, by first | rfl | trivial, .inr (.inl ⟨rfl, (upI_ge (Int.le_of_lt h3)).symm⟩)⟩) | (simp [intOf]; done) | skip
          · have hb' : 4611686018427387904 ≤ p := by omega
            go_wp2
            all_goals go_roundw
            all_goals first | (exact ⟨x, rfl, by first | rfl | trivial, .inr (.inl ⟨rfl, (upI_big hb').symm⟩)⟩) | (simp [intOf]; done) | skip
        · have d1 := HD.out.2
          have hyr := upI_rng (x := p) hx0 hx1
          have HY := Hid.mk' hy
          rw [← hy] at hyr
          have hy0 := hyr.1
          have hy1 := hyr.2
          clear hyr hy
          by_cases hb : q < 4611686018427387904
          · rcases Int.lt_trichotomy y q with h3 | h3 | h3
            · go_wp2
              all_goals go_roundw
              all_goals first | (exact ⟨q, rfl, by first | rfl | trivial, .inr (.inr ⟨rfl, by rw [← HY.out]; exact (upI_lt hb h3).symm⟩)⟩) | (simp [intOf]; done) | skip
            · subst h3
              go_wp2
              all_goals go_roundw
              all_goals first | (exact ⟨y, rfl, by first | rfl | trivial, .inr (.inr ⟨rfl, by rw [← HY.out]; exact (upI_ge (Int.le_refl _)).symm⟩)⟩) | (simp [intOf]; done) | skip
            · go_wp2
              all_goals go_roundw
              all_goals first | (exact ⟨y, rfl, by first | rfl | trivial, .inr (.inr ⟨rfl, by rw [← HY.out]; exact (upI_ge (Int.le_of_lt h3)).symm⟩)⟩) | (simp [intOf]; done) | skip
          · have hb' : 4611686018427387904 ≤ q := by omega
            go_wp2
            all_goals go_roundw
            all_goals first | (exact ⟨y, rfl, by first | rfl | trivial, .inr (.inr ⟨rfl, by rw [← HY.out]; exact (upI_big hb').symm⟩)⟩) | (simp [intOf]; done) | skip
        · go_wp2
          go_roundw
          case rel => exact ⟨k + 1, by omega, by go_num, y, rfl, Hid.mk' (by rw [hy, HXT.out]), HK.out.tr HKW.out⟩
          case measure => simp [intOf]; omega
    · have hkm : k = bn := by omega
      subst hkm
      have e : B.take k = B := List.take_of_length_le (by rw [HS.out]; exact Nat.le_refl _)
      rw [e, HAB.out] at hx
      go_wp2
      go_step3
      go_wp2
      have HXA : Hid (x = (AB : Int)) := hx
      have HKX := Hid.mk' (HKA.out.tr HK.out)
      clear hx
      go_loopw [11] (fun nv wr => ∃ j : Nat, j ≤ J ∧ ∃ N : Int, nv = .int .u64 N ∧ Hid (N = ((AB + 1 + j : Nat) : Int)) ∧ Kept (w.alloc (.cells #[.int .i64 g, .int .u8 (m : Int), .slice pa pn pc, .int .i64 f, .slice ba k bc] 66)) wr none) (fun nv _ => AB + 2 + J - (intOf nv).toNat)
      case atStart => exact ⟨0, Nat.zero_le _, x + 1, rfl, Hid.mk' (by have := HXA.out; omega), HK.out⟩
      case round =>
        obtain ⟨j, hj, N, rfl, HN, hkr⟩ := hrel
        have HKr := Hid.mk' hkr
        have X := rowK R0.out hkr
        have x4 := X.cell (i := 4) (by omega)
        simp [f5] at x4
        have hN0 : 0 ≤ N := by have := HN.out; omega
        have hN2 : N ≤ 4611686018427387904 + 40 := by have := HN.out; omega
        clear hkr X
        by_cases hN1 : N < 4611686018427387904
        · go_wp2
          go_loopw [49] (fun i wr => ∃ k' : Nat, k' ≤ k ∧ i = .int .i64 k' ∧ Hid (∀ i, i < k' → endN (B.getD i []) % 256 ≠ (AB + 1 + j) % 256) ∧ Kept (w.alloc (.cells #[.int .i64 g, .int .u8 (m : Int), .slice pa pn pc, .int .i64 f, .slice ba k bc] 66)) wr none) (fun i _ => k - (intOf i).toNat)
          case atStart => exact ⟨0, Nat.zero_le _, rfl, Hid.mk' (fun i hi => absurd hi (by omega)), HKr.out⟩
          case round =>
            obtain ⟨k', hk', rfl, HALLk, hkr2⟩ := hrel
            have HK2 := Hid.mk' hkr2
            by_cases hlt2 : k' < k
            · obtain ⟨b1, o1, a1, c1, rfl, hb1, p1, hC1⟩ := (HB.out.kept (HKA.out.tr hkr2)).get hlt2
              rw [H64.out k' hlt2] at p1 hC1
              have HL := Hid.mk' (last_any hC1)
              have hbg := (HBG.out k' hlt2).2
              obtain ⟨q, hq⟩ : ∃ q : Int, ((endN (B.getD k' []) : Nat) : Int) = q := ⟨_, rfl⟩
              rw [hq] at HL hbg
              have hq0 : 0 ≤ q := by omega
              have HQ := Hid.mk' hq
              clear hC1 hq hkr2
              by_cases hmod : N % 256 = q % 256
              · have hjJ : j < J := by
                  rcases Nat.lt_or_ge j J with h | h
                  · exact h
                  · exfalso
                    have hjj : j = J := by omega
                    have hf := free_not (B := B) (N := AB + 1 + j) (k := k') (by rw [HS.out]; exact hlt2) (by have := HN.out; have := HQ.out; omega)
                    rw [hjj, HFR.out] at hf
                    cases hf
                have HM := Hid.mk' hmod
                go_wp2_with (go_at_call 45; refine HL.out.mono ?_; rintro e w3 ⟨rfl, hk3⟩)
                go_roundw
                case measure =>
                  have h7 := HN.out
                  show AB + 2 + J - (N + 1).toNat < AB + 2 + J - N.toNat
                  omega
                case rel => exact ⟨j + 1, by omega, N + 1, rfl, Hid.mk' (by have := HN.out; omega), HK2.out.tr hk3⟩
              · have HM := Hid.mk' hmod
                have h1 : (N % 256 == q % 256) = false := by simpa using hmod
                have h2 : decide (N % 256 = q % 256) = false := by simpa using hmod
                go_wp2_with (go_at_call 45; refine HL.out.mono ?_; rintro e w3 ⟨rfl, hk3⟩)
                go_roundw
                case rel => exact ⟨k' + 1, by omega, by go_num, Hid.mk' (fun i hi => by
                  by_cases hik : i = k'
                  · subst hik; have := HN.out; have := HQ.out; have := HM.out; omega
                  · exact HALLk.out i (by omega)), HK2.out.tr hk3⟩
                case measure => simp [intOf]; omega
            · have hkk : k' = k := by omega
              subst hkk
              go_wp2
              try rw [Exit.noGoto_ret]
              go_ret2
              have hf := free_yes (B := B) (N := AB + 1 + j) (fun i hi => HALLk.out i (by rw [HS.out] at hi; exact hi))
              have hjJ : j = J := by
                rcases Nat.lt_or_ge j J with h | h
                · rw [HLE.out j h] at hf; cases hf
                · omega
              have hnn : newN g0 B = AB + 1 + j := by rw [HNEW.out, hjJ]
              have hlt3 : AB + 1 + j < gtop := by have := HN.out; unfold gtop; omega
              refine ⟨?_, HKA.out.tr HK2.out⟩
              unfold gnR gnE
              rw [hnn, if_pos hlt3, if_pos hlt3, ← HN.out]
              rfl
        · have hN1' : 4611686018427387904 ≤ N := by omega
          go_wp2
          try rw [Exit.noGoto_ret]
          go_ret2
          have hge : ¬ newN g0 B < gtop := by
            have := HN.out
            have h2 := HNEW.out
            unfold gtop
            omega
          refine ⟨?_, HKA.out.tr HKr.out⟩
          unfold gnR gnE
          rw [if_neg hge, if_neg hge]
          rfl

end Go.Proofs.Ytlabjamkaebnjaa

/-
  THE CONTRACT of a slot's puts.
-/
namespace Go.Proofs.Ytlabjamkaebnjaa
open Go.RowKit Go.Lib Go.Deep
set_option linter.unusedVariables false
set_option linter.unusedSimpArgs false

/-- A list of writes, at block H or behind it. -/
structure PwF (w : World) (H : Nat) (la : Option Addr) (m : Nat) (l : List Pw) : Prop where
  size : l.length = m
  max : m ≤ 9223372036854775807
  at_ : 0 < m → ∃ b off, la = some ⟨b, off, none⟩ ∧ H ≤ b ∧ b < w.heap.size ∧ ∀ i p, l[i]? = some p → ∃ a c, w.cell? ⟨b, off + i * 2, none⟩ = some (.int .i64 p.n) ∧ w.cell? ⟨b, off + i * 2 + 1, none⟩ = some (.slice a p.data.length c) ∧ Come w a p.data.length c p.data ∧ ∀ x, a = some x → H ≤ x.block
theorem PwF.plw {w : World} {H : Nat} {la : Option Addr} {m : Nat} {l : List Pw} (h : PwF w H la m l) : Plw w la m l := by
  refine ⟨h.size, h.max, fun hp => ?_⟩
  obtain ⟨b, off, e, _, hb, hc⟩ := h.at_ hp
  refine ⟨b, off, e, hb, fun i p hi => ?_⟩
  obtain ⟨a, c, h1, h2, h3, _⟩ := hc i p hi
  exact ⟨a, c, h1, h2, h3⟩
theorem PwF.kept {w w' : World} {H : Nat} {la : Option Addr} {m : Nat} {l : List Pw} (h : PwF w H la m l) (k : Kept w w' none) : PwF w' H la m l := by
  refine ⟨h.size, h.max, fun hp => ?_⟩
  obtain ⟨b, off, rfl, hH, hb, hc⟩ := h.at_ hp
  refine ⟨b, off, rfl, hH, Nat.lt_of_lt_of_le hb k.size, fun i p hp => ?_⟩
  obtain ⟨a, c, h1, h2, h4, h5⟩ := hc i p hp
  exact ⟨a, c, (cell_kpt k hb).trans h1, (cell_kpt k hb).trans h2, h4.kpt k, h5⟩
theorem PwF.mono {w : World} {H H' : Nat} {la : Option Addr} {m : Nat} {l : List Pw} (h : PwF w H la m l) (k : H' ≤ H) : PwF w H' la m l := by
  refine ⟨h.size, h.max, fun hp => ?_⟩
  obtain ⟨b, off, rfl, hH, hb, hc⟩ := h.at_ hp
  refine ⟨b, off, rfl, Nat.le_trans k hH, hb, fun i p hp => ?_⟩
  obtain ⟨a, c, h1, h2, h4, h5⟩ := hc i p hp
  exact ⟨a, c, h1, h2, h4, fun x e => Nat.le_trans k (h5 x e)⟩
theorem PwF.nil (w : World) (H : Nat) : PwF w H none 0 [] := ⟨rfl, by omega, fun h => absurd h (by omega)⟩
def pwL (F : Int) (B : List (List Nat)) : List Pw := (List.range B.length).map fun (i : Nat) => ⟨F + (i : Int), B.getD i []⟩
theorem pw_len (F : Int) (B : List (List Nat)) : (pwL F B).length = B.length := by unfold pwL; simp
theorem Bl.skol {w : World} {H : Nat} {la : Option Addr} {m : Nat} {B : List (List Nat)} (h : Bl w H la m B) (h64 : ∀ p ∈ B, p.length = 64) (hp : 0 < m) : ∃ b off, la = some ⟨b, off, none⟩ ∧ b < w.heap.size ∧ ∃ r : Nat → Option Addr × Nat, ∀ i, i < m → w.cell? ⟨b, off + i, none⟩ = some (.slice (r i).1 64 (r i).2) ∧ Come w (r i).1 64 (r i).2 (B.getD i []) ∧ ∀ x, (r i).1 = some x → H ≤ x.block := by
  obtain ⟨b, off, e, hH, hb, hc⟩ := h.at_ hp
  have hs := h.size
  have hall : ∀ i, ∃ q : Option Addr × Nat, i < m → w.cell? ⟨b, off + i, none⟩ = some (.slice q.1 64 q.2) ∧ Come w q.1 64 q.2 (B.getD i []) ∧ ∀ x, q.1 = some x → H ≤ x.block := fun i => by
    by_cases hi : i < m
    · have hl : i < B.length := by omega
      have e2 : B.getD i [] = B[i] := by simp [hl]
      obtain ⟨a, c, h1, h2, h3⟩ := hc i B[i] (by simp)
      have h6 := h64 _ (List.getElem_mem hl)
      rw [h6] at h1 h2
      exact ⟨(a, c), fun _ => ⟨h1, by rw [e2]; exact h2, h3⟩⟩
    · exact ⟨(none, 0), fun hh => absurd hh hi⟩
  obtain ⟨r, hr⟩ := Classical.skolem.1 hall
  exact ⟨b, off, e, hb, r, hr⟩
set_option maxRecDepth 100000 in
set_option maxHeartbeats 4000000 in
theorem puts_any {g : Int} {md : Nat} {pa : Option Addr} {pn pc : Nat} {F : Int} {ba : Option Addr} {bn bc : Nat} {la : Option Addr} {m c H : Nat} {B : List (List Nat)} {w : World} (hB : Bl w H la m B) (h64 : ∀ p ∈ B, p.length = 64) (h1 : 1 ≤ m) (h2 : m ≤ 40) (hH : H ≤ w.heap.size) (hF0 : 0 ≤ F) (hF1 : F ≤ 1000) :
    Calls Try.prog 27 #[slV g md pa pn pc F ba bn bc, .slice la m c] w fun e w' => ∃ b, e = .returned (.slice (some ⟨b, 0, none⟩) m m) ∧ PwF w' H (some ⟨b, 0, none⟩) m (pwL F B) ∧ Kept w w' none := by
  obtain ⟨b0, o0, rfl, hb0, r, hr⟩ := hB.skol h64 h1
  have hsz := hB.size
  have H64 := Hid.mk' h64
  obtain ⟨WA, hWA⟩ : ∃ WA, w.alloc (.cells #[.int .i64 g, .int .u8 (md : Int), .slice pa pn pc, .int .i64 F, .slice ba bn bc] 66) = WA := ⟨_, rfl⟩
  have hkA : Kept w WA none := by rw [← hWA]; exact Kept.alloc _ _ _ _ _
  have hzA : WA.heap.size = w.heap.size + 1 := by rw [← hWA]; simp
  have hRA : WA.rowIs w.heap.size 66 5 (f5 (.int .i64 g) (.int .u8 (md : Int)) (.slice pa pn pc) (.int .i64 F) (.slice ba bn bc)) := by rw [← hWA]; exact row5 _ _ _ _ _ _ _
  obtain ⟨i0, hi0, hz0, hz1, hz2⟩ := info_parts (show (Try.prog.info? 50).map (fun i => (i.zero, i.size, i.bytes)) = some (some (.agg #[.int .i64 0, .slice none 0 0]), 2, 32) from by kernel_rfl)
  have hmk := run_make (P := Try.prog) WA 40 50 i0 _ (by kernel_rfl) hi0 hz0 .i64 .i64 m m (by omega) (Int.le_refl _) (by rw [hz2]; omega) (by omega)
  rw [hz1, Int.toNat_natCast] at hmk
  have hrow0 := madeRow WA (Value.cells (.agg #[.int .i64 0, .slice none 0 0])) (m * 2) 50
  have hk0 : Kept WA (WA.alloc (.cells (madeCells (Value.cells (.agg #[.int .i64 0, .slice none 0 0])) (m * 2)) 50)) none := Kept.alloc _ _ _ _ _
  generalize hW0 : WA.alloc (.cells (madeCells (Value.cells (.agg #[.int .i64 0, .slice none 0 0])) (m * 2)) 50) = W0 at *
  have HR := Hid.mk' hr
  have HRow := Hid.mk' hrow0
  have HK0 := Hid.mk' hk0
  have HKA := Hid.mk' hkA
  have HRA := Hid.mk' hRA
  have HZ := Hid.mk' hzA
  have HSZ := Hid.mk' hsz
  have HWA := Hid.mk' hWA
  clear hr hrow0 hk0 hkA hRA hzA hsz hWA hB h64 hW0
  go_enter Try.func27, Try.ntmps27
  rw [← HWA.out] at hmk
  go_wp2
  go_loopw [13] (fun i wr => ∃ k : Nat, k ≤ m ∧ i = .int .i64 k ∧ (∃ f, wr.rowIs (w.heap.size + 1) 50 (m * 2) f ∧ ∀ i : Nat, i < k → f (i * 2) = .int .i64 (F + (i : Int)) ∧ f (i * 2 + 1) = .slice (r i).1 64 (r i).2) ∧ Kept W0 wr (some (w.heap.size + 1))) (fun i _ => m - (intOf i).toNat)
  case atStart => exact ⟨0, Nat.zero_le _, rfl, ⟨_, by rw [← HZ.out]; exact HRow.out, fun i hi => absurd hi (by omega)⟩, Kept.refl _ _⟩
  case round =>
    obtain ⟨k, hk, rfl, ⟨f, hrow, hf⟩, hkr⟩ := hrel
    have hkw : Kept w wr none := (HKA.out.tr HK0.out).newRow hkr (fun i e => by cases e; omega)
    have HROW := Hid.mk' hrow
    have HF := Hid.mk' hf
    have HK := Hid.mk' hkr
    have HKW := Hid.mk' hkw
    have hX := HRA.out.of_block ((hkr.block _ (by have := HK0.out.size; have := HZ.out; omega) (fun e => by injection e with e; omega)).trans (HK0.out.block _ HRA.out.lt (by simp)))
    have x3 := hX.cell (i := 3) (by omega)
    simp [f5] at x3
    clear hf hX
    by_cases hlt : k < m
    · obtain ⟨p1, _, _⟩ := HR.out k hlt
      have p2 := (cell_kpt hkw hb0).trans p1
      have k0 := hrow.cell (i := k * 2) (by omega)
      have z0 := hrow.frozen (k * 2)
      have k1 := hrow.cell (i := k * 2 + 1) (by omega)
      have z1 := hrow.frozen (k * 2 + 1)
      clear p1 hkw hkr hrow
      generalize hra : (r k).1 = ra at *
      generalize hrb : (r k).2 = rb at *
      have HRR := Hid.mk' (And.intro hra hrb)
      clear hra hrb
      go_wp2
      go_roundw
      case rel =>
        refine ⟨k + 1, by omega, by go_num, ⟨_, (HROW.out.set (k * 2) _).set (k * 2 + 1) _, fun i hi => ?_⟩, kept_trR (kept_trR HK.out (dkept_set _ _ _ _)) (dkept_set _ _ _ _)⟩
        by_cases hik : i = k
        · subst hik
          simp [HRR.out.1, HRR.out.2]
        · obtain ⟨q1, q2⟩ := HF.out i (by omega)
          have e1 : ¬ i * 2 = k * 2 + 1 := by omega
          have e2 : ¬ i * 2 = k * 2 := by omega
          have e3 : ¬ i * 2 + 1 = k * 2 := by omega
          have e4 : ¬ i * 2 + 1 = k * 2 + 1 := by omega
          simp only [if_neg e1, if_neg e2, if_neg e3, if_neg e4]
          exact ⟨q1, q2⟩
      case measure => simp [intOf]; omega
    · obtain rfl : k = m := by omega
      go_wp2
      go_ret
      refine ⟨w.heap.size + 1, rfl, ⟨by rw [pw_len, HSZ.out], by omega, fun _ => ⟨_, 0, rfl, by omega, HROW.out.lt, fun i p hp => ?_⟩⟩, HKW.out⟩
      have hi : i < k := by
        have := (List.getElem?_eq_some_iff.1 hp).1
        rw [pw_len, HSZ.out] at this
        exact this
      have hil : i < B.length := by rw [HSZ.out]; exact hi
      have e : p = ⟨F + (i : Int), B.getD i []⟩ := by
        unfold pwL at hp
        simp [hil] at hp
        rw [← hp]
        simp [hil]
      subst e
      obtain ⟨f1, f2⟩ := HF.out i hi
      obtain ⟨_, c1, c2⟩ := HR.out i hi
      have hl : (B.getD i []).length = 64 := by
        have e2 : B.getD i [] = B[i] := by simp [hil]
        rw [e2]
        exact H64.out _ (List.getElem_mem hil)
      have g0 := HROW.out.cell (i := i * 2) (by omega)
      have g1 := HROW.out.cell (i := i * 2 + 1) (by omega)
      rw [f1] at g0
      rw [f2] at g1
      dsimp only
      rw [hl, Nat.zero_add]
      exact ⟨_, _, g0, g1, c1.kpt HKW.out, c2⟩

end Go.Proofs.Ytlabjamkaebnjaa

