/-
  PulseHolds' walk: it says another thing just when that has lasted as long as it is held, and then at once (made by a program).
-/
import Derived.Test.YtbgnllpgogbmfaaPulT
namespace Go.Proofs.Ytbgnllpgogbmfaa
open Go.RowKit Go.Lib Go.Deep
set_option linter.unusedVariables false
set_option linter.unusedSimpArgs false

theorem since_from {h : Int} {L : List Bool} {s : Nat} (hs : s = 0 ∨ tr L (s - 1) ≠ tr L s) : ∀ t, s + t < L.length → (∀ m, s ≤ m → m ≤ s + t → tr L m = tr L s) → s + t < 1000000 → (atP h Pu.zero L (s + t + 1)).since = t + 1
  | 0, hk, _, _ => by
    rw [since_at h Pu.zero hk]
    unfold sncP
    rcases hs with rfl | hs
    · rw [show atP h Pu.zero L (0 + 0) = Pu.zero from rfl]
      dsimp only
      split <;> simp
    · by_cases h0 : s = 0
      · subst h0; simp at hs
      · have e : (atP h Pu.zero L (s + 0)).raw = tr L (s - 1) := by
          have := raw_at h Pu.zero (L := L) (k := s - 1) (by omega)
          rw [show s - 1 + 1 = s by omega] at this
          exact this
        rw [e, if_neg (fun q => hs q.symm)]
        rfl
  | t + 1, hk, hall, hb => by
    have ih := since_from (h := h) (L := L) hs t (by omega) (fun m h1 h2 => hall m h1 (by omega)) (by omega)
    rw [since_at h Pu.zero hk]
    unfold sncP
    rw [show s + (t + 1) = s + t + 1 by omega, raw_at h Pu.zero (L := L) (k := s + t) (by omega), hall (s + t) (by omega) (by omega), hall (s + t + 1) (by omega) (by omega), if_pos rfl, ih, if_pos (by omega)]
    omega
theorem up_zero {h : Int} {L : List Bool} : ∀ k, k ≤ L.length → (∀ m, m < k → tr L m = false) → (atP h Pu.zero L k).up = false
  | 0, _, _ => rfl
  | k + 1, hk, hall => by
    rw [up_at h Pu.zero (show k < L.length by omega)]
    unfold upP
    split
    · exact hall k (by omega)
    · exact up_zero k (by omega) (fun m hm => hall m (by omega))
/-- What is behind a look back: r ticks said the same, and the one ahead of them another thing, or none was ahead. -/
structure Back (L : List Bool) (i r : Nat) : Prop where
  pos : 1 ≤ r
  le : r ≤ i + 1
  all : ∀ m, m ≤ i → i < m + r → tr L m = tr L i
  stop : r = i + 1 ∨ tr L (i - r) ≠ tr L i
theorem back_since {h : Int} {L : List Bool} {i r : Nat} (b : Back L i r) (hi : i < L.length) (hb : i < 1000000) : (atP h Pu.zero L (i + 1)).since = r := by
  have h1 := b.pos
  have h2 := b.le
  have e := since_from (h := h) (L := L) (s := i + 1 - r) (by
    rcases b.stop with q | q
    · left; omega
    · by_cases h0 : i + 1 - r = 0
      · exact .inl h0
      · right
        rw [show i + 1 - r - 1 = i - r by omega, b.all (i + 1 - r) (by omega) (by omega)]
        exact q) (r - 1) (by omega) (fun m h3 h4 => by rw [b.all m (by omega) (by omega), b.all (i + 1 - r) (by omega) (by omega)]) (by omega)
  rw [show i + 1 - r + (r - 1) + 1 = i + 1 by omega] at e
  rw [e]
  omega
/-- What is said then. -/
theorem back_first {h : Int} {L : List Bool} {i r : Nat} (b : Back L i r) (hi : i < L.length) (hr : r = i + 1) (hy : tr L i = false) : (atP h Pu.zero L (i + 1)).up = false :=
  up_zero (i + 1) (by omega) (fun m hm => by rw [b.all m (by omega) (by omega)]; exact hy)
theorem back_yes {h : Int} {L : List Bool} {i r : Nat} (b : Back L i r) (hi : i < L.length) (hb : i < 1000000) (hh : h ≤ r) : (atP h Pu.zero L (i + 1)).up = tr L i := by
  have e := back_since (h := h) b hi hb
  rw [since_at h Pu.zero hi] at e
  rw [up_at h Pu.zero hi]
  unfold upP
  rw [e, if_pos hh]
theorem back_no {h : Int} {L : List Bool} {i r : Nat} (b : Back L i r) (hi : i < L.length) (hb : i < 1000000) (hh : ¬ h ≤ r) : (atP h Pu.zero L (i + 1)).up = (atP h Pu.zero L i).up := by
  have e := back_since (h := h) b hi hb
  rw [since_at h Pu.zero hi] at e
  rw [up_at h Pu.zero hi]
  unfold upP
  rw [e, if_neg hh]
theorem pholds_long (h : Int) {a : Option Addr} {n c : Nat} {L : List Bool} {w : World} (hA : Bo w a n L) (hl : 400 < n) : Calls Try.prog 5 #[.slice a n c, .int .i64 h] w fun e w' => e = .returned (.bool true) ∧ Kept w w' none := by
  have hmx := hA.max
  clear hA
  go_enter Try.func5, Try.ntmps5
  go_wp2_with (go_at_call 10; refine (alive_any _).mono ?_; rintro e1 w1 ⟨rfl, hk1⟩)
  go_ret
  exact ⟨rfl, hk1⟩
set_option maxHeartbeats 2000000 in
theorem pholds_less (h : Int) {a : Option Addr} {n c : Nat} {L : List Bool} {w : World} (hA : Bo w a n L) (hl : n ≤ 400) (hh : h < 1) : Calls Try.prog 5 #[.slice a n c, .int .i64 h] w fun e w' => e = .returned (.bool true) ∧ Kept w w' none := by
  have hmx := hA.max
  have HA := Hid.mk' hA
  have HH : Hid (holB h = false) := decide_eq_false (by omega)
  clear hA
  go_enter Try.func5, Try.ntmps5
  go_wp2_with (first
    | (go_at_call 9; refine (run0_arg HA1.out hl HH.out).mono ?_; rintro e w2 ⟨a2, c2, rfl, hk2⟩)
    | (go_at_call 10; refine (alive_any _).mono ?_; rintro e1 w1 ⟨rfl, hk1⟩; have HA1 := Hid.mk' (HA.out.kept hk1)))
  go_ret
  exact ⟨rfl, (hk1.tr hk2).tr (Kept.alloc _ _ _ _ _)⟩
set_option maxHeartbeats 2000000 in
theorem pholds_more (h : Int) {a : Option Addr} {n c : Nat} {L : List Bool} {w : World} (hA : Bo w a n L) (hl : n ≤ 400) (hh0 : 1 ≤ h) (hh : 1048576 < h) : Calls Try.prog 5 #[.slice a n c, .int .i64 h] w fun e w' => e = .returned (.bool true) ∧ Kept w w' none := by
  have hmx := hA.max
  have HA := Hid.mk' hA
  have HH : Hid (holB h = false) := decide_eq_false (by omega)
  clear hA
  go_enter Try.func5, Try.ntmps5
  go_wp2_with (first
    | (go_at_call 9; refine (run0_arg HA1.out hl HH.out).mono ?_; rintro e w2 ⟨a2, c2, rfl, hk2⟩)
    | (go_at_call 10; refine (alive_any _).mono ?_; rintro e1 w1 ⟨rfl, hk1⟩; have HA1 := Hid.mk' (HA.out.kept hk1)))
  go_ret
  exact ⟨rfl, (hk1.tr hk2).tr (Kept.alloc _ _ _ _ _)⟩
set_option maxRecDepth 100000 in
set_option maxHeartbeats 8000000 in
theorem pholds_ok (h : Int) {a : Option Addr} {n c : Nat} {L : List Bool} {w : World} (hA : Bo w a n L) (hl : n ≤ 400) (hh0 : 1 ≤ h) (hh1 : h ≤ 1048576) : Calls Try.prog 5 #[.slice a n c, .int .i64 h] w fun e w' => e = .returned (.bool true) ∧ Kept w w' none := by
  have hmx := hA.max
  have HA := Hid.mk' hA
  have HL := Hid.mk' hA.size
  have HH : Hid (holB h = true) := decide_eq_true ⟨hh0, hh1⟩
  clear hA
  go_enter Try.func5, Try.ntmps5
  go_wp2_with (first
    | (go_at_call 9; refine (run0_ok HA1.out hl HH.out).mono ?_; rintro e w2 ⟨⟨q0, q1, q2⟩, a2, c2, rfl, hb2, hk2⟩; have HB2 := Hid.mk' (hb2.kept (Kept.alloc w2 #[.bool q0, .bool q1, .int .i64 q2] 23 (0, 0) none)); have HA2 := Hid.mk' ((HA1.out.kept hk2).kept (Kept.alloc w2 #[.bool q0, .bool q1, .int .i64 q2] 23 (0, 0) none)); clear hb2)
    | (go_at_call 10; refine (alive_any _).mono ?_; rintro e1 w1 ⟨rfl, hk1⟩; have HA1 := Hid.mk' (HA.out.kept hk1)))
  have HK3 := Hid.mk' ((hk1.tr hk2).tr (Kept.alloc w2 #[.bool q0, .bool q1, .int .i64 q2] 23 (0, 0) none))
  obtain ⟨w3, hw3⟩ : ∃ w3, w2.alloc (.cells #[.bool q0, .bool q1, .int .i64 q2] 23) = w3 := ⟨_, rfl⟩
  rw [hw3] at HB2 HA2 HK3 ⊢
  clear hw3 hk1 hk2 HA1 HA
  go_loopw [9, 10, 11, 12, 13] (fun sd iv _ _ _ wr => ∃ (i : Nat), iv = .int .i64 i ∧ sd = .bool (atP h Pu.zero L i).up ∧ i ≤ n ∧ Kept w3 wr none) (fun _ iv _ _ _ _ => n - (intOf iv).toNat)
  case atStart => exact ⟨0, rfl, rfl, by omega, Kept.refl _ _⟩
  case round =>
    obtain ⟨i, rfl, rfl, hin, hkr⟩ := hrel
    have HKR := Hid.mk' hkr
    clear hkr
    by_cases hlt : i < n
    · have hiL : Hid (i < L.length) := by have := HL.out; show i < L.length; omega
      obtain ⟨b, off, ea, _, _⟩ := HA2.out.at_ (by omega)
      obtain ⟨b', off', ea', _, _⟩ := HB2.out.at_ (by omega)
      subst ea ea'
      generalize hS : (atP h Pu.zero L i).up = S at *
      have HS := Hid.mk' hS
      clear hS
      obtain ⟨Y, hY⟩ : ∃ Y, Y = tr L i := ⟨_, rfl⟩
      obtain ⟨U, hU⟩ : ∃ U, U = (atP h Pu.zero L (i + 1)).up := ⟨_, rfl⟩
      have HY := Hid.mk' hY
      have HU := Hid.mk' hU
      clear hY hU
      go_wp2
      go_loopw [11, 12] (fun rv kv wq => ∃ (r : Nat) (z : Int), rv = .int .i64 r ∧ kv = .int .i64 z ∧ z = (i : Int) - r ∧ r ≤ i + 1 ∧ (∀ m, m ≤ i → i < m + r → tr L m = tr L i) ∧ Kept w3 wq none) (fun rv _ _ => i + 1 - (intOf rv).toNat)
      case atStart => exact ⟨0, i, rfl, rfl, by simp, by omega, fun m h1 h2 => by omega, HKR.out⟩
      case round =>
        obtain ⟨r, z, rfl, rfl, hz, hri, hall, hkq⟩ := hrel
        have HALL := Hid.mk' hall
        have HKQ := Hid.mk' hkq
        clear hall hkq HKR
        have ca : wr.cell? ⟨b, off + i, none⟩ = some (.bool Y) := by
          rw [HY.out]
          obtain ⟨b1, o1, e1, _, hc1⟩ := (HA2.out.kept HKQ.out).at_ (by omega)
          injection e1 with e1; injection e1 with e1 e2; subst e1 e2
          exact hc1 i hlt
        have cb : wr.cell? ⟨b', off' + i, none⟩ = some (.bool U) := by
          rw [HU.out]
          obtain ⟨b1, o1, e1, _, hc1⟩ := (HB2.out.kept HKQ.out).at_ (by omega)
          injection e1 with e1; injection e1 with e1 e2; subst e1 e2
          rw [← tr_said h Pu.zero hiL.out]
          exact hc1 i hlt
        by_cases hr : r ≤ i
        · obtain ⟨m, hm⟩ : ∃ m, m = i - r := ⟨_, rfl⟩
          obtain rfl : z = (m : Int) := by omega
          have hmn : m < n := by omega
          have HMI := Hid.mk' hm
          have cm : wr.cell? ⟨b, off + m, none⟩ = some (.bool (tr L m)) := by
            obtain ⟨b1, o1, e1, _, hc1⟩ := (HA2.out.kept HKQ.out).at_ (by omega)
            injection e1 with e1; injection e1 with e1 e2; subst e1 e2
            exact hc1 m (by omega)
          by_cases he : tr L m = tr L i
          · have HN : Hid (∀ m, m ≤ i → i < m + (r + 1) → tr L m = tr L i) := fun m' h1 h2 => by
              by_cases q : m' = m
              · rw [q]; exact he
              · exact HALL.out m' h1 (by omega)
            have hb : (tr L m == Y) = true := by rw [he, HY.out]; simp
            have hmr : m + r = i := by omega
            have HMR := Hid.mk' hmr
            clear he hm hmr hz hr
            generalize tr L m = y at cm hb
            go_wp2
            go_quiet (fail)
            go_wp2
            go_roundw
            case rel => exact ⟨r + 1, (m : Int) - 1, by go_num, rfl, by have := HMR.out; omega, by have := HMR.out; omega, HN.out, HKQ.out.tr (Kept.drewN _ _ _)⟩
            case measure => have := HMR.out; simp [intOf]; omega
          · have HBK : Hid (Back L i r) := ⟨by
              by_cases h0 : r = 0
              · subst h0
                exfalso; apply he; rw [hm]; rfl
              · omega, by omega, HALL.out, .inr (by rw [← hm]; exact he)⟩
            have hb : (tr L m == Y) = false := by rw [HY.out]; simpa using he
            have hne : ((r : Int) == (i : Int) + 1) = false := by simp; omega
            have hrn : r ≤ n := by omega
            clear he hm hz hr
            generalize tr L m = ym at cm hb
            go_wp2
            go_quiet (fail)
            cases Y with
            | false =>
              by_cases hh : h ≤ (r : Int)
              · obtain rfl : U = false := by rw [HU.out, back_yes HBK.out hiL.out (by omega) (by simpa using hh), ← HY.out]
                go_wp2
                go_roundw
                case rel => exact ⟨i + 1, by go_num, by rw [← HU.out], by omega, HKQ.out.tr (Kept.drewN _ _ _)⟩
                case measure => simp [intOf]; omega
              · obtain rfl : U = S := by rw [HU.out, back_no HBK.out hiL.out (by omega) (by simpa using hh), HS.out]
                go_wp2
                go_roundw
                case rel => exact ⟨i + 1, by go_num, by rw [← HU.out], by omega, HKQ.out.tr (Kept.drewN _ _ _)⟩
                case measure => simp [intOf]; omega
            | true =>
              by_cases hh : h ≤ (r : Int)
              · obtain rfl : U = true := by rw [HU.out, back_yes HBK.out hiL.out (by omega) (by simpa using hh), ← HY.out]
                go_wp2
                go_roundw
                case rel => exact ⟨i + 1, by go_num, by rw [← HU.out], by omega, HKQ.out.tr (Kept.drewN _ _ _)⟩
                case measure => simp [intOf]; omega
              · obtain rfl : U = S := by rw [HU.out, back_no HBK.out hiL.out (by omega) (by simpa using hh), HS.out]
                go_wp2
                go_roundw
                case rel => exact ⟨i + 1, by go_num, by rw [← HU.out], by omega, HKQ.out.tr (Kept.drewN _ _ _)⟩
                case measure => simp [intOf]; omega
        · obtain rfl : r = i + 1 := by omega
          obtain rfl : z = -1 := by omega
          have HBK : Hid (Back L i (i + 1)) := ⟨by omega, by omega, HALL.out, .inl rfl⟩
          clear hz hr hri
          go_wp2
          go_quiet (fail)
          cases Y with
          | false =>
            obtain rfl : U = false := by rw [HU.out]; exact back_first HBK.out hiL.out rfl HY.out.symm
            go_wp2
            go_roundw
            case rel => exact ⟨i + 1, by go_num, by rw [← HU.out], by omega, HKQ.out.tr (Kept.drewN _ _ _)⟩
            case measure => simp [intOf]; omega
          | true =>
            by_cases hh : h ≤ (((i + 1 : Nat) : Int) : Int)
            · obtain rfl : U = true := by rw [HU.out, back_yes HBK.out hiL.out (by omega) (by simpa using hh), ← HY.out]
              go_wp2
              go_roundw
              case rel => exact ⟨i + 1, by go_num, by rw [← HU.out], by omega, HKQ.out.tr (Kept.drewN _ _ _)⟩
              case measure => simp [intOf]; omega
            · obtain rfl : U = S := by rw [HU.out, back_no HBK.out hiL.out (by omega) (by simpa using hh), HS.out]
              go_wp2
              go_roundw
              case rel => exact ⟨i + 1, by go_num, by rw [← HU.out], by omega, HKQ.out.tr (Kept.drewN _ _ _)⟩
              case measure => simp [intOf]; omega
    · go_wp2
      go_ret
      exact ⟨rfl, HK3.out.tr HKR.out⟩
theorem pholds_any (h : Int) {a : Option Addr} {n c : Nat} {L : List Bool} {w : World} (hA : Bo w a n L) : Calls Try.prog 5 #[.slice a n c, .int .i64 h] w fun e w' => e = .returned (.bool true) ∧ Kept w w' none := by
  by_cases hl : 400 < n
  · exact pholds_long h hA hl
  by_cases h1 : h < 1
  · exact pholds_less h hA (by omega) h1
  by_cases h2 : 1048576 < h
  · exact pholds_more h hA (by omega) (by omega) h2
  exact pholds_ok h hA (by omega) (by omega) (by omega)

end Go.Proofs.Ytbgnllpgogbmfaa
