/-
  THE CONTRACTS of frame.Stuff, frame.Write.
-/
import Derived.Test.YtflehhliddcfgaaDoorInside
namespace Go.Proofs.YtflehhliddcfgaaDoor
open Go.RowKit Go.Lib Go.Deep
set_option linter.unusedVariables false
set_option linter.unusedSimpArgs false

theorem stuff1 (x : Nat) : stuff [x] = if x = 125 then [125, 93] else if x = 126 then [125, 94] else [x] := by simp [stuff]
theorem mk_roomN (c : Nat) (hc : c ≤ 281474976710656) (w : World) (base : Nat) (hb : base ≤ w.heap.size) : ∃ w', (Instr.makeSlice 22 (.int .i64 0) (.int .i64 (c : Int))).run Tryd.prog w = .ok (.slice (some ⟨w.heap.size, 0, none⟩) 0 c) w' ∧ Mine w' base (some ⟨w.heap.size, 0, none⟩) 0 c [] ∧ Kept w w' none := by
  obtain ⟨i0, hi0, hz0, hz1, hz2⟩ := info_parts Tryd.info5
  obtain ⟨w1, hmk, hown, hg⟩ := run_make_own (P := Tryd.prog) w base 22 5 i0 _ 1 Tryd.uB hi0 hz0 hz1 .i64 .i64 c (by rw [hz2]; omega) (by unfold maxLen; omega) hb
  exact ⟨w1, hmk, ⟨hown, fun e => (nomatch e), Nat.zero_le _, by omega⟩, hg⟩
theorem by_lit1 (w : World) (x : Nat) (h : x < 256) : By (w.alloc (.cells #[.int .u8 (x : Int)] 5)) (some ⟨w.heap.size, 0, none⟩) 1 [x] :=
  By.alloc w [x] 5 (0, 0) #[.int .u8 (x : Int)] (fun i hi => by
    have : i = 0 := by simpa using hi
    subst this; rfl) (by simp) (fun y hy => by simp at hy; omega)
theorem by_lit2 (w : World) (x y : Nat) (h : x < 256) (k : y < 256) : By (w.alloc (.cells #[.int .u8 (x : Int), .int .u8 (y : Int)] 5)) (some ⟨w.heap.size, 0, none⟩) 2 [x, y] :=
  By.alloc w [x, y] 5 (0, 0) #[.int .u8 (x : Int), .int .u8 (y : Int)] (fun i hi => by
    have : i = 0 ∨ i = 1 := by simp at hi; omega
    rcases this with rfl | rfl <;> rfl) (by simp) (fun z hz => by simp at hz; omega)
set_option maxRecDepth 100000 in
set_option maxHeartbeats 1000000 in
theorem stuff_any {a : Option Addr} {len c : Nat} {L : List Nat} {w : World} (hB : By w a len L) (hlen : len ≤ 1000000) :
    Calls Tryd.prog 14 #[.slice a len c] w fun e w' => ∃ a' c', e = .returned (.slice a' (stuff L).length c') ∧ Mine w' w.heap.size a' (stuff L).length c' (stuff L) ∧ Kept w w' none := by
  have HL : Hid (L.length = len) := hB.size
  have HX : Hid (∀ x ∈ L, x < 256) := hB.lt
  have HG : Hid (∀ i, L.getD i 0 < 256) := hB.getD
  have HA : Hid (By w a len L) := hB
  obtain ⟨w1, hmk, hm1, hk1⟩ := mk_roomN len (by omega) w w.heap.size (Nat.le_refl _)
  have M1 : Hid (Mine w1 w.heap.size (some ⟨w.heap.size, 0, none⟩) 0 len []) := hm1
  clear hB hm1
  go_enter Tryd.func14, Tryd.ntmps14
  go_wp2
  clear hmk
  go_loopw [3, 11] (fun l i wr => ∃ k : Nat, k ≤ len ∧ i = .int .i64 k ∧ ∃ a' n' c', l = .slice a' n' c' ∧ n' = (stuff (L.take k)).length ∧ Mine wr w.heap.size a' n' c' (stuff (L.take k)) ∧ Kept w wr none) (fun _ i _ => len - (intOf i).toNat)
  case atStart => exact ⟨0, Nat.zero_le _, rfl, _, _, _, rfl, by simp [stuff], by simpa [stuff] using M1.out, hk1⟩
  case round =>
    obtain ⟨k, hk, rfl, a', n', c', rfl, hn, hM, hkw⟩ := hrel
    by_cases hlt : k < len
    · have hBr := HA.out.kept hkw
      obtain ⟨b, off, rfl, hb, hc⟩ := hBr.at_ (by omega)
      have hcell := hc k hlt
      have hx := HG.out k
      have hst := stuff_take L k (by rw [HL.out]; exact hlt)
      rw [stuff1] at hst
      have hsl := (stuff_len (L.take k)).2
      have hlk : (L.take k).length ≤ k := List.length_take_le _ _
      have HM : Hid (Mine wr w.heap.size a' n' c' (stuff (L.take k))) := hM
      have HN : Hid (n' = (stuff (L.take k)).length) := hn
      have hn' : n' ≤ 2000000 := by omega
      clear hM hn hc hsl hlk
      generalize L.getD k 0 = x at *
      by_cases h1 : x = 125
      · subst h1
        have HS : Hid (stuff (L.take (k + 1)) = stuff (L.take k) ++ [125, 93]) := hst
        clear hst
        go_wp2_with (at_builtin; refine wpList_join (by rfl) _ _ (by rfl) w.heap.size (.slice a' n' c') n' (stuff (L.take k)) (by rfl) (own_kept HM.out.own (Kept.alloc _ _ _ _ _)) (some ⟨wr.heap.size, 0, none⟩) 2 2 [125, 93] (by rfl) (by_lit2 wr 125 93 (by omega) (by omega)) (fun e => nomatch e) (by omega) (by have := hkw.size; simp; omega) ?_; intro a2 c2 w2 hm2 hg2)
        go_roundw
        case rel => exact ⟨k + 1, by omega, by go_num, _, _, _, rfl, by rw [HS.out, List.length_append, ← HN.out]; rfl, by rw [HS.out]; exact hm2, (hkw.tr (Kept.alloc _ _ _ _ _)).newRow hg2 (fun i h => HM.out.new i h)⟩
        case measure => simp [intOf]; omega
      · by_cases h2 : x = 126
        · subst h2
          have HS : Hid (stuff (L.take (k + 1)) = stuff (L.take k) ++ [125, 94]) := hst
          clear hst
          go_wp2_with (at_builtin; refine wpList_join (by rfl) _ _ (by rfl) w.heap.size (.slice a' n' c') n' (stuff (L.take k)) (by rfl) (own_kept HM.out.own (Kept.alloc _ _ _ _ _)) (some ⟨wr.heap.size, 0, none⟩) 2 2 [125, 94] (by rfl) (by_lit2 wr 125 94 (by omega) (by omega)) (fun e => nomatch e) (by omega) (by have := hkw.size; simp; omega) ?_; intro a2 c2 w2 hm2 hg2)
          go_roundw
          case rel => exact ⟨k + 1, by omega, by go_num, _, _, _, rfl, by rw [HS.out, List.length_append, ← HN.out]; rfl, by rw [HS.out]; exact hm2, (hkw.tr (Kept.alloc _ _ _ _ _)).newRow hg2 (fun i h => HM.out.new i h)⟩
          case measure => simp [intOf]; omega
        · rw [if_neg h1, if_neg h2] at hst
          have HS : Hid (stuff (L.take (k + 1)) = stuff (L.take k) ++ [x]) := hst
          clear hst
          go_wp2_with (at_builtin; refine wpList_join (by rfl) _ _ (by rfl) w.heap.size (.slice a' n' c') n' (stuff (L.take k)) (by rfl) (own_kept HM.out.own (Kept.alloc _ _ _ _ _)) (some ⟨wr.heap.size, 0, none⟩) 1 1 [x] (by rfl) (by_lit1 wr x hx) (fun e => nomatch e) (by omega) (by have := hkw.size; simp; omega) ?_; intro a2 c2 w2 hm2 hg2)
          go_roundw
          case rel => exact ⟨k + 1, by omega, by go_num, _, _, _, rfl, by rw [HS.out, List.length_append, ← HN.out]; rfl, by rw [HS.out]; exact hm2, (hkw.tr (Kept.alloc _ _ _ _ _)).newRow hg2 (fun i h => HM.out.new i h)⟩
          case measure => simp [intOf]; omega
    · have hkq : k = len := by omega
      subst hkq
      rw [List.take_of_length_le (by rw [HL.out]; exact Nat.le_refl _)] at hn hM
      have HM : Hid (Mine wr w.heap.size a' n' c' (stuff L)) := hM
      have HN : Hid (n' = (stuff L).length) := hn
      clear hM hn
      go_wp2
      go_ret
      have e := HN.out
      subst e
      exact ⟨a', c', rfl, HM.out, hkw⟩

end Go.Proofs.YtflehhliddcfgaaDoor
