/-
  THE CONTRACTS of the document's own functions (stoplineref04): four, Inside, Stuff, Write.
-/
import Derived.Test.YtflehhliddcfgaaDoorFound
import Derived.Test.YtflehhliddcfgaaDoorRefSum
namespace Go.Proofs.YtflehhliddcfgaaDoor
open Go.RowKit Go.Lib Go.Deep
set_option linter.unusedVariables false
set_option linter.unusedSimpArgs false

theorem leb_snoc : ∀ k n, leb (k + 1) n = leb k n ++ [n / 256 ^ k % 256]
  | 0, n => by simp [leb]
  | k + 1, n => by
    rw [leb, leb_snoc k (n / 256), leb, List.cons_append, Nat.div_div_eq_div_mul, Nat.pow_succ, Nat.mul_comm 256]
set_option maxRecDepth 100000 in
set_option maxHeartbeats 1000000 in
theorem rput4 (n : Nat) (w : World) (hn : n < 4294967296) :
    Calls Tryd.prog 44 #[.int .u64 n, .int .i64 4] w fun e w' => ∃ a c, e = .returned (.tuple #[.slice a 4 c, .int .i64 0]) ∧ Mine w' w.heap.size a 4 c (leb 4 n) ∧ Kept w w' none := by
  go_enter Tryd.func44, Tryd.ntmps44
  go_wp2
  go_loopw [0, 6, 7] (fun nv ov iv wr => ∃ k cur : Nat, ∃ a c, k ≤ 4 ∧ nv = .int .u64 cur ∧ cur = n / 256 ^ k ∧ ov = .slice a k c ∧ iv = .int .i64 k ∧ Mine wr w.heap.size a k c (leb k n) ∧ Kept w wr none ∧ cur < 18446744073709551616) (fun _ _ iv _ => 4 - (intOf iv).toNat)
  case atStart => exact ⟨0, n, none, 0, Nat.zero_le _, rfl, by simp, rfl, rfl, ⟨World.ownsRow_nil _ _ _ _, fun _ => ⟨rfl, rfl⟩, Nat.le_refl _, by omega⟩, Kept.refl _ _, by omega⟩
  case round =>
    obtain ⟨k, cur, a, c, hk, rfl, hcur, rfl, rfl, hm, hkept, hc⟩ := hrel
    by_cases hlt : k < 4
    · have HS : Hid (leb (k + 1) n = leb k n ++ [cur % 256]) := by show _ = _; rw [leb_snoc, ← hcur]
      have HD : Hid (cur / 256 = n / 256 ^ (k + 1)) := by show _ = _; rw [hcur, Nat.div_div_eq_div_mul, Nat.pow_succ]
      clear hcur
      have hb := by_lit1 wr (cur % 256) (by omega)
      have he : (((cur % 256 : Nat) : Int)) = (cur : Int) % 256 := by omega
      rw [he] at hb
      have HB := Hid.mk' hb
      have HM := Hid.mk' hm
      have hsz := hkept.size
      clear hb he hm
      go_wp2_with (at_builtin; refine wpList_join (by rfl) _ _ (by rfl) w.heap.size (.slice a k c) k (leb k n) (by rfl) (HM.out.own.alloc _) (some ⟨wr.heap.size, 0, none⟩) 1 1 [cur % 256] (by rfl) HB.out (fun e => (nomatch e)) (by omega) (by simp; omega) ?_; intro a2 c2 w2 hm2 hg2)
      go_roundw
      case rel => exact ⟨k + 1, cur / 256, a2, c2, by omega, by go_num, HD.out, rfl, by go_num, by rw [HS.out]; exact hm2, (hkept.tr (Kept.alloc _ _ _ _ _)).newRow hg2 HM.out.new, by omega⟩
      case measure => simp [intOf]; omega
    · have hkq : k = 4 := by omega
      subst hkq
      have HM := Hid.mk' hm
      have hz : cur = 0 := by rw [hcur]; omega
      subst hz
      clear hm hcur
      go_wp2
      go_ret2
      exact ⟨a, c, rfl, HM.out, hkept⟩
theorem rfour_any (n : Nat) (w : World) (hn : n < 4294967296) :
    Calls Tryd.prog 39 #[.int .u32 n] w fun e w' => ∃ a c, e = .returned (.slice a 4 c) ∧ Mine w' w.heap.size a 4 c (leb 4 n) ∧ Kept w w' none := by
  go_enter Tryd.func39, Tryd.ntmps39
  go_wp2_with (go_at_call 44; refine (rput4 n _ hn).mono ?_; rintro e w1 ⟨a1, c1, rfl, hm, hk⟩)
  go_ret
  exact ⟨a1, c1, rfl, hm, hk⟩
set_option maxRecDepth 100000 in
set_option maxHeartbeats 1000000 in
theorem rinside_no (m : Msg) (a : Option Addr) (len cap : Nat) (w : World) (hl : m.2.2.length = len) (h : 512 < len) (h2 : len ≤ 9223372036854775807) :
    Calls Tryd.prog 17 #[msgV m a len cap] w fun e w' => e = .returned (.tuple #[.slice none 0 0, .int .i64 3]) ∧ Kept w w' none := by
  go_enter Tryd.func17, Tryd.ntmps17
  go_wp2
  go_ret2
  exact ⟨rfl, Kept.alloc _ _ _ _ _⟩
set_option maxRecDepth 100000 in
set_option maxHeartbeats 1000000 in
theorem rinside_yes (m : Msg) (a : Option Addr) (len cap : Nat) (w : World) (hB : By w a len m.2.2) (ha : a = none → cap = 0) (hm : Mok m) (h : len ≤ 512) :
    Calls Tryd.prog 17 #[msgV m a len cap] w fun e w' => ∃ a' c', e = .returned (.tuple #[.slice a' (9 + len) c', .int .i64 0]) ∧ Mine w' w.heap.size a' (9 + len) c' (inside m) ∧ Kept w w' none := by
  have HB := Hid.mk' hB
  have hk := hm.kind
  have hq := hm.seq
  have HM := Hid.mk' hm
  clear hB hm
  obtain ⟨k, q, L⟩ := m
  have hX := box_alloc w (.int .u8 (k : Int)) (.int .u32 (q : Int)) (.slice a len cap) 30
  have HX := Hid.mk' hX
  clear hX
  go_enter Tryd.func17, Tryd.ntmps17
  go_wp2_with (first
    | (have hgo := M6; clear hgo; at_builtin; refine wpList_join (by rfl) _ _ (by rfl) w.heap.size (.slice a4 (5 + len) c4) (5 + len) (headB (k, q, L)) (by rfl) (own_kept M4.out.own (hk5.tr hk6)) a6 4 c6 (leb 4 (sumB (headB (k, q, L)))) (by rfl) (M6.out.by (leb_lt 4 _)) (fun e => (M6.out.nil e).2) (by omega) (by exact Nat.le_trans hK4.size (hk5.tr hk6).size) ?_; intro a7 c7 w7 hm7 hg7; have hK7 : Kept w w7 none := ((hK4.tr hk5).tr hk6).newRow hg7 (fun i h => M4.out.new i h))
    | (have hgo := hk5; clear hgo; go_at_call 39; refine (rfour_any (sumB (headB (k, q, L))) _ (sumB_lt _ (headB_lt HM.out))).mono ?_; rintro e w6 ⟨a6, c6, rfl, hm6, hk6⟩; have M6 := Hid.mk' hm6; clear hm6)
    | (have hgo := hK4; clear hgo; go_at_call 40; refine (rsum_any (M4.out.by (headB_lt HM.out))).mono ?_; rintro e w5 ⟨rfl, hk5'⟩; have hk5 : Kept w4 w5 none := by { obtain ⟨mm, rfl⟩ := hk5'; exact Kept.drewN _ _ _ })
    | (have hgo := hK3; clear hgo; at_builtin; refine wpList_join (by rfl) _ _ (by rfl) w.heap.size (.slice a3 5 c3) 5 ([k] ++ leb 4 q) (by rfl) M3.out.own a len cap L (by rfl) (HB.out.kept hK3) ha (by omega) hK3.size ?_; intro a4 c4 w4 hm4 hg4; have hK4 : Kept w w4 none := hK3.newRow hg4 (fun i h => M3.out.new i h); have M4 : Hid (Mine w4 w.heap.size a4 (5 + len) c4 (headB (k, q, L))) := hm4)
    | (have hgo := hk2; clear hgo; at_builtin; refine wpList_join (by rfl) _ _ (by rfl) w.heap.size (.slice (some ⟨w.heap.size + 1, 0, none⟩) 1 1) 1 [k] (by rfl) (own_kept HO1.out hk2) a2 4 c2 (leb 4 q) (by rfl) (M2.out.by (leb_lt 4 _)) (fun e => (M2.out.nil e).2) (by omega) (by have := hk2.size; simp at this; omega) ?_; intro a3 c3 w3 hm3 hg3; have hK3 : Kept w w3 none := (((Kept.alloc _ _ _ _ _).tr (Kept.alloc _ _ _ _ _)).tr hk2).newRow hg3 (fun i h => by simp [Value.ownBlock] at h; omega); have M3 : Hid (Mine w3 w.heap.size a3 5 c3 ([k] ++ leb 4 q)) := hm3; have hY := (HX.out.kept (Kept.alloc _ #[.int .u8 (k : Int)] 5 (0, 0) none)).kept hk2; have hd3 : w3.cell? ⟨w.heap.size, 2, none⟩ = some (.slice a len cap) := (World.cell?_of_block (hg3.block w.heap.size hY.lt (by simp [Value.ownBlock]))).trans hY.c2)
    | (go_at_call 39; refine (rfour_any q _ hq).mono ?_; rintro e w2 ⟨a2, c2, rfl, hm2, hk2⟩; have M2 := Hid.mk' hm2; have HO1 : Hid (((w.alloc (.cells #[.int .u8 (k : Int), .int .u32 (q : Int), .slice a len cap] 30)).alloc (.cells #[.int .u8 (k : Int)] 5)).ownsRow w.heap.size 5 1 (.slice (some ⟨w.heap.size + 1, 0, none⟩) 1 1) 1 ([k].map byteV)) := by { have := own_lit1 (w.alloc (.cells #[.int .u8 (k : Int), .int .u32 (q : Int), .slice a len cap] 30)) k w.heap.size (by simp); rw [World.size_alloc] at this; exact this }; clear hm2))
  go_ret2
  rw [show 9 + len = 5 + len + 4 by omega]
  exact ⟨a7, c7, rfl, hm7, hK7⟩
theorem rinside_any (m : Msg) (a : Option Addr) (len cap : Nat) (w : World) (hC : Come w a len cap m.2.2) (hm : Mok m) :
    Calls Tryd.prog 17 #[msgV m a len cap] w fun e w' => ∃ a' c', e = .returned (.tuple #[.slice a' (insL m).length c', .int .i64 (insE m)]) ∧ Mine w' w.heap.size a' (insL m).length c' (insL m) ∧ Kept w w' none := by
  have hl := hC.by_.size
  unfold insL insE
  rw [hl]
  by_cases h : len ≤ 512
  · rw [if_pos h, if_pos h, inside_len, hl]
    exact rinside_yes m a len cap w hC.by_ hC.nil hm h
  · rw [if_neg h, if_neg h]
    refine (rinside_no m a len cap w hl (by omega) (by have := hC.room; have := hC.max; omega)).mono ?_
    rintro e w' ⟨rfl, hk⟩
    exact ⟨none, 0, rfl, ⟨World.ownsRow_nil _ _ _ _, fun _ => ⟨rfl, rfl⟩, Nat.le_refl _, by omega⟩, hk⟩
set_option maxRecDepth 100000 in
set_option maxHeartbeats 1000000 in
theorem rstuff_any {a : Option Addr} {len c : Nat} {L : List Nat} {w : World} (hB : By w a len L) (hlen : len ≤ 1000000) :
    Calls Tryd.prog 22 #[.slice a len c] w fun e w' => ∃ a' c', e = .returned (.slice a' (stuff L).length c') ∧ Mine w' w.heap.size a' (stuff L).length c' (stuff L) ∧ Kept w w' none := by
  have HL := Hid.mk' hB.size
  have HG : Hid (∀ i, L.getD i 0 < 256) := hB.getD
  have HA := Hid.mk' hB
  clear hB
  go_enter Tryd.func22, Tryd.ntmps22
  go_wp2
  go_loopw [3, 4] (fun l i wr => ∃ k : Nat, k ≤ len ∧ i = .int .i64 k ∧ ∃ a' n' c', l = .slice a' n' c' ∧ n' = (stuff (L.take k)).length ∧ Mine wr w.heap.size a' n' c' (stuff (L.take k)) ∧ Kept w wr none) (fun _ i _ => len - (intOf i).toNat)
  case atStart => exact ⟨0, Nat.zero_le _, rfl, none, 0, 0, rfl, by simp [stuff], ⟨World.ownsRow_nil _ _ _ _, fun _ => ⟨rfl, rfl⟩, Nat.le_refl _, by omega⟩, Kept.refl _ _⟩
  case round =>
    obtain ⟨k, hk, rfl, a', n', c', rfl, hn, hM, hkw⟩ := hrel
    by_cases hlt : k < len
    · have hBr := HA.out.kept hkw
      obtain ⟨b, off, rfl, hb, hc⟩ := hBr.at_ (by omega)
      have hcell := hc k hlt
      have hx := HG.out k
      have hst := stuff_take L k (by rw [HL.out]; exact hlt)
      rw [stuff1] at hst
      have hsl := (stuff_len (L.take k)).2
      have hlk : (L.take k).length ≤ k := List.length_take_le _ _
      have HM := Hid.mk' hM
      have HN := Hid.mk' hn
      have hn' : n' ≤ 2000000 := by omega
      clear hM hn hc hsl hlk
      generalize L.getD k 0 = x at *
      by_cases h1 : x = 125 ∨ x = 126
      · have HS : Hid (stuff (L.take (k + 1)) = stuff (L.take k) ++ [125, x - 32]) := by
          show _ = _
          rw [hst]
          rcases h1 with rfl | rfl <;> rfl
        have hx2 := by_lit2 wr 125 (x - 32) (by omega) (by omega)
        rw [show ((x - 32 : Nat) : Int) = (x : Int) - 32 by omega] at hx2
        have HX2 := Hid.mk' hx2
        have h125 : 125 ≤ x := by omega
        clear hst hx2
        have hex : (x = 125) ∨ (x ≠ 125 ∧ x = 126) := by omega
        rcases hex with rfl | ⟨h2, rfl⟩
        all_goals
          go_wp2_with (at_builtin; refine wpList_join (by rfl) _ _ (by rfl) w.heap.size (.slice a' n' c') n' (stuff (L.take k)) (by rfl) (own_kept HM.out.own (Kept.alloc _ _ _ _ _)) (some ⟨wr.heap.size, 0, none⟩) 2 2 _ (by rfl) HX2.out (fun e => nomatch e) (by omega) (by have := hkw.size; simp; omega) ?_; intro a2 c2 w2 hm2 hg2)
          go_roundw
          case rel => exact ⟨k + 1, by omega, by go_num, _, _, _, rfl, by rw [HS.out, List.length_append, ← HN.out]; rfl, by rw [HS.out]; exact hm2, (hkw.tr (Kept.alloc _ _ _ _ _)).newRow hg2 (fun i h => HM.out.new i h)⟩
          case measure => simp [intOf]; omega
      · have h3 : x ≠ 125 := fun e => h1 (.inl e)
        have h4 : x ≠ 126 := fun e => h1 (.inr e)
        rw [if_neg h3, if_neg h4] at hst
        have HS := Hid.mk' hst
        have d1 : ((x : Int) == 125) = false := by simp; omega
        have d2 : ((x : Int) == 126) = false := by simp; omega
        clear hst h1
        go_wp2_with (at_builtin; refine wpList_join (by rfl) _ _ (by rfl) w.heap.size (.slice a' n' c') n' (stuff (L.take k)) (by rfl) (own_kept HM.out.own (Kept.alloc _ _ _ _ _)) (some ⟨wr.heap.size, 0, none⟩) 1 1 [x] (by rfl) (by_lit1 wr x hx) (fun e => nomatch e) (by omega) (by have := hkw.size; simp; omega) ?_; intro a2 c2 w2 hm2 hg2)
        go_roundw
        case rel => exact ⟨k + 1, by omega, by go_num, _, _, _, rfl, by rw [HS.out, List.length_append, ← HN.out]; rfl, by rw [HS.out]; exact hm2, (hkw.tr (Kept.alloc _ _ _ _ _)).newRow hg2 (fun i h => HM.out.new i h)⟩
        case measure => simp [intOf]; omega
    · have hkq : k = len := by omega
      subst hkq
      rw [List.take_of_length_le (by rw [HL.out]; exact Nat.le_refl _)] at hn hM
      have HM := Hid.mk' hM
      have HN := Hid.mk' hn
      clear hM hn
      go_wp2
      go_ret
      have e := HN.out
      subst e
      exact ⟨a', c', rfl, HM.out, hkw⟩

end Go.Proofs.YtflehhliddcfgaaDoor
