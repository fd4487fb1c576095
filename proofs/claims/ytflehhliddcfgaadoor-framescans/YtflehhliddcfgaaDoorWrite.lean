/-
  THE CONTRACTS of frame.Write, bytes.Equal, bytes.Clone, bytes.LastIndexByte.
-/
import Derived.Test.YtflehhliddcfgaaDoorStuff
import Derived.Laws.Cover3
namespace Go.Proofs.YtflehhliddcfgaaDoor
open Go.RowKit Go.Lib Go.Deep
set_option linter.unusedVariables false
set_option linter.unusedSimpArgs false

def wrL (m : Msg) : List Nat := if m.2.2.length ≤ 512 then frameB m else []
theorem wrL_lt {m : Msg} (h : Mok m) : ∀ x ∈ wrL m, x < 256 := by
  unfold wrL
  split
  · exact frameB_lt h
  · simp
theorem wrL_len (m : Msg) : (wrL m).length ≤ 1044 := by
  unfold wrL
  split
  · have := (stuff_len (inside m)).2
    rw [inside_len] at this
    rw [frameB_len]; omega
  · simp
theorem own_lit1 (w : World) (x base : Nat) (hb : base ≤ w.heap.size) : (w.alloc (.cells #[.int .u8 (x : Int)] 5)).ownsRow base 5 1 (.slice (some ⟨w.heap.size, 0, none⟩) 1 1) 1 ([x].map byteV) :=
  ⟨by simp, .inr ⟨w.heap.size, 1, #[.int .u8 (x : Int)], rfl, hb, heap_alloc_new w _, by omega, by unfold maxLen; omega, by simp, by simp⟩⟩
set_option maxRecDepth 100000 in
set_option maxHeartbeats 1000000 in
theorem write_no (m : Msg) (a : Option Addr) (len cap : Nat) (w : World) (hl : m.2.2.length = len) (h : 512 < len) (h2 : len ≤ 9223372036854775807) :
    Calls Tryd.prog 10 #[msgV m a len cap] w fun e w' => e = .returned (.tuple #[.slice none 0 0, .int .i64 3]) ∧ Kept w w' none := by
  go_enter Tryd.func10, Tryd.ntmps10
  go_wp2_with (go_at_call 16; refine (inside_no m a len cap _ hl h h2).mono ?_; rintro e w1 ⟨rfl, hk1⟩)
  go_ret2
  exact ⟨rfl, (Kept.alloc _ _ _ _ _).tr hk1⟩
set_option maxRecDepth 100000 in
set_option maxHeartbeats 1000000 in
theorem write_yes (m : Msg) (a : Option Addr) (len cap : Nat) (w : World) (hB : By w a len m.2.2) (ha : a = none → cap = 0) (hm : Mok m) (h : len ≤ 512) (ht : Table w) :
    Calls Tryd.prog 10 #[msgV m a len cap] w fun e w' => ∃ a' c', e = .returned (.tuple #[.slice a' (frameB m).length c', .int .i64 0]) ∧ Mine w' w.heap.size a' (frameB m).length c' (frameB m) ∧ Kept w w' none := by
  have HB : Hid (By w a len m.2.2) := hB
  have HT : Hid (Table w) := ht
  have HM : Hid (Mok m) := hm
  have hsl := (stuff_len (inside m)).2
  rw [inside_len, hB.size] at hsl
  clear hB ht hm
  go_enter Tryd.func10, Tryd.ntmps10
  go_wp2_with (first
    | (have hgo := hK4; clear hgo; at_builtin; refine wpList_join (by rfl) _ _ (by rfl) w.heap.size (.slice a4 (1 + (stuff (inside m)).length) c4) (1 + (stuff (inside m)).length) ([126] ++ stuff (inside m)) (by rfl) (own_kept M4.out.own (Kept.alloc _ _ _ _ _)) (some ⟨w4.heap.size, 0, none⟩) 1 1 [126] (by rfl) (by_lit1 w4 126 (by omega)) (fun e => nomatch e) (by omega) (by have := hK4.size; simp; omega) ?_; intro a5 c5 w5 hm5 hg5; have hK5 : Kept w w5 none := (hK4.tr (Kept.alloc _ _ _ _ _)).newRow hg5 (fun i h => M4.out.new i h))
    | (have hgo := hk3; clear hgo; at_builtin; refine wpList_join (by rfl) _ _ (by rfl) w.heap.size (.slice (some ⟨w1.heap.size, 0, none⟩) 1 1) 1 [126] (by rfl) (own_kept (own_lit1 w1 126 w.heap.size hK1.size) hk3) a3 (stuff (inside m)).length c3 (stuff (inside m)) (by rfl) (M3.out.by (stuff_lt _ (inside_lt HM.out))) (fun e => (M3.out.nil e).2) (by omega) (by exact Nat.le_trans hK1.size ((Kept.alloc w1 _ _ _ none).tr hk3).size) ?_; intro a4 c4 w4 hm4 hg4; have hK4 : Kept w w4 none := ((hK1.tr (Kept.alloc _ _ _ _ _)).tr hk3).newRow hg4 (fun i h => by simp [Value.ownBlock] at h; have := hK1.size; omega); have M4 : Hid (Mine w4 w.heap.size a4 (1 + (stuff (inside m)).length) c4 ([126] ++ stuff (inside m))) := hm4)
    | (have hgo := hK1; clear hgo; go_at_call 14; refine (stuff_any ((M1.out.by (inside_lt HM.out)).kept (Kept.alloc w1 _ _ _ none)) (by omega)).mono ?_; rintro e w3 ⟨a3, c3, rfl, hm3, hk3⟩; have M3 : Hid (Mine w3 (w1.alloc (.cells #[.int .u8 126] 5)).heap.size a3 (stuff (inside m)).length c3 (stuff (inside m))) := hm3)
    | (go_at_call 16; refine (inside_yes m a len cap _ (HB.out.kept (Kept.alloc _ _ _ _ _)) ha HM.out h (HT.out.kept (Kept.alloc _ _ _ _ _))).mono ?_; rintro e w1 ⟨a1, c1, rfl, hm1, hk1⟩; have M1 : Hid (Mine w1 w.heap.size a1 (9 + len) c1 (inside m)) := hm1.lower (by simp); have hK1 : Kept w w1 none := (Kept.alloc _ _ _ _ _).tr hk1))
  go_ret2
  have e : (frameB m).length = 1 + (stuff (inside m)).length + 1 := by rw [frameB_len]; omega
  rw [e]
  exact ⟨a5, c5, rfl, hm5, hK5⟩
theorem write_any (m : Msg) (a : Option Addr) (len cap : Nat) (w : World) (hC : Come w a len cap m.2.2) (hm : Mok m) (ht : Table w) :
    Calls Tryd.prog 10 #[msgV m a len cap] w fun e w' => ∃ a' c', e = .returned (.tuple #[.slice a' (wrL m).length c', .int .i64 (insE m)]) ∧ Mine w' w.heap.size a' (wrL m).length c' (wrL m) ∧ Kept w w' none := by
  have hl := hC.by_.size
  unfold wrL insE
  rw [hl]
  by_cases h : len ≤ 512
  · rw [if_pos h, if_pos h]
    exact write_yes m a len cap w hC.by_ hC.nil hm h ht
  · rw [if_neg h, if_neg h]
    refine (write_no m a len cap w hl (by omega) (by have := hC.room; have := hC.max; omega)).mono ?_
    rintro e w' ⟨rfl, hk⟩
    exact ⟨none, 0, rfl, ⟨World.ownsRow_nil _ _ _ _, fun _ => ⟨rfl, rfl⟩, Nat.le_refl _, by omega⟩, hk⟩

/-! ### The library's own -/
theorem textOf_inj {L M : List Nat} (hL : ∀ x ∈ L, x < 256) (hM : ∀ x ∈ M, x < 256) (h : textOf L = textOf M) : L = M := by
  unfold textOf at h
  have h1 : L.map UInt8.ofNat = M.map UInt8.ofNat := by injection h with h; simpa using h
  have h2 : ∀ N : List Nat, (∀ x ∈ N, x < 256) → (N.map UInt8.ofNat).map UInt8.toNat = N := by
    intro N hN
    rw [List.map_map]
    conv => rhs; rw [← List.map_id N]
    apply List.map_congr_left
    intro x hx
    have := hN x hx
    simp; omega
  rw [← h2 L hL, ← h2 M hM, h1]
theorem textOf_eq {L M : List Nat} (hL : ∀ x ∈ L, x < 256) (hM : ∀ x ∈ M, x < 256) : ((textOf L).toList == (textOf M).toList) = decide (L = M) := by
  rw [ByteArray.toList_eq, ByteArray.toList_eq]
  by_cases e : L = M
  · subst e; simp
  · have : ¬ (textOf L).data.toList = (textOf M).data.toList := fun e2 => e (textOf_inj hL hM (by
      have : (textOf L).data = (textOf M).data := Array.toList_inj.1 e2
      show ByteArray.mk (textOf L).data = ByteArray.mk (textOf M).data
      rw [this]))
    rw [decide_eq_false e]
    exact beq_eq_false_iff_ne.2 this
theorem equal_any {a b : Option Addr} {n m c d : Nat} {L M : List Nat} {w : World} (h : By w a n L) (k : By w b m M) :
    Calls Tryd.prog 32 #[.slice a n c, .slice b m d] w fun e w' => e = .returned (.bool (decide (L = M))) ∧ w' = w := by
  have h1 := run_text h c
  have h2 := run_text k d
  have HE : Hid (((textOf L).toList == (textOf M).toList) = decide (L = M)) := textOf_eq h.lt k.lt
  go_enter Tryd.func32, Tryd.ntmps32
  go_wp2
  go_ret
  exact ⟨ret_bool HE.out, rfl⟩
theorem clone_any {a : Option Addr} {len c : Nat} {L : List Nat} {w : World} (hC : Come w a len c L) (hl : len ≤ 1000000) :
    Calls Tryd.prog 36 #[.slice a len c] w fun e w' => ∃ a' c', e = .returned (.slice a' len c') ∧ Mine w' w.heap.size a' len c' L ∧ Kept w w' none := by
  have HC : Hid (Come w a len c L) := hC
  have hnil : (binOp .eql 22 (.slice a len c) (.slice none 0 0)).run Tryd.prog w = .ok (.bool a.isNone) w := by
    simp only [binOp]
    simp [run_equal_slice_nil w 22 5 a len c Tryd.uB]
  clear hC
  cases a with
  | none =>
    have h0 := HC.out.nil rfl
    have h1 := HC.out.room
    have h2 : len = 0 := by omega
    subst h0 h2
    have h3 : L = [] := List.length_eq_zero_iff.1 HC.out.by_.size
    subst h3
    go_enter Tryd.func36, Tryd.ntmps36
    go_wp2
    go_ret
    exact ⟨none, 0, rfl, ⟨World.ownsRow_nil _ _ _ _, fun _ => ⟨rfl, rfl⟩, Nat.le_refl _, by omega⟩, Kept.refl _ _⟩
  | some x =>
    go_enter Tryd.func36, Tryd.ntmps36
    go_wp2_with (at_builtin; refine wpList_join (by rfl) _ _ (by rfl) w.heap.size (.slice (some ⟨w.heap.size, 0, none⟩) 0 0) 0 [] (by rfl) (World.ownsRow_made w #[] 0 (Nat.le_refl _) (by unfold maxLen; omega) (by simp)) (some x) len c L (by rfl) (HC.out.by_.kept (Kept.alloc _ _ _ _ _)) (fun e => nomatch e) (by omega) (by simp) ?_; intro a2 c2 w2 hm2 hg2)
    go_ret
    rw [Nat.zero_add] at hm2
    exact ⟨a2, c2, rfl, hm2, (Kept.alloc _ _ _ _ _).newRow hg2 (fun i h => by simp [Value.ownBlock] at h; omega)⟩
set_option maxRecDepth 100000 in
theorem lastB_any {a : Option Addr} {len c : Nat} {L : List Nat} {w : World} (hB : By w a len L) :
    Calls Tryd.prog 42 #[.slice a len c, .int .u8 126] w fun e w' => e = .returned (.int .i64 (lastE L)) ∧ w' = w := by
  have HL : Hid (L.length = len) := hB.size
  have hmax := hB.max
  have HA : Hid (By w a len L) := hB
  have HG : Hid (∀ i, L.getD i 0 < 256) := hB.getD
  clear hB
  go_enter Tryd.func42, Tryd.ntmps42
  go_wp2
  go_loop [5] (fun i => ∃ k : Nat, k ≤ len ∧ i = .int .i64 ((k : Int) - 1) ∧ lastK L k = lastE L) (fun i => (intOf i + 1).toNat)
  case atStart => exact ⟨len, Nat.le_refl _, rfl, by unfold lastE; rw [HL.out]⟩
  case round =>
    obtain ⟨k, hk, rfl, he⟩ := hrel
    cases k with
    | zero =>
      have HE : Hid (lastE L = -1) := he.symm
      clear he
      go_wp2
      go_ret
      exact ⟨ret_int HE.out.symm, rfl⟩
    | succ k =>
      obtain ⟨b, off, rfl, hb, hc⟩ := HA.out.at_ (by omega)
      have hcell := hc k (by omega)
      have hx := HG.out k
      have he2 : (if L.getD k 0 = 126 then (k : Int) else lastK L k) = lastE L := he
      have hi : (((k + 1 : Nat) : Int) - 1) = (k : Int) := by omega
      rw [hi]
      have HE : Hid ((if L.getD k 0 = 126 then (k : Int) else lastK L k) = lastE L) := he2
      clear he he2 hc hi
      generalize L.getD k 0 = x at *
      by_cases h1 : x = 126
      · subst h1
        go_wp2
        go_ret
        exact ⟨ret_int (by have := HE.out; simpa using this), rfl⟩
      · go_wp2
        go_round
        case rel => exact ⟨k, by omega, rfl, by have := HE.out; rw [if_neg h1] at this; exact this⟩
        case measure => simp [intOf]
theorem last_any {a : Option Addr} {len c : Nat} {L : List Nat} {w : World} (hB : By w a len L) :
    Calls Tryd.prog 31 #[.slice a len c, .int .u8 126] w fun e w' => e = .returned (.int .i64 (lastE L)) ∧ w' = w := by
  have HA : Hid (By w a len L) := hB
  clear hB
  go_enter Tryd.func31, Tryd.ntmps31
  go_wp2_with (go_at_call 42; refine (lastB_any HA.out).mono ?_; rintro e w ⟨rfl, rfl⟩)
  go_ret
  exact ⟨rfl, rfl⟩

end Go.Proofs.YtflehhliddcfgaaDoor
