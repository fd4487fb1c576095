/-
  THE CONTRACTS of the document's own functions (stoplineref04): Write, Open, Bare, Same.
-/
import Derived.Test.YtflehhliddcfgaaDoorRefA
namespace Go.Proofs.YtflehhliddcfgaaDoor
open Go.RowKit Go.Lib Go.Deep
set_option linter.unusedVariables false
set_option linter.unusedSimpArgs false

set_option maxRecDepth 100000 in
set_option maxHeartbeats 1000000 in
theorem rwrite_no (m : Msg) (a : Option Addr) (len cap : Nat) (w : World) (hl : m.2.2.length = len) (h : 512 < len) (h2 : len ≤ 9223372036854775807) :
    Calls Tryd.prog 18 #[msgV m a len cap] w fun e w' => e = .returned (.tuple #[.slice none 0 0, .int .i64 3]) ∧ Kept w w' none := by
  go_enter Tryd.func18, Tryd.ntmps18
  go_wp2_with (go_at_call 17; refine (rinside_no m a len cap _ hl h h2).mono ?_; rintro e w1 ⟨rfl, hk1⟩)
  go_ret2
  exact ⟨rfl, (Kept.alloc _ _ _ _ _).tr hk1⟩
set_option maxRecDepth 100000 in
set_option maxHeartbeats 1000000 in
theorem rwrite_yes (m : Msg) (a : Option Addr) (len cap : Nat) (w : World) (hB : By w a len m.2.2) (ha : a = none → cap = 0) (hm : Mok m) (h : len ≤ 512) :
    Calls Tryd.prog 18 #[msgV m a len cap] w fun e w' => ∃ a' c', e = .returned (.tuple #[.slice a' (frameB m).length c', .int .i64 0]) ∧ Mine w' w.heap.size a' (frameB m).length c' (frameB m) ∧ Kept w w' none := by
  have HB : Hid (By w a len m.2.2) := hB
  have HM : Hid (Mok m) := hm
  have hsl := (stuff_len (inside m)).2
  rw [inside_len, hB.size] at hsl
  clear hB hm
  go_enter Tryd.func18, Tryd.ntmps18
  go_wp2_with (first
    | (have hgo := hK4; clear hgo; at_builtin; refine wpList_join (by rfl) _ _ (by rfl) w.heap.size (.slice a4 (1 + (stuff (inside m)).length) c4) (1 + (stuff (inside m)).length) ([126] ++ stuff (inside m)) (by rfl) (own_kept M4.out.own (Kept.alloc _ _ _ _ _)) (some ⟨w4.heap.size, 0, none⟩) 1 1 [126] (by rfl) (by_lit1 w4 126 (by omega)) (fun e => nomatch e) (by omega) (by have := hK4.size; simp; omega) ?_; intro a5 c5 w5 hm5 hg5; have hK5 : Kept w w5 none := (hK4.tr (Kept.alloc _ _ _ _ _)).newRow hg5 (fun i h => M4.out.new i h))
    | (have hgo := hk3; clear hgo; at_builtin; refine wpList_join (by rfl) _ _ (by rfl) w.heap.size (.slice (some ⟨w1.heap.size, 0, none⟩) 1 1) 1 [126] (by rfl) (own_kept (own_lit1 w1 126 w.heap.size hK1.size) hk3) a3 (stuff (inside m)).length c3 (stuff (inside m)) (by rfl) (M3.out.by (stuff_lt _ (inside_lt HM.out))) (fun e => (M3.out.nil e).2) (by omega) (by exact Nat.le_trans hK1.size ((Kept.alloc w1 _ _ _ none).tr hk3).size) ?_; intro a4 c4 w4 hm4 hg4; have hK4 : Kept w w4 none := ((hK1.tr (Kept.alloc _ _ _ _ _)).tr hk3).newRow hg4 (fun i h => by simp [Value.ownBlock] at h; have := hK1.size; omega); have M4 : Hid (Mine w4 w.heap.size a4 (1 + (stuff (inside m)).length) c4 ([126] ++ stuff (inside m))) := hm4)
    | (have hgo := hK1; clear hgo; go_at_call 22; refine (rstuff_any ((M1.out.by (inside_lt HM.out)).kept (Kept.alloc w1 _ _ _ none)) (by omega)).mono ?_; rintro e w3 ⟨a3, c3, rfl, hm3, hk3⟩; have M3 : Hid (Mine w3 (w1.alloc (.cells #[.int .u8 126] 5)).heap.size a3 (stuff (inside m)).length c3 (stuff (inside m))) := hm3)
    | (go_at_call 17; refine (rinside_yes m a len cap _ (HB.out.kept (Kept.alloc _ _ _ _ _)) ha HM.out h).mono ?_; rintro e w1 ⟨a1, c1, rfl, hm1, hk1⟩; have M1 : Hid (Mine w1 w.heap.size a1 (9 + len) c1 (inside m)) := hm1.lower (by simp); have hK1 : Kept w w1 none := (Kept.alloc _ _ _ _ _).tr hk1))
  go_ret2
  have e : (frameB m).length = 1 + (stuff (inside m)).length + 1 := by rw [frameB_len]; omega
  rw [e]
  exact ⟨a5, c5, rfl, hm5, hK5⟩
theorem rwrite_any (m : Msg) (a : Option Addr) (len cap : Nat) (w : World) (hC : Come w a len cap m.2.2) (hm : Mok m) :
    Calls Tryd.prog 18 #[msgV m a len cap] w fun e w' => ∃ a' c', e = .returned (.tuple #[.slice a' (wrL m).length c', .int .i64 (insE m)]) ∧ Mine w' w.heap.size a' (wrL m).length c' (wrL m) ∧ Kept w w' none := by
  have hl := hC.by_.size
  unfold wrL insE
  rw [hl]
  by_cases h : len ≤ 512
  · rw [if_pos h, if_pos h]
    exact rwrite_yes m a len cap w hC.by_ hC.nil hm h
  · rw [if_neg h, if_neg h]
    refine (rwrite_no m a len cap w hl (by omega) (by have := hC.room; have := hC.max; omega)).mono ?_
    rintro e w' ⟨rfl, hk⟩
    exact ⟨none, 0, rfl, ⟨World.ownsRow_nil _ _ _ _, fun _ => ⟨rfl, rfl⟩, Nat.le_refl _, by omega⟩, hk⟩

theorem v256_drop (L : List Nat) (i : Nat) (h : i < L.length) : v256 (L.drop i) = L.getD i 0 + 256 * v256 (L.drop (i + 1)) := by
  rw [List.drop_eq_getElem_cons h, v256]; simp [h]
theorem v256_drop_lt (L : List Nat) (i : Nat) (hb : ∀ x ∈ L, x < 256) (h8 : L.length ≤ 8) : v256 (L.drop i) < 18446744073709551616 := by
  have := v256_lt (L.drop i) (fun x hx => hb x (List.mem_of_mem_drop hx))
  exact Nat.lt_of_lt_of_le this (Nat.le_trans (Nat.pow_le_pow_right (n := 256) (j := 8) (by omega) (by simp; omega)) (by decide))
set_option maxRecDepth 100000 in
theorem rget_yes {a : Option Addr} {len c : Nat} {L : List Nat} {w : World} (hB : By w a len L) (h1 : 1 ≤ len) (h2 : len ≤ 8) :
    Calls Tryd.prog 41 #[.slice a len c] w fun e w' => e = .returned (.tuple #[.int .u64 ((v256 L : Nat) : Int), .int .i64 0]) ∧ ∃ m, w' = w.drewN m := by
  obtain ⟨b, off, rfl, hb, hc⟩ := hB.at_ (by omega)
  have HL : Hid (L.length = len) := hB.size
  have HG : Hid (∀ i, L.getD i 0 < 256) := hB.getD
  have HX : Hid (∀ x ∈ L, x < 256) := hB.lt
  have HC : Hid (∀ i, i < len → w.cell? ⟨b, off + i, none⟩ = some (.int .u8 ((L.getD i 0 : Nat) : Int))) := hc
  clear hB hc
  go_enter Tryd.func41, Tryd.ntmps41
  go_wp2
  go_loopw [4, 5] (fun n i wr => ∃ k : Nat, k ≤ len ∧ n = .int .u64 ((v256 (L.drop k) : Nat) : Int) ∧ i = .int .i64 ((k : Int) - 1) ∧ ∃ m, wr = w.drewN m) (fun _ i _ => (intOf i + 1).toNat)
  case atStart => exact ⟨len, Nat.le_refl _, by rw [List.drop_of_length_le (by rw [HL.out]; exact Nat.le_refl _)]; rfl, rfl, 0, rfl⟩
  case round =>
    obtain ⟨k, hk, rfl, rfl, m, rfl⟩ := hrel
    by_cases hlt : 0 < k
    · obtain ⟨j, rfl⟩ : ∃ j, k = j + 1 := ⟨k - 1, by omega⟩
      have hcell := HC.out j (by omega)
      have hx := HG.out j
      have hn := v256_drop_lt L j HX.out (by rw [HL.out]; exact h2)
      have hd := v256_drop L j (by rw [HL.out]; omega)
      have HD : Hid (v256 (L.drop j) = L.getD j 0 + 256 * v256 (L.drop (j + 1))) := hd
      rw [hd] at hn
      clear hd
      generalize L.getD j 0 = x at *
      generalize v256 (L.drop (j + 1)) = v at *
      have hj : ((j + 1 : Nat) : Int) - 1 = (j : Int) := by omega
      rw [hj]
      go_wp2
      go_roundw
      case rel => exact ⟨j, by omega, by rw [HD.out]; go_num, by go_num, _, rfl⟩
      case measure => simp [intOf]
    · have hkq : k = 0 := by omega
      subst hkq
      rw [List.drop_zero]
      go_wp2
      go_ret2
      exact ⟨rfl, m, rfl⟩

/-! ### Bare -/
def rbF : List Nat → List Nat
  | [] => []
  | [x] => [x]
  | x :: y :: L => if x = 125 ∧ (y = 93 ∨ y = 94) then (y + 32) :: rbF L else x :: rbF (y :: L)
theorem rbF_plain (x : Nat) (L : List Nat) (h : ¬ (x = 125 ∧ (L.getD 0 0 = 93 ∨ L.getD 0 0 = 94))) : rbF (x :: L) = x :: rbF L := by
  cases L with
  | nil => rfl
  | cons y L =>
    simp at h
    rw [rbF, if_neg (by simpa using h)]
theorem rbF_stuff : ∀ M : List Nat, rbF (stuff M) = M
  | [] => rfl
  | x :: M => by
    have ih := rbF_stuff M
    unfold stuff
    split
    · rename_i h; subst h; rw [rbF, if_pos (by simp), ih]
    · split
      · rename_i h1 h; subst h; rw [rbF, if_pos (by simp), ih]
      · rename_i h1 h2; rw [rbF_plain _ _ (fun h => h1 h.1), ih]
theorem stuff_bare0 {L : List Nat} (h : bareE L = 0) : stuff (bareL L) = L := by
  unfold bareE at h
  split at h
  · rename_i hw
    unfold bareL
    rw [if_pos hw]
    exact bare_back hw
  · cases h
theorem rb_iff (L : List Nat) : stuff (rbF L) = L ↔ bareE L = 0 := by
  constructor
  · intro h
    have : bareS L = (rbF L, false, false) := by
      have := bareS_stuff (rbF L)
      rwa [h] at this
    unfold bareE
    rw [this]; rfl
  · intro h
    have h1 := stuff_bare0 h
    have : rbF L = bareL L := by
      have h2 := rbF_stuff (bareL L)
      rwa [h1] at h2
    rw [this, h1]
theorem rb_eq {L : List Nat} (h : bareE L = 0) : rbF L = bareL L := by
  have h1 := stuff_bare0 h
  have h2 := rbF_stuff (bareL L)
  rwa [h1] at h2
theorem drop_getD (L : List Nat) (k : Nat) (h : k < L.length) : L.drop k = L.getD k 0 :: L.drop (k + 1) := by
  rw [List.drop_eq_getElem_cons h]; simp [h]
theorem rb_pair (L : List Nat) (k : Nat) (h : k + 1 < L.length) (hx : L.getD k 0 = 125) (hy : L.getD (k + 1) 0 = 93 ∨ L.getD (k + 1) 0 = 94) : rbF (L.drop k) = (L.getD (k + 1) 0 + 32) :: rbF (L.drop (k + 2)) := by
  rw [drop_getD L k (by omega), drop_getD L (k + 1) h, rbF, if_pos ⟨hx, hy⟩]
theorem rb_one (L : List Nat) (k : Nat) (h : k < L.length) (hn : ¬ (L.getD k 0 = 125 ∧ (L.getD (k + 1) 0 = 93 ∨ L.getD (k + 1) 0 = 94))) : rbF (L.drop k) = L.getD k 0 :: rbF (L.drop (k + 1)) := by
  rw [drop_getD L k h, rbF_plain _ _ (by simpa [List.getElem?_drop] using hn)]
theorem rbF_len : ∀ n, ∀ L : List Nat, L.length ≤ n → (rbF L).length ≤ L.length
  | 0, L, h => by have : L = [] := List.length_eq_zero_iff.1 (by omega); subst this; simp [rbF]
  | n + 1, [], h => by simp [rbF]
  | n + 1, [x], h => by simp [rbF]
  | n + 1, x :: y :: L, h => by
    rw [rbF]
    split
    · have := rbF_len n L (by simp at h; omega); simp; omega
    · have := rbF_len n (y :: L) (by simp at h ⊢; omega); simp at this ⊢; omega

end Go.Proofs.YtflehhliddcfgaaDoor
