/-
  Texts joined: some of those that the proofs of this seat stand on.
-/
import Derived.Test.YtcjkghajeohfjaaDoorWorld
import Derived.OwnWalk
import Derived.Deep.DeepAppendRoom
import Derived.Deep.AppendLies
/-
  THE CONTRACTS of raw.Put and raw.Get.
-/
namespace Go.Proofs.YtcjkghajeohfjaaDoor
open Go.RowKit Go.Lib Go.Deep
set_option linter.unusedVariables false
set_option linter.unusedSimpArgs false

theorem Tryd.info5 : (Tryd.prog.info? 5).map (fun i => (i.zero, i.size, i.bytes)) = some (some (.int .u8 0), 1, 1) := by kernel_rfl

theorem put_step {w : World} {g q k : Nat} {l : List Nat} (h : w.rowIs g 5 q (fun j => .int .u8 ((if j < k then l.getD j 0 else 0 : Nat) : Int))) :
    (w.setCell ⟨g, k, none⟩ (.int .u8 ((l.getD k 0 : Nat) : Int))).rowIs g 5 q (fun j => .int .u8 ((if j < k + 1 then l.getD j 0 else 0 : Nat) : Int)) := by
  refine World.rowIs.congr (World.rowIs.set h k _) (fun i hi => ?_)
  by_cases a : i = k
  · subst a; rw [if_pos rfl, if_pos (by omega)]
  · rw [if_neg a]
    by_cases c : i < k
    · rw [if_pos c, if_pos (by omega)]
    · rw [if_neg c, if_neg (by omega)]

theorem put_no_width (n width : Int) (w : World) (h : width < 1 ∨ 8 < width) :
    Calls Tryd.prog 74 #[.int .u64 n, .int .i64 width] w fun e w' => e = .returned (.tuple #[.slice none 0 0, .int .i64 2]) ∧ w' = w := by
  rcases h with h | h
  · go_enter Tryd.func74, Tryd.ntmps74
    go_wp2
    go_ret2
    exact ⟨rfl, rfl⟩
  · go_enter Tryd.func74, Tryd.ntmps74
    go_wp2
    go_ret2
    exact ⟨rfl, rfl⟩

theorem pow_byte (n i : Nat) : ((n : Int) / 2 ^ (8 * i)) = ((n / 256 ^ i : Nat) : Int) := by
  have : (256 : Nat) ^ i = 2 ^ (8 * i) := by rw [Nat.pow_mul]
  rw [this]
  simp
theorem put_no (n q : Nat) (w : World) (h1 : 1 ≤ q) (h2 : q ≤ 8) (hn : n < 18446744073709551616) (h : n / 256 ^ q ≠ 0) :
    Calls Tryd.prog 74 #[.int .u64 n, .int .i64 q] w fun e w' => e = .returned (.tuple #[.slice none 0 0, .int .i64 2]) ∧ w' = w := by
  have hne : (((n : Int) / 2 ^ (8 * q)) != 0) = true := by rw [pow_byte]; generalize n / 256 ^ q = z at h; simp; omega
  clear h
  go_enter Tryd.func74, Tryd.ntmps74
  go_wp2
  go_ret2
  exact ⟨rfl, rfl⟩
theorem put_yes (n q : Nat) (w : World) (h1 : 1 ≤ q) (h2 : q ≤ 8) (hn : n < 18446744073709551616) (h : n / 256 ^ q = 0) :
    Calls Tryd.prog 74 #[.int .u64 n, .int .i64 q] w fun e w' => e = .returned (.tuple #[.slice (some ⟨w.heap.size, 0, none⟩) q q, .int .i64 0]) ∧ By w' (some ⟨w.heap.size, 0, none⟩) q (leb q n) ∧ Kept w w' none ∧ w'.heap.size = w.heap.size + 1 := by
  have hne : (((n : Int) / 2 ^ (8 * q)) != 0) = false := by rw [pow_byte, h]; rfl
  clear h
  have hmk := run_make_row' (P := Tryd.prog) 30 5 (.int .u8 0) 1 Tryd.uB Tryd.info5 rfl .i64 .i64 q (by omega) (by omega)
  go_enter Tryd.func74, Tryd.ntmps74
  go_wp2
  clear hmk hne
  go_loopw [25] (fun i wr => ∃ k : Nat, k ≤ q ∧ i = .int .i64 k ∧ wr.rowIs w.heap.size 5 q (fun j => .int .u8 ((if j < k then (leb q n).getD j 0 else 0 : Nat) : Int)) ∧ Kept w wr none ∧ wr.heap.size = w.heap.size + 1) (fun i _ => q - (intOf i).toNat)
  case atStart => exact ⟨0, Nat.zero_le _, rfl, World.rowIs.congr (World.rowIs_made _ _ _ _) (fun i hi => by simp), Kept.alloc _ _ _ _ _, by simp⟩
  case round =>
    obtain ⟨k, hk, rfl, hrow, hkept, hsz⟩ := hrel
    by_cases hlt : k < q
    · have hcell := hrow.cell hlt
      have hfz := hrow.frozen k
      have hv : ((n : Int) / 2 ^ (8 * k)) % 256 = (((leb q n).getD k 0 : Nat) : Int) := by rw [pow_byte, leb_getD q n k hlt]; simp
      go_wp2
      go_roundw
      case rel => exact ⟨k + 1, by omega, by go_num, by first | exact put_step hrow | (rw [← hv]; exact put_step hrow) | (rw [hv]; exact put_step hrow), hkept.setNew (Nat.le_refl _) _, by simpa [World.setCell] using hsz⟩
      case measure => simp [intOf]; omega
    · have hkq : k = q := by omega
      subst hkq
      go_wp2
      go_ret2
      exact ⟨rfl, By.row hrow _ k (Nat.le_refl _) (leb_length _ _) (by omega) (leb_lt _ _) (fun i hi => by rw [if_pos hi]), hkept, hsz⟩

/-! ### Get -/

end Go.Proofs.YtcjkghajeohfjaaDoor

/-
  THE CONTRACT of raw.Small.
-/
namespace Go.Proofs.YtcjkghajeohfjaaDoor
open Go.RowKit Go.Lib Go.Deep
set_option linter.unusedVariables false
set_option linter.unusedSimpArgs false

/-- A slice of the call's own: its bytes are L. -/
abbrev Own (w : World) (base g n cap : Nat) (L : List Nat) : Prop := w.ownsRow base 5 1 (.slice (some ⟨g, 0, none⟩) n cap) n (L.map byteV)
theorem Own.by {w : World} {base g n cap : Nat} {L : List Nat} (h : Own w base g n cap L) (hn : n ≤ 9223372036854775807) (hb : ∀ x ∈ L, x < 256) : By w (some ⟨g, 0, none⟩) n L := by
  have hl : L.length = n := by have := h.1; simpa using this
  refine ⟨hl, hn, hb, fun hp => ⟨g, 0, rfl, (h.lt g rfl).2, fun i hi => ?_⟩⟩
  have := h.cellAt i (by omega)
  rw [Nat.zero_add]
  rw [this]
  have hi' : i < L.length := by omega
  simp [hi']
theorem own_snoc {w : World} {base g n cap : Nat} {L : List Nat} {x : Nat} (hn : n = L.length) (h : w.ownsRow base 5 1 (.slice (some ⟨g, 0, none⟩) (n + 1) cap) (n + 1) (L.map byteV ++ [.int .u8 (x : Int)])) : Own w base g (L ++ [x]).length cap (L ++ [x]) := by
  subst hn
  unfold Own
  rw [List.length_append, List.map_append]
  exact h
theorem or128 : ∀ x, x < 256 → x ||| 128 = x % 128 + 128 := by decide +kernel
theorem byte_or (n : Nat) : bits .or .u8 ((n : Int) % 256) 128 = ((n % 128 + 128 : Nat) : Int) := by
  have h := u8_or_nat (n % 256) 128 (by omega) (by omega)
  rw [or128 _ (by omega)] at h
  have e : ((n : Int) % 256) = ((n % 256 : Nat) : Int) := by omega
  rw [e]
  refine Eq.trans h ?_
  omega

set_option maxRecDepth 100000 in
set_option maxHeartbeats 1000000 in
theorem small_any (n : Nat) (w : World) (hn : n < 18446744073709551616) :
    Calls Tryd.prog 76 #[.int .u64 n] w fun e w' => e = .returned (.slice (some ⟨w.heap.size, 0, none⟩) (sml n).length 10) ∧ Own w' w.heap.size w.heap.size (sml n).length 10 (sml n) ∧ Kept w w' none := by
  obtain ⟨i0, hi0, hz0, hz1, hz2⟩ := info_parts Tryd.info5
  obtain ⟨w1, hmk, hown, hg⟩ := run_make_own (P := Tryd.prog) w w.heap.size 30 5 i0 _ 1 Tryd.uB hi0 hz0 hz1 .i64 .i64 10 (by omega) (by unfold maxLen; omega) (Nat.le_refl _)
  rw [show ((10 : Nat) : Int) = 10 from rfl] at hmk
  have hl10 := sml_len10 n hn
  go_enter Tryd.func76, Tryd.ntmps76
  go_wp2
  clear hmk
  go_loopw [0, 3] (fun nv lv wr => ∃ (cur : Nat) (pre : List Nat), nv = .int .u64 cur ∧ lv = .slice (some ⟨w.heap.size, 0, none⟩) pre.length 10 ∧ pre ++ sml cur = sml n ∧ cur < 18446744073709551616 ∧ Own wr w.heap.size w.heap.size pre.length 10 pre ∧ Kept w wr none) (fun nv _ _ => (intOf nv).toNat)
  case atStart => exact ⟨n, [], rfl, rfl, rfl, hn, hown, hg⟩
  case round =>
    obtain ⟨cur, pre, rfl, rfl, he, hc, ho, hk⟩ := hrel
    have hpl : pre.length + (sml cur).length = (sml n).length := by rw [← he]; simp
    have hp := sml_pos cur
    by_cases hlt : 128 ≤ cur
    · have hor := byte_or cur
      have HE : Hid (pre ++ sml cur = sml n) := he
      have hroom : pre.length + 1 ≤ 10 := by omega
      clear he hpl
      go_wp2_with (at_builtin; refine wpList_append_own_spare _ (by rfl) _ _ 30 (by rfl) w.heap.size 5 i0 1 Tryd.uB hi0 hz1 w.heap.size pre.length 10 (pre.map byteV) (by rfl) (ho.alloc _) ⟨wr.heap.size, 0, none⟩ 1 1 [.int .u8 ((cur % 128 + 128 : Nat) : Int)] (by rfl) (by rfl) (World.news_of_block (cs := #[.int .u8 ((cur % 128 + 128 : Nat) : Int)]) (t := 5) (fr := (0, 0)) (heap_alloc_new wr _)) (by simp [Value.oneCell']) hroom ?_; intro w2 hown2 hg2)
      go_roundw
      case rel => exact ⟨cur / 128, pre ++ [cur % 128 + 128], by go_num, by simp, by rw [List.append_assoc, List.singleton_append, ← sml_hi hlt]; exact HE.out, by omega, own_snoc rfl hown2, (hk.tr (Kept.alloc _ _ _ _ _)).newRow hg2 (fun i h => by cases h; exact Nat.le_refl _)⟩
      case measure => simp [intOf]; omega
    · rw [sml_lo (by omega)] at he
      have hroom : pre.length + 1 ≤ 10 := by rw [sml_lo (by omega)] at hpl; simp at hpl; omega
      have HE : Hid (pre ++ [cur] = sml n) := he
      clear he hpl
      go_wp2_with (at_builtin; refine wpList_append_own_spare _ (by rfl) _ _ 30 (by rfl) w.heap.size 5 i0 1 Tryd.uB hi0 hz1 w.heap.size pre.length 10 (pre.map byteV) (by rfl) (ho.alloc _) ⟨wr.heap.size, 0, none⟩ 1 1 [.int .u8 (cur : Int)] (by rfl) (by rfl) (World.news_of_block (cs := #[.int .u8 (cur : Int)]) (t := 5) (fr := (0, 0)) (heap_alloc_new wr _)) (by simp [Value.oneCell']) hroom ?_; intro w2 hown2 hg2)
      go_ret
      have e : (sml n).length = pre.length + 1 := by rw [← HE.out]; simp
      refine ⟨by rw [e]; rfl, ?_, (hk.tr (Kept.alloc _ _ _ _ _)).newRow hg2 (fun i h => by cases h; exact Nat.le_refl _)⟩
      rw [← HE.out]
      exact own_snoc rfl hown2

end Go.Proofs.YtcjkghajeohfjaaDoor

