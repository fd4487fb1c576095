/-
  Texts joined: some of those that the proofs of this seat stand on.
-/
import Derived.Test.YtnmfigcemknjbaaWorld
import Derived.OwnWalk
import Derived.Deep.DeepAppendRoom
import Derived.Deep.AppendLies
/-
  THE CONTRACTS of raw.Put and raw.Get.
-/
namespace Go.Proofs.Ytnmfigcemknjbaa
open Go.RowKit Go.Lib Go.Deep
set_option linter.unusedVariables false
set_option linter.unusedSimpArgs false

theorem Try.info5 : (Try.prog.info? 5).map (fun i => (i.zero, i.size, i.bytes)) = some (some (.int .u8 0), 1, 1) := by kernel_rfl

theorem put_step {w : World} {g q k : Nat} {l : List Nat} (h : w.rowIs g 5 q (fun j => .int .u8 ((if j < k then l.getD j 0 else 0 : Nat) : Int))) :
    (w.setCell ⟨g, k, none⟩ (.int .u8 ((l.getD k 0 : Nat) : Int))).rowIs g 5 q (fun j => .int .u8 ((if j < k + 1 then l.getD j 0 else 0 : Nat) : Int)) := by
  refine World.rowIs.congr (World.rowIs.set h k _) (fun i hi => ?_)
  by_cases a : i = k
  · subst a; rw [if_pos rfl, if_pos (by omega)]
  · rw [if_neg a]
    by_cases c : i < k
    · rw [if_pos c, if_pos (by omega)]
    · rw [if_neg c, if_neg (by omega)]

theorem pow_byte (n i : Nat) : ((n : Int) / 2 ^ (8 * i)) = ((n / 256 ^ i : Nat) : Int) := by
  have : (256 : Nat) ^ i = 2 ^ (8 * i) := by rw [Nat.pow_mul]
  rw [this]
  simp
/-! ### Get -/

end Go.Proofs.Ytnmfigcemknjbaa

/-
  THE CONTRACT of raw.Small.
-/
namespace Go.Proofs.Ytnmfigcemknjbaa
open Go.RowKit Go.Lib Go.Deep
set_option linter.unusedVariables false
set_option linter.unusedSimpArgs false

/-- A slice of the call's own: its bytes are L. -/
abbrev Own (w : World) (base g n cap : Nat) (L : List Nat) : Prop := w.ownsRow base 5 1 (.slice (some ⟨g, 0, none⟩) n cap) n (L.map byteV)
theorem Own.by {w : World} {base g n cap : Nat} {L : List Nat} (h : Own w base g n cap L) (hn : n ≤ 9223372036854775807) (hb : ∀ x ∈ L, x < 256) : By w (some ⟨g, 0, none⟩) n L := by
  have hl : L.length = n := by have := h.1; simpa using this
  refine ⟨hl, hn, hb, fun hp => ⟨g, 0, rfl, (h.lt g rfl).2, fun i hi => ?_⟩⟩
  have := h.cellAt i (by omega)
  rw [Nat.zero_add]
  rw [this]
  have hi' : i < L.length := by omega
  simp [hi']
theorem own_snoc {w : World} {base g n cap : Nat} {L : List Nat} {x : Nat} (hn : n = L.length) (h : w.ownsRow base 5 1 (.slice (some ⟨g, 0, none⟩) (n + 1) cap) (n + 1) (L.map byteV ++ [.int .u8 (x : Int)])) : Own w base g (L ++ [x]).length cap (L ++ [x]) := by
  subst hn
  unfold Own
  rw [List.length_append, List.map_append]
  exact h
theorem or128 : ∀ x, x < 256 → x ||| 128 = x % 128 + 128 := by decide +kernel
theorem byte_or (n : Nat) : bits .or .u8 ((n : Int) % 256) 128 = ((n % 128 + 128 : Nat) : Int) := by
  have h := u8_or_nat (n % 256) 128 (by omega) (by omega)
  rw [or128 _ (by omega)] at h
  have e : ((n : Int) % 256) = ((n % 256 : Nat) : Int) := by omega
  rw [e]
  refine Eq.trans h ?_
  omega

set_option maxRecDepth 100000 in
set_option maxHeartbeats 1000000 in
theorem small_any (n : Nat) (w : World) (hn : n < 18446744073709551616) :
    Calls Try.prog 54 #[.int .u64 n] w fun e w' => e = .returned (.slice (some ⟨w.heap.size, 0, none⟩) (sml n).length 10) ∧ Own w' w.heap.size w.heap.size (sml n).length 10 (sml n) ∧ Kept w w' none := by
  obtain ⟨i0, hi0, hz0, hz1, hz2⟩ := info_parts Try.info5
  obtain ⟨w1, hmk, hown, hg⟩ := run_make_own (P := Try.prog) w w.heap.size 34 5 i0 _ 1 Try.uB hi0 hz0 hz1 .i64 .i64 10 (by omega) (by unfold maxLen; omega) (Nat.le_refl _)
  rw [show ((10 : Nat) : Int) = 10 from rfl] at hmk
  have hl10 := sml_len10 n hn
  go_enter Try.func54, Try.ntmps54
  go_wp2
  clear hmk
  go_loopw [0, 3] (fun nv lv wr => ∃ (cur : Nat) (pre : List Nat), nv = .int .u64 cur ∧ lv = .slice (some ⟨w.heap.size, 0, none⟩) pre.length 10 ∧ pre ++ sml cur = sml n ∧ cur < 18446744073709551616 ∧ Own wr w.heap.size w.heap.size pre.length 10 pre ∧ Kept w wr none) (fun nv _ _ => (intOf nv).toNat)
  case atStart => exact ⟨n, [], rfl, rfl, rfl, hn, hown, hg⟩
  case round =>
    obtain ⟨cur, pre, rfl, rfl, he, hc, ho, hk⟩ := hrel
    have hpl : pre.length + (sml cur).length = (sml n).length := by rw [← he]; simp
    have hp := sml_pos cur
    by_cases hlt : 128 ≤ cur
    · have hor := byte_or cur
      have HE : Hid (pre ++ sml cur = sml n) := he
      have hroom : pre.length + 1 ≤ 10 := by omega
      clear he hpl
      go_wp2_with (at_builtin; refine wpList_append_own_spare _ (by rfl) _ _ 34 (by rfl) w.heap.size 5 i0 1 Try.uB hi0 hz1 w.heap.size pre.length 10 (pre.map byteV) (by rfl) (ho.alloc _) ⟨wr.heap.size, 0, none⟩ 1 1 [.int .u8 ((cur % 128 + 128 : Nat) : Int)] (by rfl) (by rfl) (World.news_of_block (cs := #[.int .u8 ((cur % 128 + 128 : Nat) : Int)]) (t := 5) (fr := (0, 0)) (heap_alloc_new wr _)) (by simp [Value.oneCell']) hroom ?_; intro w2 hown2 hg2)
      go_roundw
      case rel => exact ⟨cur / 128, pre ++ [cur % 128 + 128], by go_num, by simp, by rw [List.append_assoc, List.singleton_append, ← sml_hi hlt]; exact HE.out, by omega, own_snoc rfl hown2, (hk.tr (Kept.alloc _ _ _ _ _)).newRow hg2 (fun i h => by cases h; exact Nat.le_refl _)⟩
      case measure => simp [intOf]; omega
    · rw [sml_lo (by omega)] at he
      have hroom : pre.length + 1 ≤ 10 := by rw [sml_lo (by omega)] at hpl; simp at hpl; omega
      have HE : Hid (pre ++ [cur] = sml n) := he
      clear he hpl
      go_wp2_with (at_builtin; refine wpList_append_own_spare _ (by rfl) _ _ 34 (by rfl) w.heap.size 5 i0 1 Try.uB hi0 hz1 w.heap.size pre.length 10 (pre.map byteV) (by rfl) (ho.alloc _) ⟨wr.heap.size, 0, none⟩ 1 1 [.int .u8 (cur : Int)] (by rfl) (by rfl) (World.news_of_block (cs := #[.int .u8 (cur : Int)]) (t := 5) (fr := (0, 0)) (heap_alloc_new wr _)) (by simp [Value.oneCell']) hroom ?_; intro w2 hown2 hg2)
      go_ret
      have e : (sml n).length = pre.length + 1 := by rw [← HE.out]; simp
      refine ⟨by rw [e]; rfl, ?_, (hk.tr (Kept.alloc _ _ _ _ _)).newRow hg2 (fun i h => by cases h; exact Nat.le_refl _)⟩
      rw [← HE.out]
      exact own_snoc rfl hown2

end Go.Proofs.Ytnmfigcemknjbaa

