/-
  THE WALK of RingSum.
-/
import Derived.Test.YtdoaikmlkkldeaaAlive
import Derived.Test.YtdoaikmlkkldeaaRingC
import Derived.Test.YtdoaikmlkkldeaaSlices
namespace Go.Proofs.Ytdoaikmlkkldeaa
open Go.RowKit Go.Lib Go.Deep
set_option linter.unusedVariables false
set_option linter.unusedSimpArgs false

theorem sum_long (a : Option Addr) (len cap : Nat) (w : World) (h : len = 0 ∨ 400 < len) (h2 : len ≤ 9223372036854775807) :
    Calls Try.prog 5 #[.slice a len cap] w fun e w' => e = .returned (.bool true) ∧ Below w.heap.size w w' := by
  rcases h with h | h
  all_goals
    go_enter Try.func5, Try.ntmps5
    go_wp2_with (go_at_call 18; refine (alive_any _).mono ?_; rintro e w1 ⟨rfl, ho, hs⟩)
    go_ret
    exact ⟨rfl, ho.below⟩

/-- A small number. -/
def smallB (x : Int) : Bool := decide (-1125899906842624 < x) && decide (x < 1125899906842624)
/-- All of the first k are small. -/
def smalls (L : List Int) (k : Nat) : Bool := (L.take k).all smallB
theorem smalls_zero (L : List Int) : smalls L 0 = true := by simp [smalls]
theorem smalls_succ (L : List Int) (k : Nat) (h : k < L.length) : smalls L (k + 1) = (smalls L k && smallB (L.getD k 0)) := by
  unfold smalls; rw [take_snoc L k h]; simp

theorem rev_getD (L : List Int) (k len : Nat) (hl : L.length = len) (h : k < len) : L.reverse.getD k 0 = L.getD (len - 1 - k) 0 := by
  subst hl
  simp [List.getElem?_reverse h]
theorem lsum_rev (L : List Int) : lsum L.reverse = lsum L := by
  unfold lsum
  rw [List.length_reverse, ← sm_rev (fun j => L.getD j 0) L.length]
  exact sm_congr _ (fun j hj => rev_getD L j _ rfl hj)
theorem lastN_all (L : List Int) (len : Nat) (h : L.length = len) : lastN len L = L := by simp [lastN, h]
theorem stopS_id (s : Int) (h1 : -4611686018427387904 ≤ s) (h2 : s < 4611686018427387904) : stopS s = s := by
  unfold stopS; rw [if_neg (by omega), if_neg (by omega)]

theorem sumA {b len : Nat} {L : List Int} {w : World} (s : Int) (hs : s = stopS (lsum L)) (h : IsRing w b len L) (hl : L.length = len) (hL : ∀ j, -9223372036854775808 ≤ L.getD j 0 ∧ L.getD j 0 ≤ 9223372036854775807) :
    Calls Try.prog 11 #[.pointer (some ⟨b, 0, none⟩)] w fun e w' => e = .returned (.tuple #[.int .i64 s, .int .i64 0]) ∧ ∃ m, w' = w.drewN m := by
  have := sum_ring h hL
  rw [lastN_all L len hl, ← hs] at this
  exact this
theorem sumB {b len : Nat} {L : List Int} {w : World} (s : Int) (hs : s = stopS (lsum L)) (h : IsRing w b len L.reverse) (hl : L.length = len) (hL : ∀ j, -9223372036854775808 ≤ L.getD j 0 ∧ L.getD j 0 ≤ 9223372036854775807) :
    Calls Try.prog 11 #[.pointer (some ⟨b, 0, none⟩)] w fun e w' => e = .returned (.tuple #[.int .i64 s, .int .i64 0]) ∧ ∃ m, w' = w.drewN m := by
  refine sumA s (by rw [lsum_rev]; exact hs) h (by simpa using hl) (fun j => ?_)
  by_cases hj : j < len
  · rw [rev_getD L j len hl hj]; exact hL _
  · have : L.reverse.getD j 0 = 0 := by simp [List.getElem?_eq_none (show L.reverse.length ≤ j by simp; omega)]
    rw [this]; omega

/-- What the loop's two variables are behind k rounds. -/
structure Sofar (L : List Int) (k : Nat) (t : Int) (c : Bool) : Prop where
  small : c = smalls L k
  sum : c = true → t = sm (fun j => L.getD j 0) k
theorem Sofar.yes {L : List Int} {k : Nat} {t x : Int} (h : Sofar L k t true) (hk : k < L.length) (hx : x = L.getD k 0) (h1 : -1125899906842624 < x) (h2 : x < 1125899906842624) : Sofar L (k + 1) (t + x) true :=
  ⟨by rw [smalls_succ L k hk, ← h.small, ← hx]; simp [smallB, h1, h2], fun _ => by rw [sm_succ, ← h.sum rfl, ← hx]⟩
theorem Sofar.no {L : List Int} {k : Nat} {t x : Int} (h : Sofar L k t true) (hk : k < L.length) (hx : x = L.getD k 0) (h1 : x ≤ -1125899906842624 ∨ 1125899906842624 ≤ x) : Sofar L (k + 1) t false :=
  ⟨by rw [smalls_succ L k hk, ← h.small, ← hx]; simp [smallB]; omega, fun h => by cases h⟩
theorem Sofar.nor {L : List Int} {k : Nat} {t : Int} (h : Sofar L k t false) (hk : k < L.length) : Sofar L (k + 1) t false :=
  ⟨by rw [smalls_succ L k hk, ← h.small]; simp, fun h => by cases h⟩

set_option maxHeartbeats 2000000 in
theorem sum_main (a : Option Addr) (len cap : Nat) (L : List Int) (w : World) (h1 : 1 ≤ len) (h : len ≤ 400) (hg : Given w a len L) :
    Calls Try.prog 5 #[.slice a len cap] w fun e w' => e = .returned (.bool true) ∧ Below w.heap.size w w' := by
  obtain ⟨hlen, _, hbd, hrow⟩ := hg
  obtain ⟨b, off, rfl, hb, hc⟩ := hrow h1
  have HLen : Hid (L.length = len) := hlen
  have HBd : Hid (∀ j, -9223372036854775808 ≤ L.getD j 0 ∧ L.getD j 0 ≤ 9223372036854775807) := hbd
  have HC : Hid (∀ i, i < len → w.cell? ⟨b, off + i, none⟩ = some (.int .i64 (L.getD i 0))) := hc
  clear hlen hrow hc hbd
  go_enter Try.func5, Try.ntmps5
  go_wp2_with (first
    | (go_at_call 18; refine (alive_any _).mono ?_; rintro e w1 ⟨rfl, ho, hs⟩)
    | (go_at_call 6; refine (new_yes len _ rfl w1 h1 (by omega)).mono ?_; rintro e w2 ⟨rfl, hr, hs2, hk⟩; rw [hs] at hr hs2)
    | (go_at_call 6; refine (new_yes len _ rfl w2 h1 (by omega)).mono ?_; rintro e w3 ⟨rfl, hr3, hs3, hk3⟩; rw [hs2] at hr3 hs3))
  have hr' := hr.kept hk3 (by simp)
  have ho2 := (ho.kept hk (by omega) (fun _ h => by cases h)).kept hk3 (by omega) (fun _ h => by cases h)
  clear ho hk hs hr hk3 hs2
  generalize hg1 : w.heap.size + 2 = r1 at *
  have hr1 : w.heap.size + 2 ≤ r1 := by omega
  clear hg1
  go_loopw [8, 9, 10] (fun u v i wr => ∃ (k : Nat) (t : Int) (c : Bool), k ≤ len ∧ i = .int .i64 k ∧ u = .int .i64 t ∧ v = .bool c ∧ Sofar L k t c ∧ (c = true → -1125899906842624 * (k : Int) ≤ t ∧ t ≤ 1125899906842624 * (k : Int)) ∧
      IsRing wr r1 len (L.take k) ∧ IsRing wr (r1 + 1) len (L.reverse.take k) ∧ Old w.heap.size w wr ∧ wr.heap.size = r1 + 1 + 1) (fun _ _ i _ => len - (intOf i).toNat)
  case atStart => exact ⟨0, 0, true, Nat.zero_le _, rfl, rfl, rfl, ⟨(smalls_zero L).symm, fun _ => rfl⟩, fun _ => by omega, hr', hr3, ho2, hs3⟩
  case round =>
    clear hr' hr3 hs3 ho2
    obtain ⟨k, t, c, hk, rfl, rfl, rfl, hsf, htb, hra, hrb, ho, hs⟩ := hrel
    by_cases hlt : k < len
    · have hc1 : wr.cell? ⟨b, off + k, none⟩ = some (.int .i64 (L.getD k 0)) := (ho.below.cell (by exact hb)).trans (HC.out k hlt)
      have hc2 : wr.cell? ⟨b, off + (len - 1 - k), none⟩ = some (.int .i64 (L.reverse.getD k 0)) := by
        rw [rev_getD L k len HLen.out hlt]
        exact (ho.below.cell (by exact hb)).trans (HC.out (len - 1 - k) (by omega))
      have HT : Hid (L.take (k + 1) = L.take k ++ [L.getD k 0]) := take_snoc L k (by rw [HLen.out]; exact hlt)
      have HT2 : Hid (L.reverse.take (k + 1) = L.reverse.take k ++ [L.reverse.getD k 0]) := take_snoc L.reverse k (by rw [List.length_reverse, HLen.out]; exact hlt)
      obtain ⟨x, hx⟩ : ∃ x, x = L.getD k 0 := ⟨_, rfl⟩
      obtain ⟨y, hy⟩ : ∃ y, y = L.reverse.getD k 0 := ⟨_, rfl⟩
      rw [← hx] at hc1 HT
      rw [← hy] at hc2 HT2
      have HX : Hid (x = L.getD k 0) := hx
      clear hx hy
      have HK : Hid (k < L.length) := by rw [HLen.out]; exact hlt
      rcases c with _ | _
      · clear htb
        go_wp2_with (first
          | (go_at_call 16; refine (push_ring hrb5 _).mono ?_; rintro e w6 ⟨rfl, hrb6, hs6, hk6⟩; have hra6 := hra5.kept hk6 (by simp); have hc6 : w6.cell? ⟨b, off + k, none⟩ = some (.int .i64 x) := by rw [← hc1]; exact (World.cell?_of_block (w := w5) (hk6.block b (by omega) (by simp; omega))).trans (World.cell?_of_block (w := wr) (hk5.block b (by omega) (by simp; omega))))
          | (go_at_call 16; refine (push_ring hra _).mono ?_; rintro e w5 ⟨rfl, hra5, hs5, hk5⟩; have hrb5 := hrb.kept hk5 (by simp); have hc5 : w5.cell? ⟨b, off + (len - 1 - k), none⟩ = some (.int .i64 y) := by rw [← hc2]; exact World.cell?_of_block (w := wr) (hk5.block b (by omega) (by simp; omega))))
        go_roundw
        case rel => exact ⟨k + 1, t, false, by omega, by go_num, by first | rfl | go_num, by first | rfl | (simp; done) | (simp; omega), hsf.nor HK.out, fun h => absurd h (by decide), by rw [HT.out]; exact hra6, by rw [HT2.out]; exact hrb6, (ho.kept hk5 (by omega) (fun i h => by cases h; omega)).kept hk6 (by omega) (fun i h => by cases h; omega), by omega⟩
        case measure => simp [intOf]; omega
      · have htb' := htb rfl
        clear htb
        rcases (show (-1125899906842624 < x ∧ x < 1125899906842624) ∨ x ≤ -1125899906842624 ∨ 1125899906842624 ≤ x by omega) with ⟨hx1, hx2⟩ | hx1 | hx1
        all_goals
          go_wp2_with (first
            | (go_at_call 16; refine (push_ring hrb5 _).mono ?_; rintro e w6 ⟨rfl, hrb6, hs6, hk6⟩; have hra6 := hra5.kept hk6 (by simp); have hc6 : w6.cell? ⟨b, off + k, none⟩ = some (.int .i64 x) := by rw [← hc1]; exact (World.cell?_of_block (w := w5) (hk6.block b (by omega) (by simp; omega))).trans (World.cell?_of_block (w := wr) (hk5.block b (by omega) (by simp; omega))))
            | (go_at_call 16; refine (push_ring hra _).mono ?_; rintro e w5 ⟨rfl, hra5, hs5, hk5⟩; have hrb5 := hrb.kept hk5 (by simp); have hc5 : w5.cell? ⟨b, off + (len - 1 - k), none⟩ = some (.int .i64 y) := by rw [← hc2]; exact World.cell?_of_block (w := wr) (hk5.block b (by omega) (by simp; omega))))
          go_roundw
        case rel => exact ⟨k + 1, t + x, true, by omega, by go_num, by first | rfl | go_num, by first | rfl | (simp; done) | (simp; omega), hsf.yes HK.out HX.out hx1 hx2, fun _ => by omega, by rw [HT.out]; exact hra6, by rw [HT2.out]; exact hrb6, (ho.kept hk5 (by omega) (fun i h => by cases h; omega)).kept hk6 (by omega) (fun i h => by cases h; omega), by omega⟩
        case measure => simp [intOf]; omega
        case rel => exact ⟨k + 1, t, false, by omega, by go_num, by first | rfl | go_num, by first | rfl | (simp; done) | (simp; omega), hsf.no HK.out HX.out (.inl hx1), fun h => absurd h (by decide), by rw [HT.out]; exact hra6, by rw [HT2.out]; exact hrb6, (ho.kept hk5 (by omega) (fun i h => by cases h; omega)).kept hk6 (by omega) (fun i h => by cases h; omega), by omega⟩
        case measure => simp [intOf]; omega
        case rel => exact ⟨k + 1, t, false, by omega, by go_num, by first | rfl | go_num, by first | rfl | (simp; done) | (simp; omega), hsf.no HK.out HX.out (.inr hx1), fun h => absurd h (by decide), by rw [HT.out]; exact hra6, by rw [HT2.out]; exact hrb6, (ho.kept hk5 (by omega) (fun i h => by cases h; omega)).kept hk6 (by omega) (fun i h => by cases h; omega), by omega⟩
        case measure => simp [intOf]; omega
    · have hkl : k = len := by omega
      subst hkl
      rw [List.take_of_length_le (by rw [HLen.out]; exact Nat.le_refl _)] at hra
      rw [List.take_of_length_le (by rw [List.length_reverse, HLen.out]; exact Nat.le_refl _)] at hrb
      obtain ⟨s, hs1⟩ : ∃ s, s = stopS (lsum L) := ⟨_, rfl⟩
      have hsb := stopS_bd (lsum L)
      rw [← hs1] at hsb
      have HS : Hid (s = stopS (lsum L)) := hs1
      clear hs1 hk hlt
      rcases c with _ | _
      · clear htb
        go_wp2_with (first
          | (go_at_call 11; refine (sumB s HS.out hrb5 HLen.out HBd.out).mono ?_; rintro e w6 ⟨rfl, m2, rfl⟩)
          | (go_at_call 11; refine (sumA s HS.out hra HLen.out HBd.out).mono ?_; rintro e w5 ⟨rfl, m, rfl⟩; have hrb5 : IsRing (wr.drewN m) (r1 + 1) k L.reverse := hrb.kept (Kept.drewN _ _ none) (by simp)))
        go_ret
        exact ⟨rfl, below_drewN ho.below _⟩
      · have htb' := htb rfl
        have hts : t = s := by
          have e1 : t = lsum L := by rw [hsf.sum rfl]; unfold lsum; rw [HLen.out]
          rw [HS.out, ← e1, stopS_id t (by omega) (by omega)]
        subst hts
        clear htb
        go_wp2_with (first
          | (go_at_call 11; refine (sumB t HS.out hrb5 HLen.out HBd.out).mono ?_; rintro e w6 ⟨rfl, m2, rfl⟩)
          | (go_at_call 11; refine (sumA t HS.out hra HLen.out HBd.out).mono ?_; rintro e w5 ⟨rfl, m, rfl⟩; have hrb5 : IsRing (wr.drewN m) (r1 + 1) k L.reverse := hrb.kept (Kept.drewN _ _ none) (by simp)))
        go_ret
        exact ⟨rfl, below_drewN ho.below _⟩

end Go.Proofs.Ytdoaikmlkkldeaa
