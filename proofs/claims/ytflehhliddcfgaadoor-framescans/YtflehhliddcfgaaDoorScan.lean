/-
  THE CONTRACT of Scan; two lists of messages that are the same.
-/
import Derived.Test.YtflehhliddcfgaaDoorFeed2
namespace Go.Proofs.YtflehhliddcfgaaDoor
open Go.RowKit Go.Lib Go.Deep
set_option linter.unusedVariables false
set_option linter.unusedSimpArgs false

abbrev Pn (w : World) : Nat → Prop := fun q => w.heap.size ≤ q
set_option maxRecDepth 100000 in
set_option maxHeartbeats 1000000 in
theorem scan_yes {a : Option Addr} {len c : Nat} {L : List Nat} {w : World} (hB : By w a len L) (hl : len ≤ 16384) (ht : Table w) :
    Calls Tryd.prog 11 #[.slice a len c] w fun e w' => ∃ la n lc, e = .returned (.tuple #[.slice la n lc, .int .i64 (lastE L), .int .i64 0]) ∧ Ml w' (Pn w) la n lc (scanM L) ∧ Kept w w' none := by
  have HA : Hid (By w a len L) := hB
  have HT : Hid (Table w) := ht
  have HS : Hid (0 < len → ∀ x, a = some x → ¬ PS w.heap.size (.slice none 0 0) x.block) := by
    intro hp x hx e
    obtain ⟨b, off, e1, hb, _⟩ := hB.at_ hp
    rw [e1] at hx
    injection hx with hx
    subst hx
    rcases e with e | e
    · simp at e; omega
    · simp [Value.ownBlock] at e
  have H0 : Hid (¬ PS w.heap.size (.slice none 0 0) 0) := by
    intro e
    rcases e with e | e
    · have := ht.lt; omega
    · simp [Value.ownBlock] at e
  clear hB ht
  go_enter Tryd.func11, Tryd.ntmps11
  go_wp2_with (first
    | (have hgo := hF2; clear hgo; go_at_call 31; refine (last_any (HA.out.kept hK2)).mono ?_; rintro e w2 ⟨rfl, rfl⟩)
    | (have hgo := hk1; clear hgo; go_at_call 13; refine (feed_yes hr1 pok_new (HA.out.kept hk1) HS.out hl (HT.out.kept hk1) H0.out).mono ?_; rintro e w2 ⟨la, n, lc, v2, rfl, hF2⟩; have hK2 : Kept w w2 none := hk1.sep hF2.sp (fun i hi => by rcases hi with hi | hi; (first | omega | (simp [Value.ownBlock] at hi)); simp [Value.ownBlock] at hi))
    | (go_at_call 25; refine (new_any _).mono ?_; rintro e w1 ⟨rfl, hr1, hk1, -⟩))
  go_ret3
  refine ⟨la, n, lc, rfl, ?_, hK2⟩
  rw [← feed_scan]
  exact hF2.ml.mono (fun q _ hq => Nat.le_trans hk1.size hq.1)
set_option maxRecDepth 100000 in
set_option maxHeartbeats 1000000 in
theorem scan_no {a : Option Addr} {len c : Nat} {w : World} (hl : 16384 < len) (h2 : len ≤ 9223372036854775807) :
    Calls Tryd.prog 11 #[.slice a len c] w fun e w' => e = .returned (.tuple #[.slice none 0 0, .int .i64 0, .int .i64 3]) ∧ Kept w w' none := by
  go_enter Tryd.func11, Tryd.ntmps11
  go_wp2_with (first
    | (have hgo := hk1; clear hgo; go_at_call 13; refine (feed_text hr1 hl h2).mono ?_; rintro e w1 ⟨rfl, rfl⟩)
    | (go_at_call 25; refine (new_any _).mono ?_; rintro e w1 ⟨rfl, hr1, hk1, -⟩))
  go_ret3
  exact ⟨rfl, hk1⟩

/-! ### Messages that lie somewhere -/
structure Ms (w : World) (la : Option Addr) (n : Nat) (l : List Msg) : Prop where
  size : l.length = n
  max : n ≤ 9223372036854775807
  at_ : 0 < n → ∃ b off, la = some ⟨b, off, none⟩ ∧ b < w.heap.size ∧ ∀ i m, l[i]? = some m → ∃ a c, w.cell? ⟨b, off + i * 3, none⟩ = some (.int .u8 (m.1 : Int)) ∧ w.cell? ⟨b, off + i * 3 + 1, none⟩ = some (.int .u32 (m.2.1 : Int)) ∧ w.cell? ⟨b, off + i * 3 + 2, none⟩ = some (.slice a m.2.2.length c) ∧ Come w a m.2.2.length c m.2.2
theorem Ms.kept {w w' : World} {la : Option Addr} {n : Nat} {l : List Msg} (h : Ms w la n l) (k : Kept w w' none) : Ms w' la n l := by
  refine ⟨h.size, h.max, fun hp => ?_⟩
  obtain ⟨b, off, rfl, hb, hc⟩ := h.at_ hp
  refine ⟨b, off, rfl, Nat.lt_of_lt_of_le hb k.size, fun i m hm => ?_⟩
  obtain ⟨a, c, h1, h2, h3, h4⟩ := hc i m hm
  exact ⟨a, c, (cell_kept k hb).trans h1, (cell_kept k hb).trans h2, (cell_kept k hb).trans h3, h4.kept k⟩
theorem Ml.ms {w : World} {P : Nat → Prop} {la : Option Addr} {n lc : Nat} {l : List Msg} (h : Ml w P la n lc l) : Ms w la n l := by
  have hr := h.room
  refine ⟨h.size, by omega, fun hp => ?_⟩
  obtain ⟨xs, h1, h2⟩ := h.ex
  rcases id h1.2 with ⟨e, e2⟩ | ⟨g, cap, cur, e, hb, hg, k1, k2, k3, k4⟩
  · omega
  · injection e with e1 e2 e3
    subst e1 e3
    refine ⟨g, 0, rfl, (h1.lt g rfl).2, fun i m hm => ?_⟩
    obtain ⟨a, c, q1, q2, q3, q4⟩ := h2.at_ i m hm
    have hcell : ∀ j u, xs[j]? = some u → w.cell? ⟨g, 0 + j, none⟩ = some u := fun j u hu => by
      have := h1.cells (g := g) rfl j u hu
      rw [Addr.add_lit] at this
      exact this
    rw [Nat.mul_comm 3 i] at q1 q2 q3
    exact ⟨a, c, hcell _ _ q1, hcell _ _ q2, hcell _ _ q3, q4.come⟩
theorem ms_one (w : World) (m : Msg) (a : Option Addr) (c : Nat) (hC : Come w a m.2.2.length c m.2.2) : Ms (w.alloc (.cells #[.int .u8 (m.1 : Int), .int .u32 (m.2.1 : Int), .slice a m.2.2.length c] 30)) (some ⟨w.heap.size, 0, none⟩) 1 [m] := by
  refine ⟨rfl, by omega, fun _ => ⟨w.heap.size, 0, rfl, by simp, fun i m' hm => ?_⟩⟩
  have hi : i = 0 := by
    cases i with
    | zero => rfl
    | succ i => simp at hm
  subst hi
  have : m = m' := by simpa using hm
  subst this
  exact ⟨a, c, World.cell?_alloc_mark .., World.cell?_alloc_mark .., World.cell?_alloc_mark .., hC.kept (Kept.alloc _ _ _ _ _)⟩
theorem run_textD {w : World} {a : Option Addr} {len : Nat} {L : List Nat} (h : By w a len L) (cap : Nat) : ∀ q, (convert 22 9 (.slice a len cap)).run Tryd.prog (w.drewN q) = .ok (.string (textOf L)) (w.drewN q) := fun q => run_text (h.drewN q) cap
set_option maxRecDepth 100000 in
set_option maxHeartbeats 1000000 in
theorem same_yes {w : World} {la lb : Option Addr} {n c d : Nat} {l : List Msg} (h : Ms w la n l) (k : Ms w lb n l) :
    Calls Tryd.prog 28 #[.slice la n c, .slice lb n d] w fun e w' => e = .returned (.bool true) ∧ ∃ q, w' = w.drewN q := by
  have HA : Hid (Ms w la n l) := h
  have HB : Hid (Ms w lb n l) := k
  have hmx := h.max
  clear h k
  go_enter Tryd.func28, Tryd.ntmps28
  go_wp2
  go_loopw [5] (fun i wr => ∃ k : Nat, k ≤ n ∧ i = .int .i64 k ∧ ∃ q, wr = w.drewN q) (fun i _ => n - (intOf i).toNat)
  case atStart => exact ⟨0, Nat.zero_le _, rfl, 0, rfl⟩
  case round =>
    obtain ⟨k, hk, rfl, q, rfl⟩ := hrel
    by_cases hlt : k < n
    · obtain ⟨b, off, rfl, hb, hc⟩ := HA.out.at_ (by omega)
      obtain ⟨b', off', rfl, hb', hc'⟩ := HB.out.at_ (by omega)
      obtain ⟨m, hm⟩ : ∃ m, l[k]? = some m := ⟨_, List.getElem?_eq_getElem (by rw [HA.out.size]; exact hlt)⟩
      obtain ⟨a1, c1, p1, p2, p3, p4⟩ := hc k m hm
      obtain ⟨a2, c2, r1, r2, r3, r4⟩ := hc' k m hm
      have t1 := run_textD p4.by_ c1
      have t2 := run_textD r4.by_ c2
      have g1 : (0 : Int) ≤ (k : Int) := by omega
      have g2 : (k : Int) < (n : Int) := by omega
      clear hc hc' hm
      obtain ⟨mk, mq, mb⟩ := m
      have d1 : ((mk : Int) != (mk : Int)) = false := by simp
      have d2 : ((mq : Int) != (mq : Int)) = false := by simp
      go_wp2
      go_quiet (fail)
      go_wp2
      go_roundw
      case rel => exact ⟨k + 1, by omega, by go_num, _, rfl⟩
      case measure => simp [intOf]; omega
    · go_wp2
      go_ret
      exact ⟨rfl, q, rfl⟩

end Go.Proofs.YtflehhliddcfgaaDoor
