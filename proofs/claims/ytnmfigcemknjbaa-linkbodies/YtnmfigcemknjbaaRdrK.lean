/-
  A READER OF TWO CELLS in a block: link's reader (made of the text Rdr by a program).
-/
import Derived.Test.YtnmfigcemknjbaaSRdr
import Derived.Test.YtnmfigcemknjbaaSLists2
namespace Go.Proofs.Ytnmfigcemknjbaa
open Go.RowKit Go.Lib Go.Deep
set_option linter.unusedVariables false
set_option linter.unusedSimpArgs false

theorem textOf_inj {L M : List Nat} (hL : ∀ x ∈ L, x < 256) (hM : ∀ x ∈ M, x < 256) (h : textOf L = textOf M) : L = M := by
  unfold textOf at h
  have h1 : L.map UInt8.ofNat = M.map UInt8.ofNat := by injection h with h; simpa using h
  have h2 : ∀ N : List Nat, (∀ x ∈ N, x < 256) → (N.map UInt8.ofNat).map UInt8.toNat = N := by
    intro N hN
    rw [List.map_map]
    conv => rhs; rw [← List.map_id N]
    apply List.map_congr_left
    intro x hx
    have := hN x hx
    simp; omega
  rw [← h2 L hL, ← h2 M hM, h1]
theorem textOf_eq {L M : List Nat} (hL : ∀ x ∈ L, x < 256) (hM : ∀ x ∈ M, x < 256) : ((textOf L).toList == (textOf M).toList) = decide (L = M) := by
  rw [ByteArray.toList_eq, ByteArray.toList_eq]
  by_cases e : L = M
  · subst e; simp
  · have : ¬ (textOf L).data.toList = (textOf M).data.toList := fun e2 => e (textOf_inj hL hM (by
      have : (textOf L).data = (textOf M).data := Array.toList_inj.1 e2
      show ByteArray.mk (textOf L).data = ByteArray.mk (textOf M).data
      rw [this]))
    rw [decide_eq_false e]
    exact beq_eq_false_iff_ne.2 this
theorem readerOf_any {w : World} {a : Option Addr} {n c : Nat} : Calls Try.prog 36 #[.slice a n c] w fun e w' => e = .returned (.agg #[.slice a n c, .bool false]) ∧ Kept w w' none := by
  go_enter Try.func36, Try.ntmps36
  go_wp2
  refine bodyPost_ret (v := .agg #[.slice a n c, .bool false]) (by simp [results, Try.results36, go_sem]) rfl ⟨rfl, ?_⟩
  exact Kept.alloc _ _ _ (0, 0) _
/-- A reader in block b, below block H; the bytes that it reads lie below H too, and not in b. -/
structure Rdk (w : World) (H b : Nat) (s : Rd) : Prop where
  ex : ∃ a n c, w.cell? ⟨b, 0, none⟩ = some (.slice a n c) ∧ Come w a n c s.1 ∧ (0 < n → ∀ x, a = some x → x.block < H ∧ x.block ≠ b)
  c1 : w.cell? ⟨b, 1, none⟩ = some (.bool s.2)
  f0 : w.frozen? ⟨b, 0, none⟩ = false
  f1 : w.frozen? ⟨b, 1, none⟩ = false
  lt : b < H
/-- What changes neither b nor anything below H. -/
theorem Rdk.kept {w w' : World} {H b : Nat} {s : Rd} {r : Option Nat} (h : Rdk w H b s) (q : Kept w w' r) (hr : ∀ i, r = some i → H ≤ i) : Rdk w' H b s := by
  have hb : some b ≠ r := fun e => by have := hr b e.symm; have := h.lt; omega
  obtain ⟨a, n, c, h1, h2, h3⟩ := h.ex
  have hbl := block_lt h1
  refine ⟨⟨a, n, c, cell_keptR h1 q hb, h2.keptR q (fun hp x hx e => by have := hr _ e.symm; have := (h3 hp x hx).1; omega), h3⟩, cell_keptR h.c1 q hb, (frozen_block (q.block b hbl hb)).trans h.f0, (frozen_block (q.block b hbl hb)).trans h.f1, h.lt⟩
theorem Rdk.bad {w : World} {H b : Nat} {s : Rd} (h : Rdk w H b s) : Rdk (w.setCell ⟨b, 1, none⟩ (.bool true)) H b (s.1, true) := by
  obtain ⟨a, n, c, h1, h2, h3⟩ := h.ex
  refine ⟨⟨a, n, c, (World.cell?_setCell_other _ _ _ _ (by simp)).trans h1, h2.keptR (kept_set _ _ _ _) (fun hp x hx e => (h3 hp x hx).2 (by injection e)), h3⟩, World.cell?_setCell_same' _ _ _ (by rw [h.c1]; rfl), (frozen_set _ _ _ _).trans h.f0, (frozen_set _ _ _ _).trans h.f1, h.lt⟩
theorem Rdk.set {w : World} {H b : Nat} {L L' : List Nat} {bd : Bool} {a : Option Addr} {n c : Nat} (h : Rdk w H b (L, bd)) (hC : Come w a n c L') (hx : 0 < n → ∀ x, a = some x → x.block < H ∧ x.block ≠ b) : Rdk (w.setCell ⟨b, 0, none⟩ (.slice a n c)) H b (L', bd) := by
  obtain ⟨a0, n0, c0, h1, _, _⟩ := h.ex
  refine ⟨⟨a, n, c, World.cell?_setCell_same' _ _ _ (by rw [h1]; rfl), hC.keptR (kept_set _ _ _ _) (fun hp x hxx e => (hx hp x hxx).2 (by injection e)), hx⟩, (World.cell?_setCell_other _ _ _ _ (by simp)).trans h.c1, (frozen_set _ _ _ _).trans h.f0, (frozen_set _ _ _ _).trans h.f1, h.lt⟩
set_option maxRecDepth 100000 in
set_option maxHeartbeats 1000000 in
theorem upToK_any {w : World} {H b : Nat} {s : Rd} (h : Rdk w H b s) (most : Nat) (hm : most < 18446744073709551616) : Calls Try.prog 55 #[.pointer (some ⟨b, 0, none⟩), .int .u64 most] w fun e w' => e = .returned (.int .u64 ((upM most s).1 : Int)) ∧ Rdk w' H b (upM most s).2 ∧ Kept w w' (some b) := by
  have HR := Hid.mk' h
  obtain ⟨a, n, c, h1, h2, h3⟩ := h.ex
  have c1 := h.c1
  have f0 := h.f0
  have f1 := h.f1
  have HC := Hid.mk' h2
  have HX := Hid.mk' h3
  have hnN := rdN_lt s.1
  have hroom := h2.room
  have hcap := h2.max
  obtain ⟨L, bd⟩ := s
  dsimp only at *
  clear h h2 h3
  cases bd with
  | true =>
    have hE : upM most (L, true) = (0, (L, true)) := upM_no rfl
    rw [hE]
    go_enter Try.func55, Try.ntmps55
    go_wp2_with (go_at_call 62; refine (read_any HC.out.by_ HC.out.nil hroom hcap).mono ?_; rintro e w2 ⟨rfl, m, rfl⟩)
    go_ret
    exact ⟨rfl, (HR.out.kept (Kept.drewN _ _ none) (fun i e => by cases e)).bad, (Kept.drewN _ _ _).tr (kept_set _ _ _ _)⟩
  | false =>
    cases hok : okR L with
    | false =>
      have hE : upM most (L, false) = (0, (L, true)) := upM_no (by rw [hok]; rfl)
      rw [hE]
      obtain ⟨d1, d2, d3⟩ := rd_none (L := L) (by rw [hok]; decide)
      go_enter Try.func55, Try.ntmps55
      go_wp2_with (go_at_call 62; refine (read_any HC.out.by_ HC.out.nil hroom hcap).mono ?_; rintro e w2 ⟨rfl, m, rfl⟩; rw [d1, d2, d3])
      go_ret
      exact ⟨rfl, (HR.out.kept (Kept.drewN _ _ none) (fun i e => by cases e)).bad, (Kept.drewN _ _ _).tr (kept_set _ _ _ _)⟩
    | true =>
      obtain ⟨d1, d2, d3⟩ := rd_some (L := L) hok
      have hro := read_only L HC.out.by_.lt hok
      have hsz := HC.out.by_.size
      have hkn : rdK L ≤ n := by have := hro.2.2.1; omega
      have hk1 := hro.2.1
      have d3' : ((rdE L : Nat) : Int) = 0 := by rw [d3]; rfl
      have HSZ := Hid.mk' hsz
      clear d1 d2 d3 hro hsz
      by_cases hle : rdN L ≤ most
      · have hE : upM most (L, false) = (rdN L, (L.drop (rdK L), false)) := upM_yes (by rw [hok]; simp [hle])
        rw [hE]
        clear hE
        obtain ⟨bb, off, rfl, hbb, _⟩ := HC.out.by_.at_ (by omega)
        generalize hK : rdK L = K at *
        have HK := Hid.mk' hK
        clear hK
        generalize hNN : rdN L = N at *
        have HN := Hid.mk' hNN
        clear hNN
        have hdrop : ∀ m, Rdk (w.drewN m) H b (L, false) := fun m => HR.out.kept (Kept.drewN _ _ none) (fun i e => by cases e)
        have HD := Hid.mk' hdrop
        have hCm : ∀ m, Come (w.drewN m) (some ⟨bb, off + K, none⟩) (n - K) (c - K) (L.drop K) := fun m => ⟨(HC.out.by_.drop K hkn).drewN m, fun e => (nomatch e), by omega, by omega⟩
        have HCm := Hid.mk' hCm
        have hXm : 0 < n - K → ∀ x, some (⟨bb, off + K, none⟩ : Addr) = some x → x.block < H ∧ x.block ≠ b := fun hp x hx => by
          injection hx with hx
          subst hx
          exact HX.out (by omega) ⟨bb, off, none⟩ rfl
        have HXm := Hid.mk' hXm
        clear hdrop hCm hXm
        by_cases hcK : K = c
        · have hnK : n = K := by omega
          have hL0 : L.drop K = [] := by rw [List.drop_eq_nil_iff]; have := HSZ.out; omega
          subst hnK
          subst hcK
          rw [hL0]
          clear hL0 HCm HXm
          go_enter Try.func55, Try.ntmps55
          go_wp2_with (go_at_call 62; refine (read_any HC.out.by_ HC.out.nil hroom hcap).mono ?_; rintro e w2 ⟨rfl, m, rfl⟩; rw [HK.out, HN.out, d3'])
          all_goals
            go_ret
            exact ⟨rfl, (HD.out _).set ⟨By.nil _ _, fun e => (by first | rfl | cases e), Nat.le_refl _, by omega⟩ (fun hp => absurd hp (by omega)), (Kept.drewN _ _ _).tr (kept_set _ _ _ _)⟩
        · have hcK2 : ¬ c = K := fun e => hcK e.symm
          have hcK3 : K < c := by omega
          go_enter Try.func55, Try.ntmps55
          go_wp2_with (go_at_call 62; refine (read_any HC.out.by_ HC.out.nil hroom hcap).mono ?_; rintro e w2 ⟨rfl, m, rfl⟩; rw [HK.out, HN.out, d3'])
          go_ret
          exact ⟨rfl, (HD.out _).set (HCm.out _) HXm.out, (Kept.drewN _ _ _).tr (kept_set _ _ _ _)⟩
      · have hE : upM most (L, false) = (0, (L, true)) := upM_no (by rw [hok]; simp [hle])
        rw [hE]
        have hgt : most < rdN L := by omega
        go_enter Try.func55, Try.ntmps55
        go_wp2_with (go_at_call 62; refine (read_any HC.out.by_ HC.out.nil hroom hcap).mono ?_; rintro e w2 ⟨rfl, m, rfl⟩; rw [d3'])
        go_ret
        exact ⟨rfl, (HR.out.kept (Kept.drewN _ _ none) (fun i e => by cases e)).bad, (Kept.drewN _ _ _).tr (kept_set _ _ _ _)⟩

theorem numberK_any {w : World} {H b : Nat} {s : Rd} (h : Rdk w H b s) : Calls Try.prog 38 #[.pointer (some ⟨b, 0, none⟩)] w fun e w' => e = .returned (.int .i64 (numM s).1) ∧ Rdk w' H b (numM s).2 ∧ Kept w w' (some b) := by
  have HR := Hid.mk' h
  have hle : (upM 1048576 s).1 ≤ 1048576 := by
    unfold upM
    split
    · rename_i hc
      simp only [Bool.and_eq_true, decide_eq_true_eq] at hc
      exact hc.2.2
    · omega
  have HE : Hid ((numM s).1 = ((upM 1048576 s).1 : Int) ∧ (numM s).2 = (upM 1048576 s).2) := ⟨rfl, rfl⟩
  have hU := upToK_any h 1048576 (by omega)
  have HU := Hid.mk' hU
  clear h hU
  generalize upM 1048576 s = u at *
  go_enter Try.func38, Try.ntmps38
  go_wp2_with (go_at_call 55; refine HU.out.mono ?_; rintro e w2 ⟨rfl, hr2, hk2⟩)
  go_ret
  exact ⟨by rw [HE.out.1]; rfl, by rw [HE.out.2]; exact hr2, hk2⟩
theorem manyK_any {w : World} {H b : Nat} {s : Rd} (h : Rdk w H b s) (most : Nat) (hm : most ≤ 1000) : Calls Try.prog 40 #[.pointer (some ⟨b, 0, none⟩), .int .i64 most] w fun e w' => e = .returned (.int .i64 ((upM most s).1 : Int)) ∧ Rdk w' H b (upM most s).2 ∧ Kept w w' (some b) := by
  have hle := upM_le most s
  have hU := upToK_any h most (by omega)
  have HU := Hid.mk' hU
  clear h hU
  generalize upM most s = u at *
  go_enter Try.func40, Try.ntmps40
  go_wp2_with (go_at_call 55; refine HU.out.mono ?_; rintro e w2 ⟨rfl, hr2, hk2⟩)
  go_ret
  exact ⟨rfl, hr2, hk2⟩
theorem doneK_any {w : World} {H b : Nat} {s : Rd} (h : Rdk w H b s) : Calls Try.prog 41 #[.pointer (some ⟨b, 0, none⟩)] w fun e w' => e = .returned (.bool (doneB s)) ∧ w' = w := by
  obtain ⟨a, n, c, h1, h2, h3⟩ := h.ex
  have c1 := h.c1
  have hsz := h2.by_.size
  obtain ⟨L, bd⟩ := s
  dsimp only at *
  have HE : Hid (doneB (L, bd) = (!bd && decide (n = 0))) := by
    show doneB (L, bd) = _
    unfold doneB
    have : (L = []) = (n = 0) := by rw [← hsz]; simp
    simp [this]
  clear h h2 h3 hsz
  cases bd with
  | true =>
    go_enter Try.func41, Try.ntmps41
    go_wp2
    go_ret
    exact ⟨by rw [HE.out]; rfl, rfl⟩
  | false =>
    go_enter Try.func41, Try.ntmps41
    go_wp2
    go_ret
    refine ⟨by rw [HE.out]; simp; rw [Bool.eq_iff_iff]; simp; try omega, rfl⟩

theorem Rdk.setNew {w : World} {H b : Nat} {s : Rd} (h : Rdk w H b s) {g : Nat} (hg : H ≤ g) (j : Nat) (v : Value) : Rdk (w.setCell ⟨g, j, none⟩ v) H b s := h.kept (kept_set _ _ _ _) (fun i e => by cases e; exact hg)
set_option maxRecDepth 100000 in
set_option maxHeartbeats 1000000 in
theorem list_intK {w : World} {H b : Nat} {s : Rd} (h : Rdk w H b s) (hH : H ≤ w.heap.size) (n : Nat) (hn : n ≤ 24) : Calls Try.prog 39 #[.int .i64 n, .func (.func 38) #[.pointer (some ⟨b, 0, none⟩)] #[]] w fun e w' => e = .returned (.slice (some ⟨w.heap.size, 0, none⟩) n n) ∧ Lie w' (some ⟨w.heap.size, 0, none⟩) n 1 (fun i j => .int .i64 ((listM numM n s).1.getD i 0)) ∧ Rdk w' H b (listM numM n s).2 ∧ Kept w w' (some b) := by
  obtain ⟨i0, hi0, hz0, hz1, hz2⟩ := info_parts (show (Try.prog.info? 3).map (fun i => (i.zero, i.size, i.bytes)) = some (some (.int .i64 0), 1, 8) from by kernel_rfl)
  have hmk := run_make (P := Try.prog) w 37 3 i0 _ (by kernel_rfl) hi0 hz0 .i64 .i64 n n (by omega) (Int.le_refl _) (by rw [hz2]; omega) (by omega)
  rw [hz1, Int.toNat_natCast] at hmk
  have hrow0 := madeRow w (Value.cells (.int .i64 0)) (n * 1) 3
  have hr0 := h.kept (Kept.alloc w (madeCells (Value.cells (.int .i64 0)) (n * 1)) 3 (0, 0) none) (fun i e => by cases e)
  have hk0 : Kept w (w.alloc (.cells (madeCells (Value.cells (.int .i64 0)) (n * 1)) 3)) (some b) := Kept.alloc _ _ _ _ _
  have hbl := h.lt
  have hbs : some w.heap.size ≠ some b := fun e => by injection e; omega
  generalize hW0 : w.alloc (.cells (madeCells (Value.cells (.int .i64 0)) (n * 1)) 3) = W0 at *
  have HR0 := Hid.mk' hr0
  have HRow0 := Hid.mk' hrow0
  clear h hr0 hrow0 hW0
  go_enter Try.func39, Try.ntmps39
  go_wp2
  clear hmk
  go_loopw [11] (fun i wr => ∃ k : Nat, k ≤ n ∧ i = .int .i64 k ∧ (∃ f, wr.rowIs w.heap.size 3 (n * 1) f ∧ ∀ i, i < k → ∀ j, j < 1 → f (i * 1 + j) = (fun i j => .int .i64 ((listM numM k s).1.getD i 0)) i j) ∧ Rdk wr H b (listM numM k s).2 ∧ Kept w wr (some b)) (fun i _ => n - (intOf i).toNat)
  case atStart => exact ⟨0, Nat.zero_le _, rfl, ⟨_, HRow0.out, fun i hi => by omega⟩, HR0.out, hk0⟩
  case round =>
    obtain ⟨k, hk, rfl, ⟨f, hrow, hf⟩, hr, hkw⟩ := hrel
    by_cases hlt : k < n
    · have hcall := numberK_any hr
      have hsn := listM_snoc numM k s
      have hlen := listM_len numM k s
      have HF := Hid.mk' hf
      have HROW := Hid.mk' hrow
      have HSN := Hid.mk' hsn
      have HLEN := Hid.mk' hlen
      have HCALL := Hid.mk' hcall
      clear hf hrow hsn hlen hcall hr
      generalize hx : (numM (listM numM k s).2).1 = x at *
      clear hx
      go_wp2_with (refine HCALL.out.mono ?_; rintro e w2 ⟨rfl, hr2, hk2⟩; have hrow2 := row_kept HROW.out hk2 hbs; have k0 := hrow2.cell (i := k) (by have := idx_lt (j := 0) hlt (show 0 < 1 by omega); omega); have z0 := hrow2.frozen (k))
      go_roundw
      case rel =>
        refine ⟨k + 1, by omega, by go_num, ⟨_, (World.rowIs.set hrow2 (k) (.int .i64 x)), fun i hi j hj => ?_⟩, by rw [HSN.out]; exact (hr2.setNew hH (k) _), (kept_new (hkw.tr hk2) (Nat.le_refl _) (k) _)⟩
        rw [HSN.out]
        by_cases hik : i = k
        · subst hik
          have : j = 0 := by omega
          try dsimp only
          rw [getD_snoc_eq HLEN.out.symm]
          subst this; simp
        · have hne := fun q => idx_ne (q := q) (show i < k by omega) hj
          try dsimp only
          rw [getD_snoc_lt (by rw [HLEN.out]; omega)]
          have h0 := HF.out i (by omega) j hj
          try dsimp only at h0
          rw [← h0]
          rw [if_neg (by have := hne 0; omega)]
      case measure => simp [intOf]; omega
    · have hkk : k = n := by omega
      subst hkk
      have HL := Hid.mk' (lie_row hrow hf)
      clear hf hrow
      go_wp2
      go_ret
      exact ⟨rfl, HL.out, hr, hkw⟩
end Go.Proofs.Ytnmfigcemknjbaa
