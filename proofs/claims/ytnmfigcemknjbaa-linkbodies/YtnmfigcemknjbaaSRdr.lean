/-
  Of the text Rdr: what this stage needs (culled by a program).
-/
import Derived.Test.YtnmfigcemknjbaaWorld
import Derived.Test.YtnmfigcemknjbaaJoin
import Derived.Test.YtnmfigcemknjbaaMaths
import Derived.Test.YtnmfigcemknjbaaRead
import Derived.Test.YtnmfigcemknjbaaSCodM
namespace Go.Proofs.Ytnmfigcemknjbaa
open Go.RowKit Go.Lib Go.Deep
set_option linter.unusedVariables false
set_option linter.unusedSimpArgs false

/-- A reader in block b, below block H; the bytes that it reads lie below H too, and not in b. -/
structure Rdr (w : World) (H b : Nat) (s : Rd) : Prop where
  ex : ∃ a n c, w.cell? ⟨b, 0, none⟩ = some (.slice a n c) ∧ Come w a n c s.1 ∧ (0 < n → ∀ x, a = some x → x.block < H ∧ x.block ≠ b)
  c1 : w.cell? ⟨b, 1, none⟩ = some (.bool s.2)
  f0 : w.frozen? ⟨b, 0, none⟩ = false
  f1 : w.frozen? ⟨b, 1, none⟩ = false
  c2 : ∃ v, w.cell? ⟨b, 2, none⟩ = some v
  f2 : w.frozen? ⟨b, 2, none⟩ = false
  lt : b < H
theorem frozen_block {w w' : World} {b j : Nat} (h : w'.heap[b]? = w.heap[b]?) : w'.frozen? ⟨b, j, none⟩ = w.frozen? ⟨b, j, none⟩ := by
  unfold World.frozen?
  simp only [h]
theorem Come.keptR {w w' : World} {r : Option Nat} {a : Option Addr} {n c : Nat} {L : List Nat} (h : Come w a n c L) (q : Kept w w' r) (hr : 0 < n → ∀ x, a = some x → some x.block ≠ r) : Come w' a n c L := by
  refine ⟨?_, h.nil, h.room, h.max⟩
  obtain ⟨h1, h2, h3, h4⟩ := h.by_
  refine ⟨h1, h2, h3, fun hp => ?_⟩
  obtain ⟨b, off, rfl, hb, hc⟩ := h4 hp
  exact ⟨b, off, rfl, Nat.lt_of_lt_of_le hb q.size, fun i hi => (World.cell?_of_block (w := w) (a := ⟨b, off + i, none⟩) (q.block b hb (hr hp _ rfl))).trans (hc i hi)⟩
/-- What changes neither b nor anything below H. -/
theorem Rdr.kept {w w' : World} {H b : Nat} {s : Rd} {r : Option Nat} (h : Rdr w H b s) (q : Kept w w' r) (hr : ∀ i, r = some i → H ≤ i) : Rdr w' H b s := by
  have hb : some b ≠ r := fun e => by have := hr b e.symm; have := h.lt; omega
  obtain ⟨a, n, c, h1, h2, h3⟩ := h.ex
  have hbl := block_lt h1
  refine ⟨⟨a, n, c, cell_keptR h1 q hb, h2.keptR q (fun hp x hx e => by have := hr _ e.symm; have := (h3 hp x hx).1; omega), h3⟩, cell_keptR h.c1 q hb, (frozen_block (q.block b hbl hb)).trans h.f0, (frozen_block (q.block b hbl hb)).trans h.f1, h.c2.imp (fun v hv => cell_keptR hv q hb), (frozen_block (q.block b hbl hb)).trans h.f2, h.lt⟩
theorem kept_set (w : World) (b j : Nat) (v : Value) : Kept w (w.setCell ⟨b, j, none⟩ v) (some b) :=
  ⟨rfl, rfl, rfl, by simp [World.setCell], fun k hk hr => by
    simp only [World.setCell]
    rw [Array.getElem?_modify, if_neg (fun e => hr (by rw [e]))]⟩
theorem frozen_set (w : World) (p a : Addr) (v : Value) : (w.setCell p v).frozen? a = w.frozen? a := World.frozen?_setCell _ _ _ _
theorem Rdr.bad {w : World} {H b : Nat} {s : Rd} (h : Rdr w H b s) : Rdr (w.setCell ⟨b, 1, none⟩ (.bool true)) H b (s.1, true) := by
  obtain ⟨a, n, c, h1, h2, h3⟩ := h.ex
  refine ⟨⟨a, n, c, (World.cell?_setCell_other _ _ _ _ (by simp)).trans h1, h2.keptR (kept_set _ _ _ _) (fun hp x hx e => (h3 hp x hx).2 (by injection e)), h3⟩, World.cell?_setCell_same' _ _ _ (by rw [h.c1]; rfl), (frozen_set _ _ _ _).trans h.f0, (frozen_set _ _ _ _).trans h.f1, h.c2.imp (fun v hv => (World.cell?_setCell_other _ _ _ _ (by simp)).trans hv), (frozen_set _ _ _ _).trans h.f2, h.lt⟩
theorem Rdr.put {w : World} {H b : Nat} {s : Rd} (h : Rdr w H b s) (v : Value) : Rdr (w.setCell ⟨b, 2, none⟩ v) H b s := by
  obtain ⟨a, n, c, h1, h2, h3⟩ := h.ex
  obtain ⟨u, hu⟩ := h.c2
  exact ⟨⟨a, n, c, (World.cell?_setCell_other _ _ _ _ (by simp)).trans h1, h2.keptR (kept_set _ _ _ _) (fun hp x hx e => (h3 hp x hx).2 (by injection e)), h3⟩, (World.cell?_setCell_other _ _ _ _ (by simp)).trans h.c1, (frozen_set _ _ _ _).trans h.f0, (frozen_set _ _ _ _).trans h.f1, ⟨v, World.cell?_setCell_same' _ _ _ (by rw [hu]; rfl)⟩, (frozen_set _ _ _ _).trans h.f2, h.lt⟩
theorem By.drop {w : World} {b off n : Nat} {L : List Nat} (h : By w (some ⟨b, off, none⟩) n L) (k : Nat) (hk : k ≤ n) : By w (some ⟨b, off + k, none⟩) (n - k) (L.drop k) := by
  obtain ⟨h1, h2, h3, h4⟩ := h
  refine ⟨by simp; omega, by omega, fun x hx => h3 x (List.mem_of_mem_drop hx), fun hp => ?_⟩
  obtain ⟨b', off', e, hb, hc⟩ := h4 (by omega)
  injection e with e
  injection e with e1 e2
  subst e1 e2
  refine ⟨b, off + k, rfl, hb, fun i hi => ?_⟩
  rw [Nat.add_assoc, hc (k + i) (by omega)]
  simp
theorem Rdr.set {w : World} {H b : Nat} {L L' : List Nat} {bd : Bool} {a : Option Addr} {n c : Nat} (h : Rdr w H b (L, bd)) (hC : Come w a n c L') (hx : 0 < n → ∀ x, a = some x → x.block < H ∧ x.block ≠ b) : Rdr (w.setCell ⟨b, 0, none⟩ (.slice a n c)) H b (L', bd) := by
  obtain ⟨a0, n0, c0, h1, _, _⟩ := h.ex
  refine ⟨⟨a, n, c, World.cell?_setCell_same' _ _ _ (by rw [h1]; rfl), hC.keptR (kept_set _ _ _ _) (fun hp x hxx e => (hx hp x hxx).2 (by injection e)), hx⟩, (World.cell?_setCell_other _ _ _ _ (by simp)).trans h.c1, (frozen_set _ _ _ _).trans h.f0, (frozen_set _ _ _ _).trans h.f1, h.c2.imp (fun v hv => (World.cell?_setCell_other _ _ _ _ (by simp)).trans hv), (frozen_set _ _ _ _).trans h.f2, h.lt⟩
theorem upM_no {most : Nat} {s : Rd} (h : (!s.2 && (okR s.1 && decide (rdN s.1 ≤ most))) = false) : upM most s = (0, (s.1, true)) := by unfold upM; rw [if_neg (by rw [h]; decide)]
theorem upM_yes {most : Nat} {s : Rd} (h : (!s.2 && (okR s.1 && decide (rdN s.1 ≤ most))) = true) : upM most s = (rdN s.1, (s.1.drop (rdK s.1), false)) := by unfold upM; rw [if_pos h]
set_option maxRecDepth 100000 in
set_option maxHeartbeats 1000000 in
theorem upTo_any {w : World} {H b : Nat} {s : Rd} (h : Rdr w H b s) (most : Nat) (hm : most < 18446744073709551616) : Calls Try.prog 55 #[.pointer (some ⟨b, 0, none⟩), .int .u64 most] w fun e w' => e = .returned (.int .u64 ((upM most s).1 : Int)) ∧ Rdr w' H b (upM most s).2 ∧ Kept w w' (some b) := by
  have HR := Hid.mk' h
  obtain ⟨a, n, c, h1, h2, h3⟩ := h.ex
  have c1 := h.c1
  have f0 := h.f0
  have f1 := h.f1
  have HC := Hid.mk' h2
  have HX := Hid.mk' h3
  have hnN := rdN_lt s.1
  have hroom := h2.room
  have hcap := h2.max
  obtain ⟨L, bd⟩ := s
  dsimp only at *
  clear h h2 h3
  cases bd with
  | true =>
    have hE : upM most (L, true) = (0, (L, true)) := upM_no rfl
    rw [hE]
    go_enter Try.func55, Try.ntmps55
    go_wp2_with (go_at_call 62; refine (read_any HC.out.by_ HC.out.nil hroom hcap).mono ?_; rintro e w2 ⟨rfl, m, rfl⟩)
    go_ret
    exact ⟨rfl, (HR.out.kept (Kept.drewN _ _ none) (fun i e => by cases e)).bad, (Kept.drewN _ _ _).tr (kept_set _ _ _ _)⟩
  | false =>
    cases hok : okR L with
    | false =>
      have hE : upM most (L, false) = (0, (L, true)) := upM_no (by rw [hok]; rfl)
      rw [hE]
      obtain ⟨d1, d2, d3⟩ := rd_none (L := L) (by rw [hok]; decide)
      go_enter Try.func55, Try.ntmps55
      go_wp2_with (go_at_call 62; refine (read_any HC.out.by_ HC.out.nil hroom hcap).mono ?_; rintro e w2 ⟨rfl, m, rfl⟩; rw [d1, d2, d3])
      go_ret
      exact ⟨rfl, (HR.out.kept (Kept.drewN _ _ none) (fun i e => by cases e)).bad, (Kept.drewN _ _ _).tr (kept_set _ _ _ _)⟩
    | true =>
      obtain ⟨d1, d2, d3⟩ := rd_some (L := L) hok
      have hro := read_only L HC.out.by_.lt hok
      have hsz := HC.out.by_.size
      have hkn : rdK L ≤ n := by have := hro.2.2.1; omega
      have hk1 := hro.2.1
      have d3' : ((rdE L : Nat) : Int) = 0 := by rw [d3]; rfl
      have HSZ := Hid.mk' hsz
      clear d1 d2 d3 hro hsz
      by_cases hle : rdN L ≤ most
      · have hE : upM most (L, false) = (rdN L, (L.drop (rdK L), false)) := upM_yes (by rw [hok]; simp [hle])
        rw [hE]
        clear hE
        obtain ⟨bb, off, rfl, hbb, _⟩ := HC.out.by_.at_ (by omega)
        generalize hK : rdK L = K at *
        have HK := Hid.mk' hK
        clear hK
        generalize hNN : rdN L = N at *
        have HN := Hid.mk' hNN
        clear hNN
        have hdrop : ∀ m, Rdr (w.drewN m) H b (L, false) := fun m => HR.out.kept (Kept.drewN _ _ none) (fun i e => by cases e)
        have HD := Hid.mk' hdrop
        have hCm : ∀ m, Come (w.drewN m) (some ⟨bb, off + K, none⟩) (n - K) (c - K) (L.drop K) := fun m => ⟨(HC.out.by_.drop K hkn).drewN m, fun e => (nomatch e), by omega, by omega⟩
        have HCm := Hid.mk' hCm
        have hXm : 0 < n - K → ∀ x, some (⟨bb, off + K, none⟩ : Addr) = some x → x.block < H ∧ x.block ≠ b := fun hp x hx => by
          injection hx with hx
          subst hx
          exact HX.out (by omega) ⟨bb, off, none⟩ rfl
        have HXm := Hid.mk' hXm
        clear hdrop hCm hXm
        by_cases hcK : K = c
        · have hnK : n = K := by omega
          have hL0 : L.drop K = [] := by rw [List.drop_eq_nil_iff]; have := HSZ.out; omega
          subst hnK
          subst hcK
          rw [hL0]
          clear hL0 HCm HXm
          go_enter Try.func55, Try.ntmps55
          go_wp2_with (go_at_call 62; refine (read_any HC.out.by_ HC.out.nil hroom hcap).mono ?_; rintro e w2 ⟨rfl, m, rfl⟩; rw [HK.out, HN.out, d3'])
          all_goals
            go_ret
            exact ⟨rfl, (HD.out _).set ⟨By.nil _ _, fun e => (by first | rfl | cases e), Nat.le_refl _, by omega⟩ (fun hp => absurd hp (by omega)), (Kept.drewN _ _ _).tr (kept_set _ _ _ _)⟩
        · have hcK2 : ¬ c = K := fun e => hcK e.symm
          have hcK3 : K < c := by omega
          go_enter Try.func55, Try.ntmps55
          go_wp2_with (go_at_call 62; refine (read_any HC.out.by_ HC.out.nil hroom hcap).mono ?_; rintro e w2 ⟨rfl, m, rfl⟩; rw [HK.out, HN.out, d3'])
          go_ret
          exact ⟨rfl, (HD.out _).set (HCm.out _) HXm.out, (Kept.drewN _ _ _).tr (kept_set _ _ _ _)⟩
      · have hE : upM most (L, false) = (0, (L, true)) := upM_no (by rw [hok]; simp [hle])
        rw [hE]
        have hgt : most < rdN L := by omega
        go_enter Try.func55, Try.ntmps55
        go_wp2_with (go_at_call 62; refine (read_any HC.out.by_ HC.out.nil hroom hcap).mono ?_; rintro e w2 ⟨rfl, m, rfl⟩; rw [d3'])
        go_ret
        exact ⟨rfl, (HR.out.kept (Kept.drewN _ _ none) (fun i e => by cases e)).bad, (Kept.drewN _ _ _).tr (kept_set _ _ _ _)⟩

theorem number_any {w : World} {H b : Nat} {s : Rd} (h : Rdr w H b s) : Calls Try.prog 38 #[.pointer (some ⟨b, 0, none⟩)] w fun e w' => e = .returned (.int .i64 (numM s).1) ∧ Rdr w' H b (numM s).2 ∧ Kept w w' (some b) := by
  have HR := Hid.mk' h
  have hle : (upM 1048576 s).1 ≤ 1048576 := by
    unfold upM
    split
    · rename_i hc
      simp only [Bool.and_eq_true, decide_eq_true_eq] at hc
      exact hc.2.2
    · omega
  have HE : Hid ((numM s).1 = ((upM 1048576 s).1 : Int) ∧ (numM s).2 = (upM 1048576 s).2) := ⟨rfl, rfl⟩
  have hU := upTo_any h 1048576 (by omega)
  have HU := Hid.mk' hU
  clear h hU
  generalize upM 1048576 s = u at *
  go_enter Try.func38, Try.ntmps38
  go_wp2_with (go_at_call 55; refine HU.out.mono ?_; rintro e w2 ⟨rfl, hr2, hk2⟩)
  go_ret
  exact ⟨by rw [HE.out.1]; rfl, by rw [HE.out.2]; exact hr2, hk2⟩
theorem upM_le (most : Nat) (s : Rd) : (upM most s).1 ≤ most := by
  unfold upM
  split
  · rename_i hc
    simp only [Bool.and_eq_true, decide_eq_true_eq] at hc
    exact hc.2.2
  · exact Nat.zero_le _
theorem many_any {w : World} {H b : Nat} {s : Rd} (h : Rdr w H b s) (most : Nat) (hm : most ≤ 1000) : Calls Try.prog 40 #[.pointer (some ⟨b, 0, none⟩), .int .i64 most] w fun e w' => e = .returned (.int .i64 ((upM most s).1 : Int)) ∧ Rdr w' H b (upM most s).2 ∧ Kept w w' (some b) := by
  have hle := upM_le most s
  have hU := upTo_any h most (by omega)
  have HU := Hid.mk' hU
  clear h hU
  generalize upM most s = u at *
  go_enter Try.func40, Try.ntmps40
  go_wp2_with (go_at_call 55; refine HU.out.mono ?_; rintro e w2 ⟨rfl, hr2, hk2⟩)
  go_ret
  exact ⟨rfl, hr2, hk2⟩
def doneB (s : Rd) : Bool := !s.2 && decide (s.1 = [])
theorem done_any {w : World} {H b : Nat} {s : Rd} (h : Rdr w H b s) : Calls Try.prog 41 #[.pointer (some ⟨b, 0, none⟩)] w fun e w' => e = .returned (.bool (doneB s)) ∧ w' = w := by
  obtain ⟨a, n, c, h1, h2, h3⟩ := h.ex
  have c1 := h.c1
  have hsz := h2.by_.size
  obtain ⟨L, bd⟩ := s
  dsimp only at *
  have HE : Hid (doneB (L, bd) = (!bd && decide (n = 0))) := by
    show doneB (L, bd) = _
    unfold doneB
    have : (L = []) = (n = 0) := by rw [← hsz]; simp
    simp [this]
  clear h h2 h3 hsz
  cases bd with
  | true =>
    go_enter Try.func41, Try.ntmps41
    go_wp2
    go_ret
    exact ⟨by rw [HE.out]; rfl, rfl⟩
  | false =>
    go_enter Try.func41, Try.ntmps41
    go_wp2
    go_ret
    refine ⟨by rw [HE.out]; simp; rw [Bool.eq_iff_iff]; simp; try omega, rfl⟩

end Go.Proofs.Ytnmfigcemknjbaa
