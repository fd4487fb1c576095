/-
  Texts joined: some of those that the proofs of this seat stand on.
-/
import Derived.Test.YtcjkghajeohfjaaDoorRefS
import Derived.Test.YtcjkghajeohfjaaDoorRefJ
import Derived.Test.YtcjkghajeohfjaaDoorDsK
import Derived.Test.YtcjkghajeohfjaaDoorPartsRJ
/-
  THE DOCUMENT'S OWN Read of a site: what the program's Read answers.
-/
namespace Go.Proofs.YtcjkghajeohfjaaDoor
open Go.RowKit Go.Lib Go.Deep
set_option linter.unusedVariables false
set_option linter.unusedSimpArgs false

/-- What the document's Read answers. -/
def DReadP (w : World) (L : List Nat) (e : Ending) (w' : World) : Prop := Kept w w' none ∧ ((readB L = true ∧ ∃ X, e = .returned (.tuple #[siteV X (readS L), .int .i64 0]) ∧ ∀ w'', Stay w.heap.size w' w'' → Sat w'' X (readS L)) ∨ (readB L = false ∧ e = .returned (.tuple #[siteV X0 S0, .int .i64 8])))
theorem dread_yes {L : List Nat} (hL : ∀ x ∈ L, x < 256) (h : readB L = true) : L.take (L.length - 4) = siteL (readS L) ∧ writeL (readS L) = L ∧ siteB (readS L) = true := by
  obtain ⟨h1, h2⟩ := write_read hL h
  generalize readS L = S at *
  have hw := writeL_yes h2
  rw [h1] at hw
  have hl : L.length - 4 = (siteL S).length := by
    have := congrArg List.length hw
    rw [List.length_append, sum4_len] at this
    omega
  refine ⟨?_, h1, h2⟩
  rw [hl, hw]
  exact List.take_left' rfl
theorem rok_read {L : List Nat} (hL : ∀ x ∈ L, x < 256) (h : readB L = true) : Rok (readS L) := by
  unfold readB at h
  simp only [Bool.and_eq_true, decide_eq_true_eq] at h
  obtain ⟨h4, h1, h2, h3⟩ := h
  unfold toldOk doneB at h2
  simp only [Bool.and_eq_true, Bool.not_eq_true', decide_eq_true_eq] at h2
  exact (siteC.bwd _ (fun x hx => hL x (List.mem_of_mem_take hx)) (by first | exact h2.1 | exact h2.2)).2
theorem dread_no {X : Sa} {S : St} {w : World} {L : List Nat} (h : Sat w X S) (hn : readB L = false) (hs : siteB S = true) : writeL S ≠ L := by
  intro e
  have := (read_write (rok_may h hs) hs).1
  rw [e, hn] at this
  cases this
theorem stay_kept {base : Nat} {w w' : World} {r : Option Nat} (k : Kept w w' r) (hr : ∀ g, r = some g → g < base ∨ w.heap.size ≤ g) : Stay base w w' := (Stay.refl _ _).step k hr
set_option maxRecDepth 100000 in
set_option maxHeartbeats 2000000 in
theorem drd_short {w : World} {a : Option Addr} {n c : Nat} {L : List Nat} (h : Come w a n c L) (h4 : n < 4) : Calls Tryd.prog 9 #[.slice a n c] w (DReadP w L) := by
  have hB : readB L = false := by unfold readB; rw [decide_eq_false (by have := h.by_.size; omega)]; rfl
  have HB := Hid.mk' hB
  clear h hB
  go_enter Tryd.func9, Tryd.ntmps9
  go_wp2
  refine bodyPost_ret (v := .tuple #[siteV X0 S0, .int .i64 8]) (by simp [results, Tryd.results9, go_sem, X0, S0]) rfl ?_
  exact ⟨Kept.alloc _ _ _ (0, 0) _, .inr ⟨HB.out, rfl⟩⟩

theorem dread_bad {w0 w2 : World} {H b m : Nat} {L : List Nat} {X : Sa} {S : St} {s' : Rd} (hL : ∀ x ∈ L, x < 256) (hE : L.length - 4 = m) (h : SiP w0 H b (L.take m, false) X S w2 s') (hb : s'.2 = true ∨ siteB S = false ∨ writeL S ≠ L) : readB L = false := by
  cases hr : readB L with
  | false => rfl
  | true =>
    exfalso
    obtain ⟨h1, h2, h3⟩ := dread_yes hL hr
    rw [hE] at h1
    obtain ⟨e1, e2⟩ := h.fwd (readS L) [] (dsok_rok (rok_read hL hr) h3) (by rw [h1, List.append_nil])
    subst e1
    subst e2
    rcases hb with q | q | q
    · cases q
    · rw [h3] at q; cases q
    · exact q h2
theorem put12 {w : World} {R : Nat} (h : w.rowIs R 29 12 (fSZ zD)) (v0 v1 v2 v3 v4 v5 v6 v7 v8 v9 v10 v11 : Value) : Kept w ((((((((((((w.setCell ⟨R, 0, none⟩ v0).setCell ⟨R, 1, none⟩ v1).setCell ⟨R, 2, none⟩ v2).setCell ⟨R, 3, none⟩ v3).setCell ⟨R, 4, none⟩ v4).setCell ⟨R, 5, none⟩ v5).setCell ⟨R, 6, none⟩ v6).setCell ⟨R, 7, none⟩ v7).setCell ⟨R, 8, none⟩ v8).setCell ⟨R, 9, none⟩ v9).setCell ⟨R, 10, none⟩ v10).setCell ⟨R, 11, none⟩ v11) (some R) ∧ ((((((((((((w.setCell ⟨R, 0, none⟩ v0).setCell ⟨R, 1, none⟩ v1).setCell ⟨R, 2, none⟩ v2).setCell ⟨R, 3, none⟩ v3).setCell ⟨R, 4, none⟩ v4).setCell ⟨R, 5, none⟩ v5).setCell ⟨R, 6, none⟩ v6).setCell ⟨R, 7, none⟩ v7).setCell ⟨R, 8, none⟩ v8).setCell ⟨R, 9, none⟩ v9).setCell ⟨R, 10, none⟩ v10).setCell ⟨R, 11, none⟩ v11).rowIs R 29 12 (fSZ #[v0, v1, v2, v3, v4, v5, v6, v7, v8, v9, v10, v11]) := by
  have a0 := bxK_set h 0 v0 (by simp)
  have a1 := bxK_set a0 1 v1 (by simp)
  have a2 := bxK_set a1 2 v2 (by simp)
  have a3 := bxK_set a2 3 v3 (by simp)
  have a4 := bxK_set a3 4 v4 (by simp)
  have a5 := bxK_set a4 5 v5 (by simp)
  have a6 := bxK_set a5 6 v6 (by simp)
  have a7 := bxK_set a6 7 v7 (by simp)
  have a8 := bxK_set a7 8 v8 (by simp)
  have a9 := bxK_set a8 9 v9 (by simp)
  have a10 := bxK_set a9 10 v10 (by simp)
  have a11 := bxK_set a10 11 v11 (by simp)
  rw [setD12] at a11
  refine ⟨((((((((((((dkept_set w R 0 v0).tr (dkept_set _ R 1 v1)).tr (dkept_set _ R 2 v2)).tr (dkept_set _ R 3 v3)).tr (dkept_set _ R 4 v4)).tr (dkept_set _ R 5 v5)).tr (dkept_set _ R 6 v6)).tr (dkept_set _ R 7 v7)).tr (dkept_set _ R 8 v8)).tr (dkept_set _ R 9 v9)).tr (dkept_set _ R 10 v10)).tr (dkept_set _ R 11 v11)), a11⟩
set_option maxRecDepth 100000 in
set_option maxHeartbeats 4000000 in
theorem drd_long {w : World} {a : Option Addr} {m c : Nat} {L : List Nat} (h : Come w a (m + 4) c L) : Calls Tryd.prog 9 #[.slice a (m + 4 : Nat) c] w (DReadP w L) := by
  obtain ⟨blk, off, rfl, hblk, _⟩ := h.by_.at_ (by omega)
  have hL := h.by_.size
  have hE4 : L.length - 4 = m := by omega
  have hroom := h.room
  have hmax := h.max
  have bt := h.by_.take m (by omega)
  have HLT := Hid.mk' h.by_.lt
  have HBY := Hid.mk' h.by_
  have kA : Kept w ((w.alloc (.cells zD 29)).alloc (.cells #[.slice (some ⟨blk, off, none⟩) m c, .bool false] 70)) none := (Kept.alloc w zD 29 (0, 0) none).tr (Kept.alloc _ _ _ (0, 0) none)
  have zA : (w.alloc (.cells zD 29)).heap.size = w.heap.size + 1 := by simp
  have zB : ((w.alloc (.cells zD 29)).alloc (.cells #[.slice (some ⟨blk, off, none⟩) m c, .bool false] 70)).heap.size = w.heap.size + 2 := by simp
  have qB := bxK_alloc (w.alloc (.cells zD 29)) #[.slice (some ⟨blk, off, none⟩) m c, .bool false] 70
  rw [zA] at qB
  have HDR : Hid (Drd ((w.alloc (.cells zD 29)).alloc (.cells #[.slice (some ⟨blk, off, none⟩) m c, .bool false] 70)) (w.heap.size + 2) (w.heap.size + 1) (L.take m, false)) := ⟨⟨some ⟨blk, off, none⟩, m, c, qB.cell (i := 0) (by simp), ⟨bt.kept kA, fun e => (nomatch e), by omega, hmax⟩, fun hp x hx => by injection hx with hx; subst hx; dsimp only; omega⟩, qB.cell (i := 1) (by simp), qB.frozen 0, qB.frozen 1, by omega⟩
  have HRW : Hid (((w.alloc (.cells zD 29)).alloc (.cells #[.slice (some ⟨blk, off, none⟩) m c, .bool false] 70)).rowIs w.heap.size 29 12 (fSZ zD)) := row_kept (bxK_alloc w zD 29) (Kept.alloc _ _ _ (0, 0) none) (by simp)
  have HKA := Hid.mk' kA
  have HE4 := Hid.mk' hE4
  clear h bt kA qB zA hL hE4
  go_enter Tryd.func9, Tryd.ntmps9
  go_wp2_with ((go_at_call 27; refine (rsite_any HDR.out (by omega)).mono ?_; rintro e w2 ⟨X, S, s', rfl, hS2⟩; have S2 := Hid.mk' hS2; have B3 := Hid.mk' (sbox_alloc (hS2.sat w2 (Stay.refl _ _)) 29); have SA3 : Hid (Sat (w2.alloc (.cells #[.int .i64 S.id, .slice X.g S.groups.length X.gc, .slice X.a S.apart.length X.ac, .slice X.b S.between.length X.bc, .slice X.p S.phases.length X.pc, .slice X.e S.eyes.length X.ec, .int .i64 S.watch, .int .i64 S.feed, .int .i64 S.heal, .int .i64 S.low, .int .i64 S.high, .slice X.l S.plans.length X.lc] 29)) X S) := hS2.sat _ ((Stay.refl _ _).step (Kept.alloc w2 _ _ _ none) (fun g e => by cases e)); clear hS2))
  go_at_call 7
  refine (rwrite5_any SA3.out).mono ?_
  rintro e w4 ⟨a4, c4, rfl, hm4, hk4⟩
  have M4 := Hid.mk' hm4
  have K4 := Hid.mk' hk4
  clear hm4 hk4
  have hk02 : Kept w w2 none := kept_two HKA.out S2.out.kept (fun g e => by injection e with e; exact .inr (by omega))
  have K24 : Kept w2 w4 none := (Kept.alloc w2 #[.int .i64 S.id, .slice X.g S.groups.length X.gc, .slice X.a S.apart.length X.ac, .slice X.b S.between.length X.bc, .slice X.p S.phases.length X.pc, .slice X.e S.eyes.length X.ec, .int .i64 S.watch, .int .i64 S.feed, .int .i64 S.heal, .int .i64 S.low, .int .i64 S.high, .slice X.l S.plans.length X.lc] 29 (0, 0) none).tr K4.out
  have hz2 : w.heap.size + 2 ≤ w2.heap.size := by have := S2.out.kept.size; rw [zB] at this; exact this
  have RW4 : Hid (w4.rowIs w.heap.size 29 12 (fSZ zD)) := row_kept (row_kept HRW.out S2.out.kept (fun e => by injection e with e; omega)) K24 (by simp)
  have rb4 : w4.cell? ⟨w.heap.size + 1, 1, none⟩ = some (.bool s'.2) := cell_kept0 S2.out.rd.c1 K24
  have B4 := Hid.mk' (B3.out.kept K4.out)
  have K04 := Hid.mk' (hk02.tr K24)
  have ST4 := Hid.mk' (stay_kept (base := w.heap.size + 2) K24 (fun g e => by cases e))
  have t1 := run_text (M4.out.by (writeL_lt S)) c4
  have t2 := run_text (HBY.out.kept K04.out) c
  have HTX := Hid.mk' (textOf_eq (writeL_lt S) HLT.out)
  have HSA := Hid.mk' (fun w'' q => S2.out.sat w'' (by rw [zB]; exact q))
  have HBD := Hid.mk' (dread_bad HLT.out HE4.out S2.out)
  obtain ⟨sl, sb⟩ := s'
  dsimp only at rb4 HBD
  clear hk02 K24 M4 K4 B3 SA3 S2 HDR HRW HKA zB HBY
  have m0 : w4.cell? ⟨w.heap.size, 0, none⟩ = some (.int .i64 0) := RW4.out.cell (i := 0) (by omega)
  have n0 := RW4.out.frozen 0
  have m1 : w4.cell? ⟨w.heap.size, 1, none⟩ = some (.slice none 0 0) := RW4.out.cell (i := 1) (by omega)
  have n1 := RW4.out.frozen 1
  have m2 : w4.cell? ⟨w.heap.size, 2, none⟩ = some (.slice none 0 0) := RW4.out.cell (i := 2) (by omega)
  have n2 := RW4.out.frozen 2
  have m3 : w4.cell? ⟨w.heap.size, 3, none⟩ = some (.slice none 0 0) := RW4.out.cell (i := 3) (by omega)
  have n3 := RW4.out.frozen 3
  have m4 : w4.cell? ⟨w.heap.size, 4, none⟩ = some (.slice none 0 0) := RW4.out.cell (i := 4) (by omega)
  have n4 := RW4.out.frozen 4
  have m5 : w4.cell? ⟨w.heap.size, 5, none⟩ = some (.slice none 0 0) := RW4.out.cell (i := 5) (by omega)
  have n5 := RW4.out.frozen 5
  have m6 : w4.cell? ⟨w.heap.size, 6, none⟩ = some (.int .i64 0) := RW4.out.cell (i := 6) (by omega)
  have n6 := RW4.out.frozen 6
  have m7 : w4.cell? ⟨w.heap.size, 7, none⟩ = some (.int .i64 0) := RW4.out.cell (i := 7) (by omega)
  have n7 := RW4.out.frozen 7
  have m8 : w4.cell? ⟨w.heap.size, 8, none⟩ = some (.int .i64 0) := RW4.out.cell (i := 8) (by omega)
  have n8 := RW4.out.frozen 8
  have m9 : w4.cell? ⟨w.heap.size, 9, none⟩ = some (.int .i64 0) := RW4.out.cell (i := 9) (by omega)
  have n9 := RW4.out.frozen 9
  have m10 : w4.cell? ⟨w.heap.size, 10, none⟩ = some (.int .i64 0) := RW4.out.cell (i := 10) (by omega)
  have n10 := RW4.out.frozen 10
  have m11 : w4.cell? ⟨w.heap.size, 11, none⟩ = some (.slice none 0 0) := RW4.out.cell (i := 11) (by omega)
  have n11 := RW4.out.frozen 11
  have k0 := B4.out.c0
  have k1 := B4.out.c1
  have k2 := B4.out.c2
  have k3 := B4.out.c3
  have k4 := B4.out.c4
  have k5 := B4.out.c5
  have k6 := B4.out.c6
  have k7 := B4.out.c7
  have k8 := B4.out.c8
  have k9 := B4.out.c9
  have k10 := B4.out.c10
  have k11 := B4.out.c11
  cases sb with
  | true =>
    have HB := Hid.mk' (HBD.out (.inl rfl))
    go_wp2
    have FA := put12 RW4.out (.int .i64 0) (.slice none 0 0) (.slice none 0 0) (.slice none 0 0) (.slice none 0 0) (.slice none 0 0) (.int .i64 0) (.int .i64 0) (.int .i64 0) (.int .i64 0) (.int .i64 0) (.slice none 0 0)
    clear m0 n0 k0 m1 n1 k1 m2 n2 k2 m3 n3 k3 m4 n4 k4 m5 n5 k5 m6 n6 k6 m7 n7 k7 m8 n8 k8 m9 n9 k9 m10 n10 k10 m11 n11 k11
    generalize ((((((((((((w4.setCell ⟨w.heap.size, 0, none⟩ (.int .i64 0)).setCell ⟨w.heap.size, 1, none⟩ (.slice none 0 0)).setCell ⟨w.heap.size, 2, none⟩ (.slice none 0 0)).setCell ⟨w.heap.size, 3, none⟩ (.slice none 0 0)).setCell ⟨w.heap.size, 4, none⟩ (.slice none 0 0)).setCell ⟨w.heap.size, 5, none⟩ (.slice none 0 0)).setCell ⟨w.heap.size, 6, none⟩ (.int .i64 0)).setCell ⟨w.heap.size, 7, none⟩ (.int .i64 0)).setCell ⟨w.heap.size, 8, none⟩ (.int .i64 0)).setCell ⟨w.heap.size, 9, none⟩ (.int .i64 0)).setCell ⟨w.heap.size, 10, none⟩ (.int .i64 0)).setCell ⟨w.heap.size, 11, none⟩ (.slice none 0 0)) = WF at *
    have q0 : WF.cell? ⟨w.heap.size, 0, none⟩ = some (.int .i64 0) := FA.2.cell (i := 0) (by omega)
    have q1 : WF.cell? ⟨w.heap.size, 1, none⟩ = some (.slice none 0 0) := FA.2.cell (i := 1) (by omega)
    have q2 : WF.cell? ⟨w.heap.size, 2, none⟩ = some (.slice none 0 0) := FA.2.cell (i := 2) (by omega)
    have q3 : WF.cell? ⟨w.heap.size, 3, none⟩ = some (.slice none 0 0) := FA.2.cell (i := 3) (by omega)
    have q4 : WF.cell? ⟨w.heap.size, 4, none⟩ = some (.slice none 0 0) := FA.2.cell (i := 4) (by omega)
    have q5 : WF.cell? ⟨w.heap.size, 5, none⟩ = some (.slice none 0 0) := FA.2.cell (i := 5) (by omega)
    have q6 : WF.cell? ⟨w.heap.size, 6, none⟩ = some (.int .i64 0) := FA.2.cell (i := 6) (by omega)
    have q7 : WF.cell? ⟨w.heap.size, 7, none⟩ = some (.int .i64 0) := FA.2.cell (i := 7) (by omega)
    have q8 : WF.cell? ⟨w.heap.size, 8, none⟩ = some (.int .i64 0) := FA.2.cell (i := 8) (by omega)
    have q9 : WF.cell? ⟨w.heap.size, 9, none⟩ = some (.int .i64 0) := FA.2.cell (i := 9) (by omega)
    have q10 : WF.cell? ⟨w.heap.size, 10, none⟩ = some (.int .i64 0) := FA.2.cell (i := 10) (by omega)
    have q11 : WF.cell? ⟨w.heap.size, 11, none⟩ = some (.slice none 0 0) := FA.2.cell (i := 11) (by omega)
    refine bodyPost_ret (v := .tuple #[siteV X0 S0, .int .i64 8]) (by simp [results, Tryd.results9, go_sem, X0, S0, q0, q1, q2, q3, q4, q5, q6, q7, q8, q9, q10, q11]) rfl ?_
    exact ⟨kept_two K04.out FA.1 (fun g e => by injection e with e; exact .inr (by omega)), .inr ⟨HB.out, rfl⟩⟩
  | false =>
    cases hs : siteB S with
    | false =>
      have HB := Hid.mk' (HBD.out (.inr (.inl hs)))
      rw [checkE_no hs]
      go_wp2
      have FA := put12 RW4.out (.int .i64 0) (.slice none 0 0) (.slice none 0 0) (.slice none 0 0) (.slice none 0 0) (.slice none 0 0) (.int .i64 0) (.int .i64 0) (.int .i64 0) (.int .i64 0) (.int .i64 0) (.slice none 0 0)
      clear m0 n0 k0 m1 n1 k1 m2 n2 k2 m3 n3 k3 m4 n4 k4 m5 n5 k5 m6 n6 k6 m7 n7 k7 m8 n8 k8 m9 n9 k9 m10 n10 k10 m11 n11 k11
      generalize ((((((((((((w4.setCell ⟨w.heap.size, 0, none⟩ (.int .i64 0)).setCell ⟨w.heap.size, 1, none⟩ (.slice none 0 0)).setCell ⟨w.heap.size, 2, none⟩ (.slice none 0 0)).setCell ⟨w.heap.size, 3, none⟩ (.slice none 0 0)).setCell ⟨w.heap.size, 4, none⟩ (.slice none 0 0)).setCell ⟨w.heap.size, 5, none⟩ (.slice none 0 0)).setCell ⟨w.heap.size, 6, none⟩ (.int .i64 0)).setCell ⟨w.heap.size, 7, none⟩ (.int .i64 0)).setCell ⟨w.heap.size, 8, none⟩ (.int .i64 0)).setCell ⟨w.heap.size, 9, none⟩ (.int .i64 0)).setCell ⟨w.heap.size, 10, none⟩ (.int .i64 0)).setCell ⟨w.heap.size, 11, none⟩ (.slice none 0 0)) = WF at *
      have q0 : WF.cell? ⟨w.heap.size, 0, none⟩ = some (.int .i64 0) := FA.2.cell (i := 0) (by omega)
      have q1 : WF.cell? ⟨w.heap.size, 1, none⟩ = some (.slice none 0 0) := FA.2.cell (i := 1) (by omega)
      have q2 : WF.cell? ⟨w.heap.size, 2, none⟩ = some (.slice none 0 0) := FA.2.cell (i := 2) (by omega)
      have q3 : WF.cell? ⟨w.heap.size, 3, none⟩ = some (.slice none 0 0) := FA.2.cell (i := 3) (by omega)
      have q4 : WF.cell? ⟨w.heap.size, 4, none⟩ = some (.slice none 0 0) := FA.2.cell (i := 4) (by omega)
      have q5 : WF.cell? ⟨w.heap.size, 5, none⟩ = some (.slice none 0 0) := FA.2.cell (i := 5) (by omega)
      have q6 : WF.cell? ⟨w.heap.size, 6, none⟩ = some (.int .i64 0) := FA.2.cell (i := 6) (by omega)
      have q7 : WF.cell? ⟨w.heap.size, 7, none⟩ = some (.int .i64 0) := FA.2.cell (i := 7) (by omega)
      have q8 : WF.cell? ⟨w.heap.size, 8, none⟩ = some (.int .i64 0) := FA.2.cell (i := 8) (by omega)
      have q9 : WF.cell? ⟨w.heap.size, 9, none⟩ = some (.int .i64 0) := FA.2.cell (i := 9) (by omega)
      have q10 : WF.cell? ⟨w.heap.size, 10, none⟩ = some (.int .i64 0) := FA.2.cell (i := 10) (by omega)
      have q11 : WF.cell? ⟨w.heap.size, 11, none⟩ = some (.slice none 0 0) := FA.2.cell (i := 11) (by omega)
      refine bodyPost_ret (v := .tuple #[siteV X0 S0, .int .i64 8]) (by simp [results, Tryd.results9, go_sem, X0, S0, q0, q1, q2, q3, q4, q5, q6, q7, q8, q9, q10, q11]) rfl ?_
      exact ⟨kept_two K04.out FA.1 (fun g e => by injection e with e; exact .inr (by omega)), .inr ⟨HB.out, rfl⟩⟩
    | true =>
      rw [checkE_yes hs]
      by_cases hw : writeL S = L
      · have HGD : Hid (∀ WF, Kept w4 WF (some w.heap.size) → DReadP w L (.returned (.tuple #[siteV X S, .int .i64 0])) WF) := fun WF kf => by
          have sat4 := HSA.out w4 ST4.out
          obtain ⟨r1, r2⟩ := read_write (rok_may sat4 hs) hs
          rw [hw] at r1 r2
          refine ⟨kept_two K04.out kf (fun g e => by injection e with e; exact .inr (by omega)), .inl ⟨r1, X, by rw [r2], fun w'' q => ?_⟩⟩
          rw [r2]
          exact HSA.out w'' ((ST4.out.step kf (fun g e => by injection e with e; exact .inl (by omega))).trans ⟨q.size, fun i h1 h2 => q.block i (by omega) h2⟩)
        have ht : ((textOf (writeL S)).toList == (textOf L).toList) = true := by rw [HTX.out]; exact decide_eq_true hw
        generalize textOf (writeL S) = T1 at *
        generalize textOf L = T2 at *
        clear HTX hw HBD
        go_wp2
        have FA := put12 RW4.out (.int .i64 S.id) (.slice X.g S.groups.length X.gc) (.slice X.a S.apart.length X.ac) (.slice X.b S.between.length X.bc) (.slice X.p S.phases.length X.pc) (.slice X.e S.eyes.length X.ec) (.int .i64 S.watch) (.int .i64 S.feed) (.int .i64 S.heal) (.int .i64 S.low) (.int .i64 S.high) (.slice X.l S.plans.length X.lc)
        clear m0 n0 k0 m1 n1 k1 m2 n2 k2 m3 n3 k3 m4 n4 k4 m5 n5 k5 m6 n6 k6 m7 n7 k7 m8 n8 k8 m9 n9 k9 m10 n10 k10 m11 n11 k11
        generalize ((((((((((((w4.setCell ⟨w.heap.size, 0, none⟩ (.int .i64 S.id)).setCell ⟨w.heap.size, 1, none⟩ (.slice X.g S.groups.length X.gc)).setCell ⟨w.heap.size, 2, none⟩ (.slice X.a S.apart.length X.ac)).setCell ⟨w.heap.size, 3, none⟩ (.slice X.b S.between.length X.bc)).setCell ⟨w.heap.size, 4, none⟩ (.slice X.p S.phases.length X.pc)).setCell ⟨w.heap.size, 5, none⟩ (.slice X.e S.eyes.length X.ec)).setCell ⟨w.heap.size, 6, none⟩ (.int .i64 S.watch)).setCell ⟨w.heap.size, 7, none⟩ (.int .i64 S.feed)).setCell ⟨w.heap.size, 8, none⟩ (.int .i64 S.heal)).setCell ⟨w.heap.size, 9, none⟩ (.int .i64 S.low)).setCell ⟨w.heap.size, 10, none⟩ (.int .i64 S.high)).setCell ⟨w.heap.size, 11, none⟩ (.slice X.l S.plans.length X.lc)) = WF at *
        have q0 : WF.cell? ⟨w.heap.size, 0, none⟩ = some (.int .i64 S.id) := FA.2.cell (i := 0) (by omega)
        have q1 : WF.cell? ⟨w.heap.size, 1, none⟩ = some (.slice X.g S.groups.length X.gc) := FA.2.cell (i := 1) (by omega)
        have q2 : WF.cell? ⟨w.heap.size, 2, none⟩ = some (.slice X.a S.apart.length X.ac) := FA.2.cell (i := 2) (by omega)
        have q3 : WF.cell? ⟨w.heap.size, 3, none⟩ = some (.slice X.b S.between.length X.bc) := FA.2.cell (i := 3) (by omega)
        have q4 : WF.cell? ⟨w.heap.size, 4, none⟩ = some (.slice X.p S.phases.length X.pc) := FA.2.cell (i := 4) (by omega)
        have q5 : WF.cell? ⟨w.heap.size, 5, none⟩ = some (.slice X.e S.eyes.length X.ec) := FA.2.cell (i := 5) (by omega)
        have q6 : WF.cell? ⟨w.heap.size, 6, none⟩ = some (.int .i64 S.watch) := FA.2.cell (i := 6) (by omega)
        have q7 : WF.cell? ⟨w.heap.size, 7, none⟩ = some (.int .i64 S.feed) := FA.2.cell (i := 7) (by omega)
        have q8 : WF.cell? ⟨w.heap.size, 8, none⟩ = some (.int .i64 S.heal) := FA.2.cell (i := 8) (by omega)
        have q9 : WF.cell? ⟨w.heap.size, 9, none⟩ = some (.int .i64 S.low) := FA.2.cell (i := 9) (by omega)
        have q10 : WF.cell? ⟨w.heap.size, 10, none⟩ = some (.int .i64 S.high) := FA.2.cell (i := 10) (by omega)
        have q11 : WF.cell? ⟨w.heap.size, 11, none⟩ = some (.slice X.l S.plans.length X.lc) := FA.2.cell (i := 11) (by omega)
        refine bodyPost_ret (v := .tuple #[siteV X S, .int .i64 0]) (by simp [results, Tryd.results9, go_sem, q0, q1, q2, q3, q4, q5, q6, q7, q8, q9, q10, q11]) rfl ?_
        exact HGD.out WF FA.1
      · have HB := Hid.mk' (HBD.out (.inr (.inr hw)))
        have ht : ((textOf (writeL S)).toList == (textOf L).toList) = false := by rw [HTX.out]; exact decide_eq_false hw
        generalize textOf (writeL S) = T1 at *
        generalize textOf L = T2 at *
        clear HTX hw HBD
        go_wp2
        have FA := put12 RW4.out (.int .i64 0) (.slice none 0 0) (.slice none 0 0) (.slice none 0 0) (.slice none 0 0) (.slice none 0 0) (.int .i64 0) (.int .i64 0) (.int .i64 0) (.int .i64 0) (.int .i64 0) (.slice none 0 0)
        clear m0 n0 k0 m1 n1 k1 m2 n2 k2 m3 n3 k3 m4 n4 k4 m5 n5 k5 m6 n6 k6 m7 n7 k7 m8 n8 k8 m9 n9 k9 m10 n10 k10 m11 n11 k11
        generalize ((((((((((((w4.setCell ⟨w.heap.size, 0, none⟩ (.int .i64 0)).setCell ⟨w.heap.size, 1, none⟩ (.slice none 0 0)).setCell ⟨w.heap.size, 2, none⟩ (.slice none 0 0)).setCell ⟨w.heap.size, 3, none⟩ (.slice none 0 0)).setCell ⟨w.heap.size, 4, none⟩ (.slice none 0 0)).setCell ⟨w.heap.size, 5, none⟩ (.slice none 0 0)).setCell ⟨w.heap.size, 6, none⟩ (.int .i64 0)).setCell ⟨w.heap.size, 7, none⟩ (.int .i64 0)).setCell ⟨w.heap.size, 8, none⟩ (.int .i64 0)).setCell ⟨w.heap.size, 9, none⟩ (.int .i64 0)).setCell ⟨w.heap.size, 10, none⟩ (.int .i64 0)).setCell ⟨w.heap.size, 11, none⟩ (.slice none 0 0)) = WF at *
        have q0 : WF.cell? ⟨w.heap.size, 0, none⟩ = some (.int .i64 0) := FA.2.cell (i := 0) (by omega)
        have q1 : WF.cell? ⟨w.heap.size, 1, none⟩ = some (.slice none 0 0) := FA.2.cell (i := 1) (by omega)
        have q2 : WF.cell? ⟨w.heap.size, 2, none⟩ = some (.slice none 0 0) := FA.2.cell (i := 2) (by omega)
        have q3 : WF.cell? ⟨w.heap.size, 3, none⟩ = some (.slice none 0 0) := FA.2.cell (i := 3) (by omega)
        have q4 : WF.cell? ⟨w.heap.size, 4, none⟩ = some (.slice none 0 0) := FA.2.cell (i := 4) (by omega)
        have q5 : WF.cell? ⟨w.heap.size, 5, none⟩ = some (.slice none 0 0) := FA.2.cell (i := 5) (by omega)
        have q6 : WF.cell? ⟨w.heap.size, 6, none⟩ = some (.int .i64 0) := FA.2.cell (i := 6) (by omega)
        have q7 : WF.cell? ⟨w.heap.size, 7, none⟩ = some (.int .i64 0) := FA.2.cell (i := 7) (by omega)
        have q8 : WF.cell? ⟨w.heap.size, 8, none⟩ = some (.int .i64 0) := FA.2.cell (i := 8) (by omega)
        have q9 : WF.cell? ⟨w.heap.size, 9, none⟩ = some (.int .i64 0) := FA.2.cell (i := 9) (by omega)
        have q10 : WF.cell? ⟨w.heap.size, 10, none⟩ = some (.int .i64 0) := FA.2.cell (i := 10) (by omega)
        have q11 : WF.cell? ⟨w.heap.size, 11, none⟩ = some (.slice none 0 0) := FA.2.cell (i := 11) (by omega)
        refine bodyPost_ret (v := .tuple #[siteV X0 S0, .int .i64 8]) (by simp [results, Tryd.results9, go_sem, X0, S0, q0, q1, q2, q3, q4, q5, q6, q7, q8, q9, q10, q11]) rfl ?_
        exact ⟨kept_two K04.out FA.1 (fun g e => by injection e with e; exact .inr (by omega)), .inr ⟨HB.out, rfl⟩⟩

theorem dread_any {w : World} {a : Option Addr} {n c : Nat} {L : List Nat} (h : Come w a n c L) : Calls Tryd.prog 9 #[.slice a n c] w (DReadP w L) := by
  by_cases h4 : n < 4
  · exact drd_short h h4
  · obtain ⟨m, rfl⟩ : ∃ m, n = m + 4 := ⟨n - 4, by omega⟩
    exact drd_long h

end Go.Proofs.YtcjkghajeohfjaaDoor

