/-
  THE CONTRACTS of link's OfCommand, OfReport and of what their reader reads (made by a program in part).
-/
import Derived.Test.YtnmfigcemknjbaaLnkV
import Derived.Test.YtnmfigcemknjbaaRdrK
namespace Go.Proofs.Ytnmfigcemknjbaa
open Go.RowKit Go.Lib Go.Deep
set_option linter.unusedVariables false
set_option linter.unusedSimpArgs false

theorem lsite_any {w : World} {H b : Nat} {s : Rd} (h : Rdk w H b s) : Calls Try.prog 37 #[.pointer (some ⟨b, 0, none⟩)] w fun e w' => e = .returned (.int .i64 (numK 65535 s).1) ∧ Rdk w' H b (numK 65535 s).2 ∧ Kept w w' (some b) := by
  have hle := upM_le 65535 s
  have HE : Hid ((numK 65535 s).1 = ((upM 65535 s).1 : Int) ∧ (numK 65535 s).2 = (upM 65535 s).2) := ⟨rfl, rfl⟩
  have HU := Hid.mk' (upToK_any h 65535 (by omega))
  clear h
  generalize upM 65535 s = u at *
  go_enter Try.func37, Try.ntmps37
  go_wp2_with (go_at_call 55; refine HU.out.mono ?_; rintro e w2 ⟨rfl, hr2, hk2⟩)
  go_ret
  exact ⟨by rw [HE.out.1]; rfl, by rw [HE.out.2]; exact hr2, hk2⟩
theorem ltick_any {w : World} {H b : Nat} {s : Rd} (h : Rdk w H b s) : Calls Try.prog 49 #[.pointer (some ⟨b, 0, none⟩)] w fun e w' => e = .returned (.int .i64 (numK 1073741824 s).1) ∧ Rdk w' H b (numK 1073741824 s).2 ∧ Kept w w' (some b) := by
  have hle := upM_le 1073741824 s
  have HE : Hid ((numK 1073741824 s).1 = ((upM 1073741824 s).1 : Int) ∧ (numK 1073741824 s).2 = (upM 1073741824 s).2) := ⟨rfl, rfl⟩
  have HU := Hid.mk' (upToK_any h 1073741824 (by omega))
  clear h
  generalize upM 1073741824 s = u at *
  go_enter Try.func49, Try.ntmps49
  go_wp2_with (go_at_call 55; refine HU.out.mono ?_; rintro e w2 ⟨rfl, hr2, hk2⟩)
  go_ret
  exact ⟨by rw [HE.out.1]; rfl, by rw [HE.out.2]; exact hr2, hk2⟩
theorem lload_any {w : World} {H b : Nat} {s : Rd} (h : Rdk w H b s) : Calls Try.prog 51 #[.pointer (some ⟨b, 0, none⟩)] w fun e w' => e = .returned (.int .i64 (numK 70368744177664 s).1) ∧ Rdk w' H b (numK 70368744177664 s).2 ∧ Kept w w' (some b) := by
  have hle := upM_le 70368744177664 s
  have HE : Hid ((numK 70368744177664 s).1 = ((upM 70368744177664 s).1 : Int) ∧ (numK 70368744177664 s).2 = (upM 70368744177664 s).2) := ⟨rfl, rfl⟩
  have HU := Hid.mk' (upToK_any h 70368744177664 (by omega))
  clear h
  generalize upM 70368744177664 s = u at *
  go_enter Try.func51, Try.ntmps51
  go_wp2_with (go_at_call 55; refine HU.out.mono ?_; rintro e w2 ⟨rfl, hr2, hk2⟩)
  go_ret
  exact ⟨by rw [HE.out.1]; rfl, by rw [HE.out.2]; exact hr2, hk2⟩
theorem lmode_any {w : World} {H b : Nat} {s : Rd} (h : Rdk w H b s) : Calls Try.prog 48 #[.pointer (some ⟨b, 0, none⟩)] w fun e w' => e = .returned (.int .u8 ((upM 3 s).1 : Int)) ∧ Rdk w' H b (upM 3 s).2 ∧ Kept w w' (some b) := by
  have hle := upM_le 3 s
  have HE : Hid ((numK 3 s).1 = ((upM 3 s).1 : Int) ∧ (numK 3 s).2 = (upM 3 s).2) := ⟨rfl, rfl⟩
  have HU := Hid.mk' (upToK_any h 3 (by omega))
  clear h
  generalize upM 3 s = u at *
  go_enter Try.func48, Try.ntmps48
  go_wp2_with (go_at_call 55; refine HU.out.mono ?_; rintro e w2 ⟨rfl, hr2, hk2⟩)
  go_ret
  exact ⟨rfl, hr2, hk2⟩
set_option maxRecDepth 100000 in
set_option maxHeartbeats 1000000 in
theorem list_loadK {w : World} {H b : Nat} {s : Rd} (h : Rdk w H b s) (hH : H ≤ w.heap.size) (n : Nat) (hn : n ≤ 24) : Calls Try.prog 50 #[.int .i64 n, .func (.func 51) #[.pointer (some ⟨b, 0, none⟩)] #[]] w fun e w' => e = .returned (.slice (some ⟨w.heap.size, 0, none⟩) n n) ∧ Lie w' (some ⟨w.heap.size, 0, none⟩) n 1 (fun i j => .int .i64 ((listM (numK 70368744177664) n s).1.getD i 0)) ∧ Rdk w' H b (listM (numK 70368744177664) n s).2 ∧ Kept w w' (some b) := by
  obtain ⟨i0, hi0, hz0, hz1, hz2⟩ := info_parts (show (Try.prog.info? 2).map (fun i => (i.zero, i.size, i.bytes)) = some (some (.int .i64 0), 1, 8) from by kernel_rfl)
  have hmk := run_make (P := Try.prog) w 43 2 i0 _ (by kernel_rfl) hi0 hz0 .i64 .i64 n n (by omega) (Int.le_refl _) (by rw [hz2]; omega) (by omega)
  rw [hz1, Int.toNat_natCast] at hmk
  have hrow0 := madeRow w (Value.cells (.int .i64 0)) (n * 1) 2
  have hr0 := h.kept (Kept.alloc w (madeCells (Value.cells (.int .i64 0)) (n * 1)) 2 (0, 0) none) (fun i e => by cases e)
  have hk0 : Kept w (w.alloc (.cells (madeCells (Value.cells (.int .i64 0)) (n * 1)) 2)) (some b) := Kept.alloc _ _ _ _ _
  have hbl := h.lt
  have hbs : some w.heap.size ≠ some b := fun e => by injection e; omega
  generalize hW0 : w.alloc (.cells (madeCells (Value.cells (.int .i64 0)) (n * 1)) 2) = W0 at *
  have HR0 := Hid.mk' hr0
  have HRow0 := Hid.mk' hrow0
  clear h hr0 hrow0 hW0
  go_enter Try.func50, Try.ntmps50
  go_wp2
  clear hmk
  go_loopw [11] (fun i wr => ∃ k : Nat, k ≤ n ∧ i = .int .i64 k ∧ (∃ f, wr.rowIs w.heap.size 2 (n * 1) f ∧ ∀ i, i < k → ∀ j, j < 1 → f (i * 1 + j) = (fun i j => .int .i64 ((listM (numK 70368744177664) k s).1.getD i 0)) i j) ∧ Rdk wr H b (listM (numK 70368744177664) k s).2 ∧ Kept w wr (some b)) (fun i _ => n - (intOf i).toNat)
  case atStart => exact ⟨0, Nat.zero_le _, rfl, ⟨_, HRow0.out, fun i hi => by omega⟩, HR0.out, hk0⟩
  case round =>
    obtain ⟨k, hk, rfl, ⟨f, hrow, hf⟩, hr, hkw⟩ := hrel
    by_cases hlt : k < n
    · have hcall := lload_any hr
      have hsn := listM_snoc (numK 70368744177664) k s
      have hlen := listM_len (numK 70368744177664) k s
      have HF := Hid.mk' hf
      have HROW := Hid.mk' hrow
      have HSN := Hid.mk' hsn
      have HLEN := Hid.mk' hlen
      have HCALL := Hid.mk' hcall
      clear hf hrow hsn hlen hcall hr
      generalize hx : ((numK 70368744177664) (listM (numK 70368744177664) k s).2).1 = x at *
      clear hx
      go_wp2_with (refine HCALL.out.mono ?_; rintro e w2 ⟨rfl, hr2, hk2⟩; have hrow2 := row_kept HROW.out hk2 hbs; have k0 := hrow2.cell (i := k) (by have := idx_lt (j := 0) hlt (show 0 < 1 by omega); omega); have z0 := hrow2.frozen (k))
      go_roundw
      case rel =>
        refine ⟨k + 1, by omega, by go_num, ⟨_, (World.rowIs.set hrow2 (k) (.int .i64 x)), fun i hi j hj => ?_⟩, by rw [HSN.out]; exact (hr2.setNew hH (k) _), (kept_new (hkw.tr hk2) (Nat.le_refl _) (k) _)⟩
        rw [HSN.out]
        by_cases hik : i = k
        · subst hik
          have : j = 0 := by omega
          try dsimp only
          rw [getD_snoc_eq HLEN.out.symm]
          subst this; simp
        · have hne := fun q => idx_ne (q := q) (show i < k by omega) hj
          try dsimp only
          rw [getD_snoc_lt (by rw [HLEN.out]; omega)]
          have h0 := HF.out i (by omega) j hj
          try dsimp only at h0
          rw [← h0]
          rw [if_neg (by have := hne 0; omega)]
      case measure => simp [intOf]; omega
    · have hkk : k = n := by omega
      subst hkk
      have HL := Hid.mk' (lie_row hrow hf)
      clear hf hrow
      go_wp2
      go_ret
      exact ⟨rfl, HL.out, hr, hkw⟩
theorem listM_all {α : Type} {P : α → Prop} (f : Rd → α × Rd) (h : ∀ s, P (f s).1) : ∀ n s, ∀ x ∈ (listM f n s).1, P x
  | 0, s, x, hx => by simp [listM] at hx
  | n + 1, s, x, hx => by
    rw [listM_snoc] at hx
    rcases List.mem_append.1 hx with hx | hx
    · exact listM_all f h n s x hx
    · rw [List.mem_singleton.1 hx]; exact h _
theorem rdk_new {w : World} {a : Option Addr} {n c : Nat} {L : List Nat} (h : Come w a n c L) (t : TypeId) : Rdk (w.alloc (.cells #[.slice a n c, .bool false] t)) (w.heap.size + 1) w.heap.size (L, false) := by
  refine ⟨⟨a, n, c, by go_simp, h.keptR (Kept.alloc _ _ _ (0, 0) none) (fun _ _ _ => by simp), fun hp x hx => ?_⟩, by go_simp, by go_simp, by go_simp, by omega⟩
  obtain ⟨b, off, e, hb, _⟩ := h.by_.at_ hp
  rw [hx] at e
  injection e with e
  subst e
  dsimp only
  omega
/-- Four cells of a box of one's own. -/
abbrev RA (w : World) (b : Nat) (T : TypeId) (v0 v1 v2 v3 : Value) : Prop := w.rowIs b T 4 (fun i => if i = 0 then v0 else if i = 1 then v1 else if i = 2 then v2 else v3)
theorem ra_alloc (w : World) (T : TypeId) (v0 v1 v2 v3 : Value) : RA (w.alloc (.cells #[v0, v1, v2, v3] T)) w.heap.size T v0 v1 v2 v3 :=
  World.rowIs_alloc w _ _ _ (fun i hi => by
    have : i = 0 ∨ i = 1 ∨ i = 2 ∨ i = 3 := by simp at hi; omega
    rcases this with rfl | rfl | rfl | rfl <;> rfl)
structure RAc (w : World) (b : Nat) (v0 v1 v2 v3 : Value) : Prop where
  c0 : w.cell? ⟨b, 0, none⟩ = some v0
  c1 : w.cell? ⟨b, 1, none⟩ = some v1
  c2 : w.cell? ⟨b, 2, none⟩ = some v2
  c3 : w.cell? ⟨b, 3, none⟩ = some v3
  f0 : w.frozen? ⟨b, 0, none⟩ = false
  f1 : w.frozen? ⟨b, 1, none⟩ = false
  f2 : w.frozen? ⟨b, 2, none⟩ = false
  f3 : w.frozen? ⟨b, 3, none⟩ = false
  lt : b < w.heap.size
theorem ra_cells {w : World} {b : Nat} {T : TypeId} {v0 v1 v2 v3 : Value} (h : RA w b T v0 v1 v2 v3) : RAc w b v0 v1 v2 v3 :=
  ⟨h.cell (i := 0) (by omega), h.cell (i := 1) (by omega), h.cell (i := 2) (by omega), h.cell (i := 3) (by omega), h.frozen 0, h.frozen 1, h.frozen 2, h.frozen 3, h.lt⟩
theorem ra_set3 {w : World} {b : Nat} {T : TypeId} {v0 v1 v2 v3 : Value} (h : RA w b T v0 v1 v2 v3) (v : Value) : RA (w.setCell ⟨b, 3, none⟩ v) b T v0 v1 v2 v :=
  (h.set 3 v).congr (fun i hi => by
    have : i = 0 ∨ i = 1 ∨ i = 2 ∨ i = 3 := by omega
    rcases this with rfl | rfl | rfl | rfl <;> rfl)
theorem kept_set4 (w : World) (b : Nat) (v0 v1 v2 v3 : Value) : Kept w ((((w.setCell ⟨b, 0, none⟩ v0).setCell ⟨b, 1, none⟩ v1).setCell ⟨b, 2, none⟩ v2).setCell ⟨b, 3, none⟩ v3) (some b) :=
  (((kept_setZ _ _ _ _).tr (kept_setZ _ _ _ _)).tr (kept_setZ _ _ _ _)).tr (kept_setZ _ _ _ _)
theorem row_ne {w w' : World} {b g n : Nat} {T : TypeId} {f : Nat → Value} (h : w.rowIs b T n f) (k : Kept w w' (some g)) (hne : b ≠ g) : w'.rowIs b T n f := row_kept h k (fun e => hne (by injection e))
theorem size_al {w w' : World} {cs : Array Value} {t : TypeId} {r : Option Nat} (k : Kept (w.alloc (.cells cs t)) w' r) : w.heap.size + 1 ≤ w'.heap.size := by have := k.size; rwa [World.size_alloc] at this
theorem ext_row {w W w' : World} {g : Nat} (h : Kept w W none) (k : Kept W w' (some g)) (hg : w.heap.size ≤ g) : Kept w w' none := kept_rowL h k (fun i e => by injection e with e; omega)
def OfcP (w : World) (b : List Nat) (e : Ending) (w' : World) : Prop := ∃ a' k', e = .returned (.tuple #[cmV (ofcC b) a' k', .int .i64 (ofcE b)]) ∧ Cok w' (ofcC b) a' k' ∧ Kept w w' none
theorem OfcP.no {w w' : World} {b : List Nat} (h : ofcB b = false) (k : Kept w w' none) : OfcP w b (.returned (.tuple #[cmV cm0 none 0, .int .i64 8])) w' := by
  have h1 : ofcC b = cm0 := if_neg (by rw [h]; decide)
  have h2 : ofcE b = 8 := if_neg (by rw [h]; decide)
  refine ⟨none, 0, by rw [h1, h2], ?_, k⟩
  rw [h1]
  exact ⟨⟨⟨fun hp => absurd hp (by show ¬ (0 < 0); omega)⟩, rfl, ⟨fun _ => ⟨rfl, rfl⟩, Nat.le_refl _, by omega⟩, fun x hx => nomatch hx⟩, by unfold i64B; decide, by unfold i64B; decide, by unfold i64B; decide⟩
theorem OfcP.yes {w w' : World} {b : List Nat} {c : Cm} {a : Option Addr} {k : Nat} (h : ofcB b = true) (hc : ofcC b = c) (h3 : Cok w' c a k) (q : Kept w w' none) : OfcP w b (.returned (.tuple #[cmV c a k, .int .i64 0])) w' := by
  have h2 : ofcE b = 0 := if_pos h
  exact ⟨a, k, by rw [hc, h2], by rw [hc]; exact h3, q⟩
set_option maxRecDepth 100000 in
set_option maxHeartbeats 8000000 in
theorem lofc_any {w : World} {a : Option Addr} {n c : Nat} {L : List Nat} (h : Come w a n c L) : Calls Try.prog 14 #[.slice a n c] w fun e w' => OfcP w L e w' := by
  have HC := Hid.mk' h
  clear h
  obtain ⟨x1, s1, e1⟩ : ∃ x s, numK 65535 (L, false) = (x, s) := ⟨_, _, rfl⟩
  obtain ⟨x2, s2, e2⟩ : ∃ x s, numM s1 = (x, s) := ⟨_, _, rfl⟩
  obtain ⟨x3, s3, e3⟩ : ∃ x s, numM s2 = (x, s) := ⟨_, _, rfl⟩
  obtain ⟨n4, s4, e4⟩ : ∃ x s, upM 8 s3 = (x, s) := ⟨_, _, rfl⟩
  obtain ⟨sp, s5, e5⟩ : ∃ x s, listM numM n4 s4 = (x, s) := ⟨_, _, rfl⟩
  have hsl : sp.length = n4 := by have := listM_len numM n4 s4; rw [e5] at this; exact this
  subst hsl
  have hn8 : sp.length ≤ 8 := by have := upM_le 8 s3; rw [e4] at this; exact this
  have hx1 : 0 ≤ x1 ∧ x1 ≤ 65535 := by have := upM_le 65535 (L, false); have e : x1 = ((upM 65535 (L, false)).1 : Int) := (congrArg Prod.fst e1).symm; omega
  have hnm : ∀ s, 0 ≤ (numM s).1 ∧ (numM s).1 ≤ 1048576 := fun s => by have := upM_le 1048576 s; show 0 ≤ ((upM 1048576 s).1 : Int) ∧ ((upM 1048576 s).1 : Int) ≤ 1048576; omega
  have hx2 : 0 ≤ x2 ∧ x2 ≤ 1048576 := by have := hnm s1; rw [e2] at this; exact this
  have hx3 : 0 ≤ x3 ∧ x3 ≤ 1048576 := by have := hnm s2; rw [e3] at this; exact this
  have hsp : ∀ x ∈ sp, 0 ≤ x ∧ x ≤ 1048576 := by have := listM_all (P := fun x => 0 ≤ x ∧ x ≤ 1048576) numM hnm sp.length s4; rw [e5] at this; exact this
  have HCM : Hid (cmM (L, false) = (⟨x1, ⟨x2, x3, sp⟩⟩, s5)) := Hid.mk' (by
    show ((⟨(numK 65535 (L, false)).1, ⟨(numM (numK 65535 (L, false)).2).1, (numM (numM (numK 65535 (L, false)).2).2).1, (listM numM (upM 8 (numM (numM (numK 65535 (L, false)).2).2).2).1 (upM 8 (numM (numM (numK 65535 (L, false)).2).2).2).2).1⟩⟩ : Cm), (listM numM (upM 8 (numM (numM (numK 65535 (L, false)).2).2).2).1 (upM 8 (numM (numM (numK 65535 (L, false)).2).2).2).2).2) = _
    rw [e1, e2, e3, e4, e5])
  have HE := Hid.mk' (show numK 65535 (L, false) = (x1, s1) ∧ numM s1 = (x2, s2) ∧ numM s2 = (x3, s3) ∧ upM 8 s3 = (sp.length, s4) ∧ listM numM sp.length s4 = (sp, s5) from ⟨e1, e2, e3, e4, e5⟩)
  have HX := Hid.mk' (show (0 ≤ x1 ∧ x1 ≤ 65535) ∧ (0 ≤ x2 ∧ x2 ≤ 1048576) ∧ (0 ≤ x3 ∧ x3 ≤ 1048576) ∧ ∀ x ∈ sp, 0 ≤ x ∧ x ≤ 1048576 from ⟨hx1, hx2, hx3, hsp⟩)
  clear e1 e2 e3 e4 e5 hx1 hx2 hx3 hsp hnm
  go_enter Try.func14, Try.ntmps14
  go_wp2_with (first
    | (have hgo := P5; clear hgo; go_at_call 39; have hc := list_intK R5.out (Nat.le_trans H5.out (Nat.le_refl _)) sp.length (by omega); rw [HE.out.2.2.2.2] at hc; refine hc.mono ?_; rintro e w6 ⟨rfl, hl6, hr6, hk6⟩; dsimp only at *; have P6 := Hid.mk' trivial; have L6 := Hid.mk' hl6; have R6 := Hid.mk' hr6; have K6 := Hid.mk' (ext_row K5.out hk6 HBW.out); have A6 := Hid.mk' (row_ne A5.out hk6 (Nat.ne_of_lt HAB.out)); have B6 := Hid.mk' (row_ne B5.out hk6 (Nat.ne_of_gt HBB.out)); obtain ⟨c0, c1, c2, c3, f0, f1, f2, f3, lt⟩ := ra_cells B6.out; clear hl6 hr6 hk6 P5)
    | (have hgo := P4; clear hgo; go_at_call 40; have hc := manyK_any (R4.out.kept (r := none) (Kept.alloc w4 #[.int .i64 x1, .int .i64 x2, .int .i64 x3, .slice none 0 0] 39 (0, 0) none) (by intro i hi; cases hi)) 8 (by omega); rw [HE.out.2.2.2.1] at hc; refine hc.mono ?_; rintro e w5 ⟨rfl, hr5, hk5⟩; dsimp only at *; have P5 := Hid.mk' trivial; have R5 := Hid.mk' hr5; have B5 := Hid.mk' (row_ne (ra_alloc w4 39 (.int .i64 x1) (.int .i64 x2) (.int .i64 x3) (.slice none 0 0)) hk5 (Nat.ne_of_gt H4.out)); have K5 := Hid.mk' (ext_row (K4.out.tr (Kept.alloc _ _ _ _ _)) hk5 HBW.out); have A5 := Hid.mk' (row_ne ((A4.out).alloc _) hk5 (Nat.ne_of_lt HAB.out)); have HBB : Hid (w1.heap.size < w4.heap.size) := Hid.mk' H4.out; have H54 : Hid (w4.heap.size < w5.heap.size) := Hid.mk' (size_al hk5); have HWB : Hid (w.heap.size < w5.heap.size) := Hid.mk' (Nat.lt_of_le_of_lt K4.out.size (size_al hk5)); have H5 : Hid (w1.heap.size + 1 ≤ w5.heap.size) := Hid.mk' (Nat.le_trans H4.out (Nat.le_trans (Nat.le_succ _) (size_al hk5))); clear hr5 hk5 P4)
    | (have hgo := P3; clear hgo; go_at_call 38; have hc := numberK_any R3.out; rw [HE.out.2.2.1] at hc; refine hc.mono ?_; rintro e w4 ⟨rfl, hr4, hk4⟩; dsimp only at *; have P4 := Hid.mk' trivial; have R4 := Hid.mk' hr4; have K4 := Hid.mk' (ext_row K3.out hk4 HBW.out); have A4 := Hid.mk' (row_ne A3.out hk4 (Nat.ne_of_lt HAB.out)); have H4 : Hid (w1.heap.size + 1 ≤ w4.heap.size) := Hid.mk' (Nat.le_trans H3.out hk4.size); clear hr4 hk4 P3)
    | (have hgo := P2; clear hgo; go_at_call 38; have hc := numberK_any R2.out; rw [HE.out.2.1] at hc; refine hc.mono ?_; rintro e w3 ⟨rfl, hr3, hk3⟩; dsimp only at *; have P3 := Hid.mk' trivial; have R3 := Hid.mk' hr3; have K3 := Hid.mk' (ext_row K2.out hk3 HBW.out); have A3 := Hid.mk' (row_ne A2.out hk3 (Nat.ne_of_lt HAB.out)); have H3 : Hid (w1.heap.size + 1 ≤ w3.heap.size) := Hid.mk' (Nat.le_trans H2.out hk3.size); clear hr3 hk3 P2)
    | (have hgo := P1; clear hgo; go_at_call 37; have hc := lsite_any (rdk_new (HC.out.keptL K1.out) 87); rw [HE.out.1] at hc; refine hc.mono ?_; rintro e w2 ⟨rfl, hr2, hk2⟩; dsimp only at *; have P2 := Hid.mk' trivial; have R2 := Hid.mk' hr2; have HBW : Hid (w.heap.size ≤ w1.heap.size) := Hid.mk' K1.out.size; have HAB : Hid (w.heap.size < w1.heap.size) := Hid.mk' (World.rowIs.lt A1.out); have K2 := Hid.mk' (ext_row (K1.out.tr (Kept.alloc _ _ _ _ _)) hk2 HBW.out); have A2 := Hid.mk' (row_ne ((A1.out).alloc _) hk2 (Nat.ne_of_lt HAB.out)); have H2 : Hid (w1.heap.size + 1 ≤ w2.heap.size) := Hid.mk' (size_al hk2); clear hr2 hk2 P1)
    | (go_at_call 36; refine readerOf_any.mono ?_; rintro e w1 ⟨rfl, hk1⟩; dsimp only at *; have P1 := Hid.mk' trivial; have K1 := Hid.mk' ((Kept.alloc w #[.int .i64 0, .int .i64 0, .int .i64 0, .slice none 0 0] 39 (0, 0) none).tr hk1); have A1 := Hid.mk' (row_kept (ra_alloc w 39 (.int .i64 0) (.int .i64 0) (.int .i64 0) (.slice none 0 0)) hk1 (by simp)); clear hk1))
  have H45 : Hid (w4.heap.size < w5.heap.size) := Hid.mk' H54.out
  have hkS : Kept w6 (w6.setCell ⟨w4.heap.size, 3, none⟩ (.slice (some ⟨w5.heap.size, 0, none⟩) sp.length sp.length)) (some w4.heap.size) := kept_setZ _ _ _ _
  have HR7 := Hid.mk' (R6.out.setNew H4.out 3 (.slice (some ⟨w5.heap.size, 0, none⟩) sp.length sp.length))
  have HB7 := Hid.mk' (ra_set3 B6.out (.slice (some ⟨w5.heap.size, 0, none⟩) sp.length sp.length))
  have HA7 := Hid.mk' (row_ne A6.out hkS (by have h1 := HAB.out; have h2 := HBB.out; omega))
  have HK7 := Hid.mk' (ext_row K6.out hkS (by have h1 := HBW.out; have h2 := HBB.out; omega))
  have HI7 : Hid (Ints (w6.setCell ⟨w4.heap.size, 3, none⟩ (.slice (some ⟨w5.heap.size, 0, none⟩) sp.length sp.length)) (some ⟨w5.heap.size, 0, none⟩) sp.length sp.length sp) := Hid.mk' ⟨L6.out.keptR hkS (fun hp x hx e => by injection hx with hx; subst hx; injection e with e; have := H45.out; dsimp only at e; omega), rfl, ⟨fun e => (nomatch e), Nat.le_refl _, by omega⟩, fun x hx => by have := HX.out.2.2.2 x hx; omega⟩
  clear hkS c0 c1 c2 c3 f0 f1 f2 f3 lt L6 A6 B6 R6 K6
  generalize (w6.setCell ⟨w4.heap.size, 3, none⟩ (.slice (some ⟨w5.heap.size, 0, none⟩) sp.length sp.length)) = W7 at HR7 HB7 HA7 HK7 HI7 ⊢
  generalize hBC : w4.heap.size = BC at *
  generalize hBR : w1.heap.size = BR at *
  clear hBC hBR
  refine (doneK_any HR7.out).mono ?_
  rintro e w8 ⟨rfl, rfl⟩
  have HOC : Hid (Cok w8 ⟨x1, ⟨x2, x3, sp⟩⟩ (some ⟨w5.heap.size, 0, none⟩) sp.length) := Hid.mk' ⟨HI7.out, by unfold i64B; have := HX.out.2.1; dsimp only; omega, by unfold i64B; have := HX.out.2.2.1; dsimp only; omega, by unfold i64B; have := HX.out.1; dsimp only; omega⟩
  obtain ⟨a0, a1, a2, a3, g0, g1, g2, g3, alt⟩ := ra_cells HA7.out
  obtain ⟨b0, b1, b2, b3, _, _, _, _, blt⟩ := ra_cells HB7.out
  cases hd : doneB s5 with
  | false =>
    have HB : Hid (ofcB L = false) := Hid.mk' (by unfold ofcB; rw [HCM.out]; dsimp only; rw [hd]; rfl)
    have hKF := Hid.mk' (kept_rowL HK7.out (kept_set4 w8 w.heap.size (.int .i64 0) (.int .i64 0) (.int .i64 0) (.slice none 0 0)) (fun g e => by injection e with e; omega))
    dsimp only
    go_wp2
    refine bodyPost_ret (v := .tuple #[cmV cm0 none 0, .int .i64 8]) (by simp [results, Try.results14, go_sem, q0, *]; done) rfl ?_
    exact OfcP.no HB.out hKF.out
  | true =>
    by_cases hE : cmE ⟨x1, ⟨x2, x3, sp⟩⟩ = 0
    · have HB : Hid (ofcB L = true ∧ ofcC L = ⟨x1, ⟨x2, x3, sp⟩⟩) := Hid.mk' (by
        have h1 : ofcB L = true := by unfold ofcB; rw [HCM.out]; dsimp only; rw [hd, hE]; rfl
        exact ⟨h1, by unfold ofcC; rw [if_pos h1, HCM.out]⟩)
      have HE0 := Hid.mk' hE
      clear hE
      dsimp only
      go_wp2_with (go_at_call 34; refine (lcheckC_any ⟨x1, ⟨x2, x3, sp⟩⟩ HOC.out).mono ?_; rw [HE0.out]; rintro e w9 ⟨rfl, hk9⟩; have HKF := Hid.mk' (kept_rowL (HK7.out.tr hk9) (kept_set4 w9 w.heap.size (.int .i64 x1) (.int .i64 x2) (.int .i64 x3) (.slice (some ⟨w5.heap.size, 0, none⟩) sp.length sp.length)) (fun g e => by injection e with e; omega)); have HOF := Hid.mk' ((HOC.out.kept hk9).ints.keptR (kept_set4 w9 w.heap.size (.int .i64 x1) (.int .i64 x2) (.int .i64 x3) (.slice (some ⟨w5.heap.size, 0, none⟩) sp.length sp.length)) (fun hp x hx e => by injection hx with hx; subst hx; injection e with e; have := HWB.out; dsimp only at e; omega)); obtain ⟨a0, a1, a2, a3, g0, g1, g2, g3, alt⟩ := ra_cells (row_kept HA7.out hk9 (by simp)); obtain ⟨b0, b1, b2, b3, _, _, _, _, blt⟩ := ra_cells (row_kept HB7.out hk9 (by simp)); clear hk9)
      refine bodyPost_ret (v := .tuple #[cmV ⟨x1, ⟨x2, x3, sp⟩⟩ (some ⟨w5.heap.size, 0, none⟩) sp.length, .int .i64 0]) (by simp [results, Try.results14, go_sem, *]; done) rfl ?_
      exact OfcP.yes HB.out.1 HB.out.2 ⟨HOF.out, HOC.out.cyc, HOC.out.off, HOC.out.site⟩ HKF.out
    · have HB : Hid (ofcB L = false) := Hid.mk' (by unfold ofcB; rw [HCM.out]; dsimp only; rw [hd, decide_eq_false hE]; rfl)
      have hne : (cmE ⟨x1, ⟨x2, x3, sp⟩⟩ != 0) = true := by simpa using hE
      clear hE
      dsimp only
      go_wp2_with (go_at_call 34; refine (lcheckC_any ⟨x1, ⟨x2, x3, sp⟩⟩ HOC.out).mono ?_; rintro e w9 ⟨rfl, hk9⟩; have HKF := Hid.mk' (kept_rowL (HK7.out.tr hk9) (kept_set4 w9 w.heap.size (.int .i64 0) (.int .i64 0) (.int .i64 0) (.slice none 0 0)) (fun g e => by injection e with e; omega)); obtain ⟨a0, a1, a2, a3, g0, g1, g2, g3, alt⟩ := ra_cells (row_kept HA7.out hk9 (by simp)); clear hk9)
      refine bodyPost_ret (v := .tuple #[cmV cm0 none 0, .int .i64 8]) (by simp [results, Try.results14, go_sem, q0, *]; done) rfl ?_
      exact OfcP.no HB.out HKF.out

end Go.Proofs.Ytnmfigcemknjbaa
