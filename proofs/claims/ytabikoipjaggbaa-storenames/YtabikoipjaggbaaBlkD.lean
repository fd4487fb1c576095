/-
  THE CONTRACTS of block.Do, Write (made by a program).
-/
import Derived.Test.YtabikoipjaggbaaBlkC
namespace Go.Proofs.Ytabikoipjaggbaa
open Go.RowKit Go.Lib Go.Deep
set_option linter.unusedVariables false
set_option linter.unusedSimpArgs false

theorem do_bad {a : Option Addr} {n c : Nat} {la : Option Addr} {m : Nat} (lc : Nat) {l : List Pw} (w : World) (hn : n ≤ 9223372036854775807) (hP : Plw w la m l) (wh to : Int) (h : cwE n l ≠ 0) : Calls Try.prog 29 #[dvV a n c, .slice la m lc, .int .i64 wh, .int .i64 to] w fun e w' => e = dvR none 0 0 (cwE n l) ∧ Kept w w' none := by
  obtain ⟨E, HE⟩ : ∃ E, Hid (cwE n l = E) := ⟨_, Hid.mk' rfl⟩
  rw [HE.out] at h ⊢
  have HP := Hid.mk' hP
  clear hP
  go_enter Try.func29, Try.ntmps29
  go_wp2_with (go_at_call 52; refine (cw_any lc _ hn (HP.out.kept ((Kept.alloc _ _ _ _ _).tr (Kept.alloc _ _ _ _ _)))).mono ?_; rw [HE.out]; rintro e w1 ⟨rfl, hk1⟩; have hkA : Kept w w1 none := ((Kept.alloc _ _ _ _ _).tr (Kept.alloc _ _ _ _ _)).tr hk1; have hR := ((db_alloc (w.alloc (.cells (dvC a n c) 24)) none 0 0 24).kept hk1); simp only [World.size_alloc] at hR; have hI := (((db_alloc w a n c 24).kept (Kept.alloc _ (dvC none 0 0) 24 (0, 0) none)).kept hk1).c0; have r0 := hR.c0; have r1 := hR.f0; have r2 := hR.lt)
  refine bodyPost_ret (v := .tuple #[dvV _ _ _, .int .i64 _]) (by simp [results, Try.results29, go_sem, *]; done) rfl ⟨rfl, ?_⟩
  exact hkA.setNew (p := ⟨w.heap.size + 1, 0, none⟩) (show w.heap.size ≤ w.heap.size + 1 by omega) _
theorem do_arga {a : Option Addr} {n c : Nat} {la : Option Addr} {m : Nat} (lc : Nat) {l : List Pw} (w : World) (hn : n ≤ 9223372036854775807) (hP : Plw w la m l) (wh to : Int) (h : cwE n l = 0) (b : wh < 0) : Calls Try.prog 29 #[dvV a n c, .slice la m lc, .int .i64 wh, .int .i64 to] w fun e w' => e = dvR none 0 0 2 ∧ Kept w w' none := by
  have HE := Hid.mk' h
  have HP := Hid.mk' hP
  have hm := hP.max
  clear hP h
  go_enter Try.func29, Try.ntmps29
  go_wp2_with (go_at_call 52; refine (cw_any lc _ hn (HP.out.kept ((Kept.alloc _ _ _ _ _).tr (Kept.alloc _ _ _ _ _)))).mono ?_; rw [HE.out]; rintro e w1 ⟨rfl, hk1⟩; have hkA : Kept w w1 none := ((Kept.alloc _ _ _ _ _).tr (Kept.alloc _ _ _ _ _)).tr hk1; have hR := ((db_alloc (w.alloc (.cells (dvC a n c) 24)) none 0 0 24).kept hk1); simp only [World.size_alloc] at hR; have hI := (((db_alloc w a n c 24).kept (Kept.alloc _ (dvC none 0 0) 24 (0, 0) none)).kept hk1).c0; have r0 := hR.c0; have r1 := hR.f0; have r2 := hR.lt)
  refine bodyPost_ret (v := .tuple #[dvV _ _ _, .int .i64 _]) (by simp [results, Try.results29, go_sem, *]; done) rfl ⟨rfl, ?_⟩
  exact hkA.setNew (p := ⟨w.heap.size + 1, 0, none⟩) (show w.heap.size ≤ w.heap.size + 1 by omega) _
theorem do_argb {a : Option Addr} {n c : Nat} {la : Option Addr} {m : Nat} (lc : Nat) {l : List Pw} (w : World) (hn : n ≤ 9223372036854775807) (hP : Plw w la m l) (wh to : Int) (h : cwE n l = 0) (b : 0 ≤ wh) (b2 : (m : Int) < wh) : Calls Try.prog 29 #[dvV a n c, .slice la m lc, .int .i64 wh, .int .i64 to] w fun e w' => e = dvR none 0 0 2 ∧ Kept w w' none := by
  have HE := Hid.mk' h
  have HP := Hid.mk' hP
  have hm := hP.max
  clear hP h
  go_enter Try.func29, Try.ntmps29
  go_wp2_with (go_at_call 52; refine (cw_any lc _ hn (HP.out.kept ((Kept.alloc _ _ _ _ _).tr (Kept.alloc _ _ _ _ _)))).mono ?_; rw [HE.out]; rintro e w1 ⟨rfl, hk1⟩; have hkA : Kept w w1 none := ((Kept.alloc _ _ _ _ _).tr (Kept.alloc _ _ _ _ _)).tr hk1; have hR := ((db_alloc (w.alloc (.cells (dvC a n c) 24)) none 0 0 24).kept hk1); simp only [World.size_alloc] at hR; have hI := (((db_alloc w a n c 24).kept (Kept.alloc _ (dvC none 0 0) 24 (0, 0) none)).kept hk1).c0; have r0 := hR.c0; have r1 := hR.f0; have r2 := hR.lt)
  refine bodyPost_ret (v := .tuple #[dvV _ _ _, .int .i64 _]) (by simp [results, Try.results29, go_sem, *]; done) rfl ⟨rfl, ?_⟩
  exact hkA.setNew (p := ⟨w.heap.size + 1, 0, none⟩) (show w.heap.size ≤ w.heap.size + 1 by omega) _
theorem do_argc {a : Option Addr} {n c : Nat} {la : Option Addr} {m : Nat} (lc : Nat) {l : List Pw} (w : World) (hn : n ≤ 9223372036854775807) (hP : Plw w la m l) (wh to : Int) (h : cwE n l = 0) (b : 0 ≤ wh) (b2 : wh ≤ (m : Int)) (b3 : to < 0) : Calls Try.prog 29 #[dvV a n c, .slice la m lc, .int .i64 wh, .int .i64 to] w fun e w' => e = dvR none 0 0 2 ∧ Kept w w' none := by
  have HE := Hid.mk' h
  have HP := Hid.mk' hP
  have hm := hP.max
  clear hP h
  go_enter Try.func29, Try.ntmps29
  go_wp2_with (go_at_call 52; refine (cw_any lc _ hn (HP.out.kept ((Kept.alloc _ _ _ _ _).tr (Kept.alloc _ _ _ _ _)))).mono ?_; rw [HE.out]; rintro e w1 ⟨rfl, hk1⟩; have hkA : Kept w w1 none := ((Kept.alloc _ _ _ _ _).tr (Kept.alloc _ _ _ _ _)).tr hk1; have hR := ((db_alloc (w.alloc (.cells (dvC a n c) 24)) none 0 0 24).kept hk1); simp only [World.size_alloc] at hR; have hI := (((db_alloc w a n c 24).kept (Kept.alloc _ (dvC none 0 0) 24 (0, 0) none)).kept hk1).c0; have r0 := hR.c0; have r1 := hR.f0; have r2 := hR.lt)
  refine bodyPost_ret (v := .tuple #[dvV _ _ _, .int .i64 _]) (by simp [results, Try.results29, go_sem, *]; done) rfl ⟨rfl, ?_⟩
  exact hkA.setNew (p := ⟨w.heap.size + 1, 0, none⟩) (show w.heap.size ≤ w.heap.size + 1 by omega) _
theorem do_argd {a : Option Addr} {n c : Nat} {la : Option Addr} {m : Nat} (lc : Nat) {l : List Pw} (w : World) (hn : n ≤ 9223372036854775807) (hP : Plw w la m l) (wh to : Int) (h : cwE n l = 0) (b : 0 ≤ wh) (b2 : wh ≤ (m : Int)) (b3 : 0 ≤ to) (b4 : 64 < to) : Calls Try.prog 29 #[dvV a n c, .slice la m lc, .int .i64 wh, .int .i64 to] w fun e w' => e = dvR none 0 0 2 ∧ Kept w w' none := by
  have HE := Hid.mk' h
  have HP := Hid.mk' hP
  have hm := hP.max
  clear hP h
  go_enter Try.func29, Try.ntmps29
  go_wp2_with (go_at_call 52; refine (cw_any lc _ hn (HP.out.kept ((Kept.alloc _ _ _ _ _).tr (Kept.alloc _ _ _ _ _)))).mono ?_; rw [HE.out]; rintro e w1 ⟨rfl, hk1⟩; have hkA : Kept w w1 none := ((Kept.alloc _ _ _ _ _).tr (Kept.alloc _ _ _ _ _)).tr hk1; have hR := ((db_alloc (w.alloc (.cells (dvC a n c) 24)) none 0 0 24).kept hk1); simp only [World.size_alloc] at hR; have hI := (((db_alloc w a n c 24).kept (Kept.alloc _ (dvC none 0 0) 24 (0, 0) none)).kept hk1).c0; have r0 := hR.c0; have r1 := hR.f0; have r2 := hR.lt)
  refine bodyPost_ret (v := .tuple #[dvV _ _ _, .int .i64 _]) (by simp [results, Try.results29, go_sem, *]; done) rfl ⟨rfl, ?_⟩
  exact hkA.setNew (p := ⟨w.heap.size + 1, 0, none⟩) (show w.heap.size ≤ w.heap.size + 1 by omega) _
theorem do_ok {a : Option Addr} {n c : Nat} {la : Option Addr} {m : Nat} (lc : Nat) {l : List Pw} (w : World) (hn : n ≤ 9223372036854775807) (hP : Plw w la m l) {L : List Nat} (hC : Come w a n c L) (wh to : Nat) (h : cwE n l = 0) (b2 : wh ≤ m) (b4 : to ≤ 64) : Calls Try.prog 29 #[dvV a n c, .slice la m lc, .int .i64 wh, .int .i64 to] w fun e w' => ∃ g, e = dvR (some ⟨g, 0, none⟩) n n 0 ∧ w.heap.size ≤ g ∧ Row w' g (doD l wh to L) ∧ Kept w w' none := by
  have HE := Hid.mk' h
  have HP := Hid.mk' hP
  have hm := hP.max
  have hq : chkE n = 0 ∧ wrE n l = 0 := by
    unfold cwE at h
    by_cases q : chkE n = 0
    · rw [if_pos q] at h; exact ⟨q, h⟩
    · rw [if_neg q] at h; exact absurd h (by decide)
  obtain ⟨q1, q2⟩ := hq
  have hch : n % 64 = 0 ∧ n ≤ 4096 := by
    rcases chk_cases n with ⟨_, x, _, y⟩ | x
    · exact ⟨x, y⟩
    · rw [q1] at x; exact absurd x (by decide)
  have HD := Hid.mk' (fun w' (hk : Kept w w' none) => bdone_any (wh := wh) (to := to) lc w' (hC.kpt hk) (HP.out.kept hk) hch.1 hch.2 q2 b2 b4)
  clear hP h hC q1 q2 hch
  go_enter Try.func29, Try.ntmps29
  go_wp2_with (first | (go_at_call 53; refine (HD.out _ hkA).mono ?_; rintro e w2 ⟨g, rfl, hg, hr, hk2⟩; have hkB := hkA.tr hk2; have hg1 := hkA.size; have HG := Hid.mk' (show w.heap.size + 1 < g by have := hR.lt; omega); have HR2 := Hid.mk' hr; have hS := hR.kept hk2; have s0 := hS.c0; have s1 := hS.f0; have s2 := hS.lt; have HGg := Hid.mk' hg; clear hr hg hg1 r0 r1 r2) | (go_at_call 52; refine (cw_any lc _ hn (HP.out.kept ((Kept.alloc _ _ _ _ _).tr (Kept.alloc _ _ _ _ _)))).mono ?_; rw [HE.out]; rintro e w1 ⟨rfl, hk1⟩; have hkA : Kept w w1 none := ((Kept.alloc _ _ _ _ _).tr (Kept.alloc _ _ _ _ _)).tr hk1; have hR := ((db_alloc (w.alloc (.cells (dvC a n c) 24)) none 0 0 24).kept hk1); simp only [World.size_alloc] at hR; have hI := (((db_alloc w a n c 24).kept (Kept.alloc _ (dvC none 0 0) 24 (0, 0) none)).kept hk1).c0; have r0 := hR.c0; have r1 := hR.f0; have r2 := hR.lt))
  refine bodyPost_ret (v := .tuple #[dvV _ _ _, .int .i64 _]) (by simp [results, Try.results29, go_sem, *]; done) rfl ⟨g, rfl, ?_, ?_, ?_⟩
  · have := HG.out; omega
  · exact HR2.out.far (by have := HG.out; omega) 0 _
  · exact hkB.setNew (p := ⟨w.heap.size + 1, 0, none⟩) (show w.heap.size ≤ w.heap.size + 1 by omega) _
theorem do_any {a : Option Addr} {n c : Nat} {la : Option Addr} {m : Nat} (lc : Nat) {l : List Pw} {L : List Nat} (w : World) (hC : Come w a n c L) (hP : Plw w la m l) (wh to : Int) : Calls Try.prog 29 #[dvV a n c, .slice la m lc, .int .i64 wh, .int .i64 to] w fun e w' => DvP w w' e (doE n l wh to) (doL L l wh to) := by
  have hs := hC.by_.size
  have hn := hC.by_.max
  unfold doL
  rw [hs]
  unfold doE
  have none_ : ∀ (E : Int), (E = 0 → False) → ∀ e w', (e = dvR none 0 0 E ∧ Kept w w' none) → DvP w w' e E (if E = 0 then doD l wh.toNat to.toNat L else []) := by
    rintro E hE e w' ⟨rfl, hk⟩
    rw [if_neg hE]
    exact ⟨⟨_, _, _, rfl, Dv.none _ _⟩, hk⟩
  by_cases h : cwE n l = 0
  · rw [if_pos h, hP.size]
    by_cases b : 0 ≤ wh
    · by_cases b2 : wh ≤ (m : Int)
      · by_cases b3 : 0 ≤ to
        · by_cases b4 : to ≤ 64
          · rw [if_pos ⟨b, b2, b3, b4⟩, if_pos rfl]
            obtain ⟨wh, rfl⟩ := Int.eq_ofNat_of_zero_le b
            obtain ⟨to, rfl⟩ := Int.eq_ofNat_of_zero_le b3
            refine (do_ok lc w hn hP hC wh to h (by omega) (by omega)).mono ?_
            rintro e w' ⟨g, rfl, hg, hr, hk⟩
            have hch : n % 64 = 0 ∧ n ≤ 4096 ∧ wrE n l = 0 := by
              unfold cwE at h
              rcases chk_cases n with ⟨z, x, _, y⟩ | x
              · rw [if_pos z] at h; exact ⟨x, y, h⟩
              · rw [x] at h; rw [if_neg (by decide)] at h; exact absurd h (by decide)
            have hl : (doD l wh to L).length = n := by
              rw [doD_len l wh to L (by rw [hs]; exact wr_ok hch.1 hch.2.2) (by omega), hs]
            have hd := Dv.row hr hg (by rw [hl]; exact hch.2.1) (doD_lt l wh to L hP.lt hC.by_.lt)
            rw [hl] at hd
            exact ⟨⟨_, _, _, rfl, hd⟩, hk⟩
          · rw [if_neg (fun q => b4 q.2.2.2)]
            exact (do_argd lc w hn hP wh to h b b2 b3 (by omega)).mono (none_ 2 (by decide))
        · rw [if_neg (fun q => b3 q.2.2.1)]
          exact (do_argc lc w hn hP wh to h b b2 (by omega)).mono (none_ 2 (by decide))
      · rw [if_neg (fun q => b2 q.2.1)]
        exact (do_argb lc w hn hP wh to h b (by omega)).mono (none_ 2 (by decide))
    · rw [if_neg (fun q => b q.1)]
      exact (do_arga lc w hn hP wh to h (by omega)).mono (none_ 2 (by decide))
  · rw [if_neg h]
    exact (do_bad lc w hn hP wh to h).mono (none_ _ h)

/-! ### Write -/
theorem plw_one {w : World} {a : Option Addr} {n c : Nat} {B : List Nat} (i : Int) (h : Come w a n c B) (t : TypeId) : Plw (w.alloc (.cells #[.int .i64 i, .slice a n c] t)) (some ⟨w.heap.size, 0, none⟩) 1 [⟨i, B⟩] := by
  refine ⟨rfl, by omega, fun _ => ⟨_, 0, rfl, by simp, fun k p hp => ?_⟩⟩
  match k, hp with
  | 0, hp =>
    obtain rfl : (⟨i, B⟩ : Pw) = p := by simpa using hp
    have hs := h.by_.size
    exact ⟨a, c, World.cell?_alloc_mark .., by show World.cell? _ _ = some (.slice a B.length c); rw [hs]; exact World.cell?_alloc_mark .., by show Come _ a B.length c B; rw [hs]; exact h.kpt (Kept.alloc _ _ _ _ _)⟩
  | k + 1, hp => simp at hp
end Go.Proofs.Ytabikoipjaggbaa
