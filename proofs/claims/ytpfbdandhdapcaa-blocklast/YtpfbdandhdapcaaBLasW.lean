/-
  BLOCKLAST'S WALK (made by a program).
-/
import Derived.Test.YtpfbdandhdapcaaBlkE
namespace Go.Proofs.Ytpfbdandhdapcaa
open Go.RowKit Go.Lib Go.Deep
set_option linter.unusedVariables false
set_option linter.unusedSimpArgs false

/-- What a write that goes leaves to be read. -/
theorem last_math {n : Nat} {L B : List Nat} {i : Int} (hl : L.length = n) (hE : doE n [⟨i, B⟩] 1 0 = 0) : brE n i = 0 ∧ brL (doL L [⟨i, B⟩] 1 0) i = B ∧ (doL L [⟨i, B⟩] 1 0).length = n ∧ ∀ j, j ≠ i → brL (doL L [⟨i, B⟩] 1 0) j = brL L j := by
  have h1 : cwE n [⟨i, B⟩] = 0 := by
    unfold doE at hE
    by_cases q : cwE n [⟨i, B⟩] = 0
    · exact q
    · rw [if_neg q] at hE; exact absurd hE q
  have h2 : chkE n = 0 ∧ wrE n [⟨i, B⟩] = 0 := by
    unfold cwE at h1
    by_cases q : chkE n = 0
    · rw [if_pos q] at h1; exact ⟨q, h1⟩
    · rw [if_neg q] at h1; exact absurd h1 (by decide)
  obtain ⟨hc, hw⟩ := h2
  have hc2 : n % 64 = 0 ∧ 64 ≤ n ∧ n ≤ 4096 := by
    rcases chk_cases n with ⟨_, h⟩ | h
    · exact h
    · rw [hc] at h; exact absurd h (by decide)
  obtain ⟨q1, q2, q3⟩ := wr_ok hc2.1 hw ⟨i, B⟩ (by simp)
  dsimp only at q1 q2 q3
  have hhas : hasV n i = true := (has_iff hc2.1).2 ⟨q1, q2⟩
  have e1 : brE n i = 0 := by unfold brE; rw [if_pos hc, if_pos hhas]
  have eL : doL L [⟨i, B⟩] 1 0 = wrD L B i.toNat 64 := by
    unfold doL
    rw [hl, if_pos hE]
    rfl
  have el : (wrD L B i.toNat 64).length = n := by rw [wrD_len (by omega) q3 (by omega), hl]
  rw [eL]
  refine ⟨e1, ?_, el, fun j hj => ?_⟩
  · unfold brL
    rw [el, if_pos e1]
    exact blD_same (by omega) q3
  · unfold brL
    rw [el, hl]
    by_cases q : brE n j = 0
    · rw [if_pos q, if_pos q]
      have hh : hasV n j = true := by
        unfold brE at q
        rw [if_pos hc] at q
        by_cases z : hasV n j = true
        · exact z
        · rw [if_neg z] at q; exact absurd q (by decide)
      obtain ⟨r1, r2⟩ := (has_iff hc2.1).1 hh
      exact blD_other (by omega) q3 (by omega) (by omega) (by omega)
    · rw [if_neg q, if_neg q]
theorem last_write {a b : Option Addr} {n c q d : Nat} {L B : List Nat} {i : Int} (w : World) (hC : Come w a n c L) (hB : Come w b q d B) (hE : doE n [⟨i, B⟩] 1 0 = 0) : Calls Try.prog 10 #[dvV a n c, .int .i64 i, .slice b q d] w fun e w' => ∃ a2 c2 L', e = dvR a2 n c2 0 ∧ Hid (Come w' a2 n c2 L') ∧ Hid (brL L' i = B) ∧ Hid (∀ j, j ≠ i → brL L' j = brL L j) ∧ Kept w w' none := by
  refine (write_any w hC i hB).mono ?_
  rintro e w' ⟨⟨a2, n2, c2, rfl, hd⟩, hk⟩
  obtain ⟨m1, m2, m3, m4⟩ := last_math hC.by_.size hE
  obtain rfl : n2 = n := by rw [← hd.size, m3]
  rw [hE]
  exact ⟨a2, c2, _, rfl, Hid.mk' hd.come, Hid.mk' m2, Hid.mk' m4, hk⟩
theorem last_none {a b : Option Addr} {n c q d : Nat} {L B : List Nat} {i : Int} (w : World) (hC : Come w a n c L) (hB : Come w b q d B) (hE : ¬ doE n [⟨i, B⟩] 1 0 = 0) : Calls Try.prog 10 #[dvV a n c, .int .i64 i, .slice b q d] w fun e w' => ∃ a2 c2 E, e = dvR a2 0 c2 E ∧ ¬ E = 0 ∧ Kept w w' none := by
  refine (write_any w hC i hB).mono ?_
  rintro e w' ⟨⟨a2, n2, c2, rfl, hd⟩, hk⟩
  obtain rfl : n2 = 0 := by
    have := hd.size
    unfold doL at this
    rw [hC.by_.size, if_neg hE] at this
    simpa using this.symm
  exact ⟨a2, c2, _, rfl, hE, hk⟩
theorem last_read {a : Option Addr} {n c : Nat} {L : List Nat} (w : World) (hC : Come w a n c L) (i : Int) {M : List Nat} {E : Int} (hM : brL L i = M) (hE : brE n i = E) : Calls Try.prog 12 #[dvV a n c, .int .i64 i] w fun e w' => ∃ a' n' c', e = slR a' n' c' E ∧ Hid (Come w' a' n' c' M) ∧ Kept w w' none := by
  refine (bread_any hC i).mono ?_
  rintro e w' ⟨⟨a2, n2, c2, rfl, hd⟩, hk⟩
  rw [hE]
  rw [hM] at hd
  exact ⟨a2, n2, c2, rfl, Hid.mk' hd.come, hk⟩
theorem last_big {a : Option Addr} {n c : Nat} {L : List Nat} {b : Option Addr} {q d : Nat} {B : List Nat} (i j : Int) (w : World) (hC : Come w a n c L) (hB : Come w b q d B) (h : 10000 < n) : Calls Try.prog 5 #[dvV a n c, .int .i64 i, .int .i64 j, .slice b q d] w fun e w' => e = .returned (.bool true) ∧ Kept w w' none := by
  have HC := Hid.mk' hC
  have HB := Hid.mk' hB
  have hn := hC.by_.max
  have hq := hB.by_.max
  clear hC hB
  have h' : (10000 : Int) < n := by omega
  go_enter Try.func5, Try.ntmps5
  go_wp2_with (go_at_call 14; refine (alive_any _).mono ?_; rintro e w1 ⟨rfl, hk1⟩; have hD1 := (db_alloc w a n c 24).kept hk1; have c1 := hD1.c0; have lt1 := hD1.lt; have HD1 := Hid.mk' hD1; have HK1 := Hid.mk' ((Kept.alloc w (dvC a n c) 24 (0, 0) none).tr hk1); clear hD1)
  go_ret
  exact ⟨rfl, HK1.out⟩
theorem last_len {a : Option Addr} {n c : Nat} {L : List Nat} {b : Option Addr} {q d : Nat} {B : List Nat} (i j : Int) (w : World) (hC : Come w a n c L) (hB : Come w b q d B) (h : ¬ 10000 < n) (h2 : ¬ q = 64) : Calls Try.prog 5 #[dvV a n c, .int .i64 i, .int .i64 j, .slice b q d] w fun e w' => e = .returned (.bool true) ∧ Kept w w' none := by
  have HC := Hid.mk' hC
  have HB := Hid.mk' hB
  have hn := hC.by_.max
  have hq := hB.by_.max
  clear hC hB
  have h' : ¬ (10000 : Int) < n := by omega
  have h2' : ((q : Int) != 64) = true := by simp; omega
  go_enter Try.func5, Try.ntmps5
  go_wp2_with (go_at_call 14; refine (alive_any _).mono ?_; rintro e w1 ⟨rfl, hk1⟩; have hD1 := (db_alloc w a n c 24).kept hk1; have c1 := hD1.c0; have lt1 := hD1.lt; have HD1 := Hid.mk' hD1; have HK1 := Hid.mk' ((Kept.alloc w (dvC a n c) 24 (0, 0) none).tr hk1); clear hD1)
  go_ret
  exact ⟨rfl, HK1.out⟩
theorem last_err {a : Option Addr} {n c : Nat} {L : List Nat} {b : Option Addr} {q d : Nat} {B : List Nat} (i j : Int) (w : World) (hC : Come w a n c L) (hB : Come w b q d B) (h : ¬ 10000 < n) (h2 : q = 64) (hE : ¬ doE n [⟨i, B⟩] 1 0 = 0) : Calls Try.prog 5 #[dvV a n c, .int .i64 i, .int .i64 j, .slice b q d] w fun e w' => e = .returned (.bool true) ∧ Kept w w' none := by
  have HC := Hid.mk' hC
  have HB := Hid.mk' hB
  have hn := hC.by_.max
  have hq := hB.by_.max
  clear hC hB
  have h' : ¬ (10000 : Int) < n := by omega
  have HE := Hid.mk' hE
  clear hE
  subst h2
  go_enter Try.func5, Try.ntmps5
  go_wp2_with (first | (go_at_call 10; refine (last_none w1 (HC.out.kpt HK1.out) (HB.out.kpt HK1.out) HE.out).mono ?_; rintro e w2 ⟨a2, c2, E, rfl, hE2, hk2⟩) | (go_at_call 14; refine (alive_any _).mono ?_; rintro e w1 ⟨rfl, hk1⟩; have hD1 := (db_alloc w a n c 24).kept hk1; have c1 := hD1.c0; have lt1 := hD1.lt; have HD1 := Hid.mk' hD1; have HK1 := Hid.mk' ((Kept.alloc w (dvC a n c) 24 (0, 0) none).tr hk1); clear hD1))
  go_ret
  exact ⟨rfl, (HK1.out.tr hk2).tr (Kept.alloc _ _ _ _ _)⟩
set_option maxHeartbeats 1000000 in
theorem last_same {a : Option Addr} {n c : Nat} {L : List Nat} {b : Option Addr} {q d : Nat} {B : List Nat} (i : Int) (w : World) (hC : Come w a n c L) (hB : Come w b q d B) (h : ¬ 10000 < n) (h2 : q = 64) (hE : doE n [⟨i, B⟩] 1 0 = 0)  : Calls Try.prog 5 #[dvV a n c, .int .i64 i, .int .i64 i, .slice b q d] w fun e w' => e = .returned (.bool true) ∧ Kept w w' none := by
  have HC := Hid.mk' hC
  have HB := Hid.mk' hB
  have hn := hC.by_.max
  have hq := hB.by_.max
  clear hC hB
  have h' : ¬ (10000 : Int) < n := by omega
  have HE := Hid.mk' hE
  have HM := Hid.mk' (last_math HC.out.by_.size hE).1
  clear hE
  subst h2
  obtain ⟨E4, HE4⟩ : ∃ E4, Hid (brE n i = E4) := ⟨_, Hid.mk' rfl⟩
  obtain ⟨M5, HM5⟩ : ∃ M5, Hid (brL L i = M5) := ⟨_, Hid.mk' rfl⟩
  go_enter Try.func5, Try.ntmps5
  go_wp2_with (first
    | (go_at_call 12; refine (last_read w4 (HC.out.kpt ((HK2.out.tr hk3).tr hk4)) i HM5.out HE4.out).mono ?_; rintro e w5 ⟨a5, n5, c5, rfl, hc5, hk5⟩; have hT1 := run_text (((hc3.out.kpt hk4).kpt hk5).by_) c3; have hT2 := run_text ((HB.out.kpt (((HK2.out.tr hk3).tr hk4).tr hk5)).by_) d; have hT3 := run_text ((hc4.out.kpt hk5).by_) c4; have hT4 := run_text (hc5.out.by_) c5; have c5d := (HD4.out.kept hk5).c0; have c5x := (HX4.out.kept hk5).c0; have l5 := (HX4.out.kept hk5).lt; clear c4d c4x l4)
    | (go_at_call 12; refine (last_read w3 (hc2.out.kpt ((Kept.alloc _ _ _ _ _).tr hk3)) i (M := M4) HM4.out HE4.out).mono ?_; rintro e w4 ⟨a4, n4, c4, rfl, hc4, hk4⟩; have HD4 := Hid.mk' (HD3.out.kept hk4); have HX4 := Hid.mk' (HX3.out.kept hk4); have c4d := HD4.out.c0; have c4x := HX4.out.c0; have l4 := HX4.out.lt; clear c3d c3x l3)
    | (go_at_call 12; refine (last_read _ (hc2.out.kpt (Kept.alloc _ _ _ _ _)) i hm2.out HM.out).mono ?_; rintro e w3 ⟨a3, n3, c3, rfl, hc3, hk3⟩; have HD3 := Hid.mk' ((HD1.out.kept (hk2.tr (Kept.alloc _ _ _ _ _))).kept hk3); have HX3 := Hid.mk' ((db_alloc w2 a2 n c2 24).kept hk3); have c3d := HD3.out.c0; have c3x := HX3.out.c0; have l3 := HX3.out.lt; have HK2 := Hid.mk' ((HK1.out.tr hk2).tr (Kept.alloc w2 (dvC a2 n c2) 24 (0, 0) none)))
    | (go_at_call 10; refine (last_write w1 (HC.out.kpt HK1.out) (HB.out.kpt HK1.out) HE.out).mono ?_; rintro e w2 ⟨a2, c2, L', rfl, hc2, hm2, hm3, hk2⟩; obtain ⟨M4, HM4⟩ : ∃ M4, Hid (brL L' i = M4) := ⟨_, Hid.mk' rfl⟩)
    | (go_at_call 14; refine (alive_any _).mono ?_; rintro e w1 ⟨rfl, hk1⟩; have hD1 := (db_alloc w a n c 24).kept hk1; have c1 := hD1.c0; have lt1 := hD1.lt; have HD1 := Hid.mk' hD1; have HK1 := Hid.mk' ((Kept.alloc w (dvC a n c) 24 (0, 0) none).tr hk1); clear hD1))
  go_ret
  exact ⟨by simp, ((HK2.out.tr hk3).tr hk4).tr hk5⟩
set_option maxHeartbeats 1000000 in
theorem last_other {a : Option Addr} {n c : Nat} {L : List Nat} {b : Option Addr} {q d : Nat} {B : List Nat} (i j : Int) (w : World) (hC : Come w a n c L) (hB : Come w b q d B) (h : ¬ 10000 < n) (h2 : q = 64) (hE : doE n [⟨i, B⟩] 1 0 = 0) (hj : ¬ j = i) : Calls Try.prog 5 #[dvV a n c, .int .i64 i, .int .i64 j, .slice b q d] w fun e w' => e = .returned (.bool true) ∧ Kept w w' none := by
  have HC := Hid.mk' hC
  have HB := Hid.mk' hB
  have hn := hC.by_.max
  have hq := hB.by_.max
  clear hC hB
  have h' : ¬ (10000 : Int) < n := by omega
  have HE := Hid.mk' hE
  have HM := Hid.mk' (last_math HC.out.by_.size hE).1
  clear hE
  subst h2
  obtain ⟨E4, HE4⟩ : ∃ E4, Hid (brE n j = E4) := ⟨_, Hid.mk' rfl⟩
  obtain ⟨M5, HM5⟩ : ∃ M5, Hid (brL L j = M5) := ⟨_, Hid.mk' rfl⟩
  go_enter Try.func5, Try.ntmps5
  go_wp2_with (first
    | (go_at_call 12; refine (last_read w4 (HC.out.kpt ((HK2.out.tr hk3).tr hk4)) j HM5.out HE4.out).mono ?_; rintro e w5 ⟨a5, n5, c5, rfl, hc5, hk5⟩; have hT1 := run_text (((hc3.out.kpt hk4).kpt hk5).by_) c3; have hT2 := run_text ((HB.out.kpt (((HK2.out.tr hk3).tr hk4).tr hk5)).by_) d; have hT3 := run_text ((hc4.out.kpt hk5).by_) c4; have hT4 := run_text (hc5.out.by_) c5; have c5d := (HD4.out.kept hk5).c0; have c5x := (HX4.out.kept hk5).c0; have l5 := (HX4.out.kept hk5).lt; clear c4d c4x l4)
    | (go_at_call 12; refine (last_read w3 (hc2.out.kpt ((Kept.alloc _ _ _ _ _).tr hk3)) j (M := M5) HM4.out HE4.out).mono ?_; rintro e w4 ⟨a4, n4, c4, rfl, hc4, hk4⟩; have HD4 := Hid.mk' (HD3.out.kept hk4); have HX4 := Hid.mk' (HX3.out.kept hk4); have c4d := HD4.out.c0; have c4x := HX4.out.c0; have l4 := HX4.out.lt; clear c3d c3x l3)
    | (go_at_call 12; refine (last_read _ (hc2.out.kpt (Kept.alloc _ _ _ _ _)) i hm2.out HM.out).mono ?_; rintro e w3 ⟨a3, n3, c3, rfl, hc3, hk3⟩; have HD3 := Hid.mk' ((HD1.out.kept (hk2.tr (Kept.alloc _ _ _ _ _))).kept hk3); have HX3 := Hid.mk' ((db_alloc w2 a2 n c2 24).kept hk3); have c3d := HD3.out.c0; have c3x := HX3.out.c0; have l3 := HX3.out.lt; have HK2 := Hid.mk' ((HK1.out.tr hk2).tr (Kept.alloc w2 (dvC a2 n c2) 24 (0, 0) none)))
    | (go_at_call 10; refine (last_write w1 (HC.out.kpt HK1.out) (HB.out.kpt HK1.out) HE.out).mono ?_; rintro e w2 ⟨a2, c2, L', rfl, hc2, hm2, hm3, hk2⟩; have HM4 : Hid (brL L' j = M5) := Hid.mk' (by rw [hm3.out j hj, HM5.out]))
    | (go_at_call 14; refine (alive_any _).mono ?_; rintro e w1 ⟨rfl, hk1⟩; have hD1 := (db_alloc w a n c 24).kept hk1; have c1 := hD1.c0; have lt1 := hD1.lt; have HD1 := Hid.mk' hD1; have HK1 := Hid.mk' ((Kept.alloc w (dvC a n c) 24 (0, 0) none).tr hk1); clear hD1))
  go_ret
  exact ⟨by simp [hj], ((HK2.out.tr hk3).tr hk4).tr hk5⟩
theorem blast_any {a : Option Addr} {n c : Nat} {L : List Nat} {b : Option Addr} {q d : Nat} {B : List Nat} (i j : Int) (w : World) (hC : Come w a n c L) (hB : Come w b q d B) : Calls Try.prog 5 #[dvV a n c, .int .i64 i, .int .i64 j, .slice b q d] w fun e w' => e = .returned (.bool true) ∧ Kept w w' none := by
  by_cases h : 10000 < n
  · exact last_big i j w hC hB h
  · by_cases h2 : q = 64
    · by_cases hE : doE n [⟨i, B⟩] 1 0 = 0
      · by_cases hj : j = i
        · subst hj
          exact last_same j w hC hB h h2 hE
        · exact last_other i j w hC hB h h2 hE hj
      · exact last_err i j w hC hB h h2 hE
    · exact last_len i j w hC hB h h2

end Go.Proofs.Ytpfbdandhdapcaa
