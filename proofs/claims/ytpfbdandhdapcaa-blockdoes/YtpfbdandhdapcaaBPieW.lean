/-
  BLOCKPIECES' WALK (made by a program).
-/
import Derived.Test.YtpfbdandhdapcaaBPieM
namespace Go.Proofs.Ytpfbdandhdapcaa
open Go.RowKit Go.Lib Go.Deep
set_option linter.unusedVariables false
set_option linter.unusedSimpArgs false

/-- The device that is told lies in memory that is new. -/
theorem new_do {a la : Option Addr} {n c m : Nat} (lc : Nat) {L : List Nat} {l : List Pw} {wh to : Int} (w : World) (hC : Come w a n c L) (hP : Plw w la m l) (hE : doE n l wh to = 0) {M : List Nat} (hM : doL L l wh to = M) : Calls Try.prog 13 #[dvV a n c, .slice la m lc, .int .i64 wh, .int .i64 to] w fun e w' => ∃ a2 c2, e = dvR a2 n c2 0 ∧ Hid (Come w' a2 n c2 M) ∧ Hid (∀ x, a2 = some x → w.heap.size ≤ x.block) ∧ Hid (∀ x, a2 = some x → x.block < w'.heap.size) ∧ Kept w w' none := by
  refine (do_any lc w hC hP wh to).mono ?_
  rintro e w' ⟨⟨a2, n2, c2, rfl, hd⟩, hk⟩
  obtain ⟨_, m3⟩ := doL_yes hC.by_.size hE
  obtain rfl : n2 = n := by rw [← hd.size, m3]
  rw [hE]
  rw [hM] at hd
  refine ⟨a2, c2, rfl, Hid.mk' hd.come, Hid.mk' ?_, Hid.mk' ?_, hk⟩
  · rintro x rfl
    rcases hd.at_ with ⟨e, _⟩ | ⟨g, e, hg, _⟩
    · cases e
    · injection e with e; rw [e]; exact hg
  · rintro x rfl
    rcases hd.at_ with ⟨e, _⟩ | ⟨g, e, hg, hr⟩
    · cases e
    · injection e with e; rw [e]; exact hr.lt
theorem wr_i {z : Int} (h0 : -9223372036854775808 ≤ z) (h1 : z ≤ 9223372036854775807) : IntKind.i64.wrap z = z := by
  simp [IntKind.wrap, IntKind.bits, IntKind.signed]
  omega
theorem tip_math {n : Nat} {L : List Nat} {l : List Pw} {wh : Int} (hl : L.length = n) (hE : doE n l wh 0 = 0) : doE n [] 0 0 = 0 ∧ doL (doL L l wh 0) [] 0 0 = doL L l wh 0 := by
  obtain ⟨q1, _⟩ := do_says hE
  obtain ⟨_, y2⟩ := doL_yes hl hE
  have e : doE n [] 0 0 = 0 := do_zero (by unfold cwE; rw [if_pos (show chkE n = 0 from if_pos q1)]; rfl) (by omega) (by simp) (by omega) (by omega)
  exact ⟨e, by rw [(doL_yes y2 e).1]; rfl⟩
theorem bsame_yes {a b : Option Addr} {n m c d : Nat} {L : List Nat} {w : World} (h : By w a n L) (k : By w b m L) :
    Calls Try.prog 16 #[dvV a n c, dvV b m d] w fun e w' => e = .returned (.bool true) ∧ Kept w w' none := (bsame_any h k).mono fun e w' h => ⟨by rw [h.1, decide_eq_true rfl], h.2⟩
theorem pl_nil {w : World} {la : Option Addr} {k : Nat} {l : List Pw} (h : k = 0) (hl : l = []) : Plw w la k l := by
  subst h hl
  exact Plw.zero
theorem pie_big {a : Option Addr} {n c : Nat} {L : List Nat} {la : Option Addr} {m lc : Nat} {l : List Pw} (at_ : Int) (w : World) (hC : Come w a n c L) (hP : Plw w la m l) (hr : m ≤ lc) (hz : lc ≤ 9223372036854775807) (h : 10000 < n) : Calls Try.prog 7 #[dvV a n c, .slice la m lc, .int .i64 at_] w fun e w' => e = .returned (.bool true) ∧ Kept w w' none := by
  have HC := Hid.mk' hC
  have HP := Hid.mk' hP
  have hn := hC.by_.max
  have hm := hP.max
  have HS := Hid.mk' hP.size
  clear hC hP
  have h' : (10000 : Int) < n := by omega
  go_enter Try.func7, Try.ntmps7
  go_wp2_with (go_at_call 14; refine (alive_any _).mono ?_; rintro e w1 ⟨rfl, hk1⟩; have hD1 := (db_alloc w a n c 24).kept hk1; have c1 := hD1.c0; have lt1 := hD1.lt; have HD1 := Hid.mk' hD1; have HK1 := Hid.mk' ((Kept.alloc w (dvC a n c) 24 (0, 0) none).tr hk1); clear hD1)
  go_ret
  exact ⟨rfl, HK1.out⟩
theorem pie_many {a : Option Addr} {n c : Nat} {L : List Nat} {la : Option Addr} {m lc : Nat} {l : List Pw} (at_ : Int) (w : World) (hC : Come w a n c L) (hP : Plw w la m l) (hr : m ≤ lc) (hz : lc ≤ 9223372036854775807) (h : ¬ 10000 < n) (h2 : 64 < m) : Calls Try.prog 7 #[dvV a n c, .slice la m lc, .int .i64 at_] w fun e w' => e = .returned (.bool true) ∧ Kept w w' none := by
  have HC := Hid.mk' hC
  have HP := Hid.mk' hP
  have hn := hC.by_.max
  have hm := hP.max
  have HS := Hid.mk' hP.size
  clear hC hP
  have h' : ¬ (10000 : Int) < n := by omega
  have h2' : (64 : Int) < m := by omega
  go_enter Try.func7, Try.ntmps7
  go_wp2_with (go_at_call 14; refine (alive_any _).mono ?_; rintro e w1 ⟨rfl, hk1⟩; have hD1 := (db_alloc w a n c 24).kept hk1; have c1 := hD1.c0; have lt1 := hD1.lt; have HD1 := Hid.mk' hD1; have HK1 := Hid.mk' ((Kept.alloc w (dvC a n c) 24 (0, 0) none).tr hk1); clear hD1)
  go_ret
  exact ⟨rfl, HK1.out⟩
theorem pie_neg {a : Option Addr} {n c : Nat} {L : List Nat} {la : Option Addr} {m lc : Nat} {l : List Pw} (at_ : Int) (w : World) (hC : Come w a n c L) (hP : Plw w la m l) (hr : m ≤ lc) (hz : lc ≤ 9223372036854775807) (h : ¬ 10000 < n) (h2 : ¬ 64 < m) (h3 : at_ < 0) : Calls Try.prog 7 #[dvV a n c, .slice la m lc, .int .i64 at_] w fun e w' => e = .returned (.bool true) ∧ Kept w w' none := by
  have HC := Hid.mk' hC
  have HP := Hid.mk' hP
  have hn := hC.by_.max
  have hm := hP.max
  have HS := Hid.mk' hP.size
  clear hC hP
  have h' : ¬ (10000 : Int) < n := by omega
  have h2' : ¬ (64 : Int) < m := by omega
  go_enter Try.func7, Try.ntmps7
  go_wp2_with (go_at_call 14; refine (alive_any _).mono ?_; rintro e w1 ⟨rfl, hk1⟩; have hD1 := (db_alloc w a n c 24).kept hk1; have c1 := hD1.c0; have lt1 := hD1.lt; have HD1 := Hid.mk' hD1; have HK1 := Hid.mk' ((Kept.alloc w (dvC a n c) 24 (0, 0) none).tr hk1); clear hD1)
  go_ret
  exact ⟨rfl, HK1.out⟩
theorem pie_far {a : Option Addr} {n c : Nat} {L : List Nat} {la : Option Addr} {m lc : Nat} {l : List Pw} (at_ : Int) (w : World) (hC : Come w a n c L) (hP : Plw w la m l) (hr : m ≤ lc) (hz : lc ≤ 9223372036854775807) (h : ¬ 10000 < n) (h2 : ¬ 64 < m) (h3 : 0 ≤ at_) (h4 : (m : Int) < at_) : Calls Try.prog 7 #[dvV a n c, .slice la m lc, .int .i64 at_] w fun e w' => e = .returned (.bool true) ∧ Kept w w' none := by
  have HC := Hid.mk' hC
  have HP := Hid.mk' hP
  have hn := hC.by_.max
  have hm := hP.max
  have HS := Hid.mk' hP.size
  clear hC hP
  have h' : ¬ (10000 : Int) < n := by omega
  have h2' : ¬ (64 : Int) < m := by omega
  go_enter Try.func7, Try.ntmps7
  go_wp2_with (go_at_call 14; refine (alive_any _).mono ?_; rintro e w1 ⟨rfl, hk1⟩; have hD1 := (db_alloc w a n c 24).kept hk1; have c1 := hD1.c0; have lt1 := hD1.lt; have HD1 := Hid.mk' hD1; have HK1 := Hid.mk' ((Kept.alloc w (dvC a n c) 24 (0, 0) none).tr hk1); clear hD1)
  go_ret
  exact ⟨rfl, HK1.out⟩
theorem pie_err {a : Option Addr} {n c : Nat} {L : List Nat} {la : Option Addr} {m lc : Nat} {l : List Pw} (at_ : Nat) (w : World) (hC : Come w a n c L) (hP : Plw w la m l) (hr : m ≤ lc) (hz : lc ≤ 9223372036854775807) (h : ¬ 10000 < n) (h2 : ¬ 64 < m) (h3 : at_ ≤ m) (hE : ¬ doE n l (m : Int) 0 = 0) : Calls Try.prog 7 #[dvV a n c, .slice la m lc, .int .i64 at_] w fun e w' => e = .returned (.bool true) ∧ Kept w w' none := by
  have HC := Hid.mk' hC
  have HP := Hid.mk' hP
  have hn := hC.by_.max
  have hm := hP.max
  have HS := Hid.mk' hP.size
  clear hC hP
  have h' : ¬ (10000 : Int) < n := by omega
  have h2' : ¬ (64 : Int) < m := by omega
  have h3' : ¬ (m : Int) < at_ := by omega
  have HE := Hid.mk' hE
  clear hE
  go_enter Try.func7, Try.ntmps7
  go_wp2_with (first | (go_at_call 13; refine (none_do lc w1 (HC.out.kpt HK1.out) (HP.out.kept HK1.out) HE.out).mono ?_; rintro e w2 ⟨a2, c2, E, rfl, hE2, hk2⟩) | (go_at_call 14; refine (alive_any _).mono ?_; rintro e w1 ⟨rfl, hk1⟩; have hD1 := (db_alloc w a n c 24).kept hk1; have c1 := hD1.c0; have lt1 := hD1.lt; have HD1 := Hid.mk' hD1; have HK1 := Hid.mk' ((Kept.alloc w (dvC a n c) 24 (0, 0) none).tr hk1); clear hD1))
  go_ret
  exact ⟨rfl, (HK1.out.tr hk2).tr (Kept.alloc _ _ _ _ _)⟩
set_option maxHeartbeats 2000000 in
theorem pie_mid {a : Option Addr} {n c : Nat} {L : List Nat} {b off : Nat} {m lc : Nat} {l : List Pw} (at_ : Nat) (w : World) (hC : Come w a n c L) (hP : Plw w (some ⟨b, off, none⟩) m l) (hr : m ≤ lc) (hz : lc ≤ 9223372036854775807) (h : ¬ 10000 < n) (h2 : ¬ 64 < m) (h3 : at_ ≤ m) (hE : doE n l (m : Int) 0 = 0) (hlt : at_ < m) : Calls Try.prog 7 #[dvV a n c, .slice (some ⟨b, off, none⟩) m lc, .int .i64 at_] w fun e w' => e = .returned (.bool true) ∧ Kept w w' none := by
  have HC := Hid.mk' hC
  have HP := Hid.mk' hP
  have hn := hC.by_.max
  have hm := hP.max
  have HS := Hid.mk' hP.size
  clear hC hP
  have h' : ¬ (10000 : Int) < n := by omega
  have h2' : ¬ (64 : Int) < m := by omega
  have h3' : ¬ (m : Int) < at_ := by omega
  have hne : ¬ lc = at_ := by omega
  obtain ⟨m1, m2, m3, m4⟩ := pie_math HC.out.by_.size HS.out hE at_ h3
  have HE1 := Hid.mk' hE
  have HE2 := Hid.mk' m1
  have HE3 := Hid.mk' m2
  obtain ⟨MX, hMX⟩ : ∃ MX, doL L l (m : Int) 0 = MX := ⟨_, rfl⟩
  obtain ⟨MY, hMY⟩ : ∃ MY, doL L l (at_ : Int) 0 = MY := ⟨_, rfl⟩
  rw [hMX, hMY] at m3
  have HM1 := Hid.mk' hMX
  have HM2 := Hid.mk' hMY
  have HM3 := Hid.mk' m3
  have HWR : Hid (IntKind.i64.wrap ((m : Int) - at_) = (m : Int) - at_) := Hid.mk' (wr_i (by omega) (by omega))
  have HPS := Hid.mk' (fun w' (hk : Kept w w' none) => ((HP.out.kept hk).drop at_ h3 : Plw w' (some ⟨b, off + at_ * 2, none⟩) (m - at_) (l.drop at_)))
  clear hE m1 m2 m3 hMX hMY
  have hlt' : ¬ (at_ : Int) = m := by omega
  obtain ⟨m5, m6, m7⟩ := m4 hlt
  have HE4 := Hid.mk' m5
  have HE5 := Hid.mk' m6
  obtain ⟨MU, hMU⟩ : ∃ MU, doL L l ((at_ : Int) + 1) 0 = MU := ⟨_, rfl⟩
  rw [hMU] at m7
  have HM4 := Hid.mk' m7
  have HM5 := Hid.mk' hMU
  clear m4 m5 m6 m7 hMU
  go_enter Try.func7, Try.ntmps7
  go_wp2_with (first
    | (go_at_call 13; refine (tell_do lc _ (HC.out.kpt (HK2.out)) (HP.out.kept (HK2.out)) HE2.out HM2.out).mono ?_; rintro e w3 ⟨a3, c3, rfl, hc3, hk3⟩; have HD3 := Hid.mk' (HD2.out.kept hk3); have HX3 := Hid.mk' (HX2.out.kept hk3); have x3 := HX3.out.c0; have x4 := HX3.out.lt; clear c2d l2)
    | (go_at_call 13; refine (tell_do lc w1 (HC.out.kpt HK1.out) (HP.out.kept HK1.out) HE1.out HM1.out).mono ?_; rintro e w2 ⟨a2, c2, rfl, hc2, hk2⟩; have HK2 := Hid.mk' ((HK1.out.tr hk2).tr (Kept.alloc w2 (dvC a2 n c2) 24 (0, 0) none)); have HD2 := Hid.mk' ((HD1.out.kept hk2).kept (Kept.alloc w2 (dvC a2 n c2) 24 (0, 0) none)); have HX2 := Hid.mk' (db_alloc w2 a2 n c2 24); have c2d := HD2.out.c0; have l2 := HX2.out.lt)
    | (go_at_call 14; refine (alive_any _).mono ?_; rintro e w1 ⟨rfl, hk1⟩; have hD1 := (db_alloc w a n c 24).kept hk1; have c1 := hD1.c0; have lt1 := hD1.lt; have HD1 := Hid.mk' hD1; have HK1 := Hid.mk' ((Kept.alloc w (dvC a n c) 24 (0, 0) none).tr hk1); clear hD1))
  obtain ⟨W, hW⟩ : ∃ W, Hid (W = w3.alloc (.cells (dvC a3 n c3) 24)) := ⟨_, Hid.mk' rfl⟩
  have hkA : Kept w3 W none := by rw [hW.out]; exact Kept.alloc _ _ _ _ _
  have HKW := Hid.mk' ((HK2.out.tr hk3).tr hkA)
  have HDW := Hid.mk' (HD3.out.kept hkA)
  have HXW := Hid.mk' (HX3.out.kept hkA)
  have HYW : Hid (Db W w3.heap.size a3 n c3) := Hid.mk' (by rw [hW.out]; exact db_alloc _ _ _ _ _)
  have HCX := Hid.mk' ((hc2.out.kpt (Kept.alloc w2 (dvC a2 n c2) 24 (0, 0) none)).kpt (hk3.tr hkA))
  have HCY := Hid.mk' (hc3.out.kpt hkA)
  rw [← hW.out]
  generalize w3.heap.size = by_ at HYW ⊢
  generalize w2.heap.size = bx_ at HXW ⊢
  clear hkA hW hc2 hc3 HD3 HX3 x3 x4 HK2 HD2 HX2 hk3 hk2
  have HDO := Hid.mk' (fun cur (hk : Kept W cur none) => new_do (M := MX) (wh := IntKind.i64.wrap ((m : Int) - at_)) (lc - at_) cur (HCY.out.kpt hk) (HPS.out cur (HKW.out.tr hk)) (by rw [HWR.out]; exact HE3.out) (by rw [HWR.out]; exact HM3.out))
  have hU : ∀ w', Kept W w' none → w'.cell? ⟨by_, 0, none⟩ = some (.slice a3 n c3) := fun w' hk => (HYW.out.kept hk).c0
  have MZe : MX = MX := rfl
  refine Code.wp_mono (Q := R2 ?A1 (fun o c b w' => Dbx W w' n MX o c b)) ?cont1 ?reg1
  case reg1 =>
    repeat (rename_i hh; clear hh)
    refine wp_region_held_drew (S := fun w' => Kept W w' none) (by kernel_rfl) (kept_drw _ _) (fun hHeld => ?_)
    refine hold_take (i := 0) (v := ?rv1) rfl rfl (by kernel_rfl) (by kernel_rfl) (by kernel_rfl) (fun _ _ _ h => h) (Or.inl ⟨by rfl, ?rhy1⟩) hHeld ?rrest1
    case rhy1 => first | (intro w hSw; (try dsimp only at hSw); go_simp; done) | (intro w hSw; (try dsimp only at hSw); go_simp; with_reducible rfl)
    try simp only [List.setIfInBounds_toArray, List.set_cons_zero, List.set_cons_succ]
    refine hold_take (i := 1) (v := ?rv2) rfl rfl (by kernel_rfl) (by kernel_rfl) (by kernel_rfl) (fun _ _ _ h => h) (Or.inl ⟨by rfl, ?rhy2⟩) hHeld ?rrest2
    case rhy2 => first | (intro w hSw; (try dsimp only at hSw); go_simp; done) | (intro w hSw; (try dsimp only at hSw); go_simp; with_reducible rfl)
    try simp only [List.setIfInBounds_toArray, List.set_cons_zero, List.set_cons_succ]
    refine hold_take (i := 2) (v := ?rv3) rfl rfl (by kernel_rfl) (by kernel_rfl) (by kernel_rfl) (fun _ _ _ h => h) (Or.inl ⟨by rfl, ?rhy3⟩) hHeld ?rrest3
    case rhy3 => first | (intro w hSw; (try dsimp only at hSw); go_simp; done) | (intro w hSw; (try dsimp only at hSw); go_simp; with_reducible rfl)
    try simp only [List.setIfInBounds_toArray, List.set_cons_zero, List.set_cons_succ]
    refine hold_take (i := 3) (v := ?rv4) rfl rfl (by kernel_rfl) (by kernel_rfl) (by kernel_rfl) (fun _ _ _ h => h) (Or.inl ⟨by rfl, ?rhy4⟩) hHeld ?rrest4
    case rhy4 => first | (intro w hSw; (try dsimp only at hSw); go_simp; done) | (intro w hSw; (try dsimp only at hSw); go_simp; with_reducible rfl)
    try simp only [List.setIfInBounds_toArray, List.set_cons_zero, List.set_cons_succ]
    refine hold_take (i := 4) (v := ?rv5) rfl rfl (by kernel_rfl) (by kernel_rfl) (by kernel_rfl) (fun _ _ _ h => h) (Or.inl ⟨by rfl, ?rhy5⟩) hHeld ?rrest5
    case rhy5 => first | (intro w hSw; (try dsimp only at hSw); go_simp; done) | (intro w hSw; (try dsimp only at hSw); go_simp; with_reducible rfl)
    try simp only [List.setIfInBounds_toArray, List.set_cons_zero, List.set_cons_succ]
    refine hold_take (i := 5) (v := ?rv6) rfl rfl (by kernel_rfl) (by kernel_rfl) (by kernel_rfl) (fun _ _ _ h => h) (Or.inl ⟨by rfl, ?rhy6⟩) hHeld ?rrest6
    case rhy6 => first | (intro w hSw; (try dsimp only at hSw); go_simp; done) | (intro w hSw; (try dsimp only at hSw); go_simp; with_reducible rfl)
    try simp only [List.setIfInBounds_toArray, List.set_cons_zero, List.set_cons_succ]
    refine hold_take (i := 6) (v := ?rv7) rfl rfl (by kernel_rfl) (by kernel_rfl) (by kernel_rfl) (fun _ _ _ h => h) (Or.inl ⟨by rfl, ?rhy7⟩) hHeld ?rrest7
    case rhy7 => first | (intro w hSw; (try dsimp only at hSw); go_simp; done) | (intro w hSw; (try dsimp only at hSw); go_simp; with_reducible rfl)
    try simp only [List.setIfInBounds_toArray, List.set_cons_zero, List.set_cons_succ]
    refine hold_take (i := 7) (v := ?rv8) rfl rfl (by kernel_rfl) (by kernel_rfl) (by kernel_rfl) (fun _ _ _ h => h) (Or.inl ⟨by rfl, ?rhy8⟩) hHeld ?rrest8
    case rhy8 => first | (intro w hSw; (try dsimp only at hSw); go_simp; done) | (intro w hSw; (try dsimp only at hSw); go_simp; with_reducible rfl)
    try simp only [List.setIfInBounds_toArray, List.set_cons_zero, List.set_cons_succ]
    refine wpAnyH_ready (rs := [8, 12]) (by kernel_rfl) (by simp) ?_
    refine (AllReadyH.cons rfl (fun K hK => ?rz9x8) (AllReadyH.cons rfl (fun K hK => ?rz9x12) AllReadyH.nil))
    case rz9x8 =>
      go_simp
      refine (HDO.out W.drew hHeld).mono ?_
      rintro e wv10 ⟨o, cn, rfl, hcz, hge, hlx, hk⟩
      dsimp only
      have hnew := hHeld.tr hk
      have HN2 := Hid.mk' hcz.out
      have HN := Hid.mk' (fun (x : Addr) (hx : o = some x) => hlx.out x hx)
      refine hK.out _ _ hnew (fun hHeld => ?_)
      clear hK K hk hnew
      refine hold_take (i := 9) (v := ?rv11) rfl rfl (by kernel_rfl) (by kernel_rfl) (by kernel_rfl) (fun _ _ _ h => h) (Or.inl ⟨by rfl, ?rhy11⟩) hHeld ?rrest11
      case rhy11 => first | (intro w hSw; (try dsimp only at hSw); go_simp; done) | (intro w hSw; (try dsimp only at hSw); go_simp; with_reducible rfl)
      try simp only [List.setIfInBounds_toArray, List.set_cons_zero, List.set_cons_succ]
      refine hold_take (i := 10) (v := ?rv12) rfl rfl (by kernel_rfl) (by kernel_rfl) (by kernel_rfl) (fun _ _ _ h => h) (Or.inl ⟨by rfl, ?rhy12⟩) hHeld ?rrest12
      case rhy12 => first | (intro w hSw; (try dsimp only at hSw); go_simp; done) | (intro w hSw; (try dsimp only at hSw); go_simp; with_reducible rfl)
      try simp only [List.setIfInBounds_toArray, List.set_cons_zero, List.set_cons_succ]
      refine hold_take (i := 11) (v := ?rv13) rfl rfl (by kernel_rfl) (by kernel_rfl) (by kernel_rfl) (fun _ _ _ h => h) (Or.inl ⟨by rfl, ?rhy13⟩) hHeld ?rrest13
      case rhy13 => first | (intro w hSw; (try dsimp only at hSw); go_simp; done) | (intro w hSw; (try dsimp only at hSw); go_simp; with_reducible rfl)
      try simp only [List.setIfInBounds_toArray, List.set_cons_zero, List.set_cons_succ]
      refine wpAnyH_ready (rs := [12]) (by kernel_rfl) (by simp) ?_
      refine (AllReadyH.cons rfl (fun K hK => ?rz14x12) AllReadyH.nil)
      case rz14x12 =>
        go_simp
        have hk : Kept wv10 (wv10.alloc (.cells #[.slice none 0 0] 24)) none := Kept.alloc _ _ _ _ _
        have hnew := hHeld.tr hk
        have hBw : W.heap.size ≤ wv10.heap.size := hHeld.size
        have HBX := Hid.mk' (db_alloc wv10 none 0 0 24)
        have hbd : ∀ x, o = some x → x.block ≠ wv10.heap.size := fun x hx => by have := HN.out x hx; omega
        have HN2 := Hid.mk' (HN2.out.kpt hk)
        refine hK.out _ _ hnew (fun hHeld => ?_)
        clear hK K hnew hk
        obtain ⟨wv15, hwv15⟩ : ∃ v, (wv10.alloc (.cells #[.slice none 0 0] 24)) = v := ⟨_, rfl⟩
        rw [hwv15] at hHeld HN2 HBX ⊢
        clear hwv15
        refine wpAnyH_ready (rs := [13]) (by kernel_rfl) (by simp) ?_
        refine (AllReadyH.cons rfl (fun K hK => ?rz16x13) AllReadyH.nil)
        case rz16x13 =>
          have d0 := HBX.out.c0
          have e0 := HBX.out.f0
          have d1 := HBX.out.lt
          go_simp
          have hnew := hHeld.setNew (p := ⟨wv10.heap.size, 0, none⟩) hBw (.slice o n cn)
          have hfin : Dbx W _ n MX o cn (wv10.heap.size) := ⟨hnew, HN2.out.far (b := wv10.heap.size) 0 _ hbd, HBX.out.set _ _ _⟩
          refine hK.out _ _ hnew (fun hHeld => ?_)
          clear hK K hnew
          refine hold_take (i := 14) (v := ?rv17) rfl rfl (by kernel_rfl) (by kernel_rfl) (by kernel_rfl) (fun _ _ _ h => h) (Or.inl ⟨by rfl, ?rhy17⟩) hHeld ?rrest17
          case rhy17 => first | (intro w hSw; (try dsimp only at hSw); go_simp; done) | (intro w hSw; (try dsimp only at hSw); go_simp; with_reducible rfl)
          try simp only [List.setIfInBounds_toArray, List.set_cons_zero, List.set_cons_succ]
          refine wpAnyH_done (by kernel_rfl) ?_ _
          refine ⟨o, cn, wv10.heap.size, ?_, hfin⟩
          generalize wv10.heap.size = b'
          with_reducible rfl
    case rz9x12 =>
      go_simp
      have hk : Kept W.drew (W.alloc (.cells #[.slice none 0 0] 24)).drew none := ⟨rfl, rfl, rfl, Nat.le_of_lt (by simp), fun i hi _ => Below.heap_alloc _ _ _ hi⟩
      have hnew := hHeld.tr hk
      have hBw : W.heap.size ≤ W.heap.size := Nat.le_refl _
      have HBX := Hid.mk' ((db_alloc W none 0 0 24).kept (kept_drw _ none))
      refine hK.out _ _ hnew (fun hHeld => ?_)
      clear hK K hnew hk
      obtain ⟨wv18, hwv18⟩ : ∃ v, (W.alloc (.cells #[.slice none 0 0] 24)).drew = v := ⟨_, rfl⟩
      rw [hwv18] at hHeld HBX ⊢
      clear hwv18
      refine wpAnyH_ready (rs := [8]) (by kernel_rfl) (by simp) ?_
      refine (AllReadyH.cons rfl (fun K hK => ?rz19x8) AllReadyH.nil)
      case rz19x8 =>
        have hbl0 := HBX.out.lt
        go_simp
        refine (HDO.out wv18 hHeld).mono ?_
        rintro e wv20 ⟨o, cn, rfl, hcz, hge, hlx, hk⟩
        dsimp only
        have hnew := hHeld.tr hk
        have HBX := Hid.mk' (HBX.out.kept hk)
        have HN2 := Hid.mk' hcz.out
        have hbd : ∀ x, o = some x → x.block ≠ W.heap.size := fun x hx => by have := hge.out x hx; omega
        refine hK.out _ _ hnew (fun hHeld => ?_)
        clear hK K hk hnew
        refine hold_take (i := 9) (v := ?rv21) rfl rfl (by kernel_rfl) (by kernel_rfl) (by kernel_rfl) (fun _ _ _ h => h) (Or.inl ⟨by rfl, ?rhy21⟩) hHeld ?rrest21
        case rhy21 => first | (intro w hSw; (try dsimp only at hSw); go_simp; done) | (intro w hSw; (try dsimp only at hSw); go_simp; with_reducible rfl)
        try simp only [List.setIfInBounds_toArray, List.set_cons_zero, List.set_cons_succ]
        refine hold_take (i := 10) (v := ?rv22) rfl rfl (by kernel_rfl) (by kernel_rfl) (by kernel_rfl) (fun _ _ _ h => h) (Or.inl ⟨by rfl, ?rhy22⟩) hHeld ?rrest22
        case rhy22 => first | (intro w hSw; (try dsimp only at hSw); go_simp; done) | (intro w hSw; (try dsimp only at hSw); go_simp; with_reducible rfl)
        try simp only [List.setIfInBounds_toArray, List.set_cons_zero, List.set_cons_succ]
        refine hold_take (i := 11) (v := ?rv23) rfl rfl (by kernel_rfl) (by kernel_rfl) (by kernel_rfl) (fun _ _ _ h => h) (Or.inl ⟨by rfl, ?rhy23⟩) hHeld ?rrest23
        case rhy23 => first | (intro w hSw; (try dsimp only at hSw); go_simp; done) | (intro w hSw; (try dsimp only at hSw); go_simp; with_reducible rfl)
        try simp only [List.setIfInBounds_toArray, List.set_cons_zero, List.set_cons_succ]
        refine wpAnyH_ready (rs := [13]) (by kernel_rfl) (by simp) ?_
        refine (AllReadyH.cons rfl (fun K hK => ?rz24x13) AllReadyH.nil)
        case rz24x13 =>
          have d0 := HBX.out.c0
          have e0 := HBX.out.f0
          have d1 := HBX.out.lt
          go_simp
          have hnew := hHeld.setNew (p := ⟨W.heap.size, 0, none⟩) hBw (.slice o n cn)
          have hfin : Dbx W _ n MX o cn (W.heap.size) := ⟨hnew, HN2.out.far (b := W.heap.size) 0 _ hbd, HBX.out.set _ _ _⟩
          refine hK.out _ _ hnew (fun hHeld => ?_)
          clear hK K hnew
          refine hold_take (i := 14) (v := ?rv25) rfl rfl (by kernel_rfl) (by kernel_rfl) (by kernel_rfl) (fun _ _ _ h => h) (Or.inl ⟨by rfl, ?rhy25⟩) hHeld ?rrest25
          case rhy25 => first | (intro w hSw; (try dsimp only at hSw); go_simp; done) | (intro w hSw; (try dsimp only at hSw); go_simp; with_reducible rfl)
          try simp only [List.setIfInBounds_toArray, List.set_cons_zero, List.set_cons_succ]
          refine wpAnyH_done (by kernel_rfl) ?_ _
          refine ⟨o, cn, W.heap.size, ?_, hfin⟩
          generalize W.heap.size = b'
          with_reducible rfl
  case cont1 =>
  intro e a' w4 hq
  obtain ⟨rfl, o, cz, bz_, rfl, hA⟩ := hq.out
  have HK4 := Hid.mk' (HKW.out.tr hA.kept)
  have HD4 := Hid.mk' (HDW.out.kept hA.kept)
  have HX4 := Hid.mk' (HXW.out.kept hA.kept)
  have HY4 := Hid.mk' (HYW.out.kept hA.kept)
  have HCX4 := Hid.mk' (HCX.out.kpt hA.kept)
  have HCY4 := Hid.mk' (HCY.out.kpt hA.kept)
  have HCZ4 := Hid.mk' hA.come
  have y1 := HX4.out.c0
  have y2 := hA.bx.c0
  have y3 := HX4.out.lt
  have y4 := hA.bx.lt
  clear hA hU MZe
  go_wp2_with (first
    | (go_at_call 16; refine (bsame_yes ((hc6.out.kpt ((Kept.alloc w6 (dvC a6 n c6) 24 (0, 0) none).tr hk7)).kpt (Kept.alloc w7 (dvC a7 n c7) 24 (0, 0) none)).by_ (hc7.out.kpt (Kept.alloc w7 (dvC a7 n c7) 24 (0, 0) none)).by_).mono ?_; rintro e w8 ⟨rfl, hk8⟩)
    | (go_at_call 13; refine (tell_do lc _ (HC.out.kpt (HK6.out)) (HP.out.kept (HK6.out)) HE5.out HM5.out).mono ?_; rintro e w7 ⟨a7, c7, rfl, hc7, hk7⟩; have HU7 := Hid.mk' ((db_alloc w6 a6 n c6 24).kept hk7); have r1 := HU7.out.c0; have r2 := HU7.out.lt; clear q1 q2)
    | (go_at_call 13; refine (tell_do lc w5 (HC.out.kpt (HK5.out)) (HP.out.kept (HK5.out)) HE4.out HM4.out).mono ?_; rintro e w6 ⟨a6, c6, rfl, hc6, hk6⟩; have HK6 := Hid.mk' ((HK5.out.tr hk6).tr (Kept.alloc w6 (dvC a6 n c6) 24 (0, 0) none)); have HD6 := Hid.mk' ((HD5.out.kept hk6).kept (Kept.alloc w6 (dvC a6 n c6) 24 (0, 0) none)); have q1 := HD6.out.c0; have q2 := HD6.out.lt; clear z1 z2 z3 z4 z5 z6)
    | (go_at_call 16; refine (bsame_yes HCX4.out.by_ HCZ4.out.by_).mono ?_; rintro e w5 ⟨rfl, hk5⟩; have HK5 := Hid.mk' (HK4.out.tr hk5); have HD5 := Hid.mk' (HD4.out.kept hk5); have HX5 := Hid.mk' (HX4.out.kept hk5); have HY5 := Hid.mk' (HY4.out.kept hk5); have z1 := HX5.out.c0; have z2 := HY5.out.c0; have z3 := HD5.out.c0; have z4 := HX5.out.lt; have z5 := HY5.out.lt; have z6 := HD5.out.lt; clear y1 y2 y3 y4))
  go_ret
  exact ⟨rfl, ((HK6.out.tr hk7).tr (Kept.alloc w7 (dvC a7 n c7) 24 (0, 0) none)).tr hk8⟩
set_option maxHeartbeats 2000000 in
theorem pie_tip {a : Option Addr} {n c : Nat} {L : List Nat} {b off : Nat} {m lc : Nat} {l : List Pw} (w : World) (hC : Come w a n c L) (hP : Plw w (some ⟨b, off, none⟩) m l) (hr : m ≤ lc) (hz : lc ≤ 9223372036854775807) (h : ¬ 10000 < n) (h2 : ¬ 64 < m) (hE : doE n l (m : Int) 0 = 0) (hlt : m < lc) : Calls Try.prog 7 #[dvV a n c, .slice (some ⟨b, off, none⟩) m lc, .int .i64 m] w fun e w' => e = .returned (.bool true) ∧ Kept w w' none := by
  have HC := Hid.mk' hC
  have HP := Hid.mk' hP
  have hn := hC.by_.max
  have hm := hP.max
  have HS := Hid.mk' hP.size
  clear hC hP
  have h' : ¬ (10000 : Int) < n := by omega
  have h2' : ¬ (64 : Int) < m := by omega
  have hne : ¬ lc = m := by omega
  obtain ⟨m1, m2⟩ := tip_math HC.out.by_.size hE
  have HE1 := Hid.mk' hE
  have HE2 := HE1
  have HE3 := Hid.mk' m1
  obtain ⟨MX, hMX⟩ : ∃ MX, doL L l (m : Int) 0 = MX := ⟨_, rfl⟩
  rw [hMX] at m2
  have HM1 := Hid.mk' hMX
  have HM2 := HM1
  have HM3 := Hid.mk' m2
  have HPS := Hid.mk' (fun w' (hk : Kept w w' none) => (Plw.zero : Plw w' (some ⟨b, off + m * 2, none⟩) 0 []))
  clear hE m1 m2 hMX
  go_enter Try.func7, Try.ntmps7
  go_wp2_with (first
    | (go_at_call 13; refine (tell_do lc _ (HC.out.kpt (HK2.out)) (HP.out.kept (HK2.out)) HE2.out HM2.out).mono ?_; rintro e w3 ⟨a3, c3, rfl, hc3, hk3⟩; have HD3 := Hid.mk' (HD2.out.kept hk3); have HX3 := Hid.mk' (HX2.out.kept hk3); have x3 := HX3.out.c0; have x4 := HX3.out.lt; clear c2d l2)
    | (go_at_call 13; refine (tell_do lc w1 (HC.out.kpt HK1.out) (HP.out.kept HK1.out) HE1.out HM1.out).mono ?_; rintro e w2 ⟨a2, c2, rfl, hc2, hk2⟩; have HK2 := Hid.mk' ((HK1.out.tr hk2).tr (Kept.alloc w2 (dvC a2 n c2) 24 (0, 0) none)); have HD2 := Hid.mk' ((HD1.out.kept hk2).kept (Kept.alloc w2 (dvC a2 n c2) 24 (0, 0) none)); have HX2 := Hid.mk' (db_alloc w2 a2 n c2 24); have c2d := HD2.out.c0; have l2 := HX2.out.lt)
    | (go_at_call 14; refine (alive_any _).mono ?_; rintro e w1 ⟨rfl, hk1⟩; have hD1 := (db_alloc w a n c 24).kept hk1; have c1 := hD1.c0; have lt1 := hD1.lt; have HD1 := Hid.mk' hD1; have HK1 := Hid.mk' ((Kept.alloc w (dvC a n c) 24 (0, 0) none).tr hk1); clear hD1))
  obtain ⟨W, hW⟩ : ∃ W, Hid (W = w3.alloc (.cells (dvC a3 n c3) 24)) := ⟨_, Hid.mk' rfl⟩
  have hkA : Kept w3 W none := by rw [hW.out]; exact Kept.alloc _ _ _ _ _
  have HKW := Hid.mk' ((HK2.out.tr hk3).tr hkA)
  have HDW := Hid.mk' (HD3.out.kept hkA)
  have HXW := Hid.mk' (HX3.out.kept hkA)
  have HYW : Hid (Db W w3.heap.size a3 n c3) := Hid.mk' (by rw [hW.out]; exact db_alloc _ _ _ _ _)
  have HCX := Hid.mk' ((hc2.out.kpt (Kept.alloc w2 (dvC a2 n c2) 24 (0, 0) none)).kpt (hk3.tr hkA))
  have HCY := Hid.mk' (hc3.out.kpt hkA)
  rw [← hW.out]
  generalize w3.heap.size = by_ at HYW ⊢
  generalize w2.heap.size = bx_ at HXW ⊢
  clear hkA hW hc2 hc3 HD3 HX3 x3 x4 HK2 HD2 HX2 hk3 hk2
  have HDO := Hid.mk' (fun cur (hk : Kept W cur none) => new_do (M := MX) (wh := 0) (lc - m) cur (HCY.out.kpt hk) (HPS.out cur (HKW.out.tr hk)) HE3.out HM3.out)
  have hU : ∀ w', Kept W w' none → w'.cell? ⟨by_, 0, none⟩ = some (.slice a3 n c3) := fun w' hk => (HYW.out.kept hk).c0
  have MZe : MX = MX := rfl
  refine Code.wp_mono (Q := R2 ?A1 (fun o c b w' => Dbx W w' n MX o c b)) ?cont1 ?reg1
  case reg1 =>
    repeat (rename_i hh; clear hh)
    refine wp_region_held_drew (S := fun w' => Kept W w' none) (by kernel_rfl) (kept_drw _ _) (fun hHeld => ?_)
    refine hold_take (i := 0) (v := ?rv26) rfl rfl (by kernel_rfl) (by kernel_rfl) (by kernel_rfl) (fun _ _ _ h => h) (Or.inl ⟨by rfl, ?rhy26⟩) hHeld ?rrest26
    case rhy26 => first | (intro w hSw; (try dsimp only at hSw); go_simp; done) | (intro w hSw; (try dsimp only at hSw); go_simp; with_reducible rfl)
    try simp only [List.setIfInBounds_toArray, List.set_cons_zero, List.set_cons_succ]
    refine hold_take (i := 1) (v := ?rv27) rfl rfl (by kernel_rfl) (by kernel_rfl) (by kernel_rfl) (fun _ _ _ h => h) (Or.inl ⟨by rfl, ?rhy27⟩) hHeld ?rrest27
    case rhy27 => first | (intro w hSw; (try dsimp only at hSw); go_simp; done) | (intro w hSw; (try dsimp only at hSw); go_simp; with_reducible rfl)
    try simp only [List.setIfInBounds_toArray, List.set_cons_zero, List.set_cons_succ]
    refine hold_take (i := 2) (v := ?rv28) rfl rfl (by kernel_rfl) (by kernel_rfl) (by kernel_rfl) (fun _ _ _ h => h) (Or.inl ⟨by rfl, ?rhy28⟩) hHeld ?rrest28
    case rhy28 => first | (intro w hSw; (try dsimp only at hSw); go_simp; done) | (intro w hSw; (try dsimp only at hSw); go_simp; with_reducible rfl)
    try simp only [List.setIfInBounds_toArray, List.set_cons_zero, List.set_cons_succ]
    refine hold_take (i := 3) (v := ?rv29) rfl rfl (by kernel_rfl) (by kernel_rfl) (by kernel_rfl) (fun _ _ _ h => h) (Or.inl ⟨by rfl, ?rhy29⟩) hHeld ?rrest29
    case rhy29 => first | (intro w hSw; (try dsimp only at hSw); go_simp; done) | (intro w hSw; (try dsimp only at hSw); go_simp; with_reducible rfl)
    try simp only [List.setIfInBounds_toArray, List.set_cons_zero, List.set_cons_succ]
    refine hold_take (i := 4) (v := ?rv30) rfl rfl (by kernel_rfl) (by kernel_rfl) (by kernel_rfl) (fun _ _ _ h => h) (Or.inl ⟨by rfl, ?rhy30⟩) hHeld ?rrest30
    case rhy30 => first | (intro w hSw; (try dsimp only at hSw); go_simp; done) | (intro w hSw; (try dsimp only at hSw); go_simp; with_reducible rfl)
    try simp only [List.setIfInBounds_toArray, List.set_cons_zero, List.set_cons_succ]
    refine hold_take (i := 5) (v := ?rv31) rfl rfl (by kernel_rfl) (by kernel_rfl) (by kernel_rfl) (fun _ _ _ h => h) (Or.inl ⟨by rfl, ?rhy31⟩) hHeld ?rrest31
    case rhy31 => first | (intro w hSw; (try dsimp only at hSw); go_simp; done) | (intro w hSw; (try dsimp only at hSw); go_simp; with_reducible rfl)
    try simp only [List.setIfInBounds_toArray, List.set_cons_zero, List.set_cons_succ]
    refine hold_take (i := 6) (v := ?rv32) rfl rfl (by kernel_rfl) (by kernel_rfl) (by kernel_rfl) (fun _ _ _ h => h) (Or.inl ⟨by rfl, ?rhy32⟩) hHeld ?rrest32
    case rhy32 => first | (intro w hSw; (try dsimp only at hSw); go_simp; done) | (intro w hSw; (try dsimp only at hSw); go_simp; with_reducible rfl)
    try simp only [List.setIfInBounds_toArray, List.set_cons_zero, List.set_cons_succ]
    refine hold_take (i := 7) (v := ?rv33) rfl rfl (by kernel_rfl) (by kernel_rfl) (by kernel_rfl) (fun _ _ _ h => h) (Or.inl ⟨by rfl, ?rhy33⟩) hHeld ?rrest33
    case rhy33 => first | (intro w hSw; (try dsimp only at hSw); go_simp; done) | (intro w hSw; (try dsimp only at hSw); go_simp; with_reducible rfl)
    try simp only [List.setIfInBounds_toArray, List.set_cons_zero, List.set_cons_succ]
    refine wpAnyH_ready (rs := [8, 12]) (by kernel_rfl) (by simp) ?_
    refine (AllReadyH.cons rfl (fun K hK => ?rz34x8) (AllReadyH.cons rfl (fun K hK => ?rz34x12) AllReadyH.nil))
    case rz34x8 =>
      go_simp
      refine (HDO.out W.drew hHeld).mono ?_
      rintro e wv35 ⟨o, cn, rfl, hcz, hge, hlx, hk⟩
      dsimp only
      have hnew := hHeld.tr hk
      have HN2 := Hid.mk' hcz.out
      have HN := Hid.mk' (fun (x : Addr) (hx : o = some x) => hlx.out x hx)
      refine hK.out _ _ hnew (fun hHeld => ?_)
      clear hK K hk hnew
      refine hold_take (i := 9) (v := ?rv36) rfl rfl (by kernel_rfl) (by kernel_rfl) (by kernel_rfl) (fun _ _ _ h => h) (Or.inl ⟨by rfl, ?rhy36⟩) hHeld ?rrest36
      case rhy36 => first | (intro w hSw; (try dsimp only at hSw); go_simp; done) | (intro w hSw; (try dsimp only at hSw); go_simp; with_reducible rfl)
      try simp only [List.setIfInBounds_toArray, List.set_cons_zero, List.set_cons_succ]
      refine hold_take (i := 10) (v := ?rv37) rfl rfl (by kernel_rfl) (by kernel_rfl) (by kernel_rfl) (fun _ _ _ h => h) (Or.inl ⟨by rfl, ?rhy37⟩) hHeld ?rrest37
      case rhy37 => first | (intro w hSw; (try dsimp only at hSw); go_simp; done) | (intro w hSw; (try dsimp only at hSw); go_simp; with_reducible rfl)
      try simp only [List.setIfInBounds_toArray, List.set_cons_zero, List.set_cons_succ]
      refine hold_take (i := 11) (v := ?rv38) rfl rfl (by kernel_rfl) (by kernel_rfl) (by kernel_rfl) (fun _ _ _ h => h) (Or.inl ⟨by rfl, ?rhy38⟩) hHeld ?rrest38
      case rhy38 => first | (intro w hSw; (try dsimp only at hSw); go_simp; done) | (intro w hSw; (try dsimp only at hSw); go_simp; with_reducible rfl)
      try simp only [List.setIfInBounds_toArray, List.set_cons_zero, List.set_cons_succ]
      refine wpAnyH_ready (rs := [12]) (by kernel_rfl) (by simp) ?_
      refine (AllReadyH.cons rfl (fun K hK => ?rz39x12) AllReadyH.nil)
      case rz39x12 =>
        go_simp
        have hk : Kept wv35 (wv35.alloc (.cells #[.slice none 0 0] 24)) none := Kept.alloc _ _ _ _ _
        have hnew := hHeld.tr hk
        have hBw : W.heap.size ≤ wv35.heap.size := hHeld.size
        have HBX := Hid.mk' (db_alloc wv35 none 0 0 24)
        have hbd : ∀ x, o = some x → x.block ≠ wv35.heap.size := fun x hx => by have := HN.out x hx; omega
        have HN2 := Hid.mk' (HN2.out.kpt hk)
        refine hK.out _ _ hnew (fun hHeld => ?_)
        clear hK K hnew hk
        obtain ⟨wv40, hwv40⟩ : ∃ v, (wv35.alloc (.cells #[.slice none 0 0] 24)) = v := ⟨_, rfl⟩
        rw [hwv40] at hHeld HN2 HBX ⊢
        clear hwv40
        refine wpAnyH_ready (rs := [13]) (by kernel_rfl) (by simp) ?_
        refine (AllReadyH.cons rfl (fun K hK => ?rz41x13) AllReadyH.nil)
        case rz41x13 =>
          have d0 := HBX.out.c0
          have e0 := HBX.out.f0
          have d1 := HBX.out.lt
          go_simp
          have hnew := hHeld.setNew (p := ⟨wv35.heap.size, 0, none⟩) hBw (.slice o n cn)
          have hfin : Dbx W _ n MX o cn (wv35.heap.size) := ⟨hnew, HN2.out.far (b := wv35.heap.size) 0 _ hbd, HBX.out.set _ _ _⟩
          refine hK.out _ _ hnew (fun hHeld => ?_)
          clear hK K hnew
          refine hold_take (i := 14) (v := ?rv42) rfl rfl (by kernel_rfl) (by kernel_rfl) (by kernel_rfl) (fun _ _ _ h => h) (Or.inl ⟨by rfl, ?rhy42⟩) hHeld ?rrest42
          case rhy42 => first | (intro w hSw; (try dsimp only at hSw); go_simp; done) | (intro w hSw; (try dsimp only at hSw); go_simp; with_reducible rfl)
          try simp only [List.setIfInBounds_toArray, List.set_cons_zero, List.set_cons_succ]
          refine wpAnyH_done (by kernel_rfl) ?_ _
          refine ⟨o, cn, wv35.heap.size, ?_, hfin⟩
          generalize wv35.heap.size = b'
          with_reducible rfl
    case rz34x12 =>
      go_simp
      have hk : Kept W.drew (W.alloc (.cells #[.slice none 0 0] 24)).drew none := ⟨rfl, rfl, rfl, Nat.le_of_lt (by simp), fun i hi _ => Below.heap_alloc _ _ _ hi⟩
      have hnew := hHeld.tr hk
      have hBw : W.heap.size ≤ W.heap.size := Nat.le_refl _
      have HBX := Hid.mk' ((db_alloc W none 0 0 24).kept (kept_drw _ none))
      refine hK.out _ _ hnew (fun hHeld => ?_)
      clear hK K hnew hk
      obtain ⟨wv43, hwv43⟩ : ∃ v, (W.alloc (.cells #[.slice none 0 0] 24)).drew = v := ⟨_, rfl⟩
      rw [hwv43] at hHeld HBX ⊢
      clear hwv43
      refine wpAnyH_ready (rs := [8]) (by kernel_rfl) (by simp) ?_
      refine (AllReadyH.cons rfl (fun K hK => ?rz44x8) AllReadyH.nil)
      case rz44x8 =>
        have hbl0 := HBX.out.lt
        go_simp
        refine (HDO.out wv43 hHeld).mono ?_
        rintro e wv45 ⟨o, cn, rfl, hcz, hge, hlx, hk⟩
        dsimp only
        have hnew := hHeld.tr hk
        have HBX := Hid.mk' (HBX.out.kept hk)
        have HN2 := Hid.mk' hcz.out
        have hbd : ∀ x, o = some x → x.block ≠ W.heap.size := fun x hx => by have := hge.out x hx; omega
        refine hK.out _ _ hnew (fun hHeld => ?_)
        clear hK K hk hnew
        refine hold_take (i := 9) (v := ?rv46) rfl rfl (by kernel_rfl) (by kernel_rfl) (by kernel_rfl) (fun _ _ _ h => h) (Or.inl ⟨by rfl, ?rhy46⟩) hHeld ?rrest46
        case rhy46 => first | (intro w hSw; (try dsimp only at hSw); go_simp; done) | (intro w hSw; (try dsimp only at hSw); go_simp; with_reducible rfl)
        try simp only [List.setIfInBounds_toArray, List.set_cons_zero, List.set_cons_succ]
        refine hold_take (i := 10) (v := ?rv47) rfl rfl (by kernel_rfl) (by kernel_rfl) (by kernel_rfl) (fun _ _ _ h => h) (Or.inl ⟨by rfl, ?rhy47⟩) hHeld ?rrest47
        case rhy47 => first | (intro w hSw; (try dsimp only at hSw); go_simp; done) | (intro w hSw; (try dsimp only at hSw); go_simp; with_reducible rfl)
        try simp only [List.setIfInBounds_toArray, List.set_cons_zero, List.set_cons_succ]
        refine hold_take (i := 11) (v := ?rv48) rfl rfl (by kernel_rfl) (by kernel_rfl) (by kernel_rfl) (fun _ _ _ h => h) (Or.inl ⟨by rfl, ?rhy48⟩) hHeld ?rrest48
        case rhy48 => first | (intro w hSw; (try dsimp only at hSw); go_simp; done) | (intro w hSw; (try dsimp only at hSw); go_simp; with_reducible rfl)
        try simp only [List.setIfInBounds_toArray, List.set_cons_zero, List.set_cons_succ]
        refine wpAnyH_ready (rs := [13]) (by kernel_rfl) (by simp) ?_
        refine (AllReadyH.cons rfl (fun K hK => ?rz49x13) AllReadyH.nil)
        case rz49x13 =>
          have d0 := HBX.out.c0
          have e0 := HBX.out.f0
          have d1 := HBX.out.lt
          go_simp
          have hnew := hHeld.setNew (p := ⟨W.heap.size, 0, none⟩) hBw (.slice o n cn)
          have hfin : Dbx W _ n MX o cn (W.heap.size) := ⟨hnew, HN2.out.far (b := W.heap.size) 0 _ hbd, HBX.out.set _ _ _⟩
          refine hK.out _ _ hnew (fun hHeld => ?_)
          clear hK K hnew
          refine hold_take (i := 14) (v := ?rv50) rfl rfl (by kernel_rfl) (by kernel_rfl) (by kernel_rfl) (fun _ _ _ h => h) (Or.inl ⟨by rfl, ?rhy50⟩) hHeld ?rrest50
          case rhy50 => first | (intro w hSw; (try dsimp only at hSw); go_simp; done) | (intro w hSw; (try dsimp only at hSw); go_simp; with_reducible rfl)
          try simp only [List.setIfInBounds_toArray, List.set_cons_zero, List.set_cons_succ]
          refine wpAnyH_done (by kernel_rfl) ?_ _
          refine ⟨o, cn, W.heap.size, ?_, hfin⟩
          generalize W.heap.size = b'
          with_reducible rfl
  case cont1 =>
  intro e a' w4 hq
  obtain ⟨rfl, o, cz, bz_, rfl, hA⟩ := hq.out
  have HK4 := Hid.mk' (HKW.out.tr hA.kept)
  have HD4 := Hid.mk' (HDW.out.kept hA.kept)
  have HX4 := Hid.mk' (HXW.out.kept hA.kept)
  have HY4 := Hid.mk' (HYW.out.kept hA.kept)
  have HCX4 := Hid.mk' (HCX.out.kpt hA.kept)
  have HCY4 := Hid.mk' (HCY.out.kpt hA.kept)
  have HCZ4 := Hid.mk' hA.come
  have y1 := HX4.out.c0
  have y2 := hA.bx.c0
  have y3 := HX4.out.lt
  have y4 := hA.bx.lt
  clear hA hU MZe
  go_wp2_with (first
    | (go_at_call 16; refine (bsame_yes (HCX4.out.kpt hk5).by_ (HCY4.out.kpt hk5).by_).mono ?_; rintro e w6 ⟨rfl, hk6⟩)
    | (go_at_call 16; refine (bsame_yes HCX4.out.by_ HCZ4.out.by_).mono ?_; rintro e w5 ⟨rfl, hk5⟩; have HK5 := Hid.mk' (HK4.out.tr hk5); have HD5 := Hid.mk' (HD4.out.kept hk5); have HX5 := Hid.mk' (HX4.out.kept hk5); have HY5 := Hid.mk' (HY4.out.kept hk5); have z1 := HX5.out.c0; have z2 := HY5.out.c0; have z3 := HD5.out.c0; have z4 := HX5.out.lt; have z5 := HY5.out.lt; have z6 := HD5.out.lt; clear y1 y2 y3 y4))
  go_ret
  exact ⟨rfl, HK5.out.tr hk6⟩
set_option maxHeartbeats 2000000 in
theorem pie_end {a : Option Addr} {n c : Nat} {L : List Nat} {la : Option Addr} {m : Nat} {l : List Pw} (w : World) (hC : Come w a n c L) (hP : Plw w la m l) (h : ¬ 10000 < n) (h2 : ¬ 64 < m) (hE : doE n l (m : Int) 0 = 0)  : Calls Try.prog 7 #[dvV a n c, .slice la m m, .int .i64 m] w fun e w' => e = .returned (.bool true) ∧ Kept w w' none := by
  have HC := Hid.mk' hC
  have HP := Hid.mk' hP
  have hn := hC.by_.max
  have hm := hP.max
  have HS := Hid.mk' hP.size
  clear hC hP
  have h' : ¬ (10000 : Int) < n := by omega
  have h2' : ¬ (64 : Int) < m := by omega
  obtain ⟨m1, m2⟩ := tip_math HC.out.by_.size hE
  have HE1 := Hid.mk' hE
  have HE2 := HE1
  have HE3 := Hid.mk' m1
  obtain ⟨MX, hMX⟩ : ∃ MX, doL L l (m : Int) 0 = MX := ⟨_, rfl⟩
  rw [hMX] at m2
  have HM1 := Hid.mk' hMX
  have HM2 := HM1
  have HM3 := Hid.mk' m2
  have HPS := Hid.mk' (fun w' (hk : Kept w w' none) => (Plw.zero : Plw w' la 0 []))
  clear hE m1 m2 hMX
  go_enter Try.func7, Try.ntmps7
  go_wp2_with (first
    | (go_at_call 13; refine (tell_do m _ (HC.out.kpt (HK2.out)) (HP.out.kept (HK2.out)) HE2.out HM2.out).mono ?_; rintro e w3 ⟨a3, c3, rfl, hc3, hk3⟩; have HD3 := Hid.mk' (HD2.out.kept hk3); have HX3 := Hid.mk' (HX2.out.kept hk3); have x3 := HX3.out.c0; have x4 := HX3.out.lt; clear c2d l2)
    | (go_at_call 13; refine (tell_do m w1 (HC.out.kpt HK1.out) (HP.out.kept HK1.out) HE1.out HM1.out).mono ?_; rintro e w2 ⟨a2, c2, rfl, hc2, hk2⟩; have HK2 := Hid.mk' ((HK1.out.tr hk2).tr (Kept.alloc w2 (dvC a2 n c2) 24 (0, 0) none)); have HD2 := Hid.mk' ((HD1.out.kept hk2).kept (Kept.alloc w2 (dvC a2 n c2) 24 (0, 0) none)); have HX2 := Hid.mk' (db_alloc w2 a2 n c2 24); have c2d := HD2.out.c0; have l2 := HX2.out.lt)
    | (go_at_call 14; refine (alive_any _).mono ?_; rintro e w1 ⟨rfl, hk1⟩; have hD1 := (db_alloc w a n c 24).kept hk1; have c1 := hD1.c0; have lt1 := hD1.lt; have HD1 := Hid.mk' hD1; have HK1 := Hid.mk' ((Kept.alloc w (dvC a n c) 24 (0, 0) none).tr hk1); clear hD1))
  obtain ⟨W, hW⟩ : ∃ W, Hid (W = w3.alloc (.cells (dvC a3 n c3) 24)) := ⟨_, Hid.mk' rfl⟩
  have hkA : Kept w3 W none := by rw [hW.out]; exact Kept.alloc _ _ _ _ _
  have HKW := Hid.mk' ((HK2.out.tr hk3).tr hkA)
  have HDW := Hid.mk' (HD3.out.kept hkA)
  have HXW := Hid.mk' (HX3.out.kept hkA)
  have HYW : Hid (Db W w3.heap.size a3 n c3) := Hid.mk' (by rw [hW.out]; exact db_alloc _ _ _ _ _)
  have HCX := Hid.mk' ((hc2.out.kpt (Kept.alloc w2 (dvC a2 n c2) 24 (0, 0) none)).kpt (hk3.tr hkA))
  have HCY := Hid.mk' (hc3.out.kpt hkA)
  rw [← hW.out]
  generalize w3.heap.size = by_ at HYW ⊢
  generalize w2.heap.size = bx_ at HXW ⊢
  clear hkA hW hc2 hc3 HD3 HX3 x3 x4 HK2 HD2 HX2 hk3 hk2
  have HDO := Hid.mk' (fun cur (hk : Kept W cur none) => new_do (M := MX) (wh := 0) (0) cur (HCY.out.kpt hk) (HPS.out cur (HKW.out.tr hk)) HE3.out HM3.out)
  have hU : ∀ w', Kept W w' none → w'.cell? ⟨by_, 0, none⟩ = some (.slice a3 n c3) := fun w' hk => (HYW.out.kept hk).c0
  have MZe : MX = MX := rfl
  refine Code.wp_mono (Q := R2 ?A1 (fun o c b w' => Dbx W w' n MX o c b)) ?cont1 ?reg1
  case reg1 =>
    repeat (rename_i hh; clear hh)
    refine wp_region_held_drew (S := fun w' => Kept W w' none) (by kernel_rfl) (kept_drw _ _) (fun hHeld => ?_)
    refine hold_take (i := 0) (v := ?rv51) rfl rfl (by kernel_rfl) (by kernel_rfl) (by kernel_rfl) (fun _ _ _ h => h) (Or.inl ⟨by rfl, ?rhy51⟩) hHeld ?rrest51
    case rhy51 => first | (intro w hSw; (try dsimp only at hSw); go_simp; done) | (intro w hSw; (try dsimp only at hSw); go_simp; with_reducible rfl)
    try simp only [List.setIfInBounds_toArray, List.set_cons_zero, List.set_cons_succ]
    refine hold_take (i := 1) (v := ?rv52) rfl rfl (by kernel_rfl) (by kernel_rfl) (by kernel_rfl) (fun _ _ _ h => h) (Or.inl ⟨by rfl, ?rhy52⟩) hHeld ?rrest52
    case rhy52 => first | (intro w hSw; (try dsimp only at hSw); go_simp; done) | (intro w hSw; (try dsimp only at hSw); go_simp; with_reducible rfl)
    try simp only [List.setIfInBounds_toArray, List.set_cons_zero, List.set_cons_succ]
    refine hold_take (i := 2) (v := ?rv53) rfl rfl (by kernel_rfl) (by kernel_rfl) (by kernel_rfl) (fun _ _ _ h => h) (Or.inl ⟨by rfl, ?rhy53⟩) hHeld ?rrest53
    case rhy53 => first | (intro w hSw; (try dsimp only at hSw); go_simp; done) | (intro w hSw; (try dsimp only at hSw); go_simp; with_reducible rfl)
    try simp only [List.setIfInBounds_toArray, List.set_cons_zero, List.set_cons_succ]
    refine hold_take (i := 3) (v := ?rv54) rfl rfl (by kernel_rfl) (by kernel_rfl) (by kernel_rfl) (fun _ _ _ h => h) (Or.inl ⟨by rfl, ?rhy54⟩) hHeld ?rrest54
    case rhy54 => first | (intro w hSw; (try dsimp only at hSw); go_simp; done) | (intro w hSw; (try dsimp only at hSw); go_simp; with_reducible rfl)
    try simp only [List.setIfInBounds_toArray, List.set_cons_zero, List.set_cons_succ]
    refine hold_take (i := 4) (v := ?rv55) rfl rfl (by kernel_rfl) (by kernel_rfl) (by kernel_rfl) (fun _ _ _ h => h) (Or.inl ⟨by rfl, ?rhy55⟩) hHeld ?rrest55
    case rhy55 => first | (intro w hSw; (try dsimp only at hSw); go_simp; done) | (intro w hSw; (try dsimp only at hSw); go_simp; with_reducible rfl)
    try simp only [List.setIfInBounds_toArray, List.set_cons_zero, List.set_cons_succ]
    refine hold_take (i := 5) (v := ?rv56) rfl rfl (by kernel_rfl) (by kernel_rfl) (by kernel_rfl) (fun _ _ _ h => h) (Or.inl ⟨by rfl, ?rhy56⟩) hHeld ?rrest56
    case rhy56 => first | (intro w hSw; (try dsimp only at hSw); go_simp; done) | (intro w hSw; (try dsimp only at hSw); go_simp; with_reducible rfl)
    try simp only [List.setIfInBounds_toArray, List.set_cons_zero, List.set_cons_succ]
    refine hold_take (i := 6) (v := ?rv57) rfl rfl (by kernel_rfl) (by kernel_rfl) (by kernel_rfl) (fun _ _ _ h => h) (Or.inl ⟨by rfl, ?rhy57⟩) hHeld ?rrest57
    case rhy57 => first | (intro w hSw; (try dsimp only at hSw); go_simp; done) | (intro w hSw; (try dsimp only at hSw); go_simp; with_reducible rfl)
    try simp only [List.setIfInBounds_toArray, List.set_cons_zero, List.set_cons_succ]
    refine hold_take (i := 7) (v := ?rv58) rfl rfl (by kernel_rfl) (by kernel_rfl) (by kernel_rfl) (fun _ _ _ h => h) (Or.inl ⟨by rfl, ?rhy58⟩) hHeld ?rrest58
    case rhy58 => first | (intro w hSw; (try dsimp only at hSw); go_simp; done) | (intro w hSw; (try dsimp only at hSw); go_simp; with_reducible rfl)
    try simp only [List.setIfInBounds_toArray, List.set_cons_zero, List.set_cons_succ]
    refine wpAnyH_ready (rs := [8, 12]) (by kernel_rfl) (by simp) ?_
    refine (AllReadyH.cons rfl (fun K hK => ?rz59x8) (AllReadyH.cons rfl (fun K hK => ?rz59x12) AllReadyH.nil))
    case rz59x8 =>
      go_simp
      refine (HDO.out W.drew hHeld).mono ?_
      rintro e wv60 ⟨o, cn, rfl, hcz, hge, hlx, hk⟩
      dsimp only
      have hnew := hHeld.tr hk
      have HN2 := Hid.mk' hcz.out
      have HN := Hid.mk' (fun (x : Addr) (hx : o = some x) => hlx.out x hx)
      refine hK.out _ _ hnew (fun hHeld => ?_)
      clear hK K hk hnew
      refine hold_take (i := 9) (v := ?rv61) rfl rfl (by kernel_rfl) (by kernel_rfl) (by kernel_rfl) (fun _ _ _ h => h) (Or.inl ⟨by rfl, ?rhy61⟩) hHeld ?rrest61
      case rhy61 => first | (intro w hSw; (try dsimp only at hSw); go_simp; done) | (intro w hSw; (try dsimp only at hSw); go_simp; with_reducible rfl)
      try simp only [List.setIfInBounds_toArray, List.set_cons_zero, List.set_cons_succ]
      refine hold_take (i := 10) (v := ?rv62) rfl rfl (by kernel_rfl) (by kernel_rfl) (by kernel_rfl) (fun _ _ _ h => h) (Or.inl ⟨by rfl, ?rhy62⟩) hHeld ?rrest62
      case rhy62 => first | (intro w hSw; (try dsimp only at hSw); go_simp; done) | (intro w hSw; (try dsimp only at hSw); go_simp; with_reducible rfl)
      try simp only [List.setIfInBounds_toArray, List.set_cons_zero, List.set_cons_succ]
      refine hold_take (i := 11) (v := ?rv63) rfl rfl (by kernel_rfl) (by kernel_rfl) (by kernel_rfl) (fun _ _ _ h => h) (Or.inl ⟨by rfl, ?rhy63⟩) hHeld ?rrest63
      case rhy63 => first | (intro w hSw; (try dsimp only at hSw); go_simp; done) | (intro w hSw; (try dsimp only at hSw); go_simp; with_reducible rfl)
      try simp only [List.setIfInBounds_toArray, List.set_cons_zero, List.set_cons_succ]
      refine wpAnyH_ready (rs := [12]) (by kernel_rfl) (by simp) ?_
      refine (AllReadyH.cons rfl (fun K hK => ?rz64x12) AllReadyH.nil)
      case rz64x12 =>
        go_simp
        have hk : Kept wv60 (wv60.alloc (.cells #[.slice none 0 0] 24)) none := Kept.alloc _ _ _ _ _
        have hnew := hHeld.tr hk
        have hBw : W.heap.size ≤ wv60.heap.size := hHeld.size
        have HBX := Hid.mk' (db_alloc wv60 none 0 0 24)
        have hbd : ∀ x, o = some x → x.block ≠ wv60.heap.size := fun x hx => by have := HN.out x hx; omega
        have HN2 := Hid.mk' (HN2.out.kpt hk)
        refine hK.out _ _ hnew (fun hHeld => ?_)
        clear hK K hnew hk
        obtain ⟨wv65, hwv65⟩ : ∃ v, (wv60.alloc (.cells #[.slice none 0 0] 24)) = v := ⟨_, rfl⟩
        rw [hwv65] at hHeld HN2 HBX ⊢
        clear hwv65
        refine wpAnyH_ready (rs := [13]) (by kernel_rfl) (by simp) ?_
        refine (AllReadyH.cons rfl (fun K hK => ?rz66x13) AllReadyH.nil)
        case rz66x13 =>
          have d0 := HBX.out.c0
          have e0 := HBX.out.f0
          have d1 := HBX.out.lt
          go_simp
          have hnew := hHeld.setNew (p := ⟨wv60.heap.size, 0, none⟩) hBw (.slice o n cn)
          have hfin : Dbx W _ n MX o cn (wv60.heap.size) := ⟨hnew, HN2.out.far (b := wv60.heap.size) 0 _ hbd, HBX.out.set _ _ _⟩
          refine hK.out _ _ hnew (fun hHeld => ?_)
          clear hK K hnew
          refine hold_take (i := 14) (v := ?rv67) rfl rfl (by kernel_rfl) (by kernel_rfl) (by kernel_rfl) (fun _ _ _ h => h) (Or.inl ⟨by rfl, ?rhy67⟩) hHeld ?rrest67
          case rhy67 => first | (intro w hSw; (try dsimp only at hSw); go_simp; done) | (intro w hSw; (try dsimp only at hSw); go_simp; with_reducible rfl)
          try simp only [List.setIfInBounds_toArray, List.set_cons_zero, List.set_cons_succ]
          refine wpAnyH_done (by kernel_rfl) ?_ _
          refine ⟨o, cn, wv60.heap.size, ?_, hfin⟩
          generalize wv60.heap.size = b'
          with_reducible rfl
    case rz59x12 =>
      go_simp
      have hk : Kept W.drew (W.alloc (.cells #[.slice none 0 0] 24)).drew none := ⟨rfl, rfl, rfl, Nat.le_of_lt (by simp), fun i hi _ => Below.heap_alloc _ _ _ hi⟩
      have hnew := hHeld.tr hk
      have hBw : W.heap.size ≤ W.heap.size := Nat.le_refl _
      have HBX := Hid.mk' ((db_alloc W none 0 0 24).kept (kept_drw _ none))
      refine hK.out _ _ hnew (fun hHeld => ?_)
      clear hK K hnew hk
      obtain ⟨wv68, hwv68⟩ : ∃ v, (W.alloc (.cells #[.slice none 0 0] 24)).drew = v := ⟨_, rfl⟩
      rw [hwv68] at hHeld HBX ⊢
      clear hwv68
      refine wpAnyH_ready (rs := [8]) (by kernel_rfl) (by simp) ?_
      refine (AllReadyH.cons rfl (fun K hK => ?rz69x8) AllReadyH.nil)
      case rz69x8 =>
        have hbl0 := HBX.out.lt
        go_simp
        refine (HDO.out wv68 hHeld).mono ?_
        rintro e wv70 ⟨o, cn, rfl, hcz, hge, hlx, hk⟩
        dsimp only
        have hnew := hHeld.tr hk
        have HBX := Hid.mk' (HBX.out.kept hk)
        have HN2 := Hid.mk' hcz.out
        have hbd : ∀ x, o = some x → x.block ≠ W.heap.size := fun x hx => by have := hge.out x hx; omega
        refine hK.out _ _ hnew (fun hHeld => ?_)
        clear hK K hk hnew
        refine hold_take (i := 9) (v := ?rv71) rfl rfl (by kernel_rfl) (by kernel_rfl) (by kernel_rfl) (fun _ _ _ h => h) (Or.inl ⟨by rfl, ?rhy71⟩) hHeld ?rrest71
        case rhy71 => first | (intro w hSw; (try dsimp only at hSw); go_simp; done) | (intro w hSw; (try dsimp only at hSw); go_simp; with_reducible rfl)
        try simp only [List.setIfInBounds_toArray, List.set_cons_zero, List.set_cons_succ]
        refine hold_take (i := 10) (v := ?rv72) rfl rfl (by kernel_rfl) (by kernel_rfl) (by kernel_rfl) (fun _ _ _ h => h) (Or.inl ⟨by rfl, ?rhy72⟩) hHeld ?rrest72
        case rhy72 => first | (intro w hSw; (try dsimp only at hSw); go_simp; done) | (intro w hSw; (try dsimp only at hSw); go_simp; with_reducible rfl)
        try simp only [List.setIfInBounds_toArray, List.set_cons_zero, List.set_cons_succ]
        refine hold_take (i := 11) (v := ?rv73) rfl rfl (by kernel_rfl) (by kernel_rfl) (by kernel_rfl) (fun _ _ _ h => h) (Or.inl ⟨by rfl, ?rhy73⟩) hHeld ?rrest73
        case rhy73 => first | (intro w hSw; (try dsimp only at hSw); go_simp; done) | (intro w hSw; (try dsimp only at hSw); go_simp; with_reducible rfl)
        try simp only [List.setIfInBounds_toArray, List.set_cons_zero, List.set_cons_succ]
        refine wpAnyH_ready (rs := [13]) (by kernel_rfl) (by simp) ?_
        refine (AllReadyH.cons rfl (fun K hK => ?rz74x13) AllReadyH.nil)
        case rz74x13 =>
          have d0 := HBX.out.c0
          have e0 := HBX.out.f0
          have d1 := HBX.out.lt
          go_simp
          have hnew := hHeld.setNew (p := ⟨W.heap.size, 0, none⟩) hBw (.slice o n cn)
          have hfin : Dbx W _ n MX o cn (W.heap.size) := ⟨hnew, HN2.out.far (b := W.heap.size) 0 _ hbd, HBX.out.set _ _ _⟩
          refine hK.out _ _ hnew (fun hHeld => ?_)
          clear hK K hnew
          refine hold_take (i := 14) (v := ?rv75) rfl rfl (by kernel_rfl) (by kernel_rfl) (by kernel_rfl) (fun _ _ _ h => h) (Or.inl ⟨by rfl, ?rhy75⟩) hHeld ?rrest75
          case rhy75 => first | (intro w hSw; (try dsimp only at hSw); go_simp; done) | (intro w hSw; (try dsimp only at hSw); go_simp; with_reducible rfl)
          try simp only [List.setIfInBounds_toArray, List.set_cons_zero, List.set_cons_succ]
          refine wpAnyH_done (by kernel_rfl) ?_ _
          refine ⟨o, cn, W.heap.size, ?_, hfin⟩
          generalize W.heap.size = b'
          with_reducible rfl
  case cont1 =>
  intro e a' w4 hq
  obtain ⟨rfl, o, cz, bz_, rfl, hA⟩ := hq.out
  have HK4 := Hid.mk' (HKW.out.tr hA.kept)
  have HD4 := Hid.mk' (HDW.out.kept hA.kept)
  have HX4 := Hid.mk' (HXW.out.kept hA.kept)
  have HY4 := Hid.mk' (HYW.out.kept hA.kept)
  have HCX4 := Hid.mk' (HCX.out.kpt hA.kept)
  have HCY4 := Hid.mk' (HCY.out.kpt hA.kept)
  have HCZ4 := Hid.mk' hA.come
  have y1 := HX4.out.c0
  have y2 := hA.bx.c0
  have y3 := HX4.out.lt
  have y4 := hA.bx.lt
  clear hA hU MZe
  go_wp2_with (first
    | (go_at_call 16; refine (bsame_yes (HCX4.out.kpt hk5).by_ (HCY4.out.kpt hk5).by_).mono ?_; rintro e w6 ⟨rfl, hk6⟩)
    | (go_at_call 16; refine (bsame_yes HCX4.out.by_ HCZ4.out.by_).mono ?_; rintro e w5 ⟨rfl, hk5⟩; have HK5 := Hid.mk' (HK4.out.tr hk5); have HD5 := Hid.mk' (HD4.out.kept hk5); have HX5 := Hid.mk' (HX4.out.kept hk5); have HY5 := Hid.mk' (HY4.out.kept hk5); have z1 := HX5.out.c0; have z2 := HY5.out.c0; have z3 := HD5.out.c0; have z4 := HX5.out.lt; have z5 := HY5.out.lt; have z6 := HD5.out.lt; clear y1 y2 y3 y4))
  go_ret
  exact ⟨rfl, HK5.out.tr hk6⟩
theorem bpie_any {a : Option Addr} {n c : Nat} {L : List Nat} {la : Option Addr} {m lc : Nat} {l : List Pw} (at_ : Int) (w : World) (hC : Come w a n c L) (hP : Plw w la m l) (hr : m ≤ lc) (hz : lc ≤ 9223372036854775807) (hzn : 0 < lc → ∃ b off, la = some ⟨b, off, none⟩) : Calls Try.prog 7 #[dvV a n c, .slice la m lc, .int .i64 at_] w fun e w' => e = .returned (.bool true) ∧ Kept w w' none := by
  by_cases h : 10000 < n
  · exact pie_big at_ w hC hP hr hz h
  · by_cases h2 : 64 < m
    · exact pie_many at_ w hC hP hr hz h h2
    · by_cases h3 : at_ < 0
      · exact pie_neg at_ w hC hP hr hz h h2 h3
      · by_cases h4 : (m : Int) < at_
        · exact pie_far at_ w hC hP hr hz h h2 (by omega) h4
        · obtain ⟨k, rfl⟩ := Int.eq_ofNat_of_zero_le (show 0 ≤ at_ by omega)
          by_cases hE : doE n l (m : Int) 0 = 0
          · by_cases hlt : k < m
            · obtain ⟨b, off, rfl, _⟩ := hP.at_ (by omega)
              exact pie_mid k w hC hP hr hz h h2 (by omega) hE hlt
            · obtain rfl : k = m := by omega
              by_cases hlc : k = lc
              · subst hlc
                exact pie_end w hC hP h h2 hE
              · obtain ⟨b, off, rfl⟩ := hzn (by omega)
                exact pie_tip w hC hP hr hz h h2 hE (by omega)
          · exact pie_err k w hC hP hr hz h h2 (by omega) hE

end Go.Proofs.Ytpfbdandhdapcaa
