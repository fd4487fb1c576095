/-
  Texts joined: some of those that the proofs of this seat stand on.
-/
import Derived.Test.YtmjkhafifemegaaWorld
import Derived.Test.YtmjkhafifemegaaMaths
import Derived.Test.YtmjkhafifemegaaSGrGJ
import Derived.Test.YtmjkhafifemegaaSFitsJ
import Derived.Test.YtmjkhafifemegaaStoH
import Derived.Test.YtmjkhafifemegaaStoN
import Derived.Test.YtmjkhafifemegaaSRefWJ
/-
  Of the text SameA: what this stage needs (culled by a program).
-/
namespace Go.Proofs.Ytmjkhafifemegaa
open Go.RowKit Go.Lib Go.Deep
set_option linter.unusedVariables false
set_option linter.unusedSimpArgs false

theorem rsame_ints {a a' : Option Addr} {n c c' : Nat} {l : List Int} {w : World} (h1 : Ints w a n c l) (h2 : Ints w a' n c' l) : Calls Try.prog 73 #[.slice a n c, .slice a' n c'] w fun e w' => e = .returned (.bool true) ∧ Kept w w' none := by
  have H1 := Hid.mk' h1
  have H2 := Hid.mk' h2
  have hn : n ≤ 9223372036854775807 := by have := h1.cap.room; have := h1.cap.max; omega
  clear h1 h2
  go_enter Try.func73, Try.ntmps73
  go_wp2
  go_loopw [5] (fun i wr => ∃ k : Nat, k ≤ n ∧ i = .int .i64 k ∧ ∃ m, wr = w.drewN m) (fun i _ => n - (intOf i).toNat)
  case atStart => exact ⟨0, Nat.zero_le _, rfl, 0, rfl⟩
  case round =>
    obtain ⟨k, hk, rfl, m, rfl⟩ := hrel
    by_cases hlt : k < n
    · obtain ⟨b, o, rfl, _, hc⟩ := H1.out.at_ (by omega)
      obtain ⟨b', o', rfl, _, hc'⟩ := H2.out.at_ (by omega)
      have hx := hc k hlt
      have hx' := hc' k hlt
      obtain ⟨x, hxe⟩ : ∃ x, x = l.getD k 0 := ⟨_, rfl⟩
      rw [← hxe] at hx hx'
      have hne : (x != x) = false := by simp
      clear hc hc' hxe
      go_wp2
      go_quiet (fail)
      go_wp2
      go_roundw
      case rel => exact ⟨k + 1, by omega, by go_num, _, rfl⟩
      case measure => simp [intOf]; omega
    · go_wp2
      go_ret
      exact ⟨rfl, Kept.drewN _ _ _⟩
set_option maxRecDepth 100000 in
theorem rsamePlan_yes {a a' : Option Addr} {c c' : Nat} {p : Pl} {w : World} (h1 : Ints w a p.splits.length c p.splits) (h2 : Ints w a' p.splits.length c' p.splits) : Calls Try.prog 48 #[planV p a c, planV p a' c'] w fun e w' => e = .returned (.bool true) ∧ Kept w w' none := by
  have k1 : Kept w ((w.alloc (.cells #[.int .i64 p.cycle, .int .i64 p.offset, .slice a p.splits.length c] 44)).alloc (.cells #[.int .i64 p.cycle, .int .i64 p.offset, .slice a' p.splits.length c'] 44)) none := (Kept.alloc _ _ _ _ _).tr (Kept.alloc _ _ _ _ _)
  have H1 := Hid.mk' (h1.kept k1)
  have H2 := Hid.mk' (h2.kept k1)
  have HK := Hid.mk' k1
  clear h1 h2 k1
  go_enter Try.func48, Try.ntmps48
  go_wp2_with (go_at_call 73; refine (rsame_ints H1.out H2.out).mono ?_; rintro e w2 ⟨rfl, hk2⟩)
  go_ret
  exact ⟨rfl, HK.out.tr hk2⟩
set_option maxRecDepth 100000 in
set_option maxHeartbeats 2000000 in
theorem rsamePlans_yes {a a' : Option Addr} {n c c' : Nat} {l : List Pl} {w : World} (h1 : Plans w a n c l) (h2 : Plans w a' n c' l) : Calls Try.prog 25 #[.slice a n c, .slice a' n c'] w fun e w' => e = .returned (.bool true) ∧ Kept w w' none := by
  have H1 := Hid.mk' h1
  have H2 := Hid.mk' h2
  have hn : n ≤ 9223372036854775807 := by have := h1.cap.room; have := h1.cap.max; omega
  clear h1 h2
  go_enter Try.func25, Try.ntmps25
  go_wp2
  go_loopw [5] (fun i wr => ∃ k : Nat, k ≤ n ∧ i = .int .i64 k ∧ Kept w wr none) (fun i _ => n - (intOf i).toNat)
  case atStart => exact ⟨0, Nat.zero_le _, rfl, Kept.refl _ _⟩
  case round =>
    obtain ⟨k, hk, rfl, hkw⟩ := hrel
    by_cases hlt : k < n
    · obtain ⟨b, o, r, rc, rfl, p0, p1, p2, hI⟩ := H1.out.at_ hlt
      obtain ⟨b', o', r', rc', rfl, p0', p1', p2', hI'⟩ := H2.out.at_ hlt
      generalize l.getD k q0 = p at *
      have g0 : ∀ w', Kept w w' none → w'.cell? ⟨b, o + k * 3, none⟩ = some (.int .i64 p.cycle) := fun w' q => cell_kept0 p0 q
      have g1 : ∀ w', Kept w w' none → w'.cell? ⟨b, o + k * 3 + 1, none⟩ = some (.int .i64 p.offset) := fun w' q => cell_kept0 p1 q
      have g2 : ∀ w', Kept w w' none → w'.cell? ⟨b, o + k * 3 + 2, none⟩ = some (.slice r p.splits.length rc) := fun w' q => cell_kept0 p2 q
      have g3 : ∀ w', Kept w w' none → w'.cell? ⟨b', o' + k * 3, none⟩ = some (.int .i64 p.cycle) := fun w' q => cell_kept0 p0' q
      have g4 : ∀ w', Kept w w' none → w'.cell? ⟨b', o' + k * 3 + 1, none⟩ = some (.int .i64 p.offset) := fun w' q => cell_kept0 p1' q
      have g5 : ∀ w', Kept w w' none → w'.cell? ⟨b', o' + k * 3 + 2, none⟩ = some (.slice r' p.splits.length rc') := fun w' q => cell_kept0 p2' q
      have HI := Hid.mk' hI
      have HI' := Hid.mk' hI'
      clear hI hI' p0 p1 p2 p0' p1' p2'
      go_wp2
      refine Code.wp_mono (Q := Rg ?A1 w) ?cont1 ?reg1
      case reg1 =>
        repeat (rename_i hh; clear hh)
        refine wp_region_held_drew (S := fun w' => Kept w w' none) (by kernel_rfl) (Kept.tr hkw (Kept.drew _ _)) (fun hHeld => ?_)
        refine held_take (i := 0) (v := ?v2) rfl rfl (by kernel_rfl) (by kernel_rfl) (by kernel_rfl) (fun _ _ _ h => h) (Or.inl ⟨by rfl, ?hy2⟩) hHeld ?rest2
        case hy2 => first | (intro w hSw; (try dsimp only at hSw); go_simp; done) | (intro w hSw; (try dsimp only at hSw); go_simp; with_reducible rfl)
        try simp only [List.setIfInBounds_toArray, List.set_cons_zero, List.set_cons_succ]
        refine held_take (i := 1) (v := ?v3) rfl rfl (by kernel_rfl) (by kernel_rfl) (by kernel_rfl) (fun _ _ _ h => h) (Or.inl ⟨by rfl, ?hy3⟩) hHeld ?rest3
        case hy3 => first | (intro w hSw; (try dsimp only at hSw); go_simp; done) | (intro w hSw; (try dsimp only at hSw); go_simp; with_reducible rfl)
        try simp only [List.setIfInBounds_toArray, List.set_cons_zero, List.set_cons_succ]
        refine held_take (i := 2) (v := ?v4) rfl rfl (by kernel_rfl) (by kernel_rfl) (by kernel_rfl) (fun _ _ _ h => h) (Or.inl ⟨by rfl, ?hy4⟩) hHeld ?rest4
        case hy4 => first | (intro w hSw; (try dsimp only at hSw); go_simp; done) | (intro w hSw; (try dsimp only at hSw); go_simp; with_reducible rfl)
        try simp only [List.setIfInBounds_toArray, List.set_cons_zero, List.set_cons_succ]
        refine held_take (i := 3) (v := ?v5) rfl rfl (by kernel_rfl) (by kernel_rfl) (by kernel_rfl) (fun _ _ _ h => h) (Or.inl ⟨by rfl, ?hy5⟩) hHeld ?rest5
        case hy5 => first | (intro w hSw; (try dsimp only at hSw); go_simp; done) | (intro w hSw; (try dsimp only at hSw); go_simp; with_reducible rfl)
        try simp only [List.setIfInBounds_toArray, List.set_cons_zero, List.set_cons_succ]
        refine held_take (i := 4) (v := ?v6) rfl rfl (by kernel_rfl) (by kernel_rfl) (by kernel_rfl) (fun _ _ _ h => h) (Or.inl ⟨by rfl, ?hy6⟩) hHeld ?rest6
        case hy6 => first | (intro w hSw; (try dsimp only at hSw); go_simp; done) | (intro w hSw; (try dsimp only at hSw); go_simp; with_reducible rfl)
        try simp only [List.setIfInBounds_toArray, List.set_cons_zero, List.set_cons_succ]
        refine held_take (i := 5) (v := ?v7) rfl rfl (by kernel_rfl) (by kernel_rfl) (by kernel_rfl) (fun _ _ _ h => h) (Or.inl ⟨by rfl, ?hy7⟩) hHeld ?rest7
        case hy7 => first | (intro w hSw; (try dsimp only at hSw); go_simp; done) | (intro w hSw; (try dsimp only at hSw); go_simp; with_reducible rfl)
        try simp only [List.setIfInBounds_toArray, List.set_cons_zero, List.set_cons_succ]
        refine held_take (i := 6) (v := ?v8) rfl rfl (by kernel_rfl) (by kernel_rfl) (by kernel_rfl) (fun _ _ _ h => h) (Or.inl ⟨by rfl, ?hy8⟩) hHeld ?rest8
        case hy8 => first | (intro w hSw; (try dsimp only at hSw); go_simp; done) | (intro w hSw; (try dsimp only at hSw); go_simp; with_reducible rfl)
        try simp only [List.setIfInBounds_toArray, List.set_cons_zero, List.set_cons_succ]
        refine held_take (i := 7) (v := ?v9) rfl rfl (by kernel_rfl) (by kernel_rfl) (by kernel_rfl) (fun _ _ _ h => h) (Or.inl ⟨by rfl, ?hy9⟩) hHeld ?rest9
        case hy9 => first | (intro w hSw; (try dsimp only at hSw); go_simp; done) | (intro w hSw; (try dsimp only at hSw); go_simp; with_reducible rfl)
        try simp only [List.setIfInBounds_toArray, List.set_cons_zero, List.set_cons_succ]
        refine wpAnyH_ready (rs := [8]) (by kernel_rfl) (by simp) ?_
        refine AllReadyH.cons rfl (fun K hK => ?_) AllReadyH.nil
        go_simp
        go_wp2_with (go_at_call 48; refine (rsamePlan_yes (HI.out.kept hHeld) (HI'.out.kept hHeld)).mono ?_; rintro e wS ⟨rfl, hkS⟩; have hKS : Kept w wS none := Kept.tr hHeld hkS)
        replace hK := hK.out
        refine hK _ _ hKS (fun hHeld => ?_)
        clear hK K
        refine held_take (i := 9) (v := ?v10) rfl rfl (by kernel_rfl) (by kernel_rfl) (by kernel_rfl) (fun _ _ _ h => h) (Or.inl ⟨by rfl, ?hy10⟩) hHeld ?rest10
        case hy10 => first | (intro w hSw; (try dsimp only at hSw); go_simp; done) | (intro w hSw; (try dsimp only at hSw); go_simp; with_reducible rfl)
        try simp only [List.setIfInBounds_toArray, List.set_cons_zero, List.set_cons_succ]
        refine wpAnyH_done (by kernel_rfl) ?_ _
        refine And.intro ?_ hHeld
        with_reducible rfl
      case cont1 =>
      intro e a' w' hq
      obtain ⟨rfl, rfl, hkq⟩ := hq.out
      go_wp2
      go_roundw
      case rel => exact ⟨k + 1, by omega, by go_num, hkq⟩
      case measure => simp [intOf]; omega
    · go_wp2
      go_ret
      exact ⟨rfl, hkw⟩

end Go.Proofs.Ytmjkhafifemegaa

/-
  WHAT THE LAWS CALL BESIDE THE PROGRAM: one, large, much, done.
-/
namespace Go.Proofs.Ytmjkhafifemegaa
open Go.RowKit Go.Lib Go.Deep
set_option linter.unusedVariables false
set_option linter.unusedSimpArgs false

theorem capL0 : Cap none 0 0 := ⟨fun _ => ⟨rfl, rfl⟩, Nat.le_refl _, Nat.zero_le _⟩
def SLpt (l : List Pl) : St := ⟨0, [], [], [], [], [], 0, 0, 0, 0, 0, l⟩
def XLpt (a : Option Addr) (c : Nat) : Sa := ⟨none, 0, none, 0, none, 0, none, 0, none, 0, a, c⟩
theorem sat_lpt {w : World} {a : Option Addr} {c : Nat} {l : List Pl} (h : Plans w a l.length c l) : Sat w (XLpt a c) (SLpt l) := by
  have hi : i64B 0 := by unfold i64B; omega
  exact ⟨⟨fun h => absurd h (Nat.lt_irrefl 0)⟩, ⟨fun h => absurd h (Nat.lt_irrefl 0)⟩, ⟨⟨fun _ => (none, 0), ⟨fun h => absurd h (Nat.lt_irrefl 0)⟩, fun i h => absurd h (Nat.not_lt_zero i)⟩, rfl, capL0⟩, ⟨fun h => absurd h (Nat.lt_irrefl 0)⟩, ⟨fun h => absurd h (Nat.lt_irrefl 0)⟩, h, capL0, capL0, capL0, capL0, fun g h => (nomatch h), fun g h => (nomatch h), fun g h => (nomatch h), fun g h => (nomatch h), hi, hi, hi, hi, hi, hi⟩
/-- Some answer, yes or no. -/
def BoP (w : World) (e : Ending) (w' : World) : Prop := ∃ b, e = .returned (.bool b) ∧ Kept w w' none
theorem large_any {a : Option Addr} {n c : Nat} {l : List Pl} {w : World} (hP : Plans w a n c l) : Calls Try.prog 16 #[.slice a n c] w (BoP w) := by
  have hs := hP.size
  subst hs
  have HG := Hid.mk' (rgreat_any (sat_lpt hP))
  unfold siteV XLpt SLpt at HG
  dsimp only [List.length_nil] at HG
  clear hP
  go_enter Try.func16, Try.ntmps16
  go_wp2_with (go_at_call 40; refine HG.out.mono ?_; rintro e w2 ⟨g, rfl, _, hk2⟩)
  go_ret
  exact ⟨g, rfl, hk2⟩
theorem much_any {a : Option Addr} {n c : Nat} {la : Option Addr} {ln lc : Nat} {l : List Pl} {w : World} (hn : n ≤ 9223372036854775807) (hP : Plans w la ln lc l) : Calls Try.prog 28 #[dvV a n c, .slice la ln lc] w (BoP w) := by
  have HL := Hid.mk' (large_any (hP.kept (Kept.alloc w (dvC a n c) 24 (0, 0) none)))
  clear hP
  by_cases h : (5000 : Int) < (n : Int)
  · go_enter Try.func28, Try.ntmps28
    go_wp2
    go_ret
    exact ⟨true, rfl, Kept.alloc _ _ _ _ _⟩
  · go_enter Try.func28, Try.ntmps28
    go_wp2_with (go_at_call 16; refine HL.out.mono ?_; rintro e w2 ⟨g, rfl, hk2⟩)
    go_ret
    exact ⟨g, rfl, (Kept.alloc _ _ _ _ _).tr hk2⟩

/-! ### done -/
def dnB (L : List Nat) (m : Nat) (l : List Pl) (wh tn : Int) : Bool := decide (ptE L m l = 0) && decide (doE L.length (ptL L m l) (min wh ((ptL L m l).length : Int)) tn = 0)
def dnL (L : List Nat) (m : Nat) (l : List Pl) (wh tn : Int) : List Nat := if ptE L m l = 0 then doL L (ptL L m l) (min wh ((ptL L m l).length : Int)) tn else L
def DonP (w : World) (L : List Nat) (m : Nat) (l : List Pl) (wh tn : Int) (e : Ending) (w' : World) : Prop := ∃ a n c, e = .returned (.tuple #[dvV a n c, .bool (dnB L m l wh tn)]) ∧ Come w' a n c (dnL L m l wh tn) ∧ Kept w w' none
set_option maxRecDepth 100000 in
set_option maxHeartbeats 2000000 in
theorem done_no {a : Option Addr} {n c : Nat} {L : List Nat} {m : Nat} {la : Option Addr} {ln lc : Nat} {l : List Pl} {wh tn : Int} {w : World} (hC : Come w a n c L) (hP : Plans w la ln lc l) (h : ptE L m l ≠ 0) :
    Calls Try.prog 14 #[dvV a n c, .int .u8 (m : Int), .slice la ln lc, .int .i64 wh, .int .i64 tn] w (DonP w L m l wh tn) := by
  have HPU := Hid.mk' (fun w' (hk : Kept w w' none) => sput_any (md := m) (hC.kpt hk) (hP.kept hk))
  unfold PtP at HPU
  have hB : dnB L m l wh tn = false := by unfold dnB; rw [decide_eq_false h, Bool.false_and]
  have hL : dnL L m l wh tn = L := by unfold dnL; rw [if_neg h]
  unfold DonP
  rw [hB, hL]
  obtain ⟨E, hE⟩ : ∃ E, ptE L m l = E := ⟨_, rfl⟩
  rw [hE] at HPU h
  obtain ⟨q, hq⟩ : ∃ q, (ptL L m l).length = q := ⟨_, rfl⟩
  rw [hq] at HPU
  have HC := Hid.mk' hC
  have hkA : Kept w ((w.alloc (.cells (dvC a n c) 24)).alloc (.cells (dvC none 0 0) 24)) none := (Kept.alloc _ _ _ _ _).tr (Kept.alloc _ _ _ _ _)
  have HKA := Hid.mk' hkA
  have hR := db_alloc (w.alloc (.cells (dvC a n c) 24)) none 0 0 24
  simp only [World.size_alloc] at hR
  have HR := Hid.mk' hR
  have HD := Hid.mk' ((db_alloc w a n c 24).kept (Kept.alloc (w.alloc (.cells (dvC a n c) 24)) (dvC none 0 0) 24 (0, 0) none))
  clear hC hP hE hq hB hL hkA hR
  go_enter Try.func14, Try.ntmps14
  go_wp2_with (go_at_call 11; refine (HPU.out _ HKA.out).mono ?_; rintro e w2 ⟨a2, c2, rfl, hp2, hk2⟩; have K2 := Hid.mk' (HKA.out.tr hk2); have d0 := (HD.out.kept hk2).c0; have hS := HR.out.kept hk2; have s0 := hS.c0; have s1 := hS.f0; have s2 := hS.lt; clear hp2 hk2 hS)
  refine bodyPost_ret (v := .tuple #[dvV a n c, .bool false]) (by simp [results, Try.results14, go_sem, *]; done) rfl ⟨a, n, c, rfl, ?_, ?_⟩
  · exact HC.out.kpt (K2.out.setNew (p := ⟨w.heap.size + 1, 0, none⟩) (show w.heap.size ≤ w.heap.size + 1 by omega) _)
  · exact K2.out.setNew (p := ⟨w.heap.size + 1, 0, none⟩) (show w.heap.size ≤ w.heap.size + 1 by omega) _
set_option maxRecDepth 100000 in
set_option maxHeartbeats 2000000 in
theorem done_yes {a : Option Addr} {n c : Nat} {L : List Nat} {m : Nat} {la : Option Addr} {ln lc : Nat} {l : List Pl} {wh tn : Int} {w : World} (hC : Come w a n c L) (hP : Plans w la ln lc l) (h : ptE L m l = 0) :
    Calls Try.prog 14 #[dvV a n c, .int .u8 (m : Int), .slice la ln lc, .int .i64 wh, .int .i64 tn] w (DonP w L m l wh tn) := by
  have HPU := Hid.mk' (fun w' (hk : Kept w w' none) => sput_any (md := m) (hC.kpt hk) (hP.kept hk))
  unfold PtP at HPU
  obtain ⟨q, hq⟩ : ∃ q, (ptL L m l).length = q := ⟨_, rfl⟩
  have hB : dnB L m l wh tn = decide (doE L.length (ptL L m l) (min wh (q : Int)) tn = 0) := by unfold dnB; rw [decide_eq_true h, Bool.true_and, hq]
  have hL : dnL L m l wh tn = doL L (ptL L m l) (min wh (q : Int)) tn := by unfold dnL; rw [if_pos h, hq]
  unfold DonP
  rw [hB, hL]
  rw [h, hq] at HPU
  have hqm : q ≤ 32 := by
    have hh := pt_ok h
    rw [hh.list, pw_len'] at hq
    have := (ask_ok hh.ask).2.2.2.2.1
    omega
  have hs := hC.by_.size
  rw [hs]
  have HC := Hid.mk' hC
  have hkA : Kept w ((w.alloc (.cells (dvC a n c) 24)).alloc (.cells (dvC none 0 0) 24)) none := (Kept.alloc _ _ _ _ _).tr (Kept.alloc _ _ _ _ _)
  have HKA := Hid.mk' hkA
  have hR := db_alloc (w.alloc (.cells (dvC a n c) 24)) none 0 0 24
  simp only [World.size_alloc] at hR
  have HR := Hid.mk' hR
  have HD := Hid.mk' ((db_alloc w a n c 24).kept (Kept.alloc (w.alloc (.cells (dvC a n c) 24)) (dvC none 0 0) 24 (0, 0) none))
  have HDO := Hid.mk' (fun (wh : Int) (w' : World) (hk : Kept w w' none) (a2 : Option Addr) (c2 : Nat) (hp : Plw w' a2 q (ptL L m l)) => do_any c2 w' (hC.kpt hk) hp wh tn)
  clear hC hP hq hB hL hkA hR hs
  generalize ptL L m l = W at *
  have key : ∀ (x : Int), x = min wh (q : Int) → (wh < (q : Int) ∧ x = wh ∨ wh = (q : Int) ∧ x = wh ∨ (q : Int) < wh ∧ x = (q : Int)) := fun x e => by omega
  obtain ⟨x, hx⟩ : ∃ x, min wh (q : Int) = x := ⟨_, rfl⟩
  have hk3 := key x hx.symm
  clear key
  rw [hx]
  clear hx
  rcases hk3 with ⟨hlt, hxe⟩ | ⟨hlt, hxe⟩ | ⟨hlt, hxe⟩
  · rw [hxe]
    have HD3 := Hid.mk' (HDO.out (wh))
    generalize doE n W (wh) tn = E at *
    generalize doL L W (wh) tn = X at *
    go_enter Try.func14, Try.ntmps14
    go_wp2_with (first
      | (have hgo := P2; clear hgo; go_at_call 29; refine (HD3.out _ K2.out _ c2 P2.out).mono ?_; rintro e w3 ⟨⟨a3, n3, c3, rfl, hd3⟩, hk3⟩; have D3 := Hid.mk' hd3; have K3 := Hid.mk' (K2.out.tr hk3); have hk3x := Hid.mk' hk3; have hS := (HS2.out.kept hk3).kept (Kept.alloc w3 #[.slice a3 n3 c3] 24 (0, 0) none); have s0 := hS.c0; have s1 := hS.f0; have s2 := hS.lt; have hlt3 := (HS2.out.kept hk3).lt; have n1 : ¬ w.heap.size + 1 = w3.heap.size := (by omega); have n2 : ¬ w3.heap.size = w.heap.size + 1 := (by omega); clear hd3 hk3 P2)
      | (go_at_call 11; refine (HPU.out _ HKA.out).mono ?_; rintro e w2 ⟨a2, c2, rfl, hp2, hk2⟩; have P2 := Hid.mk' hp2.plw; have K2 := Hid.mk' (HKA.out.tr hk2); have d0 := (HD.out.kept hk2).c0; have HS2 := Hid.mk' (HR.out.kept hk2); clear hp2 hk2))
    have hF := (((HS2.out.kept hk3x.out).set a3 n3 c3).kept (Kept.alloc (w3.setCell ⟨w.heap.size + 1, 0, none⟩ (.slice a3 n3 c3)) #[.slice a3 n3 c3] 24 (0, 0) none)).c0
    have hE2 : decide (E = 0) = (E == 0) := by cases h : (E == 0) <;> simp_all
    rw [hE2]
    refine bodyPost_ret (v := .tuple #[dvV a3 n3 c3, .bool (E == 0)]) (by simp [results, Try.results14, go_sem, hF]; done) rfl ⟨a3, n3, c3, rfl, ?_, ?_⟩
    · exact (D3.out.come.kptR (dkept_set w3 (w.heap.size + 1) 0 (.slice a3 n3 c3)) (fun y e => by
        rcases D3.out.at_ with ⟨e2, _⟩ | ⟨g, e2, hg, _⟩
        · rw [e2] at e; cases e
        · rw [e2] at e; cases e; have := HS2.out.lt; show g ≠ w.heap.size + 1; omega)).kpt (Kept.alloc _ _ _ _ _)
    · exact (K3.out.setNew (p := ⟨w.heap.size + 1, 0, none⟩) (show w.heap.size ≤ w.heap.size + 1 by omega) _).tr (Kept.alloc _ _ _ _ _)
  · rw [hxe, hlt]
    rw [hlt] at *
    clear hlt hxe
    have HD3 := Hid.mk' (HDO.out ((q : Int)))
    generalize doE n W ((q : Int)) tn = E at *
    generalize doL L W ((q : Int)) tn = X at *
    go_enter Try.func14, Try.ntmps14
    go_wp2_with (first
      | (have hgo := P2; clear hgo; go_at_call 29; refine (HD3.out _ K2.out _ c2 P2.out).mono ?_; rintro e w3 ⟨⟨a3, n3, c3, rfl, hd3⟩, hk3⟩; have D3 := Hid.mk' hd3; have K3 := Hid.mk' (K2.out.tr hk3); have hk3x := Hid.mk' hk3; have hS := (HS2.out.kept hk3).kept (Kept.alloc w3 #[.slice a3 n3 c3] 24 (0, 0) none); have s0 := hS.c0; have s1 := hS.f0; have s2 := hS.lt; have hlt3 := (HS2.out.kept hk3).lt; have n1 : ¬ w.heap.size + 1 = w3.heap.size := (by omega); have n2 : ¬ w3.heap.size = w.heap.size + 1 := (by omega); clear hd3 hk3 P2)
      | (go_at_call 11; refine (HPU.out _ HKA.out).mono ?_; rintro e w2 ⟨a2, c2, rfl, hp2, hk2⟩; have P2 := Hid.mk' hp2.plw; have K2 := Hid.mk' (HKA.out.tr hk2); have d0 := (HD.out.kept hk2).c0; have HS2 := Hid.mk' (HR.out.kept hk2); clear hp2 hk2))
    have hF := (((HS2.out.kept hk3x.out).set a3 n3 c3).kept (Kept.alloc (w3.setCell ⟨w.heap.size + 1, 0, none⟩ (.slice a3 n3 c3)) #[.slice a3 n3 c3] 24 (0, 0) none)).c0
    have hE2 : decide (E = 0) = (E == 0) := by cases h : (E == 0) <;> simp_all
    rw [hE2]
    refine bodyPost_ret (v := .tuple #[dvV a3 n3 c3, .bool (E == 0)]) (by simp [results, Try.results14, go_sem, hF]; done) rfl ⟨a3, n3, c3, rfl, ?_, ?_⟩
    · exact (D3.out.come.kptR (dkept_set w3 (w.heap.size + 1) 0 (.slice a3 n3 c3)) (fun y e => by
        rcases D3.out.at_ with ⟨e2, _⟩ | ⟨g, e2, hg, _⟩
        · rw [e2] at e; cases e
        · rw [e2] at e; cases e; have := HS2.out.lt; show g ≠ w.heap.size + 1; omega)).kpt (Kept.alloc _ _ _ _ _)
    · exact (K3.out.setNew (p := ⟨w.heap.size + 1, 0, none⟩) (show w.heap.size ≤ w.heap.size + 1 by omega) _).tr (Kept.alloc _ _ _ _ _)
  · rw [hxe]
    have HD3 := Hid.mk' (HDO.out ((q : Int)))
    generalize doE n W ((q : Int)) tn = E at *
    generalize doL L W ((q : Int)) tn = X at *
    go_enter Try.func14, Try.ntmps14
    go_wp2_with (first
      | (have hgo := P2; clear hgo; go_at_call 29; refine (HD3.out _ K2.out _ c2 P2.out).mono ?_; rintro e w3 ⟨⟨a3, n3, c3, rfl, hd3⟩, hk3⟩; have D3 := Hid.mk' hd3; have K3 := Hid.mk' (K2.out.tr hk3); have hk3x := Hid.mk' hk3; have hS := (HS2.out.kept hk3).kept (Kept.alloc w3 #[.slice a3 n3 c3] 24 (0, 0) none); have s0 := hS.c0; have s1 := hS.f0; have s2 := hS.lt; have hlt3 := (HS2.out.kept hk3).lt; have n1 : ¬ w.heap.size + 1 = w3.heap.size := (by omega); have n2 : ¬ w3.heap.size = w.heap.size + 1 := (by omega); clear hd3 hk3 P2)
      | (go_at_call 11; refine (HPU.out _ HKA.out).mono ?_; rintro e w2 ⟨a2, c2, rfl, hp2, hk2⟩; have P2 := Hid.mk' hp2.plw; have K2 := Hid.mk' (HKA.out.tr hk2); have d0 := (HD.out.kept hk2).c0; have HS2 := Hid.mk' (HR.out.kept hk2); clear hp2 hk2))
    have hF := (((HS2.out.kept hk3x.out).set a3 n3 c3).kept (Kept.alloc (w3.setCell ⟨w.heap.size + 1, 0, none⟩ (.slice a3 n3 c3)) #[.slice a3 n3 c3] 24 (0, 0) none)).c0
    have hE2 : decide (E = 0) = (E == 0) := by cases h : (E == 0) <;> simp_all
    rw [hE2]
    refine bodyPost_ret (v := .tuple #[dvV a3 n3 c3, .bool (E == 0)]) (by simp [results, Try.results14, go_sem, hF]; done) rfl ⟨a3, n3, c3, rfl, ?_, ?_⟩
    · exact (D3.out.come.kptR (dkept_set w3 (w.heap.size + 1) 0 (.slice a3 n3 c3)) (fun y e => by
        rcases D3.out.at_ with ⟨e2, _⟩ | ⟨g, e2, hg, _⟩
        · rw [e2] at e; cases e
        · rw [e2] at e; cases e; have := HS2.out.lt; show g ≠ w.heap.size + 1; omega)).kpt (Kept.alloc _ _ _ _ _)
    · exact (K3.out.setNew (p := ⟨w.heap.size + 1, 0, none⟩) (show w.heap.size ≤ w.heap.size + 1 by omega) _).tr (Kept.alloc _ _ _ _ _)
/-- done, in one. -/
theorem ldone_any {a : Option Addr} {n c : Nat} {L : List Nat} {m : Nat} {la : Option Addr} {ln lc : Nat} {l : List Pl} {wh tn : Int} {w : World} (hC : Come w a n c L) (hP : Plans w la ln lc l) :
    Calls Try.prog 14 #[dvV a n c, .int .u8 (m : Int), .slice la ln lc, .int .i64 wh, .int .i64 tn] w (DonP w L m l wh tn) := by
  by_cases h : ptE L m l = 0
  · exact done_yes hC hP h
  · exact done_no hC hP h

end Go.Proofs.Ytmjkhafifemegaa

