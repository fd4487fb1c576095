/-
  Texts joined: some of those that the proofs of this seat stand on.
-/
import Derived.Test.YtabikoipjaggbaaStoH
import Derived.Test.YtabikoipjaggbaaStoN
import Derived.Test.YtabikoipjaggbaaSRefWJ
import Derived.Test.YtabikoipjaggbaaSSameA
/-
  WHAT THE LAWS CALL BESIDE THE PROGRAM: one, large, much, done.
-/
namespace Go.Proofs.Ytabikoipjaggbaa
open Go.RowKit Go.Lib Go.Deep
set_option linter.unusedVariables false
set_option linter.unusedSimpArgs false

theorem capL0 : Cap none 0 0 := ⟨fun _ => ⟨rfl, rfl⟩, Nat.le_refl _, Nat.zero_le _⟩
def SLpt (l : List Pl) : St := ⟨0, [], [], [], [], [], 0, 0, 0, 0, 0, l⟩
def XLpt (a : Option Addr) (c : Nat) : Sa := ⟨none, 0, none, 0, none, 0, none, 0, none, 0, a, c⟩
theorem sat_lpt {w : World} {a : Option Addr} {c : Nat} {l : List Pl} (h : Plans w a l.length c l) : Sat w (XLpt a c) (SLpt l) := by
  have hi : i64B 0 := by unfold i64B; omega
  exact ⟨⟨fun h => absurd h (Nat.lt_irrefl 0)⟩, ⟨fun h => absurd h (Nat.lt_irrefl 0)⟩, ⟨⟨fun _ => (none, 0), ⟨fun h => absurd h (Nat.lt_irrefl 0)⟩, fun i h => absurd h (Nat.not_lt_zero i)⟩, rfl, capL0⟩, ⟨fun h => absurd h (Nat.lt_irrefl 0)⟩, ⟨fun h => absurd h (Nat.lt_irrefl 0)⟩, h, capL0, capL0, capL0, capL0, fun g h => (nomatch h), fun g h => (nomatch h), fun g h => (nomatch h), fun g h => (nomatch h), hi, hi, hi, hi, hi, hi⟩
/-- Some answer, yes or no. -/
def BoP (w : World) (e : Ending) (w' : World) : Prop := ∃ b, e = .returned (.bool b) ∧ Kept w w' none
theorem large_any {a : Option Addr} {n c : Nat} {l : List Pl} {w : World} (hP : Plans w a n c l) : Calls Try.prog 12 #[.slice a n c] w (BoP w) := by
  have hs := hP.size
  subst hs
  have HG := Hid.mk' (rgreat_any (sat_lpt hP))
  unfold siteV XLpt SLpt at HG
  dsimp only [List.length_nil] at HG
  clear hP
  go_enter Try.func12, Try.ntmps12
  go_wp2_with (go_at_call 32; refine HG.out.mono ?_; rintro e w2 ⟨g, rfl, _, hk2⟩)
  go_ret
  exact ⟨g, rfl, hk2⟩
/-! ### done -/
def dnB (L : List Nat) (m : Nat) (l : List Pl) (wh tn : Int) : Bool := decide (ptE L m l = 0) && decide (doE L.length (ptL L m l) (min wh ((ptL L m l).length : Int)) tn = 0)
def dnL (L : List Nat) (m : Nat) (l : List Pl) (wh tn : Int) : List Nat := if ptE L m l = 0 then doL L (ptL L m l) (min wh ((ptL L m l).length : Int)) tn else L
def DonP (w : World) (L : List Nat) (m : Nat) (l : List Pl) (wh tn : Int) (e : Ending) (w' : World) : Prop := ∃ a n c, e = .returned (.tuple #[dvV a n c, .bool (dnB L m l wh tn)]) ∧ Come w' a n c (dnL L m l wh tn) ∧ Kept w w' none
set_option maxRecDepth 100000 in
set_option maxHeartbeats 2000000 in
theorem done_no {a : Option Addr} {n c : Nat} {L : List Nat} {m : Nat} {la : Option Addr} {ln lc : Nat} {l : List Pl} {wh tn : Int} {w : World} (hC : Come w a n c L) (hP : Plans w la ln lc l) (h : ptE L m l ≠ 0) :
    Calls Try.prog 10 #[dvV a n c, .int .u8 (m : Int), .slice la ln lc, .int .i64 wh, .int .i64 tn] w (DonP w L m l wh tn) := by
  have HPU := Hid.mk' (fun w' (hk : Kept w w' none) => sput_any (md := m) (hC.kpt hk) (hP.kept hk))
  unfold PtP at HPU
  have hB : dnB L m l wh tn = false := by unfold dnB; rw [decide_eq_false h, Bool.false_and]
  have hL : dnL L m l wh tn = L := by unfold dnL; rw [if_neg h]
  unfold DonP
  rw [hB, hL]
  obtain ⟨E, hE⟩ : ∃ E, ptE L m l = E := ⟨_, rfl⟩
  rw [hE] at HPU h
  obtain ⟨q, hq⟩ : ∃ q, (ptL L m l).length = q := ⟨_, rfl⟩
  rw [hq] at HPU
  have HC := Hid.mk' hC
  have hkA : Kept w ((w.alloc (.cells (dvC a n c) 24)).alloc (.cells (dvC none 0 0) 24)) none := (Kept.alloc _ _ _ _ _).tr (Kept.alloc _ _ _ _ _)
  have HKA := Hid.mk' hkA
  have hR := db_alloc (w.alloc (.cells (dvC a n c) 24)) none 0 0 24
  simp only [World.size_alloc] at hR
  have HR := Hid.mk' hR
  have HD := Hid.mk' ((db_alloc w a n c 24).kept (Kept.alloc (w.alloc (.cells (dvC a n c) 24)) (dvC none 0 0) 24 (0, 0) none))
  clear hC hP hE hq hB hL hkA hR
  go_enter Try.func10, Try.ntmps10
  go_wp2_with (go_at_call 7; refine (HPU.out _ HKA.out).mono ?_; rintro e w2 ⟨a2, c2, rfl, hp2, hk2⟩; have K2 := Hid.mk' (HKA.out.tr hk2); have d0 := (HD.out.kept hk2).c0; have hS := HR.out.kept hk2; have s0 := hS.c0; have s1 := hS.f0; have s2 := hS.lt; clear hp2 hk2 hS)
  refine bodyPost_ret (v := .tuple #[dvV a n c, .bool false]) (by simp [results, Try.results10, go_sem, *]; done) rfl ⟨a, n, c, rfl, ?_, ?_⟩
  · exact HC.out.kpt (K2.out.setNew (p := ⟨w.heap.size + 1, 0, none⟩) (show w.heap.size ≤ w.heap.size + 1 by omega) _)
  · exact K2.out.setNew (p := ⟨w.heap.size + 1, 0, none⟩) (show w.heap.size ≤ w.heap.size + 1 by omega) _
set_option maxRecDepth 100000 in
set_option maxHeartbeats 2000000 in
theorem done_yes {a : Option Addr} {n c : Nat} {L : List Nat} {m : Nat} {la : Option Addr} {ln lc : Nat} {l : List Pl} {wh tn : Int} {w : World} (hC : Come w a n c L) (hP : Plans w la ln lc l) (h : ptE L m l = 0) :
    Calls Try.prog 10 #[dvV a n c, .int .u8 (m : Int), .slice la ln lc, .int .i64 wh, .int .i64 tn] w (DonP w L m l wh tn) := by
  have HPU := Hid.mk' (fun w' (hk : Kept w w' none) => sput_any (md := m) (hC.kpt hk) (hP.kept hk))
  unfold PtP at HPU
  obtain ⟨q, hq⟩ : ∃ q, (ptL L m l).length = q := ⟨_, rfl⟩
  have hB : dnB L m l wh tn = decide (doE L.length (ptL L m l) (min wh (q : Int)) tn = 0) := by unfold dnB; rw [decide_eq_true h, Bool.true_and, hq]
  have hL : dnL L m l wh tn = doL L (ptL L m l) (min wh (q : Int)) tn := by unfold dnL; rw [if_pos h, hq]
  unfold DonP
  rw [hB, hL]
  rw [h, hq] at HPU
  have hqm : q ≤ 32 := by
    have hh := pt_ok h
    rw [hh.list, pw_len'] at hq
    have := (ask_ok hh.ask).2.2.2.2.1
    omega
  have hs := hC.by_.size
  rw [hs]
  have HC := Hid.mk' hC
  have hkA : Kept w ((w.alloc (.cells (dvC a n c) 24)).alloc (.cells (dvC none 0 0) 24)) none := (Kept.alloc _ _ _ _ _).tr (Kept.alloc _ _ _ _ _)
  have HKA := Hid.mk' hkA
  have hR := db_alloc (w.alloc (.cells (dvC a n c) 24)) none 0 0 24
  simp only [World.size_alloc] at hR
  have HR := Hid.mk' hR
  have HD := Hid.mk' ((db_alloc w a n c 24).kept (Kept.alloc (w.alloc (.cells (dvC a n c) 24)) (dvC none 0 0) 24 (0, 0) none))
  have HDO := Hid.mk' (fun (wh : Int) (w' : World) (hk : Kept w w' none) (a2 : Option Addr) (c2 : Nat) (hp : Plw w' a2 q (ptL L m l)) => do_any c2 w' (hC.kpt hk) hp wh tn)
  clear hC hP hq hB hL hkA hR hs
  generalize ptL L m l = W at *
  have key : ∀ (x : Int), x = min wh (q : Int) → (wh < (q : Int) ∧ x = wh ∨ wh = (q : Int) ∧ x = wh ∨ (q : Int) < wh ∧ x = (q : Int)) := fun x e => by omega
  obtain ⟨x, hx⟩ : ∃ x, min wh (q : Int) = x := ⟨_, rfl⟩
  have hk3 := key x hx.symm
  clear key
  rw [hx]
  clear hx
  rcases hk3 with ⟨hlt, hxe⟩ | ⟨hlt, hxe⟩ | ⟨hlt, hxe⟩
  · rw [hxe]
    have HD3 := Hid.mk' (HDO.out (wh))
    generalize doE n W (wh) tn = E at *
    generalize doL L W (wh) tn = X at *
    go_enter Try.func10, Try.ntmps10
    go_wp2_with (first
      | (have hgo := P2; clear hgo; go_at_call 29; refine (HD3.out _ K2.out _ c2 P2.out).mono ?_; rintro e w3 ⟨⟨a3, n3, c3, rfl, hd3⟩, hk3⟩; have D3 := Hid.mk' hd3; have K3 := Hid.mk' (K2.out.tr hk3); have hk3x := Hid.mk' hk3; have hS := (HS2.out.kept hk3).kept (Kept.alloc w3 #[.slice a3 n3 c3] 24 (0, 0) none); have s0 := hS.c0; have s1 := hS.f0; have s2 := hS.lt; have hlt3 := (HS2.out.kept hk3).lt; have n1 : ¬ w.heap.size + 1 = w3.heap.size := (by omega); have n2 : ¬ w3.heap.size = w.heap.size + 1 := (by omega); clear hd3 hk3 P2)
      | (go_at_call 7; refine (HPU.out _ HKA.out).mono ?_; rintro e w2 ⟨a2, c2, rfl, hp2, hk2⟩; have P2 := Hid.mk' hp2.plw; have K2 := Hid.mk' (HKA.out.tr hk2); have d0 := (HD.out.kept hk2).c0; have HS2 := Hid.mk' (HR.out.kept hk2); clear hp2 hk2))
    have hF := (((HS2.out.kept hk3x.out).set a3 n3 c3).kept (Kept.alloc (w3.setCell ⟨w.heap.size + 1, 0, none⟩ (.slice a3 n3 c3)) #[.slice a3 n3 c3] 24 (0, 0) none)).c0
    have hE2 : decide (E = 0) = (E == 0) := by cases h : (E == 0) <;> simp_all
    rw [hE2]
    refine bodyPost_ret (v := .tuple #[dvV a3 n3 c3, .bool (E == 0)]) (by simp [results, Try.results10, go_sem, hF]; done) rfl ⟨a3, n3, c3, rfl, ?_, ?_⟩
    · exact (D3.out.come.kptR (dkept_set w3 (w.heap.size + 1) 0 (.slice a3 n3 c3)) (fun y e => by
        rcases D3.out.at_ with ⟨e2, _⟩ | ⟨g, e2, hg, _⟩
        · rw [e2] at e; cases e
        · rw [e2] at e; cases e; have := HS2.out.lt; show g ≠ w.heap.size + 1; omega)).kpt (Kept.alloc _ _ _ _ _)
    · exact (K3.out.setNew (p := ⟨w.heap.size + 1, 0, none⟩) (show w.heap.size ≤ w.heap.size + 1 by omega) _).tr (Kept.alloc _ _ _ _ _)
  · rw [hxe, hlt]
    rw [hlt] at *
    clear hlt hxe
    have HD3 := Hid.mk' (HDO.out ((q : Int)))
    generalize doE n W ((q : Int)) tn = E at *
    generalize doL L W ((q : Int)) tn = X at *
    go_enter Try.func10, Try.ntmps10
    go_wp2_with (first
      | (have hgo := P2; clear hgo; go_at_call 29; refine (HD3.out _ K2.out _ c2 P2.out).mono ?_; rintro e w3 ⟨⟨a3, n3, c3, rfl, hd3⟩, hk3⟩; have D3 := Hid.mk' hd3; have K3 := Hid.mk' (K2.out.tr hk3); have hk3x := Hid.mk' hk3; have hS := (HS2.out.kept hk3).kept (Kept.alloc w3 #[.slice a3 n3 c3] 24 (0, 0) none); have s0 := hS.c0; have s1 := hS.f0; have s2 := hS.lt; have hlt3 := (HS2.out.kept hk3).lt; have n1 : ¬ w.heap.size + 1 = w3.heap.size := (by omega); have n2 : ¬ w3.heap.size = w.heap.size + 1 := (by omega); clear hd3 hk3 P2)
      | (go_at_call 7; refine (HPU.out _ HKA.out).mono ?_; rintro e w2 ⟨a2, c2, rfl, hp2, hk2⟩; have P2 := Hid.mk' hp2.plw; have K2 := Hid.mk' (HKA.out.tr hk2); have d0 := (HD.out.kept hk2).c0; have HS2 := Hid.mk' (HR.out.kept hk2); clear hp2 hk2))
    have hF := (((HS2.out.kept hk3x.out).set a3 n3 c3).kept (Kept.alloc (w3.setCell ⟨w.heap.size + 1, 0, none⟩ (.slice a3 n3 c3)) #[.slice a3 n3 c3] 24 (0, 0) none)).c0
    have hE2 : decide (E = 0) = (E == 0) := by cases h : (E == 0) <;> simp_all
    rw [hE2]
    refine bodyPost_ret (v := .tuple #[dvV a3 n3 c3, .bool (E == 0)]) (by simp [results, Try.results10, go_sem, hF]; done) rfl ⟨a3, n3, c3, rfl, ?_, ?_⟩
    · exact (D3.out.come.kptR (dkept_set w3 (w.heap.size + 1) 0 (.slice a3 n3 c3)) (fun y e => by
        rcases D3.out.at_ with ⟨e2, _⟩ | ⟨g, e2, hg, _⟩
        · rw [e2] at e; cases e
        · rw [e2] at e; cases e; have := HS2.out.lt; show g ≠ w.heap.size + 1; omega)).kpt (Kept.alloc _ _ _ _ _)
    · exact (K3.out.setNew (p := ⟨w.heap.size + 1, 0, none⟩) (show w.heap.size ≤ w.heap.size + 1 by omega) _).tr (Kept.alloc _ _ _ _ _)
  · rw [hxe]
    have HD3 := Hid.mk' (HDO.out ((q : Int)))
    generalize doE n W ((q : Int)) tn = E at *
    generalize doL L W ((q : Int)) tn = X at *
    go_enter Try.func10, Try.ntmps10
    go_wp2_with (first
      | (have hgo := P2; clear hgo; go_at_call 29; refine (HD3.out _ K2.out _ c2 P2.out).mono ?_; rintro e w3 ⟨⟨a3, n3, c3, rfl, hd3⟩, hk3⟩; have D3 := Hid.mk' hd3; have K3 := Hid.mk' (K2.out.tr hk3); have hk3x := Hid.mk' hk3; have hS := (HS2.out.kept hk3).kept (Kept.alloc w3 #[.slice a3 n3 c3] 24 (0, 0) none); have s0 := hS.c0; have s1 := hS.f0; have s2 := hS.lt; have hlt3 := (HS2.out.kept hk3).lt; have n1 : ¬ w.heap.size + 1 = w3.heap.size := (by omega); have n2 : ¬ w3.heap.size = w.heap.size + 1 := (by omega); clear hd3 hk3 P2)
      | (go_at_call 7; refine (HPU.out _ HKA.out).mono ?_; rintro e w2 ⟨a2, c2, rfl, hp2, hk2⟩; have P2 := Hid.mk' hp2.plw; have K2 := Hid.mk' (HKA.out.tr hk2); have d0 := (HD.out.kept hk2).c0; have HS2 := Hid.mk' (HR.out.kept hk2); clear hp2 hk2))
    have hF := (((HS2.out.kept hk3x.out).set a3 n3 c3).kept (Kept.alloc (w3.setCell ⟨w.heap.size + 1, 0, none⟩ (.slice a3 n3 c3)) #[.slice a3 n3 c3] 24 (0, 0) none)).c0
    have hE2 : decide (E = 0) = (E == 0) := by cases h : (E == 0) <;> simp_all
    rw [hE2]
    refine bodyPost_ret (v := .tuple #[dvV a3 n3 c3, .bool (E == 0)]) (by simp [results, Try.results10, go_sem, hF]; done) rfl ⟨a3, n3, c3, rfl, ?_, ?_⟩
    · exact (D3.out.come.kptR (dkept_set w3 (w.heap.size + 1) 0 (.slice a3 n3 c3)) (fun y e => by
        rcases D3.out.at_ with ⟨e2, _⟩ | ⟨g, e2, hg, _⟩
        · rw [e2] at e; cases e
        · rw [e2] at e; cases e; have := HS2.out.lt; show g ≠ w.heap.size + 1; omega)).kpt (Kept.alloc _ _ _ _ _)
    · exact (K3.out.setNew (p := ⟨w.heap.size + 1, 0, none⟩) (show w.heap.size ≤ w.heap.size + 1 by omega) _).tr (Kept.alloc _ _ _ _ _)
/-- done, in one. -/
theorem ldone_any {a : Option Addr} {n c : Nat} {L : List Nat} {m : Nat} {la : Option Addr} {ln lc : Nat} {l : List Pl} {wh tn : Int} {w : World} (hC : Come w a n c L) (hP : Plans w la ln lc l) :
    Calls Try.prog 10 #[dvV a n c, .int .u8 (m : Int), .slice la ln lc, .int .i64 wh, .int .i64 tn] w (DonP w L m l wh tn) := by
  by_cases h : ptE L m l = 0
  · exact done_yes hC hP h
  · exact done_no hC hP h

end Go.Proofs.Ytabikoipjaggbaa

/-
  THE CONTRACT of the law's same (made by a program).
-/
namespace Go.Proofs.Ytabikoipjaggbaa
open Go.RowKit Go.Lib Go.Deep
set_option linter.unusedVariables false
set_option linter.unusedSimpArgs false

/-- Two devices tell the same when they are read. -/
def SamR (A B : List Nat) : Prop := rdE19 A = rdE19 B ∧ rdK19 A = rdK19 B
end Go.Proofs.Ytabikoipjaggbaa

/-
  WHAT done TELLS, in numbers; the example that the laws begin with.
-/
namespace Go.Proofs.Ytabikoipjaggbaa
open Go.RowKit Go.Lib Go.Deep
set_option linter.unusedVariables false
set_option linter.unusedSimpArgs false

theorem wr_all {m : Nat} (hm : m % 64 = 0) : ∀ {l : List Pw}, (∀ p ∈ l, okP m p) → wrE m l = 0
  | [], _ => rfl
  | p :: l, h => by
    obtain ⟨h1, h2, h3⟩ := h p (List.mem_cons_self ..)
    have hv : hasV m p.n = true := (has_iff hm).2 ⟨h1, h2⟩
    unfold wrE
    rw [if_pos hv, if_pos h3]
    exact wr_all hm (fun q hq => h q (List.mem_cons_of_mem _ hq))
theorem doE_ok {L : List Nat} {m : Nat} {l : List Pl} (h : PtOk L m l) {k t : Nat} (hk : k ≤ manK L.length) (ht : t ≤ 64) : doE L.length (ptW L m l) (k : Int) (t : Int) = 0 ∧ doL L (ptW L m l) (k : Int) (t : Int) = doD (ptW L m l) k t L := by
  obtain ⟨q1, q2, q3, q4, q5, q6, q7⟩ := ask_ok h.ask
  have hw := wr_all q1 (pw_ok h)
  have hc : cwE L.length (ptW L m l) = 0 := by unfold cwE; rw [if_pos q7, hw]
  have hE : doE L.length (ptW L m l) (k : Int) (t : Int) = 0 := by
    unfold doE
    rw [if_pos hc, if_pos]
    rw [pw_len']
    exact ⟨by omega, by omega, by omega, by omega⟩
  refine ⟨hE, ?_⟩
  unfold doL
  rw [if_pos hE, Int.toNat_natCast, Int.toNat_natCast]
theorem dn_ok {L : List Nat} {m : Nat} {l : List Pl} (h : PtOk L m l) {k t : Nat} (ht : t ≤ 64) : dnB L m l (k : Int) (t : Int) = true ∧ dnL L m l (k : Int) (t : Int) = doD (ptW L m l) (min k (manK L.length)) t L := by
  have hE : ptE L m l = 0 := by unfold ptE; rw [if_pos h.ask, if_pos h.md, if_pos h.pie, if_pos h.gt]
  have hlen : (ptL L m l).length = manK L.length := by rw [h.list, pw_len']
  have e : min (k : Int) ((ptL L m l).length : Int) = ((min k (manK L.length) : Nat) : Int) := by rw [hlen]; omega
  obtain ⟨q1, q2⟩ := doE_ok h (k := min k (manK L.length)) (t := t) (Nat.min_le_right _ _) ht
  unfold dnB dnL
  rw [e, h.list, decide_eq_true hE, if_pos hE, q1, q2]
  exact ⟨rfl, rfl⟩
theorem dn_no {L : List Nat} {m : Nat} {l : List Pl} {wh tn : Int} (h : ptE L m l ≠ 0) : dnB L m l wh tn = false ∧ dnL L m l wh tn = L := by
  unfold dnB dnL
  rw [decide_eq_false h, if_neg h]
  exact ⟨rfl, rfl⟩
/-- What is read of the same Ct is the same. -/
theorem sam_ct {A B : List Nat} (hl : A.length = B.length) (h : ctK A = ctK B) : SamR A B := by
  have e : rdE19 A = rdE19 B := by unfold rdE19; rw [hl, h]
  refine ⟨e, ?_⟩
  unfold rdK19
  rw [e, h]
theorem rd_new {X : List Nat} {N m : Nat} {l : List Pl} (ha : askE X.length = 0) (h : ctK X = ⟨N, m, l⟩) (hN : 1 ≤ N) : rdE19 X = 0 ∧ rdK19 X = ⟨N, m, l⟩ := by
  have e : rdE19 X = 0 := by
    unfold rdE19
    rw [if_pos ha, h, if_pos (show 0 < N by omega)]
  exact ⟨e, by unfold rdK19; rw [if_pos e, h]⟩
/-- Where just what is put is read, what was read is another thing. -/
theorem sam_not {A B : List Nat} {N m : Nat} {l : List Pl} (ha : askE A.length = 0) (h : ctK A = ⟨N, m, l⟩) (hN : (ctK B).gen < N) : rdE19 A ≠ rdE19 B ∨ (rdK19 A).gen ≠ (rdK19 B).gen := by
  obtain ⟨e1, e2⟩ := rd_new ha h (by omega)
  by_cases hB : rdE19 B = 0
  · right
    rw [e2]
    unfold rdK19
    rw [if_pos hB]
    show N ≠ _
    omega
  · left
    rw [e1]
    exact fun q => hB q.symm
/-! ### The example -/
def p51 : Pl := ⟨5, 0, [5]⟩
def z256 : List Nat := List.replicate 256 0
theorem al_ask : askE z256.length = 0 := by decide +kernel
theorem al_pie : pieE 2 [p51] (manK z256.length) = 0 := by decide +kernel
theorem al_gen : ptN z256 = 1 := by decide +kernel
theorem al_ok : PtOk z256 2 [p51] := ⟨al_ask, by omega, al_pie, by rw [al_gen]; decide⟩
def a256 : List Nat := doD (ptW z256 2 [p51]) 2 0 z256
theorem al_dn : dnB z256 2 [p51] 99 0 = true ∧ dnL z256 2 [p51] 99 0 = a256 := by
  have h := dn_ok al_ok (k := 99) (t := 0) (by omega)
  have e : min 99 (manK z256.length) = 2 := by decide +kernel
  rw [e] at h
  exact h
theorem al_rd : rdE19 a256 = 0 ∧ rdK19 a256 = ⟨1, 2, [p51]⟩ := by
  have e : manK z256.length = 2 := by decide +kernel
  have h := done_read al_ok 0 (by omega)
  rw [e, al_gen] at h
  have hl : a256.length = z256.length := x_len al_ok (by omega)
  exact rd_new (by rw [hl]; exact al_ask) h (by omega)
theorem al_fo : foE 4 = 0 ∧ foL 4 = z256 := by
  have e : foE 4 = 0 := by decide +kernel
  refine ⟨e, ?_⟩
  unfold foL
  rw [if_pos e]
  rfl

end Go.Proofs.Ytabikoipjaggbaa

