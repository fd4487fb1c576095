/-
  Texts joined: some of those that the proofs of this seat stand on.
-/
import Derived.Test.YtmjkhafifemegaaSSameAJ
/-
  THE CONTRACT of the law's same (made by a program).
-/
namespace Go.Proofs.Ytmjkhafifemegaa
open Go.RowKit Go.Lib Go.Deep
set_option linter.unusedVariables false
set_option linter.unusedSimpArgs false

/-- Two devices tell the same when they are read. -/
def SamR (A B : List Nat) : Prop := rdE19 A = rdE19 B ∧ rdK19 A = rdK19 B
set_option maxRecDepth 100000 in
set_option maxHeartbeats 2000000 in
theorem lsame_yes {a b : Option Addr} {n c k d : Nat} {A B : List Nat} {w : World} (hA : Come w a n c A) (hB : Come w b k d B) (h : SamR A B) : Calls Try.prog 30 #[dvV a n c, dvV b k d] w fun e w' => e = .returned (.bool true) ∧ Kept w w' none := by
  have HRA := Hid.mk' (fun w' (hk : Kept w w' none) => sread_any (hA.kpt hk))
  have HRB := Hid.mk' (fun w' (hk : Kept w w' none) => sread_any (hB.kpt hk))
  unfold RdP at HRA HRB
  have hkA : Kept w ((w.alloc (.cells (dvC a n c) 24)).alloc (.cells (dvC b k d) 24)) none := (Kept.alloc _ _ _ _ _).tr (Kept.alloc _ _ _ _ _)
  have hR := db_alloc (w.alloc (.cells (dvC a n c) 24)) b k d 24
  simp only [World.size_alloc] at hR
  have HR := Hid.mk' hR
  have HKA := Hid.mk' hkA
  clear hkA hR
  rw [← h.1, ← h.2] at HRB
  obtain ⟨ga, hga⟩ : ∃ g : Int, ((rdK19 A).gen : Int) = g := ⟨_, rfl⟩
  obtain ⟨ma, hma⟩ : ∃ g, (rdK19 A).mode = g := ⟨_, rfl⟩
  obtain ⟨E, hE⟩ : ∃ E, rdE19 A = E := ⟨_, rfl⟩
  rw [hga, hma, hE] at HRA HRB
  generalize (rdK19 A).plans = pl at *
  clear hga hma hE h hA hB
  go_enter Try.func30, Try.ntmps30
  go_wp2_with (first
    | (have hgo := RB3; clear hgo; go_at_call 25; have hnn := (P23.out.size.symm.trans P3.out.size); subst hnn; refine (rsamePlans_yes (P23.out.plans.kept (Kept.alloc _ _ _ _ _)) (P3.out.plans.kept (Kept.alloc _ _ _ _ _))).mono ?_; rintro e w4 ⟨rfl, hk4⟩)
    | (have hgo := RA2; clear hgo; go_at_call 10; refine (HRB.out _ (K2.out.tr (Kept.alloc w2 #[(.int .i64 ga), (.int .u8 (ma : Int)), (.slice pa na ca)] 30 (0, 0) none))).mono ?_; rintro e w3 ⟨pb, nb, cb, rfl, hp3, hk3⟩; have P3 := Hid.mk' hp3; have K3 := Hid.mk' ((K2.out.tr (Kept.alloc w2 #[(.int .i64 ga), (.int .u8 (ma : Int)), (.slice pa na ca)] 30 (0, 0) none)).tr hk3); have P23 := Hid.mk' ((P2.out.kept (Kept.alloc w2 #[(.int .i64 ga), (.int .u8 (ma : Int)), (.slice pa na ca)] 30 (0, 0) none)).kept hk3); have RA3 := Hid.mk' (rowK (rowK RA2.out hk3) (Kept.alloc w3 #[(.int .i64 ga), (.int .u8 (ma : Int)), (.slice pb nb cb)] 30 (0, 0) none)); have RB3 := Hid.mk' (row3 w3 (.int .i64 ga) (.int .u8 (ma : Int)) (.slice pb nb cb) 30); have t0 : (w3.alloc (.cells #[(.int .i64 ga), (.int .u8 (ma : Int)), (.slice pb nb cb)] 30)).cell? ⟨w2.heap.size, 0, none⟩ = some (.int .i64 ga) := RA3.out.cell (i := 0) (by omega); have t1 : (w3.alloc (.cells #[(.int .i64 ga), (.int .u8 (ma : Int)), (.slice pb nb cb)] 30)).cell? ⟨w2.heap.size, 1, none⟩ = some (.int .u8 (ma : Int)) := RA3.out.cell (i := 1) (by omega); have t2 : (w3.alloc (.cells #[(.int .i64 ga), (.int .u8 (ma : Int)), (.slice pb nb cb)] 30)).cell? ⟨w2.heap.size, 2, none⟩ = some (.slice pa na ca) := RA3.out.cell (i := 2) (by omega); have u0 : (w3.alloc (.cells #[(.int .i64 ga), (.int .u8 (ma : Int)), (.slice pb nb cb)] 30)).cell? ⟨w3.heap.size, 0, none⟩ = some (.int .i64 ga) := RB3.out.cell (i := 0) (by omega); have u1 : (w3.alloc (.cells #[(.int .i64 ga), (.int .u8 (ma : Int)), (.slice pb nb cb)] 30)).cell? ⟨w3.heap.size, 1, none⟩ = some (.int .u8 (ma : Int)) := RB3.out.cell (i := 1) (by omega); have u2 : (w3.alloc (.cells #[(.int .i64 ga), (.int .u8 (ma : Int)), (.slice pb nb cb)] 30)).cell? ⟨w3.heap.size, 2, none⟩ = some (.slice pb nb cb) := RB3.out.cell (i := 2) (by omega); clear hp3 hk3 RA2)
    | (go_at_call 10; refine (HRA.out _ HKA.out).mono ?_; rintro e w2 ⟨pa, na, ca, rfl, hp2, hk2⟩; have P2 := Hid.mk' hp2; have K2 := Hid.mk' (HKA.out.tr hk2); have RA2 := Hid.mk' (row3 w2 (.int .i64 ga) (.int .u8 (ma : Int)) (.slice pa na ca) 30); have hS := (HR.out.kept hk2).kept (Kept.alloc w2 #[(.int .i64 ga), (.int .u8 (ma : Int)), (.slice pa na ca)] 30 (0, 0) none); have s0 := hS.c0; clear hp2 hk2 hS))
  go_ret
  exact ⟨by simp, (K3.out.tr (Kept.alloc _ _ _ _ _)).tr hk4⟩
set_option maxRecDepth 100000 in
set_option maxHeartbeats 2000000 in
theorem lsame_noE {a b : Option Addr} {n c k d : Nat} {A B : List Nat} {w : World} (hA : Come w a n c A) (hB : Come w b k d B) (h : rdE19 A ≠ rdE19 B) : Calls Try.prog 30 #[dvV a n c, dvV b k d] w fun e w' => e = .returned (.bool false) ∧ Kept w w' none := by
  have HRA := Hid.mk' (fun w' (hk : Kept w w' none) => sread_any (hA.kpt hk))
  have HRB := Hid.mk' (fun w' (hk : Kept w w' none) => sread_any (hB.kpt hk))
  unfold RdP at HRA HRB
  have hkA : Kept w ((w.alloc (.cells (dvC a n c) 24)).alloc (.cells (dvC b k d) 24)) none := (Kept.alloc _ _ _ _ _).tr (Kept.alloc _ _ _ _ _)
  have hR := db_alloc (w.alloc (.cells (dvC a n c) 24)) b k d 24
  simp only [World.size_alloc] at hR
  have HR := Hid.mk' hR
  have HKA := Hid.mk' hkA
  clear hkA hR
  obtain ⟨ga, hga⟩ : ∃ g : Int, ((rdK19 A).gen : Int) = g := ⟨_, rfl⟩
  obtain ⟨ma, hma⟩ : ∃ g, (rdK19 A).mode = g := ⟨_, rfl⟩
  obtain ⟨E, hE⟩ : ∃ E, rdE19 A = E := ⟨_, rfl⟩
  obtain ⟨gb, hgb⟩ : ∃ g : Int, ((rdK19 B).gen : Int) = g := ⟨_, rfl⟩
  obtain ⟨mb, hmb⟩ : ∃ g, (rdK19 B).mode = g := ⟨_, rfl⟩
  obtain ⟨F, hF⟩ : ∃ E, rdE19 B = E := ⟨_, rfl⟩
  rw [hE, hF] at h
  rw [hga, hma, hE] at HRA
  rw [hgb, hmb, hF] at HRB
  clear hga hma hE hgb hmb hF hA hB
  go_enter Try.func30, Try.ntmps30
  go_wp2_with (first
    | (have hgo := RA2; clear hgo; go_at_call 10; refine (HRB.out _ (K2.out.tr (Kept.alloc w2 #[(.int .i64 ga), (.int .u8 (ma : Int)), (.slice pa na ca)] 30 (0, 0) none))).mono ?_; rintro e w3 ⟨pb, nb, cb, rfl, hp3, hk3⟩; have P3 := Hid.mk' hp3; have K3 := Hid.mk' ((K2.out.tr (Kept.alloc w2 #[(.int .i64 ga), (.int .u8 (ma : Int)), (.slice pa na ca)] 30 (0, 0) none)).tr hk3); have P23 := Hid.mk' ((P2.out.kept (Kept.alloc w2 #[(.int .i64 ga), (.int .u8 (ma : Int)), (.slice pa na ca)] 30 (0, 0) none)).kept hk3); have RA3 := Hid.mk' (rowK (rowK RA2.out hk3) (Kept.alloc w3 #[(.int .i64 gb), (.int .u8 (mb : Int)), (.slice pb nb cb)] 30 (0, 0) none)); have RB3 := Hid.mk' (row3 w3 (.int .i64 gb) (.int .u8 (mb : Int)) (.slice pb nb cb) 30); have t0 : (w3.alloc (.cells #[(.int .i64 gb), (.int .u8 (mb : Int)), (.slice pb nb cb)] 30)).cell? ⟨w2.heap.size, 0, none⟩ = some (.int .i64 ga) := RA3.out.cell (i := 0) (by omega); have t1 : (w3.alloc (.cells #[(.int .i64 gb), (.int .u8 (mb : Int)), (.slice pb nb cb)] 30)).cell? ⟨w2.heap.size, 1, none⟩ = some (.int .u8 (ma : Int)) := RA3.out.cell (i := 1) (by omega); have t2 : (w3.alloc (.cells #[(.int .i64 gb), (.int .u8 (mb : Int)), (.slice pb nb cb)] 30)).cell? ⟨w2.heap.size, 2, none⟩ = some (.slice pa na ca) := RA3.out.cell (i := 2) (by omega); have u0 : (w3.alloc (.cells #[(.int .i64 gb), (.int .u8 (mb : Int)), (.slice pb nb cb)] 30)).cell? ⟨w3.heap.size, 0, none⟩ = some (.int .i64 gb) := RB3.out.cell (i := 0) (by omega); have u1 : (w3.alloc (.cells #[(.int .i64 gb), (.int .u8 (mb : Int)), (.slice pb nb cb)] 30)).cell? ⟨w3.heap.size, 1, none⟩ = some (.int .u8 (mb : Int)) := RB3.out.cell (i := 1) (by omega); have u2 : (w3.alloc (.cells #[(.int .i64 gb), (.int .u8 (mb : Int)), (.slice pb nb cb)] 30)).cell? ⟨w3.heap.size, 2, none⟩ = some (.slice pb nb cb) := RB3.out.cell (i := 2) (by omega); clear hp3 hk3 RA2)
    | (go_at_call 10; refine (HRA.out _ HKA.out).mono ?_; rintro e w2 ⟨pa, na, ca, rfl, hp2, hk2⟩; have P2 := Hid.mk' hp2; have K2 := Hid.mk' (HKA.out.tr hk2); have RA2 := Hid.mk' (row3 w2 (.int .i64 ga) (.int .u8 (ma : Int)) (.slice pa na ca) 30); have hS := (HR.out.kept hk2).kept (Kept.alloc w2 #[(.int .i64 ga), (.int .u8 (ma : Int)), (.slice pa na ca)] 30 (0, 0) none); have s0 := hS.c0; clear hp2 hk2 hS))
  go_ret
  exact ⟨by simp [h], K3.out.tr (Kept.alloc w3 #[(.int .i64 gb), (.int .u8 (mb : Int)), (.slice pb nb cb)] 30 (0, 0) none)⟩
set_option maxRecDepth 100000 in
set_option maxHeartbeats 2000000 in
theorem lsame_noG {a b : Option Addr} {n c k d : Nat} {A B : List Nat} {w : World} (hA : Come w a n c A) (hB : Come w b k d B) (h0 : rdE19 A = rdE19 B) (h : (rdK19 A).gen ≠ (rdK19 B).gen) : Calls Try.prog 30 #[dvV a n c, dvV b k d] w fun e w' => e = .returned (.bool false) ∧ Kept w w' none := by
  have HRA := Hid.mk' (fun w' (hk : Kept w w' none) => sread_any (hA.kpt hk))
  have HRB := Hid.mk' (fun w' (hk : Kept w w' none) => sread_any (hB.kpt hk))
  unfold RdP at HRA HRB
  have hkA : Kept w ((w.alloc (.cells (dvC a n c) 24)).alloc (.cells (dvC b k d) 24)) none := (Kept.alloc _ _ _ _ _).tr (Kept.alloc _ _ _ _ _)
  have hR := db_alloc (w.alloc (.cells (dvC a n c) 24)) b k d 24
  simp only [World.size_alloc] at hR
  have HR := Hid.mk' hR
  have HKA := Hid.mk' hkA
  clear hkA hR
  obtain ⟨ga, hga⟩ : ∃ g : Int, ((rdK19 A).gen : Int) = g := ⟨_, rfl⟩
  obtain ⟨ma, hma⟩ : ∃ g, (rdK19 A).mode = g := ⟨_, rfl⟩
  obtain ⟨E, hE⟩ : ∃ E, rdE19 A = E := ⟨_, rfl⟩
  obtain ⟨gb, hgb⟩ : ∃ g : Int, ((rdK19 B).gen : Int) = g := ⟨_, rfl⟩
  obtain ⟨mb, hmb⟩ : ∃ g, (rdK19 B).mode = g := ⟨_, rfl⟩
  obtain ⟨F, hF⟩ : ∃ E, rdE19 B = E := ⟨_, rfl⟩
  rw [hE, hF] at h0
  subst h0
  replace h : ¬ ga = gb := by omega
  rw [hga, hma, hE] at HRA
  rw [hgb, hmb, hF] at HRB
  clear hga hma hE hgb hmb hF hA hB
  go_enter Try.func30, Try.ntmps30
  go_wp2_with (first
    | (have hgo := RA2; clear hgo; go_at_call 10; refine (HRB.out _ (K2.out.tr (Kept.alloc w2 #[(.int .i64 ga), (.int .u8 (ma : Int)), (.slice pa na ca)] 30 (0, 0) none))).mono ?_; rintro e w3 ⟨pb, nb, cb, rfl, hp3, hk3⟩; have P3 := Hid.mk' hp3; have K3 := Hid.mk' ((K2.out.tr (Kept.alloc w2 #[(.int .i64 ga), (.int .u8 (ma : Int)), (.slice pa na ca)] 30 (0, 0) none)).tr hk3); have P23 := Hid.mk' ((P2.out.kept (Kept.alloc w2 #[(.int .i64 ga), (.int .u8 (ma : Int)), (.slice pa na ca)] 30 (0, 0) none)).kept hk3); have RA3 := Hid.mk' (rowK (rowK RA2.out hk3) (Kept.alloc w3 #[(.int .i64 gb), (.int .u8 (mb : Int)), (.slice pb nb cb)] 30 (0, 0) none)); have RB3 := Hid.mk' (row3 w3 (.int .i64 gb) (.int .u8 (mb : Int)) (.slice pb nb cb) 30); have t0 : (w3.alloc (.cells #[(.int .i64 gb), (.int .u8 (mb : Int)), (.slice pb nb cb)] 30)).cell? ⟨w2.heap.size, 0, none⟩ = some (.int .i64 ga) := RA3.out.cell (i := 0) (by omega); have t1 : (w3.alloc (.cells #[(.int .i64 gb), (.int .u8 (mb : Int)), (.slice pb nb cb)] 30)).cell? ⟨w2.heap.size, 1, none⟩ = some (.int .u8 (ma : Int)) := RA3.out.cell (i := 1) (by omega); have t2 : (w3.alloc (.cells #[(.int .i64 gb), (.int .u8 (mb : Int)), (.slice pb nb cb)] 30)).cell? ⟨w2.heap.size, 2, none⟩ = some (.slice pa na ca) := RA3.out.cell (i := 2) (by omega); have u0 : (w3.alloc (.cells #[(.int .i64 gb), (.int .u8 (mb : Int)), (.slice pb nb cb)] 30)).cell? ⟨w3.heap.size, 0, none⟩ = some (.int .i64 gb) := RB3.out.cell (i := 0) (by omega); have u1 : (w3.alloc (.cells #[(.int .i64 gb), (.int .u8 (mb : Int)), (.slice pb nb cb)] 30)).cell? ⟨w3.heap.size, 1, none⟩ = some (.int .u8 (mb : Int)) := RB3.out.cell (i := 1) (by omega); have u2 : (w3.alloc (.cells #[(.int .i64 gb), (.int .u8 (mb : Int)), (.slice pb nb cb)] 30)).cell? ⟨w3.heap.size, 2, none⟩ = some (.slice pb nb cb) := RB3.out.cell (i := 2) (by omega); clear hp3 hk3 RA2)
    | (go_at_call 10; refine (HRA.out _ HKA.out).mono ?_; rintro e w2 ⟨pa, na, ca, rfl, hp2, hk2⟩; have P2 := Hid.mk' hp2; have K2 := Hid.mk' (HKA.out.tr hk2); have RA2 := Hid.mk' (row3 w2 (.int .i64 ga) (.int .u8 (ma : Int)) (.slice pa na ca) 30); have hS := (HR.out.kept hk2).kept (Kept.alloc w2 #[(.int .i64 ga), (.int .u8 (ma : Int)), (.slice pa na ca)] 30 (0, 0) none); have s0 := hS.c0; clear hp2 hk2 hS))
  go_ret
  exact ⟨by simp [h], K3.out.tr (Kept.alloc w3 #[(.int .i64 gb), (.int .u8 (mb : Int)), (.slice pb nb cb)] 30 (0, 0) none)⟩
theorem lsame_no {a b : Option Addr} {n c k d : Nat} {A B : List Nat} {w : World} (hA : Come w a n c A) (hB : Come w b k d B) (h : rdE19 A ≠ rdE19 B ∨ (rdK19 A).gen ≠ (rdK19 B).gen) : Calls Try.prog 30 #[dvV a n c, dvV b k d] w fun e w' => e = .returned (.bool false) ∧ Kept w w' none := by
  by_cases h0 : rdE19 A = rdE19 B
  · exact lsame_noG hA hB h0 (h.resolve_left (fun q => q h0))
  · exact lsame_noE hA hB h0

end Go.Proofs.Ytmjkhafifemegaa

/-
  WHAT done TELLS, in numbers; the example that the laws begin with.
-/
namespace Go.Proofs.Ytmjkhafifemegaa
open Go.RowKit Go.Lib Go.Deep
set_option linter.unusedVariables false
set_option linter.unusedSimpArgs false

theorem wr_all {m : Nat} (hm : m % 64 = 0) : ∀ {l : List Pw}, (∀ p ∈ l, okP m p) → wrE m l = 0
  | [], _ => rfl
  | p :: l, h => by
    obtain ⟨h1, h2, h3⟩ := h p (List.mem_cons_self ..)
    have hv : hasV m p.n = true := (has_iff hm).2 ⟨h1, h2⟩
    unfold wrE
    rw [if_pos hv, if_pos h3]
    exact wr_all hm (fun q hq => h q (List.mem_cons_of_mem _ hq))
theorem doE_ok {L : List Nat} {m : Nat} {l : List Pl} (h : PtOk L m l) {k t : Nat} (hk : k ≤ manK L.length) (ht : t ≤ 64) : doE L.length (ptW L m l) (k : Int) (t : Int) = 0 ∧ doL L (ptW L m l) (k : Int) (t : Int) = doD (ptW L m l) k t L := by
  obtain ⟨q1, q2, q3, q4, q5, q6, q7⟩ := ask_ok h.ask
  have hw := wr_all q1 (pw_ok h)
  have hc : cwE L.length (ptW L m l) = 0 := by unfold cwE; rw [if_pos q7, hw]
  have hE : doE L.length (ptW L m l) (k : Int) (t : Int) = 0 := by
    unfold doE
    rw [if_pos hc, if_pos]
    rw [pw_len']
    exact ⟨by omega, by omega, by omega, by omega⟩
  refine ⟨hE, ?_⟩
  unfold doL
  rw [if_pos hE, Int.toNat_natCast, Int.toNat_natCast]
theorem dn_ok {L : List Nat} {m : Nat} {l : List Pl} (h : PtOk L m l) {k t : Nat} (ht : t ≤ 64) : dnB L m l (k : Int) (t : Int) = true ∧ dnL L m l (k : Int) (t : Int) = doD (ptW L m l) (min k (manK L.length)) t L := by
  have hE : ptE L m l = 0 := by unfold ptE; rw [if_pos h.ask, if_pos h.md, if_pos h.pie, if_pos h.gt]
  have hlen : (ptL L m l).length = manK L.length := by rw [h.list, pw_len']
  have e : min (k : Int) ((ptL L m l).length : Int) = ((min k (manK L.length) : Nat) : Int) := by rw [hlen]; omega
  obtain ⟨q1, q2⟩ := doE_ok h (k := min k (manK L.length)) (t := t) (Nat.min_le_right _ _) ht
  unfold dnB dnL
  rw [e, h.list, decide_eq_true hE, if_pos hE, q1, q2]
  exact ⟨rfl, rfl⟩
theorem dn_no {L : List Nat} {m : Nat} {l : List Pl} {wh tn : Int} (h : ptE L m l ≠ 0) : dnB L m l wh tn = false ∧ dnL L m l wh tn = L := by
  unfold dnB dnL
  rw [decide_eq_false h, if_neg h]
  exact ⟨rfl, rfl⟩
/-- What is read of the same Ct is the same. -/
theorem sam_ct {A B : List Nat} (hl : A.length = B.length) (h : ctK A = ctK B) : SamR A B := by
  have e : rdE19 A = rdE19 B := by unfold rdE19; rw [hl, h]
  refine ⟨e, ?_⟩
  unfold rdK19
  rw [e, h]
theorem rd_new {X : List Nat} {N m : Nat} {l : List Pl} (ha : askE X.length = 0) (h : ctK X = ⟨N, m, l⟩) (hN : 1 ≤ N) : rdE19 X = 0 ∧ rdK19 X = ⟨N, m, l⟩ := by
  have e : rdE19 X = 0 := by
    unfold rdE19
    rw [if_pos ha, h, if_pos (show 0 < N by omega)]
  exact ⟨e, by unfold rdK19; rw [if_pos e, h]⟩
/-- Where just what is put is read, what was read is another thing. -/
theorem sam_not {A B : List Nat} {N m : Nat} {l : List Pl} (ha : askE A.length = 0) (h : ctK A = ⟨N, m, l⟩) (hN : (ctK B).gen < N) : rdE19 A ≠ rdE19 B ∨ (rdK19 A).gen ≠ (rdK19 B).gen := by
  obtain ⟨e1, e2⟩ := rd_new ha h (by omega)
  by_cases hB : rdE19 B = 0
  · right
    rw [e2]
    unfold rdK19
    rw [if_pos hB]
    show N ≠ _
    omega
  · left
    rw [e1]
    exact fun q => hB q.symm
/-! ### The example -/
def p51 : Pl := ⟨5, 0, [5]⟩
def z256 : List Nat := List.replicate 256 0
theorem al_ask : askE z256.length = 0 := by decide +kernel
theorem al_pie : pieE 2 [p51] (manK z256.length) = 0 := by decide +kernel
theorem al_gen : ptN z256 = 1 := by decide +kernel
theorem al_ok : PtOk z256 2 [p51] := ⟨al_ask, by omega, al_pie, by rw [al_gen]; decide⟩
def a256 : List Nat := doD (ptW z256 2 [p51]) 2 0 z256
theorem al_dn : dnB z256 2 [p51] 99 0 = true ∧ dnL z256 2 [p51] 99 0 = a256 := by
  have h := dn_ok al_ok (k := 99) (t := 0) (by omega)
  have e : min 99 (manK z256.length) = 2 := by decide +kernel
  rw [e] at h
  exact h
theorem al_rd : rdE19 a256 = 0 ∧ rdK19 a256 = ⟨1, 2, [p51]⟩ := by
  have e : manK z256.length = 2 := by decide +kernel
  have h := done_read al_ok 0 (by omega)
  rw [e, al_gen] at h
  have hl : a256.length = z256.length := x_len al_ok (by omega)
  exact rd_new (by rw [hl]; exact al_ask) h (by omega)
theorem al_fo : foE 4 = 0 ∧ foL 4 = z256 := by
  have e : foE 4 = 0 := by decide +kernel
  refine ⟨e, ?_⟩
  unfold foL
  rw [if_pos e]
  rfl

end Go.Proofs.Ytmjkhafifemegaa

