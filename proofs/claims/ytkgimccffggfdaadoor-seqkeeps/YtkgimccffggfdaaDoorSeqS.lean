/-
  Texts joined: some of those that the proofs of this seat stand on.
-/
import Derived.Test.YtkgimccffggfdaaDoorSeqD
import Derived.Test.YtkgimccffggfdaaDoorSeqUJ
import Derived.Test.YtkgimccffggfdaaDoorGateBJ
import Derived.Deep.RegionHeld
/-
  THE CONTRACTS of the statements' at and step (made by a program).
-/
namespace Go.Proofs.YtkgimccffggfdaaDoor
open Go.RowKit Go.Lib Go.Deep
set_option linter.unusedVariables false
set_option linter.unusedSimpArgs false


theorem sadm_at {X : Sa} {S : St} {w : World} {p bl : Nat} {ag : Option Addr} {cg : Nat} {G : Sf} (h : Sat w X S) (hT : Tabb w) (hsf : SafeAt w ag cg G) (hrow : w.rowIs bl 5 S.groups.length (fun i => .int .u8 ((lg (askV S p) i : Nat) : Int))) (hs : siteB S = true) (hg : goesV S G = true) : Calls Tryd.prog 35 #[siteV X S, (.agg #[.slice ag S.groups.length cg, .int .i64 G.start, .bool G.flashed]), .slice (some ⟨bl, 0, none⟩) S.groups.length S.groups.length] w fun e w2 => ∃ b, e = .returned (.tuple #[.slice (some ⟨b, 0, none⟩) S.groups.length S.groups.length, .int .i64 0]) ∧ By w2 (some ⟨b, 0, none⟩) S.groups.length (letV S G (askV S p)) ∧ Kept w w2 none := by
  have hng := (span_may hs).base.sh.ok.ng
  have hz : goesE S G = 0 := by unfold goesE; rw [hs, hg]; rfl
  have hfn := (mayS_parts (goes_parts hg).1).1
  have hx := gadmit_go (cl := S.groups.length) h hT hsf (By.row hrow (askV S p) S.groups.length (Nat.le_refl _) (askV_len S p) (by omega) (askV_ltt S p) (fun i hi => rfl)) hz rfl
  rw [safeV, hfn] at hx
  refine hx.mono ?_
  rintro e w2 ⟨b, rfl, h1, h2, h3⟩
  exact ⟨b, rfl, By.row h2 _ S.groups.length (Nat.le_refl _) ((letV_len S G _).trans (askV_len S p)) (by omega) (letV_ltt _ _ _) (fun i hi => by rw [show (letV S G (askV S p)).getD i 0 = lg (letV S G (askV S p)) i from rfl, letV_lg (by rw [askV_len]; exact hi)]), h3⟩
theorem snxt_at {X : Sa} {S : St} {w : World} {p b : Nat} {ag : Option Addr} {cg : Nat} {G : Sf} (h : Sat w X S) (hT : Tabb w) (hsf : SafeAt w ag cg G) (hB : By w (some ⟨b, 0, none⟩) S.groups.length (letV S G (askV S p))) (hs : siteB S = true) (hg : goesV S G = true) : Calls Tryd.prog 36 #[siteV X S, (.agg #[.slice ag S.groups.length cg, .int .i64 G.start, .bool G.flashed]), .slice (some ⟨b, 0, none⟩) S.groups.length S.groups.length] w fun e w2 => ∃ b2, e = .returned (.tuple #[.agg #[.slice (some ⟨b2, 0, none⟩) S.groups.length S.groups.length, .int .i64 (stepT S p G).start, .bool (stepT S p G).flashed], .int .u8 0, .int .i64 0]) ∧ w.heap.size ≤ b2 ∧ SafeAt w2 (some ⟨b2, 0, none⟩) S.groups.length (stepT S p G) ∧ Kept w w2 none := by
  have hng := (span_may hs).base.sh.ok.ng
  refine (next_got h hT hsf hB hs (goes_parts hg).1 (let_safe hs hg (askV_len S p))).mono ?_
  rintro e w2 ⟨b2, rfl, h1, h2, h3⟩
  exact ⟨b2, rfl, h1, OwnG.safe h2 (step_len S p G) (fun _ _ => rfl) (by omega) (step_rngt S p G), h3⟩
theorem sat_any {w : World} {a : Option Addr} {n c : Nat} {L : List Nat} (h : U3 w a n c L) (k : Nat) (hk : k ≤ 1000) : Calls Tryd.prog 19 #[.slice a n c, .int .i64 (k : Int)] w fun e w' => e = .returned (.int .u32 ((atU L k : Nat) : Int)) ∧ w' = w := by
  have hsz := h.size
  have hcr := h.cap.room
  have hcm := h.cap.max
  by_cases h0 : n = 0
  · have HV : Hid (atU L k = 0) := by show _ = _; unfold atU; rw [if_pos (by omega)]
    subst h0
    clear h
    go_enter Tryd.func19, Tryd.ntmps19
    go_wp2
    go_ret
    exact ⟨by rw [HV.out]; rfl, rfl⟩
  · obtain ⟨b, off, e, hb, hc⟩ := h.lie.one (by omega)
    have hm : k % n < n := Nat.mod_lt _ (by omega)
    have hce := hc (k % n) (by omega)
    have HV : Hid (atU L k = L.getD (k % n) 0) := by show _ = _; unfold atU; rw [if_neg (by omega), hsz]
    have e1 : ((k : Int)).tmod (n : Int) = ((k % n : Nat) : Int) := by
      rw [Int.tmod_eq_emod_of_nonneg (by omega)]
      simp
    have e2 : ((k : Int)) % (n : Int) = ((k % n : Nat) : Int) := by simp
    have hn0 : ¬ (n : Int) = 0 := by omega
    have hnb : ((n : Int) == 0) = false := by simp; omega
    subst e
    generalize L.getD (k % n) 0 = V at *
    generalize k % n = M at *
    clear h hc hsz h0
    go_enter Tryd.func19, Tryd.ntmps19
    go_wp2
    go_ret
    exact ⟨by rw [HV.out]; rfl, rfl⟩

theorem Lie.keptY {w w' : World} {r : Option Nat} {a : Option Addr} {n k : Nat} {f : Nat → Nat → Value} (h : Lie w a n k f) (q : Kept w w' r) (hr : 0 < n → ∀ x, a = some x → some x.block ≠ r) : Lie w' a n k f :=
  ⟨fun hp => by
    obtain ⟨b, off, e, hb, hc⟩ := h.at_ hp
    exact ⟨b, off, e, Nat.lt_of_lt_of_le hb q.size, fun i hi j hj => cell_keptS (hc i hi j hj) q (hr hp _ e)⟩⟩
theorem Box.keptY {w w' : World} {b : Nat} {v0 v1 v2 : Value} {r : Option Nat} (h : Box w b v0 v1 v2) (k : Kept w w' r) (hr : some b ≠ r) : Box w' b v0 v1 v2 := by
  have e := k.block b h.lt hr
  exact ⟨(World.cell?_of_block (w := w) (a := ⟨b, 0, none⟩) e).trans h.c0, (World.cell?_of_block (w := w) (a := ⟨b, 1, none⟩) e).trans h.c1, (World.cell?_of_block (w := w) (a := ⟨b, 2, none⟩) e).trans h.c2, (World.frozen?_of_block (w := w) (a := ⟨b, 0, none⟩) e).trans h.f0, (World.frozen?_of_block (w := w) (a := ⟨b, 1, none⟩) e).trans h.f1, (World.frozen?_of_block (w := w) (a := ⟨b, 2, none⟩) e).trans h.f2, Nat.lt_of_lt_of_le h.lt k.size⟩
/-- Stores of a place and a standing into boxes that a row of its own is not in. -/
theorem SafeAt.setQ {w : World} {b2 c : Nat} {F : Sf} (h : SafeAt w (some ⟨b2, 0, none⟩) c F) {bq bn : Nat} (h1 : b2 ≠ bq) (h2 : b2 ≠ bn) (x0 x1 y0 y1 y2 : Value) : SafeAt (((((w.setCell ⟨bq, 0, none⟩ x0).setCell ⟨bq, 1, none⟩ x1).setCell ⟨bn, 0, none⟩ y0).setCell ⟨bn, 1, none⟩ y1).setCell ⟨bn, 2, none⟩ y2) (some ⟨b2, 0, none⟩) c F := by
  have k1 : Kept w ((w.setCell ⟨bq, 0, none⟩ x0).setCell ⟨bq, 1, none⟩ x1) (some bq) := ((Kept.refl w (some bq)).setRow _ _).setRow _ _
  have s1 : SafeAt ((w.setCell ⟨bq, 0, none⟩ x0).setCell ⟨bq, 1, none⟩ x1) (some ⟨b2, 0, none⟩) c F := ⟨h.lie.keptY k1 (fun _ x e => by injection e with e; subst e; exact fun e => h1 (Option.some.inj e)), h.cap, h.rng⟩
  generalize (w.setCell ⟨bq, 0, none⟩ x0).setCell ⟨bq, 1, none⟩ x1 = w1 at *
  have k2 : Kept w1 (((w1.setCell ⟨bn, 0, none⟩ y0).setCell ⟨bn, 1, none⟩ y1).setCell ⟨bn, 2, none⟩ y2) (some bn) := (((Kept.refl w1 (some bn)).setRow _ _).setRow _ _).setRow _ _
  exact ⟨s1.lie.keptY k2 (fun _ x e => by injection e with e; subst e; exact fun e => h2 (Option.some.inj e)), s1.cap, s1.rng⟩
theorem Kept.setQ {w0 w : World} (h : Kept w0 w none) {bq bn : Nat} (h1 : w0.heap.size ≤ bq) (h2 : w0.heap.size ≤ bn) (x0 x1 y0 y1 y2 : Value) : Kept w0 (((((w.setCell ⟨bq, 0, none⟩ x0).setCell ⟨bq, 1, none⟩ x1).setCell ⟨bn, 0, none⟩ y0).setCell ⟨bn, 1, none⟩ y1).setCell ⟨bn, 2, none⟩ y2) none :=
  ((((h.setNew (p := ⟨bq, 0, none⟩) h1 _).setNew (p := ⟨bq, 1, none⟩) h1 _).setNew (p := ⟨bn, 0, none⟩) h2 _).setNew (p := ⟨bn, 1, none⟩) h2 _).setNew (p := ⟨bn, 2, none⟩) h2 _
set_option maxRecDepth 100000 in
set_option maxHeartbeats 8000000 in
theorem sstep_any {X : Sa} {S : St} {w : World} (h : Sat w X S) (hT : Tabb w) {a : Option Addr} {ca : Nat} {F : Sf} (hF : SafeAt w a ca F) (p : Nat) (s : Int) (c g : Nat) (hc : c < 4294967296) (hg : g < 4294967296) (hs : siteB S = true) (hgo : goesV S F = true) (hp : p < S.phases.length) (hs0 : 0 ≤ s) (hs9 : s ≤ 1048576) (Q : Sq) (hQ : goQ S ⟨p, s⟩ F c g = Q) : Calls Tryd.prog 18 #[siteV X S, .agg #[.int .i64 (p : Int), .int .i64 s], .agg #[.slice a S.groups.length ca, .int .i64 F.start, .bool F.flashed], .int .u32 (c : Int), .int .u32 (g : Int)] w fun e w' => ∃ b2, e = .returned (.tuple #[.agg #[.int .i64 (Q.ph : Int), .int .i64 Q.since], .agg #[.slice (some ⟨b2, 0, none⟩) S.groups.length S.groups.length, .int .i64 (stepT S Q.ph F).start, .bool (stepT S Q.ph F).flashed], .bool true]) ∧ w.heap.size ≤ b2 ∧ SafeAt w' (some ⟨b2, 0, none⟩) S.groups.length (stepT S Q.ph F) ∧ Kept w w' none := by
  have hfn := (mayS_parts (goes_parts hgo).1).1
  have HSAT := Hid.mk' h
  have HTAB := Hid.mk' hT
  have HSF := Hid.mk' hF
  have HSI := Hid.mk' hs
  have HGO := Hid.mk' hgo
  obtain ⟨WA, hWA⟩ : ∃ WA, (((((w.alloc (.cells #[.int .i64 S.id, .slice X.g S.groups.length X.gc, .slice X.a S.apart.length X.ac, .slice X.b S.between.length X.bc, .slice X.p S.phases.length X.pc, .slice X.e S.eyes.length X.ec, .int .i64 S.watch, .int .i64 S.feed, .int .i64 S.heal, .int .i64 S.low, .int .i64 S.high, .slice X.l S.plans.length X.lc] 37)).alloc (.cells #[.int .i64 (p : Int), .int .i64 s] 40)).alloc (.cells #[.slice a S.groups.length ca, .int .i64 F.start, .bool F.flashed] 26)).alloc (.cells #[.int .i64 0, .int .i64 0] 40)).alloc (.cells #[.slice none 0 0, .int .i64 0, .bool false] 26)) = WA := ⟨_, rfl⟩
  obtain ⟨⟨HSB, HBQ, HBN, HK, HS, HF, HSZ, q0_, q1_, n0_, n1_, n2_, s0_, s1_, s2_, s3_, s4_, s5_, s6_, s7_, s8_, s9_, s10_, s11_⟩, HBZ, HBM⟩ := hd3s h hF hWA
  have HT := Hid.mk' (hT.kept HK.out)
  have hK0 := Kept.refl WA none
  clear h hT hF
  have HNQ : Hid (∀ w', Kept WA w' none → Calls Tryd.prog 9 #[siteV X S, .agg #[.int .i64 (p : Int), .int .i64 s], .agg #[.slice a S.groups.length ca, .int .i64 F.start, .bool F.flashed], .int .u32 (c : Int), .int .u32 (g : Int)] w' fun e w2 => ∃ b, e = .returned (.tuple #[.agg #[.int .i64 (Q.ph : Int), .int .i64 Q.since], .slice (some ⟨b, 0, none⟩) S.groups.length S.groups.length, .int .i64 0]) ∧ w'.heap.size ≤ b ∧ w2.rowIs b 5 S.groups.length (fun i => .int .u8 ((lg (askV S Q.ph) i : Nat) : Int)) ∧ Kept w' w2 none) := fun w' q => by
    have hx := snext_go (HS.out.kept q) (HT.out.kept q) (HF.out.kept q) p s c g hc hg hs hp hs0 hs9 hfn Q hQ
    rw [safeV, hfn] at hx
    exact hx
  clear hs hgo hfn hQ hp
  obtain ⟨gp, gs⟩ := Q
  dsimp only at HNQ ⊢
  obtain ⟨G', hG'⟩ : ∃ G', stepT S gp F = G' := ⟨_, rfl⟩
  rw [hG']
  have HGE := Hid.mk' hG'
  clear hG'
  go_enter Tryd.func18, Tryd.ntmps18
  go_wp2_with (first | rw [hWA] | (go_at_call 9; refine (HNQ.out _ hK0).mono ?_; rintro e wN ⟨bL, rfl, hbL, hrL, hkN⟩; have hKN : Kept WA wN none := hkN; have HRL := Hid.mk' hrL; have BX := HBQ.out.kept hKN; have v0 := BX.c0; have v1 := BX.c1; have t0 := BX.f0; have t1 := BX.f1; clear BX hrL))
  have kw : Kept w ((wN.setCell ⟨w.heap.size + 1, 0, none⟩ (.int .i64 (gp : Int))).setCell ⟨w.heap.size + 1, 1, none⟩ (.int .i64 gs)) none := ((HK.out.tr hKN).setNew (p := ⟨w.heap.size + 1, 0, none⟩) (Nat.le_succ _) _).setNew (p := ⟨w.heap.size + 1, 1, none⟩) (Nat.le_succ _) _
  have kq : Kept WA ((wN.setCell ⟨w.heap.size + 1, 0, none⟩ (.int .i64 (gp : Int))).setCell ⟨w.heap.size + 1, 1, none⟩ (.int .i64 gs)) (some (w.heap.size + 1)) := ((hKN.weakS (some (w.heap.size + 1))).setRow _ _).setRow _ _
  have kr : Kept wN ((wN.setCell ⟨w.heap.size + 1, 0, none⟩ (.int .i64 (gp : Int))).setCell ⟨w.heap.size + 1, 1, none⟩ (.int .i64 gs)) (some (w.heap.size + 1)) := ((Kept.refl wN (some (w.heap.size + 1))).setRow _ _).setRow _ _
  have HQ1 := Hid.mk' ((HBQ.out.kept hKN).set (.int .i64 (gp : Int)) (.int .i64 gs))
  have hbq : bL ≠ w.heap.size + 1 := by have h1 := hKN.size; have h2 := HBQ.out.lt; omega
  have HRW := Hid.mk' (row_kept HRL.out kr (fun e => hbq (Option.some.inj e)))
  obtain ⟨W1, hW1⟩ : ∃ W1, ((wN.setCell ⟨w.heap.size + 1, 0, none⟩ (.int .i64 (gp : Int))).setCell ⟨w.heap.size + 1, 1, none⟩ (.int .i64 gs)) = W1 := ⟨_, rfl⟩
  rw [hW1] at kw kq HQ1 HRW ⊢
  have HKW := Hid.mk' kw
  have HSB1 := Hid.mk' (Sbox.oth HSAT.out HSB.out kw kq (show w.heap.size ≠ w.heap.size + 1 by omega))
  have HBN1 := Hid.mk' (HBN.out.keptY kq (by simp <;> omega))
  have HBZ1 := Hid.mk' (HBZ.out.keptR kq (by simp <;> omega))
  have HBM1 := Hid.mk' (HBM.out.keptY kq (by simp <;> omega))
  have HAD : Hid (∀ w', Kept W1 w' none → Calls Tryd.prog 35 #[siteV X S, .agg #[.slice a S.groups.length ca, .int .i64 F.start, .bool F.flashed], .slice (some ⟨bL, 0, none⟩) S.groups.length S.groups.length] w' fun e w2 => ∃ b, e = .returned (.tuple #[.slice (some ⟨b, 0, none⟩) S.groups.length S.groups.length, .int .i64 0]) ∧ By w2 (some ⟨b, 0, none⟩) S.groups.length (letV S F (askV S gp)) ∧ Kept w' w2 none) := fun w' q => sadm_at (HSAT.out.kept (HKW.out.tr q)) (HTAB.out.kept (HKW.out.tr q)) (HSF.out.kept (HKW.out.tr q)) (row_kept HRW.out q (by simp)) HSI.out HGO.out
  have HNX : Hid (∀ w' b, Kept W1 w' none → By w' (some ⟨b, 0, none⟩) S.groups.length (letV S F (askV S gp)) → Calls Tryd.prog 36 #[siteV X S, .agg #[.slice a S.groups.length ca, .int .i64 F.start, .bool F.flashed], .slice (some ⟨b, 0, none⟩) S.groups.length S.groups.length] w' fun e w2 => ∃ b2, e = .returned (.tuple #[.agg #[.slice (some ⟨b2, 0, none⟩) S.groups.length S.groups.length, .int .i64 G'.start, .bool G'.flashed], .int .u8 0, .int .i64 0]) ∧ w'.heap.size ≤ b2 ∧ SafeAt w2 (some ⟨b2, 0, none⟩) S.groups.length G' ∧ Kept w' w2 none) := fun w' b q hB => by
    rw [← HGE.out]
    exact snxt_at (HSAT.out.kept (HKW.out.tr q)) (HTAB.out.kept (HKW.out.tr q)) (HSF.out.kept (HKW.out.tr q)) hB HSI.out HGO.out
  clear hW1 kw kq kr v0 v1 t0 t1 hkN hKN s0_ s1_ s2_ s3_ s4_ s5_ s6_ s7_ s8_ s9_ s10_ s11_ n0_ n1_ n2_ q0_ q1_ hK0 HSB HBN HBZ HBM HBQ HS HT HF hbq hbL
  have s0_ : ∀ w', Kept W1 w' none → w'.cell? ⟨w.heap.size, 0, none⟩ = some (.int .i64 S.id) := fun w' q => (HSB1.out.kept q).c0
  have s1_ : ∀ w', Kept W1 w' none → w'.cell? ⟨w.heap.size, 1, none⟩ = some (.slice X.g S.groups.length X.gc) := fun w' q => (HSB1.out.kept q).c1
  have s2_ : ∀ w', Kept W1 w' none → w'.cell? ⟨w.heap.size, 2, none⟩ = some (.slice X.a S.apart.length X.ac) := fun w' q => (HSB1.out.kept q).c2
  have s3_ : ∀ w', Kept W1 w' none → w'.cell? ⟨w.heap.size, 3, none⟩ = some (.slice X.b S.between.length X.bc) := fun w' q => (HSB1.out.kept q).c3
  have s4_ : ∀ w', Kept W1 w' none → w'.cell? ⟨w.heap.size, 4, none⟩ = some (.slice X.p S.phases.length X.pc) := fun w' q => (HSB1.out.kept q).c4
  have s5_ : ∀ w', Kept W1 w' none → w'.cell? ⟨w.heap.size, 5, none⟩ = some (.slice X.e S.eyes.length X.ec) := fun w' q => (HSB1.out.kept q).c5
  have s6_ : ∀ w', Kept W1 w' none → w'.cell? ⟨w.heap.size, 6, none⟩ = some (.int .i64 S.watch) := fun w' q => (HSB1.out.kept q).c6
  have s7_ : ∀ w', Kept W1 w' none → w'.cell? ⟨w.heap.size, 7, none⟩ = some (.int .i64 S.feed) := fun w' q => (HSB1.out.kept q).c7
  have s8_ : ∀ w', Kept W1 w' none → w'.cell? ⟨w.heap.size, 8, none⟩ = some (.int .i64 S.heal) := fun w' q => (HSB1.out.kept q).c8
  have s9_ : ∀ w', Kept W1 w' none → w'.cell? ⟨w.heap.size, 9, none⟩ = some (.int .i64 S.low) := fun w' q => (HSB1.out.kept q).c9
  have s10_ : ∀ w', Kept W1 w' none → w'.cell? ⟨w.heap.size, 10, none⟩ = some (.int .i64 S.high) := fun w' q => (HSB1.out.kept q).c10
  have s11_ : ∀ w', Kept W1 w' none → w'.cell? ⟨w.heap.size, 11, none⟩ = some (.slice X.l S.plans.length X.lc) := fun w' q => (HSB1.out.kept q).c11
  have n0_ : ∀ w', Kept W1 w' none → w'.cell? ⟨w.heap.size + 1 + 1, 0, none⟩ = some (.slice a S.groups.length ca) := fun w' q => (HBN1.out.kept q).c0
  have n1_ : ∀ w', Kept W1 w' none → w'.cell? ⟨w.heap.size + 1 + 1, 1, none⟩ = some (.int .i64 F.start) := fun w' q => (HBN1.out.kept q).c1
  have n2_ : ∀ w', Kept W1 w' none → w'.cell? ⟨w.heap.size + 1 + 1, 2, none⟩ = some (.bool F.flashed) := fun w' q => (HBN1.out.kept q).c2
  have hR0 := Kept.refl W1 none
  go_wp2_with (first | rw [hw7] | (have hgo := HBY; clear hgo; go_at_call 36; refine (HNX.out _ _ hKL HBY.out).mono ?_; rintro e w6 ⟨b2, rfl, hb2, hs6, hk6⟩; have k6 : Kept w6 (w6.alloc (.cells #[.slice (some ⟨b2, 0, none⟩) S.groups.length S.groups.length, .int .i64 G'.start, .bool G'.flashed] 26)) none := Kept.alloc _ _ _ _ _; have bx6 := box_alloc w6 (.slice (some ⟨b2, 0, none⟩) S.groups.length S.groups.length) (.int .i64 G'.start) (.bool G'.flashed) 26; obtain ⟨w7, hw7⟩ : ∃ w7, w6.alloc (.cells #[.slice (some ⟨b2, 0, none⟩) S.groups.length S.groups.length, .int .i64 G'.start, .bool G'.flashed] 26) = w7 := ⟨_, rfl⟩; rw [hw7] at k6 bx6; have hK7 : Kept W1 w7 none := (hKL.tr hk6).tr k6; have HS7 := Hid.mk' (hs6.kept k6); have HX7 := Hid.mk' bx6; have HB2 := Hid.mk' (Nat.le_trans hKL.size hb2); have HL6 := Hid.mk' (hKL.tr hk6).size; clear hs6 bx6 k6) | (have hgo := hR0; clear hgo; go_at_call 35; refine (HAD.out _ hR0).mono ?_; rintro e wL ⟨bA, rfl, hbyA, hkL⟩; have hKL : Kept W1 wL none := hkL; have HBY := Hid.mk' hbyA; clear hbyA))
  have y0 := (HQ1.out.kept hK7).c0
  have y1 := (HQ1.out.kept hK7).c1
  have x0 := HX7.out.c0
  have x1 := HX7.out.c1
  have x2 := HX7.out.c2
  have r0 := (HBZ1.out.kept hK7).c0
  have r1 := (HBZ1.out.kept hK7).c1
  have rf0 := (HBZ1.out.kept hK7).f0
  have rf1 := (HBZ1.out.kept hK7).f1
  have m0 := (HBM1.out.kept hK7).c0
  have m1 := (HBM1.out.kept hK7).c1
  have m2 := (HBM1.out.kept hK7).c2
  have mf0 := (HBM1.out.kept hK7).f0
  have mf1 := (HBM1.out.kept hK7).f1
  have mf2 := (HBM1.out.kept hK7).f2
  have HKF := Hid.mk' ((HKW.out.tr hK7).tr (Kept.drew w7 none))
  have HSE := Hid.mk' (HS7.out.kept (Kept.drew w7 none))
  have hlm := HBM1.out.lt
  have hl6 := HL6.out
  have d1 : (w.heap.size + 1 + 1 + 1) ≠ (w.heap.size + 1) := by omega
  have d2 : (w.heap.size + 1 + 1 + 1 + 1) ≠ (w.heap.size + 1) := by omega
  have d3 : (w.heap.size + 1 + 1 + 1) ≠ w6.heap.size := by omega
  have d4 : (w.heap.size + 1 + 1 + 1 + 1) ≠ w6.heap.size := by omega
  have d5 : (w.heap.size + 1 + 1 + 1) ≠ (w.heap.size + 1 + 1 + 1 + 1) := by omega
  have d5' : (w.heap.size + 1 + 1 + 1 + 1) ≠ (w.heap.size + 1 + 1 + 1) := by omega
  have d6 : b2 ≠ (w.heap.size + 1 + 1 + 1) := by have := HB2.out; omega
  have d7 : b2 ≠ (w.heap.size + 1 + 1 + 1 + 1) := by have := HB2.out; omega
  have e1 : w.heap.size ≤ (w.heap.size + 1 + 1 + 1) := by omega
  have e2 : w.heap.size ≤ (w.heap.size + 1 + 1 + 1 + 1) := by omega
  have e3 : w.heap.size ≤ b2 := by have := HB2.out; have := HKW.out.size; omega
  clear s0_ s1_ s2_ s3_ s4_ s5_ s6_ s7_ s8_ s9_ s10_ s11_ n0_ n1_ n2_ hR0 HL6 hlm hl6 hKL hkL hk6 hK7 hb2 hw7 HSZ
  try clear hs0 hs9
  generalize w.heap.size + 1 + 1 + 1 + 1 = bm at *
  generalize w.heap.size + 1 + 1 + 1 = br at *
  generalize w.heap.size + 1 = bq at *
  generalize w6.heap.size = bx at *
  go_region_held (fun w' => w'.cell? ⟨bq, 0, none⟩ = some (.int .i64 (gp : Int)) ∧ w'.cell? ⟨bq, 1, none⟩ = some (.int .i64 gs) ∧ w'.cell? ⟨bx, 0, none⟩ = some (.slice (some ⟨b2, 0, none⟩) S.groups.length S.groups.length) ∧ w'.cell? ⟨bx, 1, none⟩ = some (.int .i64 G'.start) ∧ w'.cell? ⟨bx, 2, none⟩ = some (.bool G'.flashed)) (go_keep) (fail)
  go_wp2
  refine bodyPost_ret (v := .tuple #[.agg #[.int .i64 (gp : Int), .int .i64 gs], .agg #[.slice (some ⟨b2, 0, none⟩) S.groups.length S.groups.length, .int .i64 G'.start, .bool G'.flashed], .bool true]) (by simp [results, Tryd.results18, go_sem, r0, r1, m0, m1, m2, d5, d5']) rfl ⟨b2, rfl, e3, HSE.out.setQ d6 d7 _ _ _ _ _, HKF.out.setQ e1 e2 _ _ _ _ _⟩

end Go.Proofs.YtkgimccffggfdaaDoor

