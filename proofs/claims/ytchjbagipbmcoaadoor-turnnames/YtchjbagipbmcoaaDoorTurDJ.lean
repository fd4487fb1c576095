/-
  Texts joined: some of those that the proofs of this seat stand on.
-/
import Derived.Test.YtchjbagipbmcoaaDoorGateAJ
import Derived.Test.YtchjbagipbmcoaaDoorGateBJ
import Derived.Test.YtchjbagipbmcoaaDoorSafeFJ
import Derived.Deep.RegionHeld
/-
  THE CONTRACT of turn's Steps (made by a program).
-/
namespace Go.Proofs.YtchjbagipbmcoaaDoor
open Go.RowKit Go.Lib Go.Deep
set_option linter.unusedVariables false
set_option linter.unusedSimpArgs false


theorem Box.set3t {w : World} {b : Nat} {v0 v1 v2 : Value} (h : Box w b v0 v1 v2) (x0 x1 x2 : Value) : Box (((w.setCell ⟨b, 0, none⟩ x0).setCell ⟨b, 1, none⟩ x1).setCell ⟨b, 2, none⟩ x2) b x0 x1 x2 := by
  have h1 : Box (w.setCell ⟨b, 0, none⟩ x0) b x0 v1 v2 := ⟨World.cell?_setCell_same _ _ _ h.c0, (World.cell?_setCell_other _ _ _ _ (by simp)).trans h.c1, (World.cell?_setCell_other _ _ _ _ (by simp)).trans h.c2, (World.frozen?_setCell ..).trans h.f0, (World.frozen?_setCell ..).trans h.f1, (World.frozen?_setCell ..).trans h.f2, by simpa [World.setCell] using h.lt⟩
  exact (h1.set1 x1).set2 x2
theorem next_got {X : Sa} {S : St} {w : World} {a : Option Addr} {c : Nat} {F : Sf} {al : Option Addr} {n cl : Nat} {L : List Nat} (h : Sat w X S) (hT : Tabb w) (hF : SafeAt w a c F) (hB : By w al n L) (hs : siteB S = true) (hm : mayS S F = true) (hz : faultV S F L = 0) : Calls Tryd.prog 11 #[siteV X S, .agg #[.slice a S.groups.length c, .int .i64 F.start, .bool F.flashed], .slice al n cl] w fun e w' => ∃ b, e = .returned (.tuple #[.agg #[.slice (some ⟨b, 0, none⟩) S.groups.length S.groups.length, .int .i64 (behindV S F L).start, .bool (behindV S F L).flashed], .int .u8 0, .int .i64 0]) ∧ w.heap.size ≤ b ∧ OwnG w' b S.groups.length (behindV S F L).g ∧ Kept w w' none := by
  have hfn := (mayS_parts hm).1
  have hl := fault_len hz
  have hx := next_go (cl := cl) h hT hF hB hs hm hz
  rw [safeV, hfn] at hx
  refine hx.mono ?_
  rintro e w' ⟨b, rfl, h1, h2, h3⟩
  refine ⟨b, by rw [safeV, behindV_len, hl], h1, h2.congr (fun q hq => ?_), h3⟩
  unfold gcell
  rw [behindV_g (by omega)]
theorem letV_ltt (S : St) (F : Sf) (A : List Nat) : ∀ x ∈ letV S F A, x < 256 := by
  intro x hx
  simp only [letV, List.mem_map] at hx
  obtain ⟨i, _, rfl⟩ := hx
  have := letF_rng S F A i
  omega
theorem askV_ltt (S : St) (p : Nat) : ∀ x ∈ askV S p, x < 256 := by
  intro x hx
  simp only [askV, List.mem_map] at hx
  obtain ⟨i, _, rfl⟩ := hx
  split <;> omega
theorem step_rngt (S : St) (p : Nat) (F : Sf) : ∀ s ∈ (stepT S p F).groups, s.asp < 256 ∧ i64B s.since ∧ i64B s.ended := fun s hs => by
  unfold stepT behindV at hs
  simp only [List.mem_map, List.mem_range] at hs
  obtain ⟨i, hi, rfl⟩ := hs
  exact sndV_rng _ _ (letV_ltt _ _ _ _ (lg_mem hi))
/-- What the ticks of a turn go by: the site's box, the standing's, what is asked. -/
structure Tn (w wr : World) (X : Sa) (S : St) (p bs bn ba bl : Nat) (G : Sf) : Prop where
  kp : Kept w wr none
  sb : Sbox wr bs X S
  bx : ∃ ag cg, Box wr bn (.slice ag S.groups.length cg) (.int .i64 G.start) (.bool G.flashed) ∧ SafeAt wr ag cg G ∧ ∀ b, ag = some b → b.block ≠ bn
  ask : wr.cell? ⟨ba, 0, none⟩ = some (.slice (some ⟨bl, 0, none⟩) S.groups.length S.groups.length)
  row : wr.rowIs bl 5 S.groups.length (fun i => .int .u8 ((lg (askV S p) i : Nat) : Int))
/-- The boxes are others than the standing's, which is new. -/
structure Td (w : World) (bs bn ba bl : Nat) : Prop where
  s : bs ≠ bn
  a : ba ≠ bn
  l : bl ≠ bn
  n : w.heap.size ≤ bn
theorem Tn.kept {w wr w' : World} {X : Sa} {S : St} {p bs bn ba bl : Nat} {G : Sf} (h : Tn w wr X S p bs bn ba bl G) (k : Kept wr w' none) : Tn w w' X S p bs bn ba bl G := by
  obtain ⟨ag, cg, hb, hs, hne⟩ := h.bx
  exact ⟨h.kp.tr k, h.sb.kept k, ⟨ag, cg, hb.kept k, hs.kept k, hne⟩, cell_kept0 h.ask k, row_kept h.row k (by simp)⟩
theorem Sbox.oth {w wr w' : World} {X : Sa} {S : St} {bs bn : Nat} (h0 : Sat w X S) (h : Sbox wr bs X S) (k : Kept w w' none) (q : Kept wr w' (some bn)) (hne : bs ≠ bn) : Sbox w' bs X S := by
  have hr : some bs ≠ some bn := fun e => hne (Option.some.inj e)
  exact ⟨cell_keptS h.c0 q hr, cell_keptS h.c1 q hr, cell_keptS h.c2 q hr, cell_keptS h.c3 q hr, cell_keptS h.c4 q hr, cell_keptS h.c5 q hr, cell_keptS h.c6 q hr, cell_keptS h.c7 q hr, cell_keptS h.c8 q hr, cell_keptS h.c9 q hr, cell_keptS h.c10 q hr, cell_keptS h.c11 q hr, h0.kept k⟩
theorem Tn.step {w wr w7 : World} {X : Sa} {S : St} {p bs bn ba bl b2 : Nat} {G G' : Sf} (h : Tn w wr X S p bs bn ba bl G) (d : Td w bs bn ba bl) (h0 : Sat w X S) (k : Kept wr w7 none) (ho : OwnG w7 b2 S.groups.length G'.g) (hb2 : wr.heap.size ≤ b2) (hl : G'.groups.length = S.groups.length) (hm : S.groups.length ≤ 100) (hr : ∀ s ∈ G'.groups, s.asp < 256 ∧ i64B s.since ∧ i64B s.ended) : Tn w (((w7.setCell ⟨bn, 0, none⟩ (.slice (some ⟨b2, 0, none⟩) S.groups.length S.groups.length)).setCell ⟨bn, 1, none⟩ (.int .i64 G'.start)).setCell ⟨bn, 2, none⟩ (.bool G'.flashed)) X S p bs bn ba bl G' := by
  obtain ⟨ag, cg, hb, hs, hne⟩ := h.bx
  have kn : Kept wr (((w7.setCell ⟨bn, 0, none⟩ (.slice (some ⟨b2, 0, none⟩) S.groups.length S.groups.length)).setCell ⟨bn, 1, none⟩ (.int .i64 G'.start)).setCell ⟨bn, 2, none⟩ (.bool G'.flashed)) (some bn) := (((k.weakS (some bn)).setRow _ _).setRow _ _).setRow _ _
  have kw := (((h.kp.tr k).setNew (p := ⟨bn, 0, none⟩) d.n (.slice (some ⟨b2, 0, none⟩) S.groups.length S.groups.length)).setNew (p := ⟨bn, 1, none⟩) d.n (.int .i64 G'.start)).setNew (p := ⟨bn, 2, none⟩) d.n (.bool G'.flashed)
  have h2 : b2 ≠ bn := by have := hb.lt; omega
  refine ⟨kw, Sbox.oth h0 h.sb kw kn d.s, ⟨some ⟨b2, 0, none⟩, S.groups.length, (hb.kept k).set3t _ _ _, ?_, fun b e => by injection e with e; subst e; exact h2⟩, cell_keptS h.ask kn (fun e => d.a (Option.some.inj e)), row_kept h.row kn (fun e => d.l (Option.some.inj e))⟩
  exact OwnG.safe (((World.rowIs.setOther ho (a := ⟨bn, 0, none⟩) h2 _).setOther (a := ⟨bn, 1, none⟩) h2 _).setOther (a := ⟨bn, 2, none⟩) h2 _) hl (fun _ _ => rfl) (by omega) hr
set_option maxRecDepth 100000 in
set_option maxHeartbeats 2000000 in
theorem tstp_any {w wr : World} {X : Sa} {S : St} {p bs bn ba bl : Nat} {G : Sf} (h : Tn w wr X S p bs bn ba bl G) (d : Td w bs bn ba bl) (h0 : Sat w X S) (hT : Tabb w) (hs : siteB S = true) (hg : goesV S G = true) : Calls Tryd.prog 28 #[.pointer (some ⟨bs, 0, none⟩), .pointer (some ⟨bn, 0, none⟩), .pointer (some ⟨ba, 0, none⟩)] wr fun e w' => e = .returned (.tuple #[]) ∧ Tn w w' X S p bs bn ba bl (stepT S p G) := by
  have hng := (span_may hs).base.sh.ok.ng
  have hmy := (goes_parts hg).1
  have hfn := (mayS_parts hmy).1
  have hz : goesE S G = 0 := by unfold goesE; rw [hs, hg]; rfl
  have hlt := let_safe hs hg (askV_len S p)
  obtain ⟨ag, cg, hb, hsf, hne⟩ := h.bx
  have HSB := Hid.mk' h.sb
  have HBN := Hid.mk' hb
  have HTN := Hid.mk' h
  have HF := Hid.mk' hsf
  have HAD : Hid (∀ w', Kept wr w' none → Calls Tryd.prog 10 #[siteV X S, (.agg #[.slice ag S.groups.length cg, .int .i64 G.start, .bool G.flashed]), .slice (some ⟨bl, 0, none⟩) S.groups.length S.groups.length] w' fun e w2 => ∃ b, e = .returned (.tuple #[.slice (some ⟨b, 0, none⟩) S.groups.length S.groups.length, .int .i64 0]) ∧ By w2 (some ⟨b, 0, none⟩) S.groups.length (letV S G (askV S p)) ∧ Kept w' w2 none) := fun w' q => by
    have hx := gadmit_go (cl := S.groups.length) (h.sb.sat.kept q) ((hT.kept h.kp).kept q) (hsf.kept q) (By.row (row_kept h.row q (by simp)) (askV S p) S.groups.length (Nat.le_refl _) (askV_len S p) (by omega) (askV_ltt S p) (fun i hi => rfl)) hz rfl
    rw [safeV, hfn] at hx
    refine hx.mono ?_
    rintro e w2 ⟨b, rfl, h1, h2, h3⟩
    exact ⟨b, rfl, By.row h2 _ S.groups.length (Nat.le_refl _) ((letV_len S G _).trans (askV_len S p)) (by omega) (letV_ltt _ _ _) (fun i hi => by rw [show (letV S G (askV S p)).getD i 0 = lg (letV S G (askV S p)) i from rfl, letV_lg (by rw [askV_len]; exact hi)]), h3⟩
  have HNX : Hid (∀ w' b, Kept wr w' none → By w' (some ⟨b, 0, none⟩) S.groups.length (letV S G (askV S p)) → Calls Tryd.prog 11 #[siteV X S, (.agg #[.slice ag S.groups.length cg, .int .i64 G.start, .bool G.flashed]), .slice (some ⟨b, 0, none⟩) S.groups.length S.groups.length] w' fun e w2 => ∃ b2, e = .returned (.tuple #[.agg #[.slice (some ⟨b2, 0, none⟩) S.groups.length S.groups.length, .int .i64 (stepT S p G).start, .bool (stepT S p G).flashed], .int .u8 0, .int .i64 0]) ∧ w'.heap.size ≤ b2 ∧ OwnG w2 b2 S.groups.length (stepT S p G).g ∧ Kept w' w2 none) := fun w' b q hB =>
    next_got (h.sb.sat.kept q) ((hT.kept h.kp).kept q) (hsf.kept q) hB hs hmy hlt
  have HST : Hid (∀ w7 b2, Kept wr w7 none → OwnG w7 b2 S.groups.length (stepT S p G).g → wr.heap.size ≤ b2 → Tn w (((w7.setCell ⟨bn, 0, none⟩ (.slice (some ⟨b2, 0, none⟩) S.groups.length S.groups.length)).setCell ⟨bn, 1, none⟩ (.int .i64 (stepT S p G).start)).setCell ⟨bn, 2, none⟩ (.bool (stepT S p G).flashed)) X S p bs bn ba bl (stepT S p G)) := fun w7 b2 k ho hb2 => h.step d h0 k ho hb2 (step_len S p G) (by omega) (step_rngt S p G)
  have n0_ : ∀ w', Kept wr w' none → w'.cell? ⟨bn, 0, none⟩ = some (.slice ag S.groups.length cg) := fun w' q => (HBN.out.kept q).c0
  have n1_ : ∀ w', Kept wr w' none → w'.cell? ⟨bn, 1, none⟩ = some (.int .i64 G.start) := fun w' q => (HBN.out.kept q).c1
  have n2_ : ∀ w', Kept wr w' none → w'.cell? ⟨bn, 2, none⟩ = some (.bool G.flashed) := fun w' q => (HBN.out.kept q).c2
  have a0 := h.ask
  have s0_ : ∀ w', Kept wr w' none → w'.cell? ⟨bs, 0, none⟩ = some (.int .i64 S.id) := fun w' q => (HSB.out.kept q).c0
  have s1_ : ∀ w', Kept wr w' none → w'.cell? ⟨bs, 1, none⟩ = some (.slice X.g S.groups.length X.gc) := fun w' q => (HSB.out.kept q).c1
  have s2_ : ∀ w', Kept wr w' none → w'.cell? ⟨bs, 2, none⟩ = some (.slice X.a S.apart.length X.ac) := fun w' q => (HSB.out.kept q).c2
  have s3_ : ∀ w', Kept wr w' none → w'.cell? ⟨bs, 3, none⟩ = some (.slice X.b S.between.length X.bc) := fun w' q => (HSB.out.kept q).c3
  have s4_ : ∀ w', Kept wr w' none → w'.cell? ⟨bs, 4, none⟩ = some (.slice X.p S.phases.length X.pc) := fun w' q => (HSB.out.kept q).c4
  have s5_ : ∀ w', Kept wr w' none → w'.cell? ⟨bs, 5, none⟩ = some (.slice X.e S.eyes.length X.ec) := fun w' q => (HSB.out.kept q).c5
  have s6_ : ∀ w', Kept wr w' none → w'.cell? ⟨bs, 6, none⟩ = some (.int .i64 S.watch) := fun w' q => (HSB.out.kept q).c6
  have s7_ : ∀ w', Kept wr w' none → w'.cell? ⟨bs, 7, none⟩ = some (.int .i64 S.feed) := fun w' q => (HSB.out.kept q).c7
  have s8_ : ∀ w', Kept wr w' none → w'.cell? ⟨bs, 8, none⟩ = some (.int .i64 S.heal) := fun w' q => (HSB.out.kept q).c8
  have s9_ : ∀ w', Kept wr w' none → w'.cell? ⟨bs, 9, none⟩ = some (.int .i64 S.low) := fun w' q => (HSB.out.kept q).c9
  have s10_ : ∀ w', Kept wr w' none → w'.cell? ⟨bs, 10, none⟩ = some (.int .i64 S.high) := fun w' q => (HSB.out.kept q).c10
  have s11_ : ∀ w', Kept wr w' none → w'.cell? ⟨bs, 11, none⟩ = some (.slice X.l S.plans.length X.lc) := fun w' q => (HSB.out.kept q).c11
  have hK0 := Kept.refl wr none
  clear h d h0 hT hb hsf hne hz hlt hmy hfn
  generalize stepT S p G = G' at *
  go_enter Tryd.func28, Tryd.ntmps28
  go_wp2_with (first
    | (have hgo := HBY; clear hgo; go_at_call 11; refine (HNX.out _ _ hKL HBY.out).mono ?_; rintro e w7 ⟨b2, rfl, hb2, hog, hk7⟩; have hK7 : Kept wr w7 none := hKL.tr hk7; have z0 := (HBN.out.kept hK7).f0; have z1 := (HBN.out.kept hK7).f1; have z2 := (HBN.out.kept hK7).f2; have v0 := (HBN.out.kept hK7).c0; have v1 := (HBN.out.kept hK7).c1; have v2 := (HBN.out.kept hK7).c2)
    | (go_at_call 10; refine (HAD.out _ hK0).mono ?_; rintro e wL ⟨bL, rfl, hbyL, hkL⟩; have hKL : Kept wr wL none := hkL; have HBY := Hid.mk' hbyL; clear hbyL hkL))
  go_end0
  exact ⟨rfl, HST.out w7 b2 hK7 hog (Nat.le_trans hKL.size hb2)⟩

/-! ### Steps -/
def steE (S : St) (F : Sf) (p : Int) : Int := if goesE S F ≠ 0 then goesE S F else if phB S p = false then 2 else match stpO S F p.toNat with
  | some _ => 0
  | none => 4
def steV (S : St) (F : Sf) (p : Int) : Int := if goesE S F ≠ 0 then 0 else if phB S p = false then 0 else match stpO S F p.toNat with
  | some n => n
  | none => 0
theorem ste_go {S : St} {F : Sf} {p : Nat} (hz : goesE S F = 0) (hp : p < S.phases.length) {n : Nat} (h : stpO S F p = some n) : steE S F (p : Int) = 0 ∧ steV S F (p : Int) = n := by
  have hph : phB S (p : Int) = true := by unfold phB; simp; omega
  unfold steE steV
  rw [if_neg (by simp [hz]), if_neg (by rw [hph]; decide), if_neg (by simp [hz]), if_neg (by rw [hph]; decide), Int.toNat_natCast, h]
  exact ⟨rfl, rfl⟩
theorem ste_many {S : St} {F : Sf} {p : Nat} (hz : goesE S F = 0) (hp : p < S.phases.length) (h : stpO S F p = none) : steE S F (p : Int) = 4 ∧ steV S F (p : Int) = 0 := by
  have hph : phB S (p : Int) = true := by unfold phB; simp; omega
  unfold steE steV
  rw [if_neg (by simp [hz]), if_neg (by rw [hph]; decide), if_neg (by simp [hz]), if_neg (by rw [hph]; decide), Int.toNat_natCast, h]
  exact ⟨rfl, rfl⟩
theorem stpO_at {S : St} {F : Sf} {p k : Nat} (hk : k ≤ 4096) (h : ∀ j, j < k → fullB S (atT S p F j) p = false) (h1 : fullB S (atT S p F k) p = true) : stpO S F p = some k := firstN_some (by omega) (fun j hj => by rw [h j hj]; rfl) (by rw [h1]; decide)
theorem stpO_none {S : St} {F : Sf} {p : Nat} (h : ∀ j, j < 4097 → fullB S (atT S p F j) p = false) : stpO S F p = none := firstN_none (fun j hj => by rw [h j hj]; rfl)
set_option maxRecDepth 100000 in
set_option maxHeartbeats 2000000 in
theorem tstps_no {X : Sa} {S : St} {w : World} (h : Sat w X S) (hT : Tabb w) {a : Option Addr} {c : Nat} {F : Sf} (hF : SafeAt w a c F) (p : Int) (hz : goesE S F ≠ 0) : Calls Tryd.prog 12 #[siteV X S, safeV a c F, .int .i64 p] w fun e w' => e = .returned (.tuple #[.int .i64 0, .int .i64 (goesE S F)]) ∧ Kept w w' none := by
  have hzb : (goesE S F != 0) = true := by simpa using hz
  have k1 : Kept w (w.alloc (.cells #[.int .i64 S.id, .slice X.g S.groups.length X.gc, .slice X.a S.apart.length X.ac, .slice X.b S.between.length X.bc, .slice X.p S.phases.length X.pc, .slice X.e S.eyes.length X.ec, .int .i64 S.watch, .int .i64 S.feed, .int .i64 S.heal, .int .i64 S.low, .int .i64 S.high, .slice X.l S.plans.length X.lc] 33)) none := Kept.alloc _ _ _ _ _
  have k2 : Kept (w.alloc (.cells #[.int .i64 S.id, .slice X.g S.groups.length X.gc, .slice X.a S.apart.length X.ac, .slice X.b S.between.length X.bc, .slice X.p S.phases.length X.pc, .slice X.e S.eyes.length X.ec, .int .i64 S.watch, .int .i64 S.feed, .int .i64 S.heal, .int .i64 S.low, .int .i64 S.high, .slice X.l S.plans.length X.lc] 33)) ((w.alloc (.cells #[.int .i64 S.id, .slice X.g S.groups.length X.gc, .slice X.a S.apart.length X.ac, .slice X.b S.between.length X.bc, .slice X.p S.phases.length X.pc, .slice X.e S.eyes.length X.ec, .int .i64 S.watch, .int .i64 S.feed, .int .i64 S.heal, .int .i64 S.low, .int .i64 S.high, .slice X.l S.plans.length X.lc] 33)).alloc (.cells #[.slice a F.groups.length c, .int .i64 F.start, .bool F.flashed] 39)) none := Kept.alloc _ _ _ _ _
  have hsb := (sbox_alloc h 33).kept k2
  have bn := box_alloc (w.alloc (.cells #[.int .i64 S.id, .slice X.g S.groups.length X.gc, .slice X.a S.apart.length X.ac, .slice X.b S.between.length X.bc, .slice X.p S.phases.length X.pc, .slice X.e S.eyes.length X.ec, .int .i64 S.watch, .int .i64 S.feed, .int .i64 S.heal, .int .i64 S.low, .int .i64 S.high, .slice X.l S.plans.length X.lc] 33)) (.slice a F.groups.length c) (.int .i64 F.start) (.bool F.flashed) 39
  rw [World.size_alloc] at bn
  have hszA : ((w.alloc (.cells #[.int .i64 S.id, .slice X.g S.groups.length X.gc, .slice X.a S.apart.length X.ac, .slice X.b S.between.length X.bc, .slice X.p S.phases.length X.pc, .slice X.e S.eyes.length X.ec, .int .i64 S.watch, .int .i64 S.feed, .int .i64 S.heal, .int .i64 S.low, .int .i64 S.high, .slice X.l S.plans.length X.lc] 33)).alloc (.cells #[.slice a F.groups.length c, .int .i64 F.start, .bool F.flashed] 39)).heap.size = w.heap.size + 1 + 1 := by simp
  have hkA := k1.tr k2
  obtain ⟨WA, hWA⟩ : ∃ WA, ((w.alloc (.cells #[.int .i64 S.id, .slice X.g S.groups.length X.gc, .slice X.a S.apart.length X.ac, .slice X.b S.between.length X.bc, .slice X.p S.phases.length X.pc, .slice X.e S.eyes.length X.ec, .int .i64 S.watch, .int .i64 S.feed, .int .i64 S.heal, .int .i64 S.low, .int .i64 S.high, .slice X.l S.plans.length X.lc] 33)).alloc (.cells #[.slice a F.groups.length c, .int .i64 F.start, .bool F.flashed] 39)) = WA := ⟨_, rfl⟩
  rw [hWA] at hsb bn hkA hszA
  have HSB := Hid.mk' hsb
  have HBN := Hid.mk' bn
  have HSZ := Hid.mk' hszA
  have HK := Hid.mk' hkA
  have HS := Hid.mk' (h.kept hkA)
  have HT := Hid.mk' (hT.kept hkA)
  have HF := Hid.mk' (hF.kept hkA)
  have HOP := Hid.mk' (gopn_no HS.out HT.out HF.out 0 hz)
  have n0_ : ∀ w', Kept WA w' none → w'.cell? ⟨w.heap.size + 1, 0, none⟩ = some (.slice a F.groups.length c) := fun w' q => (HBN.out.kept q).c0
  have n1_ : ∀ w', Kept WA w' none → w'.cell? ⟨w.heap.size + 1, 1, none⟩ = some (.int .i64 F.start) := fun w' q => (HBN.out.kept q).c1
  have n2_ : ∀ w', Kept WA w' none → w'.cell? ⟨w.heap.size + 1, 2, none⟩ = some (.bool F.flashed) := fun w' q => (HBN.out.kept q).c2
  have s0_ : ∀ w', Kept WA w' none → w'.cell? ⟨w.heap.size, 0, none⟩ = some (.int .i64 S.id) := fun w' q => (HSB.out.kept q).c0
  have s1_ : ∀ w', Kept WA w' none → w'.cell? ⟨w.heap.size, 1, none⟩ = some (.slice X.g S.groups.length X.gc) := fun w' q => (HSB.out.kept q).c1
  have s2_ : ∀ w', Kept WA w' none → w'.cell? ⟨w.heap.size, 2, none⟩ = some (.slice X.a S.apart.length X.ac) := fun w' q => (HSB.out.kept q).c2
  have s3_ : ∀ w', Kept WA w' none → w'.cell? ⟨w.heap.size, 3, none⟩ = some (.slice X.b S.between.length X.bc) := fun w' q => (HSB.out.kept q).c3
  have s4_ : ∀ w', Kept WA w' none → w'.cell? ⟨w.heap.size, 4, none⟩ = some (.slice X.p S.phases.length X.pc) := fun w' q => (HSB.out.kept q).c4
  have s5_ : ∀ w', Kept WA w' none → w'.cell? ⟨w.heap.size, 5, none⟩ = some (.slice X.e S.eyes.length X.ec) := fun w' q => (HSB.out.kept q).c5
  have s6_ : ∀ w', Kept WA w' none → w'.cell? ⟨w.heap.size, 6, none⟩ = some (.int .i64 S.watch) := fun w' q => (HSB.out.kept q).c6
  have s7_ : ∀ w', Kept WA w' none → w'.cell? ⟨w.heap.size, 7, none⟩ = some (.int .i64 S.feed) := fun w' q => (HSB.out.kept q).c7
  have s8_ : ∀ w', Kept WA w' none → w'.cell? ⟨w.heap.size, 8, none⟩ = some (.int .i64 S.heal) := fun w' q => (HSB.out.kept q).c8
  have s9_ : ∀ w', Kept WA w' none → w'.cell? ⟨w.heap.size, 9, none⟩ = some (.int .i64 S.low) := fun w' q => (HSB.out.kept q).c9
  have s10_ : ∀ w', Kept WA w' none → w'.cell? ⟨w.heap.size, 10, none⟩ = some (.int .i64 S.high) := fun w' q => (HSB.out.kept q).c10
  have s11_ : ∀ w', Kept WA w' none → w'.cell? ⟨w.heap.size, 11, none⟩ = some (.slice X.l S.plans.length X.lc) := fun w' q => (HSB.out.kept q).c11
  have hK0 := Kept.refl WA none
  clear h hT hF k1 k2 hsb bn hkA hszA
  generalize goesE S F = z at *
  go_enter Tryd.func12, Tryd.ntmps12
  go_wp2_with (first | rw [hWA] | (go_at_call 27; refine HOP.out.mono ?_; rintro e wC ⟨rfl, hkC⟩; have hKC : Kept WA wC none := hkC))
  go_ret2
  exact ⟨rfl, HK.out.tr hkC⟩
set_option maxRecDepth 100000 in
set_option maxHeartbeats 2000000 in
theorem tstps_arg {X : Sa} {S : St} {w : World} (h : Sat w X S) (hT : Tabb w) {a : Option Addr} {c : Nat} {F : Sf} (hF : SafeAt w a c F) (p : Int) (hz : goesE S F = 0) (hph : phB S p = false) : Calls Tryd.prog 12 #[siteV X S, safeV a c F, .int .i64 p] w fun e w' => e = .returned (.tuple #[.int .i64 0, .int .i64 2]) ∧ Kept w w' none := by
  have hs := (goesE_ok hz).1
  have hg0 : 0 < S.groups.length := by have := (span_may hs).base.sh.ok.ng; omega
  have k1 : Kept w (w.alloc (.cells #[.int .i64 S.id, .slice X.g S.groups.length X.gc, .slice X.a S.apart.length X.ac, .slice X.b S.between.length X.bc, .slice X.p S.phases.length X.pc, .slice X.e S.eyes.length X.ec, .int .i64 S.watch, .int .i64 S.feed, .int .i64 S.heal, .int .i64 S.low, .int .i64 S.high, .slice X.l S.plans.length X.lc] 33)) none := Kept.alloc _ _ _ _ _
  have k2 : Kept (w.alloc (.cells #[.int .i64 S.id, .slice X.g S.groups.length X.gc, .slice X.a S.apart.length X.ac, .slice X.b S.between.length X.bc, .slice X.p S.phases.length X.pc, .slice X.e S.eyes.length X.ec, .int .i64 S.watch, .int .i64 S.feed, .int .i64 S.heal, .int .i64 S.low, .int .i64 S.high, .slice X.l S.plans.length X.lc] 33)) ((w.alloc (.cells #[.int .i64 S.id, .slice X.g S.groups.length X.gc, .slice X.a S.apart.length X.ac, .slice X.b S.between.length X.bc, .slice X.p S.phases.length X.pc, .slice X.e S.eyes.length X.ec, .int .i64 S.watch, .int .i64 S.feed, .int .i64 S.heal, .int .i64 S.low, .int .i64 S.high, .slice X.l S.plans.length X.lc] 33)).alloc (.cells #[.slice a F.groups.length c, .int .i64 F.start, .bool F.flashed] 39)) none := Kept.alloc _ _ _ _ _
  have hsb := (sbox_alloc h 33).kept k2
  have bn := box_alloc (w.alloc (.cells #[.int .i64 S.id, .slice X.g S.groups.length X.gc, .slice X.a S.apart.length X.ac, .slice X.b S.between.length X.bc, .slice X.p S.phases.length X.pc, .slice X.e S.eyes.length X.ec, .int .i64 S.watch, .int .i64 S.feed, .int .i64 S.heal, .int .i64 S.low, .int .i64 S.high, .slice X.l S.plans.length X.lc] 33)) (.slice a F.groups.length c) (.int .i64 F.start) (.bool F.flashed) 39
  rw [World.size_alloc] at bn
  have hszA : ((w.alloc (.cells #[.int .i64 S.id, .slice X.g S.groups.length X.gc, .slice X.a S.apart.length X.ac, .slice X.b S.between.length X.bc, .slice X.p S.phases.length X.pc, .slice X.e S.eyes.length X.ec, .int .i64 S.watch, .int .i64 S.feed, .int .i64 S.heal, .int .i64 S.low, .int .i64 S.high, .slice X.l S.plans.length X.lc] 33)).alloc (.cells #[.slice a F.groups.length c, .int .i64 F.start, .bool F.flashed] 39)).heap.size = w.heap.size + 1 + 1 := by simp
  have hkA := k1.tr k2
  obtain ⟨WA, hWA⟩ : ∃ WA, ((w.alloc (.cells #[.int .i64 S.id, .slice X.g S.groups.length X.gc, .slice X.a S.apart.length X.ac, .slice X.b S.between.length X.bc, .slice X.p S.phases.length X.pc, .slice X.e S.eyes.length X.ec, .int .i64 S.watch, .int .i64 S.feed, .int .i64 S.heal, .int .i64 S.low, .int .i64 S.high, .slice X.l S.plans.length X.lc] 33)).alloc (.cells #[.slice a F.groups.length c, .int .i64 F.start, .bool F.flashed] 39)) = WA := ⟨_, rfl⟩
  rw [hWA] at hsb bn hkA hszA
  have HSB := Hid.mk' hsb
  have HBN := Hid.mk' bn
  have HSZ := Hid.mk' hszA
  have HK := Hid.mk' hkA
  have HS := Hid.mk' (h.kept hkA)
  have HT := Hid.mk' (hT.kept hkA)
  have HF := Hid.mk' (hF.kept hkA)
  have HOP : Hid (Calls Tryd.prog 27 #[siteV X S, safeV a c F, .int .i64 0] WA fun e w' => e = .returned (.tuple #[.bool (letF S F (oneL S.groups.length 0) 0 == 2), .int .i64 0]) ∧ Kept WA w' none) := gopn_go HS.out HT.out HF.out 0 hz hg0
  have n0_ : ∀ w', Kept WA w' none → w'.cell? ⟨w.heap.size + 1, 0, none⟩ = some (.slice a F.groups.length c) := fun w' q => (HBN.out.kept q).c0
  have n1_ : ∀ w', Kept WA w' none → w'.cell? ⟨w.heap.size + 1, 1, none⟩ = some (.int .i64 F.start) := fun w' q => (HBN.out.kept q).c1
  have n2_ : ∀ w', Kept WA w' none → w'.cell? ⟨w.heap.size + 1, 2, none⟩ = some (.bool F.flashed) := fun w' q => (HBN.out.kept q).c2
  have s0_ : ∀ w', Kept WA w' none → w'.cell? ⟨w.heap.size, 0, none⟩ = some (.int .i64 S.id) := fun w' q => (HSB.out.kept q).c0
  have s1_ : ∀ w', Kept WA w' none → w'.cell? ⟨w.heap.size, 1, none⟩ = some (.slice X.g S.groups.length X.gc) := fun w' q => (HSB.out.kept q).c1
  have s2_ : ∀ w', Kept WA w' none → w'.cell? ⟨w.heap.size, 2, none⟩ = some (.slice X.a S.apart.length X.ac) := fun w' q => (HSB.out.kept q).c2
  have s3_ : ∀ w', Kept WA w' none → w'.cell? ⟨w.heap.size, 3, none⟩ = some (.slice X.b S.between.length X.bc) := fun w' q => (HSB.out.kept q).c3
  have s4_ : ∀ w', Kept WA w' none → w'.cell? ⟨w.heap.size, 4, none⟩ = some (.slice X.p S.phases.length X.pc) := fun w' q => (HSB.out.kept q).c4
  have s5_ : ∀ w', Kept WA w' none → w'.cell? ⟨w.heap.size, 5, none⟩ = some (.slice X.e S.eyes.length X.ec) := fun w' q => (HSB.out.kept q).c5
  have s6_ : ∀ w', Kept WA w' none → w'.cell? ⟨w.heap.size, 6, none⟩ = some (.int .i64 S.watch) := fun w' q => (HSB.out.kept q).c6
  have s7_ : ∀ w', Kept WA w' none → w'.cell? ⟨w.heap.size, 7, none⟩ = some (.int .i64 S.feed) := fun w' q => (HSB.out.kept q).c7
  have s8_ : ∀ w', Kept WA w' none → w'.cell? ⟨w.heap.size, 8, none⟩ = some (.int .i64 S.heal) := fun w' q => (HSB.out.kept q).c8
  have s9_ : ∀ w', Kept WA w' none → w'.cell? ⟨w.heap.size, 9, none⟩ = some (.int .i64 S.low) := fun w' q => (HSB.out.kept q).c9
  have s10_ : ∀ w', Kept WA w' none → w'.cell? ⟨w.heap.size, 10, none⟩ = some (.int .i64 S.high) := fun w' q => (HSB.out.kept q).c10
  have s11_ : ∀ w', Kept WA w' none → w'.cell? ⟨w.heap.size, 11, none⟩ = some (.slice X.l S.plans.length X.lc) := fun w' q => (HSB.out.kept q).c11
  have hK0 := Kept.refl WA none
  clear h hT hF k1 k2 hsb bn hkA hszA
  generalize (letF S F (oneL S.groups.length 0) 0 == 2) = ob at *
  go_enter Tryd.func12, Tryd.ntmps12
  go_wp2_with (first | rw [hWA] | (have hgo := hKC; clear hgo; go_at_call 19; have hx := tisp_any (HSB.out.kept hKC) p; rw [hph] at hx; refine hx.mono ?_; rintro e wI ⟨rfl, hwI⟩; have hwI := hwI.symm; subst hwI; clear hx) | (go_at_call 27; refine HOP.out.mono ?_; rintro e wC ⟨rfl, hkC⟩; have hKC : Kept WA wC none := hkC))
  go_ret2
  exact ⟨rfl, HK.out.tr hkC⟩
set_option maxRecDepth 100000 in
set_option maxHeartbeats 4000000 in
theorem tstps_go {X : Sa} {S : St} {w : World} (h : Sat w X S) (hT : Tabb w) {a : Option Addr} {c : Nat} {F : Sf} (hF : SafeAt w a c F) (p : Nat) (hz : goesE S F = 0) (hp : p < S.phases.length) : Calls Tryd.prog 12 #[siteV X S, safeV a c F, .int .i64 (p : Int)] w fun e w' => e = .returned (.tuple #[.int .i64 (steV S F (p : Int)), .int .i64 (steE S F (p : Int))]) ∧ Kept w w' none := by
  obtain ⟨hs, hg⟩ := goesE_ok hz
  have hng : S.groups.length ≤ 32 := by have := (span_may hs).base.sh.ok.ng; omega
  have hg0 : 0 < S.groups.length := by have := (span_may hs).base.sh.ok.ng; omega
  have hph : phB S (p : Int) = true := by unfold phB; simp; omega
  have hfn := (mayS_parts (goes_parts hg).1).1
  have HFN := Hid.mk' hfn
  have HGO := Hid.mk' (fun k => goes_at (p := p) hs hg k)
  have HFL : Hid (∀ k, (atT S p F k).groups.length = S.groups.length) := fun k => (mayS_parts (goes_parts (HGO.out k)).1).1
  have HY : Hid (∀ k, k ≤ 4096 → (∀ j, j < k → fullB S (atT S p F j) p = false) → fullB S (atT S p F k) p = true → steE S F (p : Int) = 0 ∧ steV S F (p : Int) = k) := fun k hk hj h1 => ste_go hz hp (stpO_at hk hj h1)
  have HN : Hid ((∀ j, j < 4097 → fullB S (atT S p F j) p = false) → steE S F (p : Int) = 4 ∧ steV S F (p : Int) = 0) := fun h => ste_many hz hp (stpO_none h)
  have HOLD : Hid (∀ b, a = some b → 0 < F.groups.length → b.block < w.heap.size) := fun b e hpos => by
    obtain ⟨bf, off, ea, hbf, _⟩ := hF.lie.at_ hpos
    rw [ea] at e
    injection e with e
    subst e
    exact hbf
  have HSAT := Hid.mk' h
  have HTAB := Hid.mk' hT
  have k1 : Kept w (w.alloc (.cells #[.int .i64 S.id, .slice X.g S.groups.length X.gc, .slice X.a S.apart.length X.ac, .slice X.b S.between.length X.bc, .slice X.p S.phases.length X.pc, .slice X.e S.eyes.length X.ec, .int .i64 S.watch, .int .i64 S.feed, .int .i64 S.heal, .int .i64 S.low, .int .i64 S.high, .slice X.l S.plans.length X.lc] 33)) none := Kept.alloc _ _ _ _ _
  have k2 : Kept (w.alloc (.cells #[.int .i64 S.id, .slice X.g S.groups.length X.gc, .slice X.a S.apart.length X.ac, .slice X.b S.between.length X.bc, .slice X.p S.phases.length X.pc, .slice X.e S.eyes.length X.ec, .int .i64 S.watch, .int .i64 S.feed, .int .i64 S.heal, .int .i64 S.low, .int .i64 S.high, .slice X.l S.plans.length X.lc] 33)) ((w.alloc (.cells #[.int .i64 S.id, .slice X.g S.groups.length X.gc, .slice X.a S.apart.length X.ac, .slice X.b S.between.length X.bc, .slice X.p S.phases.length X.pc, .slice X.e S.eyes.length X.ec, .int .i64 S.watch, .int .i64 S.feed, .int .i64 S.heal, .int .i64 S.low, .int .i64 S.high, .slice X.l S.plans.length X.lc] 33)).alloc (.cells #[.slice a F.groups.length c, .int .i64 F.start, .bool F.flashed] 39)) none := Kept.alloc _ _ _ _ _
  have hsb := (sbox_alloc h 33).kept k2
  have bn := box_alloc (w.alloc (.cells #[.int .i64 S.id, .slice X.g S.groups.length X.gc, .slice X.a S.apart.length X.ac, .slice X.b S.between.length X.bc, .slice X.p S.phases.length X.pc, .slice X.e S.eyes.length X.ec, .int .i64 S.watch, .int .i64 S.feed, .int .i64 S.heal, .int .i64 S.low, .int .i64 S.high, .slice X.l S.plans.length X.lc] 33)) (.slice a F.groups.length c) (.int .i64 F.start) (.bool F.flashed) 39
  rw [World.size_alloc] at bn
  have hszA : ((w.alloc (.cells #[.int .i64 S.id, .slice X.g S.groups.length X.gc, .slice X.a S.apart.length X.ac, .slice X.b S.between.length X.bc, .slice X.p S.phases.length X.pc, .slice X.e S.eyes.length X.ec, .int .i64 S.watch, .int .i64 S.feed, .int .i64 S.heal, .int .i64 S.low, .int .i64 S.high, .slice X.l S.plans.length X.lc] 33)).alloc (.cells #[.slice a F.groups.length c, .int .i64 F.start, .bool F.flashed] 39)).heap.size = w.heap.size + 1 + 1 := by simp
  have hkA := k1.tr k2
  obtain ⟨WA, hWA⟩ : ∃ WA, ((w.alloc (.cells #[.int .i64 S.id, .slice X.g S.groups.length X.gc, .slice X.a S.apart.length X.ac, .slice X.b S.between.length X.bc, .slice X.p S.phases.length X.pc, .slice X.e S.eyes.length X.ec, .int .i64 S.watch, .int .i64 S.feed, .int .i64 S.heal, .int .i64 S.low, .int .i64 S.high, .slice X.l S.plans.length X.lc] 33)).alloc (.cells #[.slice a F.groups.length c, .int .i64 F.start, .bool F.flashed] 39)) = WA := ⟨_, rfl⟩
  rw [hWA] at hsb bn hkA hszA
  have HSB := Hid.mk' hsb
  have HBN := Hid.mk' bn
  have HSZ := Hid.mk' hszA
  have HK := Hid.mk' hkA
  have HS := Hid.mk' (h.kept hkA)
  have HT := Hid.mk' (hT.kept hkA)
  have HF := Hid.mk' (hF.kept hkA)
  have HOP : Hid (Calls Tryd.prog 27 #[siteV X S, safeV a c F, .int .i64 0] WA fun e w' => e = .returned (.tuple #[.bool (letF S F (oneL S.groups.length 0) 0 == 2), .int .i64 0]) ∧ Kept WA w' none) := gopn_go HS.out HT.out HF.out 0 hz hg0
  have n0_ : ∀ w', Kept WA w' none → w'.cell? ⟨w.heap.size + 1, 0, none⟩ = some (.slice a F.groups.length c) := fun w' q => (HBN.out.kept q).c0
  have n1_ : ∀ w', Kept WA w' none → w'.cell? ⟨w.heap.size + 1, 1, none⟩ = some (.int .i64 F.start) := fun w' q => (HBN.out.kept q).c1
  have n2_ : ∀ w', Kept WA w' none → w'.cell? ⟨w.heap.size + 1, 2, none⟩ = some (.bool F.flashed) := fun w' q => (HBN.out.kept q).c2
  have s0_ : ∀ w', Kept WA w' none → w'.cell? ⟨w.heap.size, 0, none⟩ = some (.int .i64 S.id) := fun w' q => (HSB.out.kept q).c0
  have s1_ : ∀ w', Kept WA w' none → w'.cell? ⟨w.heap.size, 1, none⟩ = some (.slice X.g S.groups.length X.gc) := fun w' q => (HSB.out.kept q).c1
  have s2_ : ∀ w', Kept WA w' none → w'.cell? ⟨w.heap.size, 2, none⟩ = some (.slice X.a S.apart.length X.ac) := fun w' q => (HSB.out.kept q).c2
  have s3_ : ∀ w', Kept WA w' none → w'.cell? ⟨w.heap.size, 3, none⟩ = some (.slice X.b S.between.length X.bc) := fun w' q => (HSB.out.kept q).c3
  have s4_ : ∀ w', Kept WA w' none → w'.cell? ⟨w.heap.size, 4, none⟩ = some (.slice X.p S.phases.length X.pc) := fun w' q => (HSB.out.kept q).c4
  have s5_ : ∀ w', Kept WA w' none → w'.cell? ⟨w.heap.size, 5, none⟩ = some (.slice X.e S.eyes.length X.ec) := fun w' q => (HSB.out.kept q).c5
  have s6_ : ∀ w', Kept WA w' none → w'.cell? ⟨w.heap.size, 6, none⟩ = some (.int .i64 S.watch) := fun w' q => (HSB.out.kept q).c6
  have s7_ : ∀ w', Kept WA w' none → w'.cell? ⟨w.heap.size, 7, none⟩ = some (.int .i64 S.feed) := fun w' q => (HSB.out.kept q).c7
  have s8_ : ∀ w', Kept WA w' none → w'.cell? ⟨w.heap.size, 8, none⟩ = some (.int .i64 S.heal) := fun w' q => (HSB.out.kept q).c8
  have s9_ : ∀ w', Kept WA w' none → w'.cell? ⟨w.heap.size, 9, none⟩ = some (.int .i64 S.low) := fun w' q => (HSB.out.kept q).c9
  have s10_ : ∀ w', Kept WA w' none → w'.cell? ⟨w.heap.size, 10, none⟩ = some (.int .i64 S.high) := fun w' q => (HSB.out.kept q).c10
  have s11_ : ∀ w', Kept WA w' none → w'.cell? ⟨w.heap.size, 11, none⟩ = some (.slice X.l S.plans.length X.lc) := fun w' q => (HSB.out.kept q).c11
  have hK0 := Kept.refl WA none
  clear h hT hF k1 k2 hsb bn hkA hszA
  generalize (letF S F (oneL S.groups.length 0) 0 == 2) = ob at *
  clear hfn hg hz
  go_enter Tryd.func12, Tryd.ntmps12
  go_wp2_with (first | rw [hWA] | (have hgo := hKI; clear hgo; go_at_call 20; refine (task_any (HSB.out.kept hKI) hng hp).mono ?_; rintro e wT ⟨rfl, hrT, hkT⟩) | (have hgo := hKC; clear hgo; go_at_call 19; have hx := tisp_any (HSB.out.kept hKC) (p : Int); rw [hph] at hx; refine hx.mono ?_; rintro e wI ⟨rfl, hwI⟩; have hwI := hwI.symm; subst hwI; have hKI := hKC; clear hx) | (go_at_call 27; refine HOP.out.mono ?_; rintro e wC ⟨rfl, hkC⟩; have hKC : Kept WA wC none := hkC))
  have kL : Kept wT (wT.alloc (.cells #[.slice (some ⟨wC.heap.size, 0, none⟩) S.groups.length S.groups.length] 22)) none := Kept.alloc _ _ _ _ _
  have pL : (wT.alloc (.cells #[.slice (some ⟨wC.heap.size, 0, none⟩) S.groups.length S.groups.length] 22)).cell? ⟨wT.heap.size, 0, none⟩ = some (.slice (some ⟨wC.heap.size, 0, none⟩) S.groups.length S.groups.length) := alloc_at9 _ _ _ rfl rfl
  have hsz1 := hKC.size
  have hsz2 := hkT.size
  obtain ⟨W0, hW0⟩ : ∃ W0, wT.alloc (.cells #[.slice (some ⟨wC.heap.size, 0, none⟩) S.groups.length S.groups.length] 22) = W0 := ⟨_, rfl⟩
  rw [hW0] at kL pL ⊢
  have HD : Hid (Td w w.heap.size (w.heap.size + 1) wT.heap.size wC.heap.size) := ⟨by omega, by have := HSZ.out; omega, by have := HSZ.out; omega, by omega⟩
  have KA := Hid.mk' ((hKC.tr hkT).tr kL)
  have HT0 : Hid (Tn w W0 X S p w.heap.size (w.heap.size + 1) wT.heap.size wC.heap.size (atT S p F 0)) := by
    refine ⟨HK.out.tr KA.out, HSB.out.kept KA.out, ⟨a, c, ?_, HF.out.kept KA.out, fun b e => ?_⟩, pL, row_kept hrT kL (by simp)⟩
    · rw [← HFN.out]; exact HBN.out.kept KA.out
    · have := HOLD.out b e (by have := HFN.out; omega)
      omega
  clear kL pL hrT hkT hKC hKI hW0 hsz1 hsz2 s0_ s1_ s2_ s3_ s4_ s5_ s6_ s7_ s8_ s9_ s10_ s11_ n0_ n1_ n2_ hkC
  go_loopw [12, 28] (fun _ i wr => ∃ k : Nat, k ≤ 4097 ∧ i = .int .i64 k ∧ Tn w wr X S p w.heap.size (w.heap.size + 1) wT.heap.size wC.heap.size (atT S p F k) ∧ ∀ j, j < k → fullB S (atT S p F j) p = false) (fun _ i _ => 4097 - (intOf i).toNat)
  case atStart => exact ⟨0, by omega, rfl, HT0.out, fun j hj => by omega⟩
  case round =>
    obtain ⟨k, hk, rfl, htn, hno⟩ := hrel
    have HTN := Hid.mk' htn
    have HNO := Hid.mk' hno
    clear hno
    by_cases hlt : k < 4097
    · obtain ⟨ag, cg, hb, hsf, hne⟩ := htn.bx
      have n0 := hb.c0
      have n1 := hb.c1
      have n2 := hb.c2
      have HFU := Hid.mk' (tful_any htn.sb hng hp hsf (HFL.out k))
      have HSTP : Hid (∀ w', Kept wr w' none → Calls Tryd.prog 28 #[.pointer (some ⟨w.heap.size, 0, none⟩), .pointer (some ⟨w.heap.size + 1, 0, none⟩), .pointer (some ⟨wT.heap.size, 0, none⟩)] w' fun e w2 => e = .returned (.tuple #[]) ∧ Tn w w2 X S p w.heap.size (w.heap.size + 1) wT.heap.size wC.heap.size (atT S p F (k + 1))) := fun w' q => tstp_any (htn.kept q) HD.out HSAT.out HTAB.out hs (HGO.out k)
      have HEX : Hid (fullB S (atT S p F k) p = false → ∀ j, j < k + 1 → fullB S (atT S p F j) p = false) := fun e => ext_no HNO.out e
      have HYK : Hid (fullB S (atT S p F k) p = true → steE S F (p : Int) = 0 ∧ steV S F (p : Int) = k) := HY.out k (by omega) HNO.out
      have KPW := Hid.mk' htn.kp
      clear htn hb hsf hne
      generalize fullB S (atT S p F k) p = z at *
      generalize atT S p F k = G at *
      cases z with
      | true =>
        obtain ⟨e1, e2⟩ := HYK.out rfl
        have E1 := Hid.mk' e1
        have E2 := Hid.mk' e2
        clear e1 e2 HYK HEX
        go_wp2_with (go_at_call 29; refine HFU.out.mono ?_; rintro e wU ⟨rfl, hkU⟩)
        go_ret2
        exact ⟨by rw [E1.out, E2.out]; rfl, KPW.out.tr hkU⟩
      | false =>
        have HE := Hid.mk' (HEX.out rfl)
        clear HYK HEX
        go_wp2_with (first
          | (have hgo := hkU; clear hgo; go_at_call 28; refine (HSTP.out _ hkU).mono ?_; rintro e wV ⟨rfl, htV⟩)
          | (go_at_call 29; refine HFU.out.mono ?_; rintro e wU ⟨rfl, hkU⟩))
        go_roundw
        case rel => exact ⟨k + 1, by omega, by go_num, htV, HE.out⟩
        case measure => simp [intOf]; omega
    · have e : k = 4097 := by omega
      subst e
      obtain ⟨e1, e2⟩ := HN.out HNO.out
      have E1 := Hid.mk' e1
      have E2 := Hid.mk' e2
      have KPW := Hid.mk' htn.kp
      clear e1 e2 htn
      go_wp2
      go_ret2
      exact ⟨by rw [E1.out, E2.out]; rfl, KPW.out⟩
theorem tstps_any {X : Sa} {S : St} {w : World} (h : Sat w X S) (hT : Tabb w) {a : Option Addr} {c : Nat} {F : Sf} (hF : SafeAt w a c F) (p : Int) : Calls Tryd.prog 12 #[siteV X S, safeV a c F, .int .i64 p] w fun e w' => e = .returned (.tuple #[.int .i64 (steV S F p), .int .i64 (steE S F p)]) ∧ Kept w w' none := by
  by_cases hz : goesE S F = 0
  · cases hph : phB S p with
    | false =>
      have e1 : steE S F p = 2 := by unfold steE; rw [if_neg (by simp [hz]), if_pos hph]
      have e2 : steV S F p = 0 := by unfold steV; rw [if_neg (by simp [hz]), if_pos hph]
      rw [e1, e2]
      exact tstps_arg h hT hF p hz hph
    | true =>
      obtain ⟨q, rfl, hq⟩ := phB_yes hph
      exact tstps_go h hT hF q hz hq
  · have e1 : steE S F p = goesE S F := by unfold steE; rw [if_pos hz]
    have e2 : steV S F p = 0 := by unfold steV; rw [if_pos hz]
    rw [e1, e2]
    exact tstps_no h hT hF p hz

end Go.Proofs.YtchjbagipbmcoaaDoor

/-
  THE CONTRACT of three, of the statements (made by a program).
-/
namespace Go.Proofs.YtchjbagipbmcoaaDoor
open Go.RowKit Go.Lib Go.Deep
set_option linter.unusedVariables false
set_option linter.unusedSimpArgs false

/-- The chapter's site. -/
def S15 : St := ⟨1, [⟨1, 2, 1⟩, ⟨1, 2, 1⟩, ⟨2, 3, 2⟩], [6, 1, 1], [[0, 2, 3], [2, 0, 0], [4, 0, 0]], [⟨1, 2, 9, 1, false⟩, ⟨6, 3, 9, 1, false⟩], [], 9, 2, 3, 30, 60, []⟩
theorem s15_may : siteB S15 = true := by decide +kernel
theorem cap8 {a : Addr} {n : Nat} (h : n ≤ 1000) : Cap (some a) n n := ⟨fun e => (nomatch e), Nat.le_refl _, by omega⟩
theorem lie_of8 {w : World} {g n K : Nat} {F : Nat → Nat → Value} (hb : g < w.heap.size) (h : ∀ i, i < n → ∀ j, j < K → w.cell? ⟨g, i * K + j, none⟩ = some (F i j)) : Lie w (some ⟨g, 0, none⟩) n K F :=
  ⟨fun _ => ⟨g, 0, rfl, hb, fun i hi j hj => by rw [Nat.zero_add]; exact h i hi j hj⟩⟩
theorem two_cases {P : Nat → Prop} (h0 : P 0) (h1 : P 1) : ∀ i, i < 2 → P i := fun i hi => by
  have : i = 0 ∨ i = 1 := by omega
  rcases this with rfl | rfl
  · exact h0
  · exact h1
theorem three_cases {P : Nat → Prop} (h0 : P 0) (h1 : P 1) (h2 : P 2) : ∀ i, i < 3 → P i := fun i hi => by
  have : i = 0 ∨ i = 1 ∨ i = 2 := by omega
  rcases this with rfl | rfl | rfl
  · exact h0
  · exact h1
  · exact h2
set_option maxRecDepth 100000 in
set_option maxHeartbeats 1000000 in
theorem three_any {w : World} : Calls Tryd.prog 7 #[] w fun e w' => ∃ X, e = .returned (siteV X S15) ∧ Sat w' X S15 ∧ Kept w w' none := by
  go_enter Tryd.func7, Tryd.ntmps7
  have hW : ∃ W, W = ((((((((((w.alloc (.cells #[.int .i64 1, .slice (some ⟨w.heap.size + 1 + 1 + 1, 0, none⟩) 3 3, .slice (some ⟨w.heap.size + 1 + 1 + 1 + 1, 0, none⟩) 3 3, .slice (some ⟨w.heap.size + 1 + 1 + 1 + 1 + 1 + 1 + 1 + 1, 0, none⟩) 3 3, .slice (some ⟨w.heap.size + 1 + 1 + 1 + 1 + 1 + 1 + 1 + 1 + 1, 0, none⟩) 2 2, .slice none 0 0, .int .i64 9, .int .i64 2, .int .i64 3, .int .i64 30, .int .i64 60, .slice none 0 0] 33)).alloc (.cells #[.int .u8 1, .int .i64 2, .int .i64 1] 58)).alloc (.cells #[.int .u8 2, .int .i64 3, .int .i64 2] 58)).alloc (.cells #[.int .u8 1, .int .i64 2, .int .i64 1, .int .u8 1, .int .i64 2, .int .i64 1, .int .u8 2, .int .i64 3, .int .i64 2] 58)).alloc (.cells #[.int .u32 6, .int .u32 1, .int .u32 1] 59)).alloc (.cells #[.int .i64 0, .int .i64 2, .int .i64 3] 3)).alloc (.cells #[.int .i64 2, .int .i64 0, .int .i64 0] 3)).alloc (.cells #[.int .i64 4, .int .i64 0, .int .i64 0] 3)).alloc (.cells #[.slice (some ⟨w.heap.size + 1 + 1 + 1 + 1 + 1, 0, none⟩) 3 3, .slice (some ⟨w.heap.size + 1 + 1 + 1 + 1 + 1 + 1, 0, none⟩) 3 3, .slice (some ⟨w.heap.size + 1 + 1 + 1 + 1 + 1 + 1 + 1, 0, none⟩) 3 3] 60)).alloc (.cells #[.int .u32 1, .int .i64 2, .int .i64 9, .int .i64 1, .bool false, .int .u32 6, .int .i64 3, .int .i64 9, .int .i64 1, .bool false] 62)) := ⟨_, rfl⟩
  obtain ⟨W, hW⟩ := hW
  have hk : Kept w W none := by
    rw [hW]
    exact ((((((((((Kept.alloc w _ _ (0, 0) _).tr (Kept.alloc _ _ _ (0, 0) _)).tr (Kept.alloc _ _ _ (0, 0) _)).tr (Kept.alloc _ _ _ (0, 0) _)).tr (Kept.alloc _ _ _ (0, 0) _)).tr (Kept.alloc _ _ _ (0, 0) _)).tr (Kept.alloc _ _ _ (0, 0) _)).tr (Kept.alloc _ _ _ (0, 0) _)).tr (Kept.alloc _ _ _ (0, 0) _)).tr (Kept.alloc _ _ _ (0, 0) _))
  have hs : W.heap.size = w.heap.size + 10 := by rw [hW]; simp
  have c0x0 : W.cell? ⟨w.heap.size, 0, none⟩ = some (.int .i64 1) := by rw [hW]; go_simp
  have c0x1 : W.cell? ⟨w.heap.size, 1, none⟩ = some (.slice (some ⟨w.heap.size + 1 + 1 + 1, 0, none⟩) 3 3) := by rw [hW]; go_simp
  have c0x2 : W.cell? ⟨w.heap.size, 2, none⟩ = some (.slice (some ⟨w.heap.size + 1 + 1 + 1 + 1, 0, none⟩) 3 3) := by rw [hW]; go_simp
  have c0x3 : W.cell? ⟨w.heap.size, 3, none⟩ = some (.slice (some ⟨w.heap.size + 1 + 1 + 1 + 1 + 1 + 1 + 1 + 1, 0, none⟩) 3 3) := by rw [hW]; go_simp
  have c0x4 : W.cell? ⟨w.heap.size, 4, none⟩ = some (.slice (some ⟨w.heap.size + 1 + 1 + 1 + 1 + 1 + 1 + 1 + 1 + 1, 0, none⟩) 2 2) := by rw [hW]; go_simp
  have c0x5 : W.cell? ⟨w.heap.size, 5, none⟩ = some (.slice none 0 0) := by rw [hW]; go_simp
  have c0x6 : W.cell? ⟨w.heap.size, 6, none⟩ = some (.int .i64 9) := by rw [hW]; go_simp
  have c0x7 : W.cell? ⟨w.heap.size, 7, none⟩ = some (.int .i64 2) := by rw [hW]; go_simp
  have c0x8 : W.cell? ⟨w.heap.size, 8, none⟩ = some (.int .i64 3) := by rw [hW]; go_simp
  have c0x9 : W.cell? ⟨w.heap.size, 9, none⟩ = some (.int .i64 30) := by rw [hW]; go_simp
  have c0x10 : W.cell? ⟨w.heap.size, 10, none⟩ = some (.int .i64 60) := by rw [hW]; go_simp
  have c0x11 : W.cell? ⟨w.heap.size, 11, none⟩ = some (.slice none 0 0) := by rw [hW]; go_simp
  have c3x0 : W.cell? ⟨w.heap.size + 1 + 1 + 1, 0, none⟩ = some (.int .u8 1) := by rw [hW]; go_simp
  have c3x1 : W.cell? ⟨w.heap.size + 1 + 1 + 1, 1, none⟩ = some (.int .i64 2) := by rw [hW]; go_simp
  have c3x2 : W.cell? ⟨w.heap.size + 1 + 1 + 1, 2, none⟩ = some (.int .i64 1) := by rw [hW]; go_simp
  have c3x3 : W.cell? ⟨w.heap.size + 1 + 1 + 1, 3, none⟩ = some (.int .u8 1) := by rw [hW]; go_simp
  have c3x4 : W.cell? ⟨w.heap.size + 1 + 1 + 1, 4, none⟩ = some (.int .i64 2) := by rw [hW]; go_simp
  have c3x5 : W.cell? ⟨w.heap.size + 1 + 1 + 1, 5, none⟩ = some (.int .i64 1) := by rw [hW]; go_simp
  have c3x6 : W.cell? ⟨w.heap.size + 1 + 1 + 1, 6, none⟩ = some (.int .u8 2) := by rw [hW]; go_simp
  have c3x7 : W.cell? ⟨w.heap.size + 1 + 1 + 1, 7, none⟩ = some (.int .i64 3) := by rw [hW]; go_simp
  have c3x8 : W.cell? ⟨w.heap.size + 1 + 1 + 1, 8, none⟩ = some (.int .i64 2) := by rw [hW]; go_simp
  have c4x0 : W.cell? ⟨w.heap.size + 1 + 1 + 1 + 1, 0, none⟩ = some (.int .u32 6) := by rw [hW]; go_simp
  have c4x1 : W.cell? ⟨w.heap.size + 1 + 1 + 1 + 1, 1, none⟩ = some (.int .u32 1) := by rw [hW]; go_simp
  have c4x2 : W.cell? ⟨w.heap.size + 1 + 1 + 1 + 1, 2, none⟩ = some (.int .u32 1) := by rw [hW]; go_simp
  have c5x0 : W.cell? ⟨w.heap.size + 1 + 1 + 1 + 1 + 1, 0, none⟩ = some (.int .i64 0) := by rw [hW]; go_simp
  have c5x1 : W.cell? ⟨w.heap.size + 1 + 1 + 1 + 1 + 1, 1, none⟩ = some (.int .i64 2) := by rw [hW]; go_simp
  have c5x2 : W.cell? ⟨w.heap.size + 1 + 1 + 1 + 1 + 1, 2, none⟩ = some (.int .i64 3) := by rw [hW]; go_simp
  have c6x0 : W.cell? ⟨w.heap.size + 1 + 1 + 1 + 1 + 1 + 1, 0, none⟩ = some (.int .i64 2) := by rw [hW]; go_simp
  have c6x1 : W.cell? ⟨w.heap.size + 1 + 1 + 1 + 1 + 1 + 1, 1, none⟩ = some (.int .i64 0) := by rw [hW]; go_simp
  have c6x2 : W.cell? ⟨w.heap.size + 1 + 1 + 1 + 1 + 1 + 1, 2, none⟩ = some (.int .i64 0) := by rw [hW]; go_simp
  have c7x0 : W.cell? ⟨w.heap.size + 1 + 1 + 1 + 1 + 1 + 1 + 1, 0, none⟩ = some (.int .i64 4) := by rw [hW]; go_simp
  have c7x1 : W.cell? ⟨w.heap.size + 1 + 1 + 1 + 1 + 1 + 1 + 1, 1, none⟩ = some (.int .i64 0) := by rw [hW]; go_simp
  have c7x2 : W.cell? ⟨w.heap.size + 1 + 1 + 1 + 1 + 1 + 1 + 1, 2, none⟩ = some (.int .i64 0) := by rw [hW]; go_simp
  have c8x0 : W.cell? ⟨w.heap.size + 1 + 1 + 1 + 1 + 1 + 1 + 1 + 1, 0, none⟩ = some (.slice (some ⟨w.heap.size + 1 + 1 + 1 + 1 + 1, 0, none⟩) 3 3) := by rw [hW]; go_simp
  have c8x1 : W.cell? ⟨w.heap.size + 1 + 1 + 1 + 1 + 1 + 1 + 1 + 1, 1, none⟩ = some (.slice (some ⟨w.heap.size + 1 + 1 + 1 + 1 + 1 + 1, 0, none⟩) 3 3) := by rw [hW]; go_simp
  have c8x2 : W.cell? ⟨w.heap.size + 1 + 1 + 1 + 1 + 1 + 1 + 1 + 1, 2, none⟩ = some (.slice (some ⟨w.heap.size + 1 + 1 + 1 + 1 + 1 + 1 + 1, 0, none⟩) 3 3) := by rw [hW]; go_simp
  have c9x0 : W.cell? ⟨w.heap.size + 1 + 1 + 1 + 1 + 1 + 1 + 1 + 1 + 1, 0, none⟩ = some (.int .u32 1) := by rw [hW]; go_simp
  have c9x1 : W.cell? ⟨w.heap.size + 1 + 1 + 1 + 1 + 1 + 1 + 1 + 1 + 1, 1, none⟩ = some (.int .i64 2) := by rw [hW]; go_simp
  have c9x2 : W.cell? ⟨w.heap.size + 1 + 1 + 1 + 1 + 1 + 1 + 1 + 1 + 1, 2, none⟩ = some (.int .i64 9) := by rw [hW]; go_simp
  have c9x3 : W.cell? ⟨w.heap.size + 1 + 1 + 1 + 1 + 1 + 1 + 1 + 1 + 1, 3, none⟩ = some (.int .i64 1) := by rw [hW]; go_simp
  have c9x4 : W.cell? ⟨w.heap.size + 1 + 1 + 1 + 1 + 1 + 1 + 1 + 1 + 1, 4, none⟩ = some (.bool false) := by rw [hW]; go_simp
  have c9x5 : W.cell? ⟨w.heap.size + 1 + 1 + 1 + 1 + 1 + 1 + 1 + 1 + 1, 5, none⟩ = some (.int .u32 6) := by rw [hW]; go_simp
  have c9x6 : W.cell? ⟨w.heap.size + 1 + 1 + 1 + 1 + 1 + 1 + 1 + 1 + 1, 6, none⟩ = some (.int .i64 3) := by rw [hW]; go_simp
  have c9x7 : W.cell? ⟨w.heap.size + 1 + 1 + 1 + 1 + 1 + 1 + 1 + 1 + 1, 7, none⟩ = some (.int .i64 9) := by rw [hW]; go_simp
  have c9x8 : W.cell? ⟨w.heap.size + 1 + 1 + 1 + 1 + 1 + 1 + 1 + 1 + 1, 8, none⟩ = some (.int .i64 1) := by rw [hW]; go_simp
  have c9x9 : W.cell? ⟨w.heap.size + 1 + 1 + 1 + 1 + 1 + 1 + 1 + 1 + 1, 9, none⟩ = some (.bool false) := by rw [hW]; go_simp
  go_wp2
  rw [← hW]
  clear hW
  refine bodyPost_ret (v := .agg #[.int .i64 1, .slice (some ⟨w.heap.size + 1 + 1 + 1, 0, none⟩) 3 3, .slice (some ⟨w.heap.size + 1 + 1 + 1 + 1, 0, none⟩) 3 3, .slice (some ⟨w.heap.size + 1 + 1 + 1 + 1 + 1 + 1 + 1 + 1, 0, none⟩) 3 3, .slice (some ⟨w.heap.size + 1 + 1 + 1 + 1 + 1 + 1 + 1 + 1 + 1, 0, none⟩) 2 2, .slice none 0 0, .int .i64 9, .int .i64 2, .int .i64 3, .int .i64 30, .int .i64 60, .slice none 0 0]) (by simp [results, Tryd.results7, go_sem, c0x0, c0x1, c0x2, c0x3, c0x4, c0x5, c0x6, c0x7, c0x8, c0x9, c0x10, c0x11]) rfl ?_
  refine ⟨⟨some ⟨w.heap.size + 1 + 1 + 1, 0, none⟩, 3, some ⟨w.heap.size + 1 + 1 + 1 + 1, 0, none⟩, 3, some ⟨w.heap.size + 1 + 1 + 1 + 1 + 1 + 1 + 1 + 1, 0, none⟩, 3, some ⟨w.heap.size + 1 + 1 + 1 + 1 + 1 + 1 + 1 + 1 + 1, 0, none⟩, 2, none, 0, none, 0⟩, rfl, ?_, hk⟩
  have hi : ∀ x : Int, -1000 ≤ x → x ≤ 1000 → i64B x := fun x h1 h2 => by unfold i64B; omega
  constructor
  · exact lie_of8 (by omega) (three_cases (fun j hj => by
      have : j = 0 ∨ j = 1 ∨ j = 2 := by omega
      rcases this with rfl | rfl | rfl
      · exact c3x0
      · exact c3x1
      · exact c3x2) (fun j hj => by
      have : j = 0 ∨ j = 1 ∨ j = 2 := by omega
      rcases this with rfl | rfl | rfl
      · exact c3x3
      · exact c3x4
      · exact c3x5) (fun j hj => by
      have : j = 0 ∨ j = 1 ∨ j = 2 := by omega
      rcases this with rfl | rfl | rfl
      · exact c3x6
      · exact c3x7
      · exact c3x8))
  · exact lie_of8 (by omega) (three_cases (fun j hj => by
      have : j = 0 := by omega
      subst this; exact c4x0) (fun j hj => by
      have : j = 0 := by omega
      subst this; exact c4x1) (fun j hj => by
      have : j = 0 := by omega
      subst this; exact c4x2))
  · refine ⟨⟨fun i => if i = 0 then (some ⟨w.heap.size + 1 + 1 + 1 + 1 + 1, 0, none⟩, 3) else if i = 1 then (some ⟨w.heap.size + 1 + 1 + 1 + 1 + 1 + 1, 0, none⟩, 3) else (some ⟨w.heap.size + 1 + 1 + 1 + 1 + 1 + 1 + 1, 0, none⟩, 3), ?_, ?_⟩, rfl, cap8 (show 3 ≤ 1000 by omega)⟩
    · exact lie_of8 (by omega) (three_cases (fun j hj => by
      have : j = 0 := by omega
      subst this; exact c8x0) (fun j hj => by
      have : j = 0 := by omega
      subst this; exact c8x1) (fun j hj => by
      have : j = 0 := by omega
      subst this; exact c8x2))
    · refine three_cases ⟨lie_of8 (by omega) (three_cases (fun j hj => by
      have : j = 0 := by omega
      subst this; exact c5x0) (fun j hj => by
      have : j = 0 := by omega
      subst this; exact c5x1) (fun j hj => by
      have : j = 0 := by omega
      subst this; exact c5x2)), rfl, cap8 (show 3 ≤ 1000 by omega), ?_⟩ ⟨lie_of8 (by omega) (three_cases (fun j hj => by
      have : j = 0 := by omega
      subst this; exact c6x0) (fun j hj => by
      have : j = 0 := by omega
      subst this; exact c6x1) (fun j hj => by
      have : j = 0 := by omega
      subst this; exact c6x2)), rfl, cap8 (show 3 ≤ 1000 by omega), ?_⟩ ⟨lie_of8 (by omega) (three_cases (fun j hj => by
      have : j = 0 := by omega
      subst this; exact c7x0) (fun j hj => by
      have : j = 0 := by omega
      subst this; exact c7x1) (fun j hj => by
      have : j = 0 := by omega
      subst this; exact c7x2)), rfl, cap8 (show 3 ≤ 1000 by omega), ?_⟩
      · intro x hx
        have : x = 0 ∨ x = 2 ∨ x = 3 := by simpa [S15] using hx
        omega
      · intro x hx
        have : x = 2 ∨ x = 0 := by simpa [S15] using hx
        omega
      · intro x hx
        have : x = 4 ∨ x = 0 := by simpa [S15] using hx
        omega
  · exact lie_of8 (by omega) (two_cases (fun j hj => by
      have : j = 0 ∨ j = 1 ∨ j = 2 ∨ j = 3 ∨ j = 4 := by omega
      rcases this with rfl | rfl | rfl | rfl | rfl
      · exact c9x0
      · exact c9x1
      · exact c9x2
      · exact c9x3
      · exact c9x4) (fun j hj => by
      have : j = 0 ∨ j = 1 ∨ j = 2 ∨ j = 3 ∨ j = 4 := by omega
      rcases this with rfl | rfl | rfl | rfl | rfl
      · exact c9x5
      · exact c9x6
      · exact c9x7
      · exact c9x8
      · exact c9x9))
  · exact ⟨fun hp => absurd hp (by decide)⟩
  · exact ⟨⟨fun _ => (none, 0), ⟨fun hp => absurd hp (by decide)⟩, fun i hi => absurd hi (Nat.not_lt_zero i)⟩, rfl, ⟨fun _ => ⟨rfl, rfl⟩, Nat.le_refl _, Nat.zero_le _⟩, fun p hp => by cases hp⟩
  · exact cap8 (show 3 ≤ 1000 by omega)
  · exact cap8 (show 3 ≤ 1000 by omega)
  · exact cap8 (show 2 ≤ 1000 by omega)
  · exact ⟨fun _ => ⟨rfl, rfl⟩, Nat.le_refl _, Nat.zero_le _⟩
  · intro g hg
    have : g = ⟨1, 2, 1⟩ ∨ g = ⟨2, 3, 2⟩ := by simpa [S15] using hg
    rcases this with rfl | rfl
    · exact ⟨by decide, hi _ (by decide) (by decide), hi _ (by decide) (by decide)⟩
    · exact ⟨by decide, hi _ (by decide) (by decide), hi _ (by decide) (by decide)⟩
  · intro x hx
    have : x = 6 ∨ x = 1 := by simpa [S15] using hx
    omega
  · intro p hp
    have : p = ⟨1, 2, 9, 1, false⟩ ∨ p = ⟨6, 3, 9, 1, false⟩ := by simpa [S15] using hp
    rcases this with rfl | rfl
    · exact ⟨by decide, hi _ (by decide) (by decide), hi _ (by decide) (by decide), hi _ (by decide) (by decide)⟩
    · exact ⟨by decide, hi _ (by decide) (by decide), hi _ (by decide) (by decide), hi _ (by decide) (by decide)⟩
  · intro e he
    cases he
  · exact ⟨hi _ (by decide) (by decide), hi _ (by decide) (by decide), hi _ (by decide) (by decide), hi _ (by decide) (by decide), hi _ (by decide) (by decide), hi _ (by decide) (by decide)⟩

end Go.Proofs.YtchjbagipbmcoaaDoor

/-
  THE CONTRACT of alive, of the statements (made by a program).
-/
namespace Go.Proofs.YtchjbagipbmcoaaDoor
open Go.RowKit Go.Lib Go.Deep
set_option linter.unusedVariables false
set_option linter.unusedSimpArgs false


theorem first_yes2t {X : Sa} {S : St} {w : World} (h : Sat w X S) (hT : Tabb w) (hs : siteB S = true) : Calls Tryd.prog 9 #[siteV X S] w fun e w' => ∃ b, e = .returned (.tuple #[.agg #[.slice (some ⟨b, 0, none⟩) S.groups.length S.groups.length, .int .i64 (worstM S), .bool false], .int .i64 0]) ∧ w.heap.size ≤ b ∧ OwnG w' b S.groups.length (fun _ => seen1) ∧ Kept w w' none := by
  refine (first_yes h hT hs).mono ?_
  rintro e w' ⟨b, rfl, h1, h2, h3⟩
  have hl := firstV_len S
  exact ⟨b, by rw [safeV, hl]; rfl, h1, h2, h3⟩
theorem goes_f15 : goesE S15 (firstV S15) = 0 := by decide +kernel
theorem stp_f15 : stpO S15 (firstV S15) 0 = some 5 := stpO_at (by omega) (by decide +kernel) (by decide +kernel)
theorem first_safe {w : World} {b : Nat} (h : OwnG w b S15.groups.length (fun _ => seen1)) : SafeAt w (some ⟨b, 0, none⟩) S15.groups.length (firstV S15) := OwnG.safe h (firstV_len S15) (fun i hi => firstV_g hi) (by decide) (fun s hs => by
  have := (List.mem_replicate.1 hs).2
  subst this
  unfold i64B; simp)
set_option maxRecDepth 100000 in
set_option maxHeartbeats 2000000 in
theorem talive_any {w : World} (hT : Tabb w) : Calls Tryd.prog 14 #[] w fun e w' => e = .returned (.bool true) ∧ Kept w w' none := by
  have HT := Hid.mk' hT
  clear hT
  go_enter Tryd.func14, Tryd.ntmps14
  go_wp2_with (first
    | (have hgo := SA1; clear hgo; go_at_call 9; refine (first_yes2t SA1.out (HT.out.kept hk1) s15_may).mono ?_; rintro e wF ⟨b5, rfl, hb5, hog5, hqF⟩; have hkF : Kept w wF none := hk1.tr hqF)
    | (go_at_call 7; refine three_any.mono ?_; rintro e w1 ⟨X1, rfl, hsat, hk1⟩; have SA1 := Hid.mk' hsat; clear hsat))
  have kL : Kept wF (wF.alloc (.cells #[.slice (some ⟨b5, 0, none⟩) S15.groups.length S15.groups.length, .int .i64 (worstM S15), .bool false] 39)) none := Kept.alloc _ _ _ _ _
  have bx := box_alloc wF (.slice (some ⟨b5, 0, none⟩) S15.groups.length S15.groups.length) (.int .i64 (worstM S15)) (.bool false) 39
  obtain ⟨W5, hW5⟩ : ∃ W5, wF.alloc (.cells #[.slice (some ⟨b5, 0, none⟩) S15.groups.length S15.groups.length, .int .i64 (worstM S15), .bool false] 39) = W5 := ⟨_, rfl⟩
  rw [hW5] at kL bx ⊢
  have HBX := Hid.mk' bx
  have x0 : ∀ w', Kept W5 w' none → w'.cell? ⟨wF.heap.size, 0, none⟩ = some (.slice (some ⟨b5, 0, none⟩) S15.groups.length S15.groups.length) := fun w' q => (HBX.out.kept q).c0
  have x1 : ∀ w', Kept W5 w' none → w'.cell? ⟨wF.heap.size, 1, none⟩ = some (.int .i64 (worstM S15)) := fun w' q => (HBX.out.kept q).c1
  have x2 : ∀ w', Kept W5 w' none → w'.cell? ⟨wF.heap.size, 2, none⟩ = some (.bool false) := fun w' q => (HBX.out.kept q).c2
  have hsf : SafeAt W5 (some ⟨b5, 0, none⟩) S15.groups.length (firstV S15) := first_safe (row_kept hog5 kL (by simp))
  have hk5 : Kept w W5 none := hkF.tr kL
  have HK5 := Hid.mk' hk5
  have HO : Hid (∀ w' X, Kept W5 w' none → Sat w' X S15 → Calls Tryd.prog 12 #[siteV X S15, (.agg #[.slice (some ⟨b5, 0, none⟩) S15.groups.length S15.groups.length, .int .i64 (worstM S15), .bool false]), .int .i64 0] w' fun e w2 => e = .returned (.tuple #[.int .i64 5, .int .i64 0]) ∧ Kept w' w2 none) := fun w' X q hs => by
    have hx := tstps_go hs (HT.out.kept (hk5.tr q)) (hsf.kept q) 0 goes_f15 (by decide)
    obtain ⟨e1, e2⟩ := ste_go (p := 0) goes_f15 (by decide) stp_f15
    rw [safeV, firstV_len, e1, e2] at hx
    exact hx
  have hH := Kept.refl W5 none
  clear hW5 bx kL hsf hk5 hog5 hb5 hqF hkF hk1
  try go_wp2
  go_region_held (fun w' => Kept W5 w' none)
    ((first | exact hH | exact Kept.tr hH (Kept.drew _ _) | assumption | exact Kept.tr (by assumption) (Kept.drew _ _)))
    ((first
      | (go_at_call 12; refine (HO.out _ _ hKa SA.out).mono ?_; rintro e wO ⟨rfl, hkO⟩; have hKb : Kept W5 wO none := Kept.tr hKa hkO)
      | (go_at_call 7; refine three_any.mono ?_; rintro e wT ⟨XT, rfl, hsat, hkT⟩; have SA := Hid.mk' hsat; have hKa : Kept W5 wT none := Kept.tr (by assumption) hkT; clear hsat)))
  all_goals
  go_wp2
  go_ret
  exact ⟨rfl, HK5.out.tr hKb⟩

end Go.Proofs.YtchjbagipbmcoaaDoor

