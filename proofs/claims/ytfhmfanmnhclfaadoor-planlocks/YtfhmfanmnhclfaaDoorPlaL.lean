/-
  Texts joined: some of those that the proofs of this seat stand on.
-/
import Derived.Test.YtfhmfanmnhclfaaDoorPlaA
import Derived.Test.YtfhmfanmnhclfaaDoorPlaT
import Derived.Test.YtfhmfanmnhclfaaDoorPlnIJ
import Derived.Test.YtfhmfanmnhclfaaDoorTurB
import Derived.Test.YtfhmfanmnhclfaaDoorTurD
/-
  WHAT THE TICKS OF PlanLocks GO BY (made by a program).
-/
namespace Go.Proofs.YtfhmfanmnhclfaaDoor
open Go.RowKit Go.Lib Go.Deep
set_option linter.unusedVariables false
set_option linter.unusedSimpArgs false


theorem tadm_at {X : Sa} {S : St} {w : World} {p bl : Nat} {ag : Option Addr} {cg : Nat} {G : Sf} (h : Sat w X S) (hT : Tabb w) (hsf : SafeAt w ag cg G) (hrow : w.rowIs bl 5 S.groups.length (fun i => .int .u8 ((lg (askV S p) i : Nat) : Int))) (hs : siteB S = true) (hg : goesV S G = true) : Calls Tryd.prog 25 #[siteV X S, (.agg #[.slice ag S.groups.length cg, .int .i64 G.start, .bool G.flashed]), .slice (some ⟨bl, 0, none⟩) S.groups.length S.groups.length] w fun e w2 => ∃ b, e = .returned (.tuple #[.slice (some ⟨b, 0, none⟩) S.groups.length S.groups.length, .int .i64 0]) ∧ By w2 (some ⟨b, 0, none⟩) S.groups.length (letV S G (askV S p)) ∧ Kept w w2 none := by
  have hng := (span_may hs).base.sh.ok.ng
  have hz : goesE S G = 0 := by unfold goesE; rw [hs, hg]; rfl
  have hfn := (mayS_parts (goes_parts hg).1).1
  have hx := gadmit_go (cl := S.groups.length) h hT hsf (By.row hrow (askV S p) S.groups.length (Nat.le_refl _) (askV_len S p) (by omega) (askV_ltt S p) (fun i hi => rfl)) hz rfl
  rw [safeV, hfn] at hx
  refine hx.mono ?_
  rintro e w2 ⟨b, rfl, h1, h2, h3⟩
  exact ⟨b, rfl, By.row h2 _ S.groups.length (Nat.le_refl _) ((letV_len S G _).trans (askV_len S p)) (by omega) (letV_ltt _ _ _) (fun i hi => by rw [show (letV S G (askV S p)).getD i 0 = lg (letV S G (askV S p)) i from rfl, letV_lg (by rw [askV_len]; exact hi)]), h3⟩
theorem tnxt_at {X : Sa} {S : St} {w : World} {p b : Nat} {ag : Option Addr} {cg : Nat} {G : Sf} (h : Sat w X S) (hT : Tabb w) (hsf : SafeAt w ag cg G) (hB : By w (some ⟨b, 0, none⟩) S.groups.length (letV S G (askV S p))) (hs : siteB S = true) (hg : goesV S G = true) : Calls Tryd.prog 26 #[siteV X S, (.agg #[.slice ag S.groups.length cg, .int .i64 G.start, .bool G.flashed]), .slice (some ⟨b, 0, none⟩) S.groups.length S.groups.length] w fun e w2 => ∃ b2, e = .returned (.tuple #[.agg #[.slice (some ⟨b2, 0, none⟩) S.groups.length S.groups.length, .int .i64 (stepT S p G).start, .bool (stepT S p G).flashed], .int .u8 0, .int .i64 0]) ∧ w.heap.size ≤ b2 ∧ SafeAt w2 (some ⟨b2, 0, none⟩) S.groups.length (stepT S p G) ∧ Kept w w2 none := by
  have hng := (span_may hs).base.sh.ok.ng
  refine (next_got h hT hsf hB hs (goes_parts hg).1 (let_safe hs hg (askV_len S p))).mono ?_
  rintro e w2 ⟨b2, rfl, h1, h2, h3⟩
  exact ⟨b2, rfl, h1, OwnG.safe h2 (step_len S p G) (fun _ _ => rfl) (by omega) (step_rngt S p G), h3⟩
theorem tful_at {X : Sa} {S : St} {w : World} {p : Nat} {ag : Option Addr} {cg : Nat} {G : Sf} (h : Sat w X S) (hT : Tabb w) (hsf : SafeAt w ag cg G) (hs : siteB S = true) (hl : G.groups.length = S.groups.length) (hp : p < S.phases.length) : Calls Tryd.prog 27 #[siteV X S, (.agg #[.slice ag S.groups.length cg, .int .i64 G.start, .bool G.flashed]), .int .i64 (p : Int)] w fun e w2 => e = .returned (.tuple #[.bool (fullB S G p), .int .i64 0]) ∧ Kept w w2 none := by
  have hx := tfull_go h hT hsf p hs hl hp
  rw [safeV, hl] at hx
  exact hx
theorem first_at {X : Sa} {S : St} {w : World} (h : Sat w X S) (hT : Tabb w) (hs : siteB S = true) : Calls Tryd.prog 22 #[siteV X S] w fun e w' => ∃ b, e = .returned (.tuple #[.agg #[.slice (some ⟨b, 0, none⟩) S.groups.length S.groups.length, .int .i64 (worstM S), .bool false], .int .i64 0]) ∧ w.heap.size ≤ b ∧ SafeAt w' (some ⟨b, 0, none⟩) S.groups.length (firstV S) ∧ Kept w w' none := by
  have hng := (span_may hs).base.sh.ok.ng
  refine (first_yes h hT hs).mono ?_
  rintro e w' ⟨b, rfl, h1, h2, h3⟩
  have hl := firstV_len S
  exact ⟨b, by rw [safeV, hl]; rfl, h1, OwnG.safe h2 hl (fun i hi => firstV_g hi) (by omega) (fun s hs => by
    have := (List.mem_replicate.1 hs).2
    subst this
    unfold i64B; simp), h3⟩
theorem Box.othr {w w' : World} {b bn : Nat} {v0 v1 v2 : Value} (h : Box w b v0 v1 v2) (q : Kept w w' (some bn)) (hne : b ≠ bn) : Box w' b v0 v1 v2 := by
  have hr : some b ≠ some bn := fun e => hne (Option.some.inj e)
  have hb := q.block b h.lt hr
  exact ⟨cell_keptS h.c0 q hr, cell_keptS h.c1 q hr, cell_keptS h.c2 q hr, (World.frozen?_of_block (w := w) (a := ⟨b, 0, none⟩) hb).trans h.f0, (World.frozen?_of_block (w := w) (a := ⟨b, 1, none⟩) hb).trans h.f1, (World.frozen?_of_block (w := w) (a := ⟨b, 2, none⟩) hb).trans h.f2, Nat.lt_of_lt_of_le h.lt q.size⟩
theorem Lie.keptT {w w' : World} {r : Option Nat} {a : Option Addr} {n k : Nat} {f : Nat → Nat → Value} (h : Lie w a n k f) (q : Kept w w' r) (hr : 0 < n → ∀ x, a = some x → some x.block ≠ r) : Lie w' a n k f :=
  ⟨fun hp => by
    obtain ⟨b, off, e, hb, hc⟩ := h.at_ hp
    exact ⟨b, off, e, Nat.lt_of_lt_of_le hb q.size, fun i hi j hj => cell_keptS (hc i hi j hj) q (hr hp _ e)⟩⟩
/-- The site's box, the plan's, the standing's. -/
structure Tl (w wr : World) (X : Sa) (S : St) (P : Pl) (a : Option Addr) (c bs bp bn : Nat) (G : Sf) : Prop where
  kp : Kept w wr none
  sb : Sbox wr bs X S
  pb : Box wr bp (.int .i64 P.cycle) (.int .i64 P.offset) (.slice a P.splits.length c)
  bx : ∃ ag cg, Box wr bn (.slice ag S.groups.length cg) (.int .i64 G.start) (.bool G.flashed) ∧ SafeAt wr ag cg G ∧ ∀ b, ag = some b → b.block ≠ bn
structure Td17 (w : World) (bs bp bn : Nat) : Prop where
  s : bs ≠ bn
  p : bp ≠ bn
  n : w.heap.size ≤ bn
theorem Tl.step {w wr w7 : World} {X : Sa} {S : St} {P : Pl} {a : Option Addr} {c bs bp bn b2 : Nat} {G G' : Sf} (h : Tl w wr X S P a c bs bp bn G) (d : Td17 w bs bp bn) (h0 : Sat w X S) (k : Kept wr w7 none) (hs2 : SafeAt w7 (some ⟨b2, 0, none⟩) S.groups.length G') (hb2 : wr.heap.size ≤ b2) : Tl w (((w7.setCell ⟨bn, 0, none⟩ (.slice (some ⟨b2, 0, none⟩) S.groups.length S.groups.length)).setCell ⟨bn, 1, none⟩ (.int .i64 G'.start)).setCell ⟨bn, 2, none⟩ (.bool G'.flashed)) X S P a c bs bp bn G' := by
  obtain ⟨ag, cg, hb, hs, hne⟩ := h.bx
  have kn : Kept wr (((w7.setCell ⟨bn, 0, none⟩ (.slice (some ⟨b2, 0, none⟩) S.groups.length S.groups.length)).setCell ⟨bn, 1, none⟩ (.int .i64 G'.start)).setCell ⟨bn, 2, none⟩ (.bool G'.flashed)) (some bn) := (((k.weakS (some bn)).setRow _ _).setRow _ _).setRow _ _
  have kw := (((h.kp.tr k).setNew (p := ⟨bn, 0, none⟩) d.n (.slice (some ⟨b2, 0, none⟩) S.groups.length S.groups.length)).setNew (p := ⟨bn, 1, none⟩) d.n (.int .i64 G'.start)).setNew (p := ⟨bn, 2, none⟩) d.n (.bool G'.flashed)
  have k7 : Kept w7 (((w7.setCell ⟨bn, 0, none⟩ (.slice (some ⟨b2, 0, none⟩) S.groups.length S.groups.length)).setCell ⟨bn, 1, none⟩ (.int .i64 G'.start)).setCell ⟨bn, 2, none⟩ (.bool G'.flashed)) (some bn) := (((Kept.refl w7 (some bn)).setRow _ _).setRow _ _).setRow _ _
  have h2 : b2 ≠ bn := by have := hb.lt; omega
  refine ⟨kw, Sbox.oth h0 h.sb kw kn d.s, h.pb.othr kn d.p, ⟨some ⟨b2, 0, none⟩, S.groups.length, (hb.kept k).set3t _ _ _, ?_, fun b e => by injection e with e; subst e; exact h2⟩⟩
  exact ⟨hs2.lie.keptT k7 (fun _ x e => by injection e with e; subst e; exact fun e => h2 (Option.some.inj e)), hs2.cap, hs2.rng⟩

/-! ### In numbers -/
def phT (P : Pl) (u : Nat) : Nat := (partV P u).1
def inT (P : Pl) (u : Nat) : Nat := (partV P u).2
/-- How all stand ahead of a tick. -/
def rnT (S : St) (P : Pl) (k : Nat) : Sf := runP S (wtN S P) (firstV S) k
/-- How many beginnings in a row were in time. -/
def tmT (S : St) (P : Pl) (k : Nat) : Nat := tmP S (rnT S P) (phT P) (inT P) k
theorem rnT_succ (S : St) (P : Pl) (k : Nat) : rnT S P (k + 1) = stepT S (wtN S P k) (rnT S P k) := rfl
theorem tmT_in {S : St} {P : Pl} {k : Nat} (h : inT P k ≠ 0) : tmT S P (k + 1) = tmT S P k := by
  show (if inT P k = 0 then _ else _) = _
  rw [if_neg h]; rfl
theorem tmT_yes {S : St} {P : Pl} {k : Nat} (h : inT P k = 0) (hf : fullB S (rnT S P (k + 1)) (phT P k) = true) : tmT S P (k + 1) = tmT S P k + 1 := by
  show (if inT P k = 0 then (if fullB S (rnT S P (k + 1)) (phT P k) = true then tmP S (rnT S P) (phT P) (inT P) k + 1 else 0) else _) = _
  rw [if_pos h, if_pos hf]; rfl
theorem tmT_no {S : St} {P : Pl} {k : Nat} (h : inT P k = 0) (hf : fullB S (rnT S P (k + 1)) (phT P k) = false) : tmT S P (k + 1) = 0 := by
  show (if inT P k = 0 then (if fullB S (rnT S P (k + 1)) (phT P k) = true then tmP S (rnT S P) (phT P) (inT P) k + 1 else 0) else _) = _
  rw [if_pos h, if_neg (by rw [hf]; decide)]
theorem tmT_le (S : St) (P : Pl) : ∀ k, tmT S P k ≤ k
  | 0 => Nat.le_refl _
  | k + 1 => by
    have ih := tmT_le S P k
    by_cases h : inT P k = 0
    · cases hf : fullB S (rnT S P (k + 1)) (phT P k) with
      | true => rw [tmT_yes h hf]; omega
      | false => rw [tmT_no h hf]; omega
    · rw [tmT_in h]; omega
theorem locksT {S : St} {P : Pl} (hs : siteB S = true) (hp : planB S P = true) (hsh : ShF S) {k : Nat} (h1 : S.phases.length ≤ tmT S P k) (h2 : wtN S P k = phT P k) : fullB S (rnT S P (k + 1)) (phT P k) = true := by
  have h := plan_ps hs (plan_facts hp) (fun i hi b hb => (hsh i hi b hb).1) (fun i hi b hb d hd => (hsh i hi b hb).2 d hd)
  exact locks h h1 h2
theorem goT {S : St} {P : Pl} (hs : siteB S = true) (k : Nat) : goesV S (rnT S P k) = true := run_goesP hs k
theorem ph_ltT {S : St} {P : Pl} (hs : siteB S = true) (hp : planB S P = true) (k : Nat) : phT P k < S.phases.length := by
  obtain ⟨i, x, hi, _, _, e⟩ := part_ex hs (plan_facts hp) k
  show (partV P k).1 < _
  rw [e]; exact hi
theorem wt_ltT {S : St} {P : Pl} (hs : siteB S = true) (hp : planB S P = true) (k : Nat) : wtN S P k < S.phases.length := by
  have := ph_ltT hs hp k
  unfold wtN wanP
  split
  · exact this
  · exact nxP_lt this

end Go.Proofs.YtfhmfanmnhclfaaDoor

