/-
  THE CONTRACT of turn's Steps (made by a program).
-/
import Derived.Test.YtfhmfanmnhclfaaDoorTurA
import Derived.Test.YtfhmfanmnhclfaaDoorGateC
namespace Go.Proofs.YtfhmfanmnhclfaaDoor
open Go.RowKit Go.Lib Go.Deep
set_option linter.unusedVariables false
set_option linter.unusedSimpArgs false


theorem Box.set3t {w : World} {b : Nat} {v0 v1 v2 : Value} (h : Box w b v0 v1 v2) (x0 x1 x2 : Value) : Box (((w.setCell ⟨b, 0, none⟩ x0).setCell ⟨b, 1, none⟩ x1).setCell ⟨b, 2, none⟩ x2) b x0 x1 x2 := by
  have h1 : Box (w.setCell ⟨b, 0, none⟩ x0) b x0 v1 v2 := ⟨World.cell?_setCell_same _ _ _ h.c0, (World.cell?_setCell_other _ _ _ _ (by simp)).trans h.c1, (World.cell?_setCell_other _ _ _ _ (by simp)).trans h.c2, (World.frozen?_setCell ..).trans h.f0, (World.frozen?_setCell ..).trans h.f1, (World.frozen?_setCell ..).trans h.f2, by simpa [World.setCell] using h.lt⟩
  exact (h1.set1 x1).set2 x2
theorem next_got {X : Sa} {S : St} {w : World} {a : Option Addr} {c : Nat} {F : Sf} {al : Option Addr} {n cl : Nat} {L : List Nat} (h : Sat w X S) (hT : Tabb w) (hF : SafeAt w a c F) (hB : By w al n L) (hs : siteB S = true) (hm : mayS S F = true) (hz : faultV S F L = 0) : Calls Tryd.prog 26 #[siteV X S, .agg #[.slice a S.groups.length c, .int .i64 F.start, .bool F.flashed], .slice al n cl] w fun e w' => ∃ b, e = .returned (.tuple #[.agg #[.slice (some ⟨b, 0, none⟩) S.groups.length S.groups.length, .int .i64 (behindV S F L).start, .bool (behindV S F L).flashed], .int .u8 0, .int .i64 0]) ∧ w.heap.size ≤ b ∧ OwnG w' b S.groups.length (behindV S F L).g ∧ Kept w w' none := by
  have hfn := (mayS_parts hm).1
  have hl := fault_len hz
  have hx := next_go (cl := cl) h hT hF hB hs hm hz
  rw [safeV, hfn] at hx
  refine hx.mono ?_
  rintro e w' ⟨b, rfl, h1, h2, h3⟩
  refine ⟨b, by rw [safeV, behindV_len, hl], h1, h2.congr (fun q hq => ?_), h3⟩
  unfold gcell
  rw [behindV_g (by omega)]
theorem letV_ltt (S : St) (F : Sf) (A : List Nat) : ∀ x ∈ letV S F A, x < 256 := by
  intro x hx
  simp only [letV, List.mem_map] at hx
  obtain ⟨i, _, rfl⟩ := hx
  have := letF_rng S F A i
  omega
theorem askV_ltt (S : St) (p : Nat) : ∀ x ∈ askV S p, x < 256 := by
  intro x hx
  simp only [askV, List.mem_map] at hx
  obtain ⟨i, _, rfl⟩ := hx
  split <;> omega
theorem step_rngt (S : St) (p : Nat) (F : Sf) : ∀ s ∈ (stepT S p F).groups, s.asp < 256 ∧ i64B s.since ∧ i64B s.ended := fun s hs => by
  unfold stepT behindV at hs
  simp only [List.mem_map, List.mem_range] at hs
  obtain ⟨i, hi, rfl⟩ := hs
  exact sndV_rng _ _ (letV_ltt _ _ _ _ (lg_mem hi))
/-- What the ticks of a turn go by: the site's box, the standing's, what is asked. -/
structure Tn (w wr : World) (X : Sa) (S : St) (p bs bn ba bl : Nat) (G : Sf) : Prop where
  kp : Kept w wr none
  sb : Sbox wr bs X S
  bx : ∃ ag cg, Box wr bn (.slice ag S.groups.length cg) (.int .i64 G.start) (.bool G.flashed) ∧ SafeAt wr ag cg G ∧ ∀ b, ag = some b → b.block ≠ bn
  ask : wr.cell? ⟨ba, 0, none⟩ = some (.slice (some ⟨bl, 0, none⟩) S.groups.length S.groups.length)
  row : wr.rowIs bl 5 S.groups.length (fun i => .int .u8 ((lg (askV S p) i : Nat) : Int))
/-- The boxes are others than the standing's, which is new. -/
structure Td (w : World) (bs bn ba bl : Nat) : Prop where
  s : bs ≠ bn
  a : ba ≠ bn
  l : bl ≠ bn
  n : w.heap.size ≤ bn
theorem Tn.kept {w wr w' : World} {X : Sa} {S : St} {p bs bn ba bl : Nat} {G : Sf} (h : Tn w wr X S p bs bn ba bl G) (k : Kept wr w' none) : Tn w w' X S p bs bn ba bl G := by
  obtain ⟨ag, cg, hb, hs, hne⟩ := h.bx
  exact ⟨h.kp.tr k, h.sb.kept k, ⟨ag, cg, hb.kept k, hs.kept k, hne⟩, cell_kept0 h.ask k, row_kept h.row k (by simp)⟩
theorem Sbox.oth {w wr w' : World} {X : Sa} {S : St} {bs bn : Nat} (h0 : Sat w X S) (h : Sbox wr bs X S) (k : Kept w w' none) (q : Kept wr w' (some bn)) (hne : bs ≠ bn) : Sbox w' bs X S := by
  have hr : some bs ≠ some bn := fun e => hne (Option.some.inj e)
  exact ⟨cell_keptS h.c0 q hr, cell_keptS h.c1 q hr, cell_keptS h.c2 q hr, cell_keptS h.c3 q hr, cell_keptS h.c4 q hr, cell_keptS h.c5 q hr, cell_keptS h.c6 q hr, cell_keptS h.c7 q hr, cell_keptS h.c8 q hr, cell_keptS h.c9 q hr, cell_keptS h.c10 q hr, cell_keptS h.c11 q hr, h0.kept k⟩
theorem Tn.step {w wr w7 : World} {X : Sa} {S : St} {p bs bn ba bl b2 : Nat} {G G' : Sf} (h : Tn w wr X S p bs bn ba bl G) (d : Td w bs bn ba bl) (h0 : Sat w X S) (k : Kept wr w7 none) (ho : OwnG w7 b2 S.groups.length G'.g) (hb2 : wr.heap.size ≤ b2) (hl : G'.groups.length = S.groups.length) (hm : S.groups.length ≤ 100) (hr : ∀ s ∈ G'.groups, s.asp < 256 ∧ i64B s.since ∧ i64B s.ended) : Tn w (((w7.setCell ⟨bn, 0, none⟩ (.slice (some ⟨b2, 0, none⟩) S.groups.length S.groups.length)).setCell ⟨bn, 1, none⟩ (.int .i64 G'.start)).setCell ⟨bn, 2, none⟩ (.bool G'.flashed)) X S p bs bn ba bl G' := by
  obtain ⟨ag, cg, hb, hs, hne⟩ := h.bx
  have kn : Kept wr (((w7.setCell ⟨bn, 0, none⟩ (.slice (some ⟨b2, 0, none⟩) S.groups.length S.groups.length)).setCell ⟨bn, 1, none⟩ (.int .i64 G'.start)).setCell ⟨bn, 2, none⟩ (.bool G'.flashed)) (some bn) := (((k.weakS (some bn)).setRow _ _).setRow _ _).setRow _ _
  have kw := (((h.kp.tr k).setNew (p := ⟨bn, 0, none⟩) d.n (.slice (some ⟨b2, 0, none⟩) S.groups.length S.groups.length)).setNew (p := ⟨bn, 1, none⟩) d.n (.int .i64 G'.start)).setNew (p := ⟨bn, 2, none⟩) d.n (.bool G'.flashed)
  have h2 : b2 ≠ bn := by have := hb.lt; omega
  refine ⟨kw, Sbox.oth h0 h.sb kw kn d.s, ⟨some ⟨b2, 0, none⟩, S.groups.length, (hb.kept k).set3t _ _ _, ?_, fun b e => by injection e with e; subst e; exact h2⟩, cell_keptS h.ask kn (fun e => d.a (Option.some.inj e)), row_kept h.row kn (fun e => d.l (Option.some.inj e))⟩
  exact OwnG.safe (((World.rowIs.setOther ho (a := ⟨bn, 0, none⟩) h2 _).setOther (a := ⟨bn, 1, none⟩) h2 _).setOther (a := ⟨bn, 2, none⟩) h2 _) hl (fun _ _ => rfl) (by omega) hr
/-! ### Steps -/
def steE (S : St) (F : Sf) (p : Int) : Int := if goesE S F ≠ 0 then goesE S F else if phB S p = false then 2 else match stpO S F p.toNat with
  | some _ => 0
  | none => 4
def steV (S : St) (F : Sf) (p : Int) : Int := if goesE S F ≠ 0 then 0 else if phB S p = false then 0 else match stpO S F p.toNat with
  | some n => n
  | none => 0
theorem ste_go {S : St} {F : Sf} {p : Nat} (hz : goesE S F = 0) (hp : p < S.phases.length) {n : Nat} (h : stpO S F p = some n) : steE S F (p : Int) = 0 ∧ steV S F (p : Int) = n := by
  have hph : phB S (p : Int) = true := by unfold phB; simp; omega
  unfold steE steV
  rw [if_neg (by simp [hz]), if_neg (by rw [hph]; decide), if_neg (by simp [hz]), if_neg (by rw [hph]; decide), Int.toNat_natCast, h]
  exact ⟨rfl, rfl⟩
theorem ste_many {S : St} {F : Sf} {p : Nat} (hz : goesE S F = 0) (hp : p < S.phases.length) (h : stpO S F p = none) : steE S F (p : Int) = 4 ∧ steV S F (p : Int) = 0 := by
  have hph : phB S (p : Int) = true := by unfold phB; simp; omega
  unfold steE steV
  rw [if_neg (by simp [hz]), if_neg (by rw [hph]; decide), if_neg (by simp [hz]), if_neg (by rw [hph]; decide), Int.toNat_natCast, h]
  exact ⟨rfl, rfl⟩
theorem stpO_at {S : St} {F : Sf} {p k : Nat} (hk : k ≤ 4096) (h : ∀ j, j < k → fullB S (atT S p F j) p = false) (h1 : fullB S (atT S p F k) p = true) : stpO S F p = some k := firstN_some (by omega) (fun j hj => by rw [h j hj]; rfl) (by rw [h1]; decide)
theorem stpO_none {S : St} {F : Sf} {p : Nat} (h : ∀ j, j < 4097 → fullB S (atT S p F j) p = false) : stpO S F p = none := firstN_none (fun j hj => by rw [h j hj]; rfl)
end Go.Proofs.YtfhmfanmnhclfaaDoor
