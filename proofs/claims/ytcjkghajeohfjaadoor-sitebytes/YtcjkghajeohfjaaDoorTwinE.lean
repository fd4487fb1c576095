/-
  Texts joined: some of those that the proofs of this seat stand on.
-/
import Derived.Test.YtcjkghajeohfjaaDoorTwinCJ
/-
  A SITE IN NEW MEMORY is the same site. (mktwine.py writes this text.)
-/
namespace Go.Proofs.YtcjkghajeohfjaaDoor
open Go.RowKit Go.Lib Go.Deep
set_option linter.unusedVariables false
set_option linter.unusedSimpArgs false

def TwS (w : World) (S : St) (e : Ending) (w' : World) : Prop := ∃ X : Sa, e = .returned (siteV X S) ∧ Sat w' X S ∧ Kept w w' none
/-- The same, and whatever changes below: its lists lie in new memory. -/
def TwL (w : World) (S : St) (e : Ending) (w' : World) : Prop := ∃ X : Sa, e = .returned (siteV X S) ∧ (∀ w'', LtrZ (w.heap.size + 1 + 1 + 1) w' w'' → Sat w'' X S) ∧ Kept w w' none
theorem crow (w : World) (c : Array Value) (hc : c.size = 12) : (w.alloc (.cells c 29)).rowIs w.heap.size 29 12 (fSZ c) := by
  have := World.rowIs_alloc w c 29 (fSZ c) (fun i hi => by unfold fSZ; rw [Array.getElem?_eq_getElem hi]; rfl)
  rw [hc] at this
  exact this
theorem tst_start (w : World) (c : Array Value) (hc : c.size = 12) : Tst w (((w.alloc (.cells c 29)).alloc (.cells zSZ 29)).alloc (.cells c 29)) c c := by
  have k1 : Kept w (w.alloc (.cells c 29)) none := Kept.alloc _ _ _ (0, 0) _
  have k2 : Kept (w.alloc (.cells c 29)) ((w.alloc (.cells c 29)).alloc (.cells zSZ 29)) none := Kept.alloc _ _ _ (0, 0) _
  have k3 : Kept ((w.alloc (.cells c 29)).alloc (.cells zSZ 29)) (((w.alloc (.cells c 29)).alloc (.cells zSZ 29)).alloc (.cells c 29)) none := Kept.alloc _ _ _ (0, 0) _
  have r1 := crow w c hc
  have r2 := crow (w.alloc (.cells c 29)) zSZ rfl
  have r3 := crow ((w.alloc (.cells c 29)).alloc (.cells zSZ 29)) c hc
  rw [show (w.alloc (.cells c 29)).heap.size = w.heap.size + 1 by simp] at r2
  rw [show ((w.alloc (.cells c 29)).alloc (.cells zSZ 29)).heap.size = w.heap.size + 1 + 1 by simp] at r3
  exact ⟨(k1.tr k2).tr k3, row_kept (row_kept r1 k2 (by simp)) k3 (by simp), row_kept r2 k3 (by simp), r3⟩
set_option maxRecDepth 100000 in
set_option maxHeartbeats 8000000 in
theorem twin_new {X : Sa} {S : St} {w : World} (h : Sat w X S) (hg : S.groups.length ≤ 60) (ha : S.apart.length ≤ 60) (hb : S.between.length ≤ 40) (hp : S.phases.length ≤ 60) (he : S.eyes.length ≤ 60) (hl : S.plans.length ≤ 40) (hbr : ∀ i, i < S.between.length → (S.between.getD i []).length ≤ 60) (hlr : ∀ i, i < S.plans.length → (S.plans.getD i q0).splits.length ≤ 40) : Calls Tryd.prog 5 #[siteV X S] w fun e w' => TwL w S e w' := by
  obtain ⟨xg, xgc, xa, xac, xb, xbc, xp, xpc, xe, xec, xl, xlc⟩ := X
  have T0 : Hid (Tst w (((w.alloc (.cells #[.int .i64 S.id, .slice xg S.groups.length xgc, .slice xa S.apart.length xac, .slice xb S.between.length xbc, .slice xp S.phases.length xpc, .slice xe S.eyes.length xec, .int .i64 S.watch, .int .i64 S.feed, .int .i64 S.heal, .int .i64 S.low, .int .i64 S.high, .slice xl S.plans.length xlc] 29)).alloc (.cells #[.int .i64 0, .slice none 0 0, .slice none 0 0, .slice none 0 0, .slice none 0 0, .slice none 0 0, .int .i64 0, .int .i64 0, .int .i64 0, .int .i64 0, .int .i64 0, .slice none 0 0] 29)).alloc (.cells #[.int .i64 S.id, .slice xg S.groups.length xgc, .slice xa S.apart.length xac, .slice xb S.between.length xbc, .slice xp S.phases.length xpc, .slice xe S.eyes.length xec, .int .i64 S.watch, .int .i64 S.feed, .int .i64 S.heal, .int .i64 S.low, .int .i64 S.high, .slice xl S.plans.length xlc] 29)) #[.int .i64 S.id, .slice xg S.groups.length xgc, .slice xa S.apart.length xac, .slice xb S.between.length xbc, .slice xp S.phases.length xpc, .slice xe S.eyes.length xec, .int .i64 S.watch, .int .i64 S.feed, .int .i64 S.heal, .int .i64 S.low, .int .i64 S.high, .slice xl S.plans.length xlc] #[.int .i64 S.id, .slice xg S.groups.length xgc, .slice xa S.apart.length xac, .slice xb S.between.length xbc, .slice xp S.phases.length xpc, .slice xe S.eyes.length xec, .int .i64 S.watch, .int .i64 S.feed, .int .i64 S.heal, .int .i64 S.low, .int .i64 S.high, .slice xl S.plans.length xlc]) := tst_start w #[.int .i64 S.id, .slice xg S.groups.length xgc, .slice xa S.apart.length xac, .slice xb S.between.length xbc, .slice xp S.phases.length xpc, .slice xe S.eyes.length xec, .int .i64 S.watch, .int .i64 S.feed, .int .i64 S.heal, .int .i64 S.low, .int .i64 S.high, .slice xl S.plans.length xlc] rfl
  have HS := Hid.mk' h
  have HBR := Hid.mk' hbr
  have HLR := Hid.mk' hlr
  clear h hbr hlr

  have c1 : ((((w.alloc (.cells #[.int .i64 S.id, .slice xg S.groups.length xgc, .slice xa S.apart.length xac, .slice xb S.between.length xbc, .slice xp S.phases.length xpc, .slice xe S.eyes.length xec, .int .i64 S.watch, .int .i64 S.feed, .int .i64 S.heal, .int .i64 S.low, .int .i64 S.high, .slice xl S.plans.length xlc] 29)).alloc (.cells #[.int .i64 0, .slice none 0 0, .slice none 0 0, .slice none 0 0, .slice none 0 0, .slice none 0 0, .int .i64 0, .int .i64 0, .int .i64 0, .int .i64 0, .int .i64 0, .slice none 0 0] 29)).alloc (.cells #[.int .i64 S.id, .slice xg S.groups.length xgc, .slice xa S.apart.length xac, .slice xb S.between.length xbc, .slice xp S.phases.length xpc, .slice xe S.eyes.length xec, .int .i64 S.watch, .int .i64 S.feed, .int .i64 S.heal, .int .i64 S.low, .int .i64 S.high, .slice xl S.plans.length xlc] 29))).cell? ⟨w.heap.size, 1, none⟩ = some (.slice xg S.groups.length xgc) := T0.out.sb.cell (i := 1) (by omega)
  obtain ⟨i0, hi0, hz0, hz1, hz2⟩ := info_parts Tryd.infoGr
  obtain ⟨ng, ngc, y0, hrun, g1, g2, g3, g4⟩ := twin_run (w := (((w.alloc (.cells #[.int .i64 S.id, .slice xg S.groups.length xgc, .slice xa S.apart.length xac, .slice xb S.between.length xbc, .slice xp S.phases.length xpc, .slice xe S.eyes.length xec, .int .i64 S.watch, .int .i64 S.feed, .int .i64 S.heal, .int .i64 S.low, .int .i64 S.high, .slice xl S.plans.length xlc] 29)).alloc (.cells #[.int .i64 0, .slice none 0 0, .slice none 0 0, .slice none 0 0, .slice none 0 0, .slice none 0 0, .int .i64 0, .int .i64 0, .int .i64 0, .int .i64 0, .int .i64 0, .slice none 0 0] 29)).alloc (.cells #[.int .i64 S.id, .slice xg S.groups.length xgc, .slice xa S.apart.length xac, .slice xb S.between.length xbc, .slice xp S.phases.length xpc, .slice xe S.eyes.length xec, .int .i64 S.watch, .int .i64 S.feed, .int .i64 S.heal, .int .i64 S.low, .int .i64 S.high, .slice xl S.plans.length xlc] 29))) (ty := 22) Tryd.uGrs hi0 hz0 hz1 hz2 rfl (by omega) (by omega) ((HS.out.kept T0.out.kept).g) (HS.out.gk) (by omega) (fun i j => (by unfold grV; split <;> rfl))
  have HR0 := Hid.mk' hrun
  have U0 := Hid.mk' (T0.out.call g4)
  have k0 : y0.cell? ⟨w.heap.size + 1 + 1, 1, none⟩ = some (.slice xg S.groups.length xgc) := U0.out.tb.cell (i := 1) (by omega)
  have z0 : y0.frozen? ⟨w.heap.size + 1 + 1, 1, none⟩ = false := U0.out.tb.frozen 1
  have Lg : Hid (Nl w y0 ng _ 3 _) := ⟨g1, fun b e => ⟨(by have := (g3 b e).1; have := T0.out.tb.lt; omega), (g3 b e).2⟩⟩
  have Gg := Hid.mk' g2
  clear hrun g1 g2 g3 g4 hi0 hz0 hz1 hz2 i0
  go_enter Tryd.func5, Tryd.ntmps5
  go_wp2_with (first
    | (have hgo := HR1; clear hgo; at_builtin; refine wpList_app (by rfl) _ _ _ (by rfl) (by rfl) (by rfl) HR1.out ?_; clear HR1; have T2 : Hid (Tst w (y1.setCell ⟨w.heap.size + 1 + 1, 2, none⟩ (.slice na S.apart.length nac)) #[.int .i64 S.id, .slice xg S.groups.length xgc, .slice xa S.apart.length xac, .slice xb S.between.length xbc, .slice xp S.phases.length xpc, .slice xe S.eyes.length xec, .int .i64 S.watch, .int .i64 S.feed, .int .i64 S.heal, .int .i64 S.low, .int .i64 S.high, .slice xl S.plans.length xlc] #[.int .i64 S.id, .slice ng S.groups.length ngc, .slice na S.apart.length nac, .slice xb S.between.length xbc, .slice xp S.phases.length xpc, .slice xe S.eyes.length xec, .int .i64 S.watch, .int .i64 S.feed, .int .i64 S.heal, .int .i64 S.low, .int .i64 S.high, .slice xl S.plans.length xlc]) := U1.out.put 2 _ (by simp); have Lg := Hid.mk' (Lg.out.put 2 (.slice na S.apart.length nac)); have La := Hid.mk' (La.out.put 2 (.slice na S.apart.length nac)); clear U1; have k3 : (y1.setCell ⟨w.heap.size + 1 + 1, 2, none⟩ (.slice na S.apart.length nac)).cell? ⟨w.heap.size + 1 + 1, 3, none⟩ = some (.slice xb S.between.length xbc) := T2.out.tb.cell (i := 3) (by omega); have z3 : (y1.setCell ⟨w.heap.size + 1 + 1, 2, none⟩ (.slice na S.apart.length nac)).frozen? ⟨w.heap.size + 1 + 1, 3, none⟩ = false := T2.out.tb.frozen 3)
    | (have hgo := HR0; clear hgo; at_builtin; refine wpList_app (by rfl) _ _ _ (by rfl) (by rfl) (by rfl) HR0.out ?_; clear HR0; have T1 : Hid (Tst w (y0.setCell ⟨w.heap.size + 1 + 1, 1, none⟩ (.slice ng S.groups.length ngc)) #[.int .i64 S.id, .slice xg S.groups.length xgc, .slice xa S.apart.length xac, .slice xb S.between.length xbc, .slice xp S.phases.length xpc, .slice xe S.eyes.length xec, .int .i64 S.watch, .int .i64 S.feed, .int .i64 S.heal, .int .i64 S.low, .int .i64 S.high, .slice xl S.plans.length xlc] #[.int .i64 S.id, .slice ng S.groups.length ngc, .slice xa S.apart.length xac, .slice xb S.between.length xbc, .slice xp S.phases.length xpc, .slice xe S.eyes.length xec, .int .i64 S.watch, .int .i64 S.feed, .int .i64 S.heal, .int .i64 S.low, .int .i64 S.high, .slice xl S.plans.length xlc]) := U0.out.put 1 _ (by simp); have Lg := Hid.mk' (Lg.out.put 1 (.slice ng S.groups.length ngc)); clear U0; have c2 : (y0.setCell ⟨w.heap.size + 1 + 1, 1, none⟩ (.slice ng S.groups.length ngc)).cell? ⟨w.heap.size, 2, none⟩ = some (.slice xa S.apart.length xac) := T1.out.sb.cell (i := 2) (by omega); obtain ⟨i0, hi0, hz0, hz1, hz2⟩ := info_parts Tryd.infoU3; obtain ⟨na, nac, y1, hrun, g1, g2, g3, g4⟩ := twin_run (w := y0.setCell ⟨w.heap.size + 1 + 1, 1, none⟩ (.slice ng S.groups.length ngc)) (ty := 23) Tryd.uU3s hi0 hz0 hz1 hz2 rfl (by omega) (by omega) ((HS.out.kept T1.out.kept).a) (HS.out.ak) (by omega) (fun i j => rfl); have HR1 := Hid.mk' hrun; have U1 := Hid.mk' (T1.out.call g4); have k1 : y1.cell? ⟨w.heap.size + 1 + 1, 2, none⟩ = some (.slice xa S.apart.length xac) := U1.out.tb.cell (i := 2) (by omega); have z1 : y1.frozen? ⟨w.heap.size + 1 + 1, 2, none⟩ = false := U1.out.tb.frozen 2; have La : Hid (Nl w y1 na _ 1 _) := ⟨g1, fun b e => ⟨(by have := (g3 b e).1; have := T1.out.tb.lt; omega), (g3 b e).2⟩⟩; have Ga := Hid.mk' g2; have Lg := Hid.mk' (Lg.out.kept0 g4); clear hrun g1 g2 g3 g4 hi0 hz0 hz1 hz2 i0))
  have T3 : Hid (Tst w ((y1.setCell ⟨w.heap.size + 1 + 1, 2, none⟩ (.slice na S.apart.length nac)).setCell ⟨w.heap.size + 1 + 1, 3, none⟩ (.slice none 0 0)) #[.int .i64 S.id, .slice xg S.groups.length xgc, .slice xa S.apart.length xac, .slice xb S.between.length xbc, .slice xp S.phases.length xpc, .slice xe S.eyes.length xec, .int .i64 S.watch, .int .i64 S.feed, .int .i64 S.heal, .int .i64 S.low, .int .i64 S.high, .slice xl S.plans.length xlc] #[.int .i64 S.id, .slice ng S.groups.length ngc, .slice na S.apart.length nac, .slice none 0 0, .slice xp S.phases.length xpc, .slice xe S.eyes.length xec, .int .i64 S.watch, .int .i64 S.feed, .int .i64 S.heal, .int .i64 S.low, .int .i64 S.high, .slice xl S.plans.length xlc]) := T2.out.put 3 _ (by simp)
  have Lg : Hid (Nl w ((y1.setCell ⟨w.heap.size + 1 + 1, 2, none⟩ (.slice na S.apart.length nac)).setCell ⟨w.heap.size + 1 + 1, 3, none⟩ (.slice none 0 0)) ng S.groups.length 3 (fun i j => grV (S.gr i) j)) := Lg.out.put 3 (.slice none 0 0)
  have La : Hid (Nl w ((y1.setCell ⟨w.heap.size + 1 + 1, 2, none⟩ (.slice na S.apart.length nac)).setCell ⟨w.heap.size + 1 + 1, 3, none⟩ (.slice none 0 0)) na S.apart.length 1 (fun i _ => .int .u32 (S.ap i : Int))) := La.out.put 3 (.slice none 0 0)
  clear k3 z3 T2 T1 T0
  generalize ((y1.setCell ⟨w.heap.size + 1 + 1, 2, none⟩ (.slice na S.apart.length nac)).setCell ⟨w.heap.size + 1 + 1, 3, none⟩ (.slice none 0 0)) = x3 at *
  go_loopw [4] (fun i wr => ∃ (k : Nat) (v : Value), k ≤ S.between.length ∧ i = .int .i64 k ∧ Hid (Tst w wr #[.int .i64 S.id, .slice xg S.groups.length xgc, .slice xa S.apart.length xac, .slice xb S.between.length xbc, .slice xp S.phases.length xpc, .slice xe S.eyes.length xec, .int .i64 S.watch, .int .i64 S.feed, .int .i64 S.heal, .int .i64 S.low, .int .i64 S.high, .slice xl S.plans.length xlc] #[.int .i64 S.id, .slice ng S.groups.length ngc, .slice na S.apart.length nac, v, .slice xp S.phases.length xpc, .slice xe S.eyes.length xec, .int .i64 S.watch, .int .i64 S.feed, .int .i64 S.heal, .int .i64 S.low, .int .i64 S.high, .slice xl S.plans.length xlc]) ∧ Hid (Tg w wr S.between k v) ∧ Hid (Nl w wr ng S.groups.length 3 (fun i j => grV (S.gr i) j)) ∧ Hid (Nl w wr na S.apart.length 1 (fun i _ => .int .u32 (S.ap i : Int))) ∧ Hid (∀ b, (ng = some b ∨ na = some b) → v.ownBlock ≠ some b.block)) (fun i _ => S.between.length - (intOf i).toNat)
  case atStart => exact ⟨0, .slice none 0 0, Nat.zero_le _, rfl, T3, Tg.start _ _ _, Lg, La, (fun b _ e => nomatch e)⟩
  case round =>
    clear Lg La T3
    obtain ⟨k, v, hk, rfl, T3, HG, Lg, La, HD⟩ := hrel
    have c3 : wr.cell? ⟨w.heap.size, 3, none⟩ = some (.slice xb S.between.length xbc) := T3.out.sb.cell (i := 3) (by omega)
    by_cases hlt : k < S.between.length
    · obtain ⟨bb, ob, ar, cr, eb, kb, hI⟩ := (HS.out.kept T3.out.kept).b.at_ hlt
      dsimp only at eb
      subst eb
      have hm := HBR.out k hlt
      have Td := Hid.mk' T3.out.drew
      obtain ⟨i0, hi0, hz0, hz1, hz2⟩ := info_parts Tryd.infoIn
      obtain ⟨a', cap, y, hrun, h1, h2, h3, h4⟩ := twin_run (w := wr.drew) (ty := 52) Tryd.uIns hi0 hz0 hz1 hz2 rfl (by omega) (by omega) (hI.kept (Kept.drew wr none)).lie hI.cap (by omega) (fun i j => rfl)
      have hJ : Ints y a' (S.between.getD k []).length cap (S.between.getD k []) := ⟨h1, rfl, h2, hI.rng⟩
      have hlw : w.heap.size + 1 + 1 < wr.drew.heap.size := Td.out.tb.lt
      obtain ⟨v', W5, hrun2, hG5, hk5, hv5⟩ := (HG.out.kept0 (Kept.drew wr none)).step (by omega) hlw h4 hJ h3
      obtain ⟨a5, c5, rfl⟩ := hG5.shape
      have hk4 : Kept y (y.alloc (slB a' (S.between.getD k []).length cap)) none := Kept.alloc _ _ _ (0, 0) _
      obtain ⟨rr, hown, _⟩ := HG.out.ex
      have hol : ∀ g, v.ownBlock = some g → w.heap.size + 1 + 1 < g := fun g e => by have := (own_lt hown g e).1; omega
      have Ty := Hid.mk' (Td.out.call h4)
      have Tz := Hid.mk' (Ty.out.call hk4)
      have T5 := Hid.mk' (Tz.out.grow hk5 hol)
      have hs4 := h4.size
      have hLb : ∀ b, (ng = some b ∨ na = some b) → b.block < wr.drew.heap.size := fun b e => by
        rcases e with e | e
        · exact (Lg.out.new b e).2
        · exact (La.out.new b e).2
      have hNg : ∀ b, ng = some b → ∀ g, v.ownBlock = some g → b.block ≠ g := fun b e g eg eb => HD.out b (.inl e) (by rw [eg, eb])
      have hNa : ∀ b, na = some b → ∀ g, v.ownBlock = some g → b.block ≠ g := fun b e g eg eb => HD.out b (.inr e) (by rw [eg, eb])
      have Lg5 : Hid (Nl w W5 ng S.groups.length 3 (fun i j => grV (S.gr i) j)) := (((Lg.out.kept0 (Kept.drew wr none)).kept0 h4).kept0 hk4).kept hk5 (fun g e => .inr (fun b eb => hNg b eb g e))
      have La5 : Hid (Nl w W5 na S.apart.length 1 (fun i _ => .int .u32 (S.ap i : Int))) := (((La.out.kept0 (Kept.drew wr none)).kept0 h4).kept0 hk4).kept hk5 (fun g e => .inr (fun b eb => hNa b eb g e))
      have HD5 : Hid (∀ b, (ng = some b ∨ na = some b) → (Value.slice a5 (k + 1) c5).ownBlock ≠ some b.block) := fun b e ec => by
        rcases hv5 with q | q
        · exact HD.out b e (q ▸ ec)
        · rw [q] at ec
          injection ec with ec
          have := hLb b e
          omega
      have HG5 := Hid.mk' hG5
      have HR1 := Hid.mk' hrun
      have HR2 := Hid.mk' hrun2
      have d3 : wr.drew.cell? ⟨w.heap.size, 3, none⟩ = some (.slice (some ⟨bb, ob, none⟩) S.between.length xbc) := Td.out.sb.cell (i := 3) (by omega)
      have e3 : y.cell? ⟨w.heap.size, 3, none⟩ = some (.slice (some ⟨bb, ob, none⟩) S.between.length xbc) := Ty.out.sb.cell (i := 3) (by omega)
      have f3 : (y.alloc (slB a' (S.between.getD k []).length cap)).cell? ⟨w.heap.size, 3, none⟩ = some (.slice (some ⟨bb, ob, none⟩) S.between.length xbc) := Tz.out.sb.cell (i := 3) (by omega)
      have g3 : W5.cell? ⟨w.heap.size, 3, none⟩ = some (.slice (some ⟨bb, ob, none⟩) S.between.length xbc) := T5.out.sb.cell (i := 3) (by omega)
      have kd : wr.drew.cell? ⟨bb, ob + k, none⟩ = some (.slice ar (S.between.getD k []).length cr) := cell_kept0 kb (Kept.drew wr none)
      have ky := cell_kept0 kd h4
      have kz := cell_kept0 ky hk4
      have hbs : bb < w.heap.size := by
        obtain ⟨b1, o1, _, _, e1, kb1, _⟩ := HS.out.b.at_ hlt
        dsimp only at e1
        injection e1 with e1; injection e1 with e1 e2
        subst e1
        exact block_lt kb1
      have k5 : W5.cell? ⟨bb, ob + k, none⟩ = some (.slice ar (S.between.getD k []).length cr) := cell_keptR kz hk5 (fun e => by have := hol _ e.symm; omega)
      have t0 : wr.drew.cell? ⟨w.heap.size + 1 + 1, 3, none⟩ = some v := Td.out.tb.cell (i := 3) (by omega)
      have t1 : y.cell? ⟨w.heap.size + 1 + 1, 3, none⟩ = some v := Ty.out.tb.cell (i := 3) (by omega)
      have t2 : (y.alloc (slB a' (S.between.getD k []).length cap)).cell? ⟨w.heap.size + 1 + 1, 3, none⟩ = some v := Tz.out.tb.cell (i := 3) (by omega)
      have t5 : W5.cell? ⟨w.heap.size + 1 + 1, 3, none⟩ = some v := T5.out.tb.cell (i := 3) (by omega)
      have z5 : W5.frozen? ⟨w.heap.size + 1 + 1, 3, none⟩ = false := T5.out.tb.frozen 3
      have T6 : Hid (Tst w (W5.setCell ⟨w.heap.size + 1 + 1, 3, none⟩ (.slice a5 (k + 1) c5)) #[.int .i64 S.id, .slice xg S.groups.length xgc, .slice xa S.apart.length xac, .slice (some ⟨bb, ob, none⟩) S.between.length xbc, .slice xp S.phases.length xpc, .slice xe S.eyes.length xec, .int .i64 S.watch, .int .i64 S.feed, .int .i64 S.heal, .int .i64 S.low, .int .i64 S.high, .slice xl S.plans.length xlc] #[.int .i64 S.id, .slice ng S.groups.length ngc, .slice na S.apart.length nac, .slice a5 (k + 1) c5, .slice xp S.phases.length xpc, .slice xe S.eyes.length xec, .int .i64 S.watch, .int .i64 S.feed, .int .i64 S.heal, .int .i64 S.low, .int .i64 S.high, .slice xl S.plans.length xlc]) := T5.out.put 3 _ (by simp)
      have HG6 : Hid (Tg w (W5.setCell ⟨w.heap.size + 1 + 1, 3, none⟩ (.slice a5 (k + 1) c5)) S.between (k + 1) (.slice a5 (k + 1) c5)) := HG5.out.kept (kept_setZ _ _ _ _) (fun g e => by injection e with e; exact e.symm)
      have Lg6 := Hid.mk' (Lg5.out.put 3 (.slice a5 (k + 1) c5))
      have La6 := Hid.mk' (La5.out.put 3 (.slice a5 (k + 1) c5))
      clear hI h1 h2 h3 hJ hrun hrun2 hG5 hk5 hv5 hown hol hLb hNg hNa hi0 hz0 hz1 hz2 i0 Td Ty Tz T5 h4 hk4
      generalize S.between.getD k [] = row at *
      go_wp2
      refine Code.wp_mono (Q := Rw ?A1 (W5.setCell ⟨w.heap.size + 1 + 1, 3, none⟩ (.slice a5 (k + 1) c5))) ?cont1 ?reg1
      case reg1 =>
        repeat (rename_i hh; clear hh)
        refine wp_region_held_drew (S := fun w' => w'.cell? ⟨w.heap.size, 3, none⟩ = some (.slice (some ⟨bb, ob, none⟩) S.between.length xbc) ∧ w'.cell? ⟨bb, ob + k, none⟩ = some (.slice ar row.length cr)) (by kernel_rfl) ⟨d3, kd⟩ (fun hHeld => ?_)
        refine held_take (i := 0) (v := ?v1) rfl rfl (by kernel_rfl) (by kernel_rfl) (by kernel_rfl) (fun _ _ _ h => h) (Or.inl ⟨by rfl, ?hy1⟩) hHeld ?rest1
        case hy1 => first | (intro w hSw; (try dsimp only at hSw); go_simp; done) | (intro w hSw; (try dsimp only at hSw); go_simp; with_reducible rfl)
        try simp only [List.setIfInBounds_toArray, List.set_cons_zero, List.set_cons_succ]
        refine held_take (i := 2) (v := ?v2) rfl rfl (by kernel_rfl) (by kernel_rfl) (by kernel_rfl) (fun _ _ _ h => h) (Or.inl ⟨by rfl, ?hy2⟩) hHeld ?rest2
        case hy2 => first | (intro w hSw; (try dsimp only at hSw); go_simp; done) | (intro w hSw; (try dsimp only at hSw); go_simp; with_reducible rfl)
        try simp only [List.setIfInBounds_toArray, List.set_cons_zero, List.set_cons_succ]
        refine held_take (i := 3) (v := ?v3) rfl rfl (by kernel_rfl) (by kernel_rfl) (by kernel_rfl) (fun _ _ _ h => h) (Or.inl ⟨by rfl, ?hy3⟩) hHeld ?rest3
        case hy3 => first | (intro w hSw; (try dsimp only at hSw); go_simp; done) | (intro w hSw; (try dsimp only at hSw); go_simp; with_reducible rfl)
        try simp only [List.setIfInBounds_toArray, List.set_cons_zero, List.set_cons_succ]
        refine held_take (i := 4) (v := ?v4) rfl rfl (by kernel_rfl) (by kernel_rfl) (by kernel_rfl) (fun _ _ _ h => h) (Or.inl ⟨by rfl, ?hy4⟩) hHeld ?rest4
        case hy4 => first | (intro w hSw; (try dsimp only at hSw); go_simp; done) | (intro w hSw; (try dsimp only at hSw); go_simp; with_reducible rfl)
        try simp only [List.setIfInBounds_toArray, List.set_cons_zero, List.set_cons_succ]
        refine held_take (i := 5) (v := ?v5) rfl rfl (by kernel_rfl) (by kernel_rfl) (by kernel_rfl) (fun _ _ _ h => h) (Or.inl ⟨by rfl, ?hy5⟩) hHeld ?rest5
        case hy5 => first | (intro w hSw; (try dsimp only at hSw); go_simp; done) | (intro w hSw; (try dsimp only at hSw); go_simp; with_reducible rfl)
        try simp only [List.setIfInBounds_toArray, List.set_cons_zero, List.set_cons_succ]
        refine held_take (i := 6) (v := ?v6) rfl rfl (by kernel_rfl) (by kernel_rfl) (by kernel_rfl) (fun _ _ _ h => h) (Or.inl ⟨by rfl, ?hy6⟩) hHeld ?rest6
        case hy6 => first | (intro w hSw; (try dsimp only at hSw); go_simp; done) | (intro w hSw; (try dsimp only at hSw); go_simp; with_reducible rfl)
        try simp only [List.setIfInBounds_toArray, List.set_cons_zero, List.set_cons_succ]
        refine wpAnyH_ready (rs := [1, 7]) (by kernel_rfl) (by simp) ?_
        refine AllReadyH.cons rfl (fun K hK => ?b1) (AllReadyH.cons rfl (fun K hK => ?b7) AllReadyH.nil)
        case b1 =>
          go_simp
          refine hK.out _ _ ⟨d3, kd⟩ (fun hHeld => ?_)
          clear hK K
          refine wpAnyH_ready (rs := [7]) (by kernel_rfl) (by simp) ?_
          refine AllReadyH.cons rfl (fun K hK => ?_) AllReadyH.nil
          rw [if_pos (by rfl)]
          refine wp_app _ _ _ (by rfl) (by rfl) (by rfl) HR1.out ?_
          try simp only [Act.put, List.setIfInBounds_toArray, List.set_cons_zero, List.set_cons_succ]
          refine hK.out _ _ ⟨e3, ky⟩ (fun hHeld => ?_)
          clear hK K
          refine wpAnyH_ready (rs := [8]) (by kernel_rfl) (by simp) ?_
          refine AllReadyH.cons rfl (fun K hK => ?_) AllReadyH.nil
          go_simp
          refine hK.out _ _ ⟨f3, kz⟩ (fun hHeld => ?_)
          clear hK K
          refine wpAnyH_ready (rs := [9]) (by kernel_rfl) (by simp) ?_
          refine AllReadyH.cons rfl (fun K hK => ?_) AllReadyH.nil
          rw [if_pos (by rfl)]
          refine wp_app _ _ _ (by rfl) (by rfl) (by rfl) HR2.out ?_
          try simp only [Act.put, List.setIfInBounds_toArray, List.set_cons_zero, List.set_cons_succ]
          refine hK.out _ _ ⟨g3, k5⟩ (fun hHeld => ?_)
          clear hK K
          refine held_take (i := 10) (v := ?v7) rfl rfl (by kernel_rfl) (by kernel_rfl) (by kernel_rfl) (fun _ _ _ h => h) (Or.inl ⟨by rfl, ?hy7⟩) hHeld ?rest7
          case hy7 => first | (intro w hSw; (try dsimp only at hSw); go_simp; done) | (intro w hSw; (try dsimp only at hSw); go_simp; with_reducible rfl)
          try simp only [List.setIfInBounds_toArray, List.set_cons_zero, List.set_cons_succ]
          refine wpAnyH_ready (rs := [11]) (by kernel_rfl) (by simp) ?_
          refine AllReadyH.cons rfl (fun K hK => ?_) AllReadyH.nil
          go_simp
          refine hK.out _ _ ⟨T6.out.sb.cell (i := 3) (by omega), cell_keptR k5 (kept_setZ _ _ _ _) (fun e => by injection e with e; omega)⟩ (fun hHeld => ?_)
          clear hK K
          refine wpAnyH_done (by kernel_rfl) ?_ _
          refine And.intro ?_ rfl
          with_reducible rfl
        case b7 =>
          rw [if_pos (by rfl)]
          refine wp_app _ _ _ (by rfl) (by rfl) (by rfl) HR1.out ?_
          try simp only [Act.put, List.setIfInBounds_toArray, List.set_cons_zero, List.set_cons_succ]
          refine hK.out _ _ ⟨e3, ky⟩ (fun hHeld => ?_)
          clear hK K
          refine wpAnyH_ready (rs := [1, 8]) (by kernel_rfl) (by simp) ?_
          refine AllReadyH.cons rfl (fun K hK => ?c1) (AllReadyH.cons rfl (fun K hK => ?c8) AllReadyH.nil)
          case c1 =>
            go_simp
            refine hK.out _ _ ⟨e3, ky⟩ (fun hHeld => ?_)
            clear hK K
            refine wpAnyH_ready (rs := [8]) (by kernel_rfl) (by simp) ?_
            refine AllReadyH.cons rfl (fun K hK => ?_) AllReadyH.nil
            go_simp
            refine hK.out _ _ ⟨f3, kz⟩ (fun hHeld => ?_)
            clear hK K
            refine wpAnyH_ready (rs := [9]) (by kernel_rfl) (by simp) ?_
            refine AllReadyH.cons rfl (fun K hK => ?_) AllReadyH.nil
            rw [if_pos (by rfl)]
            refine wp_app _ _ _ (by rfl) (by rfl) (by rfl) HR2.out ?_
            try simp only [Act.put, List.setIfInBounds_toArray, List.set_cons_zero, List.set_cons_succ]
            refine hK.out _ _ ⟨g3, k5⟩ (fun hHeld => ?_)
            clear hK K
            refine held_take (i := 10) (v := ?v8) rfl rfl (by kernel_rfl) (by kernel_rfl) (by kernel_rfl) (fun _ _ _ h => h) (Or.inl ⟨by rfl, ?hy8⟩) hHeld ?rest8
            case hy8 => first | (intro w hSw; (try dsimp only at hSw); go_simp; done) | (intro w hSw; (try dsimp only at hSw); go_simp; with_reducible rfl)
            try simp only [List.setIfInBounds_toArray, List.set_cons_zero, List.set_cons_succ]
            refine wpAnyH_ready (rs := [11]) (by kernel_rfl) (by simp) ?_
            refine AllReadyH.cons rfl (fun K hK => ?_) AllReadyH.nil
            go_simp
            refine hK.out _ _ ⟨T6.out.sb.cell (i := 3) (by omega), cell_keptR k5 (kept_setZ _ _ _ _) (fun e => by injection e with e; omega)⟩ (fun hHeld => ?_)
            clear hK K
            refine wpAnyH_done (by kernel_rfl) ?_ _
            refine And.intro ?_ rfl
            with_reducible rfl
          case c8 =>
            go_simp
            refine hK.out _ _ ⟨f3, kz⟩ (fun hHeld => ?_)
            clear hK K
            refine wpAnyH_ready (rs := [1]) (by kernel_rfl) (by simp) ?_
            refine AllReadyH.cons rfl (fun K hK => ?_) AllReadyH.nil
            go_simp
            refine hK.out _ _ ⟨f3, kz⟩ (fun hHeld => ?_)
            clear hK K
            refine wpAnyH_ready (rs := [9]) (by kernel_rfl) (by simp) ?_
            refine AllReadyH.cons rfl (fun K hK => ?_) AllReadyH.nil
            rw [if_pos (by rfl)]
            refine wp_app _ _ _ (by rfl) (by rfl) (by rfl) HR2.out ?_
            try simp only [Act.put, List.setIfInBounds_toArray, List.set_cons_zero, List.set_cons_succ]
            refine hK.out _ _ ⟨g3, k5⟩ (fun hHeld => ?_)
            clear hK K
            refine held_take (i := 10) (v := ?v9) rfl rfl (by kernel_rfl) (by kernel_rfl) (by kernel_rfl) (fun _ _ _ h => h) (Or.inl ⟨by rfl, ?hy9⟩) hHeld ?rest9
            case hy9 => first | (intro w hSw; (try dsimp only at hSw); go_simp; done) | (intro w hSw; (try dsimp only at hSw); go_simp; with_reducible rfl)
            try simp only [List.setIfInBounds_toArray, List.set_cons_zero, List.set_cons_succ]
            refine wpAnyH_ready (rs := [11]) (by kernel_rfl) (by simp) ?_
            refine AllReadyH.cons rfl (fun K hK => ?_) AllReadyH.nil
            go_simp
            refine hK.out _ _ ⟨T6.out.sb.cell (i := 3) (by omega), cell_keptR k5 (kept_setZ _ _ _ _) (fun e => by injection e with e; omega)⟩ (fun hHeld => ?_)
            clear hK K
            refine wpAnyH_done (by kernel_rfl) ?_ _
            refine And.intro ?_ rfl
            with_reducible rfl
      case cont1 =>
      intro e a'' w' hq
      obtain ⟨rfl, rfl, rfl⟩ := hq.out
      clear hq
      clear d3 e3 f3 g3 kd ky kz k5 t0 t1 t2 t5 z5
      go_wp2
      go_roundw
      case rel => exact ⟨k + 1, .slice a5 (k + 1) c5, by omega, by go_num, T6, HG6, Lg6, La6, HD5⟩
      case measure => simp [intOf]; omega
    · have e : k = S.between.length := by omega
      subst e
      obtain ⟨nb, nbc, rfl⟩ := HG.out.shape
      clear HD
      have c4 : (wr).cell? ⟨w.heap.size, 4, none⟩ = some (.slice xp S.phases.length xpc) := T3.out.sb.cell (i := 4) (by omega)
      obtain ⟨i0, hi0, hz0, hz1, hz2⟩ := info_parts Tryd.infoPh
      obtain ⟨np, npc, y3, hrun, g1, g2, g3, g4⟩ := twin_run (w := wr) (ty := 25) Tryd.uPhs hi0 hz0 hz1 hz2 rfl (by omega) (by omega) ((HS.out.kept T3.out.kept).p) (HS.out.pk) (by omega) (fun i j => (by unfold phV; split <;> rfl))
      have HR3 := Hid.mk' hrun
      have U3 := Hid.mk' (T3.out.call g4)
      have k3 : y3.cell? ⟨w.heap.size + 1 + 1, 4, none⟩ = some (.slice xp S.phases.length xpc) := U3.out.tb.cell (i := 4) (by omega)
      have z3 : y3.frozen? ⟨w.heap.size + 1 + 1, 4, none⟩ = false := U3.out.tb.frozen 4
      have Lp : Hid (Nl w y3 np _ 5 _) := ⟨g1, fun b e => ⟨(by have := (g3 b e).1; have := T3.out.tb.lt; omega), (g3 b e).2⟩⟩
      have Gp := Hid.mk' g2
      have Lg := Hid.mk' (Lg.out.kept0 g4)
      have La := Hid.mk' (La.out.kept0 g4)
      have HG := Hid.mk' (HG.out.kept0 g4)
      clear hrun g1 g2 g3 g4 hi0 hz0 hz1 hz2 i0
      go_wp2_with (first
        | (have hgo := HC11; clear hgo; go_at_call 11; refine (twinPlans_any (w := y4.setCell ⟨w.heap.size + 1 + 1, 5, none⟩ (.slice ne S.eyes.length nec)) (HS.out.kept T5.out.kept).l hl HLR.out).mono ?_; rintro e y5 ⟨nl, nlc, rfl, hPl, hkl⟩; have HPL := Hid.mk' hPl; have U5 := Hid.mk' (T5.out.call hkl); have Lg := Hid.mk' (Lg.out.kept0 hkl); have La := Hid.mk' (La.out.kept0 hkl); have HG := Hid.mk' (HG.out.kept0 hkl); have Lp := Hid.mk' (Lp.out.kept0 hkl); have Le := Hid.mk' (Le.out.kept0 hkl); clear hPl; have k0 : y5.cell? ⟨w.heap.size + 1 + 1, 0, none⟩ = some (.int .i64 S.id) := U5.out.tb.cell (i := 0) (by omega); have s0 : y5.cell? ⟨w.heap.size + 1, 0, none⟩ = some (.int .i64 0) := U5.out.rb.cell (i := 0) (by omega); have u0 : y5.frozen? ⟨w.heap.size + 1, 0, none⟩ = false := U5.out.rb.frozen 0; have k1 : y5.cell? ⟨w.heap.size + 1 + 1, 1, none⟩ = some (.slice ng S.groups.length ngc) := U5.out.tb.cell (i := 1) (by omega); have s1 : y5.cell? ⟨w.heap.size + 1, 1, none⟩ = some (.slice none 0 0) := U5.out.rb.cell (i := 1) (by omega); have u1 : y5.frozen? ⟨w.heap.size + 1, 1, none⟩ = false := U5.out.rb.frozen 1; have k2 : y5.cell? ⟨w.heap.size + 1 + 1, 2, none⟩ = some (.slice na S.apart.length nac) := U5.out.tb.cell (i := 2) (by omega); have s2 : y5.cell? ⟨w.heap.size + 1, 2, none⟩ = some (.slice none 0 0) := U5.out.rb.cell (i := 2) (by omega); have u2 : y5.frozen? ⟨w.heap.size + 1, 2, none⟩ = false := U5.out.rb.frozen 2; have k3 : y5.cell? ⟨w.heap.size + 1 + 1, 3, none⟩ = some (.slice nb S.between.length nbc) := U5.out.tb.cell (i := 3) (by omega); have s3 : y5.cell? ⟨w.heap.size + 1, 3, none⟩ = some (.slice none 0 0) := U5.out.rb.cell (i := 3) (by omega); have u3 : y5.frozen? ⟨w.heap.size + 1, 3, none⟩ = false := U5.out.rb.frozen 3; have k4 : y5.cell? ⟨w.heap.size + 1 + 1, 4, none⟩ = some (.slice np S.phases.length npc) := U5.out.tb.cell (i := 4) (by omega); have s4 : y5.cell? ⟨w.heap.size + 1, 4, none⟩ = some (.slice none 0 0) := U5.out.rb.cell (i := 4) (by omega); have u4 : y5.frozen? ⟨w.heap.size + 1, 4, none⟩ = false := U5.out.rb.frozen 4; have k5 : y5.cell? ⟨w.heap.size + 1 + 1, 5, none⟩ = some (.slice ne S.eyes.length nec) := U5.out.tb.cell (i := 5) (by omega); have s5 : y5.cell? ⟨w.heap.size + 1, 5, none⟩ = some (.slice none 0 0) := U5.out.rb.cell (i := 5) (by omega); have u5 : y5.frozen? ⟨w.heap.size + 1, 5, none⟩ = false := U5.out.rb.frozen 5; have k6 : y5.cell? ⟨w.heap.size + 1 + 1, 6, none⟩ = some (.int .i64 S.watch) := U5.out.tb.cell (i := 6) (by omega); have s6 : y5.cell? ⟨w.heap.size + 1, 6, none⟩ = some (.int .i64 0) := U5.out.rb.cell (i := 6) (by omega); have u6 : y5.frozen? ⟨w.heap.size + 1, 6, none⟩ = false := U5.out.rb.frozen 6; have k7 : y5.cell? ⟨w.heap.size + 1 + 1, 7, none⟩ = some (.int .i64 S.feed) := U5.out.tb.cell (i := 7) (by omega); have s7 : y5.cell? ⟨w.heap.size + 1, 7, none⟩ = some (.int .i64 0) := U5.out.rb.cell (i := 7) (by omega); have u7 : y5.frozen? ⟨w.heap.size + 1, 7, none⟩ = false := U5.out.rb.frozen 7; have k8 : y5.cell? ⟨w.heap.size + 1 + 1, 8, none⟩ = some (.int .i64 S.heal) := U5.out.tb.cell (i := 8) (by omega); have s8 : y5.cell? ⟨w.heap.size + 1, 8, none⟩ = some (.int .i64 0) := U5.out.rb.cell (i := 8) (by omega); have u8 : y5.frozen? ⟨w.heap.size + 1, 8, none⟩ = false := U5.out.rb.frozen 8; have k9 : y5.cell? ⟨w.heap.size + 1 + 1, 9, none⟩ = some (.int .i64 S.low) := U5.out.tb.cell (i := 9) (by omega); have s9 : y5.cell? ⟨w.heap.size + 1, 9, none⟩ = some (.int .i64 0) := U5.out.rb.cell (i := 9) (by omega); have u9 : y5.frozen? ⟨w.heap.size + 1, 9, none⟩ = false := U5.out.rb.frozen 9; have k10 : y5.cell? ⟨w.heap.size + 1 + 1, 10, none⟩ = some (.int .i64 S.high) := U5.out.tb.cell (i := 10) (by omega); have s10 : y5.cell? ⟨w.heap.size + 1, 10, none⟩ = some (.int .i64 0) := U5.out.rb.cell (i := 10) (by omega); have u10 : y5.frozen? ⟨w.heap.size + 1, 10, none⟩ = false := U5.out.rb.frozen 10; have k11 : y5.cell? ⟨w.heap.size + 1 + 1, 11, none⟩ = some (.slice xl S.plans.length xlc) := U5.out.tb.cell (i := 11) (by omega); have s11 : y5.cell? ⟨w.heap.size + 1, 11, none⟩ = some (.slice none 0 0) := U5.out.rb.cell (i := 11) (by omega); have u11 : y5.frozen? ⟨w.heap.size + 1, 11, none⟩ = false := U5.out.rb.frozen 11; have zz : y5.frozen? ⟨w.heap.size + 1 + 1, 11, none⟩ = false := U5.out.tb.frozen 11)
        | (have hgo := HR4; clear hgo; at_builtin; refine wpList_app (by rfl) _ _ _ (by rfl) (by rfl) (by rfl) HR4.out ?_; clear HR4; have T5 : Hid (Tst w (y4.setCell ⟨w.heap.size + 1 + 1, 5, none⟩ (.slice ne S.eyes.length nec)) #[.int .i64 S.id, .slice xg S.groups.length xgc, .slice xa S.apart.length xac, .slice xb S.between.length xbc, .slice xp S.phases.length xpc, .slice xe S.eyes.length xec, .int .i64 S.watch, .int .i64 S.feed, .int .i64 S.heal, .int .i64 S.low, .int .i64 S.high, .slice xl S.plans.length xlc] #[.int .i64 S.id, .slice ng S.groups.length ngc, .slice na S.apart.length nac, .slice nb S.between.length nbc, .slice np S.phases.length npc, .slice ne S.eyes.length nec, .int .i64 S.watch, .int .i64 S.feed, .int .i64 S.heal, .int .i64 S.low, .int .i64 S.high, .slice xl S.plans.length xlc]) := U4.out.put 5 _ (by simp); have Lg := Hid.mk' (Lg.out.put 5 (.slice ne S.eyes.length nec)); have La := Hid.mk' (La.out.put 5 (.slice ne S.eyes.length nec)); have HG := Hid.mk' (HG.out.put 5 (.slice ne S.eyes.length nec)); have Lp := Hid.mk' (Lp.out.put 5 (.slice ne S.eyes.length nec)); have Le := Hid.mk' (Le.out.put 5 (.slice ne S.eyes.length nec)); clear U4; have c11 : (y4.setCell ⟨w.heap.size + 1 + 1, 5, none⟩ (.slice ne S.eyes.length nec)).cell? ⟨w.heap.size, 11, none⟩ = some (.slice xl S.plans.length xlc) := T5.out.sb.cell (i := 11) (by omega); have HC11 := trivial)
        | (have hgo := HR3; clear hgo; at_builtin; refine wpList_app (by rfl) _ _ _ (by rfl) (by rfl) (by rfl) HR3.out ?_; clear HR3; have T4 : Hid (Tst w (y3.setCell ⟨w.heap.size + 1 + 1, 4, none⟩ (.slice np S.phases.length npc)) #[.int .i64 S.id, .slice xg S.groups.length xgc, .slice xa S.apart.length xac, .slice xb S.between.length xbc, .slice xp S.phases.length xpc, .slice xe S.eyes.length xec, .int .i64 S.watch, .int .i64 S.feed, .int .i64 S.heal, .int .i64 S.low, .int .i64 S.high, .slice xl S.plans.length xlc] #[.int .i64 S.id, .slice ng S.groups.length ngc, .slice na S.apart.length nac, .slice nb S.between.length nbc, .slice np S.phases.length npc, .slice xe S.eyes.length xec, .int .i64 S.watch, .int .i64 S.feed, .int .i64 S.heal, .int .i64 S.low, .int .i64 S.high, .slice xl S.plans.length xlc]) := U3.out.put 4 _ (by simp); have Lg := Hid.mk' (Lg.out.put 4 (.slice np S.phases.length npc)); have La := Hid.mk' (La.out.put 4 (.slice np S.phases.length npc)); have HG := Hid.mk' (HG.out.put 4 (.slice np S.phases.length npc)); have Lp := Hid.mk' (Lp.out.put 4 (.slice np S.phases.length npc)); clear U3; have c5 : (y3.setCell ⟨w.heap.size + 1 + 1, 4, none⟩ (.slice np S.phases.length npc)).cell? ⟨w.heap.size, 5, none⟩ = some (.slice xe S.eyes.length xec) := T4.out.sb.cell (i := 5) (by omega); obtain ⟨i0, hi0, hz0, hz1, hz2⟩ := info_parts Tryd.infoEy; obtain ⟨ne, nec, y4, hrun, g1, g2, g3, g4⟩ := twin_run (w := y3.setCell ⟨w.heap.size + 1 + 1, 4, none⟩ (.slice np S.phases.length npc)) (ty := 26) Tryd.uEys hi0 hz0 hz1 hz2 rfl (by omega) (by omega) ((HS.out.kept T4.out.kept).e) (HS.out.ek) (by omega) (fun i j => (by unfold eyV; split <;> rfl)); have HR4 := Hid.mk' hrun; have U4 := Hid.mk' (T4.out.call g4); have k4 : y4.cell? ⟨w.heap.size + 1 + 1, 5, none⟩ = some (.slice xe S.eyes.length xec) := U4.out.tb.cell (i := 5) (by omega); have z4 : y4.frozen? ⟨w.heap.size + 1 + 1, 5, none⟩ = false := U4.out.tb.frozen 5; have Le : Hid (Nl w y4 ne _ 4 _) := ⟨g1, fun b e => ⟨(by have := (g3 b e).1; have := T4.out.tb.lt; omega), (g3 b e).2⟩⟩; have Ge := Hid.mk' g2; have Lg := Hid.mk' (Lg.out.kept0 g4); have La := Hid.mk' (La.out.kept0 g4); have HG := Hid.mk' (HG.out.kept0 g4); have Lp := Hid.mk' (Lp.out.kept0 g4); clear hrun g1 g2 g3 g4 hi0 hz0 hz1 hz2 i0))
      have T6 : Hid (Tst w (y5.setCell ⟨w.heap.size + 1 + 1, 11, none⟩ (.slice nl S.plans.length nlc)) #[.int .i64 S.id, .slice xg S.groups.length xgc, .slice xa S.apart.length xac, .slice xb S.between.length xbc, .slice xp S.phases.length xpc, .slice xe S.eyes.length xec, .int .i64 S.watch, .int .i64 S.feed, .int .i64 S.heal, .int .i64 S.low, .int .i64 S.high, .slice xl S.plans.length xlc] #[.int .i64 S.id, .slice ng S.groups.length ngc, .slice na S.apart.length nac, .slice nb S.between.length nbc, .slice np S.phases.length npc, .slice ne S.eyes.length nec, .int .i64 S.watch, .int .i64 S.feed, .int .i64 S.heal, .int .i64 S.low, .int .i64 S.high, .slice nl S.plans.length nlc]) := U5.out.put 11 _ (by simp)
      have Lg := Hid.mk' (Lg.out.put 11 (.slice nl S.plans.length nlc))
      have La := Hid.mk' (La.out.put 11 (.slice nl S.plans.length nlc))
      have HG := Hid.mk' (HG.out.put 11 (.slice nl S.plans.length nlc))
      have Lp := Hid.mk' (Lp.out.put 11 (.slice nl S.plans.length nlc))
      have Le := Hid.mk' (Le.out.put 11 (.slice nl S.plans.length nlc))
      have HQ := Hid.mk' (row12Z (lo := w.heap.size + 1 + 1) T6.out.rb T6.out.kept (by omega) (by omega) (.int .i64 S.id) (.slice ng S.groups.length ngc) (.slice na S.apart.length nac) (.slice nb S.between.length nbc) (.slice np S.phases.length npc) (.slice ne S.eyes.length nec) (.int .i64 S.watch) (.int .i64 S.feed) (.int .i64 S.heal) (.int .i64 S.low) (.int .i64 S.high) (.slice nl S.plans.length nlc))
      have hz5 : w.heap.size + 1 + 1 < (y4.setCell ⟨w.heap.size + 1 + 1, 5, none⟩ (.slice ne S.eyes.length nec)).heap.size := T5.out.tb.lt
      have HL5 : Hid (LtrZ (y4.setCell ⟨w.heap.size + 1 + 1, 5, none⟩ (.slice ne S.eyes.length nec)).heap.size y5 (y5.setCell ⟨w.heap.size + 1 + 1, 11, none⟩ (.slice nl S.plans.length nlc))) := LtrZ.set y5 (by omega) 11 _
      have hz6 : w.heap.size + 1 + 1 ≤ (y4.setCell ⟨w.heap.size + 1 + 1, 5, none⟩ (.slice ne S.eyes.length nec)).heap.size := by omega
      clear k0 s0 u0 k1 s1 u1 k2 s2 u2 k3 s3 u3 k4 s4 u4 k5 s5 u5 k6 s6 u6 k7 s7 u7 k8 s8 u8 k9 s9 u9 k10 s10 u10 k11 s11 u11 zz c11 c5 c4
      generalize (((((((((((((y5.setCell ⟨w.heap.size + 1 + 1, 11, none⟩ (.slice nl S.plans.length nlc)).setCell ⟨w.heap.size + 1, 0, none⟩ (.int .i64 S.id)).setCell ⟨w.heap.size + 1, 1, none⟩ (.slice ng S.groups.length ngc)).setCell ⟨w.heap.size + 1, 2, none⟩ (.slice na S.apart.length nac)).setCell ⟨w.heap.size + 1, 3, none⟩ (.slice nb S.between.length nbc)).setCell ⟨w.heap.size + 1, 4, none⟩ (.slice np S.phases.length npc)).setCell ⟨w.heap.size + 1, 5, none⟩ (.slice ne S.eyes.length nec)).setCell ⟨w.heap.size + 1, 6, none⟩ (.int .i64 S.watch)).setCell ⟨w.heap.size + 1, 7, none⟩ (.int .i64 S.feed)).setCell ⟨w.heap.size + 1, 8, none⟩ (.int .i64 S.heal)).setCell ⟨w.heap.size + 1, 9, none⟩ (.int .i64 S.low)).setCell ⟨w.heap.size + 1, 10, none⟩ (.int .i64 S.high)).setCell ⟨w.heap.size + 1, 11, none⟩ (.slice nl S.plans.length nlc)) = WF at *
      generalize (y5.setCell ⟨w.heap.size + 1 + 1, 11, none⟩ (.slice nl S.plans.length nlc)) = x6 at *
      obtain ⟨hkF, hqF, q0, q1, q2, q3, q4, q5, q6, q7, q8, q9, q10, q11⟩ := HQ.out
      refine bodyPost_ret (v := .agg #[.int .i64 S.id, .slice ng S.groups.length ngc, .slice na S.apart.length nac, .slice nb S.between.length nbc, .slice np S.phases.length npc, .slice ne S.eyes.length nec, .int .i64 S.watch, .int .i64 S.feed, .int .i64 S.heal, .int .i64 S.low, .int .i64 S.high, .slice nl S.plans.length nlc]) (by simp [results, Tryd.results5, go_sem, q0, q1, q2, q3, q4, q5, q6, q7, q8, q9, q10, q11]) rfl ?_
      clear q0 q1 q2 q3 q4 q5 q6 q7 q8 q9 q10 q11
      have hqG : LtrZ (w.heap.size + 1 + 1 + 1) x6 WF := hqF.up (by omega)
      refine ⟨⟨ng, ngc, na, nac, nb, nbc, np, npc, ne, nec, nl, nlc⟩, rfl, fun w'' qq => ⟨Lg.out.ltr (hqG.tr qq), La.out.ltr (hqG.tr qq), HG.out.done rfl (hqG.tr qq), Lp.out.ltr (hqG.tr qq), Le.out.ltr (hqG.tr qq), HPL.out w'' (HL5.out.tr ((hqF.up hz6).tr (qq.up (by omega)))), Gg.out, Ga.out, Gp.out, Ge.out, HS.out.gr, HS.out.ar, HS.out.pr, HS.out.er, HS.out.nr⟩, hkF⟩
theorem twin_any {X : Sa} {S : St} {w : World} (h : Sat w X S) (hg : S.groups.length ≤ 60) (ha : S.apart.length ≤ 60) (hb : S.between.length ≤ 40) (hp : S.phases.length ≤ 60) (he : S.eyes.length ≤ 60) (hl : S.plans.length ≤ 40) (hbr : ∀ i, i < S.between.length → (S.between.getD i []).length ≤ 60) (hlr : ∀ i, i < S.plans.length → (S.plans.getD i q0).splits.length ≤ 40) : Calls Tryd.prog 5 #[siteV X S] w fun e w' => TwS w S e w' :=
  (twin_new h hg ha hb hp he hl hbr hlr).mono fun e w' ⟨X, h1, h2, h3⟩ => ⟨X, h1, h2 w' LtrZ.rfl', h3⟩

end Go.Proofs.YtcjkghajeohfjaaDoor

