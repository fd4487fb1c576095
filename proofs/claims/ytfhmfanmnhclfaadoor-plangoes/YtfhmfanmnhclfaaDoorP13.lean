import Derived.Test.YtfhmfanmnhclfaaDoorP12
namespace Go.Proofs.YtfhmfanmnhclfaaDoor
set_option linter.unusedVariables false
set_option linter.unusedSimpArgs false
open Go.RowKit Go.Lib Go.Deep

/-- The pairs (in order) ahead of a place. -/
def PairsP (S : St) (Q : Nat → Nat → Prop) (a b : Nat) (x : Int) : Prop := ∃ a' b', (a' < a ∨ a' = a ∧ b' < b) ∧ b' < S.groups.length ∧ Q a' b' ∧ x = S.bt a' b'
theorem pairs_start (S : St) (Q : Nat → Nat → Prop) : IsMost (PairsP S Q 0 0) 0 :=
  IsMost.none.congr (fun x => ⟨fun h => h.elim, fun ⟨a', b', h, _⟩ => by omega⟩)
theorem pairs_yes {S : St} {Q : Nat → Nat → Prop} {a b : Nat} {m : Int} (h : IsMost (PairsP S Q a b) m) (hb : b < S.groups.length) (hq : Q a b) : IsMost (PairsP S Q a (b + 1)) (max m (S.bt a b)) := by
  refine (h.more (S.bt a b)).congr (fun x => ⟨?_, ?_⟩)
  · rintro (⟨a', b', h1, h2, h3, rfl⟩ | rfl)
    · exact ⟨a', b', by omega, h2, h3, rfl⟩
    · exact ⟨a, b, by omega, hb, hq, rfl⟩
  · rintro ⟨a', b', h1, h2, h3, rfl⟩
    by_cases he : a' = a ∧ b' = b
    · obtain ⟨rfl, rfl⟩ := he
      exact .inr rfl
    · exact .inl ⟨a', b', by omega, h2, h3, rfl⟩
theorem pairs_no {S : St} {Q : Nat → Nat → Prop} {a b : Nat} {m : Int} (h : IsMost (PairsP S Q a b) m) (hq : ¬ Q a b) : IsMost (PairsP S Q a (b + 1)) m := by
  refine h.congr (fun x => ⟨?_, ?_⟩)
  · rintro ⟨a', b', h1, h2, h3, rfl⟩
    exact ⟨a', b', by omega, h2, h3, rfl⟩
  · rintro ⟨a', b', h1, h2, h3, rfl⟩
    by_cases he : a' = a ∧ b' = b
    · obtain ⟨rfl, rfl⟩ := he
      exact absurd h3 hq
    · exact ⟨a', b', by omega, h2, h3, rfl⟩
theorem pairs_row {S : St} {Q : Nat → Nat → Prop} {a : Nat} {m : Int} (h : IsMost (PairsP S Q a S.groups.length) m) : IsMost (PairsP S Q (a + 1) 0) m := by
  refine h.congr (fun x => ⟨?_, ?_⟩)
  · rintro ⟨a', b', h1, h2, h3, rfl⟩
    exact ⟨a', b', by omega, h2, h3, rfl⟩
  · rintro ⟨a', b', h1, h2, h3, rfl⟩
    exact ⟨a', b', by omega, h2, h3, rfl⟩
theorem flat_iff {S : St} (h : Shape S) (x : Int) : x ∈ S.between.flatten ↔ PairsP S (fun _ _ => True) S.groups.length 0 x := by
  have hn := h.ok.nb
  rw [List.mem_flatten]
  constructor
  · rintro ⟨l, hl, hx⟩
    obtain ⟨a, ha, rfl⟩ := List.getElem_of_mem hl
    obtain ⟨b, hb, rfl⟩ := List.getElem_of_mem hx
    have hr := h.row a (by omega)
    have hg : S.between.getD a [] = S.between[a] := by simp [List.getD_eq_getElem?_getD, List.getElem?_eq_getElem ha]
    rw [hg] at hr
    refine ⟨a, b, by omega, by omega, trivial, ?_⟩
    unfold St.bt
    rw [hg]
    simp [List.getD_eq_getElem?_getD, List.getElem?_eq_getElem hb]
  · rintro ⟨a, b, h1, h2, _, rfl⟩
    have ha : a < S.between.length := by omega
    have hr := h.row a (by omega)
    refine ⟨S.between.getD a [], getD_mem ha, ?_⟩
    unfold St.bt
    exact getD_mem (by omega)
theorem worst_is {S : St} (h : Shape S) : IsMost (PairsP S (fun _ _ => True) S.groups.length 0) (worstM S) := by
  unfold worstM
  exact (mostL_is _).congr (fun x => flat_iff h x)

set_option maxRecDepth 100000 in
set_option maxHeartbeats 2000000 in
theorem rap8_any {X : Sa} {S : St} {w : World} (h : Sat w X S) (a b : Nat) (ha : a < S.apart.length) (hb : b < 32) : Calls Tryd.prog 64 #[siteV X S, .int .i64 (a : Int), .int .i64 (b : Int)] w fun e w' => e = .returned (.bool ((S.ap a).testBit b)) ∧ Kept w w' none := by
  have hbit := has_bit (S.ap a) b (h.apr a)
  have hkA : Kept w (w.alloc (.cells #[.int .i64 S.id, .slice X.g S.groups.length X.gc, .slice X.a S.apart.length X.ac, .slice X.b S.between.length X.bc, .slice X.p S.phases.length X.pc, .slice X.e S.eyes.length X.ec, .int .i64 S.watch, .int .i64 S.feed, .int .i64 S.heal, .int .i64 S.low, .int .i64 S.high, .slice X.l S.plans.length X.lc] 35)) none := Kept.alloc _ _ _ _ _
  have HK := Hid.mk' hkA
  obtain ⟨xg, xgc, xa, xac, xb, xbc, xp, xpc, xe, xec, xl, xlc⟩ := X
  obtain ⟨ba, oa, ea, hca⟩ := h.apAt (n := S.apart.length) (by omega) (by omega)
  dsimp only at ea
  subst ea
  have ka := hca a ha
  have hba := block_lt ka
  have har := h.apr a
  have hak := h.ak.max
  have hal := h.ak.room
  have hbu : ((b : Int) % 18446744073709551616) = (b : Int) := by omega
  clear h hkA hca
  generalize S.ap a = P at *
  have HBIT := Hid.mk' hbit
  clear hbit
  go_enter Tryd.func64, Tryd.ntmps64
  go_wp2
  go_ret
  exact ⟨by rw [← HBIT.out]; rfl, HK.out⟩
set_option maxRecDepth 100000 in
set_option maxHeartbeats 2000000 in
theorem rbt8_any {X : Sa} {S : St} {w : World} (h : Sat w X S) (hSh : Shape S) {a b : Nat} (ha : a < S.groups.length) (hb : b < S.groups.length) : Calls Tryd.prog 65 #[siteV X S, .int .i64 (a : Int), .int .i64 (b : Int)] w fun e w' => e = .returned (.int .i64 (S.bt a b)) ∧ Kept w w' none := by
  have hkA : Kept w (w.alloc (.cells #[.int .i64 S.id, .slice X.g S.groups.length X.gc, .slice X.a S.apart.length X.ac, .slice X.b S.between.length X.bc, .slice X.p S.phases.length X.pc, .slice X.e S.eyes.length X.ec, .int .i64 S.watch, .int .i64 S.feed, .int .i64 S.heal, .int .i64 S.low, .int .i64 S.high, .slice X.l S.plans.length X.lc] 35)) none := Kept.alloc _ _ _ _ _
  have HK := Hid.mk' hkA
  obtain ⟨xg, xgc, xa, xac, xb, xbc, xp, xpc, xe, xec, xl, xlc⟩ := X
  obtain ⟨bb, ob, br, or, c, eb, kb, hcr, kr⟩ := h.btAt hSh ha hb
  dsimp only at eb
  subst eb
  have hab : (a : Int) < (S.between.length : Int) := by have := hSh.ok.nb; omega
  have hbb := block_lt kb
  have hbr := block_lt kr
  have hbc := h.b.cap.room
  clear h hkA hSh
  generalize S.bt a b = v at *
  go_enter Tryd.func65, Tryd.ntmps65
  go_wp2
  go_ret
  exact ⟨rfl, HK.out⟩

/-! ### flashes -/
/-! ### meet -/
/-! ### Great -/
end Go.Proofs.YtfhmfanmnhclfaaDoor
