/-
  Texts joined: some of those that the proofs of this seat stand on.
-/
import Derived.Test.YtfhmfanmnhclfaaDoorCondJ
/-
  THE DOCUMENT'S OWN ANSWER, part one: numbers between others; what is apart and between; which sites are great.
-/
namespace Go.Proofs.YtfhmfanmnhclfaaDoor
open Go.RowKit Go.Lib Go.Deep
set_option linter.unusedVariables false
set_option linter.unusedSimpArgs false

theorem rin_any (n lo hi : Int) (w : World) : Calls Tryd.prog 60 #[.int .i64 n, .int .i64 lo, .int .i64 hi] w fun e w' => e = .returned (.bool (inB n lo hi)) ∧ w' = w := by
  go_enter Tryd.func60, Tryd.ntmps60
  go_wp2
  all_goals
    go_ret
    refine ⟨?_, rfl⟩
    simp [inB, *] <;> (first | omega | (intros; omega))
theorem rin_is {n lo hi : Int} {b : Bool} {w : World} (h : inB n lo hi = b) : Calls Tryd.prog 60 #[.int .i64 n, .int .i64 lo, .int .i64 hi] w fun e w' => e = .returned (.bool b) ∧ w' = w := by
  rw [← h]; exact rin_any n lo hi w
set_option maxRecDepth 100000 in
set_option maxHeartbeats 1000000 in
theorem rapart_yes {X : Sa} {S : St} {w : World} (h : Sat w X S) (a b : Nat) (ha : a < S.apart.length) (hb : b < 32) : Calls Tryd.prog 96 #[siteV X S, .int .i64 a, .int .i64 b] w fun e w' => e = .returned (.bool ((S.ap a).testBit b)) ∧ Kept w w' none := by
  have hkA : Kept w (w.alloc (.cells #[.int .i64 S.id, .slice X.g S.groups.length X.gc, .slice X.a S.apart.length X.ac, .slice X.b S.between.length X.bc, .slice X.p S.phases.length X.pc, .slice X.e S.eyes.length X.ec, .int .i64 S.watch, .int .i64 S.feed, .int .i64 S.heal, .int .i64 S.low, .int .i64 S.high, .slice X.l S.plans.length X.lc] 35)) none := Kept.alloc _ _ _ _ _
  have HK := Hid.mk' hkA
  obtain ⟨xg, xgc, xa, xac, xb, xbc, xp, xpc, xe, xec, xl, xlc⟩ := X
  obtain ⟨ba, oa, ea, hca⟩ := h.apAt (n := S.apart.length) (by omega) (by omega)
  dsimp only at ea
  subst ea
  have ka := hca a ha
  have hba := block_lt ka
  have har := h.apr a
  have hak := h.ak.max
  have hal := h.ak.room
  have HB := Hid.mk' (has_in (S := S.ap a) hb)
  clear h hkA hca
  go_enter Tryd.func96, Tryd.ntmps96
  go_wp2_with (go_at_call 97; refine (rhas_any _ _ _ har).mono ?_; rintro e w3 ⟨rfl, rfl⟩; rw [HB.out])
  go_ret
  exact ⟨rfl, HK.out⟩
/-- No list of it is long. -/
structure Few (S : St) : Prop where
  g : S.groups.length ≤ 40
  a : S.apart.length ≤ 40
  b : S.between.length ≤ 40
  p : S.phases.length ≤ 40
  e : S.eyes.length ≤ 60
  l : S.plans.length ≤ 40
  br : ∀ i, i < S.between.length → (S.between.getD i []).length ≤ 40
  lr : ∀ i, i < S.plans.length → (S.plans.getD i q0).splits.length ≤ 40
def GreatP (S : St) (w : World) (e : Ending) (w' : World) : Prop := ∃ g, e = .returned (.bool g) ∧ (g = false → Few S) ∧ Kept w w' none
theorem GreatP.of {S : St} {w w' : World} (g : Bool) (h : g = false → Few S) (k : Kept w w' none) : GreatP S w (.returned (.bool g)) w' := ⟨g, rfl, h, k⟩
set_option maxRecDepth 100000 in
set_option maxHeartbeats 2000000 in
theorem rgreat_any {X : Sa} {S : St} {w : World} (h : Sat w X S) : Calls Tryd.prog 14 #[siteV X S] w fun e w' => GreatP S w e w' := by
  have hkA : Kept w (w.alloc (.cells #[.int .i64 S.id, .slice X.g S.groups.length X.gc, .slice X.a S.apart.length X.ac, .slice X.b S.between.length X.bc, .slice X.p S.phases.length X.pc, .slice X.e S.eyes.length X.ec, .int .i64 S.watch, .int .i64 S.feed, .int .i64 S.heal, .int .i64 S.low, .int .i64 S.high, .slice X.l S.plans.length X.lc] 35)) none := Kept.alloc _ _ _ _ _
  have HSB := Hid.mk' (sbox_alloc h 35)
  have HK := Hid.mk' hkA
  have hg9 : S.groups.length ≤ 9223372036854775807 := by have := h.gk.room; have := h.gk.max; omega
  have ha9 : S.apart.length ≤ 9223372036854775807 := by have := h.ak.room; have := h.ak.max; omega
  have hb9 : S.between.length ≤ 9223372036854775807 := by have := h.b.cap.room; have := h.b.cap.max; omega
  have hp9 : S.phases.length ≤ 9223372036854775807 := by have := h.pk.room; have := h.pk.max; omega
  have he9 : S.eyes.length ≤ 9223372036854775807 := by have := h.ek.room; have := h.ek.max; omega
  have hl9 : S.plans.length ≤ 9223372036854775807 := by have := h.l.cap.room; have := h.l.cap.max; omega
  clear h hkA
  go_enter Tryd.func14, Tryd.ntmps14
  by_cases h1 : 40 < S.groups.length
  case pos => go_wp2; go_ret; exact GreatP.of true (fun e => (nomatch e)) HK.out
  by_cases h2 : 40 < S.apart.length
  case pos => go_wp2; go_ret; exact GreatP.of true (fun e => (nomatch e)) HK.out
  by_cases h3 : 40 < S.between.length
  case pos => go_wp2; go_ret; exact GreatP.of true (fun e => (nomatch e)) HK.out
  by_cases h4 : 40 < S.phases.length
  case pos => go_wp2; go_ret; exact GreatP.of true (fun e => (nomatch e)) HK.out
  by_cases h5 : 60 < S.eyes.length
  case pos => go_wp2; go_ret; exact GreatP.of true (fun e => (nomatch e)) HK.out
  by_cases h6 : 40 < S.plans.length
  case pos => go_wp2; go_ret; exact GreatP.of true (fun e => (nomatch e)) HK.out
  go_wp2
  generalize hW : (w.alloc (.cells #[.int .i64 S.id, .slice X.g S.groups.length X.gc, .slice X.a S.apart.length X.ac, .slice X.b S.between.length X.bc, .slice X.p S.phases.length X.pc, .slice X.e S.eyes.length X.ec, .int .i64 S.watch, .int .i64 S.feed, .int .i64 S.heal, .int .i64 S.low, .int .i64 S.high, .slice X.l S.plans.length X.lc] 35)) = W at *
  clear hW
  go_loopw [3] (fun i wr => ∃ k : Nat, k ≤ S.between.length ∧ i = .int .i64 k ∧ Hid (∀ j, j < k → (S.between.getD j []).length ≤ 40) ∧ wr = W) (fun i _ => S.between.length - (intOf i).toNat)
  case atStart => exact ⟨0, Nat.zero_le _, rfl, (fun j hj => by omega), rfl⟩
  case round =>
    obtain ⟨k, hk, rfl, HJ, rfl⟩ := hrel
    by_cases hlt : k < S.between.length
    · have c3 := HSB.out.c3
      obtain ⟨ba, oa, ar, cr, ea, kb, hI⟩ := HSB.out.sat.b.at_ hlt
      have hI1 := hI.cap.room
      have hI2 := hI.cap.max
      clear hI
      rw [ea] at c3
      generalize hm : (S.between.getD k []).length = m at *
      have HM := Hid.mk' hm
      clear hm
      by_cases hx : 40 < m
      case pos => go_wp2; go_ret; exact GreatP.of true (fun e => (nomatch e)) HK.out
      go_wp2
      go_roundw
      case rel => exact ⟨k + 1, by omega, by go_num, (fun j hj => (by
        by_cases e : j = k
        · subst e; rw [HM.out]; omega
        · exact HJ.out j (by omega))), trivial⟩
      case measure => simp [intOf]; omega
    · have e : k = S.between.length := by omega
      subst e
      have c3 := HSB.out.c3
      go_wp2
      go_loopw [4] (fun i wx => ∃ k : Nat, k ≤ S.plans.length ∧ i = .int .i64 k ∧ Hid (∀ j, j < k → (S.plans.getD j q0).splits.length ≤ 40) ∧ wx = wr) (fun i _ => S.plans.length - (intOf i).toNat)
      case atStart => exact ⟨0, Nat.zero_le _, rfl, (fun j hj => by omega), rfl⟩
      case round =>
        obtain ⟨k, hk, rfl, HL, rfl⟩ := hrel
        clear c3
        have c11 := HSB.out.c11
        by_cases hlt : k < S.plans.length
        · obtain ⟨pb, off, a', c', ea, p0, p1, p2, hI⟩ := HSB.out.sat.l.at_ hlt
          have hI1 := hI.cap.room
          have hI2 := hI.cap.max
          clear hI p0 p1
          rw [ea] at c11
          generalize hm : (S.plans.getD k q0).splits.length = m at *
          have HM := Hid.mk' hm
          clear hm
          by_cases hx : 40 < m
          case pos => go_wp2; go_ret; exact GreatP.of true (fun e => (nomatch e)) HK.out
          go_wp2
          go_roundw
          case rel => exact ⟨k + 1, by omega, by go_num, (fun j hj => (by
            by_cases e : j = k
            · subst e; rw [HM.out]; omega
            · exact HL.out j (by omega))), trivial⟩
          case measure => simp [intOf]; omega
        · have e : k = S.plans.length := by omega
          subst e
          go_wp2
          go_ret
          exact GreatP.of false (fun _ => ⟨by omega, by omega, by omega, by omega, by omega, by omega, HJ.out, HL.out⟩) HK.out

end Go.Proofs.YtfhmfanmnhclfaaDoor

