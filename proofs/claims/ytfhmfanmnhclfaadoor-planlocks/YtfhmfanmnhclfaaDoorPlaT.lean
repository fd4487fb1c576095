/-
  THE CONTRACT of short, of the statements (made by a program).
-/
import Derived.Test.YtfhmfanmnhclfaaDoorPlnA
import Derived.Test.YtfhmfanmnhclfaaDoorRefA8
namespace Go.Proofs.YtfhmfanmnhclfaaDoor
open Go.RowKit Go.Lib Go.Deep
set_option linter.unusedVariables false
set_option linter.unusedSimpArgs false


theorem drewN_add (w : World) (m n : Nat) : (w.drewN m).drewN n = w.drewN (m + n) := by unfold World.drewN; simp [Nat.add_assoc]
/-- Each between and each yellow is below the Min of each phase. -/
def ShF (S : St) : Prop := ∀ i, i < S.phases.length → ∀ a, a < S.groups.length → (S.gr a).yellow < (S.ph i).min ∧ ∀ b, b < S.groups.length → S.bt a b < (S.ph i).min
def Sh2 (S : St) (i q : Nat) : Prop := ∀ a, a < q → (S.gr a).yellow < (S.ph i).min ∧ ∀ b, b < S.groups.length → S.bt a b < (S.ph i).min
def Sh1 (S : St) (k : Nat) : Prop := ∀ i, i < k → Sh2 S i S.groups.length
theorem Sh1.more {S : St} {k : Nat} (h : Sh1 S k) (q : Sh2 S k S.groups.length) : Sh1 S (k + 1) := fun i hi => by
  by_cases e : i = k
  · rw [e]; exact q
  · exact h i (by omega)
theorem Sh2.more {S : St} {i q : Nat} (h : Sh2 S i q) (hy : (S.gr q).yellow < (S.ph i).min) (hb : ∀ b, b < S.groups.length → S.bt q b < (S.ph i).min) : Sh2 S i (q + 1) := fun a ha => by
  by_cases e : a = q
  · rw [e]; exact ⟨hy, hb⟩
  · exact h a (by omega)
theorem bt_more {S : St} {q r : Nat} {m : Int} (h : ∀ b, b < r → S.bt q b < m) (hb : S.bt q r < m) : ∀ b, b < r + 1 → S.bt q b < m := fun b hb2 => by
  by_cases e : b = r
  · rw [e]; exact hb
  · exact h b (by omega)
set_option maxRecDepth 100000 in
set_option maxHeartbeats 4000000 in
theorem pshort_any {X : Sa} {S : St} {w : World} (h : Sat w X S) (hs : siteB S = true) : Calls Tryd.prog 23 #[siteV X S] w fun e w' => (∃ v, e = .returned (.bool v) ∧ (v = true → ShF S)) ∧ Kept w w' none := by
  have hSh := (span_may hs).base.sh
  have hng := hSh.ok.ng
  have hnp := hSh.ok.np
  have HNB := Hid.mk' hSh.ok.nb
  have HSH := Hid.mk' hSh
  obtain ⟨WA, hWA⟩ : ∃ WA, (w.alloc (.cells #[.int .i64 S.id, .slice X.g S.groups.length X.gc, .slice X.a S.apart.length X.ac, .slice X.b S.between.length X.bc, .slice X.p S.phases.length X.pc, .slice X.e S.eyes.length X.ec, .int .i64 S.watch, .int .i64 S.feed, .int .i64 S.heal, .int .i64 S.low, .int .i64 S.high, .slice X.l S.plans.length X.lc] 35)) = WA := ⟨_, rfl⟩
  obtain ⟨HSB, HK, HS, _, _, _, _, _, _, _, _, _, _, _, _⟩ := hd1 h hWA
  have s0_ := HSB.out.c0
  have s1_ := HSB.out.c1
  have s2_ := HSB.out.c2
  have s3_ := HSB.out.c3
  have s4_ := HSB.out.c4
  have s5_ := HSB.out.c5
  have s6_ := HSB.out.c6
  have s7_ := HSB.out.c7
  have s8_ := HSB.out.c8
  have s9_ := HSB.out.c9
  have s10_ := HSB.out.c10
  have s11_ := HSB.out.c11
  clear h hs hSh
  go_enter Tryd.func23, Tryd.ntmps23
  go_wp2_with (rw [hWA])
  go_loopw [3, 4, 5] (fun i _ _ wr => ∃ k : Nat, k ≤ S.phases.length ∧ i = .int .i64 k ∧ (∃ m, wr = WA.drewN m) ∧ Sh1 S k) (fun i _ _ _ => S.phases.length - (intOf i).toNat)
  case atStart => exact ⟨0, by omega, rfl, ⟨0, rfl⟩, fun i hi => by omega⟩
  case round =>
    obtain ⟨k, hk, rfl, ⟨m, rfl⟩, hm⟩ := hrel
    have HM := Hid.mk' hm
    clear hm
    by_cases hlt : k < S.phases.length
    · obtain ⟨pb, po, ep, q0, q1, _⟩ := HS.out.phAt hlt
      have hpb := block_lt q0
      rw [ep] at s4_
      clear q0
      go_wp2
      go_loopw [4, 5] (fun i _ wr => ∃ q : Nat, q ≤ S.groups.length ∧ i = .int .i64 q ∧ (∃ m, wr = WA.drewN m) ∧ Sh2 S k q) (fun i _ _ => S.groups.length - (intOf i).toNat)
      case atStart => exact ⟨0, by omega, rfl, (by first | exact ⟨_, rfl⟩ | exact ⟨_, drewN_add _ _ _⟩), fun a ha => by omega⟩
      case round =>
        obtain ⟨q, hq, rfl, ⟨m2, rfl⟩, hm2⟩ := hrel
        have HM2 := Hid.mk' hm2
        clear hm2
        by_cases hql : q < S.groups.length
        · obtain ⟨gb, og, eg, g0, g1, g2⟩ := HS.out.grAt hql
          rw [eg] at s1_
          obtain ⟨mn, hmn⟩ : ∃ mn, (S.ph k).min = mn := ⟨_, rfl⟩
          obtain ⟨ye, hye⟩ : ∃ ye, (S.gr q).yellow = ye := ⟨_, rfl⟩
          rw [hmn] at q1
          rw [hye] at g2
          by_cases hy : ye < mn
          · have HY : Hid ((S.gr q).yellow < (S.ph k).min) := by show _ < _; rw [hmn, hye]; exact hy
            have HMN := Hid.mk' hmn
            clear hye hmn g0 g1
            go_wp2
            go_quiet (fail)
            go_wp2
            go_loopw [5] (fun i wr => ∃ r : Nat, r ≤ S.groups.length ∧ i = .int .i64 r ∧ (∃ m, wr = WA.drewN m) ∧ ∀ b, b < r → S.bt q b < (S.ph k).min) (fun i _ => S.groups.length - (intOf i).toNat)
            case atStart => exact ⟨0, by omega, rfl, (by first | exact ⟨_, rfl⟩ | exact ⟨_, drewN_add _ _ _⟩), fun b hb => by omega⟩
            case round =>
              obtain ⟨r, hr, rfl, ⟨m3, rfl⟩, hm3⟩ := hrel
              have HM3 := Hid.mk' hm3
              clear hm3
              by_cases hrl : r < S.groups.length
              · obtain ⟨bb, ob, br, or_, cc, eb, kb, hcr, kr⟩ := HS.out.btAt HSH.out hql hrl
                have hab : q < S.between.length := by rw [HNB.out]; exact hql
                rw [eb] at s3_
                obtain ⟨bv, hbv⟩ : ∃ bv, S.bt q r = bv := ⟨_, rfl⟩
                rw [hbv] at kr
                by_cases hb : bv < mn
                · have HB : Hid (S.bt q r < (S.ph k).min) := by show _ < _; rw [HMN.out, hbv]; exact hb
                  clear hbv
                  go_wp2
                  go_quiet (fail)
                  go_wp2
                  go_roundw
                  case rel => exact ⟨r + 1, by omega, by go_num, (by first | exact ⟨_, rfl⟩ | exact ⟨_, drewN_add _ _ _⟩), bt_more HM3.out HB.out⟩
                  case measure => simp [intOf]; omega
                · clear hbv
                  go_wp2
                  go_quiet (fail)
                  go_wp2
                  go_ret
                  exact ⟨⟨false, rfl, fun e => absurd e (by decide)⟩, HK.out.tr (by first | exact Kept.drewN _ _ _ | exact (Kept.drewN _ _ _).tr (Kept.drewN _ _ _))⟩
              · obtain rfl : r = S.groups.length := by omega
                have H2 := Hid.mk' (HM2.out.more HY.out HM3.out)
                go_wp2
                go_roundw
                case rel => exact ⟨q + 1, by omega, by go_num, (by first | exact ⟨_, rfl⟩ | exact ⟨_, drewN_add _ _ _⟩), H2.out⟩
                case measure => simp [intOf]; omega
          · clear hye hmn g0 g1
            go_wp2
            go_quiet (fail)
            go_wp2
            go_ret
            exact ⟨⟨false, rfl, fun e => absurd e (by decide)⟩, HK.out.tr (by first | exact Kept.drewN _ _ _ | exact (Kept.drewN _ _ _).tr (Kept.drewN _ _ _))⟩
        · obtain rfl : q = S.groups.length := by omega
          have H1 := Hid.mk' (HM.out.more HM2.out)
          go_wp2
          go_roundw
          case rel => exact ⟨k + 1, by omega, by go_num, (by first | exact ⟨_, rfl⟩ | exact ⟨_, drewN_add _ _ _⟩), H1.out⟩
          case measure => simp [intOf]; omega
    · obtain rfl : k = S.phases.length := by omega
      go_wp2
      go_ret
      exact ⟨⟨true, rfl, fun _ i hi a ha => HM.out i hi a ha⟩, HK.out.tr (by first | exact Kept.drewN _ _ _ | exact (Kept.drewN _ _ _).tr (Kept.drewN _ _ _))⟩

end Go.Proofs.YtfhmfanmnhclfaaDoor
