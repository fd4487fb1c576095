/-
  THE CONTRACTS of the document's Asked and Same (made by a program).
-/
import Derived.Test.YtjfajdmifjbblaaDoorEyeL
import Derived.Test.YtjfajdmifjbblaaDoorEyeR
import Derived.Test.YtjfajdmifjbblaaDoorRefK2
import Derived.Laws.StructEq
import Derived.DeepKeys
import Derived.Deep.QuietTactic
import Derived.BigQuiet
namespace Go.Proofs.YtjfajdmifjbblaaDoor
open Go.RowKit Go.Lib Go.Deep
set_option linter.unusedVariables false
set_option linter.unusedSimpArgs false

set_option maxRecDepth 100000 in
set_option maxHeartbeats 2000000 in
theorem rask_site {X : Sa} {S : St} {w : World} (h : Sat w X S) (hT : Tabb w) {a : Option Addr} {n c : Nat} {L : List Lk} (hA : Lks w a n L) (hc : Cap a n c) (hs : siteB S = false) : Calls Tryd.prog 25 #[siteV X S, .slice a n c] w fun e w' => e = .returned (.int .i64 50) ∧ Kept w w' none := by
  have hce : checkE S = 50 := by unfold checkE; rw [hs]; rfl
  have hkA : Kept w (w.alloc (.cells #[.int .i64 S.id, .slice X.g S.groups.length X.gc, .slice X.a S.apart.length X.ac, .slice X.b S.between.length X.bc, .slice X.p S.phases.length X.pc, .slice X.e S.eyes.length X.ec, .int .i64 S.watch, .int .i64 S.feed, .int .i64 S.heal, .int .i64 S.low, .int .i64 S.high, .slice X.l S.plans.length X.lc] 29)) none := Kept.alloc _ _ _ _ _
  have hsb := sbox_alloc h 29
  have HS := Hid.mk' (h.kept hkA)
  have HT := Hid.mk' (hT.kept hkA)
  have HA := Hid.mk' (hA.kept hkA)
  have hE9 : S.eyes.length ≤ 9223372036854775807 := by have := h.ek.room; have := h.ek.max; omega
  have hn9 : n ≤ 9223372036854775807 := by have := hc.room; have := hc.max; omega
  have HSZ := Hid.mk' hA.size
  obtain ⟨WA, hWA⟩ : ∃ WA, (w.alloc (.cells #[.int .i64 S.id, .slice X.g S.groups.length X.gc, .slice X.a S.apart.length X.ac, .slice X.b S.between.length X.bc, .slice X.p S.phases.length X.pc, .slice X.e S.eyes.length X.ec, .int .i64 S.watch, .int .i64 S.feed, .int .i64 S.heal, .int .i64 S.low, .int .i64 S.high, .slice X.l S.plans.length X.lc] 29)) = WA := ⟨_, rfl⟩
  rw [hWA] at hkA hsb HS HT HA
  have hlA : w.heap.size < WA.heap.size := hsb.lt
  have HK := Hid.mk' hkA
  have HSB := Hid.mk' hsb
  have hK0 := Kept.refl WA none
  clear h hT hkA hsb hA
  have s0_ : ∀ w', Kept WA w' none → w'.cell? ⟨w.heap.size, 0, none⟩ = some (.int .i64 S.id) := fun w' q => (HSB.out.kept q).c0
  have s1_ : ∀ w', Kept WA w' none → w'.cell? ⟨w.heap.size, 1, none⟩ = some (.slice X.g S.groups.length X.gc) := fun w' q => (HSB.out.kept q).c1
  have s2_ : ∀ w', Kept WA w' none → w'.cell? ⟨w.heap.size, 2, none⟩ = some (.slice X.a S.apart.length X.ac) := fun w' q => (HSB.out.kept q).c2
  have s3_ : ∀ w', Kept WA w' none → w'.cell? ⟨w.heap.size, 3, none⟩ = some (.slice X.b S.between.length X.bc) := fun w' q => (HSB.out.kept q).c3
  have s4_ : ∀ w', Kept WA w' none → w'.cell? ⟨w.heap.size, 4, none⟩ = some (.slice X.p S.phases.length X.pc) := fun w' q => (HSB.out.kept q).c4
  have s5_ : ∀ w', Kept WA w' none → w'.cell? ⟨w.heap.size, 5, none⟩ = some (.slice X.e S.eyes.length X.ec) := fun w' q => (HSB.out.kept q).c5
  have s6_ : ∀ w', Kept WA w' none → w'.cell? ⟨w.heap.size, 6, none⟩ = some (.int .i64 S.watch) := fun w' q => (HSB.out.kept q).c6
  have s7_ : ∀ w', Kept WA w' none → w'.cell? ⟨w.heap.size, 7, none⟩ = some (.int .i64 S.feed) := fun w' q => (HSB.out.kept q).c7
  have s8_ : ∀ w', Kept WA w' none → w'.cell? ⟨w.heap.size, 8, none⟩ = some (.int .i64 S.heal) := fun w' q => (HSB.out.kept q).c8
  have s9_ : ∀ w', Kept WA w' none → w'.cell? ⟨w.heap.size, 9, none⟩ = some (.int .i64 S.low) := fun w' q => (HSB.out.kept q).c9
  have s10_ : ∀ w', Kept WA w' none → w'.cell? ⟨w.heap.size, 10, none⟩ = some (.int .i64 S.high) := fun w' q => (HSB.out.kept q).c10
  have s11_ : ∀ w', Kept WA w' none → w'.cell? ⟨w.heap.size, 11, none⟩ = some (.slice X.l S.plans.length X.lc) := fun w' q => (HSB.out.kept q).c11
  go_enter Tryd.func25, Tryd.ntmps25
  go_wp2_with (first | rw [hWA] | (go_at_call 30; have hx := rcheck_any HS.out; rw [hce] at hx; refine hx.mono ?_; rintro e wC ⟨rfl, hkC⟩; have hKC : Kept WA wC none := hkC; clear hx))
  go_ret
  exact ⟨rfl, HK.out.tr hKC⟩
set_option maxRecDepth 100000 in
set_option maxHeartbeats 2000000 in
theorem rask_many {X : Sa} {S : St} {w : World} (h : Sat w X S) (hT : Tabb w) {a : Option Addr} {n c : Nat} {L : List Lk} (hA : Lks w a n L) (hc : Cap a n c) (hs : siteB S = true) (hl : ¬ n = S.eyes.length) : Calls Tryd.prog 25 #[siteV X S, .slice a n c] w fun e w' => e = .returned (.int .i64 4) ∧ Kept w w' none := by
  have hce : checkE S = 0 := by unfold checkE; rw [hs]; rfl
  have hnb : ((n : Int) != (S.eyes.length : Int)) = true := by simp; omega
  clear hl
  have hkA : Kept w (w.alloc (.cells #[.int .i64 S.id, .slice X.g S.groups.length X.gc, .slice X.a S.apart.length X.ac, .slice X.b S.between.length X.bc, .slice X.p S.phases.length X.pc, .slice X.e S.eyes.length X.ec, .int .i64 S.watch, .int .i64 S.feed, .int .i64 S.heal, .int .i64 S.low, .int .i64 S.high, .slice X.l S.plans.length X.lc] 29)) none := Kept.alloc _ _ _ _ _
  have hsb := sbox_alloc h 29
  have HS := Hid.mk' (h.kept hkA)
  have HT := Hid.mk' (hT.kept hkA)
  have HA := Hid.mk' (hA.kept hkA)
  have hE9 : S.eyes.length ≤ 9223372036854775807 := by have := h.ek.room; have := h.ek.max; omega
  have hn9 : n ≤ 9223372036854775807 := by have := hc.room; have := hc.max; omega
  have HSZ := Hid.mk' hA.size
  obtain ⟨WA, hWA⟩ : ∃ WA, (w.alloc (.cells #[.int .i64 S.id, .slice X.g S.groups.length X.gc, .slice X.a S.apart.length X.ac, .slice X.b S.between.length X.bc, .slice X.p S.phases.length X.pc, .slice X.e S.eyes.length X.ec, .int .i64 S.watch, .int .i64 S.feed, .int .i64 S.heal, .int .i64 S.low, .int .i64 S.high, .slice X.l S.plans.length X.lc] 29)) = WA := ⟨_, rfl⟩
  rw [hWA] at hkA hsb HS HT HA
  have hlA : w.heap.size < WA.heap.size := hsb.lt
  have HK := Hid.mk' hkA
  have HSB := Hid.mk' hsb
  have hK0 := Kept.refl WA none
  clear h hT hkA hsb hA
  have s0_ : ∀ w', Kept WA w' none → w'.cell? ⟨w.heap.size, 0, none⟩ = some (.int .i64 S.id) := fun w' q => (HSB.out.kept q).c0
  have s1_ : ∀ w', Kept WA w' none → w'.cell? ⟨w.heap.size, 1, none⟩ = some (.slice X.g S.groups.length X.gc) := fun w' q => (HSB.out.kept q).c1
  have s2_ : ∀ w', Kept WA w' none → w'.cell? ⟨w.heap.size, 2, none⟩ = some (.slice X.a S.apart.length X.ac) := fun w' q => (HSB.out.kept q).c2
  have s3_ : ∀ w', Kept WA w' none → w'.cell? ⟨w.heap.size, 3, none⟩ = some (.slice X.b S.between.length X.bc) := fun w' q => (HSB.out.kept q).c3
  have s4_ : ∀ w', Kept WA w' none → w'.cell? ⟨w.heap.size, 4, none⟩ = some (.slice X.p S.phases.length X.pc) := fun w' q => (HSB.out.kept q).c4
  have s5_ : ∀ w', Kept WA w' none → w'.cell? ⟨w.heap.size, 5, none⟩ = some (.slice X.e S.eyes.length X.ec) := fun w' q => (HSB.out.kept q).c5
  have s6_ : ∀ w', Kept WA w' none → w'.cell? ⟨w.heap.size, 6, none⟩ = some (.int .i64 S.watch) := fun w' q => (HSB.out.kept q).c6
  have s7_ : ∀ w', Kept WA w' none → w'.cell? ⟨w.heap.size, 7, none⟩ = some (.int .i64 S.feed) := fun w' q => (HSB.out.kept q).c7
  have s8_ : ∀ w', Kept WA w' none → w'.cell? ⟨w.heap.size, 8, none⟩ = some (.int .i64 S.heal) := fun w' q => (HSB.out.kept q).c8
  have s9_ : ∀ w', Kept WA w' none → w'.cell? ⟨w.heap.size, 9, none⟩ = some (.int .i64 S.low) := fun w' q => (HSB.out.kept q).c9
  have s10_ : ∀ w', Kept WA w' none → w'.cell? ⟨w.heap.size, 10, none⟩ = some (.int .i64 S.high) := fun w' q => (HSB.out.kept q).c10
  have s11_ : ∀ w', Kept WA w' none → w'.cell? ⟨w.heap.size, 11, none⟩ = some (.slice X.l S.plans.length X.lc) := fun w' q => (HSB.out.kept q).c11
  go_enter Tryd.func25, Tryd.ntmps25
  go_wp2_with (first | rw [hWA] | (go_at_call 30; have hx := rcheck_any HS.out; rw [hce] at hx; refine hx.mono ?_; rintro e wC ⟨rfl, hkC⟩; have hKC : Kept WA wC none := hkC; clear hx))
  go_ret
  exact ⟨rfl, HK.out.tr hKC⟩
set_option maxRecDepth 100000 in
set_option maxHeartbeats 2000000 in
theorem rask_go {X : Sa} {S : St} {w : World} (h : Sat w X S) (hT : Tabb w) {a : Option Addr} {n c : Nat} {L : List Lk} (hA : Lks w a n L) (hc : Cap a n c) (hs : siteB S = true) (hl : n = S.eyes.length) (V : Int) (hV : V = if maysB L = true then 0 else 8) : Calls Tryd.prog 25 #[siteV X S, .slice a n c] w fun e w' => e = .returned (.int .i64 V) ∧ Kept w w' none := by
  have HV := Hid.mk' hV
  clear hV
  have hce : checkE S = 0 := by unfold checkE; rw [hs]; rfl
  have hnb : ((n : Int) != (S.eyes.length : Int)) = false := by simp; omega
  clear hl
  have hkA : Kept w (w.alloc (.cells #[.int .i64 S.id, .slice X.g S.groups.length X.gc, .slice X.a S.apart.length X.ac, .slice X.b S.between.length X.bc, .slice X.p S.phases.length X.pc, .slice X.e S.eyes.length X.ec, .int .i64 S.watch, .int .i64 S.feed, .int .i64 S.heal, .int .i64 S.low, .int .i64 S.high, .slice X.l S.plans.length X.lc] 29)) none := Kept.alloc _ _ _ _ _
  have hsb := sbox_alloc h 29
  have HS := Hid.mk' (h.kept hkA)
  have HT := Hid.mk' (hT.kept hkA)
  have HA := Hid.mk' (hA.kept hkA)
  have hE9 : S.eyes.length ≤ 9223372036854775807 := by have := h.ek.room; have := h.ek.max; omega
  have hn9 : n ≤ 9223372036854775807 := by have := hc.room; have := hc.max; omega
  have HSZ := Hid.mk' hA.size
  obtain ⟨WA, hWA⟩ : ∃ WA, (w.alloc (.cells #[.int .i64 S.id, .slice X.g S.groups.length X.gc, .slice X.a S.apart.length X.ac, .slice X.b S.between.length X.bc, .slice X.p S.phases.length X.pc, .slice X.e S.eyes.length X.ec, .int .i64 S.watch, .int .i64 S.feed, .int .i64 S.heal, .int .i64 S.low, .int .i64 S.high, .slice X.l S.plans.length X.lc] 29)) = WA := ⟨_, rfl⟩
  rw [hWA] at hkA hsb HS HT HA
  have hlA : w.heap.size < WA.heap.size := hsb.lt
  have HK := Hid.mk' hkA
  have HSB := Hid.mk' hsb
  have hK0 := Kept.refl WA none
  clear h hT hkA hsb hA
  have s0_ : ∀ w', Kept WA w' none → w'.cell? ⟨w.heap.size, 0, none⟩ = some (.int .i64 S.id) := fun w' q => (HSB.out.kept q).c0
  have s1_ : ∀ w', Kept WA w' none → w'.cell? ⟨w.heap.size, 1, none⟩ = some (.slice X.g S.groups.length X.gc) := fun w' q => (HSB.out.kept q).c1
  have s2_ : ∀ w', Kept WA w' none → w'.cell? ⟨w.heap.size, 2, none⟩ = some (.slice X.a S.apart.length X.ac) := fun w' q => (HSB.out.kept q).c2
  have s3_ : ∀ w', Kept WA w' none → w'.cell? ⟨w.heap.size, 3, none⟩ = some (.slice X.b S.between.length X.bc) := fun w' q => (HSB.out.kept q).c3
  have s4_ : ∀ w', Kept WA w' none → w'.cell? ⟨w.heap.size, 4, none⟩ = some (.slice X.p S.phases.length X.pc) := fun w' q => (HSB.out.kept q).c4
  have s5_ : ∀ w', Kept WA w' none → w'.cell? ⟨w.heap.size, 5, none⟩ = some (.slice X.e S.eyes.length X.ec) := fun w' q => (HSB.out.kept q).c5
  have s6_ : ∀ w', Kept WA w' none → w'.cell? ⟨w.heap.size, 6, none⟩ = some (.int .i64 S.watch) := fun w' q => (HSB.out.kept q).c6
  have s7_ : ∀ w', Kept WA w' none → w'.cell? ⟨w.heap.size, 7, none⟩ = some (.int .i64 S.feed) := fun w' q => (HSB.out.kept q).c7
  have s8_ : ∀ w', Kept WA w' none → w'.cell? ⟨w.heap.size, 8, none⟩ = some (.int .i64 S.heal) := fun w' q => (HSB.out.kept q).c8
  have s9_ : ∀ w', Kept WA w' none → w'.cell? ⟨w.heap.size, 9, none⟩ = some (.int .i64 S.low) := fun w' q => (HSB.out.kept q).c9
  have s10_ : ∀ w', Kept WA w' none → w'.cell? ⟨w.heap.size, 10, none⟩ = some (.int .i64 S.high) := fun w' q => (HSB.out.kept q).c10
  have s11_ : ∀ w', Kept WA w' none → w'.cell? ⟨w.heap.size, 11, none⟩ = some (.slice X.l S.plans.length X.lc) := fun w' q => (HSB.out.kept q).c11
  go_enter Tryd.func25, Tryd.ntmps25
  go_wp2_with (first | rw [hWA] | (go_at_call 30; have hx := rcheck_any HS.out; rw [hce] at hx; refine hx.mono ?_; rintro e wC ⟨rfl, hkC⟩; have hKC : Kept WA wC none := hkC; clear hx))
  go_loopw [6] (fun iv wr => ∃ k : Nat, k ≤ n ∧ iv = .int .i64 k ∧ Kept WA wr none ∧ ∀ j, j < k → mayK (lk L j) = true) (fun iv _ => n - (intOf iv).toNat)
  case atStart => exact ⟨0, by omega, rfl, hKC, fun j hj => by omega⟩
  case round =>
    obtain ⟨k, hk, rfl, hkr, hno⟩ := hrel
    have HNO := Hid.mk' hno
    clear hno
    by_cases hlt : k < n
    · obtain ⟨b, off, ea, hb, c0, c1, c2, c3, c4⟩ := (HA.out.kept hkr).at_ hlt
      subst ea
      cases hm : mayK (lk L k)
      · have HF : Hid (maysB L = false) := by show maysB L = false; exact allB_no (by rw [HSZ.out]; exact hlt) hm
        have HM := Hid.mk' hm
        clear hm
        generalize lk L k = x at *
        go_wp2_with (go_at_call 37; refine (rmay_any x _).mono ?_; rw [HM.out]; rintro e wM ⟨rfl, hkM⟩)
        go_ret
        exact ⟨by rw [HV.out, HF.out]; rfl, HK.out.tr (hkr.tr hkM)⟩
      · have HN2 : Hid (∀ j, j < k + 1 → mayK (lk L j) = true) := fun j hj => by
          by_cases ej : j = k
          · rw [ej]; exact hm
          · exact HNO.out j (by omega)
        have HM := Hid.mk' hm
        clear hm
        generalize lk L k = x at *
        go_wp2_with (go_at_call 37; refine (rmay_any x _).mono ?_; rw [HM.out]; rintro e wM ⟨rfl, hkM⟩)
        go_roundw
        case rel => exact ⟨k + 1, by omega, by go_num, hkr.tr hkM, HN2.out⟩
        case measure => simp [intOf]; omega
    · have HF : Hid (maysB L = true) := by show maysB L = true; exact allB_iff.2 (fun j hj => HNO.out j (by have := HSZ.out; omega))
      go_wp2
      go_ret
      exact ⟨by rw [HV.out, HF.out]; rfl, HK.out.tr hkr⟩
theorem rask_any {X : Sa} {S : St} {w : World} (h : Sat w X S) (hT : Tabb w) {a : Option Addr} {n c : Nat} {L : List Lk} (hA : Lks w a n L) (hc : Cap a n c) : Calls Tryd.prog 25 #[siteV X S, .slice a n c] w fun e w' => e = .returned (.int .i64 (allE S L)) ∧ Kept w w' none := by
  cases hs : siteB S
  · rw [allE_site hs]; exact rask_site h hT hA hc hs
  by_cases hl : n = S.eyes.length
  · have e : allE S L = if maysB L = true then 0 else 8 := by unfold allE; rw [hs, if_pos rfl, if_pos (by rw [hA.size]; exact hl)]
    rw [e]
    exact rask_go h hT hA hc hs hl _ rfl
  · rw [allE_many hs (by rw [hA.size]; exact hl)]
    exact rask_many h hT hA hc hs hl
set_option maxRecDepth 100000 in
set_option maxHeartbeats 2000000 in
theorem rsame_yes13 {a b : Option Addr} {n c d : Nat} {L : List Lk} {w : World} (hA : Lks w a n L) (hB : Lks w b n L) (hn : n ≤ 9223372036854775807) : Calls Tryd.prog 18 #[.slice a n c, .slice b n d] w fun e w' => e = .returned (.bool true) ∧ Kept w w' none := by
  have HA := Hid.mk' hA
  have HB := Hid.mk' hB
  have hK0 := Kept.refl w none
  clear hA hB
  go_enter Tryd.func18, Tryd.ntmps18
  go_wp2
  go_loopw [5] (fun iv wr => ∃ k : Nat, k ≤ n ∧ iv = .int .i64 k ∧ Kept w wr none) (fun iv _ => n - (intOf iv).toNat)
  case atStart => exact ⟨0, by omega, rfl, hK0⟩
  case round =>
    obtain ⟨k, hk, rfl, hkr⟩ := hrel
    have HKR := Hid.mk' hkr
    by_cases hlt : k < n
    · obtain ⟨b1, o1, e1, hb1, c0, c1, c2, c3, c4⟩ := (HA.out.kept hkr).at_ hlt
      obtain ⟨b2, o2, e2, hb2, d0, d1, d2, d3, d4⟩ := (HB.out.kept hkr).at_ hlt
      subst e1 e2
      generalize lk L k = x at *
      go_wp2
      go_quiet (fail)
      go_wp2
      go_roundw
      case rel => exact ⟨k + 1, by omega, by go_num, HKR.out.tr (Kept.drewN _ _ _)⟩
      case measure => simp [intOf]; omega
    · go_wp2
      go_ret
      exact ⟨rfl, HKR.out⟩

end Go.Proofs.YtjfajdmifjbblaaDoor
