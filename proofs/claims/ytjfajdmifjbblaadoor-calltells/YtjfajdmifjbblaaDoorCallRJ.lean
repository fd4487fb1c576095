/-
  Texts joined: some of those that the proofs of this seat stand on.
-/
import Derived.Test.YtjfajdmifjbblaaDoorCallAJ
import Derived.Test.YtjfajdmifjbblaaDoorEyeQ1
/-
  THE CONTRACTS of the document's May, Real and Next (made by a program).
-/
namespace Go.Proofs.YtjfajdmifjbblaaDoor
open Go.RowKit Go.Lib Go.Deep
set_option linter.unusedVariables false
set_option linter.unusedSimpArgs false

theorem pow_int8 {n : Nat} (h : n ≤ 8) : (2 : Int) ^ n % 4294967296 = ((2 ^ n : Nat) : Int) := pow_int (by omega)
set_option maxRecDepth 100000 in
set_option maxHeartbeats 2000000 in
theorem rmay14_any {X : Sa} {S : St} {w : World} (h : Sat w X S) (c : Nat) (hc32 : c < 4294967296) (hp8 : S.phases.length ≤ 8) (b : Bool) (hb : b = decide (c < 2 ^ S.phases.length)) : Calls Tryd.prog 28 #[siteV X S, .int .u32 (c : Int)] w fun e w' => e = .returned (.bool b) ∧ Kept w w' none := by
  have hpw := pow_int8 hp8
  have hdb : decide (c < 2 ^ S.phases.length) = b := hb.symm
  generalize 2 ^ S.phases.length = Q at *
  clear hb
  have hkA : Kept w (w.alloc (.cells #[.int .i64 S.id, .slice X.g S.groups.length X.gc, .slice X.a S.apart.length X.ac, .slice X.b S.between.length X.bc, .slice X.p S.phases.length X.pc, .slice X.e S.eyes.length X.ec, .int .i64 S.watch, .int .i64 S.feed, .int .i64 S.heal, .int .i64 S.low, .int .i64 S.high, .slice X.l S.plans.length X.lc] 29)) none := Kept.alloc _ _ _ _ _
  have hsb := sbox_alloc h 29
  have HS := Hid.mk' (h.kept hkA)
  have hE9 : S.eyes.length ≤ 9223372036854775807 := by have := h.ek.room; have := h.ek.max; omega
  have hP9 : S.phases.length ≤ 9223372036854775807 := by have := h.pk.room; have := h.pk.max; omega
  obtain ⟨WA, hWA⟩ : ∃ WA, (w.alloc (.cells #[.int .i64 S.id, .slice X.g S.groups.length X.gc, .slice X.a S.apart.length X.ac, .slice X.b S.between.length X.bc, .slice X.p S.phases.length X.pc, .slice X.e S.eyes.length X.ec, .int .i64 S.watch, .int .i64 S.feed, .int .i64 S.heal, .int .i64 S.low, .int .i64 S.high, .slice X.l S.plans.length X.lc] 29)) = WA := ⟨_, rfl⟩
  rw [hWA] at hkA hsb HS
  have hlA : w.heap.size < WA.heap.size := hsb.lt
  have HK := Hid.mk' hkA
  have HSB := Hid.mk' hsb
  have hK0 := Kept.refl WA none
  clear h hkA hsb
  have s0_ : ∀ w', Kept WA w' none → w'.cell? ⟨w.heap.size, 0, none⟩ = some (.int .i64 S.id) := fun w' q => (HSB.out.kept q).c0
  have s1_ : ∀ w', Kept WA w' none → w'.cell? ⟨w.heap.size, 1, none⟩ = some (.slice X.g S.groups.length X.gc) := fun w' q => (HSB.out.kept q).c1
  have s2_ : ∀ w', Kept WA w' none → w'.cell? ⟨w.heap.size, 2, none⟩ = some (.slice X.a S.apart.length X.ac) := fun w' q => (HSB.out.kept q).c2
  have s3_ : ∀ w', Kept WA w' none → w'.cell? ⟨w.heap.size, 3, none⟩ = some (.slice X.b S.between.length X.bc) := fun w' q => (HSB.out.kept q).c3
  have s4_ : ∀ w', Kept WA w' none → w'.cell? ⟨w.heap.size, 4, none⟩ = some (.slice X.p S.phases.length X.pc) := fun w' q => (HSB.out.kept q).c4
  have s5_ : ∀ w', Kept WA w' none → w'.cell? ⟨w.heap.size, 5, none⟩ = some (.slice X.e S.eyes.length X.ec) := fun w' q => (HSB.out.kept q).c5
  have s6_ : ∀ w', Kept WA w' none → w'.cell? ⟨w.heap.size, 6, none⟩ = some (.int .i64 S.watch) := fun w' q => (HSB.out.kept q).c6
  have s7_ : ∀ w', Kept WA w' none → w'.cell? ⟨w.heap.size, 7, none⟩ = some (.int .i64 S.feed) := fun w' q => (HSB.out.kept q).c7
  have s8_ : ∀ w', Kept WA w' none → w'.cell? ⟨w.heap.size, 8, none⟩ = some (.int .i64 S.heal) := fun w' q => (HSB.out.kept q).c8
  have s9_ : ∀ w', Kept WA w' none → w'.cell? ⟨w.heap.size, 9, none⟩ = some (.int .i64 S.low) := fun w' q => (HSB.out.kept q).c9
  have s10_ : ∀ w', Kept WA w' none → w'.cell? ⟨w.heap.size, 10, none⟩ = some (.int .i64 S.high) := fun w' q => (HSB.out.kept q).c10
  have s11_ : ∀ w', Kept WA w' none → w'.cell? ⟨w.heap.size, 11, none⟩ = some (.slice X.l S.plans.length X.lc) := fun w' q => (HSB.out.kept q).c11
  go_enter Tryd.func28, Tryd.ntmps28
  go_wp2_with (rw [hWA])
  go_ret
  exact ⟨by simp [hdb], HK.out⟩
set_option maxRecDepth 100000 in
set_option maxHeartbeats 2000000 in
theorem rrea_no {X : Sa} {S : St} {w : World} (h : Sat w X S) (hT : Tabb w) {a : Option Addr} {n ca : Nat} {L : List Lk} (hA : Lks w a n L) (hc : Cap a n ca) (E : Int) (he : allE S L = E) (h0 : E ≠ 0) : Calls Tryd.prog 15 #[siteV X S, .slice a n ca] w fun e w' => e = .returned (.tuple #[.int .u32 0, .int .i64 E]) ∧ Kept w w' none := by
  have HE := Hid.mk' he
  have hEb : (E != 0) = true := by simpa using h0
  clear he
  have hkA : Kept w (w.alloc (.cells #[.int .i64 S.id, .slice X.g S.groups.length X.gc, .slice X.a S.apart.length X.ac, .slice X.b S.between.length X.bc, .slice X.p S.phases.length X.pc, .slice X.e S.eyes.length X.ec, .int .i64 S.watch, .int .i64 S.feed, .int .i64 S.heal, .int .i64 S.low, .int .i64 S.high, .slice X.l S.plans.length X.lc] 29)) none := Kept.alloc _ _ _ _ _
  have hsb := sbox_alloc h 29
  have HS := Hid.mk' (h.kept hkA)
  have HT := Hid.mk' (hT.kept hkA)
  have HA := Hid.mk' (hA.kept hkA)
  have HSZ := Hid.mk' hA.size
  have hn9 : n ≤ 9223372036854775807 := by have := hc.room; have := hc.max; omega
  have hE9 : S.eyes.length ≤ 9223372036854775807 := by have := h.ek.room; have := h.ek.max; omega
  have hP9 : S.phases.length ≤ 9223372036854775807 := by have := h.pk.room; have := h.pk.max; omega
  obtain ⟨WA, hWA⟩ : ∃ WA, (w.alloc (.cells #[.int .i64 S.id, .slice X.g S.groups.length X.gc, .slice X.a S.apart.length X.ac, .slice X.b S.between.length X.bc, .slice X.p S.phases.length X.pc, .slice X.e S.eyes.length X.ec, .int .i64 S.watch, .int .i64 S.feed, .int .i64 S.heal, .int .i64 S.low, .int .i64 S.high, .slice X.l S.plans.length X.lc] 29)) = WA := ⟨_, rfl⟩
  rw [hWA] at hkA hsb HS HT HA
  have hlA : w.heap.size < WA.heap.size := hsb.lt
  have HK := Hid.mk' hkA
  have HSB := Hid.mk' hsb
  have hK0 := Kept.refl WA none
  clear h hT hA hkA hsb
  have s0_ : ∀ w', Kept WA w' none → w'.cell? ⟨w.heap.size, 0, none⟩ = some (.int .i64 S.id) := fun w' q => (HSB.out.kept q).c0
  have s1_ : ∀ w', Kept WA w' none → w'.cell? ⟨w.heap.size, 1, none⟩ = some (.slice X.g S.groups.length X.gc) := fun w' q => (HSB.out.kept q).c1
  have s2_ : ∀ w', Kept WA w' none → w'.cell? ⟨w.heap.size, 2, none⟩ = some (.slice X.a S.apart.length X.ac) := fun w' q => (HSB.out.kept q).c2
  have s3_ : ∀ w', Kept WA w' none → w'.cell? ⟨w.heap.size, 3, none⟩ = some (.slice X.b S.between.length X.bc) := fun w' q => (HSB.out.kept q).c3
  have s4_ : ∀ w', Kept WA w' none → w'.cell? ⟨w.heap.size, 4, none⟩ = some (.slice X.p S.phases.length X.pc) := fun w' q => (HSB.out.kept q).c4
  have s5_ : ∀ w', Kept WA w' none → w'.cell? ⟨w.heap.size, 5, none⟩ = some (.slice X.e S.eyes.length X.ec) := fun w' q => (HSB.out.kept q).c5
  have s6_ : ∀ w', Kept WA w' none → w'.cell? ⟨w.heap.size, 6, none⟩ = some (.int .i64 S.watch) := fun w' q => (HSB.out.kept q).c6
  have s7_ : ∀ w', Kept WA w' none → w'.cell? ⟨w.heap.size, 7, none⟩ = some (.int .i64 S.feed) := fun w' q => (HSB.out.kept q).c7
  have s8_ : ∀ w', Kept WA w' none → w'.cell? ⟨w.heap.size, 8, none⟩ = some (.int .i64 S.heal) := fun w' q => (HSB.out.kept q).c8
  have s9_ : ∀ w', Kept WA w' none → w'.cell? ⟨w.heap.size, 9, none⟩ = some (.int .i64 S.low) := fun w' q => (HSB.out.kept q).c9
  have s10_ : ∀ w', Kept WA w' none → w'.cell? ⟨w.heap.size, 10, none⟩ = some (.int .i64 S.high) := fun w' q => (HSB.out.kept q).c10
  have s11_ : ∀ w', Kept WA w' none → w'.cell? ⟨w.heap.size, 11, none⟩ = some (.slice X.l S.plans.length X.lc) := fun w' q => (HSB.out.kept q).c11
  go_enter Tryd.func15, Tryd.ntmps15
  go_wp2_with (first | rw [hWA] | (go_at_call 25; have hx := rask_any HS.out HT.out HA.out hc; rw [HE.out] at hx; refine hx.mono ?_; rintro e wC ⟨rfl, hkC⟩; have hKC : Kept WA wC none := hkC; clear hx))
  go_ret2
  exact ⟨rfl, HK.out.tr hKC⟩
set_option maxRecDepth 100000 in
set_option maxHeartbeats 2000000 in
theorem rrea_go {X : Sa} {S : St} {w : World} (h : Sat w X S) (hT : Tabb w) {a : Option Addr} {n ca : Nat} {L : List Lk} (hA : Lks w a n L) (hc : Cap a n ca) (he : allE S L = 0) : Calls Tryd.prog 15 #[siteV X S, .slice a n ca] w fun e w' => e = .returned (.tuple #[.int .u32 ((wanN S L : Nat) : Int), .int .i64 0]) ∧ Kept w w' none := by
  have HE := Hid.mk' he
  obtain ⟨hs, hl, _⟩ := allE_zero he
  have hf := cal_facts hs
  have hp8 := hf.p1
  have HRE := Hid.mk' (rea_is hs hl)
  have hne : n ≤ S.eyes.length := by have := hA.size; omega
  obtain ⟨pb, po, ep⟩ := h.pp hf.p0
  have HEP := Hid.mk' ep
  clear he hs hl hf ep
  have hkA : Kept w (w.alloc (.cells #[.int .i64 S.id, .slice X.g S.groups.length X.gc, .slice X.a S.apart.length X.ac, .slice X.b S.between.length X.bc, .slice X.p S.phases.length X.pc, .slice X.e S.eyes.length X.ec, .int .i64 S.watch, .int .i64 S.feed, .int .i64 S.heal, .int .i64 S.low, .int .i64 S.high, .slice X.l S.plans.length X.lc] 29)) none := Kept.alloc _ _ _ _ _
  have hsb := sbox_alloc h 29
  have HS := Hid.mk' (h.kept hkA)
  have HT := Hid.mk' (hT.kept hkA)
  have HA := Hid.mk' (hA.kept hkA)
  have HSZ := Hid.mk' hA.size
  have hn9 : n ≤ 9223372036854775807 := by have := hc.room; have := hc.max; omega
  have hE9 : S.eyes.length ≤ 9223372036854775807 := by have := h.ek.room; have := h.ek.max; omega
  have hP9 : S.phases.length ≤ 9223372036854775807 := by have := h.pk.room; have := h.pk.max; omega
  obtain ⟨WA, hWA⟩ : ∃ WA, (w.alloc (.cells #[.int .i64 S.id, .slice X.g S.groups.length X.gc, .slice X.a S.apart.length X.ac, .slice X.b S.between.length X.bc, .slice X.p S.phases.length X.pc, .slice X.e S.eyes.length X.ec, .int .i64 S.watch, .int .i64 S.feed, .int .i64 S.heal, .int .i64 S.low, .int .i64 S.high, .slice X.l S.plans.length X.lc] 29)) = WA := ⟨_, rfl⟩
  rw [hWA] at hkA hsb HS HT HA
  have hlA : w.heap.size < WA.heap.size := hsb.lt
  have HK := Hid.mk' hkA
  have HSB := Hid.mk' hsb
  have hK0 := Kept.refl WA none
  clear h hT hA hkA hsb
  have s0_ : ∀ w', Kept WA w' none → w'.cell? ⟨w.heap.size, 0, none⟩ = some (.int .i64 S.id) := fun w' q => (HSB.out.kept q).c0
  have s1_ : ∀ w', Kept WA w' none → w'.cell? ⟨w.heap.size, 1, none⟩ = some (.slice X.g S.groups.length X.gc) := fun w' q => (HSB.out.kept q).c1
  have s2_ : ∀ w', Kept WA w' none → w'.cell? ⟨w.heap.size, 2, none⟩ = some (.slice X.a S.apart.length X.ac) := fun w' q => (HSB.out.kept q).c2
  have s3_ : ∀ w', Kept WA w' none → w'.cell? ⟨w.heap.size, 3, none⟩ = some (.slice X.b S.between.length X.bc) := fun w' q => (HSB.out.kept q).c3
  have s4_ : ∀ w', Kept WA w' none → w'.cell? ⟨w.heap.size, 4, none⟩ = some (.slice X.p S.phases.length X.pc) := fun w' q => (HSB.out.kept q).c4
  have s5_ : ∀ w', Kept WA w' none → w'.cell? ⟨w.heap.size, 5, none⟩ = some (.slice X.e S.eyes.length X.ec) := fun w' q => (HSB.out.kept q).c5
  have s6_ : ∀ w', Kept WA w' none → w'.cell? ⟨w.heap.size, 6, none⟩ = some (.int .i64 S.watch) := fun w' q => (HSB.out.kept q).c6
  have s7_ : ∀ w', Kept WA w' none → w'.cell? ⟨w.heap.size, 7, none⟩ = some (.int .i64 S.feed) := fun w' q => (HSB.out.kept q).c7
  have s8_ : ∀ w', Kept WA w' none → w'.cell? ⟨w.heap.size, 8, none⟩ = some (.int .i64 S.heal) := fun w' q => (HSB.out.kept q).c8
  have s9_ : ∀ w', Kept WA w' none → w'.cell? ⟨w.heap.size, 9, none⟩ = some (.int .i64 S.low) := fun w' q => (HSB.out.kept q).c9
  have s10_ : ∀ w', Kept WA w' none → w'.cell? ⟨w.heap.size, 10, none⟩ = some (.int .i64 S.high) := fun w' q => (HSB.out.kept q).c10
  have s11_ : ∀ w', Kept WA w' none → w'.cell? ⟨w.heap.size, 11, none⟩ = some (.slice X.l S.plans.length X.lc) := fun w' q => (HSB.out.kept q).c11
  go_enter Tryd.func15, Tryd.ntmps15
  go_wp2_with (first | rw [hWA] | (go_at_call 25; have hx := rask_any HS.out HT.out HA.out hc; rw [HE.out] at hx; refine hx.mono ?_; rintro e wC ⟨rfl, hkC⟩; have hKC : Kept WA wC none := hkC; clear hx))
  rw [HEP.out] at s4_
  have hA0 : (0 : Int) = ((reaK S L 0 : Nat) : Int) := rfl
  go_loopw [7, 8, 9, 10] (fun cv pv _ _ wr => ∃ p : Nat, p ≤ S.phases.length ∧ pv = .int .i64 p ∧ cv = .int .u32 ((reaK S L p : Nat) : Int) ∧ Kept WA wr none) (fun _ pv _ _ _ => S.phases.length - (intOf pv).toNat)
  case atStart => exact ⟨0, by omega, rfl, rfl, hKC⟩
  case round =>
    clear hA0
    obtain ⟨p, hp, rfl, rfl, hkr⟩ := hrel
    by_cases hlp : p < S.phases.length
    · obtain ⟨hpb, d0, d1, d2, d3, d4⟩ := (HS.out.kept hkr).phs HEP.out hlp
      have HAL : Hid ((S.ph p).always = (decide (p < S.phases.length) && alw S p)) := by show _ = _; rw [decide_eq_true hlp, Bool.true_and]; rfl
      clear d0 d1 d2 d3
      generalize (S.ph p).always = al at *
      have hN9 := reaK_lt S L p
      obtain ⟨N1, hN1⟩ : ∃ N1, N1 = reaK S L p := ⟨_, rfl⟩
      rw [← hN1] at hN9
      rw [← hN1]
      have HN1 := Hid.mk' hN1
      clear hN1
      obtain ⟨wo, hwo⟩ : ∃ wo, wo = wr := ⟨_, rfl⟩
      subst hwo
      go_wp2
      go_loopw [9, 10] (fun bv iv wr => ∃ i : Nat, i ≤ n ∧ iv = .int .i64 i ∧ bv = .bool (al || anyW (eyP S) (wnt L) (p : Int) i) ∧ Kept WA wr none) (fun _ iv _ => n - (intOf iv).toNat)
      case atStart => exact ⟨0, by omega, rfl, by show _ = Value.bool (al || false); rw [Bool.or_false], hkr⟩
      case round =>
        clear hkr
        obtain ⟨i, hi, rfl, rfl, hkr⟩ := hrel
        obtain ⟨bb, hbb⟩ : ∃ bb, bb = (al || anyW (eyP S) (wnt L) (p : Int) i) := ⟨_, rfl⟩
        rw [← hbb]
        by_cases hlt : i < n
        · obtain ⟨b, off, ea, hb, c0, c1, c2, c3, c4⟩ := (HA.out.kept hkr).at_ hlt
          subst ea
          have hke : i < S.eyes.length := by omega
          obtain ⟨eb, eo, ee, heb, y0, y1, y2, y3⟩ := (HS.out.kept hkr).eye (k := i) hke
          have s5 := s5_ wr hkr
          rw [ee] at s5
          clear ee s5_ y1 y2 y3
          have hwl : w.heap.size < wr.heap.size := Nat.lt_of_lt_of_le hlA hkr.size
          have y0' : wr.cell? ⟨eb, eo + i * 4, none⟩ = some (.int .i64 (eyP S i)) := y0
          clear y0
          have HB1 : Hid ((al || anyW (eyP S) (wnt L) (p : Int) (i + 1)) = (bb || (decide (eyP S i = (p : Int)) && ((lk L i).up || (lk L i).bad)))) := by
            show _ = _
            rw [anyW_succ, ← Bool.or_assoc, ← hbb]
            rfl
          clear hbb
          have HWN : Hid (∀ w', Calls Tryd.prog 26 #[lkV (lk L i)] w' fun e w'' => e = .returned (.bool ((lk L i).up || (lk L i).bad)) ∧ Kept w' w'' none) := fun w' => rwants_any (lk L i) w'
          generalize eyP S i = P at *
          generalize lk L i = x at *
          obtain ⟨x0', x1', x2', x3', x4'⟩ := x
          dsimp only at c0 c1 c2 c3 c4
          have HB3 : Hid ((al || anyW (eyP S) (wnt L) (p : Int) (i + 1)) = (bb || (decide (P = (p : Int)) && (x0' || x3')))) := HB1.out
          clear HB1
          cases bb
          · by_cases hPp : P = (p : Int)
            · have hq1 : ((P == (p : Int)) : Bool) = true := by simp [hPp]
              have HB4 : Hid ((al || anyW (eyP S) (wnt L) (p : Int) (i + 1)) = (x0' || x3')) := by show _ = _; rw [HB3.out, decide_eq_true hPp]; rfl
              have HWN2 : Hid (∀ w', Calls Tryd.prog 26 #[lkV ⟨x0', x1', x2', x3', x4'⟩] w' fun e w'' => e = .returned (.bool (x0' || x3')) ∧ Kept w' w'' none) := HWN.out
              clear hPp HB3 HWN
              generalize (x0' || x3') = xx at *
              go_wp2_with (go_at_call 26; refine (HWN2.out _).mono ?_; rintro e wB ⟨rfl, hkB⟩)
              go_roundw
              case rel => exact ⟨i + 1, by omega, by go_num, by rw [HB4.out], hkr.tr hkB⟩
              case measure => simp [intOf]; omega
            · have hq1 : ((P == (p : Int)) : Bool) = false := by simp [hPp]
              have HB4 : Hid ((al || anyW (eyP S) (wnt L) (p : Int) (i + 1)) = false) := by show _ = _; rw [HB3.out, decide_eq_false hPp]; rfl
              clear hPp HB3
              go_wp2
              go_roundw
              case rel => exact ⟨i + 1, by omega, by go_num, by rw [HB4.out], hkr⟩
              case measure => simp [intOf]; omega
          · have HB4 : Hid ((al || anyW (eyP S) (wnt L) (p : Int) (i + 1)) = true) := by show _ = _; rw [HB3.out]; rfl
            clear HB3
            go_wp2
            go_roundw
            case rel => exact ⟨i + 1, by omega, by go_num, by rw [HB4.out], hkr⟩
            case measure => simp [intOf]; omega
        · obtain rfl : i = n := by omega
          have hwb : wantB S L p = bb := by rw [hbb, HAL.out]; unfold wantB; rw [HSZ.out]
          clear hbb
          cases bb
          · have HN2 : Hid (reaK S L (p + 1) = N1) := by show _ = _; rw [HN1.out]; exact belA_no hwb
            clear hwb
            go_wp2
            go_roundw
            case rel => exact ⟨p + 1, by omega, by go_num, by rw [HN2.out], hkr⟩
            case measure => simp [intOf]; omega
          · have HN2 : Hid (reaK S L (p + 1) = withV N1 (p : Int)) := by show _ = _; rw [HN1.out]; exact belA_yes hwb
            clear hwb
            go_wp2_with (go_at_call 27; refine (rwith_any N1 (p : Int) _ hN9).mono ?_; rintro e w5 ⟨rfl, hw5⟩; have hw5 := hw5.symm; subst hw5)
            go_roundw
            case rel => exact ⟨p + 1, by omega, by go_num, by rw [HN2.out], hkr⟩
            case measure => simp [intOf]; omega
    · obtain rfl : p = S.phases.length := by omega
      go_wp2
      go_ret2
      exact ⟨by rw [HRE.out]; rfl, HK.out.tr hkr⟩
theorem rrea_any {X : Sa} {S : St} {w : World} (h : Sat w X S) (hT : Tabb w) {a : Option Addr} {n ca : Nat} {L : List Lk} (hA : Lks w a n L) (hc : Cap a n ca) : Calls Tryd.prog 15 #[siteV X S, .slice a n ca] w fun e w' => e = .returned (.tuple #[.int .u32 ((reaV S L : Nat) : Int), .int .i64 (allE S L)]) ∧ Kept w w' none := by
  unfold reaV
  by_cases he : allE S L = 0
  · rw [if_pos he, he]
    exact rrea_go h hT hA hc he
  · rw [if_neg he]
    exact rrea_no h hT hA hc _ rfl he
set_option maxRecDepth 100000 in
set_option maxHeartbeats 2000000 in
theorem rnex_no {X : Sa} {S : St} {w : World} (h : Sat w X S) (hT : Tabb w) (c : Nat) (hc32 : c < 4294967296) (g : Int) {a : Option Addr} {n ca : Nat} {L : List Lk} (hA : Lks w a n L) (hc : Cap a n ca) (E : Int) (he : allE S L = E) (h0 : E ≠ 0) : Calls Tryd.prog 16 #[siteV X S, .int .u32 (c : Int), .slice a n ca, .int .i64 g] w fun e w' => e = .returned (.tuple #[.int .u32 0, .int .i64 E]) ∧ Kept w w' none := by
  have HE := Hid.mk' he
  have HR : Hid (reaV S L = 0) := by show _ = _; unfold reaV; rw [if_neg (by rw [he]; exact h0)]
  have hEb : (E != 0) = true := by simpa using h0
  clear he h0
  have hkA : Kept w (w.alloc (.cells #[.int .i64 S.id, .slice X.g S.groups.length X.gc, .slice X.a S.apart.length X.ac, .slice X.b S.between.length X.bc, .slice X.p S.phases.length X.pc, .slice X.e S.eyes.length X.ec, .int .i64 S.watch, .int .i64 S.feed, .int .i64 S.heal, .int .i64 S.low, .int .i64 S.high, .slice X.l S.plans.length X.lc] 29)) none := Kept.alloc _ _ _ _ _
  have hsb := sbox_alloc h 29
  have HS := Hid.mk' (h.kept hkA)
  have HT := Hid.mk' (hT.kept hkA)
  have HA := Hid.mk' (hA.kept hkA)
  have HSZ := Hid.mk' hA.size
  have hn9 : n ≤ 9223372036854775807 := by have := hc.room; have := hc.max; omega
  have hE9 : S.eyes.length ≤ 9223372036854775807 := by have := h.ek.room; have := h.ek.max; omega
  have hP9 : S.phases.length ≤ 9223372036854775807 := by have := h.pk.room; have := h.pk.max; omega
  obtain ⟨WA, hWA⟩ : ∃ WA, (w.alloc (.cells #[.int .i64 S.id, .slice X.g S.groups.length X.gc, .slice X.a S.apart.length X.ac, .slice X.b S.between.length X.bc, .slice X.p S.phases.length X.pc, .slice X.e S.eyes.length X.ec, .int .i64 S.watch, .int .i64 S.feed, .int .i64 S.heal, .int .i64 S.low, .int .i64 S.high, .slice X.l S.plans.length X.lc] 29)) = WA := ⟨_, rfl⟩
  rw [hWA] at hkA hsb HS HT HA
  have hlA : w.heap.size < WA.heap.size := hsb.lt
  have HK := Hid.mk' hkA
  have HSB := Hid.mk' hsb
  have hK0 := Kept.refl WA none
  clear h hT hA hkA hsb
  have s0_ : ∀ w', Kept WA w' none → w'.cell? ⟨w.heap.size, 0, none⟩ = some (.int .i64 S.id) := fun w' q => (HSB.out.kept q).c0
  have s1_ : ∀ w', Kept WA w' none → w'.cell? ⟨w.heap.size, 1, none⟩ = some (.slice X.g S.groups.length X.gc) := fun w' q => (HSB.out.kept q).c1
  have s2_ : ∀ w', Kept WA w' none → w'.cell? ⟨w.heap.size, 2, none⟩ = some (.slice X.a S.apart.length X.ac) := fun w' q => (HSB.out.kept q).c2
  have s3_ : ∀ w', Kept WA w' none → w'.cell? ⟨w.heap.size, 3, none⟩ = some (.slice X.b S.between.length X.bc) := fun w' q => (HSB.out.kept q).c3
  have s4_ : ∀ w', Kept WA w' none → w'.cell? ⟨w.heap.size, 4, none⟩ = some (.slice X.p S.phases.length X.pc) := fun w' q => (HSB.out.kept q).c4
  have s5_ : ∀ w', Kept WA w' none → w'.cell? ⟨w.heap.size, 5, none⟩ = some (.slice X.e S.eyes.length X.ec) := fun w' q => (HSB.out.kept q).c5
  have s6_ : ∀ w', Kept WA w' none → w'.cell? ⟨w.heap.size, 6, none⟩ = some (.int .i64 S.watch) := fun w' q => (HSB.out.kept q).c6
  have s7_ : ∀ w', Kept WA w' none → w'.cell? ⟨w.heap.size, 7, none⟩ = some (.int .i64 S.feed) := fun w' q => (HSB.out.kept q).c7
  have s8_ : ∀ w', Kept WA w' none → w'.cell? ⟨w.heap.size, 8, none⟩ = some (.int .i64 S.heal) := fun w' q => (HSB.out.kept q).c8
  have s9_ : ∀ w', Kept WA w' none → w'.cell? ⟨w.heap.size, 9, none⟩ = some (.int .i64 S.low) := fun w' q => (HSB.out.kept q).c9
  have s10_ : ∀ w', Kept WA w' none → w'.cell? ⟨w.heap.size, 10, none⟩ = some (.int .i64 S.high) := fun w' q => (HSB.out.kept q).c10
  have s11_ : ∀ w', Kept WA w' none → w'.cell? ⟨w.heap.size, 11, none⟩ = some (.slice X.l S.plans.length X.lc) := fun w' q => (HSB.out.kept q).c11
  go_enter Tryd.func16, Tryd.ntmps16
  go_wp2_with (first | rw [hWA] | (go_at_call 15; have hx := rrea_any HS.out HT.out HA.out hc; rw [HE.out, HR.out] at hx; refine hx.mono ?_; rintro e wC ⟨rfl, hkC⟩; have hKC : Kept WA wC none := hkC; clear hx))
  go_ret2
  exact ⟨rfl, HK.out.tr hKC⟩
set_option maxRecDepth 100000 in
set_option maxHeartbeats 2000000 in
theorem rnex_bad {X : Sa} {S : St} {w : World} (h : Sat w X S) (hT : Tabb w) (c : Nat) (hc32 : c < 4294967296) (g : Int) {a : Option Addr} {n ca : Nat} {L : List Lk} (hA : Lks w a n L) (hc : Cap a n ca) (he : allE S L = 0) (h1 : ¬ c < 2 ^ S.phases.length) : Calls Tryd.prog 16 #[siteV X S, .int .u32 (c : Int), .slice a n ca, .int .i64 g] w fun e w' => e = .returned (.tuple #[.int .u32 0, .int .i64 8]) ∧ Kept w w' none := by
  have HE := Hid.mk' he
  have HE3 := Hid.mk' (allE_zero he)
  have hp8 : S.phases.length ≤ 8 := (cal_facts HE3.out.1).p1
  have HR : Hid (reaV S L = wanN S L) := by show _ = _; unfold reaV; rw [if_pos he]
  have HM : Hid (false = decide (c < 2 ^ S.phases.length)) := (decide_eq_false h1).symm
  clear he h1
  have hkA : Kept w (w.alloc (.cells #[.int .i64 S.id, .slice X.g S.groups.length X.gc, .slice X.a S.apart.length X.ac, .slice X.b S.between.length X.bc, .slice X.p S.phases.length X.pc, .slice X.e S.eyes.length X.ec, .int .i64 S.watch, .int .i64 S.feed, .int .i64 S.heal, .int .i64 S.low, .int .i64 S.high, .slice X.l S.plans.length X.lc] 29)) none := Kept.alloc _ _ _ _ _
  have hsb := sbox_alloc h 29
  have HS := Hid.mk' (h.kept hkA)
  have HT := Hid.mk' (hT.kept hkA)
  have HA := Hid.mk' (hA.kept hkA)
  have HSZ := Hid.mk' hA.size
  have hn9 : n ≤ 9223372036854775807 := by have := hc.room; have := hc.max; omega
  have hE9 : S.eyes.length ≤ 9223372036854775807 := by have := h.ek.room; have := h.ek.max; omega
  have hP9 : S.phases.length ≤ 9223372036854775807 := by have := h.pk.room; have := h.pk.max; omega
  obtain ⟨WA, hWA⟩ : ∃ WA, (w.alloc (.cells #[.int .i64 S.id, .slice X.g S.groups.length X.gc, .slice X.a S.apart.length X.ac, .slice X.b S.between.length X.bc, .slice X.p S.phases.length X.pc, .slice X.e S.eyes.length X.ec, .int .i64 S.watch, .int .i64 S.feed, .int .i64 S.heal, .int .i64 S.low, .int .i64 S.high, .slice X.l S.plans.length X.lc] 29)) = WA := ⟨_, rfl⟩
  rw [hWA] at hkA hsb HS HT HA
  have hlA : w.heap.size < WA.heap.size := hsb.lt
  have HK := Hid.mk' hkA
  have HSB := Hid.mk' hsb
  have hK0 := Kept.refl WA none
  clear h hT hA hkA hsb
  have s0_ : ∀ w', Kept WA w' none → w'.cell? ⟨w.heap.size, 0, none⟩ = some (.int .i64 S.id) := fun w' q => (HSB.out.kept q).c0
  have s1_ : ∀ w', Kept WA w' none → w'.cell? ⟨w.heap.size, 1, none⟩ = some (.slice X.g S.groups.length X.gc) := fun w' q => (HSB.out.kept q).c1
  have s2_ : ∀ w', Kept WA w' none → w'.cell? ⟨w.heap.size, 2, none⟩ = some (.slice X.a S.apart.length X.ac) := fun w' q => (HSB.out.kept q).c2
  have s3_ : ∀ w', Kept WA w' none → w'.cell? ⟨w.heap.size, 3, none⟩ = some (.slice X.b S.between.length X.bc) := fun w' q => (HSB.out.kept q).c3
  have s4_ : ∀ w', Kept WA w' none → w'.cell? ⟨w.heap.size, 4, none⟩ = some (.slice X.p S.phases.length X.pc) := fun w' q => (HSB.out.kept q).c4
  have s5_ : ∀ w', Kept WA w' none → w'.cell? ⟨w.heap.size, 5, none⟩ = some (.slice X.e S.eyes.length X.ec) := fun w' q => (HSB.out.kept q).c5
  have s6_ : ∀ w', Kept WA w' none → w'.cell? ⟨w.heap.size, 6, none⟩ = some (.int .i64 S.watch) := fun w' q => (HSB.out.kept q).c6
  have s7_ : ∀ w', Kept WA w' none → w'.cell? ⟨w.heap.size, 7, none⟩ = some (.int .i64 S.feed) := fun w' q => (HSB.out.kept q).c7
  have s8_ : ∀ w', Kept WA w' none → w'.cell? ⟨w.heap.size, 8, none⟩ = some (.int .i64 S.heal) := fun w' q => (HSB.out.kept q).c8
  have s9_ : ∀ w', Kept WA w' none → w'.cell? ⟨w.heap.size, 9, none⟩ = some (.int .i64 S.low) := fun w' q => (HSB.out.kept q).c9
  have s10_ : ∀ w', Kept WA w' none → w'.cell? ⟨w.heap.size, 10, none⟩ = some (.int .i64 S.high) := fun w' q => (HSB.out.kept q).c10
  have s11_ : ∀ w', Kept WA w' none → w'.cell? ⟨w.heap.size, 11, none⟩ = some (.slice X.l S.plans.length X.lc) := fun w' q => (HSB.out.kept q).c11
  go_enter Tryd.func16, Tryd.ntmps16
  go_wp2_with (first | rw [hWA] | (have hgo := hKC; clear hgo; go_at_call 28; refine (rmay14_any (HS.out.kept hKC) c hc32 hp8 false HM.out).mono ?_; rintro e wD ⟨rfl, hkD⟩; have hKD : Kept WA wD none := hKC.tr hkD) | (go_at_call 15; have hx := rrea_any HS.out HT.out HA.out hc; rw [HE.out, HR.out] at hx; refine hx.mono ?_; rintro e wC ⟨rfl, hkC⟩; have hKC : Kept WA wC none := hkC; clear hx))
  go_ret2
  exact ⟨rfl, HK.out.tr hKD⟩
set_option maxRecDepth 100000 in
set_option maxHeartbeats 2000000 in
theorem rnex_low {X : Sa} {S : St} {w : World} (h : Sat w X S) (hT : Tabb w) (c : Nat) (hc32 : c < 4294967296) (g : Int) {a : Option Addr} {n ca : Nat} {L : List Lk} (hA : Lks w a n L) (hc : Cap a n ca) (he : allE S L = 0) (h1 : c < 2 ^ S.phases.length) (h2 : g < -1) : Calls Tryd.prog 16 #[siteV X S, .int .u32 (c : Int), .slice a n ca, .int .i64 g] w fun e w' => e = .returned (.tuple #[.int .u32 0, .int .i64 2]) ∧ Kept w w' none := by
  have HE := Hid.mk' he
  have HE3 := Hid.mk' (allE_zero he)
  have hp8 : S.phases.length ≤ 8 := (cal_facts HE3.out.1).p1
  have HR : Hid (reaV S L = wanN S L) := by show _ = _; unfold reaV; rw [if_pos he]
  have HM : Hid (true = decide (c < 2 ^ S.phases.length)) := (decide_eq_true h1).symm
  clear he h1
  have hkA : Kept w (w.alloc (.cells #[.int .i64 S.id, .slice X.g S.groups.length X.gc, .slice X.a S.apart.length X.ac, .slice X.b S.between.length X.bc, .slice X.p S.phases.length X.pc, .slice X.e S.eyes.length X.ec, .int .i64 S.watch, .int .i64 S.feed, .int .i64 S.heal, .int .i64 S.low, .int .i64 S.high, .slice X.l S.plans.length X.lc] 29)) none := Kept.alloc _ _ _ _ _
  have hsb := sbox_alloc h 29
  have HS := Hid.mk' (h.kept hkA)
  have HT := Hid.mk' (hT.kept hkA)
  have HA := Hid.mk' (hA.kept hkA)
  have HSZ := Hid.mk' hA.size
  have hn9 : n ≤ 9223372036854775807 := by have := hc.room; have := hc.max; omega
  have hE9 : S.eyes.length ≤ 9223372036854775807 := by have := h.ek.room; have := h.ek.max; omega
  have hP9 : S.phases.length ≤ 9223372036854775807 := by have := h.pk.room; have := h.pk.max; omega
  obtain ⟨WA, hWA⟩ : ∃ WA, (w.alloc (.cells #[.int .i64 S.id, .slice X.g S.groups.length X.gc, .slice X.a S.apart.length X.ac, .slice X.b S.between.length X.bc, .slice X.p S.phases.length X.pc, .slice X.e S.eyes.length X.ec, .int .i64 S.watch, .int .i64 S.feed, .int .i64 S.heal, .int .i64 S.low, .int .i64 S.high, .slice X.l S.plans.length X.lc] 29)) = WA := ⟨_, rfl⟩
  rw [hWA] at hkA hsb HS HT HA
  have hlA : w.heap.size < WA.heap.size := hsb.lt
  have HK := Hid.mk' hkA
  have HSB := Hid.mk' hsb
  have hK0 := Kept.refl WA none
  clear h hT hA hkA hsb
  have s0_ : ∀ w', Kept WA w' none → w'.cell? ⟨w.heap.size, 0, none⟩ = some (.int .i64 S.id) := fun w' q => (HSB.out.kept q).c0
  have s1_ : ∀ w', Kept WA w' none → w'.cell? ⟨w.heap.size, 1, none⟩ = some (.slice X.g S.groups.length X.gc) := fun w' q => (HSB.out.kept q).c1
  have s2_ : ∀ w', Kept WA w' none → w'.cell? ⟨w.heap.size, 2, none⟩ = some (.slice X.a S.apart.length X.ac) := fun w' q => (HSB.out.kept q).c2
  have s3_ : ∀ w', Kept WA w' none → w'.cell? ⟨w.heap.size, 3, none⟩ = some (.slice X.b S.between.length X.bc) := fun w' q => (HSB.out.kept q).c3
  have s4_ : ∀ w', Kept WA w' none → w'.cell? ⟨w.heap.size, 4, none⟩ = some (.slice X.p S.phases.length X.pc) := fun w' q => (HSB.out.kept q).c4
  have s5_ : ∀ w', Kept WA w' none → w'.cell? ⟨w.heap.size, 5, none⟩ = some (.slice X.e S.eyes.length X.ec) := fun w' q => (HSB.out.kept q).c5
  have s6_ : ∀ w', Kept WA w' none → w'.cell? ⟨w.heap.size, 6, none⟩ = some (.int .i64 S.watch) := fun w' q => (HSB.out.kept q).c6
  have s7_ : ∀ w', Kept WA w' none → w'.cell? ⟨w.heap.size, 7, none⟩ = some (.int .i64 S.feed) := fun w' q => (HSB.out.kept q).c7
  have s8_ : ∀ w', Kept WA w' none → w'.cell? ⟨w.heap.size, 8, none⟩ = some (.int .i64 S.heal) := fun w' q => (HSB.out.kept q).c8
  have s9_ : ∀ w', Kept WA w' none → w'.cell? ⟨w.heap.size, 9, none⟩ = some (.int .i64 S.low) := fun w' q => (HSB.out.kept q).c9
  have s10_ : ∀ w', Kept WA w' none → w'.cell? ⟨w.heap.size, 10, none⟩ = some (.int .i64 S.high) := fun w' q => (HSB.out.kept q).c10
  have s11_ : ∀ w', Kept WA w' none → w'.cell? ⟨w.heap.size, 11, none⟩ = some (.slice X.l S.plans.length X.lc) := fun w' q => (HSB.out.kept q).c11
  go_enter Tryd.func16, Tryd.ntmps16
  go_wp2_with (first | rw [hWA] | (have hgo := hKC; clear hgo; go_at_call 28; refine (rmay14_any (HS.out.kept hKC) c hc32 hp8 true HM.out).mono ?_; rintro e wD ⟨rfl, hkD⟩; have hKD : Kept WA wD none := hKC.tr hkD) | (go_at_call 15; have hx := rrea_any HS.out HT.out HA.out hc; rw [HE.out, HR.out] at hx; refine hx.mono ?_; rintro e wC ⟨rfl, hkC⟩; have hKC : Kept WA wC none := hkC; clear hx))
  go_ret2
  exact ⟨rfl, HK.out.tr hKD⟩
set_option maxRecDepth 100000 in
set_option maxHeartbeats 2000000 in
theorem rnex_far {X : Sa} {S : St} {w : World} (h : Sat w X S) (hT : Tabb w) (c : Nat) (hc32 : c < 4294967296) (g : Int) {a : Option Addr} {n ca : Nat} {L : List Lk} (hA : Lks w a n L) (hc : Cap a n ca) (he : allE S L = 0) (h1 : c < 2 ^ S.phases.length) (h2 : -1 ≤ g) (h3 : (S.phases.length : Int) ≤ g) : Calls Tryd.prog 16 #[siteV X S, .int .u32 (c : Int), .slice a n ca, .int .i64 g] w fun e w' => e = .returned (.tuple #[.int .u32 0, .int .i64 2]) ∧ Kept w w' none := by
  have HE := Hid.mk' he
  have HE3 := Hid.mk' (allE_zero he)
  have hp8 : S.phases.length ≤ 8 := (cal_facts HE3.out.1).p1
  have HR : Hid (reaV S L = wanN S L) := by show _ = _; unfold reaV; rw [if_pos he]
  have HM : Hid (true = decide (c < 2 ^ S.phases.length)) := (decide_eq_true h1).symm
  clear he h1
  have hkA : Kept w (w.alloc (.cells #[.int .i64 S.id, .slice X.g S.groups.length X.gc, .slice X.a S.apart.length X.ac, .slice X.b S.between.length X.bc, .slice X.p S.phases.length X.pc, .slice X.e S.eyes.length X.ec, .int .i64 S.watch, .int .i64 S.feed, .int .i64 S.heal, .int .i64 S.low, .int .i64 S.high, .slice X.l S.plans.length X.lc] 29)) none := Kept.alloc _ _ _ _ _
  have hsb := sbox_alloc h 29
  have HS := Hid.mk' (h.kept hkA)
  have HT := Hid.mk' (hT.kept hkA)
  have HA := Hid.mk' (hA.kept hkA)
  have HSZ := Hid.mk' hA.size
  have hn9 : n ≤ 9223372036854775807 := by have := hc.room; have := hc.max; omega
  have hE9 : S.eyes.length ≤ 9223372036854775807 := by have := h.ek.room; have := h.ek.max; omega
  have hP9 : S.phases.length ≤ 9223372036854775807 := by have := h.pk.room; have := h.pk.max; omega
  obtain ⟨WA, hWA⟩ : ∃ WA, (w.alloc (.cells #[.int .i64 S.id, .slice X.g S.groups.length X.gc, .slice X.a S.apart.length X.ac, .slice X.b S.between.length X.bc, .slice X.p S.phases.length X.pc, .slice X.e S.eyes.length X.ec, .int .i64 S.watch, .int .i64 S.feed, .int .i64 S.heal, .int .i64 S.low, .int .i64 S.high, .slice X.l S.plans.length X.lc] 29)) = WA := ⟨_, rfl⟩
  rw [hWA] at hkA hsb HS HT HA
  have hlA : w.heap.size < WA.heap.size := hsb.lt
  have HK := Hid.mk' hkA
  have HSB := Hid.mk' hsb
  have hK0 := Kept.refl WA none
  clear h hT hA hkA hsb
  have s0_ : ∀ w', Kept WA w' none → w'.cell? ⟨w.heap.size, 0, none⟩ = some (.int .i64 S.id) := fun w' q => (HSB.out.kept q).c0
  have s1_ : ∀ w', Kept WA w' none → w'.cell? ⟨w.heap.size, 1, none⟩ = some (.slice X.g S.groups.length X.gc) := fun w' q => (HSB.out.kept q).c1
  have s2_ : ∀ w', Kept WA w' none → w'.cell? ⟨w.heap.size, 2, none⟩ = some (.slice X.a S.apart.length X.ac) := fun w' q => (HSB.out.kept q).c2
  have s3_ : ∀ w', Kept WA w' none → w'.cell? ⟨w.heap.size, 3, none⟩ = some (.slice X.b S.between.length X.bc) := fun w' q => (HSB.out.kept q).c3
  have s4_ : ∀ w', Kept WA w' none → w'.cell? ⟨w.heap.size, 4, none⟩ = some (.slice X.p S.phases.length X.pc) := fun w' q => (HSB.out.kept q).c4
  have s5_ : ∀ w', Kept WA w' none → w'.cell? ⟨w.heap.size, 5, none⟩ = some (.slice X.e S.eyes.length X.ec) := fun w' q => (HSB.out.kept q).c5
  have s6_ : ∀ w', Kept WA w' none → w'.cell? ⟨w.heap.size, 6, none⟩ = some (.int .i64 S.watch) := fun w' q => (HSB.out.kept q).c6
  have s7_ : ∀ w', Kept WA w' none → w'.cell? ⟨w.heap.size, 7, none⟩ = some (.int .i64 S.feed) := fun w' q => (HSB.out.kept q).c7
  have s8_ : ∀ w', Kept WA w' none → w'.cell? ⟨w.heap.size, 8, none⟩ = some (.int .i64 S.heal) := fun w' q => (HSB.out.kept q).c8
  have s9_ : ∀ w', Kept WA w' none → w'.cell? ⟨w.heap.size, 9, none⟩ = some (.int .i64 S.low) := fun w' q => (HSB.out.kept q).c9
  have s10_ : ∀ w', Kept WA w' none → w'.cell? ⟨w.heap.size, 10, none⟩ = some (.int .i64 S.high) := fun w' q => (HSB.out.kept q).c10
  have s11_ : ∀ w', Kept WA w' none → w'.cell? ⟨w.heap.size, 11, none⟩ = some (.slice X.l S.plans.length X.lc) := fun w' q => (HSB.out.kept q).c11
  go_enter Tryd.func16, Tryd.ntmps16
  go_wp2_with (first | rw [hWA] | (have hgo := hKC; clear hgo; go_at_call 28; refine (rmay14_any (HS.out.kept hKC) c hc32 hp8 true HM.out).mono ?_; rintro e wD ⟨rfl, hkD⟩; have hKD : Kept WA wD none := hKC.tr hkD) | (go_at_call 15; have hx := rrea_any HS.out HT.out HA.out hc; rw [HE.out, HR.out] at hx; refine hx.mono ?_; rintro e wC ⟨rfl, hkC⟩; have hKC : Kept WA wC none := hkC; clear hx))
  go_ret2
  exact ⟨rfl, HK.out.tr hKD⟩
set_option maxRecDepth 100000 in
set_option maxHeartbeats 2000000 in
theorem rnex_go {X : Sa} {S : St} {w : World} (h : Sat w X S) (hT : Tabb w) (c : Nat) (hc32 : c < 4294967296) (g : Int) {a : Option Addr} {n ca : Nat} {L : List Lk} (hA : Lks w a n L) (hc : Cap a n ca) (he : allE S L = 0) (h1 : c < 2 ^ S.phases.length) (h2 : -1 ≤ g) (h3 : g < (S.phases.length : Int)) : Calls Tryd.prog 16 #[siteV X S, .int .u32 (c : Int), .slice a n ca, .int .i64 g] w fun e w' => e = .returned (.tuple #[.int .u32 ((nxtN S c L g : Nat) : Int), .int .i64 0]) ∧ Kept w w' none := by
  have HE := Hid.mk' he
  have HE3 := Hid.mk' (allE_zero he)
  have hp8 : S.phases.length ≤ 8 := (cal_facts HE3.out.1).p1
  have HR : Hid (reaV S L = wanN S L) := by show _ = _; unfold reaV; rw [if_pos he]
  have HM : Hid (true = decide (c < 2 ^ S.phases.length)) := (decide_eq_true h1).symm
  have HNX : Hid (nexK S c L g S.phases.length = nxtN S c L g) := nex_is HE3.out.1 HE3.out.2.1 h1
  obtain ⟨RV, hRV⟩ : ∃ RV, RV = wanN S L := ⟨_, rfl⟩
  rw [← hRV] at HR
  have HRB := Hid.mk' hRV.symm
  have hRV9 : RV < 4294967296 := by rw [hRV]; exact wanN_lt S L
  clear he h1 hRV
  have hkA : Kept w (w.alloc (.cells #[.int .i64 S.id, .slice X.g S.groups.length X.gc, .slice X.a S.apart.length X.ac, .slice X.b S.between.length X.bc, .slice X.p S.phases.length X.pc, .slice X.e S.eyes.length X.ec, .int .i64 S.watch, .int .i64 S.feed, .int .i64 S.heal, .int .i64 S.low, .int .i64 S.high, .slice X.l S.plans.length X.lc] 29)) none := Kept.alloc _ _ _ _ _
  have hsb := sbox_alloc h 29
  have HS := Hid.mk' (h.kept hkA)
  have HT := Hid.mk' (hT.kept hkA)
  have HA := Hid.mk' (hA.kept hkA)
  have HSZ := Hid.mk' hA.size
  have hn9 : n ≤ 9223372036854775807 := by have := hc.room; have := hc.max; omega
  have hE9 : S.eyes.length ≤ 9223372036854775807 := by have := h.ek.room; have := h.ek.max; omega
  have hP9 : S.phases.length ≤ 9223372036854775807 := by have := h.pk.room; have := h.pk.max; omega
  obtain ⟨WA, hWA⟩ : ∃ WA, (w.alloc (.cells #[.int .i64 S.id, .slice X.g S.groups.length X.gc, .slice X.a S.apart.length X.ac, .slice X.b S.between.length X.bc, .slice X.p S.phases.length X.pc, .slice X.e S.eyes.length X.ec, .int .i64 S.watch, .int .i64 S.feed, .int .i64 S.heal, .int .i64 S.low, .int .i64 S.high, .slice X.l S.plans.length X.lc] 29)) = WA := ⟨_, rfl⟩
  rw [hWA] at hkA hsb HS HT HA
  have hlA : w.heap.size < WA.heap.size := hsb.lt
  have HK := Hid.mk' hkA
  have HSB := Hid.mk' hsb
  have hK0 := Kept.refl WA none
  clear h hT hA hkA hsb
  have s0_ : ∀ w', Kept WA w' none → w'.cell? ⟨w.heap.size, 0, none⟩ = some (.int .i64 S.id) := fun w' q => (HSB.out.kept q).c0
  have s1_ : ∀ w', Kept WA w' none → w'.cell? ⟨w.heap.size, 1, none⟩ = some (.slice X.g S.groups.length X.gc) := fun w' q => (HSB.out.kept q).c1
  have s2_ : ∀ w', Kept WA w' none → w'.cell? ⟨w.heap.size, 2, none⟩ = some (.slice X.a S.apart.length X.ac) := fun w' q => (HSB.out.kept q).c2
  have s3_ : ∀ w', Kept WA w' none → w'.cell? ⟨w.heap.size, 3, none⟩ = some (.slice X.b S.between.length X.bc) := fun w' q => (HSB.out.kept q).c3
  have s4_ : ∀ w', Kept WA w' none → w'.cell? ⟨w.heap.size, 4, none⟩ = some (.slice X.p S.phases.length X.pc) := fun w' q => (HSB.out.kept q).c4
  have s5_ : ∀ w', Kept WA w' none → w'.cell? ⟨w.heap.size, 5, none⟩ = some (.slice X.e S.eyes.length X.ec) := fun w' q => (HSB.out.kept q).c5
  have s6_ : ∀ w', Kept WA w' none → w'.cell? ⟨w.heap.size, 6, none⟩ = some (.int .i64 S.watch) := fun w' q => (HSB.out.kept q).c6
  have s7_ : ∀ w', Kept WA w' none → w'.cell? ⟨w.heap.size, 7, none⟩ = some (.int .i64 S.feed) := fun w' q => (HSB.out.kept q).c7
  have s8_ : ∀ w', Kept WA w' none → w'.cell? ⟨w.heap.size, 8, none⟩ = some (.int .i64 S.heal) := fun w' q => (HSB.out.kept q).c8
  have s9_ : ∀ w', Kept WA w' none → w'.cell? ⟨w.heap.size, 9, none⟩ = some (.int .i64 S.low) := fun w' q => (HSB.out.kept q).c9
  have s10_ : ∀ w', Kept WA w' none → w'.cell? ⟨w.heap.size, 10, none⟩ = some (.int .i64 S.high) := fun w' q => (HSB.out.kept q).c10
  have s11_ : ∀ w', Kept WA w' none → w'.cell? ⟨w.heap.size, 11, none⟩ = some (.slice X.l S.plans.length X.lc) := fun w' q => (HSB.out.kept q).c11
  go_enter Tryd.func16, Tryd.ntmps16
  go_wp2_with (first | rw [hWA] | (have hgo := hKC; clear hgo; go_at_call 28; refine (rmay14_any (HS.out.kept hKC) c hc32 hp8 true HM.out).mono ?_; rintro e wD ⟨rfl, hkD⟩; have hKD : Kept WA wD none := hKC.tr hkD) | (go_at_call 15; have hx := rrea_any HS.out HT.out HA.out hc; rw [HE.out, HR.out] at hx; refine hx.mono ?_; rintro e wC ⟨rfl, hkC⟩; have hKC : Kept WA wC none := hkC; clear hx))
  have hA0 : (0 : Int) = ((nexK S c L g 0 : Nat) : Int) := rfl
  go_loopw [12, 13] (fun ov pv wr => ∃ p : Nat, p ≤ S.phases.length ∧ pv = .int .i64 p ∧ ov = .int .u32 ((nexK S c L g p : Nat) : Int) ∧ Kept WA wr none) (fun _ pv _ => S.phases.length - (intOf pv).toNat)
  case atStart => exact ⟨0, by omega, rfl, rfl, hKD⟩
  case round =>
    clear hA0
    obtain ⟨p, hp, rfl, rfl, hkr⟩ := hrel
    by_cases hlp : p < S.phases.length
    · have hN9 := nexK_lt S c L g p
      obtain ⟨N1, hN1⟩ : ∃ N1, N1 = nexK S c L g p := ⟨_, rfl⟩
      rw [← hN1] at hN9
      rw [← hN1]
      have HN1 := Hid.mk' hN1
      clear hN1
      by_cases hpg : (p : Int) = g
      · have hg1 : (((p : Int) != g) : Bool) = false := by simp [hpg]
        have hnb : nexB S c L g p = false := by unfold nexB; rw [decide_eq_true hpg]; rfl
        clear hpg
        have HN2 : Hid (nexK S c L g (p + 1) = N1) := by show _ = _; rw [HN1.out]; exact belA_no hnb
        clear hnb
        go_wp2
        go_roundw
        case rel => exact ⟨p + 1, by omega, by go_num, by rw [HN2.out], hkr⟩
        case measure => simp [intOf]; omega
      · have hg1 : (((p : Int) != g) : Bool) = true := by simp [hpg]
        cases hc1 : hasB c (p : Int)
        · cases hr1 : hasB RV (p : Int)
          · have hnb : nexB S c L g p = false := by unfold nexB; rw [decide_eq_false hpg, hc1, HRB.out, hr1]; rfl
            clear hpg
            have HN2 : Hid (nexK S c L g (p + 1) = N1) := by show _ = _; rw [HN1.out]; exact belA_no hnb
            clear hnb
            go_wp2_with (first | (have hgo := hc1; clear hgo; go_at_call 29; have hx := rhas_any c (p : Int) wr hc32; rw [hc1] at hx; refine hx.mono ?_; clear hx hc1; rintro e w5 ⟨rfl, hw5⟩; have hw5 := hw5.symm; subst hw5) | (have hgo := hr1; clear hgo; go_at_call 29; have hx := rhas_any RV (p : Int) wr hRV9; rw [hr1] at hx; refine hx.mono ?_; clear hx hr1; rintro e w5 ⟨rfl, hw5⟩; have hw5 := hw5.symm; subst hw5))
            go_roundw
            case rel => exact ⟨p + 1, by omega, by go_num, by rw [HN2.out], hkr⟩
            case measure => simp [intOf]; omega
          · have hnb : nexB S c L g p = true := by unfold nexB; rw [decide_eq_false hpg, hc1, HRB.out, hr1]; rfl
            clear hpg
            have HN2 : Hid (nexK S c L g (p + 1) = withV N1 (p : Int)) := by show _ = _; rw [HN1.out]; exact belA_yes hnb
            clear hnb
            go_wp2_with (first | (have hgo := hc1; clear hgo; go_at_call 29; have hx := rhas_any c (p : Int) wr hc32; rw [hc1] at hx; refine hx.mono ?_; clear hx hc1; rintro e w5 ⟨rfl, hw5⟩; have hw5 := hw5.symm; subst hw5) | (have hgo := hr1; clear hgo; go_at_call 29; have hx := rhas_any RV (p : Int) wr hRV9; rw [hr1] at hx; refine hx.mono ?_; clear hx hr1; rintro e w5 ⟨rfl, hw5⟩; have hw5 := hw5.symm; subst hw5) | (go_at_call 27; refine (rwith_any N1 (p : Int) _ hN9).mono ?_; rintro e w5 ⟨rfl, hw5⟩; have hw5 := hw5.symm; subst hw5))
            go_roundw
            case rel => exact ⟨p + 1, by omega, by go_num, by rw [HN2.out], hkr⟩
            case measure => simp [intOf]; omega
        · have hnb : nexB S c L g p = true := by unfold nexB; rw [decide_eq_false hpg, hc1]; rfl
          clear hpg
          have HN2 : Hid (nexK S c L g (p + 1) = withV N1 (p : Int)) := by show _ = _; rw [HN1.out]; exact belA_yes hnb
          clear hnb
          go_wp2_with (first | (have hgo := hc1; clear hgo; go_at_call 29; have hx := rhas_any c (p : Int) wr hc32; rw [hc1] at hx; refine hx.mono ?_; clear hx hc1; rintro e w5 ⟨rfl, hw5⟩; have hw5 := hw5.symm; subst hw5) | (go_at_call 27; refine (rwith_any N1 (p : Int) _ hN9).mono ?_; rintro e w5 ⟨rfl, hw5⟩; have hw5 := hw5.symm; subst hw5))
          go_roundw
          case rel => exact ⟨p + 1, by omega, by go_num, by rw [HN2.out], hkr⟩
          case measure => simp [intOf]; omega
    · obtain rfl : p = S.phases.length := by omega
      go_wp2
      go_ret2
      exact ⟨by rw [← HNX.out]; rfl, HK.out.tr hkr⟩
theorem rnex_any {X : Sa} {S : St} {w : World} (h : Sat w X S) (hT : Tabb w) (c : Nat) (hc32 : c < 4294967296) (g : Int) {a : Option Addr} {n ca : Nat} {L : List Lk} (hA : Lks w a n L) (hc : Cap a n ca) : Calls Tryd.prog 16 #[siteV X S, .int .u32 (c : Int), .slice a n ca, .int .i64 g] w fun e w' => e = .returned (.tuple #[.int .u32 ((nexV S c L g : Nat) : Int), .int .i64 (nexE S c L g)]) ∧ Kept w w' none := by
  unfold nexV
  by_cases he : allE S L = 0
  · by_cases h1 : c < 2 ^ S.phases.length
    · by_cases h2 : -1 ≤ g
      · by_cases h3 : g < (S.phases.length : Int)
        · have e : nexE S c L g = 0 := by unfold nexE; rw [if_pos he, calE_ok h1 ⟨h2, h3⟩]
          rw [if_pos e, e]
          exact rnex_go h hT c hc32 g hA hc he h1 h2 h3
        · have e : nexE S c L g = 2 := by unfold nexE; rw [if_pos he, calE_arg h1 (by omega)]
          rw [if_neg (by rw [e]; decide), e]
          exact rnex_far h hT c hc32 g hA hc he h1 h2 (by omega)
      · have e : nexE S c L g = 2 := by unfold nexE; rw [if_pos he, calE_arg h1 (by omega)]
        rw [if_neg (by rw [e]; decide), e]
        exact rnex_low h hT c hc32 g hA hc he h1 (by omega)
    · have e : nexE S c L g = 8 := by unfold nexE; rw [if_pos he, calE_bad h1]
      rw [if_neg (by rw [e]; decide), e]
      exact rnex_bad h hT c hc32 g hA hc he h1
  · have e : nexE S c L g = allE S L := by unfold nexE; rw [if_neg he]
    rw [if_neg (by rw [e]; exact he), e]
    exact rnex_no h hT c hc32 g hA hc _ rfl he

end Go.Proofs.YtjfajdmifjbblaaDoor

/-
  THE CONTRACT of the document's First (made by a program).
-/
namespace Go.Proofs.YtjfajdmifjbblaaDoor
open Go.RowKit Go.Lib Go.Deep
set_option linter.unusedVariables false
set_option linter.unusedSimpArgs false

theorem fir_up {c n q p : Nat} (hq : q ≤ p) (hp : p < n) (h : c.testBit p = true) (hl : ∀ j, q ≤ j → j < p → c.testBit j = false) : firV c n q = (p : Int) := by
  rw [firV_of (k := p - q) (by omega) (by unfold atR; rw [show q + (p - q) = p by omega, Nat.mod_eq_of_lt hp]; exact h) (fun j hj => by unfold atR; rw [Nat.mod_eq_of_lt (by omega)]; exact hl _ (by omega) (by omega))]
  rw [show q + (p - q) = p by omega, Nat.mod_eq_of_lt hp]
theorem fir_down {c n q p : Nat} (hq : p < q) (hn : q ≤ n) (h : c.testBit p = true) (h1 : ∀ j, q ≤ j → j < n → c.testBit j = false) (hl : ∀ j, j < p → c.testBit j = false) : firV c n q = (p : Int) := by
  have e : (q + (n - q + p)) % n = p := by rw [show q + (n - q + p) = p + n by omega, Nat.add_mod_right, Nat.mod_eq_of_lt (by omega)]
  rw [firV_of (k := n - q + p) (by omega) (by unfold atR; rw [e]; exact h) (fun j hj => by
    unfold atR
    by_cases q1 : q + j < n
    · rw [Nat.mod_eq_of_lt q1]; exact h1 _ (by omega) q1
    · rw [show q + j = q + j - n + n by omega, Nat.add_mod_right, Nat.mod_eq_of_lt (by omega)]
      exact hl _ (by omega)), e]
theorem fir_no {c n q : Nat} (hn : q ≤ n) (h1 : ∀ j, q ≤ j → j < n → c.testBit j = false) (hl : ∀ j, j < q → c.testBit j = false) : firV c n q = -1 := firV_none (fun j hj => by
  unfold atR
  have : (q + j) % n < n := Nat.mod_lt _ (by omega)
  by_cases q1 : q ≤ (q + j) % n
  · exact h1 _ q1 this
  · exact hl _ (by omega))
set_option maxRecDepth 100000 in
set_option maxHeartbeats 2000000 in
theorem rfst_site {X : Sa} {S : St} {w : World} (h : Sat w X S) (hT : Tabb w) (c : Nat) (hc32 : c < 4294967296) (g : Int) (hs : siteB S = false) : Calls Tryd.prog 17 #[siteV X S, .int .u32 (c : Int), .int .i64 g] w fun e w' => e = .returned (.tuple #[.int .i64 0, .int .i64 50]) ∧ Kept w w' none := by
  have hce : checkE S = 50 := by unfold checkE; rw [hs]; rfl
  have hkA : Kept w (w.alloc (.cells #[.int .i64 S.id, .slice X.g S.groups.length X.gc, .slice X.a S.apart.length X.ac, .slice X.b S.between.length X.bc, .slice X.p S.phases.length X.pc, .slice X.e S.eyes.length X.ec, .int .i64 S.watch, .int .i64 S.feed, .int .i64 S.heal, .int .i64 S.low, .int .i64 S.high, .slice X.l S.plans.length X.lc] 29)) none := Kept.alloc _ _ _ _ _
  have hsb := sbox_alloc h 29
  have HS := Hid.mk' (h.kept hkA)
  have HT := Hid.mk' (hT.kept hkA)
  have hE9 : S.eyes.length ≤ 9223372036854775807 := by have := h.ek.room; have := h.ek.max; omega
  have hP9 : S.phases.length ≤ 9223372036854775807 := by have := h.pk.room; have := h.pk.max; omega
  obtain ⟨WA, hWA⟩ : ∃ WA, (w.alloc (.cells #[.int .i64 S.id, .slice X.g S.groups.length X.gc, .slice X.a S.apart.length X.ac, .slice X.b S.between.length X.bc, .slice X.p S.phases.length X.pc, .slice X.e S.eyes.length X.ec, .int .i64 S.watch, .int .i64 S.feed, .int .i64 S.heal, .int .i64 S.low, .int .i64 S.high, .slice X.l S.plans.length X.lc] 29)) = WA := ⟨_, rfl⟩
  rw [hWA] at hkA hsb HS HT
  have hlA : w.heap.size < WA.heap.size := hsb.lt
  have HK := Hid.mk' hkA
  have HSB := Hid.mk' hsb
  have hK0 := Kept.refl WA none
  clear h hT hkA hsb
  have s0_ : ∀ w', Kept WA w' none → w'.cell? ⟨w.heap.size, 0, none⟩ = some (.int .i64 S.id) := fun w' q => (HSB.out.kept q).c0
  have s1_ : ∀ w', Kept WA w' none → w'.cell? ⟨w.heap.size, 1, none⟩ = some (.slice X.g S.groups.length X.gc) := fun w' q => (HSB.out.kept q).c1
  have s2_ : ∀ w', Kept WA w' none → w'.cell? ⟨w.heap.size, 2, none⟩ = some (.slice X.a S.apart.length X.ac) := fun w' q => (HSB.out.kept q).c2
  have s3_ : ∀ w', Kept WA w' none → w'.cell? ⟨w.heap.size, 3, none⟩ = some (.slice X.b S.between.length X.bc) := fun w' q => (HSB.out.kept q).c3
  have s4_ : ∀ w', Kept WA w' none → w'.cell? ⟨w.heap.size, 4, none⟩ = some (.slice X.p S.phases.length X.pc) := fun w' q => (HSB.out.kept q).c4
  have s5_ : ∀ w', Kept WA w' none → w'.cell? ⟨w.heap.size, 5, none⟩ = some (.slice X.e S.eyes.length X.ec) := fun w' q => (HSB.out.kept q).c5
  have s6_ : ∀ w', Kept WA w' none → w'.cell? ⟨w.heap.size, 6, none⟩ = some (.int .i64 S.watch) := fun w' q => (HSB.out.kept q).c6
  have s7_ : ∀ w', Kept WA w' none → w'.cell? ⟨w.heap.size, 7, none⟩ = some (.int .i64 S.feed) := fun w' q => (HSB.out.kept q).c7
  have s8_ : ∀ w', Kept WA w' none → w'.cell? ⟨w.heap.size, 8, none⟩ = some (.int .i64 S.heal) := fun w' q => (HSB.out.kept q).c8
  have s9_ : ∀ w', Kept WA w' none → w'.cell? ⟨w.heap.size, 9, none⟩ = some (.int .i64 S.low) := fun w' q => (HSB.out.kept q).c9
  have s10_ : ∀ w', Kept WA w' none → w'.cell? ⟨w.heap.size, 10, none⟩ = some (.int .i64 S.high) := fun w' q => (HSB.out.kept q).c10
  have s11_ : ∀ w', Kept WA w' none → w'.cell? ⟨w.heap.size, 11, none⟩ = some (.slice X.l S.plans.length X.lc) := fun w' q => (HSB.out.kept q).c11
  go_enter Tryd.func17, Tryd.ntmps17
  go_wp2_with (first | rw [hWA] | (go_at_call 30; have hx := rcheck_any HS.out; rw [hce] at hx; refine hx.mono ?_; rintro e wC ⟨rfl, hkC⟩; have hKC : Kept WA wC none := hkC; clear hx))
  go_ret2
  exact ⟨rfl, HK.out.tr hKC⟩
set_option maxRecDepth 100000 in
set_option maxHeartbeats 2000000 in
theorem rfst_bad {X : Sa} {S : St} {w : World} (h : Sat w X S) (hT : Tabb w) (c : Nat) (hc32 : c < 4294967296) (g : Int) (hs : siteB S = true) (h1 : ¬ c < 2 ^ S.phases.length) : Calls Tryd.prog 17 #[siteV X S, .int .u32 (c : Int), .int .i64 g] w fun e w' => e = .returned (.tuple #[.int .i64 0, .int .i64 8]) ∧ Kept w w' none := by
  have hce : checkE S = 0 := by unfold checkE; rw [hs]; rfl
  have hp8 : S.phases.length ≤ 8 := (cal_facts hs).p1
  have HM : Hid (false = decide (c < 2 ^ S.phases.length)) := (decide_eq_false h1).symm
  clear hs h1
  have hkA : Kept w (w.alloc (.cells #[.int .i64 S.id, .slice X.g S.groups.length X.gc, .slice X.a S.apart.length X.ac, .slice X.b S.between.length X.bc, .slice X.p S.phases.length X.pc, .slice X.e S.eyes.length X.ec, .int .i64 S.watch, .int .i64 S.feed, .int .i64 S.heal, .int .i64 S.low, .int .i64 S.high, .slice X.l S.plans.length X.lc] 29)) none := Kept.alloc _ _ _ _ _
  have hsb := sbox_alloc h 29
  have HS := Hid.mk' (h.kept hkA)
  have HT := Hid.mk' (hT.kept hkA)
  have hE9 : S.eyes.length ≤ 9223372036854775807 := by have := h.ek.room; have := h.ek.max; omega
  have hP9 : S.phases.length ≤ 9223372036854775807 := by have := h.pk.room; have := h.pk.max; omega
  obtain ⟨WA, hWA⟩ : ∃ WA, (w.alloc (.cells #[.int .i64 S.id, .slice X.g S.groups.length X.gc, .slice X.a S.apart.length X.ac, .slice X.b S.between.length X.bc, .slice X.p S.phases.length X.pc, .slice X.e S.eyes.length X.ec, .int .i64 S.watch, .int .i64 S.feed, .int .i64 S.heal, .int .i64 S.low, .int .i64 S.high, .slice X.l S.plans.length X.lc] 29)) = WA := ⟨_, rfl⟩
  rw [hWA] at hkA hsb HS HT
  have hlA : w.heap.size < WA.heap.size := hsb.lt
  have HK := Hid.mk' hkA
  have HSB := Hid.mk' hsb
  have hK0 := Kept.refl WA none
  clear h hT hkA hsb
  have s0_ : ∀ w', Kept WA w' none → w'.cell? ⟨w.heap.size, 0, none⟩ = some (.int .i64 S.id) := fun w' q => (HSB.out.kept q).c0
  have s1_ : ∀ w', Kept WA w' none → w'.cell? ⟨w.heap.size, 1, none⟩ = some (.slice X.g S.groups.length X.gc) := fun w' q => (HSB.out.kept q).c1
  have s2_ : ∀ w', Kept WA w' none → w'.cell? ⟨w.heap.size, 2, none⟩ = some (.slice X.a S.apart.length X.ac) := fun w' q => (HSB.out.kept q).c2
  have s3_ : ∀ w', Kept WA w' none → w'.cell? ⟨w.heap.size, 3, none⟩ = some (.slice X.b S.between.length X.bc) := fun w' q => (HSB.out.kept q).c3
  have s4_ : ∀ w', Kept WA w' none → w'.cell? ⟨w.heap.size, 4, none⟩ = some (.slice X.p S.phases.length X.pc) := fun w' q => (HSB.out.kept q).c4
  have s5_ : ∀ w', Kept WA w' none → w'.cell? ⟨w.heap.size, 5, none⟩ = some (.slice X.e S.eyes.length X.ec) := fun w' q => (HSB.out.kept q).c5
  have s6_ : ∀ w', Kept WA w' none → w'.cell? ⟨w.heap.size, 6, none⟩ = some (.int .i64 S.watch) := fun w' q => (HSB.out.kept q).c6
  have s7_ : ∀ w', Kept WA w' none → w'.cell? ⟨w.heap.size, 7, none⟩ = some (.int .i64 S.feed) := fun w' q => (HSB.out.kept q).c7
  have s8_ : ∀ w', Kept WA w' none → w'.cell? ⟨w.heap.size, 8, none⟩ = some (.int .i64 S.heal) := fun w' q => (HSB.out.kept q).c8
  have s9_ : ∀ w', Kept WA w' none → w'.cell? ⟨w.heap.size, 9, none⟩ = some (.int .i64 S.low) := fun w' q => (HSB.out.kept q).c9
  have s10_ : ∀ w', Kept WA w' none → w'.cell? ⟨w.heap.size, 10, none⟩ = some (.int .i64 S.high) := fun w' q => (HSB.out.kept q).c10
  have s11_ : ∀ w', Kept WA w' none → w'.cell? ⟨w.heap.size, 11, none⟩ = some (.slice X.l S.plans.length X.lc) := fun w' q => (HSB.out.kept q).c11
  go_enter Tryd.func17, Tryd.ntmps17
  go_wp2_with (first | rw [hWA] | (have hgo := hKC; clear hgo; go_at_call 28; refine (rmay14_any (HS.out.kept hKC) c hc32 hp8 false HM.out).mono ?_; rintro e wD ⟨rfl, hkD⟩; have hKD : Kept WA wD none := hKC.tr hkD) | (go_at_call 30; have hx := rcheck_any HS.out; rw [hce] at hx; refine hx.mono ?_; rintro e wC ⟨rfl, hkC⟩; have hKC : Kept WA wC none := hkC; clear hx))
  go_ret2
  exact ⟨rfl, HK.out.tr hKD⟩
set_option maxRecDepth 100000 in
set_option maxHeartbeats 2000000 in
theorem rfst_low {X : Sa} {S : St} {w : World} (h : Sat w X S) (hT : Tabb w) (c : Nat) (hc32 : c < 4294967296) (g : Int) (hs : siteB S = true) (h1 : c < 2 ^ S.phases.length) (h2 : g < -1) : Calls Tryd.prog 17 #[siteV X S, .int .u32 (c : Int), .int .i64 g] w fun e w' => e = .returned (.tuple #[.int .i64 0, .int .i64 2]) ∧ Kept w w' none := by
  have hce : checkE S = 0 := by unfold checkE; rw [hs]; rfl
  have hp8 : S.phases.length ≤ 8 := (cal_facts hs).p1
  have HM : Hid (true = decide (c < 2 ^ S.phases.length)) := (decide_eq_true h1).symm
  clear hs h1
  have hkA : Kept w (w.alloc (.cells #[.int .i64 S.id, .slice X.g S.groups.length X.gc, .slice X.a S.apart.length X.ac, .slice X.b S.between.length X.bc, .slice X.p S.phases.length X.pc, .slice X.e S.eyes.length X.ec, .int .i64 S.watch, .int .i64 S.feed, .int .i64 S.heal, .int .i64 S.low, .int .i64 S.high, .slice X.l S.plans.length X.lc] 29)) none := Kept.alloc _ _ _ _ _
  have hsb := sbox_alloc h 29
  have HS := Hid.mk' (h.kept hkA)
  have HT := Hid.mk' (hT.kept hkA)
  have hE9 : S.eyes.length ≤ 9223372036854775807 := by have := h.ek.room; have := h.ek.max; omega
  have hP9 : S.phases.length ≤ 9223372036854775807 := by have := h.pk.room; have := h.pk.max; omega
  obtain ⟨WA, hWA⟩ : ∃ WA, (w.alloc (.cells #[.int .i64 S.id, .slice X.g S.groups.length X.gc, .slice X.a S.apart.length X.ac, .slice X.b S.between.length X.bc, .slice X.p S.phases.length X.pc, .slice X.e S.eyes.length X.ec, .int .i64 S.watch, .int .i64 S.feed, .int .i64 S.heal, .int .i64 S.low, .int .i64 S.high, .slice X.l S.plans.length X.lc] 29)) = WA := ⟨_, rfl⟩
  rw [hWA] at hkA hsb HS HT
  have hlA : w.heap.size < WA.heap.size := hsb.lt
  have HK := Hid.mk' hkA
  have HSB := Hid.mk' hsb
  have hK0 := Kept.refl WA none
  clear h hT hkA hsb
  have s0_ : ∀ w', Kept WA w' none → w'.cell? ⟨w.heap.size, 0, none⟩ = some (.int .i64 S.id) := fun w' q => (HSB.out.kept q).c0
  have s1_ : ∀ w', Kept WA w' none → w'.cell? ⟨w.heap.size, 1, none⟩ = some (.slice X.g S.groups.length X.gc) := fun w' q => (HSB.out.kept q).c1
  have s2_ : ∀ w', Kept WA w' none → w'.cell? ⟨w.heap.size, 2, none⟩ = some (.slice X.a S.apart.length X.ac) := fun w' q => (HSB.out.kept q).c2
  have s3_ : ∀ w', Kept WA w' none → w'.cell? ⟨w.heap.size, 3, none⟩ = some (.slice X.b S.between.length X.bc) := fun w' q => (HSB.out.kept q).c3
  have s4_ : ∀ w', Kept WA w' none → w'.cell? ⟨w.heap.size, 4, none⟩ = some (.slice X.p S.phases.length X.pc) := fun w' q => (HSB.out.kept q).c4
  have s5_ : ∀ w', Kept WA w' none → w'.cell? ⟨w.heap.size, 5, none⟩ = some (.slice X.e S.eyes.length X.ec) := fun w' q => (HSB.out.kept q).c5
  have s6_ : ∀ w', Kept WA w' none → w'.cell? ⟨w.heap.size, 6, none⟩ = some (.int .i64 S.watch) := fun w' q => (HSB.out.kept q).c6
  have s7_ : ∀ w', Kept WA w' none → w'.cell? ⟨w.heap.size, 7, none⟩ = some (.int .i64 S.feed) := fun w' q => (HSB.out.kept q).c7
  have s8_ : ∀ w', Kept WA w' none → w'.cell? ⟨w.heap.size, 8, none⟩ = some (.int .i64 S.heal) := fun w' q => (HSB.out.kept q).c8
  have s9_ : ∀ w', Kept WA w' none → w'.cell? ⟨w.heap.size, 9, none⟩ = some (.int .i64 S.low) := fun w' q => (HSB.out.kept q).c9
  have s10_ : ∀ w', Kept WA w' none → w'.cell? ⟨w.heap.size, 10, none⟩ = some (.int .i64 S.high) := fun w' q => (HSB.out.kept q).c10
  have s11_ : ∀ w', Kept WA w' none → w'.cell? ⟨w.heap.size, 11, none⟩ = some (.slice X.l S.plans.length X.lc) := fun w' q => (HSB.out.kept q).c11
  go_enter Tryd.func17, Tryd.ntmps17
  go_wp2_with (first | rw [hWA] | (have hgo := hKC; clear hgo; go_at_call 28; refine (rmay14_any (HS.out.kept hKC) c hc32 hp8 true HM.out).mono ?_; rintro e wD ⟨rfl, hkD⟩; have hKD : Kept WA wD none := hKC.tr hkD) | (go_at_call 30; have hx := rcheck_any HS.out; rw [hce] at hx; refine hx.mono ?_; rintro e wC ⟨rfl, hkC⟩; have hKC : Kept WA wC none := hkC; clear hx))
  go_ret2
  exact ⟨rfl, HK.out.tr hKD⟩
set_option maxRecDepth 100000 in
set_option maxHeartbeats 2000000 in
theorem rfst_far {X : Sa} {S : St} {w : World} (h : Sat w X S) (hT : Tabb w) (c : Nat) (hc32 : c < 4294967296) (g : Int) (hs : siteB S = true) (h1 : c < 2 ^ S.phases.length) (h2 : -1 ≤ g) (h3 : (S.phases.length : Int) ≤ g) : Calls Tryd.prog 17 #[siteV X S, .int .u32 (c : Int), .int .i64 g] w fun e w' => e = .returned (.tuple #[.int .i64 0, .int .i64 2]) ∧ Kept w w' none := by
  have hce : checkE S = 0 := by unfold checkE; rw [hs]; rfl
  have hp8 : S.phases.length ≤ 8 := (cal_facts hs).p1
  have HM : Hid (true = decide (c < 2 ^ S.phases.length)) := (decide_eq_true h1).symm
  clear hs h1
  have hkA : Kept w (w.alloc (.cells #[.int .i64 S.id, .slice X.g S.groups.length X.gc, .slice X.a S.apart.length X.ac, .slice X.b S.between.length X.bc, .slice X.p S.phases.length X.pc, .slice X.e S.eyes.length X.ec, .int .i64 S.watch, .int .i64 S.feed, .int .i64 S.heal, .int .i64 S.low, .int .i64 S.high, .slice X.l S.plans.length X.lc] 29)) none := Kept.alloc _ _ _ _ _
  have hsb := sbox_alloc h 29
  have HS := Hid.mk' (h.kept hkA)
  have HT := Hid.mk' (hT.kept hkA)
  have hE9 : S.eyes.length ≤ 9223372036854775807 := by have := h.ek.room; have := h.ek.max; omega
  have hP9 : S.phases.length ≤ 9223372036854775807 := by have := h.pk.room; have := h.pk.max; omega
  obtain ⟨WA, hWA⟩ : ∃ WA, (w.alloc (.cells #[.int .i64 S.id, .slice X.g S.groups.length X.gc, .slice X.a S.apart.length X.ac, .slice X.b S.between.length X.bc, .slice X.p S.phases.length X.pc, .slice X.e S.eyes.length X.ec, .int .i64 S.watch, .int .i64 S.feed, .int .i64 S.heal, .int .i64 S.low, .int .i64 S.high, .slice X.l S.plans.length X.lc] 29)) = WA := ⟨_, rfl⟩
  rw [hWA] at hkA hsb HS HT
  have hlA : w.heap.size < WA.heap.size := hsb.lt
  have HK := Hid.mk' hkA
  have HSB := Hid.mk' hsb
  have hK0 := Kept.refl WA none
  clear h hT hkA hsb
  have s0_ : ∀ w', Kept WA w' none → w'.cell? ⟨w.heap.size, 0, none⟩ = some (.int .i64 S.id) := fun w' q => (HSB.out.kept q).c0
  have s1_ : ∀ w', Kept WA w' none → w'.cell? ⟨w.heap.size, 1, none⟩ = some (.slice X.g S.groups.length X.gc) := fun w' q => (HSB.out.kept q).c1
  have s2_ : ∀ w', Kept WA w' none → w'.cell? ⟨w.heap.size, 2, none⟩ = some (.slice X.a S.apart.length X.ac) := fun w' q => (HSB.out.kept q).c2
  have s3_ : ∀ w', Kept WA w' none → w'.cell? ⟨w.heap.size, 3, none⟩ = some (.slice X.b S.between.length X.bc) := fun w' q => (HSB.out.kept q).c3
  have s4_ : ∀ w', Kept WA w' none → w'.cell? ⟨w.heap.size, 4, none⟩ = some (.slice X.p S.phases.length X.pc) := fun w' q => (HSB.out.kept q).c4
  have s5_ : ∀ w', Kept WA w' none → w'.cell? ⟨w.heap.size, 5, none⟩ = some (.slice X.e S.eyes.length X.ec) := fun w' q => (HSB.out.kept q).c5
  have s6_ : ∀ w', Kept WA w' none → w'.cell? ⟨w.heap.size, 6, none⟩ = some (.int .i64 S.watch) := fun w' q => (HSB.out.kept q).c6
  have s7_ : ∀ w', Kept WA w' none → w'.cell? ⟨w.heap.size, 7, none⟩ = some (.int .i64 S.feed) := fun w' q => (HSB.out.kept q).c7
  have s8_ : ∀ w', Kept WA w' none → w'.cell? ⟨w.heap.size, 8, none⟩ = some (.int .i64 S.heal) := fun w' q => (HSB.out.kept q).c8
  have s9_ : ∀ w', Kept WA w' none → w'.cell? ⟨w.heap.size, 9, none⟩ = some (.int .i64 S.low) := fun w' q => (HSB.out.kept q).c9
  have s10_ : ∀ w', Kept WA w' none → w'.cell? ⟨w.heap.size, 10, none⟩ = some (.int .i64 S.high) := fun w' q => (HSB.out.kept q).c10
  have s11_ : ∀ w', Kept WA w' none → w'.cell? ⟨w.heap.size, 11, none⟩ = some (.slice X.l S.plans.length X.lc) := fun w' q => (HSB.out.kept q).c11
  go_enter Tryd.func17, Tryd.ntmps17
  go_wp2_with (first | rw [hWA] | (have hgo := hKC; clear hgo; go_at_call 28; refine (rmay14_any (HS.out.kept hKC) c hc32 hp8 true HM.out).mono ?_; rintro e wD ⟨rfl, hkD⟩; have hKD : Kept WA wD none := hKC.tr hkD) | (go_at_call 30; have hx := rcheck_any HS.out; rw [hce] at hx; refine hx.mono ?_; rintro e wC ⟨rfl, hkC⟩; have hKC : Kept WA wC none := hkC; clear hx))
  go_ret2
  exact ⟨rfl, HK.out.tr hKD⟩
set_option maxRecDepth 100000 in
set_option maxHeartbeats 2000000 in
theorem rfst_go {X : Sa} {S : St} {w : World} (h : Sat w X S) (hT : Tabb w) (c : Nat) (hc32 : c < 4294967296) (g : Int) (hs : siteB S = true) (h1 : c < 2 ^ S.phases.length) (q : Nat) (hq : g + 1 = (q : Int)) (hq9 : q ≤ S.phases.length) (V : Int) (hV : V = firV c S.phases.length q) : Calls Tryd.prog 17 #[siteV X S, .int .u32 (c : Int), .int .i64 g] w fun e w' => e = .returned (.tuple #[.int .i64 V, .int .i64 0]) ∧ Kept w w' none := by
  have hce : checkE S = 0 := by unfold checkE; rw [hs]; rfl
  have hp8 : S.phases.length ≤ 8 := (cal_facts hs).p1
  have HM : Hid (true = decide (c < 2 ^ S.phases.length)) := (decide_eq_true h1).symm
  have HV := Hid.mk' hV
  have HQ := Hid.mk' hq
  have h2 : -1 ≤ g := by omega
  have h3 : g < (S.phases.length : Int) := by omega
  clear hs h1 hV
  have hkA : Kept w (w.alloc (.cells #[.int .i64 S.id, .slice X.g S.groups.length X.gc, .slice X.a S.apart.length X.ac, .slice X.b S.between.length X.bc, .slice X.p S.phases.length X.pc, .slice X.e S.eyes.length X.ec, .int .i64 S.watch, .int .i64 S.feed, .int .i64 S.heal, .int .i64 S.low, .int .i64 S.high, .slice X.l S.plans.length X.lc] 29)) none := Kept.alloc _ _ _ _ _
  have hsb := sbox_alloc h 29
  have HS := Hid.mk' (h.kept hkA)
  have HT := Hid.mk' (hT.kept hkA)
  have hE9 : S.eyes.length ≤ 9223372036854775807 := by have := h.ek.room; have := h.ek.max; omega
  have hP9 : S.phases.length ≤ 9223372036854775807 := by have := h.pk.room; have := h.pk.max; omega
  obtain ⟨WA, hWA⟩ : ∃ WA, (w.alloc (.cells #[.int .i64 S.id, .slice X.g S.groups.length X.gc, .slice X.a S.apart.length X.ac, .slice X.b S.between.length X.bc, .slice X.p S.phases.length X.pc, .slice X.e S.eyes.length X.ec, .int .i64 S.watch, .int .i64 S.feed, .int .i64 S.heal, .int .i64 S.low, .int .i64 S.high, .slice X.l S.plans.length X.lc] 29)) = WA := ⟨_, rfl⟩
  rw [hWA] at hkA hsb HS HT
  have hlA : w.heap.size < WA.heap.size := hsb.lt
  have HK := Hid.mk' hkA
  have HSB := Hid.mk' hsb
  have hK0 := Kept.refl WA none
  clear h hT hkA hsb
  have s0_ : ∀ w', Kept WA w' none → w'.cell? ⟨w.heap.size, 0, none⟩ = some (.int .i64 S.id) := fun w' q => (HSB.out.kept q).c0
  have s1_ : ∀ w', Kept WA w' none → w'.cell? ⟨w.heap.size, 1, none⟩ = some (.slice X.g S.groups.length X.gc) := fun w' q => (HSB.out.kept q).c1
  have s2_ : ∀ w', Kept WA w' none → w'.cell? ⟨w.heap.size, 2, none⟩ = some (.slice X.a S.apart.length X.ac) := fun w' q => (HSB.out.kept q).c2
  have s3_ : ∀ w', Kept WA w' none → w'.cell? ⟨w.heap.size, 3, none⟩ = some (.slice X.b S.between.length X.bc) := fun w' q => (HSB.out.kept q).c3
  have s4_ : ∀ w', Kept WA w' none → w'.cell? ⟨w.heap.size, 4, none⟩ = some (.slice X.p S.phases.length X.pc) := fun w' q => (HSB.out.kept q).c4
  have s5_ : ∀ w', Kept WA w' none → w'.cell? ⟨w.heap.size, 5, none⟩ = some (.slice X.e S.eyes.length X.ec) := fun w' q => (HSB.out.kept q).c5
  have s6_ : ∀ w', Kept WA w' none → w'.cell? ⟨w.heap.size, 6, none⟩ = some (.int .i64 S.watch) := fun w' q => (HSB.out.kept q).c6
  have s7_ : ∀ w', Kept WA w' none → w'.cell? ⟨w.heap.size, 7, none⟩ = some (.int .i64 S.feed) := fun w' q => (HSB.out.kept q).c7
  have s8_ : ∀ w', Kept WA w' none → w'.cell? ⟨w.heap.size, 8, none⟩ = some (.int .i64 S.heal) := fun w' q => (HSB.out.kept q).c8
  have s9_ : ∀ w', Kept WA w' none → w'.cell? ⟨w.heap.size, 9, none⟩ = some (.int .i64 S.low) := fun w' q => (HSB.out.kept q).c9
  have s10_ : ∀ w', Kept WA w' none → w'.cell? ⟨w.heap.size, 10, none⟩ = some (.int .i64 S.high) := fun w' q => (HSB.out.kept q).c10
  have s11_ : ∀ w', Kept WA w' none → w'.cell? ⟨w.heap.size, 11, none⟩ = some (.slice X.l S.plans.length X.lc) := fun w' q => (HSB.out.kept q).c11
  go_enter Tryd.func17, Tryd.ntmps17
  go_wp2_with (first | rw [hWA] | (have hgo := hKC; clear hgo; go_at_call 28; refine (rmay14_any (HS.out.kept hKC) c hc32 hp8 true HM.out).mono ?_; rintro e wD ⟨rfl, hkD⟩; have hKD : Kept WA wD none := hKC.tr hkD) | (go_at_call 30; have hx := rcheck_any HS.out; rw [hce] at hx; refine hx.mono ?_; rintro e wC ⟨rfl, hkC⟩; have hKC : Kept WA wC none := hkC; clear hx))
  go_loopw [9] (fun pv wr => ∃ p : Nat, q ≤ p ∧ p ≤ S.phases.length ∧ pv = .int .i64 p ∧ Kept WA wr none ∧ ∀ j, q ≤ j → j < p → c.testBit j = false) (fun pv _ => S.phases.length - (intOf pv).toNat)
  case atStart => exact ⟨q, by omega, by omega, rfl, hKD, fun j a b => by omega⟩
  case round =>
    obtain ⟨p, hp1, hp2, rfl, hkr, hno⟩ := hrel
    have HNO := Hid.mk' hno
    clear hno
    by_cases hlt : p < S.phases.length
    · cases hb : c.testBit p
      · have hh : hasB c (p : Int) = false := by rw [has_in (by omega)]; exact hb
        have HN2 : Hid (∀ j, q ≤ j → j < p + 1 → c.testBit j = false) := fun j a b => by
          by_cases e : j = p
          · rw [e]; exact hb
          · exact HNO.out j a (by omega)
        clear hb
        go_wp2_with (go_at_call 29; have hx := rhas_any c (p : Int) wr hc32; rw [hh] at hx; refine hx.mono ?_; clear hx; rintro e w5 ⟨rfl, hw5⟩; have hw5 := hw5.symm; subst hw5)
        go_roundw
        case rel => exact ⟨p + 1, by omega, by omega, by go_num, hkr, HN2.out⟩
        case measure => simp [intOf]; omega
      · have hh : hasB c (p : Int) = true := by rw [has_in (by omega)]; exact hb
        have HF := Hid.mk' (fir_up hp1 hlt hb HNO.out)
        clear hb
        go_wp2_with (go_at_call 29; have hx := rhas_any c (p : Int) wr hc32; rw [hh] at hx; refine hx.mono ?_; clear hx; rintro e w5 ⟨rfl, hw5⟩; have hw5 := hw5.symm; subst hw5)
        go_ret2
        exact ⟨by rw [HV.out, HF.out]; rfl, HK.out.tr hkr⟩
    · have HN1 : Hid (∀ j, q ≤ j → j < S.phases.length → c.testBit j = false) := fun j a b => HNO.out j a (by omega)
      obtain rfl : p = S.phases.length := by omega
      obtain ⟨wo, hwo⟩ : ∃ wo, wo = wr := ⟨_, rfl⟩
      subst hwo
      go_wp2
      go_loopw [10] (fun pv wr => ∃ p : Nat, p ≤ q ∧ pv = .int .i64 p ∧ Kept WA wr none ∧ ∀ j, j < p → c.testBit j = false) (fun pv _ => q - (intOf pv).toNat)
      case atStart => exact ⟨0, by omega, rfl, hkr, fun j b => by omega⟩
      case round =>
        clear hkr
        obtain ⟨p, hpq, rfl, hkr, hno⟩ := hrel
        have HNO2 := Hid.mk' hno
        clear hno
        by_cases hlt2 : p < q
        · have hle2 : (p : Int) ≤ g := by omega
          cases hb : c.testBit p
          · have hh : hasB c (p : Int) = false := by rw [has_in (by omega)]; exact hb
            have HN2 : Hid (∀ j, j < p + 1 → c.testBit j = false) := fun j b => by
              by_cases e : j = p
              · rw [e]; exact hb
              · exact HNO2.out j (by omega)
            clear hb
            go_wp2_with (go_at_call 29; have hx := rhas_any c (p : Int) wr hc32; rw [hh] at hx; refine hx.mono ?_; clear hx; rintro e w5 ⟨rfl, hw5⟩; have hw5 := hw5.symm; subst hw5)
            go_roundw
            case rel => exact ⟨p + 1, by omega, by go_num, hkr, HN2.out⟩
            case measure => simp [intOf]; omega
          · have hh : hasB c (p : Int) = true := by rw [has_in (by omega)]; exact hb
            have HF := Hid.mk' (fir_down hlt2 hq9 hb HN1.out HNO2.out)
            clear hb
            go_wp2_with (go_at_call 29; have hx := rhas_any c (p : Int) wr hc32; rw [hh] at hx; refine hx.mono ?_; clear hx; rintro e w5 ⟨rfl, hw5⟩; have hw5 := hw5.symm; subst hw5)
            go_ret2
            exact ⟨by rw [HV.out, HF.out]; rfl, HK.out.tr hkr⟩
        · have hle2 : ¬ (p : Int) ≤ g := by omega
          have HF := Hid.mk' (fir_no hq9 HN1.out (fun j hj => HNO2.out j (by omega)))
          go_wp2
          go_ret2
          exact ⟨by rw [HV.out, HF.out]; rfl, HK.out.tr hkr⟩
theorem rfst_any {X : Sa} {S : St} {w : World} (h : Sat w X S) (hT : Tabb w) (c : Nat) (hc32 : c < 4294967296) (g : Int) : Calls Tryd.prog 17 #[siteV X S, .int .u32 (c : Int), .int .i64 g] w fun e w' => e = .returned (.tuple #[.int .i64 (fstV S c g), .int .i64 (firE S c g)]) ∧ Kept w w' none := by
  unfold fstV
  cases hs : siteB S
  · have e : firE S c g = 50 := by unfold firE; rw [hs]; rfl
    rw [if_neg (by rw [e]; decide), e]
    exact rfst_site h hT c hc32 g hs
  have ef : firE S c g = calE S c g := by unfold firE; rw [if_pos hs]
  by_cases h1 : c < 2 ^ S.phases.length
  · by_cases h2 : -1 ≤ g
    · by_cases h3 : g < (S.phases.length : Int)
      · have e : firE S c g = 0 := by rw [ef, calE_ok h1 ⟨h2, h3⟩]
        rw [if_pos e, e]
        exact rfst_go h hT c hc32 g hs h1 (g + 1).toNat (by omega) (by omega) _ rfl
      · have e : firE S c g = 2 := by rw [ef, calE_arg h1 (by omega)]
        rw [if_neg (by rw [e]; decide), e]
        exact rfst_far h hT c hc32 g hs h1 h2 (by omega)
    · have e : firE S c g = 2 := by rw [ef, calE_arg h1 (by omega)]
      rw [if_neg (by rw [e]; decide), e]
      exact rfst_low h hT c hc32 g hs h1 (by omega)
  · have e : firE S c g = 8 := by rw [ef, calE_bad h1]
    rw [if_neg (by rw [e]; decide), e]
    exact rfst_bad h hT c hc32 g hs h1

end Go.Proofs.YtjfajdmifjbblaaDoor

