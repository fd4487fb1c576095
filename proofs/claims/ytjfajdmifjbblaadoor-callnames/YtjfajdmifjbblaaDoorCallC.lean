/-
  THE CONTRACTS of call.wanted and call.checkCalls (made by a program).
-/
import Derived.Test.YtjfajdmifjbblaaDoorCallM
namespace Go.Proofs.YtjfajdmifjbblaaDoor
open Go.RowKit Go.Lib Go.Deep
set_option linter.unusedVariables false
set_option linter.unusedSimpArgs false

/-- A phase's cells. -/
theorem Sat.phs {w : World} {X : Sa} {S : St} (h : Sat w X S) {pb po : Nat} (e : X.p = some ⟨pb, po, none⟩) {k : Nat} (hk : k < S.phases.length) : pb < w.heap.size ∧ w.cell? ⟨pb, po + k * 5, none⟩ = some (.int .u32 ((S.ph k).groups : Int)) ∧ w.cell? ⟨pb, po + k * 5 + 1, none⟩ = some (.int .i64 (S.ph k).min) ∧ w.cell? ⟨pb, po + k * 5 + 2, none⟩ = some (.int .i64 (S.ph k).max) ∧ w.cell? ⟨pb, po + k * 5 + 3, none⟩ = some (.int .i64 (S.ph k).gap) ∧ w.cell? ⟨pb, po + k * 5 + 4, none⟩ = some (.bool (S.ph k).always) := by
  obtain ⟨b, off, e2, hb, hc⟩ := h.p.at_ (by omega)
  rw [e] at e2
  injection e2 with e2
  injection e2 with e3 e4
  subst e3 e4
  exact ⟨hb, hc k hk 0 (by omega), hc k hk 1 (by omega), hc k hk 2 (by omega), hc k hk 3 (by omega), hc k hk 4 (by omega)⟩
theorem Sat.pp {w : World} {X : Sa} {S : St} (h : Sat w X S) (hk : 0 < S.phases.length) : ∃ pb po, X.p = some ⟨pb, po, none⟩ := by
  obtain ⟨b, off, e2, hb, hc⟩ := h.p.at_ hk
  exact ⟨b, off, e2⟩
set_option maxRecDepth 100000 in
set_option maxHeartbeats 2000000 in
theorem cwant_any {X : Sa} {S : St} {w : World} (h : Sat w X S) {a : Option Addr} {n c : Nat} {L : List Lk} (hA : Lks w a n L) (hc : Cap a n c) (hs : siteB S = true) (hl : n = S.eyes.length) : Calls Tryd.prog 21 #[siteV X S, .slice a n c] w fun e w' => e = .returned (.int .u32 ((wanN S L : Nat) : Int)) ∧ Kept w w' none := by
  have hf := cal_facts hs
  have hp1 := hf.p1
  have hle1 : n ≤ S.eyes.length := by omega
  have HEY := Hid.mk' (fun i hi => (⟨(hf.ey i hi).1, by have := (hf.ey i hi).2; omega⟩ : 0 ≤ eyP S i ∧ eyP S i < 32))
  have HW : Hid (wanN S L = wanK S L n) := by show _ = _; rw [← hA.size]; rfl
  obtain ⟨pb, po, ep⟩ := h.pp hf.p0
  clear hs hl hf
  have hkA : Kept w (w.alloc (.cells #[.int .i64 S.id, .slice X.g S.groups.length X.gc, .slice X.a S.apart.length X.ac, .slice X.b S.between.length X.bc, .slice X.p S.phases.length X.pc, .slice X.e S.eyes.length X.ec, .int .i64 S.watch, .int .i64 S.feed, .int .i64 S.heal, .int .i64 S.low, .int .i64 S.high, .slice X.l S.plans.length X.lc] 29)) none := Kept.alloc _ _ _ _ _
  have hsb := sbox_alloc h 29
  have HS := Hid.mk' (h.kept hkA)
  have HA := Hid.mk' (hA.kept hkA)
  have HSZ := Hid.mk' hA.size
  have hn9 : n ≤ 9223372036854775807 := by have := hc.room; have := hc.max; omega
  have hE9 : S.eyes.length ≤ 9223372036854775807 := by have := h.ek.room; have := h.ek.max; omega
  have hP9 : S.phases.length ≤ 9223372036854775807 := by have := h.pk.room; have := h.pk.max; omega
  obtain ⟨WA, hWA⟩ : ∃ WA, (w.alloc (.cells #[.int .i64 S.id, .slice X.g S.groups.length X.gc, .slice X.a S.apart.length X.ac, .slice X.b S.between.length X.bc, .slice X.p S.phases.length X.pc, .slice X.e S.eyes.length X.ec, .int .i64 S.watch, .int .i64 S.feed, .int .i64 S.heal, .int .i64 S.low, .int .i64 S.high, .slice X.l S.plans.length X.lc] 29)) = WA := ⟨_, rfl⟩
  rw [hWA] at hkA hsb HS HA
  have hlA : w.heap.size < WA.heap.size := hsb.lt
  have HK := Hid.mk' hkA
  have HSB := Hid.mk' hsb
  have hK0 := Kept.refl WA none
  clear h hA hkA hsb
  have s0_ : ∀ w', Kept WA w' none → w'.cell? ⟨w.heap.size, 0, none⟩ = some (.int .i64 S.id) := fun w' q => (HSB.out.kept q).c0
  have s1_ : ∀ w', Kept WA w' none → w'.cell? ⟨w.heap.size, 1, none⟩ = some (.slice X.g S.groups.length X.gc) := fun w' q => (HSB.out.kept q).c1
  have s2_ : ∀ w', Kept WA w' none → w'.cell? ⟨w.heap.size, 2, none⟩ = some (.slice X.a S.apart.length X.ac) := fun w' q => (HSB.out.kept q).c2
  have s3_ : ∀ w', Kept WA w' none → w'.cell? ⟨w.heap.size, 3, none⟩ = some (.slice X.b S.between.length X.bc) := fun w' q => (HSB.out.kept q).c3
  have s4_ : ∀ w', Kept WA w' none → w'.cell? ⟨w.heap.size, 4, none⟩ = some (.slice X.p S.phases.length X.pc) := fun w' q => (HSB.out.kept q).c4
  have s5_ : ∀ w', Kept WA w' none → w'.cell? ⟨w.heap.size, 5, none⟩ = some (.slice X.e S.eyes.length X.ec) := fun w' q => (HSB.out.kept q).c5
  have s6_ : ∀ w', Kept WA w' none → w'.cell? ⟨w.heap.size, 6, none⟩ = some (.int .i64 S.watch) := fun w' q => (HSB.out.kept q).c6
  have s7_ : ∀ w', Kept WA w' none → w'.cell? ⟨w.heap.size, 7, none⟩ = some (.int .i64 S.feed) := fun w' q => (HSB.out.kept q).c7
  have s8_ : ∀ w', Kept WA w' none → w'.cell? ⟨w.heap.size, 8, none⟩ = some (.int .i64 S.heal) := fun w' q => (HSB.out.kept q).c8
  have s9_ : ∀ w', Kept WA w' none → w'.cell? ⟨w.heap.size, 9, none⟩ = some (.int .i64 S.low) := fun w' q => (HSB.out.kept q).c9
  have s10_ : ∀ w', Kept WA w' none → w'.cell? ⟨w.heap.size, 10, none⟩ = some (.int .i64 S.high) := fun w' q => (HSB.out.kept q).c10
  have s11_ : ∀ w', Kept WA w' none → w'.cell? ⟨w.heap.size, 11, none⟩ = some (.slice X.l S.plans.length X.lc) := fun w' q => (HSB.out.kept q).c11
  rw [ep] at s4_
  have HEP := Hid.mk' ep
  clear ep
  go_enter Tryd.func21, Tryd.ntmps21
  go_wp2_with (rw [hWA])
  have hA0 : (0 : Int) = ((alwN S 0 : Nat) : Int) := rfl
  go_loopw [5, 6, 7, 13] (fun uv _ _ iv wr => ∃ k : Nat, k ≤ S.phases.length ∧ iv = .int .i64 k ∧ uv = .int .u32 ((alwN S k : Nat) : Int) ∧ Kept WA wr none) (fun _ _ _ iv _ => S.phases.length - (intOf iv).toNat)
  case atStart => exact ⟨0, by omega, rfl, rfl, hK0⟩
  case round =>
    clear hA0
    obtain ⟨k, hk, rfl, rfl, hkr⟩ := hrel
    by_cases hlt : k < S.phases.length
    · obtain ⟨hb, c0, c1, c2, c3, c4⟩ := (HS.out.kept hkr).phs HEP.out hlt
      have hN9 := alwN_lt S k
      cases hal : alw S k
      ·
        have HN : Hid (alwN S (k + 1) = alwN S k) := belA_no hal
        have hal2 : (S.ph k).always = false := hal
        rw [hal2] at c4
        clear hal hal2
        generalize alwN S k = N1 at *
        generalize S.ph k = x at *
        obtain ⟨x0', x1', x2', x3', x4'⟩ := x
        dsimp only at c0 c1 c2 c3
        go_wp2
        go_roundw
        case rel => exact ⟨k + 1, by omega, by go_num, by rw [HN.out], hkr.tr (by (repeat (first | exact Kept.refl _ _ | assumption | (refine Kept.setNew ?_ (by first | omega | (simp <;> omega)) _) | (refine Kept.tr ?_ (Kept.alloc _ _ _ _ _)) | (refine Kept.tr ?_ (Kept.drew _ _)))))⟩
        case measure => simp [intOf]; omega
      ·
        have HN : Hid (alwN S (k + 1) = withV (alwN S k) (idN k)) := belA_yes hal
        have hal2 : (S.ph k).always = true := hal
        rw [hal2] at c4
        clear hal hal2
        have hor := or_shift hN9 (show k < 32 by omega)
        have hN2 : Hid (((alwN S (k + 1) : Nat) : Int) = ((withV (alwN S k) (k : Int) : Nat) : Int)) := by show _ = _; rw [HN.out]; rfl
        generalize withV (alwN S k) (k : Int) = M at *
        generalize alwN S k = N1 at *
        generalize S.ph k = x at *
        obtain ⟨x0', x1', x2', x3', x4'⟩ := x
        dsimp only at c0 c1 c2 c3
        go_wp2
        go_roundw
        case rel => exact ⟨k + 1, by omega, by go_num, by rw [hN2.out], hkr.tr (by (repeat (first | exact Kept.refl _ _ | assumption | (refine Kept.setNew ?_ (by first | omega | (simp <;> omega)) _) | (refine Kept.tr ?_ (Kept.alloc _ _ _ _ _)) | (refine Kept.tr ?_ (Kept.drew _ _)))))⟩
        case measure => simp [intOf]; omega
    · obtain rfl : k = S.phases.length := by omega
      have HW0 : Hid (alwN S S.phases.length = wanK S L 0) := rfl
      have hw0 := HW0.out
      rw [hw0]
      clear hw0
      obtain ⟨wo, hwo⟩ : ∃ wo, wo = wr := ⟨_, rfl⟩
      subst hwo
      go_wp2
      go_loopw [5, 8, 9, 27] (fun uv _ _ iv wr => ∃ k : Nat, k ≤ n ∧ iv = .int .i64 k ∧ uv = .int .u32 ((wanK S L k : Nat) : Int) ∧ Kept WA wr none) (fun _ _ _ iv _ => n - (intOf iv).toNat)
      case atStart => exact ⟨0, by omega, rfl, rfl, hkr⟩
      case round =>
        clear hkr hk hlt
        obtain ⟨k, hk, rfl, rfl, hkr⟩ := hrel
        by_cases hlt : k < n
        · obtain ⟨b, off, ea, hb, c0, c1, c2, c3, c4⟩ := (HA.out.kept hkr).at_ hlt
          subst ea
          have hke : k < S.eyes.length := by omega
          obtain ⟨eb, eo, ee, heb, y0, y1, y2, y3⟩ := (HS.out.kept hkr).eye (k := k) hke
          clear y1 y2 y3
          have hN9 := wanK_lt S L k
          have s5 := s5_ wr hkr
          rw [ee] at s5
          clear ee s5_
          have hwl : w.heap.size < wr.heap.size := Nat.lt_of_lt_of_le hlA hkr.size
          cases hup : wnt L k
          ·
            have HN : Hid (wanK S L (k + 1) = wanK S L k) := belA_no hup
            have HWN : Hid (∀ w', Calls Tryd.prog 35 #[lkV (lk L k)] w' fun e w'' => e = .returned (.bool false) ∧ Kept w' w'' none) := fun w' => by have := wants_any (lk L k) w'; rw [show ((lk L k).up || (lk L k).bad) = false from hup] at this; exact this
            clear hup
            clear y0
            generalize lk L k = x at *
            obtain ⟨x0', x1', x2', x3', x4'⟩ := x
            dsimp only at c0 c1 c2 c3 c4
            generalize wanK S L k = N1 at *
            go_wp2_with (go_at_call 35; refine (HWN.out _).mono ?_; rintro e wB ⟨rfl, hkB⟩; have hkX : Kept wr wB none := (Kept.alloc _ _ _ _ _).tr hkB; have lwB : w.heap.size < wB.heap.size := Nat.lt_of_lt_of_le hwl hkX.size; have leB : eb < wB.heap.size := Nat.lt_of_lt_of_le heb hkX.size)
            go_roundw
            case rel => exact ⟨k + 1, by omega, by go_num, by rw [HN.out], hkr.tr hkX⟩
            case measure => simp [intOf]; omega
          ·
            have HN : Hid (wanK S L (k + 1) = withV (wanK S L k) (eyP S k)) := belA_yes hup
            have HWN : Hid (∀ w', Calls Tryd.prog 35 #[lkV (lk L k)] w' fun e w'' => e = .returned (.bool true) ∧ Kept w' w'' none) := fun w' => by have := wants_any (lk L k) w'; rw [show ((lk L k).up || (lk L k).bad) = true from hup] at this; exact this
            clear hup
            obtain ⟨p, hp⟩ : ∃ p : Nat, eyP S k = (p : Int) := ⟨(eyP S k).toNat, by have := HEY.out k hke; omega⟩
            have hp32 : p < 32 := by have := HEY.out k hke; omega
            have hor := or_shift hN9 hp32
            rw [hp] at HN
            have y0_ : ∀ w', Kept wr w' none → w'.cell? ⟨eb, eo + k * 4, none⟩ = some (.int .i64 (p : Int)) := fun w' q => by rw [← hp]; exact cell_kr y0 q (by simp)
            have s5k : ∀ w', Kept wr w' none → w'.cell? ⟨w.heap.size, 5, none⟩ = some (.slice (some ⟨eb, eo, none⟩) S.eyes.length X.ec) := fun w' q => cell_kr s5 q (by simp)
            clear y0 hp s5
            generalize lk L k = x at *
            obtain ⟨x0', x1', x2', x3', x4'⟩ := x
            dsimp only at c0 c1 c2 c3 c4
            generalize wanK S L k = N1 at *
            generalize withV N1 (p : Int) = M at *
            go_wp2_with (go_at_call 35; refine (HWN.out _).mono ?_; rintro e wB ⟨rfl, hkB⟩; have hkX : Kept wr wB none := (Kept.alloc _ _ _ _ _).tr hkB; have lwB : w.heap.size < wB.heap.size := Nat.lt_of_lt_of_le hwl hkX.size; have leB : eb < wB.heap.size := Nat.lt_of_lt_of_le heb hkX.size)
            go_roundw
            case rel => exact ⟨k + 1, by omega, by go_num, by rw [HN.out], hkr.tr hkX⟩
            case measure => simp [intOf]; omega
        · obtain rfl : k = n := by omega
          have hN9 := wanK_lt S L k
          generalize wanK S L k = N1 at *
          go_wp2
          go_ret
          exact ⟨by rw [HW.out]; rfl, HK.out.tr hkr⟩

end Go.Proofs.YtjfajdmifjbblaaDoor
