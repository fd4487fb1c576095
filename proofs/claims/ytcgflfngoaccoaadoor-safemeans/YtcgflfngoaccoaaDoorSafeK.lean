/-
  THE CONTRACT of Check: a trace's first fault (made by a program).
-/
import Derived.Test.YtcgflfngoaccoaaDoorSafeJ
namespace Go.Proofs.YtcgflfngoaccoaaDoor
open Go.RowKit Go.Lib Go.Deep
set_option linter.unusedVariables false
set_option linter.unusedSimpArgs false

/-- A trace's lights lie where a slice leads. -/
structure Trc (w : World) (pa : Option Addr) (n : Nat) (T : List (List Nat)) : Prop where
  size : T.length = n
  max : n ≤ 9223372036854775807
  at_ : 0 < n → ∃ b off, pa = some ⟨b, off, none⟩ ∧ b < w.heap.size ∧ ∀ i, i < n → ∃ a c, w.cell? ⟨b, off + i, none⟩ = some (.slice a (tk T i).length c) ∧ By w a (tk T i).length (tk T i)
theorem Trc.kept {w w' : World} {pa : Option Addr} {n : Nat} {T : List (List Nat)} (h : Trc w pa n T) (k : Kept w w' none) : Trc w' pa n T := by
  refine ⟨h.size, h.max, fun hp => ?_⟩
  obtain ⟨b, off, rfl, hb, hc⟩ := h.at_ hp
  refine ⟨b, off, rfl, Nat.lt_of_lt_of_le hb k.size, fun i hi => ?_⟩
  obtain ⟨a, c, h1, h2⟩ := hc i hi
  exact ⟨a, c, cell_kept0 h1 k, h2.kept k⟩
theorem Trc.lt {w : World} {pa : Option Addr} {n : Nat} {T : List (List Nat)} (h : Trc w pa n T) (k : Nat) : ∀ x ∈ tk T k, x < 256 := by
  by_cases hk : k < n
  · obtain ⟨b, off, rfl, hb, hc⟩ := h.at_ (by omega)
    obtain ⟨a, c, h1, h2⟩ := hc k hk
    exact h2.lt
  · have : tk T k = [] := by unfold tk; simp [show T.length ≤ k by have := h.size; omega]
    rw [this]; simp
theorem atV_len {S : St} {T : List (List Nat)} : ∀ k, (∀ j, j < k → fltV S T j = 0) → (atV S T k).groups.length = S.groups.length
  | 0, _ => firstV_len S
  | k + 1, h => (behindV_len S (atV S T k) (tk T k)).trans (fault_len (h k (by omega)))
theorem startV_rng {S : St} {F : Sf} {L : List Nat} (hs : siteB S = true) (h : 0 ≤ F.start ∧ F.start ≤ 1048576) : 0 ≤ startV S F L ∧ startV S F L ≤ 1048576 := by
  have := worst_rng hs
  unfold startV
  split
  · exact this
  · split <;> omega
theorem atV_start {S : St} {T : List (List Nat)} (hs : siteB S = true) : ∀ k, 0 ≤ (atV S T k).start ∧ (atV S T k).start ≤ 1048576
  | 0 => worst_rng hs
  | k + 1 => startV_rng hs (atV_start hs k)
theorem more_rng (x : Int) : 0 ≤ more x ∧ more x ≤ 1048576 := by
  have := stp_ge x; have := stp_le x
  unfold more; split <;> omega
theorem sndV_rng (s : Sn) (b : Nat) (hb : b < 256) : (sndV s b).asp < 256 ∧ i64B (sndV s b).since ∧ i64B (sndV s b).ended := by
  refine ⟨hb, ?_, ?_⟩
  · have := more_rng s.since
    show i64B (sinceV _ _ _)
    unfold sinceV i64B; split <;> omega
  · have := more_rng s.ended
    show i64B (endedV _ _)
    unfold endedV i64B; split <;> omega
theorem atV_rng {S : St} {T : List (List Nat)} (h : ∀ k, ∀ x ∈ tk T k, x < 256) : ∀ k, ∀ s ∈ (atV S T k).groups, s.asp < 256 ∧ i64B s.since ∧ i64B s.ended
  | 0, s, hs => by
    have : s = seen1 := by
      unfold atV firstV at hs
      exact (List.mem_replicate.1 hs).2
    subst this
    unfold i64B; simp
  | k + 1, s, hs => by
    unfold atV behindV at hs
    simp only [List.mem_map, List.mem_range] at hs
    obtain ⟨i, hi, rfl⟩ := hs
    exact sndV_rng _ _ (h k _ (lg_mem hi))
theorem first_yes2 {X : Sa} {S : St} {w : World} (h : Sat w X S) (hT : Tabb w) (hs : siteB S = true) : Calls Tryd.prog 9 #[siteV X S] w fun e w' => ∃ b, e = .returned (.tuple #[.agg #[.slice (some ⟨b, 0, none⟩) S.groups.length S.groups.length, .int .i64 (worstM S), .bool false], .int .i64 0]) ∧ w.heap.size ≤ b ∧ OwnG w' b S.groups.length (fun _ => seen1) ∧ Kept w w' none := by
  refine (first_yes h hT hs).mono ?_
  rintro e w' ⟨b, rfl, h1, h2, h3⟩
  have hl := firstV_len S
  exact ⟨b, by rw [safeV, hl]; rfl, h1, h2, h3⟩
set_option maxRecDepth 100000 in
set_option maxHeartbeats 2000000 in
theorem check_no {X : Sa} {S : St} {w : World} {pa : Option Addr} {n cp : Nat} {T : List (List Nat)} (h : Sat w X S) (hT : Tabb w) (hP : Trc w pa n T) (hs : siteB S = false) : Calls Tryd.prog 6 #[siteV X S, .slice pa n cp] w fun e w' => e = .returned (.tuple #[.int .i64 0, .int .u8 0, .int .i64 50]) ∧ Kept w w' none := by
  have k1 : Kept w (w.alloc (.cells #[.int .i64 S.id, .slice X.g S.groups.length X.gc, .slice X.a S.apart.length X.ac, .slice X.b S.between.length X.bc, .slice X.p S.phases.length X.pc, .slice X.e S.eyes.length X.ec, .int .i64 S.watch, .int .i64 S.feed, .int .i64 S.heal, .int .i64 S.low, .int .i64 S.high, .slice X.l S.plans.length X.lc] 29)) none := Kept.alloc _ _ _ _ _
  have hsb := sbox_alloc h 29
  have hsz : (w.alloc (.cells #[.int .i64 S.id, .slice X.g S.groups.length X.gc, .slice X.a S.apart.length X.ac, .slice X.b S.between.length X.bc, .slice X.p S.phases.length X.pc, .slice X.e S.eyes.length X.ec, .int .i64 S.watch, .int .i64 S.feed, .int .i64 S.heal, .int .i64 S.low, .int .i64 S.high, .slice X.l S.plans.length X.lc] 29)).heap.size = w.heap.size + 1 := by simp
  have hSA := h.kept k1
  have hTA := hT.kept k1
  have hPA := hP.kept k1
  obtain ⟨W1, hW1⟩ : ∃ W1, w.alloc (.cells #[.int .i64 S.id, .slice X.g S.groups.length X.gc, .slice X.a S.apart.length X.ac, .slice X.b S.between.length X.bc, .slice X.p S.phases.length X.pc, .slice X.e S.eyes.length X.ec, .int .i64 S.watch, .int .i64 S.feed, .int .i64 S.heal, .int .i64 S.low, .int .i64 S.high, .slice X.l S.plans.length X.lc] 29) = W1 := ⟨_, rfl⟩
  rw [hW1] at k1 hsb hsz hSA hTA hPA
  have HSB := Hid.mk' hsb
  have HSZ := Hid.mk' hsz
  have HK := Hid.mk' k1
  have HS := Hid.mk' hSA
  have HT := Hid.mk' hTA
  have HP := Hid.mk' hPA
  have s0_ := HSB.out.c0
  have s1_ := HSB.out.c1
  have s2_ := HSB.out.c2
  have s3_ := HSB.out.c3
  have s4_ := HSB.out.c4
  have s5_ := HSB.out.c5
  have s6_ := HSB.out.c6
  have s7_ := HSB.out.c7
  have s8_ := HSB.out.c8
  have s9_ := HSB.out.c9
  have s10_ := HSB.out.c10
  have s11_ := HSB.out.c11
  have hPm := hP.max
  clear h hT hP k1 hsb hsz hSA hTA hPA
  go_enter Tryd.func6, Tryd.ntmps6
  go_wp2_with (first | rw [hW1] | (go_at_call 9; refine (first_no HS.out HT.out hs).mono ?_; rintro e wF ⟨rfl, hkF⟩))
  exact bodyPost_ret (v := .tuple #[.int .i64 0, .int .u8 0, .int .i64 50]) (by simp [results, Tryd.results6, go_sem]) rfl ⟨rfl, (HK.out.tr hkF).tr (Kept.alloc _ _ _ _ _)⟩
set_option maxRecDepth 100000 in
set_option maxHeartbeats 2000000 in
theorem check_many {X : Sa} {S : St} {w : World} {pa : Option Addr} {n cp : Nat} {T : List (List Nat)} (h : Sat w X S) (hT : Tabb w) (hP : Trc w pa n T) (hs : siteB S = true) (hn : 4096 < n) : Calls Tryd.prog 6 #[siteV X S, .slice pa n cp] w fun e w' => e = .returned (.tuple #[.int .i64 0, .int .u8 0, .int .i64 4]) ∧ Kept w w' none := by
  have k1 : Kept w (w.alloc (.cells #[.int .i64 S.id, .slice X.g S.groups.length X.gc, .slice X.a S.apart.length X.ac, .slice X.b S.between.length X.bc, .slice X.p S.phases.length X.pc, .slice X.e S.eyes.length X.ec, .int .i64 S.watch, .int .i64 S.feed, .int .i64 S.heal, .int .i64 S.low, .int .i64 S.high, .slice X.l S.plans.length X.lc] 29)) none := Kept.alloc _ _ _ _ _
  have hsb := sbox_alloc h 29
  have hsz : (w.alloc (.cells #[.int .i64 S.id, .slice X.g S.groups.length X.gc, .slice X.a S.apart.length X.ac, .slice X.b S.between.length X.bc, .slice X.p S.phases.length X.pc, .slice X.e S.eyes.length X.ec, .int .i64 S.watch, .int .i64 S.feed, .int .i64 S.heal, .int .i64 S.low, .int .i64 S.high, .slice X.l S.plans.length X.lc] 29)).heap.size = w.heap.size + 1 := by simp
  have hSA := h.kept k1
  have hTA := hT.kept k1
  have hPA := hP.kept k1
  obtain ⟨W1, hW1⟩ : ∃ W1, w.alloc (.cells #[.int .i64 S.id, .slice X.g S.groups.length X.gc, .slice X.a S.apart.length X.ac, .slice X.b S.between.length X.bc, .slice X.p S.phases.length X.pc, .slice X.e S.eyes.length X.ec, .int .i64 S.watch, .int .i64 S.feed, .int .i64 S.heal, .int .i64 S.low, .int .i64 S.high, .slice X.l S.plans.length X.lc] 29) = W1 := ⟨_, rfl⟩
  rw [hW1] at k1 hsb hsz hSA hTA hPA
  have HSB := Hid.mk' hsb
  have HSZ := Hid.mk' hsz
  have HK := Hid.mk' k1
  have HS := Hid.mk' hSA
  have HT := Hid.mk' hTA
  have HP := Hid.mk' hPA
  have s0_ := HSB.out.c0
  have s1_ := HSB.out.c1
  have s2_ := HSB.out.c2
  have s3_ := HSB.out.c3
  have s4_ := HSB.out.c4
  have s5_ := HSB.out.c5
  have s6_ := HSB.out.c6
  have s7_ := HSB.out.c7
  have s8_ := HSB.out.c8
  have s9_ := HSB.out.c9
  have s10_ := HSB.out.c10
  have s11_ := HSB.out.c11
  have hPm := hP.max
  clear h hT hP k1 hsb hsz hSA hTA hPA
  go_enter Tryd.func6, Tryd.ntmps6
  go_wp2_with (first | rw [hW1] | (go_at_call 9; refine (first_yes2 HS.out HT.out hs).mono ?_; rintro e wF ⟨b, rfl, hbm, hog, hkF⟩))
  exact bodyPost_ret (v := .tuple #[.int .i64 0, .int .u8 0, .int .i64 4]) (by simp [results, Tryd.results6, go_sem]) rfl ⟨rfl, (HK.out.tr hkF).tr (Kept.alloc _ _ _ _ _)⟩
set_option maxRecDepth 100000 in
set_option maxHeartbeats 2000000 in
theorem check_go {X : Sa} {S : St} {w : World} {pa : Option Addr} {n cp : Nat} {T : List (List Nat)} (h : Sat w X S) (hT : Tabb w) (hP : Trc w pa n T) (hs : siteB S = true) (hn : n ≤ 4096) : Calls Tryd.prog 6 #[siteV X S, .slice pa n cp] w fun e w' => e = .returned (.tuple #[.int .i64 (ansN (fltV S T) n), .int .u8 (ownV (fltV S T) n), .int .i64 0]) ∧ Kept w w' none := by
  have HSH := Hid.mk' (span_may hs).base.sh
  have hng := HSH.out.ok.ng
  have HWR := Hid.mk' (worst_rng hs)
  have HR := Hid.mk' (atV_rng (S := S) hP.lt)
  have HST := Hid.mk' (atV_start (T := T) hs)
  have k1 : Kept w (w.alloc (.cells #[.int .i64 S.id, .slice X.g S.groups.length X.gc, .slice X.a S.apart.length X.ac, .slice X.b S.between.length X.bc, .slice X.p S.phases.length X.pc, .slice X.e S.eyes.length X.ec, .int .i64 S.watch, .int .i64 S.feed, .int .i64 S.heal, .int .i64 S.low, .int .i64 S.high, .slice X.l S.plans.length X.lc] 29)) none := Kept.alloc _ _ _ _ _
  have hsb := sbox_alloc h 29
  have hsz : (w.alloc (.cells #[.int .i64 S.id, .slice X.g S.groups.length X.gc, .slice X.a S.apart.length X.ac, .slice X.b S.between.length X.bc, .slice X.p S.phases.length X.pc, .slice X.e S.eyes.length X.ec, .int .i64 S.watch, .int .i64 S.feed, .int .i64 S.heal, .int .i64 S.low, .int .i64 S.high, .slice X.l S.plans.length X.lc] 29)).heap.size = w.heap.size + 1 := by simp
  have hSA := h.kept k1
  have hTA := hT.kept k1
  have hPA := hP.kept k1
  obtain ⟨W1, hW1⟩ : ∃ W1, w.alloc (.cells #[.int .i64 S.id, .slice X.g S.groups.length X.gc, .slice X.a S.apart.length X.ac, .slice X.b S.between.length X.bc, .slice X.p S.phases.length X.pc, .slice X.e S.eyes.length X.ec, .int .i64 S.watch, .int .i64 S.feed, .int .i64 S.heal, .int .i64 S.low, .int .i64 S.high, .slice X.l S.plans.length X.lc] 29) = W1 := ⟨_, rfl⟩
  rw [hW1] at k1 hsb hsz hSA hTA hPA
  have HSB := Hid.mk' hsb
  have HSZ := Hid.mk' hsz
  have HK := Hid.mk' k1
  have HS := Hid.mk' hSA
  have HT := Hid.mk' hTA
  have HP := Hid.mk' hPA
  have s0_ := HSB.out.c0
  have s1_ := HSB.out.c1
  have s2_ := HSB.out.c2
  have s3_ := HSB.out.c3
  have s4_ := HSB.out.c4
  have s5_ := HSB.out.c5
  have s6_ := HSB.out.c6
  have s7_ := HSB.out.c7
  have s8_ := HSB.out.c8
  have s9_ := HSB.out.c9
  have s10_ := HSB.out.c10
  have s11_ := HSB.out.c11
  have hPm := hP.max
  clear h hT hP k1 hsb hsz hSA hTA hPA
  go_enter Tryd.func6, Tryd.ntmps6
  go_wp2_with (first | rw [hW1] | (go_at_call 9; refine (first_yes2 HS.out HT.out hs).mono ?_; rintro e wF ⟨b, rfl, hbm, hog, hkF⟩))
  have kN : Kept wF (wF.alloc (.cells #[.slice (some ⟨b, 0, none⟩) S.groups.length S.groups.length, .int .i64 (worstM S), .bool false] 45)) none := Kept.alloc _ _ _ _ _
  have bN := box_alloc wF (.slice (some ⟨b, 0, none⟩) S.groups.length S.groups.length) (.int .i64 (worstM S)) (.bool false) 45
  obtain ⟨W2, hW2⟩ : ∃ W2, wF.alloc (.cells #[.slice (some ⟨b, 0, none⟩) S.groups.length S.groups.length, .int .i64 (worstM S), .bool false] 45) = W2 := ⟨_, rfl⟩
  rw [hW2] at kN bN ⊢
  have HOG : Hid (OwnG W2 b S.groups.length (firstV S).g) := (row_kept hog kN (by simp)).congr (fun q hq => by unfold gcell; rw [firstV_g (by omega)])
  have BN := Hid.mk' bN
  have K2 := Hid.mk' (hkF.tr kN)
  have hb1 := hkF.size
  have hbl := hog.lt
  rw [HSZ.out] at hb1 hbm
  have HB1 := Hid.mk' (⟨hb1, hbm, hbl⟩ : w.heap.size + 1 ≤ wF.heap.size ∧ w.heap.size + 1 ≤ b ∧ b < wF.heap.size)
  clear hW2 kN bN hog hkF hb1 hbm hbl s0_ s1_ s2_ s3_ s4_ s5_ s6_ s7_ s8_ s9_ s10_ s11_
  go_loopw [10, 11, 12, 28] (fun _ _ _ i wr => ∃ k : Nat, k ≤ n ∧ i = .int .i64 k ∧ Kept W1 wr none ∧ Box wr wF.heap.size (.slice (some ⟨b, 0, none⟩) S.groups.length S.groups.length) (.int .i64 (atV S T k).start) (.bool (atV S T k).flashed) ∧ OwnG wr b S.groups.length (atV S T k).g ∧ ∀ j, j < k → fltV S T j = 0) (fun _ _ _ i _ => n - (intOf i).toNat)
  case atStart => exact ⟨0, by omega, rfl, K2.out, BN.out, HOG.out, fun j hj => by omega⟩
  case round =>
    obtain ⟨k, hk, rfl, hkw, hbx, hgw, hno⟩ := hrel
    have HKW := Hid.mk' hkw
    have HN := Hid.mk' hno
    by_cases hlt : k < n
    · obtain ⟨bp, op, rfl, hbp, hcp⟩ := HP.out.at_ (by omega)
      obtain ⟨al, cl, kc0, hB0⟩ := hcp k hlt
      have kc := cell_kept0 kc0 hkw
      have hB := hB0.kept hkw
      have HB0 := Hid.mk' hB0
      clear kc0 hB0
      have hFl := atV_len k hno
      have hRk := HR.out k
      have hSk := HST.out k
      have hsf : SafeAt wr (some ⟨b, 0, none⟩) S.groups.length (atV S T k) := hgw.safe hFl (fun _ _ => rfl) (by omega) hRk
      have HFLT : Hid (fltV S T k = faultV S (atV S T k) (tk T k)) := rfl
      have HYES : Hid (fltV S T k ≠ 0 → ansN (fltV S T) n = k ∧ ownV (fltV S T) n = fltV S T k) := fun h => ⟨ansN_at hlt hno h, ownV_at hlt hno h⟩
      have HNO : Hid (fltV S T k = 0 → ∀ j, j < k + 1 → fltV S T j = 0) := fun h => ext_no hno h
      have HAT : Hid (atV S T (k + 1) = behindV S (atV S T k) (tk T k)) := rfl
      generalize tk T k = L at *
      obtain ⟨F', hF'⟩ : ∃ F', atV S T (k + 1) = F' := ⟨_, rfl⟩
      have HAT0 := Hid.mk' hF'
      rw [hF'] at HAT
      clear hF'
      generalize atV S T k = F at *
      generalize fltV S T k = z at *
      rw [← hFl] at hbx hgw
      have HB := Hid.mk' hB
      have HBX := Hid.mk' hbx
      have HGW := Hid.mk' hgw
      have HSF := Hid.mk' hsf
      have HFL := Hid.mk' hFl
      have c0 := hbx.c0
      have c1 := hbx.c1
      have c2 := hbx.c2
      clear hkw hbx hgw hno hcp hB hsf
      have hz0 := HFLT.out
      by_cases hz : z = 0
      · have hLl := fault_len (hz0.symm.trans hz)
        have HN2 := Hid.mk' (HNO.out hz)
        rw [hz] at hz0
        have hz1 : faultV S F L = 0 := hz0.symm
        have hLF : L.length = F.groups.length := by omega
        have HLF := Hid.mk' hLF
        have hFn : F.groups.length ≤ 9223372036854775807 := by omega
        clear hz0 hFl hz HYES HNO HFLT hLl hLF
        go_wp2_with (first
          | (go_at_call 10; refine (fault_any (HSB.out.kept HKW.out) HSH.out (by rw [HFL.out]; exact HSF.out) HFL.out HB.out).mono ?_; rintro e wS ⟨rfl, hkS⟩)
          | (go_at_call 11; refine (move_loop HSB.out HSH.out.ok HB0.out (HLF.out.trans HFL.out) (HKW.out.tr hkS) (by rw [HSZ.out]; exact HB1.out.1) (by rw [HSZ.out]; exact HB1.out.2.1) (by have := HB1.out.2.2; omega) (cg := F.groups.length) (by rw [HLF.out]; exact Nat.le_refl _) hFn (by rw [HLF.out]; exact HBX.out.kept hkS) (by rw [HLF.out]; exact row_kept HGW.out hkS (by simp)) _ hSk HWR.out).mono ?_; rintro e w7 ⟨⟨v, rfl⟩, hk7, hb7, hg7⟩))
        go_roundw
        case rel =>
          have hLS := HLF.out.trans HFL.out
          refine ⟨k + 1, by omega, by go_num, hk7, ?_, ?_, HN2.out⟩
          · rw [HAT0.out, HAT.out]
            rw [hLS, HFL.out] at hb7
            exact hb7
          · rw [HAT0.out, HAT.out]
            rw [hLS] at hg7
            exact hg7.congr (fun q hq => by unfold gcell; rw [behindV_g (by omega)])
        case measure => simp [intOf]; omega
      · have HY := Hid.mk' (HYES.out hz)
        have hzb : (z != 0) = true := by simpa using hz
        have HZ0 := Hid.mk' hz0
        clear hz hz0 hFl HNO HYES HFLT
        go_wp2_with (go_at_call 10; refine (fault_any (HSB.out.kept HKW.out) HSH.out (by rw [HFL.out]; exact HSF.out) HFL.out HB.out).mono ?_; rintro e wS ⟨rfl, hkS⟩; rw [← HZ0.out])
        exact bodyPost_ret (v := .tuple #[.int .i64 (k : Int), .int .u8 z, .int .i64 0]) (by simp [results, Tryd.results6, go_sem]) rfl ⟨by rw [HY.out.1, HY.out.2], HK.out.tr (HKW.out.tr hkS)⟩
    · have e : k = n := by omega
      subst e
      have HY := Hid.mk' (⟨ansN_no HN.out, ownV_no HN.out⟩ : ansN (fltV S T) k = -1 ∧ ownV (fltV S T) k = 0)
      clear hkw hbx hgw hno
      go_wp2
      exact bodyPost_ret (v := .tuple #[.int .i64 (-1), .int .u8 0, .int .i64 0]) (by simp [results, Tryd.results6, go_sem]) rfl ⟨by rw [HY.out.1, HY.out.2], HK.out.tr HKW.out⟩

end Go.Proofs.YtcgflfngoaccoaaDoor
