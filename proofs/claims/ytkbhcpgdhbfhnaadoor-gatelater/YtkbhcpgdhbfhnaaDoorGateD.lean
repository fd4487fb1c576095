/-
  THE CONTRACT of Run (made by a program).
-/
import Derived.Test.YtkbhcpgdhbfhnaaDoorGateC
import Derived.Test.YtkbhcpgdhbfhnaaDoorLightsA
namespace Go.Proofs.YtkbhcpgdhbfhnaaDoor
open Go.RowKit Go.Lib Go.Deep
set_option linter.unusedVariables false
set_option linter.unusedSimpArgs false

set_option maxRecDepth 100000 in
set_option maxHeartbeats 2000000 in
theorem grun_no {X : Sa} {S : St} {w : World} {pa : Option Addr} {n cp : Nat} {T : List (List Nat)} (h : Sat w X S) (hT : Tabb w) (hP : Trc w pa n T) (hs : siteB S = false) : Calls Tryd.prog 10 #[siteV X S, .slice pa n cp] w fun e w' => e = .returned (.tuple #[.slice none 0 0, .int .i64 50]) ∧ Kept w w' none := by
  have k1 : Kept w (w.alloc (.cells #[.int .i64 S.id, .slice X.g S.groups.length X.gc, .slice X.a S.apart.length X.ac, .slice X.b S.between.length X.bc, .slice X.p S.phases.length X.pc, .slice X.e S.eyes.length X.ec, .int .i64 S.watch, .int .i64 S.feed, .int .i64 S.heal, .int .i64 S.low, .int .i64 S.high, .slice X.l S.plans.length X.lc] 34)) none := Kept.alloc _ _ _ _ _
  have hsb := sbox_alloc h 34
  have hsz : (w.alloc (.cells #[.int .i64 S.id, .slice X.g S.groups.length X.gc, .slice X.a S.apart.length X.ac, .slice X.b S.between.length X.bc, .slice X.p S.phases.length X.pc, .slice X.e S.eyes.length X.ec, .int .i64 S.watch, .int .i64 S.feed, .int .i64 S.heal, .int .i64 S.low, .int .i64 S.high, .slice X.l S.plans.length X.lc] 34)).heap.size = w.heap.size + 1 := by simp
  have hSA := h.kept k1
  have hTA := hT.kept k1
  have hPA := hP.kept k1
  obtain ⟨W1, hW1⟩ : ∃ W1, w.alloc (.cells #[.int .i64 S.id, .slice X.g S.groups.length X.gc, .slice X.a S.apart.length X.ac, .slice X.b S.between.length X.bc, .slice X.p S.phases.length X.pc, .slice X.e S.eyes.length X.ec, .int .i64 S.watch, .int .i64 S.feed, .int .i64 S.heal, .int .i64 S.low, .int .i64 S.high, .slice X.l S.plans.length X.lc] 34) = W1 := ⟨_, rfl⟩
  rw [hW1] at k1 hsb hsz hSA hTA hPA
  have HSB := Hid.mk' hsb
  have HSZ := Hid.mk' hsz
  have HK := Hid.mk' k1
  have HS := Hid.mk' hSA
  have HT := Hid.mk' hTA
  have HP := Hid.mk' hPA
  have s0_ := HSB.out.c0
  have s1_ := HSB.out.c1
  have s2_ := HSB.out.c2
  have s3_ := HSB.out.c3
  have s4_ := HSB.out.c4
  have s5_ := HSB.out.c5
  have s6_ := HSB.out.c6
  have s7_ := HSB.out.c7
  have s8_ := HSB.out.c8
  have s9_ := HSB.out.c9
  have s10_ := HSB.out.c10
  have s11_ := HSB.out.c11
  have hPm := hP.max
  clear h hT hP k1 hsb hsz hSA hTA hPA
  go_enter Tryd.func10, Tryd.ntmps10
  go_wp2_with (first | rw [hW1] | (go_at_call 13; refine (first_no HS.out HT.out hs).mono ?_; rintro e wF ⟨rfl, hkF⟩))
  go_ret2
  exact ⟨rfl, (HK.out.tr hkF).tr (Kept.alloc _ _ _ _ _)⟩
set_option maxRecDepth 100000 in
set_option maxHeartbeats 2000000 in
theorem grun_many {X : Sa} {S : St} {w : World} {pa : Option Addr} {n cp : Nat} {T : List (List Nat)} (h : Sat w X S) (hT : Tabb w) (hP : Trc w pa n T) (hs : siteB S = true) (hn : 4096 < n) : Calls Tryd.prog 10 #[siteV X S, .slice pa n cp] w fun e w' => e = .returned (.tuple #[.slice none 0 0, .int .i64 4]) ∧ Kept w w' none := by
  have k1 : Kept w (w.alloc (.cells #[.int .i64 S.id, .slice X.g S.groups.length X.gc, .slice X.a S.apart.length X.ac, .slice X.b S.between.length X.bc, .slice X.p S.phases.length X.pc, .slice X.e S.eyes.length X.ec, .int .i64 S.watch, .int .i64 S.feed, .int .i64 S.heal, .int .i64 S.low, .int .i64 S.high, .slice X.l S.plans.length X.lc] 34)) none := Kept.alloc _ _ _ _ _
  have hsb := sbox_alloc h 34
  have hsz : (w.alloc (.cells #[.int .i64 S.id, .slice X.g S.groups.length X.gc, .slice X.a S.apart.length X.ac, .slice X.b S.between.length X.bc, .slice X.p S.phases.length X.pc, .slice X.e S.eyes.length X.ec, .int .i64 S.watch, .int .i64 S.feed, .int .i64 S.heal, .int .i64 S.low, .int .i64 S.high, .slice X.l S.plans.length X.lc] 34)).heap.size = w.heap.size + 1 := by simp
  have hSA := h.kept k1
  have hTA := hT.kept k1
  have hPA := hP.kept k1
  obtain ⟨W1, hW1⟩ : ∃ W1, w.alloc (.cells #[.int .i64 S.id, .slice X.g S.groups.length X.gc, .slice X.a S.apart.length X.ac, .slice X.b S.between.length X.bc, .slice X.p S.phases.length X.pc, .slice X.e S.eyes.length X.ec, .int .i64 S.watch, .int .i64 S.feed, .int .i64 S.heal, .int .i64 S.low, .int .i64 S.high, .slice X.l S.plans.length X.lc] 34) = W1 := ⟨_, rfl⟩
  rw [hW1] at k1 hsb hsz hSA hTA hPA
  have HSB := Hid.mk' hsb
  have HSZ := Hid.mk' hsz
  have HK := Hid.mk' k1
  have HS := Hid.mk' hSA
  have HT := Hid.mk' hTA
  have HP := Hid.mk' hPA
  have s0_ := HSB.out.c0
  have s1_ := HSB.out.c1
  have s2_ := HSB.out.c2
  have s3_ := HSB.out.c3
  have s4_ := HSB.out.c4
  have s5_ := HSB.out.c5
  have s6_ := HSB.out.c6
  have s7_ := HSB.out.c7
  have s8_ := HSB.out.c8
  have s9_ := HSB.out.c9
  have s10_ := HSB.out.c10
  have s11_ := HSB.out.c11
  have hPm := hP.max
  clear h hT hP k1 hsb hsz hSA hTA hPA
  go_enter Tryd.func10, Tryd.ntmps10
  go_wp2_with (first | rw [hW1] | (go_at_call 13; refine (first_yes2 HS.out HT.out hs).mono ?_; rintro e wF ⟨b, rfl, hbm, hog, hkF⟩; have c1f := (HSB.out.kept (hkF.tr (Kept.alloc wF #[.slice (some ⟨b, 0, none⟩) S.groups.length S.groups.length, .int .i64 (worstM S), .bool false] 41 (0, 0) none))).c1))
  go_ret2
  exact ⟨rfl, (HK.out.tr hkF).tr (Kept.alloc _ _ _ _ _)⟩
set_option maxRecDepth 100000 in
set_option maxHeartbeats 2000000 in
theorem grun_ask {X : Sa} {S : St} {w : World} {pa : Option Addr} {n cp : Nat} {T : List (List Nat)} (h : Sat w X S) (hT : Tabb w) (hP : Trc w pa n T) (hs : siteB S = true) (hn : n ≤ 4096) {k0 : Nat} (hk0 : k0 < n) (hbad : (tk T k0).length ≠ S.groups.length) : Calls Tryd.prog 10 #[siteV X S, .slice pa n cp] w fun e w' => e = .returned (.tuple #[.slice none 0 0, .int .i64 90]) ∧ Kept w w' none := by
  have k1 : Kept w (w.alloc (.cells #[.int .i64 S.id, .slice X.g S.groups.length X.gc, .slice X.a S.apart.length X.ac, .slice X.b S.between.length X.bc, .slice X.p S.phases.length X.pc, .slice X.e S.eyes.length X.ec, .int .i64 S.watch, .int .i64 S.feed, .int .i64 S.heal, .int .i64 S.low, .int .i64 S.high, .slice X.l S.plans.length X.lc] 34)) none := Kept.alloc _ _ _ _ _
  have hsb := sbox_alloc h 34
  have hsz : (w.alloc (.cells #[.int .i64 S.id, .slice X.g S.groups.length X.gc, .slice X.a S.apart.length X.ac, .slice X.b S.between.length X.bc, .slice X.p S.phases.length X.pc, .slice X.e S.eyes.length X.ec, .int .i64 S.watch, .int .i64 S.feed, .int .i64 S.heal, .int .i64 S.low, .int .i64 S.high, .slice X.l S.plans.length X.lc] 34)).heap.size = w.heap.size + 1 := by simp
  have hSA := h.kept k1
  have hTA := hT.kept k1
  have hPA := hP.kept k1
  obtain ⟨W1, hW1⟩ : ∃ W1, w.alloc (.cells #[.int .i64 S.id, .slice X.g S.groups.length X.gc, .slice X.a S.apart.length X.ac, .slice X.b S.between.length X.bc, .slice X.p S.phases.length X.pc, .slice X.e S.eyes.length X.ec, .int .i64 S.watch, .int .i64 S.feed, .int .i64 S.heal, .int .i64 S.low, .int .i64 S.high, .slice X.l S.plans.length X.lc] 34) = W1 := ⟨_, rfl⟩
  rw [hW1] at k1 hsb hsz hSA hTA hPA
  have HSB := Hid.mk' hsb
  have HSZ := Hid.mk' hsz
  have HK := Hid.mk' k1
  have HS := Hid.mk' hSA
  have HT := Hid.mk' hTA
  have HP := Hid.mk' hPA
  have s0_ := HSB.out.c0
  have s1_ := HSB.out.c1
  have s2_ := HSB.out.c2
  have s3_ := HSB.out.c3
  have s4_ := HSB.out.c4
  have s5_ := HSB.out.c5
  have s6_ := HSB.out.c6
  have s7_ := HSB.out.c7
  have s8_ := HSB.out.c8
  have s9_ := HSB.out.c9
  have s10_ := HSB.out.c10
  have s11_ := HSB.out.c11
  have hPm := hP.max
  clear h hT hP k1 hsb hsz hSA hTA hPA
  have HBAD := Hid.mk' hbad
  clear hbad
  go_enter Tryd.func10, Tryd.ntmps10
  go_wp2_with (first | rw [hW1] | (go_at_call 13; refine (first_yes2 HS.out HT.out hs).mono ?_; rintro e wF ⟨b, rfl, hbm, hog, hkF⟩; have c1f := (HSB.out.kept (hkF.tr (Kept.alloc wF #[.slice (some ⟨b, 0, none⟩) S.groups.length S.groups.length, .int .i64 (worstM S), .bool false] 41 (0, 0) none))).c1))
  obtain ⟨W2, hW2⟩ : ∃ W2, wF.alloc (.cells #[.slice (some ⟨b, 0, none⟩) S.groups.length S.groups.length, .int .i64 (worstM S), .bool false] 41) = W2 := ⟨_, rfl⟩
  have kN : Kept wF W2 none := by rw [← hW2]; exact Kept.alloc _ _ _ _ _
  have bN := box_alloc wF (.slice (some ⟨b, 0, none⟩) S.groups.length S.groups.length) (.int .i64 (worstM S)) (.bool false) 41
  have hsz2 : (wF.alloc (.cells #[.slice (some ⟨b, 0, none⟩) S.groups.length S.groups.length, .int .i64 (worstM S), .bool false] 41)).heap.size = wF.heap.size + 1 := by simp
  rw [hW2] at bN hsz2 c1f ⊢
  have K2 := Hid.mk' (hkF.tr kN)
  have BN := Hid.mk' bN
  have HOG := Hid.mk' (row_kept hog kN (by simp))
  have HZ2 := Hid.mk' hsz2
  have hfz := hkF.size
  have hbz := hog.lt
  rw [HSZ.out] at hfz hbm
  have C1 := Hid.mk' c1f
  clear hW2 kN bN hsz2 hog hkF c1f s0_ s1_ s2_ s3_ s4_ s5_ s6_ s7_ s8_ s9_ s10_ s11_
  go_loopw [9, 26] (fun _ i wr => ∃ k : Nat, k ≤ n ∧ i = .int .i64 k ∧ wr = W2 ∧ ∀ j, j < k → (tk T j).length = S.groups.length) (fun _ i _ => n - (intOf i).toNat)
  case atStart => exact ⟨0, by omega, rfl, rfl, fun j hj => by omega⟩
  case round =>
    obtain ⟨k, hk, rfl, rfl, hno⟩ := hrel
    have HN := Hid.mk' hno
    by_cases hlt : k < n
    · obtain ⟨bp, op, rfl, hbp, hcp⟩ := HP.out.at_ (by omega)
      obtain ⟨al, cl, kc0, hB0⟩ := hcp k hlt
      have kc := cell_kept0 kc0 K2.out
      have c1 := C1.out
      have HEX : Hid ((tk T k).length = S.groups.length → ∀ j, j < k + 1 → (tk T j).length = S.groups.length) := fun e => ext_no hno e
      clear hcp kc0 hB0 hno
      by_cases hq : (tk T k).length = S.groups.length
      · have HN2 := Hid.mk' (HEX.out hq)
        have hqb : (((tk T k).length : Int) != (S.groups.length : Int)) = false := by simp; omega
        clear hq HEX
        go_wp2
        go_roundw
        case rel => exact ⟨k + 1, by omega, by go_num, by first | trivial | rfl, HN2.out⟩
        case measure => simp [intOf]; omega
      · have hqb : (((tk T k).length : Int) != (S.groups.length : Int)) = true := by simp; omega
        clear hq HEX
        go_wp2
        go_ret2
        exact ⟨rfl, HK.out.tr K2.out⟩
    · have e : n = k := by omega
      subst e
      exact absurd (HN.out k0 hk0) HBAD.out

/-- What the ticks go by. -/
structure Rn (W1 wr : World) (S : St) (T : List (List Nat)) (n bN bT k : Nat) : Prop where
  kp : Kept W1 wr none
  bx : ∃ bg, bg ≠ bT ∧ Box wr bN (.slice (some ⟨bg, 0, none⟩) S.groups.length S.groups.length) (.int .i64 (runF S T k).start) (.bool (runF S T k).flashed) ∧ OwnG wr bg S.groups.length (runF S T k).g
  rows : ∃ q : Nat → Nat, wr.rowIs bT 36 n (fun i => if i < k then .slice (some ⟨q i, 0, none⟩) S.groups.length S.groups.length else .slice none 0 0) ∧ ∀ i, i < k → q i ≠ bT ∧ q i ≠ bN ∧ wr.rowIs (q i) 5 S.groups.length (fun j => .int .u8 ((lg (runL S T i) j : Nat) : Int))
theorem Box.set3 {w : World} {b : Nat} {v0 v1 v2 : Value} (h : Box w b v0 v1 v2) (x0 x1 x2 : Value) : Box (((w.setCell ⟨b, 0, none⟩ x0).setCell ⟨b, 1, none⟩ x1).setCell ⟨b, 2, none⟩ x2) b x0 x1 x2 := by
  have h1 : Box (w.setCell ⟨b, 0, none⟩ x0) b x0 v1 v2 := ⟨World.cell?_setCell_same _ _ _ h.c0, (World.cell?_setCell_other _ _ _ _ (by simp)).trans h.c1, (World.cell?_setCell_other _ _ _ _ (by simp)).trans h.c2, (World.frozen?_setCell ..).trans h.f0, (World.frozen?_setCell ..).trans h.f1, (World.frozen?_setCell ..).trans h.f2, by simpa [World.setCell] using h.lt⟩
  exact (h1.set1 x1).set2 x2
theorem next_go2 {X : Sa} {S : St} {w : World} {a : Option Addr} {c : Nat} {F : Sf} {al : Option Addr} {n cl : Nat} {L : List Nat} (h : Sat w X S) (hT : Tabb w) (hF : SafeAt w a c F) (hB : By w al n L) (hs : siteB S = true) (hm : mayS S F = true) (hz : faultV S F L = 0) : Calls Tryd.prog 23 #[siteV X S, .agg #[.slice a S.groups.length c, .int .i64 F.start, .bool F.flashed], .slice al n cl] w fun e w' => ∃ b, e = .returned (.tuple #[.agg #[.slice (some ⟨b, 0, none⟩) S.groups.length S.groups.length, .int .i64 (behindV S F L).start, .bool (behindV S F L).flashed], .int .u8 0, .int .i64 0]) ∧ w.heap.size ≤ b ∧ OwnG w' b S.groups.length (behindV S F L).g ∧ Kept w w' none := by
  have hfn := (mayS_parts hm).1
  have hl := fault_len hz
  have hx := next_go (cl := cl) h hT hF hB hs hm hz
  rw [safeV, hfn] at hx
  refine hx.mono ?_
  rintro e w' ⟨b, rfl, h1, h2, h3⟩
  refine ⟨b, by rw [safeV, behindV_len, hl], h1, h2.congr (fun q hq => ?_), h3⟩
  unfold gcell
  rw [behindV_g (by omega)]
theorem run_len {S : St} {T : List (List Nat)} (hs : siteB S = true) (hT : ∀ k, k < T.length → (tk T k).length = S.groups.length) {k : Nat} (hk : k ≤ T.length) : (runF S T k).groups.length = S.groups.length := (mayS_parts (goes_parts (run_goes hs hT k hk)).1).1
theorem letV_lt (S : St) (F : Sf) (A : List Nat) : ∀ x ∈ letV S F A, x < 256 := by
  intro x hx
  simp only [letV, List.mem_map] at hx
  obtain ⟨i, _, rfl⟩ := hx
  have := letF_rng S F A i
  omega
theorem runF_rng {S : St} {T : List (List Nat)} : ∀ k, ∀ s ∈ (runF S T k).groups, s.asp < 256 ∧ i64B s.since ∧ i64B s.ended
  | 0, s, hs => by
    have : s = seen1 := by
      unfold runF firstV at hs
      exact (List.mem_replicate.1 hs).2
    subst this
    unfold i64B; simp
  | k + 1, s, hs => by
    unfold runF behindV at hs
    simp only [List.mem_map, List.mem_range] at hs
    obtain ⟨i, hi, rfl⟩ := hs
    exact sndV_rng _ _ (letV_lt _ _ _ _ (lg_mem hi))
/-- A drawn region's one way, a block that was met inside it left open. -/
def Rb (A : Nat → Act) (P : World → Prop) (e : Exit) (a : Act) (w : World) : Prop := match e with
  | .normal => (∃ u, a = A u) ∧ P w
  | _ => False
theorem Rb.out {A : Nat → Act} {P : World → Prop} {w : World} {e : Exit} {a : Act} (h : Rb A P e a w) : e = .normal ∧ (∃ u, a = A u) ∧ P w := by
  cases e with
  | normal => exact ⟨rfl, h.1, h.2⟩
  | _ => exact h.elim
def qX (q : Nat → Nat) (k b i : Nat) : Nat := if i = k then b else q i
theorem Rn.step {W1 wr wL wS w7 : World} {S : St} {T : List (List Nat)} {n bN bT k b2 bL : Nat} {q : Nat → Nat} (hkp : Kept W1 wr none) (hrow : wr.rowIs bT 36 n (fun i => if i < k then .slice (some ⟨q i, 0, none⟩) S.groups.length S.groups.length else .slice none 0 0)) (hq : ∀ i, i < k → q i ≠ bT ∧ q i ≠ bN ∧ wr.rowIs (q i) 5 S.groups.length (fun j => .int .u8 ((lg (runL S T i) j : Nat) : Int))) (hkL : Kept wr wL none) (hrL : wL.rowIs bL 5 S.groups.length (fun j => .int .u8 ((lg (runL S T k) j : Nat) : Int))) (hbL : wr.heap.size ≤ bL) (hwS : wL.setCell ⟨bT, k, none⟩ (.slice (some ⟨bL, 0, none⟩) S.groups.length S.groups.length) = wS) (h7 : Kept wS w7 none) (hb2 : wS.heap.size ≤ b2) (ho2 : OwnG w7 b2 S.groups.length (runF S T (k + 1)).g) {v0 v1 v2 : Value} (hbx : Box w7 bN v0 v1 v2) (h1 : W1.heap.size ≤ bN) (h2 : bN < bT) (h3 : bT < wr.heap.size) (h4 : bL < wS.heap.size) : Rn W1 (((w7.setCell ⟨bN, 0, none⟩ (.slice (some ⟨b2, 0, none⟩) S.groups.length S.groups.length)).setCell ⟨bN, 1, none⟩ (.int .i64 (runF S T (k + 1)).start)).setCell ⟨bN, 2, none⟩ (.bool (runF S T (k + 1)).flashed)) S T n bN bT (k + 1) := by
  have hS : Kept W1 wS none := by rw [← hwS]; exact (hkp.tr hkL).setNew (by show W1.heap.size ≤ bT; omega) _
  have oth : ∀ {b : Nat} {t : TypeId} {m : Nat} {f : Nat → Value}, wS.rowIs b t m f → b ≠ bN → (((w7.setCell ⟨bN, 0, none⟩ (.slice (some ⟨b2, 0, none⟩) S.groups.length S.groups.length)).setCell ⟨bN, 1, none⟩ (.int .i64 (runF S T (k + 1)).start)).setCell ⟨bN, 2, none⟩ (.bool (runF S T (k + 1)).flashed)).rowIs b t m f := fun h hb => (((row_kept h h7 (by simp)).setOther (a := ⟨bN, 0, none⟩) hb _).setOther (a := ⟨bN, 1, none⟩) hb _).setOther (a := ⟨bN, 2, none⟩) hb _
  have hbN2 : b2 ≠ bN := by
    have := hS.size
    have e : wS.heap.size = wL.heap.size := by rw [← hwS]; simp [World.setCell]
    have := hkL.size
    omega
  refine ⟨(((hS.tr h7).setNew h1 _).setNew h1 _).setNew h1 _, ⟨b2, ?_, hbx.set3 _ _ _, ((ho2.setOther (a := ⟨bN, 0, none⟩) hbN2 _).setOther (a := ⟨bN, 1, none⟩) hbN2 _).setOther (a := ⟨bN, 2, none⟩) hbN2 _⟩, ⟨qX q k bL, oth ?_ (by omega), fun i hi => ?_⟩⟩
  · have e : wS.heap.size = wL.heap.size := by rw [← hwS]; simp [World.setCell]
    have := hkL.size
    omega
  · rw [← hwS]
    refine ((row_kept hrow hkL (by simp)).set k _).congr (fun i hi => ?_)
    show (if i = k then _ else if i < k then _ else _) = if i < k + 1 then Value.slice (some ⟨qX q k bL i, 0, none⟩) _ _ else _
    unfold qX
    by_cases e : i = k
    · subst e; rw [if_pos rfl, if_pos (by omega), if_pos rfl]
    · rw [if_neg e]
      by_cases e2 : i < k
      · rw [if_pos e2, if_pos (by omega), if_neg e]
      · rw [if_neg e2, if_neg (by omega)]
  · unfold qX
    by_cases e : i = k
    · subst e
      rw [if_pos rfl]
      refine ⟨by omega, by omega, oth ?_ (by omega)⟩
      rw [← hwS]
      exact hrL.setOther (a := ⟨bT, i, none⟩) (by show bL ≠ bT; omega) _
    · rw [if_neg e]
      obtain ⟨h5, h6, h8⟩ := hq i (by omega)
      refine ⟨h5, h6, oth ?_ h6⟩
      rw [← hwS]
      exact (row_kept h8 hkL (by simp)).setOther (a := ⟨bT, k, none⟩) h5 _
theorem Rn.trc {W1 wr : World} {S : St} {T : List (List Nat)} {n bN bT : Nat} (h : Rn W1 wr S T n bN bT n) (hn : T.length = n) (hm : n ≤ 9223372036854775807) (hs : S.groups.length ≤ 100) (hl : ∀ k, k < n → (tk T k).length = S.groups.length) : Trc wr (some ⟨bT, 0, none⟩) n (runV S T) := by
  obtain ⟨q, hr, hq⟩ := h.rows
  refine ⟨(runV_len S T).trans hn, hm, fun _ => ⟨bT, 0, rfl, hr.lt, fun i hi => ?_⟩⟩
  have hc := hr.cell (i := i) hi
  rw [if_pos hi] at hc
  have hli : (runL S T i).length = S.groups.length := (letV_len _ _ _).trans (hl i hi)
  rw [runV_tk (by omega), hli]
  refine ⟨_, _, by rw [Nat.zero_add]; exact hc, By.row (hq i hi).2.2 _ _ (Nat.le_refl _) hli (by omega) (letV_lt _ _ _) (fun j hj => rfl)⟩
set_option maxRecDepth 100000 in
set_option maxHeartbeats 4000000 in
theorem grun_go {X : Sa} {S : St} {w : World} {pa : Option Addr} {n cp : Nat} {T : List (List Nat)} (h : Sat w X S) (hT : Tabb w) (hP : Trc w pa n T) (hs : siteB S = true) (hn : n ≤ 4096) (hall : ∀ k, k < n → (tk T k).length = S.groups.length) : Calls Tryd.prog 10 #[siteV X S, .slice pa n cp] w fun e w' => ∃ b, e = .returned (.tuple #[.slice (some ⟨b, 0, none⟩) n n, .int .i64 0]) ∧ w.heap.size ≤ b ∧ Trc w' (some ⟨b, 0, none⟩) n (runV S T) ∧ Kept w w' none := by
  have HTL := Hid.mk' hP.size
  have HSH := Hid.mk' (span_may hs).base.sh
  have hng := HSH.out.ok.ng
  have HALL := Hid.mk' hall
  have k1 : Kept w (w.alloc (.cells #[.int .i64 S.id, .slice X.g S.groups.length X.gc, .slice X.a S.apart.length X.ac, .slice X.b S.between.length X.bc, .slice X.p S.phases.length X.pc, .slice X.e S.eyes.length X.ec, .int .i64 S.watch, .int .i64 S.feed, .int .i64 S.heal, .int .i64 S.low, .int .i64 S.high, .slice X.l S.plans.length X.lc] 34)) none := Kept.alloc _ _ _ _ _
  have hsb := sbox_alloc h 34
  have hsz : (w.alloc (.cells #[.int .i64 S.id, .slice X.g S.groups.length X.gc, .slice X.a S.apart.length X.ac, .slice X.b S.between.length X.bc, .slice X.p S.phases.length X.pc, .slice X.e S.eyes.length X.ec, .int .i64 S.watch, .int .i64 S.feed, .int .i64 S.heal, .int .i64 S.low, .int .i64 S.high, .slice X.l S.plans.length X.lc] 34)).heap.size = w.heap.size + 1 := by simp
  have hSA := h.kept k1
  have hTA := hT.kept k1
  have hPA := hP.kept k1
  obtain ⟨W1, hW1⟩ : ∃ W1, w.alloc (.cells #[.int .i64 S.id, .slice X.g S.groups.length X.gc, .slice X.a S.apart.length X.ac, .slice X.b S.between.length X.bc, .slice X.p S.phases.length X.pc, .slice X.e S.eyes.length X.ec, .int .i64 S.watch, .int .i64 S.feed, .int .i64 S.heal, .int .i64 S.low, .int .i64 S.high, .slice X.l S.plans.length X.lc] 34) = W1 := ⟨_, rfl⟩
  rw [hW1] at k1 hsb hsz hSA hTA hPA
  have HSB := Hid.mk' hsb
  have HSZ := Hid.mk' hsz
  have HK := Hid.mk' k1
  have HS := Hid.mk' hSA
  have HT := Hid.mk' hTA
  have HP := Hid.mk' hPA
  have s0_ := HSB.out.c0
  have s1_ := HSB.out.c1
  have s2_ := HSB.out.c2
  have s3_ := HSB.out.c3
  have s4_ := HSB.out.c4
  have s5_ := HSB.out.c5
  have s6_ := HSB.out.c6
  have s7_ := HSB.out.c7
  have s8_ := HSB.out.c8
  have s9_ := HSB.out.c9
  have s10_ := HSB.out.c10
  have s11_ := HSB.out.c11
  have hPm := hP.max
  clear h hT hP k1 hsb hsz hSA hTA hPA
  clear hall
  have hmk := run_make_row' (P := Tryd.prog) 23 36 (.slice none 0 0) 24 Tryd.uByss Tryd.infoBys rfl .i64 .i64 n (by omega) (by omega)
  go_enter Tryd.func10, Tryd.ntmps10
  go_wp2_with (first | rw [hW1] | (go_at_call 13; refine (first_yes2 HS.out HT.out hs).mono ?_; rintro e wF ⟨b, rfl, hbm, hog, hkF⟩; have c1f := (HSB.out.kept (hkF.tr (Kept.alloc wF #[.slice (some ⟨b, 0, none⟩) S.groups.length S.groups.length, .int .i64 (worstM S), .bool false] 41 (0, 0) none))).c1))
  obtain ⟨W2, hW2⟩ : ∃ W2, wF.alloc (.cells #[.slice (some ⟨b, 0, none⟩) S.groups.length S.groups.length, .int .i64 (worstM S), .bool false] 41) = W2 := ⟨_, rfl⟩
  have kN : Kept wF W2 none := by rw [← hW2]; exact Kept.alloc _ _ _ _ _
  have bN := box_alloc wF (.slice (some ⟨b, 0, none⟩) S.groups.length S.groups.length) (.int .i64 (worstM S)) (.bool false) 41
  have hsz2 : (wF.alloc (.cells #[.slice (some ⟨b, 0, none⟩) S.groups.length S.groups.length, .int .i64 (worstM S), .bool false] 41)).heap.size = wF.heap.size + 1 := by simp
  rw [hW2] at bN hsz2 c1f ⊢
  have K2 := Hid.mk' (hkF.tr kN)
  have BN := Hid.mk' bN
  have HOG := Hid.mk' (row_kept hog kN (by simp))
  have HZ2 := Hid.mk' hsz2
  have hfz := hkF.size
  have hbz := hog.lt
  rw [HSZ.out] at hfz hbm
  have C1 := Hid.mk' c1f
  clear hW2 kN bN hsz2 hog hkF c1f s0_ s1_ s2_ s3_ s4_ s5_ s6_ s7_ s8_ s9_ s10_ s11_
  go_loopw [9, 26] (fun _ i wr => ∃ k : Nat, k ≤ n ∧ i = .int .i64 k ∧ wr = W2 ∧ ∀ j, j < k → (tk T j).length = S.groups.length) (fun _ i _ => n - (intOf i).toNat)
  case atStart => exact ⟨0, by omega, rfl, rfl, fun j hj => by omega⟩
  case round =>
    obtain ⟨k, hk, rfl, rfl, hno⟩ := hrel
    have HN := Hid.mk' hno
    by_cases hlt : k < n
    · obtain ⟨bp, op, rfl, hbp, hcp⟩ := HP.out.at_ (by omega)
      obtain ⟨al, cl, kc0, hB0⟩ := hcp k hlt
      have kc := cell_kept0 kc0 K2.out
      have c1 := C1.out
      have HEX : Hid ((tk T k).length = S.groups.length → ∀ j, j < k + 1 → (tk T j).length = S.groups.length) := fun e => ext_no hno e
      clear hcp kc0 hB0 hno
      have hq := HALL.out k hlt
      have HN2 := Hid.mk' (HEX.out hq)
      have hqb : (((tk T k).length : Int) != (S.groups.length : Int)) = false := by simp; omega
      clear hq HEX
      go_wp2
      go_roundw
      case rel => exact ⟨k + 1, by omega, by go_num, by first | trivial | rfl, HN2.out⟩
      case measure => simp [intOf]; omega
    · have e : n = k := by omega
      subst e
      obtain ⟨W2, hW2⟩ : ∃ W2, W2 = wr := ⟨_, rfl⟩
      subst hW2
      go_wp2
      have hrw := World.rowIs_made W2 (.slice none 0 0) n 36
      have kM : Kept W2 (W2.alloc (.cells (madeCells #[.slice none 0 0] n) 36)) none := Kept.alloc _ _ _ _ _
      obtain ⟨W3, hW3⟩ : ∃ W3, W2.alloc (.cells (madeCells #[.slice none 0 0] n) 36) = W3 := ⟨_, rfl⟩
      rw [hW3] at hrw kM ⊢
      have hzz := HZ2.out
      have HRN : Hid (Rn W1 W3 S T n wF.heap.size W2.heap.size 0) := ⟨K2.out.tr kM, ⟨b, by omega, BN.out.kept kM, (row_kept HOG.out kM (by simp)).congr (fun q hq => by unfold gcell; rw [show runF S T 0 = firstV S from rfl, firstV_g (by omega)])⟩, ⟨fun _ => 0, hrw.congr (fun i hi => by rw [if_neg (by omega)]), fun i hi => by omega⟩⟩
      have hNT : wF.heap.size < W2.heap.size := by omega
      have hN1 : W1.heap.size ≤ wF.heap.size := by rw [HSZ.out]; exact hfz
      have hsz1 := HSZ.out
      clear hW3 hrw kM hmk hzz HZ2 BN HOG C1 HN hno hbz hbm
      generalize wF.heap.size = bN at *
      generalize W2.heap.size = bT at *
      go_loopw [11, 12, 42] (fun _ _ i wr => ∃ k : Nat, k ≤ n ∧ i = .int .i64 k ∧ Rn W1 wr S T n bN bT k) (fun _ _ i _ => n - (intOf i).toNat)
      case atStart => exact ⟨0, by omega, rfl, HRN.out⟩
      case round =>
        obtain ⟨k, hk, rfl, hrn⟩ := hrel
        by_cases hlt : k < n
        · obtain ⟨bg, hgT, hbx, hog⟩ := hrn.bx
          obtain ⟨q, hrow, hq⟩ := hrn.rows
          obtain ⟨bp, op, rfl, hbp, hcp⟩ := HP.out.at_ (by omega)
          obtain ⟨al, cl, kc0, hB0⟩ := hcp k hlt
          have hkp := hrn.kp
          have kc := cell_kept0 kc0 hkp
          have hA := HALL.out k hlt
          have hgo := run_goes hs (fun k hk => HALL.out k (by have := HTL.out; omega)) k (by have := HTL.out; omega)
          have hmy := (goes_parts hgo).1
          have hFl := (mayS_parts hmy).1
          have hz := let_safe hs hgo hA
          have hsf : SafeAt wr (some ⟨bg, 0, none⟩) S.groups.length (runF S T k) := hog.safe hFl (fun _ _ => rfl) (by omega) (runF_rng k)
          have hLL : (runL S T k).length = S.groups.length := (letV_len _ _ _).trans hA
          have hLG : ∀ j, j < S.groups.length → letF S (runF S T k) (tk T k) j = lg (runL S T k) j := fun j hj => (letV_lg (by omega)).symm
          have hLT : ∀ x ∈ runL S T k, x < 256 := letV_lt _ _ _
          have HNX0 : Hid (runF S T (k + 1) = behindV S (runF S T k) (runL S T k)) := rfl
          have HRL : Hid (letV S (runF S T k) (tk T k) = runL S T k) := rfl
          rw [HRL.out] at hz
          have hlet := glet_any (cl := cl) (HSB.out.kept hkp) HSH.out hsf hFl (hB0.kept hkp) hA
          rw [safeV, hFl] at hlet
          have HLET := Hid.mk' hlet
          have hbxl := hbx.lt
          have hTl := hrow.lt
          have hkz := hkp.size
          have HMY := Hid.mk' hmy
          have HZ := Hid.mk' hz
          have HSF := Hid.mk' hsf
          have HLL := Hid.mk' hLL
          have HLG := Hid.mk' hLG
          have HLT := Hid.mk' hLT
          have HQ := Hid.mk' hq
          have HROW := Hid.mk' hrow
          have HKP := Hid.mk' hkp
          have HBX0 := Hid.mk' hbx
          have HOG0 := Hid.mk' hog
          have HFL := Hid.mk' hFl
          have HRNG := Hid.mk' (runF_rng (S := S) (T := T) k)
          have c0 := hbx.c0
          have c1 := hbx.c1
          have c2 := hbx.c2
          clear hlet hcp kc0 hB0 hA hgo hmy hFl hz hsf hLL hLG hLT HRL hq hrow hrn hog hbx
          rw [show (tk T k).length = S.groups.length from HALL.out k hlt] at kc HLET
          generalize tk T k = A at *
          generalize runF S T k = F at *
          go_wp2_with (go_at_call 28; refine HLET.out.mono ?_; rintro e wL ⟨bL, rfl, hbL, hrL, hkL⟩; have rT := row_kept HROW.out hkL (by simp); have y0 : wL.cell? ⟨bT, k, none⟩ = some (.slice none 0 0) := (rT.cell (i := k) hlt).trans (by simp); have z0 := rT.frozen k)
          obtain ⟨wS, hwS⟩ : ∃ wS, wL.setCell ⟨bT, k, none⟩ (.slice (some ⟨bL, 0, none⟩) S.groups.length S.groups.length) = wS := ⟨_, rfl⟩
          have hsS : wS.heap.size = wL.heap.size := by rw [← hwS]; simp [World.setCell]
          have hLz := hkL.size
          have hLl := hrL.lt
          have hKS : Kept W1 wS none := by rw [← hwS]; exact (HKP.out.tr hkL).setNew (by show W1.heap.size ≤ bT; omega) _
          have hoS : OwnG wS bg S.groups.length F.g := by
            rw [← hwS]
            exact (row_kept HOG0.out hkL (by simp)).setOther (a := ⟨bT, k, none⟩) hgT _
          have hsS2 : SafeAt wS (some ⟨bg, 0, none⟩) S.groups.length F := hoS.safe HFL.out (fun _ _ => rfl) (by omega) HRNG.out
          have bS : Box wS bN (.slice (some ⟨bg, 0, none⟩) S.groups.length S.groups.length) (.int .i64 F.start) (.bool F.flashed) := by
            rw [← hwS]
            exact (HBX0.out.kept hkL).other (by show bT ≠ bN; omega) _
          have hrL2 : wL.rowIs bL 5 S.groups.length (fun j => .int .u8 ((lg (runL S T k) j : Nat) : Int)) := hrL.congr (fun i hi => by rw [HLG.out i hi])
          have rLS : wS.rowIs bL 5 S.groups.length (fun j => .int .u8 ((lg (runL S T k) j : Nat) : Int)) := by
            rw [← hwS]
            exact hrL2.setOther (a := ⟨bT, k, none⟩) (by show bL ≠ bT; omega) _
          have hByS : By wS (some ⟨bL, 0, none⟩) S.groups.length (runL S T k) := By.row rLS _ _ (Nat.le_refl _) HLL.out (by omega) HLT.out (fun j hj => rfl)
          have HNX : Hid (∀ w', Kept wS w' none → Calls Tryd.prog 23 #[siteV X S, .agg #[.slice (some ⟨bg, 0, none⟩) S.groups.length S.groups.length, .int .i64 F.start, .bool F.flashed], .slice (some ⟨bL, 0, none⟩) S.groups.length S.groups.length] w' fun e w2 => ∃ b2, e = .returned (.tuple #[.agg #[.slice (some ⟨b2, 0, none⟩) S.groups.length S.groups.length, .int .i64 (runF S T (k + 1)).start, .bool (runF S T (k + 1)).flashed], .int .u8 0, .int .i64 0]) ∧ w'.heap.size ≤ b2 ∧ OwnG w2 b2 S.groups.length (runF S T (k + 1)).g ∧ Kept w' w2 none) := fun w' qk => by
            rw [HNX0.out]
            exact next_go2 ((HS.out.kept hKS).kept qk) ((HT.out.kept hKS).kept qk) (hsS2.kept qk) (hByS.kept qk) hs HMY.out HZ.out
          have HFIN : Hid (∀ w7 b2, Kept wS w7 none → wS.heap.size ≤ b2 → OwnG w7 b2 S.groups.length (runF S T (k + 1)).g → Rn W1 (((w7.setCell ⟨bN, 0, none⟩ (.slice (some ⟨b2, 0, none⟩) S.groups.length S.groups.length)).setCell ⟨bN, 1, none⟩ (.int .i64 (runF S T (k + 1)).start)).setCell ⟨bN, 2, none⟩ (.bool (runF S T (k + 1)).flashed)) S T n bN bT (k + 1)) := fun w7 b2 h7 hb2 ho2 =>
            Rn.step HKP.out HROW.out HQ.out hkL hrL2 hbL hwS h7 hb2 ho2 (bS.kept h7) (by omega) (by omega) (by omega) (by omega)
          have HBX := Hid.mk' bS
          have bx0 := bS.c0
          have bx1 := bS.c1
          have bx2 := bS.c2
          have tT : ∀ w', Kept wS w' (some bN) → w'.cell? ⟨bT, k, none⟩ = some (.slice (some ⟨bL, 0, none⟩) S.groups.length S.groups.length) := fun w' qk => cell_keptS (by rw [← hwS]; exact World.cell?_setCell_same _ _ _ y0) qk (by intro e; have := Option.some.inj e; omega)
          have s0_ : ∀ w', Kept wS w' (some bN) → w'.cell? ⟨w.heap.size, 0, none⟩ = some (.int .i64 S.id) := fun w' qk => cell_keptS (HSB.out.kept hKS).c0 qk (by intro e; have := Option.some.inj e; omega)
          have s1_ : ∀ w', Kept wS w' (some bN) → w'.cell? ⟨w.heap.size, 1, none⟩ = some (.slice X.g S.groups.length X.gc) := fun w' qk => cell_keptS (HSB.out.kept hKS).c1 qk (by intro e; have := Option.some.inj e; omega)
          have s2_ : ∀ w', Kept wS w' (some bN) → w'.cell? ⟨w.heap.size, 2, none⟩ = some (.slice X.a S.apart.length X.ac) := fun w' qk => cell_keptS (HSB.out.kept hKS).c2 qk (by intro e; have := Option.some.inj e; omega)
          have s3_ : ∀ w', Kept wS w' (some bN) → w'.cell? ⟨w.heap.size, 3, none⟩ = some (.slice X.b S.between.length X.bc) := fun w' qk => cell_keptS (HSB.out.kept hKS).c3 qk (by intro e; have := Option.some.inj e; omega)
          have s4_ : ∀ w', Kept wS w' (some bN) → w'.cell? ⟨w.heap.size, 4, none⟩ = some (.slice X.p S.phases.length X.pc) := fun w' qk => cell_keptS (HSB.out.kept hKS).c4 qk (by intro e; have := Option.some.inj e; omega)
          have s5_ : ∀ w', Kept wS w' (some bN) → w'.cell? ⟨w.heap.size, 5, none⟩ = some (.slice X.e S.eyes.length X.ec) := fun w' qk => cell_keptS (HSB.out.kept hKS).c5 qk (by intro e; have := Option.some.inj e; omega)
          have s6_ : ∀ w', Kept wS w' (some bN) → w'.cell? ⟨w.heap.size, 6, none⟩ = some (.int .i64 S.watch) := fun w' qk => cell_keptS (HSB.out.kept hKS).c6 qk (by intro e; have := Option.some.inj e; omega)
          have s7_ : ∀ w', Kept wS w' (some bN) → w'.cell? ⟨w.heap.size, 7, none⟩ = some (.int .i64 S.feed) := fun w' qk => cell_keptS (HSB.out.kept hKS).c7 qk (by intro e; have := Option.some.inj e; omega)
          have s8_ : ∀ w', Kept wS w' (some bN) → w'.cell? ⟨w.heap.size, 8, none⟩ = some (.int .i64 S.heal) := fun w' qk => cell_keptS (HSB.out.kept hKS).c8 qk (by intro e; have := Option.some.inj e; omega)
          have s9_ : ∀ w', Kept wS w' (some bN) → w'.cell? ⟨w.heap.size, 9, none⟩ = some (.int .i64 S.low) := fun w' qk => cell_keptS (HSB.out.kept hKS).c9 qk (by intro e; have := Option.some.inj e; omega)
          have s10_ : ∀ w', Kept wS w' (some bN) → w'.cell? ⟨w.heap.size, 10, none⟩ = some (.int .i64 S.high) := fun w' qk => cell_keptS (HSB.out.kept hKS).c10 qk (by intro e; have := Option.some.inj e; omega)
          have s11_ : ∀ w', Kept wS w' (some bN) → w'.cell? ⟨w.heap.size, 11, none⟩ = some (.slice X.l S.plans.length X.lc) := fun w' qk => cell_keptS (HSB.out.kept hKS).c11 qk (by intro e; have := Option.some.inj e; omega)
          rw [hwS]
          clear y0 z0 c0 c1 c2 kc
          clear hwS hkL hrL hrL2 rLS rT hoS hsS2 bS hByS hKS hLz hLl hsS hbL
          refine Code.wp_mono (Q := Rb ?A (fun w' => Rn W1 w' S T n bN bT (k + 1))) ?cont ?reg
          case reg =>
            repeat (rename_i hh; clear hh)
            refine wp_region_held_drew (S := fun w' => Kept wS w' (some bN)) (by kernel_rfl) (Kept.drew _ _) (fun hHeld => ?_)
            refine held_take (i := 0) (v := ?v1) rfl rfl (by kernel_rfl) (by kernel_rfl) (by kernel_rfl) (fun _ _ _ h => h) (Or.inl ⟨by rfl, ?hy1⟩) hHeld ?rest1
            case hy1 => first | (intro w hSw; (try dsimp only at hSw); go_simp; done) | (intro w hSw; (try dsimp only at hSw); go_simp; with_reducible rfl)
            try simp only [List.setIfInBounds_toArray, List.set_cons_zero, List.set_cons_succ]
            refine held_take (i := 2) (v := ?v2) rfl rfl (by kernel_rfl) (by kernel_rfl) (by kernel_rfl) (fun _ _ _ h => h) (Or.inl ⟨by rfl, ?hy2⟩) hHeld ?rest2
            case hy2 => first | (intro w hSw; (try dsimp only at hSw); go_simp; done) | (intro w hSw; (try dsimp only at hSw); go_simp; with_reducible rfl)
            try simp only [List.setIfInBounds_toArray, List.set_cons_zero, List.set_cons_succ]
            refine held_take (i := 3) (v := ?v3) rfl rfl (by kernel_rfl) (by kernel_rfl) (by kernel_rfl) (fun _ _ _ h => h) (Or.inl ⟨by rfl, ?hy3⟩) hHeld ?rest3
            case hy3 => first | (intro w hSw; (try dsimp only at hSw); go_simp; done) | (intro w hSw; (try dsimp only at hSw); go_simp; with_reducible rfl)
            try simp only [List.setIfInBounds_toArray, List.set_cons_zero, List.set_cons_succ]
            refine held_take (i := 4) (v := ?v4) rfl rfl (by kernel_rfl) (by kernel_rfl) (by kernel_rfl) (fun _ _ _ h => h) (Or.inl ⟨by rfl, ?hy4⟩) hHeld ?rest4
            case hy4 => first | (intro w hSw; (try dsimp only at hSw); go_simp; done) | (intro w hSw; (try dsimp only at hSw); go_simp; with_reducible rfl)
            try simp only [List.setIfInBounds_toArray, List.set_cons_zero, List.set_cons_succ]
            refine held_take (i := 5) (v := ?v5) rfl rfl (by kernel_rfl) (by kernel_rfl) (by kernel_rfl) (fun _ _ _ h => h) (Or.inl ⟨by rfl, ?hy5⟩) hHeld ?rest5
            case hy5 => first | (intro w hSw; (try dsimp only at hSw); go_simp; done) | (intro w hSw; (try dsimp only at hSw); go_simp; with_reducible rfl)
            try simp only [List.setIfInBounds_toArray, List.set_cons_zero, List.set_cons_succ]
            refine wpAnyH_ready (rs := [1]) (by kernel_rfl) (by simp) ?_
            refine AllReadyH.cons rfl (fun K hK => ?_) AllReadyH.nil
            go_simp
            refine hK.out _ _ hHeld (fun hHeld => ?_)
            clear hK K
            refine wpAnyH_ready (rs := [6]) (by kernel_rfl) (by simp) ?_
            refine AllReadyH.cons rfl (fun K hK => ?_) AllReadyH.nil
            go_simp
            go_wp2_with (go_at_call 23; refine (HNX.out _ (Kept.drew _ _)).mono ?_; rintro e w7 ⟨b2, rfl, hb2, hog2, hk7⟩)
            have hk7' : Kept wS w7 none := Kept.tr (Kept.drew _ _) hk7
            refine hK.out _ _ (hk7'.weakS _) (fun hHeld => ?_)
            clear hK K
            refine held_take (i := 7) (v := ?v6) rfl rfl (by kernel_rfl) (by kernel_rfl) (by kernel_rfl) (fun _ _ _ h => h) (Or.inl ⟨by rfl, ?hy6⟩) hHeld ?rest6
            case hy6 => first | (intro w hSw; (try dsimp only at hSw); go_simp; done) | (intro w hSw; (try dsimp only at hSw); go_simp; with_reducible rfl)
            try simp only [List.setIfInBounds_toArray, List.set_cons_zero, List.set_cons_succ]
            refine held_take (i := 8) (v := ?v7) rfl rfl (by kernel_rfl) (by kernel_rfl) (by kernel_rfl) (fun _ _ _ h => h) (Or.inl ⟨by rfl, ?hy7⟩) hHeld ?rest7
            case hy7 => first | (intro w hSw; (try dsimp only at hSw); go_simp; done) | (intro w hSw; (try dsimp only at hSw); go_simp; with_reducible rfl)
            try simp only [List.setIfInBounds_toArray, List.set_cons_zero, List.set_cons_succ]
            refine held_take (i := 9) (v := ?v8) rfl rfl (by kernel_rfl) (by kernel_rfl) (by kernel_rfl) (fun _ _ _ h => h) (Or.inl ⟨by rfl, ?hy8⟩) hHeld ?rest8
            case hy8 => first | (intro w hSw; (try dsimp only at hSw); go_simp; done) | (intro w hSw; (try dsimp only at hSw); go_simp; with_reducible rfl)
            try simp only [List.setIfInBounds_toArray, List.set_cons_zero, List.set_cons_succ]
            refine held_take (i := 10) (v := ?v9) rfl rfl (by kernel_rfl) (by kernel_rfl) (by kernel_rfl) (fun _ _ _ h => h) (Or.inl ⟨by rfl, ?hy9⟩) hHeld ?rest9
            case hy9 => first | (intro w hSw; (try dsimp only at hSw); go_simp; done) | (intro w hSw; (try dsimp only at hSw); go_simp; with_reducible rfl)
            try simp only [List.setIfInBounds_toArray, List.set_cons_zero, List.set_cons_succ]
            have BX7 := Hid.mk' (HBX.out.kept hk7')
            have v0 := BX7.out.c0
            have v1 := BX7.out.c1
            have v2 := BX7.out.c2
            have f0 := BX7.out.f0
            have f1 := BX7.out.f1
            have f2 := BX7.out.f2
            refine wpAnyH_ready (rs := [11]) (by kernel_rfl) (by simp) ?_
            refine AllReadyH.cons rfl (fun K hK => ?_) AllReadyH.nil
            go_simp
            refine hK.out _ _ (((hHeld.setRow _ _).setRow _ _).setRow _ _) (fun hHeld => ?_)
            clear hK K
            refine wpAnyH_done (by kernel_rfl) ?_ _
            refine And.intro ⟨b2, by with_reducible rfl⟩ ?_
            exact HFIN.out w7 b2 hk7' hb2 hog2
          case cont =>
          intro e a' w' hq'
          obtain ⟨rfl, ⟨b2, rfl⟩, hrq⟩ := hq'.out
          go_wp2
          go_roundw
          case rel => exact ⟨k + 1, by omega, by go_num, hrq⟩
          case measure => simp [intOf]; omega
        · have e : n = k := by omega
          subst e
          have HRF := Hid.mk' hrn
          clear hrn
          go_wp2
          go_ret2
          exact ⟨bT, ⟨rfl, by omega, HRF.out.trc HTL.out hPm (by omega) HALL.out, HK.out.tr HRF.out.kp⟩⟩


end Go.Proofs.YtkbhcpgdhbfhnaaDoor
