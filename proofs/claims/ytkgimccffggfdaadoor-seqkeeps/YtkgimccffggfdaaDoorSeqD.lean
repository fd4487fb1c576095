/-
  THE CONTRACT of seq.Next (made by a program).
-/
import Derived.Test.YtkgimccffggfdaaDoorSeqC
import Derived.Test.YtkgimccffggfdaaDoorSeqH
import Derived.Test.YtkgimccffggfdaaDoorTurB
namespace Go.Proofs.YtkgimccffggfdaaDoor
open Go.RowKit Go.Lib Go.Deep
set_option linter.unusedVariables false
set_option linter.unusedSimpArgs false


theorem fulQ_stay {S : St} {k : Nat} {s : Int} {c g : Nat} (h : incQ s < (S.ph k).min ∨ othN S c k = 0 ∨ (g.testBit k = false ∧ incQ s < (S.ph k).max)) : fulQ S k s c g = ⟨k, incQ s⟩ := if_pos h
theorem fulQ_go {S : St} {k : Nat} {s : Int} {c g : Nat} (h : ¬ (incQ s < (S.ph k).min ∨ othN S c k = 0 ∨ (g.testBit k = false ∧ incQ s < (S.ph k).max))) : fulQ S k s c g = ⟨rndV (othN S c k) k, 0⟩ := if_neg h
theorem fulA_is {S : St} {k : Nat} {s : Int} {c g : Nat} (h : g.testBit k = true ∨ (S.ph k).max ≤ incQ s) : fulA S k (incQ s) c = .agg #[.int .i64 ((fulQ S k s c g).ph : Int), .int .i64 (fulQ S k s c g).since] := by
  by_cases h1 : incQ s < (S.ph k).min ∨ othN S c k = 0
  · rw [fulA_stay h1, fulQ_stay (by rcases h1 with e | e; exact .inl e; exact .inr (.inl e))]
  · rw [fulA_go h1, fulQ_go (by
      rintro (e | e | ⟨e, f⟩)
      · exact h1 (.inl e)
      · exact h1 (.inr e)
      · rcases h with q | q
        · rw [q] at e; cases e
        · omega)]
theorem sbeh_any {w : World} {B : Nat} {X : Sa} {S : St} (h : Sbox w B X S) (hT : Tabb w) (hn : S.phases.length ≤ 8) (p : Nat) (hp : p < S.phases.length) (s : Int) (hs0 : 0 ≤ s) (hs9 : s ≤ 1048576) (c g : Nat) (hc : c < 4294967296) (hg : g < 4294967296) : Calls Tryd.prog 24 #[.pointer (some ⟨B, 0, none⟩), .agg #[.int .i64 (p : Int), .int .i64 s], .int .u32 (c : Int), .int .u32 (g : Int)] w fun e w' => e = .returned (.agg #[.int .i64 ((fulQ S p s c g).ph : Int), .int .i64 (fulQ S p s c g).since]) ∧ Kept w w' none := by
  by_cases hs : s < 1048576
  · have hi : incQ s = s + 1 := by unfold incQ; rw [if_pos hs]
    cases hb : g.testBit p with
    | true =>
      rw [← fulA_is (.inl hb), hi]
      exact sbeh_1l h hT hn p hp s hs0 hs c g hc hg hb
    | false =>
      by_cases hm : (S.ph p).max ≤ s + 1
      · rw [← fulA_is (.inr (by rw [hi]; exact hm)), hi]
        exact sbeh_2l h hT hn p hp s hs0 hs c g hc hg hb hm
      · rw [fulQ_stay (.inr (.inr ⟨hb, by omega⟩)), hi]
        exact sbeh_3l h hT hn p hp s hs0 hs c g hc hg hb hm
  · obtain rfl : s = 1048576 := by omega
    have hi : incQ 1048576 = 1048576 := rfl
    cases hb : g.testBit p with
    | true =>
      rw [← fulA_is (.inl hb), hi]
      exact sbeh_1h h hT hn p hp c g hc hg hb
    | false =>
      by_cases hm : (S.ph p).max ≤ 1048576
      · rw [← fulA_is (.inr (by rw [hi]; exact hm)), hi]
        exact sbeh_2h h hT hn p hp c g hc hg hb hm
      · rw [fulQ_stay (.inr (.inr ⟨hb, by rw [hi]; omega⟩)), hi]
        exact sbeh_3h h hT hn p hp c g hc hg hb hm

/-! ### Next -/
/-- What Next tells. -/
def nxE (S : St) (F : Sf) (p s : Int) : Int := if siteB S = false then 50 else if plaB S p s = false then 2 else if F.groups.length = S.groups.length then 0 else 8
def nxS (S : St) (F : Sf) (p s : Int) (c g : Nat) : Sq := if nxE S F p s = 0 then goQ S ⟨p.toNat, s⟩ F c g else ⟨0, 0⟩
def nxL (S : St) (F : Sf) (p s : Int) (c g : Nat) : List Nat := if nxE S F p s = 0 then askV S (nxS S F p s c g).ph else []
theorem plaB_yes {S : St} {p s : Int} (h : plaB S p s = true) : (∃ q : Nat, p = (q : Int) ∧ q < S.phases.length) ∧ 0 ≤ s ∧ s ≤ 1048576 := by
  unfold plaB at h
  simp only [Bool.and_eq_true, decide_eq_true_eq] at h
  exact ⟨phB_yes h.1, h.2⟩
set_option maxRecDepth 100000 in
set_option maxHeartbeats 2000000 in
theorem snext_no {X : Sa} {S : St} {w : World} (h : Sat w X S) (hT : Tabb w) {a : Option Addr} {ca : Nat} {F : Sf} (hF : SafeAt w a ca F) (p s : Int) (c g : Nat) (hc : c < 4294967296) (hg : g < 4294967296) (hs : siteB S = false) : Calls Tryd.prog 9 #[siteV X S, .agg #[.int .i64 p, .int .i64 s], safeV a ca F, .int .u32 (c : Int), .int .u32 (g : Int)] w fun e w' => e = .returned (.tuple #[.agg #[.int .i64 0, .int .i64 0], .slice none 0 0, .int .i64 50]) ∧ Kept w w' none := by
  have hce : checkE S = 50 := by unfold checkE; rw [hs]; rfl
  obtain ⟨WA, hWA⟩ : ∃ WA, ((((w.alloc (.cells #[.int .i64 S.id, .slice X.g S.groups.length X.gc, .slice X.a S.apart.length X.ac, .slice X.b S.between.length X.bc, .slice X.p S.phases.length X.pc, .slice X.e S.eyes.length X.ec, .int .i64 S.watch, .int .i64 S.feed, .int .i64 S.heal, .int .i64 S.low, .int .i64 S.high, .slice X.l S.plans.length X.lc] 37)).alloc (.cells #[.int .i64 p, .int .i64 s] 40)).alloc (.cells #[.slice a F.groups.length ca, .int .i64 F.start, .bool F.flashed] 26)).alloc (.cells #[.int .i64 0, .int .i64 0] 40)) = WA := ⟨_, rfl⟩
  obtain ⟨⟨HSB, HBQ, HBN, HK, HS, HF, HSZ, q0_, q1_, n0_, n1_, n2_, s0_, s1_, s2_, s3_, s4_, s5_, s6_, s7_, s8_, s9_, s10_, s11_⟩, HBZ⟩ := hd3z h hF hWA
  have HT := Hid.mk' (hT.kept HK.out)
  have hK0 := Kept.refl WA none
  clear h hT hF
  go_enter Tryd.func9, Tryd.ntmps9
  go_wp2_with (first | rw [hWA] | (go_at_call 22; have hx := check_any HS.out HT.out; rw [hce] at hx; refine hx.mono ?_; rintro e wC ⟨rfl, hkC⟩; have hKC : Kept WA wC none := hkC; clear hx; have z0 := (HBZ.out.kept hKC).c0; have z1 := (HBZ.out.kept hKC).c1; have u0 := (HBZ.out.kept hKC).f0; have u1 := (HBZ.out.kept hKC).f1))
  refine bodyPost_ret (v := .tuple #[.agg #[.int .i64 0, .int .i64 0], .slice none 0 0, .int .i64 50]) (by simp [results, Tryd.results9, go_sem, z0, z1]) rfl ⟨rfl, ?_⟩
  exact ((HK.out.tr hKC).setNew (p := ⟨w.heap.size + 1 + 1 + 1, 0, none⟩) (by show w.heap.size ≤ w.heap.size + 1 + 1 + 1; omega) _).setNew (p := ⟨w.heap.size + 1 + 1 + 1, 1, none⟩) (by show w.heap.size ≤ w.heap.size + 1 + 1 + 1; omega) _
set_option maxRecDepth 100000 in
set_option maxHeartbeats 2000000 in
theorem snext_arg {X : Sa} {S : St} {w : World} (h : Sat w X S) (hT : Tabb w) {a : Option Addr} {ca : Nat} {F : Sf} (hF : SafeAt w a ca F) (p s : Int) (c g : Nat) (hc : c < 4294967296) (hg : g < 4294967296) (hs : siteB S = true) (hpl : plaB S p s = false) : Calls Tryd.prog 9 #[siteV X S, .agg #[.int .i64 p, .int .i64 s], safeV a ca F, .int .u32 (c : Int), .int .u32 (g : Int)] w fun e w' => e = .returned (.tuple #[.agg #[.int .i64 0, .int .i64 0], .slice none 0 0, .int .i64 2]) ∧ Kept w w' none := by
  have hce : checkE S = 0 := by unfold checkE; rw [hs]; rfl
  obtain ⟨WA, hWA⟩ : ∃ WA, ((((w.alloc (.cells #[.int .i64 S.id, .slice X.g S.groups.length X.gc, .slice X.a S.apart.length X.ac, .slice X.b S.between.length X.bc, .slice X.p S.phases.length X.pc, .slice X.e S.eyes.length X.ec, .int .i64 S.watch, .int .i64 S.feed, .int .i64 S.heal, .int .i64 S.low, .int .i64 S.high, .slice X.l S.plans.length X.lc] 37)).alloc (.cells #[.int .i64 p, .int .i64 s] 40)).alloc (.cells #[.slice a F.groups.length ca, .int .i64 F.start, .bool F.flashed] 26)).alloc (.cells #[.int .i64 0, .int .i64 0] 40)) = WA := ⟨_, rfl⟩
  obtain ⟨⟨HSB, HBQ, HBN, HK, HS, HF, HSZ, q0_, q1_, n0_, n1_, n2_, s0_, s1_, s2_, s3_, s4_, s5_, s6_, s7_, s8_, s9_, s10_, s11_⟩, HBZ⟩ := hd3z h hF hWA
  have HT := Hid.mk' (hT.kept HK.out)
  have hK0 := Kept.refl WA none
  clear h hT hF
  go_enter Tryd.func9, Tryd.ntmps9
  go_wp2_with (first | rw [hWA] | (have hgo := hKC; clear hgo; go_at_call 23; have hx := sisp_any (HSB.out.kept hKC) p s; rw [hpl] at hx; refine hx.mono ?_; rintro e wI ⟨rfl, hkI⟩; have hKI : Kept WA wI none := hKC.tr hkI; clear hx; have z0 := (HBZ.out.kept hKI).c0; have z1 := (HBZ.out.kept hKI).c1; have u0 := (HBZ.out.kept hKI).f0; have u1 := (HBZ.out.kept hKI).f1) | (go_at_call 22; have hx := check_any HS.out HT.out; rw [hce] at hx; refine hx.mono ?_; rintro e wC ⟨rfl, hkC⟩; have hKC : Kept WA wC none := hkC; clear hx; have z0 := (HBZ.out.kept hKC).c0; have z1 := (HBZ.out.kept hKC).c1; have u0 := (HBZ.out.kept hKC).f0; have u1 := (HBZ.out.kept hKC).f1))
  refine bodyPost_ret (v := .tuple #[.agg #[.int .i64 0, .int .i64 0], .slice none 0 0, .int .i64 2]) (by simp [results, Tryd.results9, go_sem, z0, z1]) rfl ⟨rfl, ?_⟩
  exact ((HK.out.tr hKI).setNew (p := ⟨w.heap.size + 1 + 1 + 1, 0, none⟩) (by show w.heap.size ≤ w.heap.size + 1 + 1 + 1; omega) _).setNew (p := ⟨w.heap.size + 1 + 1 + 1, 1, none⟩) (by show w.heap.size ≤ w.heap.size + 1 + 1 + 1; omega) _
set_option maxRecDepth 100000 in
set_option maxHeartbeats 2000000 in
theorem snext_bad {X : Sa} {S : St} {w : World} (h : Sat w X S) (hT : Tabb w) {a : Option Addr} {ca : Nat} {F : Sf} (hF : SafeAt w a ca F) (p s : Int) (c g : Nat) (hc : c < 4294967296) (hg : g < 4294967296) (hs : siteB S = true) (hpl : plaB S p s = true) (hl : F.groups.length ≠ S.groups.length) : Calls Tryd.prog 9 #[siteV X S, .agg #[.int .i64 p, .int .i64 s], safeV a ca F, .int .u32 (c : Int), .int .u32 (g : Int)] w fun e w' => e = .returned (.tuple #[.agg #[.int .i64 0, .int .i64 0], .slice none 0 0, .int .i64 8]) ∧ Kept w w' none := by
  have hce : checkE S = 0 := by unfold checkE; rw [hs]; rfl
  obtain ⟨WA, hWA⟩ : ∃ WA, ((((w.alloc (.cells #[.int .i64 S.id, .slice X.g S.groups.length X.gc, .slice X.a S.apart.length X.ac, .slice X.b S.between.length X.bc, .slice X.p S.phases.length X.pc, .slice X.e S.eyes.length X.ec, .int .i64 S.watch, .int .i64 S.feed, .int .i64 S.heal, .int .i64 S.low, .int .i64 S.high, .slice X.l S.plans.length X.lc] 37)).alloc (.cells #[.int .i64 p, .int .i64 s] 40)).alloc (.cells #[.slice a F.groups.length ca, .int .i64 F.start, .bool F.flashed] 26)).alloc (.cells #[.int .i64 0, .int .i64 0] 40)) = WA := ⟨_, rfl⟩
  obtain ⟨⟨HSB, HBQ, HBN, HK, HS, HF, HSZ, q0_, q1_, n0_, n1_, n2_, s0_, s1_, s2_, s3_, s4_, s5_, s6_, s7_, s8_, s9_, s10_, s11_⟩, HBZ⟩ := hd3z h hF hWA
  have HT := Hid.mk' (hT.kept HK.out)
  have hK0 := Kept.refl WA none
  clear h hT hF
  have HFU : Hid (∀ w', Kept WA w' none → Calls Tryd.prog 17 #[siteV X S, safeV a ca F, .int .i64 p] w' fun e w2 => e = .returned (.tuple #[.bool false, .int .i64 8]) ∧ Kept w' w2 none) := fun w' q => tfull_bad (HS.out.kept q) (HT.out.kept q) (HF.out.kept q) p hs hl
  clear hl
  go_enter Tryd.func9, Tryd.ntmps9
  go_wp2_with (first | rw [hWA] | (have hgo := hKI; clear hgo; go_at_call 17; refine (HFU.out _ hKI).mono ?_; rintro e wF ⟨rfl, hkF⟩; have hKF : Kept WA wF none := hKI.tr hkF; have l3 : w.heap.size + 1 + 1 + 1 < wF.heap.size := Nat.lt_of_lt_of_le HBZ.out.lt hKF.size; have l2 : w.heap.size + 1 + 1 < wF.heap.size := (by omega); have l1 : w.heap.size + 1 < wF.heap.size := (by omega); have l0 : w.heap.size < wF.heap.size := (by omega); have z0 := (HBZ.out.kept hKF).c0; have z1 := (HBZ.out.kept hKF).c1; have u0 := (HBZ.out.kept hKF).f0; have u1 := (HBZ.out.kept hKF).f1) | (have hgo := hKC; clear hgo; go_at_call 23; have hx := sisp_any (HSB.out.kept hKC) p s; rw [hpl] at hx; refine hx.mono ?_; rintro e wI ⟨rfl, hkI⟩; have hKI : Kept WA wI none := hKC.tr hkI; clear hx; have z0 := (HBZ.out.kept hKI).c0; have z1 := (HBZ.out.kept hKI).c1; have u0 := (HBZ.out.kept hKI).f0; have u1 := (HBZ.out.kept hKI).f1) | (go_at_call 22; have hx := check_any HS.out HT.out; rw [hce] at hx; refine hx.mono ?_; rintro e wC ⟨rfl, hkC⟩; have hKC : Kept WA wC none := hkC; clear hx; have z0 := (HBZ.out.kept hKC).c0; have z1 := (HBZ.out.kept hKC).c1; have u0 := (HBZ.out.kept hKC).f0; have u1 := (HBZ.out.kept hKC).f1))
  refine bodyPost_ret (v := .tuple #[.agg #[.int .i64 0, .int .i64 0], .slice none 0 0, .int .i64 8]) (by simp [results, Tryd.results9, go_sem, z0, z1]) rfl ⟨rfl, ?_⟩
  exact ((HK.out.tr hKF).setNew (p := ⟨w.heap.size + 1 + 1 + 1, 0, none⟩) (by show w.heap.size ≤ w.heap.size + 1 + 1 + 1; omega) _).setNew (p := ⟨w.heap.size + 1 + 1 + 1, 1, none⟩) (by show w.heap.size ≤ w.heap.size + 1 + 1 + 1; omega) _
set_option maxRecDepth 100000 in
set_option maxHeartbeats 4000000 in
theorem snext_not {X : Sa} {S : St} {w : World} (h : Sat w X S) (hT : Tabb w) {a : Option Addr} {ca : Nat} {F : Sf} (hF : SafeAt w a ca F) (p : Nat) (s : Int) (c g : Nat) (hc : c < 4294967296) (hg : g < 4294967296) (hs : siteB S = true) (hp : p < S.phases.length) (hs0 : 0 ≤ s) (hs9 : s ≤ 1048576) (hl : F.groups.length = S.groups.length) (hf : fullB S F p = false) : Calls Tryd.prog 9 #[siteV X S, .agg #[.int .i64 (p : Int), .int .i64 s], safeV a ca F, .int .u32 (c : Int), .int .u32 (g : Int)] w fun e w' => ∃ b, e = .returned (.tuple #[.agg #[.int .i64 (p : Int), .int .i64 0], .slice (some ⟨b, 0, none⟩) S.groups.length S.groups.length, .int .i64 0]) ∧ w.heap.size ≤ b ∧ w'.rowIs b 5 S.groups.length (fun i => .int .u8 ((lg (askV S p) i : Nat) : Int)) ∧ Kept w w' none := by
  have hce : checkE S = 0 := by unfold checkE; rw [hs]; rfl
  have hn := (span_may hs).base.sh.ok.np.2
  have hpl : plaB S (p : Int) s = true := by unfold plaB phB; simp; omega
  obtain ⟨WA, hWA⟩ : ∃ WA, ((((w.alloc (.cells #[.int .i64 S.id, .slice X.g S.groups.length X.gc, .slice X.a S.apart.length X.ac, .slice X.b S.between.length X.bc, .slice X.p S.phases.length X.pc, .slice X.e S.eyes.length X.ec, .int .i64 S.watch, .int .i64 S.feed, .int .i64 S.heal, .int .i64 S.low, .int .i64 S.high, .slice X.l S.plans.length X.lc] 37)).alloc (.cells #[.int .i64 (p : Int), .int .i64 s] 40)).alloc (.cells #[.slice a F.groups.length ca, .int .i64 F.start, .bool F.flashed] 26)).alloc (.cells #[.int .i64 0, .int .i64 0] 40)) = WA := ⟨_, rfl⟩
  obtain ⟨⟨HSB, HBQ, HBN, HK, HS, HF, HSZ, q0_, q1_, n0_, n1_, n2_, s0_, s1_, s2_, s3_, s4_, s5_, s6_, s7_, s8_, s9_, s10_, s11_⟩, HBZ⟩ := hd3z h hF hWA
  have HT := Hid.mk' (hT.kept HK.out)
  have hK0 := Kept.refl WA none
  clear h hT hF
  have HFU : Hid (∀ w', Kept WA w' none → Calls Tryd.prog 17 #[siteV X S, safeV a ca F, .int .i64 (p : Int)] w' fun e w2 => e = .returned (.tuple #[.bool false, .int .i64 0]) ∧ Kept w' w2 none) := fun w' q => by
    have hx := tfull_go (HS.out.kept q) (HT.out.kept q) (HF.out.kept q) p hs hl hp
    rw [hf] at hx
    exact hx
  have HSI := Hid.mk' hs
  clear hl hf hs
  go_enter Tryd.func9, Tryd.ntmps9
  go_wp2_with (first | rw [hWA] | (have hgo := hKI; clear hgo; go_at_call 17; refine (HFU.out _ hKI).mono ?_; rintro e wF ⟨rfl, hkF⟩; have hKF : Kept WA wF none := hKI.tr hkF; have l3 : w.heap.size + 1 + 1 + 1 < wF.heap.size := Nat.lt_of_lt_of_le HBZ.out.lt hKF.size; have l2 : w.heap.size + 1 + 1 < wF.heap.size := (by omega); have l1 : w.heap.size + 1 < wF.heap.size := (by omega); have l0 : w.heap.size < wF.heap.size := (by omega); have z0 := (HBZ.out.kept hKF).c0; have z1 := (HBZ.out.kept hKF).c1; have u0 := (HBZ.out.kept hKF).f0; have u1 := (HBZ.out.kept hKF).f1) | (have hgo := hKC; clear hgo; go_at_call 23; have hx := sisp_any (HSB.out.kept hKC) (p : Int) s; rw [hpl] at hx; refine hx.mono ?_; rintro e wI ⟨rfl, hkI⟩; have hKI : Kept WA wI none := hKC.tr hkI; clear hx; have z0 := (HBZ.out.kept hKI).c0; have z1 := (HBZ.out.kept hKI).c1; have u0 := (HBZ.out.kept hKI).f0; have u1 := (HBZ.out.kept hKI).f1) | (go_at_call 22; have hx := check_any HS.out HT.out; rw [hce] at hx; refine hx.mono ?_; rintro e wC ⟨rfl, hkC⟩; have hKC : Kept WA wC none := hkC; clear hx; have z0 := (HBZ.out.kept hKC).c0; have z1 := (HBZ.out.kept hKC).c1; have u0 := (HBZ.out.kept hKC).f0; have u1 := (HBZ.out.kept hKC).f1))
  have k9 : Kept wF (wF.alloc (.cells #[.int .i64 (p : Int), .int .i64 0] 40)) none := Kept.alloc _ _ _ _ _
  have b9 := bx2_alloc wF (.int .i64 (p : Int)) (.int .i64 0) 40
  obtain ⟨W9, hW9⟩ : ∃ W9, wF.alloc (.cells #[.int .i64 (p : Int), .int .i64 0] 40) = W9 := ⟨_, rfl⟩
  rw [hW9] at k9 b9 ⊢
  have hK9 : Kept WA W9 none := hKF.tr k9
  have HB9 := Hid.mk' b9
  have hb9 : w.heap.size ≤ wF.heap.size := (HK.out.tr hKF).size
  clear hW9 k9 b9 z0 z1 u0 u1 hkF hkI hkC hKC hKI HFU
  have x0_ : ∀ w', Kept W9 w' none → w'.cell? ⟨wF.heap.size, 0, none⟩ = some (.int .i64 (p : Int)) := fun w' q => (HB9.out.kept q).c0
  have x1_ : ∀ w', Kept W9 w' none → w'.cell? ⟨wF.heap.size, 1, none⟩ = some (.int .i64 0) := fun w' q => (HB9.out.kept q).c1
  have hR0 := Kept.refl W9 none
  go_wp2_with (go_at_call 25; refine (tasks_go (HS.out.kept hK9) (HT.out.kept hK9) p HSI.out (by first | exact hk' | exact hp)).mono ?_; rintro e wT ⟨bT, rfl, hbT, hrT, hkT⟩; have hKT : Kept WA wT none := hK9.tr hkT; have z0 := (HBZ.out.kept hKT).c0; have z1 := (HBZ.out.kept hKT).c1; have u0 := (HBZ.out.kept hKT).f0; have u1 := (HBZ.out.kept hKT).f1; have HRT := Hid.mk' hrT; clear hrT)
  refine bodyPost_ret (v := .tuple #[.agg #[.int .i64 (p : Int), .int .i64 0], .slice (some ⟨bT, 0, none⟩) S.groups.length S.groups.length, .int .i64 0]) (by simp [results, Tryd.results9, go_sem, z0, z1]) rfl ⟨bT, rfl, Nat.le_trans (HK.out.tr hK9).size hbT, ?_, ?_⟩
  · have hz : w.heap.size + 1 + 1 + 1 < WA.heap.size := HBZ.out.lt
    have hne : bT ≠ w.heap.size + 1 + 1 + 1 := by have := hK9.size; omega
    have kz : Kept wT ((wT.setCell ⟨w.heap.size + 1 + 1 + 1, 0, none⟩ (.int .i64 (p : Int))).setCell ⟨w.heap.size + 1 + 1 + 1, 1, none⟩ (.int .i64 0)) (some (w.heap.size + 1 + 1 + 1)) := ((Kept.refl wT (some (w.heap.size + 1 + 1 + 1))).setRow _ _).setRow _ _
    exact row_kept HRT.out kz (fun e => hne (Option.some.inj e))
  · exact ((HK.out.tr hKT).setNew (p := ⟨w.heap.size + 1 + 1 + 1, 0, none⟩) (by show w.heap.size ≤ w.heap.size + 1 + 1 + 1; omega) _).setNew (p := ⟨w.heap.size + 1 + 1 + 1, 1, none⟩) (by show w.heap.size ≤ w.heap.size + 1 + 1 + 1; omega) _
set_option maxRecDepth 100000 in
set_option maxHeartbeats 4000000 in
theorem snext_ful {X : Sa} {S : St} {w : World} (h : Sat w X S) (hT : Tabb w) {a : Option Addr} {ca : Nat} {F : Sf} (hF : SafeAt w a ca F) (p : Nat) (s : Int) (c g : Nat) (hc : c < 4294967296) (hg : g < 4294967296) (hs : siteB S = true) (hp : p < S.phases.length) (hs0 : 0 ≤ s) (hs9 : s ≤ 1048576) (hl : F.groups.length = S.groups.length) (hf : fullB S F p = true) : Calls Tryd.prog 9 #[siteV X S, .agg #[.int .i64 (p : Int), .int .i64 s], safeV a ca F, .int .u32 (c : Int), .int .u32 (g : Int)] w fun e w' => ∃ b, e = .returned (.tuple #[.agg #[.int .i64 ((fulQ S p s c g).ph : Int), .int .i64 (fulQ S p s c g).since], .slice (some ⟨b, 0, none⟩) S.groups.length S.groups.length, .int .i64 0]) ∧ w.heap.size ≤ b ∧ w'.rowIs b 5 S.groups.length (fun i => .int .u8 ((lg (askV S (fulQ S p s c g).ph) i : Nat) : Int)) ∧ Kept w w' none := by
  have hce : checkE S = 0 := by unfold checkE; rw [hs]; rfl
  have hn := (span_may hs).base.sh.ok.np.2
  have hpl : plaB S (p : Int) s = true := by unfold plaB phB; simp; omega
  obtain ⟨WA, hWA⟩ : ∃ WA, ((((w.alloc (.cells #[.int .i64 S.id, .slice X.g S.groups.length X.gc, .slice X.a S.apart.length X.ac, .slice X.b S.between.length X.bc, .slice X.p S.phases.length X.pc, .slice X.e S.eyes.length X.ec, .int .i64 S.watch, .int .i64 S.feed, .int .i64 S.heal, .int .i64 S.low, .int .i64 S.high, .slice X.l S.plans.length X.lc] 37)).alloc (.cells #[.int .i64 (p : Int), .int .i64 s] 40)).alloc (.cells #[.slice a F.groups.length ca, .int .i64 F.start, .bool F.flashed] 26)).alloc (.cells #[.int .i64 0, .int .i64 0] 40)) = WA := ⟨_, rfl⟩
  obtain ⟨⟨HSB, HBQ, HBN, HK, HS, HF, HSZ, q0_, q1_, n0_, n1_, n2_, s0_, s1_, s2_, s3_, s4_, s5_, s6_, s7_, s8_, s9_, s10_, s11_⟩, HBZ⟩ := hd3z h hF hWA
  have HT := Hid.mk' (hT.kept HK.out)
  have hK0 := Kept.refl WA none
  clear h hT hF
  have HFU : Hid (∀ w', Kept WA w' none → Calls Tryd.prog 17 #[siteV X S, safeV a ca F, .int .i64 (p : Int)] w' fun e w2 => e = .returned (.tuple #[.bool true, .int .i64 0]) ∧ Kept w' w2 none) := fun w' q => by
    have hx := tfull_go (HS.out.kept q) (HT.out.kept q) (HF.out.kept q) p hs hl hp
    rw [hf] at hx
    exact hx
  have HSI := Hid.mk' hs
  have HFB := Hid.mk' hf
  clear hl hf hs
  have hk' : (fulQ S p s c g).ph < S.phases.length := by
    have h1 := fulQ_is (q := ⟨p, s⟩) (c := c) (g := g) (F := F) hp (by omega) HFB.out
    have h2 := goQ_ok (q := ⟨p, s⟩) (c := c) (g := g) (F := F) (S := S) hp hs0 hs9
    rw [h1] at h2
    exact h2.1
  have HBE : Hid (∀ w', Kept WA w' none → Calls Tryd.prog 24 #[.pointer (some ⟨w.heap.size, 0, none⟩), .agg #[.int .i64 (p : Int), .int .i64 s], .int .u32 (c : Int), .int .u32 (g : Int)] w' fun e w2 => e = .returned (.agg #[.int .i64 ((fulQ S p s c g).ph : Int), .int .i64 (fulQ S p s c g).since]) ∧ Kept w' w2 none) := fun w' q => sbeh_any (HSB.out.kept q) (HT.out.kept q) hn p hp s hs0 hs9 c g hc hg
  generalize (fulQ S p s c g) = G at *
  obtain ⟨gp, gs⟩ := G
  dsimp only at hk' HBE ⊢
  go_enter Tryd.func9, Tryd.ntmps9
  go_wp2_with (first | rw [hWA] | (have hgo := hKI; clear hgo; go_at_call 17; refine (HFU.out _ hKI).mono ?_; rintro e wF ⟨rfl, hkF⟩; have hKF : Kept WA wF none := hKI.tr hkF; have l3 : w.heap.size + 1 + 1 + 1 < wF.heap.size := Nat.lt_of_lt_of_le HBZ.out.lt hKF.size; have l2 : w.heap.size + 1 + 1 < wF.heap.size := (by omega); have l1 : w.heap.size + 1 < wF.heap.size := (by omega); have l0 : w.heap.size < wF.heap.size := (by omega); have z0 := (HBZ.out.kept hKF).c0; have z1 := (HBZ.out.kept hKF).c1; have u0 := (HBZ.out.kept hKF).f0; have u1 := (HBZ.out.kept hKF).f1) | (have hgo := hKC; clear hgo; go_at_call 23; have hx := sisp_any (HSB.out.kept hKC) (p : Int) s; rw [hpl] at hx; refine hx.mono ?_; rintro e wI ⟨rfl, hkI⟩; have hKI : Kept WA wI none := hKC.tr hkI; clear hx; have z0 := (HBZ.out.kept hKI).c0; have z1 := (HBZ.out.kept hKI).c1; have u0 := (HBZ.out.kept hKI).f0; have u1 := (HBZ.out.kept hKI).f1) | (go_at_call 22; have hx := check_any HS.out HT.out; rw [hce] at hx; refine hx.mono ?_; rintro e wC ⟨rfl, hkC⟩; have hKC : Kept WA wC none := hkC; clear hx; have z0 := (HBZ.out.kept hKC).c0; have z1 := (HBZ.out.kept hKC).c1; have u0 := (HBZ.out.kept hKC).f0; have u1 := (HBZ.out.kept hKC).f1))
  have k9 : Kept wF (wF.alloc (.cells #[.int .i64 (p : Int), .int .i64 0] 40)) none := Kept.alloc _ _ _ _ _
  have b9 := bx2_alloc wF (.int .i64 (p : Int)) (.int .i64 0) 40
  obtain ⟨W9, hW9⟩ : ∃ W9, wF.alloc (.cells #[.int .i64 (p : Int), .int .i64 0] 40) = W9 := ⟨_, rfl⟩
  rw [hW9] at k9 b9 ⊢
  have hK9 : Kept WA W9 none := hKF.tr k9
  have HB9 := Hid.mk' b9
  have hb9 : w.heap.size ≤ wF.heap.size := (HK.out.tr hKF).size
  clear hW9 k9 b9 z0 z1 u0 u1 hkF hkI hkC hKC hKI HFU
  go_wp2_with (go_at_call 24; refine (HBE.out _ hK9).mono ?_; rintro e wB ⟨rfl, hkB⟩; have hKB : Kept WA wB none := hK9.tr hkB; have BX := HB9.out.kept hkB; have v0 := BX.c0; have v1 := BX.c1; have t0 := BX.f0; have t1 := BX.f1; clear BX)
  have HX := Hid.mk' ((HB9.out.kept hkB).set (.int .i64 (gp : Int)) (.int .i64 gs))
  have kW : Kept WA ((wB.setCell ⟨wF.heap.size, 0, none⟩ (.int .i64 (gp : Int))).setCell ⟨wF.heap.size, 1, none⟩ (.int .i64 gs)) none := (hKB.setNew (p := ⟨wF.heap.size, 0, none⟩) hKF.size _).setNew (p := ⟨wF.heap.size, 1, none⟩) hKF.size _
  obtain ⟨W8, hW8⟩ : ∃ W8, ((wB.setCell ⟨wF.heap.size, 0, none⟩ (.int .i64 (gp : Int))).setCell ⟨wF.heap.size, 1, none⟩ (.int .i64 gs)) = W8 := ⟨_, rfl⟩
  rw [hW8] at HX kW ⊢
  clear hW8 v0 v1 t0 t1 hkB hKB
  have x0_ : ∀ w', Kept W8 w' none → w'.cell? ⟨wF.heap.size, 0, none⟩ = some (.int .i64 (gp : Int)) := fun w' q => (HX.out.kept q).c0
  have x1_ : ∀ w', Kept W8 w' none → w'.cell? ⟨wF.heap.size, 1, none⟩ = some (.int .i64 gs) := fun w' q => (HX.out.kept q).c1
  have hR0 := Kept.refl W8 none
  go_wp2_with (go_at_call 25; refine (tasks_go (HS.out.kept kW) (HT.out.kept kW) gp HSI.out (by first | exact hk' | exact hp)).mono ?_; rintro e wT ⟨bT, rfl, hbT, hrT, hkT⟩; have hKT : Kept WA wT none := kW.tr hkT; have z0 := (HBZ.out.kept hKT).c0; have z1 := (HBZ.out.kept hKT).c1; have u0 := (HBZ.out.kept hKT).f0; have u1 := (HBZ.out.kept hKT).f1; have HRT := Hid.mk' hrT; clear hrT)
  refine bodyPost_ret (v := .tuple #[.agg #[.int .i64 (gp : Int), .int .i64 gs], .slice (some ⟨bT, 0, none⟩) S.groups.length S.groups.length, .int .i64 0]) (by simp [results, Tryd.results9, go_sem, z0, z1]) rfl ⟨bT, rfl, Nat.le_trans (HK.out.tr kW).size hbT, ?_, ?_⟩
  · have hz : w.heap.size + 1 + 1 + 1 < WA.heap.size := HBZ.out.lt
    have hne : bT ≠ w.heap.size + 1 + 1 + 1 := by have := kW.size; omega
    have kz : Kept wT ((wT.setCell ⟨w.heap.size + 1 + 1 + 1, 0, none⟩ (.int .i64 (gp : Int))).setCell ⟨w.heap.size + 1 + 1 + 1, 1, none⟩ (.int .i64 gs)) (some (w.heap.size + 1 + 1 + 1)) := ((Kept.refl wT (some (w.heap.size + 1 + 1 + 1))).setRow _ _).setRow _ _
    exact row_kept HRT.out kz (fun e => hne (Option.some.inj e))
  · exact ((HK.out.tr hKT).setNew (p := ⟨w.heap.size + 1 + 1 + 1, 0, none⟩) (by show w.heap.size ≤ w.heap.size + 1 + 1 + 1; omega) _).setNew (p := ⟨w.heap.size + 1 + 1 + 1, 1, none⟩) (by show w.heap.size ≤ w.heap.size + 1 + 1 + 1; omega) _
theorem snext_go {X : Sa} {S : St} {w : World} (h : Sat w X S) (hT : Tabb w) {a : Option Addr} {ca : Nat} {F : Sf} (hF : SafeAt w a ca F) (p : Nat) (s : Int) (c g : Nat) (hc : c < 4294967296) (hg : g < 4294967296) (hs : siteB S = true) (hp : p < S.phases.length) (hs0 : 0 ≤ s) (hs9 : s ≤ 1048576) (hl : F.groups.length = S.groups.length) (G : Sq) (hG : goQ S ⟨p, s⟩ F c g = G) : Calls Tryd.prog 9 #[siteV X S, .agg #[.int .i64 (p : Int), .int .i64 s], safeV a ca F, .int .u32 (c : Int), .int .u32 (g : Int)] w fun e w' => ∃ b, e = .returned (.tuple #[.agg #[.int .i64 (G.ph : Int), .int .i64 G.since], .slice (some ⟨b, 0, none⟩) S.groups.length S.groups.length, .int .i64 0]) ∧ w.heap.size ≤ b ∧ w'.rowIs b 5 S.groups.length (fun i => .int .u8 ((lg (askV S G.ph) i : Nat) : Int)) ∧ Kept w w' none := by
  cases hf : fullB S F p with
  | false =>
    have e := goQ_not (q := ⟨p, s⟩) (c := c) (g := g) hf
    rw [e] at hG
    subst hG
    exact snext_not h hT hF p s c g hc hg hs hp hs0 hs9 hl hf
  | true =>
    have e := fulQ_is (q := ⟨p, s⟩) (c := c) (g := g) hp (by have := (span_may hs).base.sh.ok.np.2; omega) hf
    rw [e] at hG
    subst hG
    exact snext_ful h hT hF p s c g hc hg hs hp hs0 hs9 hl hf
theorem snext_any {X : Sa} {S : St} {w : World} (h : Sat w X S) (hT : Tabb w) {a : Option Addr} {ca : Nat} {F : Sf} (hF : SafeAt w a ca F) (p s : Int) (c g : Nat) (hc : c < 4294967296) (hg : g < 4294967296) : Calls Tryd.prog 9 #[siteV X S, .agg #[.int .i64 p, .int .i64 s], safeV a ca F, .int .u32 (c : Int), .int .u32 (g : Int)] w fun e w' => ∃ al cl, e = .returned (.tuple #[.agg #[.int .i64 ((nxS S F p s c g).ph : Int), .int .i64 (nxS S F p s c g).since], .slice al (nxL S F p s c g).length cl, .int .i64 (nxE S F p s)]) ∧ By w' al (nxL S F p s c g).length (nxL S F p s c g) ∧ Kept w w' none := by
  have zro : ∀ E : Int, nxE S F p s = E → E ≠ 0 → nxS S F p s c g = ⟨0, 0⟩ ∧ nxL S F p s c g = [] := fun E e h0 => by
    unfold nxL nxS
    rw [e, if_neg h0, if_neg h0]
    exact ⟨rfl, rfl⟩
  cases hs : siteB S with
  | false =>
    have e1 : nxE S F p s = 50 := by unfold nxE; rw [hs]; rfl
    obtain ⟨e2, e3⟩ := zro _ e1 (by decide)
    rw [e1, e2, e3]
    refine (snext_no h hT hF p s c g hc hg hs).mono ?_
    rintro e w' ⟨rfl, hk⟩
    exact ⟨none, 0, rfl, By.nil _ _, hk⟩
  | true =>
    cases hpl : plaB S p s with
    | false =>
      have e1 : nxE S F p s = 2 := by unfold nxE; rw [hs, hpl]; rfl
      obtain ⟨e2, e3⟩ := zro _ e1 (by decide)
      rw [e1, e2, e3]
      refine (snext_arg h hT hF p s c g hc hg hs hpl).mono ?_
      rintro e w' ⟨rfl, hk⟩
      exact ⟨none, 0, rfl, By.nil _ _, hk⟩
    | true =>
      by_cases hl : F.groups.length = S.groups.length
      · have e1 : nxE S F p s = 0 := by unfold nxE; rw [hs, hpl, if_neg (by decide), if_neg (by decide), if_pos hl]
        obtain ⟨⟨q, rfl, hq⟩, h0, h9⟩ := plaB_yes hpl
        have e2 : nxS S F (q : Int) s c g = goQ S ⟨q, s⟩ F c g := by unfold nxS; rw [if_pos e1]; rfl
        have e3 : nxL S F (q : Int) s c g = askV S (goQ S ⟨q, s⟩ F c g).ph := by unfold nxL; rw [if_pos e1, e2]
        have hng := (span_may hs).base.sh.ok.ng
        rw [e1, e2, e3, askV_len]
        refine (snext_go h hT hF q s c g hc hg hs hq h0 h9 hl _ rfl).mono ?_
        rintro e w' ⟨b, rfl, hb, hr, hk⟩
        exact ⟨some ⟨b, 0, none⟩, _, rfl, By.row hr (askV S _) S.groups.length (Nat.le_refl _) (askV_len S _) (by omega) (askV_lt S _) (fun i hi => rfl), hk⟩
      · have e1 : nxE S F p s = 8 := by unfold nxE; rw [hs, hpl, if_neg (by decide), if_neg (by decide), if_neg hl]
        obtain ⟨e2, e3⟩ := zro _ e1 (by decide)
        rw [e1, e2, e3]
        refine (snext_bad h hT hF p s c g hc hg hs hpl hl).mono ?_
        rintro e w' ⟨rfl, hk⟩
        exact ⟨none, 0, rfl, By.nil _ _, hk⟩

end Go.Proofs.YtkgimccffggfdaaDoor
