/-
  Texts joined: some of those that the proofs of this seat stand on.
-/
import Derived.Test.YtkgimccffggfdaaDoorRefQ
import Derived.Test.YtkgimccffggfdaaDoorSeqDJ
import Derived.Test.YtkgimccffggfdaaDoorTurWJ
import Derived.Test.YtkgimccffggfdaaDoorRefK2
import Derived.Deep.RegionHeld
/-
  THE DOCUMENT'S Next and Bound of layer 16 (made by a program).
-/
namespace Go.Proofs.YtkgimccffggfdaaDoor
open Go.RowKit Go.Lib Go.Deep
set_option linter.unusedVariables false
set_option linter.unusedSimpArgs false

theorem By.keptZ {w w' : World} {a : Option Addr} {len : Nat} {L : List Nat} {r : Option Nat} (h : By w a len L) (k : Kept w w' r) (hr : ∀ b, a = some b → some b.block ≠ r) : By w' a len L := by
  obtain ⟨h1, h2, h3, h4⟩ := h
  refine ⟨h1, h2, h3, fun hp => ?_⟩
  obtain ⟨b, off, rfl, hb, hc⟩ := h4 hp
  exact ⟨b, off, rfl, Nat.lt_of_lt_of_le hb k.size, fun i hi => (World.cell?_of_block (w := w) (a := ⟨b, off + i, none⟩) (k.block b hb (hr _ rfl))).trans (hc i hi)⟩
theorem rgo16_any {X : Sa} {S : St} {w : World} (h : Sat w X S) {a : Option Addr} {ca : Nat} {F : Sf} (hF : SafeAt w a ca F) (p : Nat) (hp : p < S.phases.length) (hs : siteB S = true) (hl : F.groups.length = S.groups.length) (c g : Nat) (hc : c < 4294967296) (hg : g < 4294967296) (s : Int) (hs0 : 0 ≤ s) (hs9 : s ≤ 1048576) : Calls Tryd.prog 27 #[siteV X S, .agg #[.int .i64 (p : Int), .int .i64 s], .agg #[.slice a S.groups.length ca, .int .i64 F.start, .bool F.flashed], .int .u32 (c : Int), .int .u32 (g : Int)] w fun e w' => e = .returned (.agg #[.int .i64 ((goQ S ⟨p, s⟩ F c g).ph : Int), .int .i64 (goQ S ⟨p, s⟩ F c g).since]) ∧ Kept w w' none := by
  cases hf : fullB S F p with
  | false =>
    have e := goQ_not (q := ⟨p, s⟩) (c := c) (g := g) hf
    rw [e]
    exact rgo16_not h hF p hp hs hl c g hc hg s hf
  | true =>
    by_cases hq : s < 1048576
    · have hi : incQ s = s + 1 := by unfold incQ; rw [if_pos hq]
      by_cases h1 : s + 1 < (S.ph p).min
      · have e := goQ_stay (q := ⟨p, s⟩) (c := c) (g := g) hf (.inl (by show incQ s < _; rw [hi]; exact h1))
        rw [e]
        show Calls _ _ _ _ fun e w' => e = .returned (.agg #[.int .i64 (p : Int), .int .i64 (incQ s)]) ∧ Kept w w' none
        rw [hi]
        exact rgo16_al h hF p hp hs hl c g hc hg s hs0 hq hf h1
      · cases hgb : g.testBit p with
        | true =>
          have h2 : ¬ (incQ s < (S.ph p).min ∨ (g.testBit p = false ∧ incQ s < (S.ph p).max)) := by rw [hi, hgb]; rintro (e | ⟨e, _⟩); exact h1 e; cases e
          exact rgo16_cl h hF p hp hs hl c g hc hg s hs0 hq hf h1 hgb _ (fun j hj => goQ_some (q := ⟨p, s⟩) hf h2 hj) (fun hj => by have e := goQ_none (q := ⟨p, s⟩) hf h2 hj; rw [e, hi])
        | false =>
          by_cases h3 : s + 1 < (S.ph p).max
          · have e := goQ_stay (q := ⟨p, s⟩) (c := c) (g := g) hf (.inr ⟨hgb, by show incQ s < _; rw [hi]; exact h3⟩)
            rw [e]
            show Calls _ _ _ _ fun e w' => e = .returned (.agg #[.int .i64 (p : Int), .int .i64 (incQ s)]) ∧ Kept w w' none
            rw [hi]
            exact rgo16_bl h hF p hp hs hl c g hc hg s hs0 hq hf h1 hgb h3
          · have h2 : ¬ (incQ s < (S.ph p).min ∨ (g.testBit p = false ∧ incQ s < (S.ph p).max)) := by rw [hi]; rintro (e | ⟨_, e⟩); exact h1 e; exact h3 e
            exact rgo16_dl h hF p hp hs hl c g hc hg s hs0 hq hf h1 hgb h3 _ (fun j hj => goQ_some (q := ⟨p, s⟩) hf h2 hj) (fun hj => by have e := goQ_none (q := ⟨p, s⟩) hf h2 hj; rw [e, hi])
    · obtain rfl : s = 1048576 := by omega
      have hi : incQ 1048576 = 1048576 := rfl
      by_cases h1 : 1048576 < (S.ph p).min
      · have e := goQ_stay (q := ⟨p, 1048576⟩) (c := c) (g := g) hf (.inl (by show incQ 1048576 < _; rw [hi]; exact h1))
        rw [e]
        show Calls _ _ _ _ fun e w' => e = .returned (.agg #[.int .i64 (p : Int), .int .i64 (incQ 1048576)]) ∧ Kept w w' none
        rw [hi]
        exact rgo16_ah h hF p hp hs hl c g hc hg hf h1
      · cases hgb : g.testBit p with
        | true =>
          have h2 : ¬ (incQ 1048576 < (S.ph p).min ∨ (g.testBit p = false ∧ incQ 1048576 < (S.ph p).max)) := by rw [hi, hgb]; rintro (e | ⟨e, _⟩); exact h1 e; cases e
          exact rgo16_ch h hF p hp hs hl c g hc hg hf h1 hgb _ (fun j hj => goQ_some (q := ⟨p, 1048576⟩) hf h2 hj) (fun hj => by have e := goQ_none (q := ⟨p, 1048576⟩) hf h2 hj; rw [e, hi])
        | false =>
          by_cases h3 : 1048576 < (S.ph p).max
          · have e := goQ_stay (q := ⟨p, 1048576⟩) (c := c) (g := g) hf (.inr ⟨hgb, by show incQ 1048576 < _; rw [hi]; exact h3⟩)
            rw [e]
            show Calls _ _ _ _ fun e w' => e = .returned (.agg #[.int .i64 (p : Int), .int .i64 (incQ 1048576)]) ∧ Kept w w' none
            rw [hi]
            exact rgo16_bh h hF p hp hs hl c g hc hg hf h1 hgb h3
          · have h2 : ¬ (incQ 1048576 < (S.ph p).min ∨ (g.testBit p = false ∧ incQ 1048576 < (S.ph p).max)) := by rw [hi]; rintro (e | ⟨_, e⟩); exact h1 e; exact h3 e
            exact rgo16_dh h hF p hp hs hl c g hc hg hf h1 hgb h3 _ (fun j hj => goQ_some (q := ⟨p, 1048576⟩) hf h2 hj) (fun hj => by have e := goQ_none (q := ⟨p, 1048576⟩) hf h2 hj; rw [e, hi])
set_option maxRecDepth 100000 in
set_option maxHeartbeats 2000000 in
theorem rnx16_no {X : Sa} {S : St} {w : World} (h : Sat w X S) {a : Option Addr} {ca : Nat} {F : Sf} (hF : SafeAt w a ca F) (p s : Int) (c g : Nat) (hc : c < 4294967296) (hg : g < 4294967296) (hs : siteB S = false) : Calls Tryd.prog 13 #[siteV X S, .agg #[.int .i64 p, .int .i64 s], safeV a ca F, .int .u32 (c : Int), .int .u32 (g : Int)] w fun e w' => e = .returned (.tuple #[.agg #[.int .i64 0, .int .i64 0], .slice none 0 0, .int .i64 50]) ∧ Kept w w' none := by
  have hce : checkE S = 50 := by unfold checkE; rw [hs]; rfl
  obtain ⟨WA, hWA⟩ : ∃ WA, ((((w.alloc (.cells #[.int .i64 S.id, .slice X.g S.groups.length X.gc, .slice X.a S.apart.length X.ac, .slice X.b S.between.length X.bc, .slice X.p S.phases.length X.pc, .slice X.e S.eyes.length X.ec, .int .i64 S.watch, .int .i64 S.feed, .int .i64 S.heal, .int .i64 S.low, .int .i64 S.high, .slice X.l S.plans.length X.lc] 37)).alloc (.cells #[.int .i64 p, .int .i64 s] 40)).alloc (.cells #[.slice a F.groups.length ca, .int .i64 F.start, .bool F.flashed] 26)).alloc (.cells #[.int .i64 0, .int .i64 0] 40)) = WA := ⟨_, rfl⟩
  obtain ⟨⟨HSB, HBQ, HBN, HK, HS, HF, HSZ, q0_, q1_, n0_, n1_, n2_, s0_, s1_, s2_, s3_, s4_, s5_, s6_, s7_, s8_, s9_, s10_, s11_⟩, HBZ⟩ := hd3z h hF hWA
  have hK0 := Kept.refl WA none
  clear h hF
  go_enter Tryd.func13, Tryd.ntmps13
  go_wp2_with (first | rw [hWA] | (go_at_call 26; have hx := rcheck_any HS.out; rw [hce] at hx; refine hx.mono ?_; rintro e wC ⟨rfl, hkC⟩; have hKC : Kept WA wC none := hkC; clear hx; have z0 := (HBZ.out.kept hKC).c0; have z1 := (HBZ.out.kept hKC).c1; have u0 := (HBZ.out.kept hKC).f0; have u1 := (HBZ.out.kept hKC).f1; have l3 : w.heap.size + 1 + 1 + 1 < wC.heap.size := Nat.lt_of_lt_of_le HBZ.out.lt hKC.size))
  refine bodyPost_ret (v := .tuple #[.agg #[.int .i64 0, .int .i64 0], .slice none 0 0, .int .i64 50]) (by simp [results, Tryd.results13, go_sem, z0, z1]) rfl ⟨rfl, ?_⟩
  exact ((HK.out.tr hKC).setNew (p := ⟨w.heap.size + 1 + 1 + 1, 0, none⟩) (by show w.heap.size ≤ w.heap.size + 1 + 1 + 1; omega) _).setNew (p := ⟨w.heap.size + 1 + 1 + 1, 1, none⟩) (by show w.heap.size ≤ w.heap.size + 1 + 1 + 1; omega) _
set_option maxRecDepth 100000 in
set_option maxHeartbeats 2000000 in
theorem rnx16_a0 {X : Sa} {S : St} {w : World} (h : Sat w X S) {a : Option Addr} {ca : Nat} {F : Sf} (hF : SafeAt w a ca F) (p s : Int) (c g : Nat) (hc : c < 4294967296) (hg : g < 4294967296) (hs : siteB S = true) (h0 : p < 0) : Calls Tryd.prog 13 #[siteV X S, .agg #[.int .i64 p, .int .i64 s], safeV a ca F, .int .u32 (c : Int), .int .u32 (g : Int)] w fun e w' => e = .returned (.tuple #[.agg #[.int .i64 0, .int .i64 0], .slice none 0 0, .int .i64 2]) ∧ Kept w w' none := by
  have hce : checkE S = 0 := by unfold checkE; rw [hs]; rfl
  have t0 : decide (p < 0) = true := decide_eq_true (by omega)
  clear h0
  obtain ⟨WA, hWA⟩ : ∃ WA, ((((w.alloc (.cells #[.int .i64 S.id, .slice X.g S.groups.length X.gc, .slice X.a S.apart.length X.ac, .slice X.b S.between.length X.bc, .slice X.p S.phases.length X.pc, .slice X.e S.eyes.length X.ec, .int .i64 S.watch, .int .i64 S.feed, .int .i64 S.heal, .int .i64 S.low, .int .i64 S.high, .slice X.l S.plans.length X.lc] 37)).alloc (.cells #[.int .i64 p, .int .i64 s] 40)).alloc (.cells #[.slice a F.groups.length ca, .int .i64 F.start, .bool F.flashed] 26)).alloc (.cells #[.int .i64 0, .int .i64 0] 40)) = WA := ⟨_, rfl⟩
  obtain ⟨⟨HSB, HBQ, HBN, HK, HS, HF, HSZ, q0_, q1_, n0_, n1_, n2_, s0_, s1_, s2_, s3_, s4_, s5_, s6_, s7_, s8_, s9_, s10_, s11_⟩, HBZ⟩ := hd3z h hF hWA
  have hK0 := Kept.refl WA none
  clear h hF
  go_enter Tryd.func13, Tryd.ntmps13
  go_wp2_with (first | rw [hWA] | (go_at_call 26; have hx := rcheck_any HS.out; rw [hce] at hx; refine hx.mono ?_; rintro e wC ⟨rfl, hkC⟩; have hKC : Kept WA wC none := hkC; clear hx; have z0 := (HBZ.out.kept hKC).c0; have z1 := (HBZ.out.kept hKC).c1; have u0 := (HBZ.out.kept hKC).f0; have u1 := (HBZ.out.kept hKC).f1; have l3 : w.heap.size + 1 + 1 + 1 < wC.heap.size := Nat.lt_of_lt_of_le HBZ.out.lt hKC.size))
  refine bodyPost_ret (v := .tuple #[.agg #[.int .i64 0, .int .i64 0], .slice none 0 0, .int .i64 2]) (by simp [results, Tryd.results13, go_sem, z0, z1]) rfl ⟨rfl, ?_⟩
  exact ((HK.out.tr hKC).setNew (p := ⟨w.heap.size + 1 + 1 + 1, 0, none⟩) (by show w.heap.size ≤ w.heap.size + 1 + 1 + 1; omega) _).setNew (p := ⟨w.heap.size + 1 + 1 + 1, 1, none⟩) (by show w.heap.size ≤ w.heap.size + 1 + 1 + 1; omega) _
set_option maxRecDepth 100000 in
set_option maxHeartbeats 2000000 in
theorem rnx16_a1 {X : Sa} {S : St} {w : World} (h : Sat w X S) {a : Option Addr} {ca : Nat} {F : Sf} (hF : SafeAt w a ca F) (p s : Int) (c g : Nat) (hc : c < 4294967296) (hg : g < 4294967296) (hs : siteB S = true) (h0 : ¬ p < 0) (h1 : (S.phases.length : Int) ≤ p) : Calls Tryd.prog 13 #[siteV X S, .agg #[.int .i64 p, .int .i64 s], safeV a ca F, .int .u32 (c : Int), .int .u32 (g : Int)] w fun e w' => e = .returned (.tuple #[.agg #[.int .i64 0, .int .i64 0], .slice none 0 0, .int .i64 2]) ∧ Kept w w' none := by
  have hce : checkE S = 0 := by unfold checkE; rw [hs]; rfl
  have t0 : decide (p < 0) = false := decide_eq_false (by omega)
  have t1 : decide ((S.phases.length : Int) ≤ p) = true := decide_eq_true (by omega)
  clear h0 h1
  obtain ⟨WA, hWA⟩ : ∃ WA, ((((w.alloc (.cells #[.int .i64 S.id, .slice X.g S.groups.length X.gc, .slice X.a S.apart.length X.ac, .slice X.b S.between.length X.bc, .slice X.p S.phases.length X.pc, .slice X.e S.eyes.length X.ec, .int .i64 S.watch, .int .i64 S.feed, .int .i64 S.heal, .int .i64 S.low, .int .i64 S.high, .slice X.l S.plans.length X.lc] 37)).alloc (.cells #[.int .i64 p, .int .i64 s] 40)).alloc (.cells #[.slice a F.groups.length ca, .int .i64 F.start, .bool F.flashed] 26)).alloc (.cells #[.int .i64 0, .int .i64 0] 40)) = WA := ⟨_, rfl⟩
  obtain ⟨⟨HSB, HBQ, HBN, HK, HS, HF, HSZ, q0_, q1_, n0_, n1_, n2_, s0_, s1_, s2_, s3_, s4_, s5_, s6_, s7_, s8_, s9_, s10_, s11_⟩, HBZ⟩ := hd3z h hF hWA
  have hK0 := Kept.refl WA none
  clear h hF
  go_enter Tryd.func13, Tryd.ntmps13
  go_wp2_with (first | rw [hWA] | (go_at_call 26; have hx := rcheck_any HS.out; rw [hce] at hx; refine hx.mono ?_; rintro e wC ⟨rfl, hkC⟩; have hKC : Kept WA wC none := hkC; clear hx; have z0 := (HBZ.out.kept hKC).c0; have z1 := (HBZ.out.kept hKC).c1; have u0 := (HBZ.out.kept hKC).f0; have u1 := (HBZ.out.kept hKC).f1; have l3 : w.heap.size + 1 + 1 + 1 < wC.heap.size := Nat.lt_of_lt_of_le HBZ.out.lt hKC.size))
  refine bodyPost_ret (v := .tuple #[.agg #[.int .i64 0, .int .i64 0], .slice none 0 0, .int .i64 2]) (by simp [results, Tryd.results13, go_sem, z0, z1]) rfl ⟨rfl, ?_⟩
  exact ((HK.out.tr hKC).setNew (p := ⟨w.heap.size + 1 + 1 + 1, 0, none⟩) (by show w.heap.size ≤ w.heap.size + 1 + 1 + 1; omega) _).setNew (p := ⟨w.heap.size + 1 + 1 + 1, 1, none⟩) (by show w.heap.size ≤ w.heap.size + 1 + 1 + 1; omega) _
set_option maxRecDepth 100000 in
set_option maxHeartbeats 2000000 in
theorem rnx16_a2 {X : Sa} {S : St} {w : World} (h : Sat w X S) {a : Option Addr} {ca : Nat} {F : Sf} (hF : SafeAt w a ca F) (p s : Int) (c g : Nat) (hc : c < 4294967296) (hg : g < 4294967296) (hs : siteB S = true) (h0 : ¬ p < 0) (h1 : ¬ (S.phases.length : Int) ≤ p) (h2 : s < 0) : Calls Tryd.prog 13 #[siteV X S, .agg #[.int .i64 p, .int .i64 s], safeV a ca F, .int .u32 (c : Int), .int .u32 (g : Int)] w fun e w' => e = .returned (.tuple #[.agg #[.int .i64 0, .int .i64 0], .slice none 0 0, .int .i64 2]) ∧ Kept w w' none := by
  have hce : checkE S = 0 := by unfold checkE; rw [hs]; rfl
  have t0 : decide (p < 0) = false := decide_eq_false (by omega)
  have t1 : decide ((S.phases.length : Int) ≤ p) = false := decide_eq_false (by omega)
  have t2 : decide (s < 0) = true := decide_eq_true (by omega)
  clear h0 h1 h2
  obtain ⟨WA, hWA⟩ : ∃ WA, ((((w.alloc (.cells #[.int .i64 S.id, .slice X.g S.groups.length X.gc, .slice X.a S.apart.length X.ac, .slice X.b S.between.length X.bc, .slice X.p S.phases.length X.pc, .slice X.e S.eyes.length X.ec, .int .i64 S.watch, .int .i64 S.feed, .int .i64 S.heal, .int .i64 S.low, .int .i64 S.high, .slice X.l S.plans.length X.lc] 37)).alloc (.cells #[.int .i64 p, .int .i64 s] 40)).alloc (.cells #[.slice a F.groups.length ca, .int .i64 F.start, .bool F.flashed] 26)).alloc (.cells #[.int .i64 0, .int .i64 0] 40)) = WA := ⟨_, rfl⟩
  obtain ⟨⟨HSB, HBQ, HBN, HK, HS, HF, HSZ, q0_, q1_, n0_, n1_, n2_, s0_, s1_, s2_, s3_, s4_, s5_, s6_, s7_, s8_, s9_, s10_, s11_⟩, HBZ⟩ := hd3z h hF hWA
  have hK0 := Kept.refl WA none
  clear h hF
  go_enter Tryd.func13, Tryd.ntmps13
  go_wp2_with (first | rw [hWA] | (go_at_call 26; have hx := rcheck_any HS.out; rw [hce] at hx; refine hx.mono ?_; rintro e wC ⟨rfl, hkC⟩; have hKC : Kept WA wC none := hkC; clear hx; have z0 := (HBZ.out.kept hKC).c0; have z1 := (HBZ.out.kept hKC).c1; have u0 := (HBZ.out.kept hKC).f0; have u1 := (HBZ.out.kept hKC).f1; have l3 : w.heap.size + 1 + 1 + 1 < wC.heap.size := Nat.lt_of_lt_of_le HBZ.out.lt hKC.size))
  refine bodyPost_ret (v := .tuple #[.agg #[.int .i64 0, .int .i64 0], .slice none 0 0, .int .i64 2]) (by simp [results, Tryd.results13, go_sem, z0, z1]) rfl ⟨rfl, ?_⟩
  exact ((HK.out.tr hKC).setNew (p := ⟨w.heap.size + 1 + 1 + 1, 0, none⟩) (by show w.heap.size ≤ w.heap.size + 1 + 1 + 1; omega) _).setNew (p := ⟨w.heap.size + 1 + 1 + 1, 1, none⟩) (by show w.heap.size ≤ w.heap.size + 1 + 1 + 1; omega) _
set_option maxRecDepth 100000 in
set_option maxHeartbeats 2000000 in
theorem rnx16_a3 {X : Sa} {S : St} {w : World} (h : Sat w X S) {a : Option Addr} {ca : Nat} {F : Sf} (hF : SafeAt w a ca F) (p s : Int) (c g : Nat) (hc : c < 4294967296) (hg : g < 4294967296) (hs : siteB S = true) (h0 : ¬ p < 0) (h1 : ¬ (S.phases.length : Int) ≤ p) (h2 : ¬ s < 0) (h3 : (1048576 : Int) < s) : Calls Tryd.prog 13 #[siteV X S, .agg #[.int .i64 p, .int .i64 s], safeV a ca F, .int .u32 (c : Int), .int .u32 (g : Int)] w fun e w' => e = .returned (.tuple #[.agg #[.int .i64 0, .int .i64 0], .slice none 0 0, .int .i64 2]) ∧ Kept w w' none := by
  have hce : checkE S = 0 := by unfold checkE; rw [hs]; rfl
  have t0 : decide (p < 0) = false := decide_eq_false (by omega)
  have t1 : decide ((S.phases.length : Int) ≤ p) = false := decide_eq_false (by omega)
  have t2 : decide (s < 0) = false := decide_eq_false (by omega)
  have t3 : decide ((1048576 : Int) < s) = true := decide_eq_true (by omega)
  clear h0 h1 h2 h3
  obtain ⟨WA, hWA⟩ : ∃ WA, ((((w.alloc (.cells #[.int .i64 S.id, .slice X.g S.groups.length X.gc, .slice X.a S.apart.length X.ac, .slice X.b S.between.length X.bc, .slice X.p S.phases.length X.pc, .slice X.e S.eyes.length X.ec, .int .i64 S.watch, .int .i64 S.feed, .int .i64 S.heal, .int .i64 S.low, .int .i64 S.high, .slice X.l S.plans.length X.lc] 37)).alloc (.cells #[.int .i64 p, .int .i64 s] 40)).alloc (.cells #[.slice a F.groups.length ca, .int .i64 F.start, .bool F.flashed] 26)).alloc (.cells #[.int .i64 0, .int .i64 0] 40)) = WA := ⟨_, rfl⟩
  obtain ⟨⟨HSB, HBQ, HBN, HK, HS, HF, HSZ, q0_, q1_, n0_, n1_, n2_, s0_, s1_, s2_, s3_, s4_, s5_, s6_, s7_, s8_, s9_, s10_, s11_⟩, HBZ⟩ := hd3z h hF hWA
  have hK0 := Kept.refl WA none
  clear h hF
  go_enter Tryd.func13, Tryd.ntmps13
  go_wp2_with (first | rw [hWA] | (go_at_call 26; have hx := rcheck_any HS.out; rw [hce] at hx; refine hx.mono ?_; rintro e wC ⟨rfl, hkC⟩; have hKC : Kept WA wC none := hkC; clear hx; have z0 := (HBZ.out.kept hKC).c0; have z1 := (HBZ.out.kept hKC).c1; have u0 := (HBZ.out.kept hKC).f0; have u1 := (HBZ.out.kept hKC).f1; have l3 : w.heap.size + 1 + 1 + 1 < wC.heap.size := Nat.lt_of_lt_of_le HBZ.out.lt hKC.size))
  refine bodyPost_ret (v := .tuple #[.agg #[.int .i64 0, .int .i64 0], .slice none 0 0, .int .i64 2]) (by simp [results, Tryd.results13, go_sem, z0, z1]) rfl ⟨rfl, ?_⟩
  exact ((HK.out.tr hKC).setNew (p := ⟨w.heap.size + 1 + 1 + 1, 0, none⟩) (by show w.heap.size ≤ w.heap.size + 1 + 1 + 1; omega) _).setNew (p := ⟨w.heap.size + 1 + 1 + 1, 1, none⟩) (by show w.heap.size ≤ w.heap.size + 1 + 1 + 1; omega) _
set_option maxRecDepth 100000 in
set_option maxHeartbeats 2000000 in
theorem rnx16_bad {X : Sa} {S : St} {w : World} (h : Sat w X S) {a : Option Addr} {ca : Nat} {F : Sf} (hF : SafeAt w a ca F) (p s : Int) (c g : Nat) (hc : c < 4294967296) (hg : g < 4294967296) (hs : siteB S = true) (h0 : ¬ p < 0) (h1 : ¬ (S.phases.length : Int) ≤ p) (h2 : ¬ s < 0) (h3 : ¬ (1048576 : Int) < s) (hl : F.groups.length ≠ S.groups.length) : Calls Tryd.prog 13 #[siteV X S, .agg #[.int .i64 p, .int .i64 s], safeV a ca F, .int .u32 (c : Int), .int .u32 (g : Int)] w fun e w' => e = .returned (.tuple #[.agg #[.int .i64 0, .int .i64 0], .slice none 0 0, .int .i64 8]) ∧ Kept w w' none := by
  have hce : checkE S = 0 := by unfold checkE; rw [hs]; rfl
  have t0 : decide (p < 0) = false := decide_eq_false (by omega)
  have t1 : decide ((S.phases.length : Int) ≤ p) = false := decide_eq_false (by omega)
  have t2 : decide (s < 0) = false := decide_eq_false (by omega)
  have t3 : decide ((1048576 : Int) < s) = false := decide_eq_false (by omega)
  have hlb : ((F.groups.length : Int) != (S.groups.length : Int)) = true := by simp; omega
  clear h0 h1 h2 h3 hl
  obtain ⟨WA, hWA⟩ : ∃ WA, ((((w.alloc (.cells #[.int .i64 S.id, .slice X.g S.groups.length X.gc, .slice X.a S.apart.length X.ac, .slice X.b S.between.length X.bc, .slice X.p S.phases.length X.pc, .slice X.e S.eyes.length X.ec, .int .i64 S.watch, .int .i64 S.feed, .int .i64 S.heal, .int .i64 S.low, .int .i64 S.high, .slice X.l S.plans.length X.lc] 37)).alloc (.cells #[.int .i64 p, .int .i64 s] 40)).alloc (.cells #[.slice a F.groups.length ca, .int .i64 F.start, .bool F.flashed] 26)).alloc (.cells #[.int .i64 0, .int .i64 0] 40)) = WA := ⟨_, rfl⟩
  obtain ⟨⟨HSB, HBQ, HBN, HK, HS, HF, HSZ, q0_, q1_, n0_, n1_, n2_, s0_, s1_, s2_, s3_, s4_, s5_, s6_, s7_, s8_, s9_, s10_, s11_⟩, HBZ⟩ := hd3z h hF hWA
  have hK0 := Kept.refl WA none
  clear h hF
  go_enter Tryd.func13, Tryd.ntmps13
  go_wp2_with (first | rw [hWA] | (go_at_call 26; have hx := rcheck_any HS.out; rw [hce] at hx; refine hx.mono ?_; rintro e wC ⟨rfl, hkC⟩; have hKC : Kept WA wC none := hkC; clear hx; have z0 := (HBZ.out.kept hKC).c0; have z1 := (HBZ.out.kept hKC).c1; have u0 := (HBZ.out.kept hKC).f0; have u1 := (HBZ.out.kept hKC).f1; have l3 : w.heap.size + 1 + 1 + 1 < wC.heap.size := Nat.lt_of_lt_of_le HBZ.out.lt hKC.size))
  refine bodyPost_ret (v := .tuple #[.agg #[.int .i64 0, .int .i64 0], .slice none 0 0, .int .i64 8]) (by simp [results, Tryd.results13, go_sem, z0, z1]) rfl ⟨rfl, ?_⟩
  exact ((HK.out.tr hKC).setNew (p := ⟨w.heap.size + 1 + 1 + 1, 0, none⟩) (by show w.heap.size ≤ w.heap.size + 1 + 1 + 1; omega) _).setNew (p := ⟨w.heap.size + 1 + 1 + 1, 1, none⟩) (by show w.heap.size ≤ w.heap.size + 1 + 1 + 1; omega) _
set_option maxRecDepth 100000 in
set_option maxHeartbeats 4000000 in
theorem rnx16_go {X : Sa} {S : St} {w : World} (h : Sat w X S) {a : Option Addr} {ca : Nat} {F : Sf} (hF : SafeAt w a ca F) (p : Nat) (s : Int) (c g : Nat) (hc : c < 4294967296) (hg : g < 4294967296) (hs : siteB S = true) (hp : p < S.phases.length) (hs0 : 0 ≤ s) (hs9 : s ≤ 1048576) (hl : F.groups.length = S.groups.length) (G : Sq) (hG : goQ S ⟨p, s⟩ F c g = G) : Calls Tryd.prog 13 #[siteV X S, .agg #[.int .i64 (p : Int), .int .i64 s], .agg #[.slice a S.groups.length ca, .int .i64 F.start, .bool F.flashed], .int .u32 (c : Int), .int .u32 (g : Int)] w fun e w' => ∃ al cl, e = .returned (.tuple #[.agg #[.int .i64 (G.ph : Int), .int .i64 G.since], .slice al S.groups.length cl, .int .i64 0]) ∧ By w' al S.groups.length (askV S G.ph) ∧ Kept w w' none := by
  have hng := (span_may hs).base.sh.ok.ng
  have hk' : G.ph < S.phases.length := by rw [← hG]; exact (goQ_ok (q := ⟨p, s⟩) hp hs0 hs9).1
  have hce : checkE S = 0 := by unfold checkE; rw [hs]; rfl
  have t0 : decide ((p : Int) < 0) = false := decide_eq_false (by omega)
  have t1 : decide ((S.phases.length : Int) ≤ (p : Int)) = false := decide_eq_false (by omega)
  have t2 : decide (s < 0) = false := decide_eq_false (by omega)
  have t3 : decide ((1048576 : Int) < s) = false := decide_eq_false (by omega)
  have t1' : ¬ S.phases.length ≤ p := by omega
  obtain ⟨WA, hWA⟩ : ∃ WA, ((((w.alloc (.cells #[.int .i64 S.id, .slice X.g S.groups.length X.gc, .slice X.a S.apart.length X.ac, .slice X.b S.between.length X.bc, .slice X.p S.phases.length X.pc, .slice X.e S.eyes.length X.ec, .int .i64 S.watch, .int .i64 S.feed, .int .i64 S.heal, .int .i64 S.low, .int .i64 S.high, .slice X.l S.plans.length X.lc] 37)).alloc (.cells #[.int .i64 (p : Int), .int .i64 s] 40)).alloc (.cells #[.slice a S.groups.length ca, .int .i64 F.start, .bool F.flashed] 26)).alloc (.cells #[.int .i64 0, .int .i64 0] 40)) = WA := ⟨_, rfl⟩
  obtain ⟨⟨HSB, HBQ, HBN, HK, HS, HF, HSZ, q0_, q1_, n0_, n1_, n2_, s0_, s1_, s2_, s3_, s4_, s5_, s6_, s7_, s8_, s9_, s10_, s11_⟩, HBZ⟩ := hd3z h hF hWA
  have hK0 := Kept.refl WA none
  clear h hF
  have HGO : Hid (∀ w', Kept WA w' none → Calls Tryd.prog 27 #[siteV X S, .agg #[.int .i64 (p : Int), .int .i64 s], .agg #[.slice a S.groups.length ca, .int .i64 F.start, .bool F.flashed], .int .u32 (c : Int), .int .u32 (g : Int)] w' fun e w2 => e = .returned (.agg #[.int .i64 (G.ph : Int), .int .i64 G.since]) ∧ Kept w' w2 none) := fun w' q => by
    have hx := rgo16_any (HS.out.kept q) (HF.out.kept q) p hp hs hl c g hc hg s hs0 hs9
    rw [hG] at hx
    exact hx
  clear hG hl hs
  obtain ⟨gp, gs⟩ := G
  dsimp only at HGO hk' ⊢
  go_enter Tryd.func13, Tryd.ntmps13
  go_wp2_with (first | rw [hWA] | (have hgo := hKC; clear hgo; go_at_call 27; refine (HGO.out _ hKC).mono ?_; rintro e wG ⟨rfl, hkG⟩; have hKG : Kept WA wG none := hKC.tr hkG) | (go_at_call 26; have hx := rcheck_any HS.out; rw [hce] at hx; refine hx.mono ?_; rintro e wC ⟨rfl, hkC⟩; have hKC : Kept WA wC none := hkC; clear hx; have z0 := (HBZ.out.kept hKC).c0; have z1 := (HBZ.out.kept hKC).c1; have u0 := (HBZ.out.kept hKC).f0; have u1 := (HBZ.out.kept hKC).f1; have l3 : w.heap.size + 1 + 1 + 1 < wC.heap.size := Nat.lt_of_lt_of_le HBZ.out.lt hKC.size))
  have k9 : Kept wG (wG.alloc (.cells #[.int .i64 (gp : Int), .int .i64 gs] 40)) none := Kept.alloc _ _ _ _ _
  have b9 := bx2_alloc wG (.int .i64 (gp : Int)) (.int .i64 gs) 40
  obtain ⟨W9, hW9⟩ : ∃ W9, wG.alloc (.cells #[.int .i64 (gp : Int), .int .i64 gs] 40) = W9 := ⟨_, rfl⟩
  rw [hW9] at k9 b9 ⊢
  have hK9 : Kept WA W9 none := hKG.tr k9
  have HB9 := Hid.mk' b9
  have HBZ9 := Hid.mk' (HBZ.out.kept hK9)
  have HSB9 := Hid.mk' (HSB.out.kept hK9)
  have hne : wG.heap.size ≠ w.heap.size + 1 + 1 + 1 := by have h1 := HBZ.out.lt; have h2 := hKG.size; omega
  have HS9 := Hid.mk' (HS.out.kept hK9)
  have HK9 := Hid.mk' (HK.out.tr hK9)
  have x0_ : ∀ w', Kept W9 w' (some (w.heap.size + 1 + 1 + 1)) → w'.cell? ⟨wG.heap.size, 0, none⟩ = some (.int .i64 (gp : Int)) := fun w' q => (HB9.out.keptR q (fun e => hne (Option.some.inj e))).c0
  have x1_ : ∀ w', Kept W9 w' (some (w.heap.size + 1 + 1 + 1)) → w'.cell? ⟨wG.heap.size, 1, none⟩ = some (.int .i64 gs) := fun w' q => (HB9.out.keptR q (fun e => hne (Option.some.inj e))).c1
  have y0_ : ∀ w', Kept W9 w' (some (w.heap.size + 1 + 1 + 1)) → w'.cell? ⟨w.heap.size, 0, none⟩ = some (.int .i64 S.id) := fun w' q => cell_keptS HSB9.out.c0 q (by simp <;> omega)
  have y1_ : ∀ w', Kept W9 w' (some (w.heap.size + 1 + 1 + 1)) → w'.cell? ⟨w.heap.size, 1, none⟩ = some (.slice X.g S.groups.length X.gc) := fun w' q => cell_keptS HSB9.out.c1 q (by simp <;> omega)
  have y2_ : ∀ w', Kept W9 w' (some (w.heap.size + 1 + 1 + 1)) → w'.cell? ⟨w.heap.size, 2, none⟩ = some (.slice X.a S.apart.length X.ac) := fun w' q => cell_keptS HSB9.out.c2 q (by simp <;> omega)
  have y3_ : ∀ w', Kept W9 w' (some (w.heap.size + 1 + 1 + 1)) → w'.cell? ⟨w.heap.size, 3, none⟩ = some (.slice X.b S.between.length X.bc) := fun w' q => cell_keptS HSB9.out.c3 q (by simp <;> omega)
  have y4_ : ∀ w', Kept W9 w' (some (w.heap.size + 1 + 1 + 1)) → w'.cell? ⟨w.heap.size, 4, none⟩ = some (.slice X.p S.phases.length X.pc) := fun w' q => cell_keptS HSB9.out.c4 q (by simp <;> omega)
  have y5_ : ∀ w', Kept W9 w' (some (w.heap.size + 1 + 1 + 1)) → w'.cell? ⟨w.heap.size, 5, none⟩ = some (.slice X.e S.eyes.length X.ec) := fun w' q => cell_keptS HSB9.out.c5 q (by simp <;> omega)
  have y6_ : ∀ w', Kept W9 w' (some (w.heap.size + 1 + 1 + 1)) → w'.cell? ⟨w.heap.size, 6, none⟩ = some (.int .i64 S.watch) := fun w' q => cell_keptS HSB9.out.c6 q (by simp <;> omega)
  have y7_ : ∀ w', Kept W9 w' (some (w.heap.size + 1 + 1 + 1)) → w'.cell? ⟨w.heap.size, 7, none⟩ = some (.int .i64 S.feed) := fun w' q => cell_keptS HSB9.out.c7 q (by simp <;> omega)
  have y8_ : ∀ w', Kept W9 w' (some (w.heap.size + 1 + 1 + 1)) → w'.cell? ⟨w.heap.size, 8, none⟩ = some (.int .i64 S.heal) := fun w' q => cell_keptS HSB9.out.c8 q (by simp <;> omega)
  have y9_ : ∀ w', Kept W9 w' (some (w.heap.size + 1 + 1 + 1)) → w'.cell? ⟨w.heap.size, 9, none⟩ = some (.int .i64 S.low) := fun w' q => cell_keptS HSB9.out.c9 q (by simp <;> omega)
  have y10_ : ∀ w', Kept W9 w' (some (w.heap.size + 1 + 1 + 1)) → w'.cell? ⟨w.heap.size, 10, none⟩ = some (.int .i64 S.high) := fun w' q => cell_keptS HSB9.out.c10 q (by simp <;> omega)
  have y11_ : ∀ w', Kept W9 w' (some (w.heap.size + 1 + 1 + 1)) → w'.cell? ⟨w.heap.size, 11, none⟩ = some (.slice X.l S.plans.length X.lc) := fun w' q => cell_keptS HSB9.out.c11 q (by simp <;> omega)
  have z0 := HBZ9.out.c0
  have z1 := HBZ9.out.c1
  have u0 := HBZ9.out.f0
  have u1 := HBZ9.out.f1
  have hR0 : Kept W9 W9.drew (some (w.heap.size + 1 + 1 + 1)) := Kept.drew _ _
  have hRn : Kept W9 W9.drew none := Kept.drew _ _
  clear s0_ s1_ s2_ s3_ s4_ s5_ s6_ s7_ s8_ s9_ s10_ s11_ n0_ n1_ n2_ q0_ q1_ hK0 hW9 k9 b9 hK9 hkG hkC hKC hKG HGO l3
  try clear hK0
  go_region_held (fun w' => Kept W9 w' (some (w.heap.size + 1 + 1 + 1)))
    ((first | exact hR0 | assumption | exact ((hKT.weakS _).setRow _ _).setRow _ _ | exact hKT.weakS _))
    ((go_at_call 28; refine (rwants_any (HS9.out.kept hRn) (by omega) hk').mono ?_; rintro e wT ⟨aT, cT, rfl, hbT, hnT, hkT⟩; have hKT : Kept W9 wT none := hRn.tr hkT; have z0 := (HBZ9.out.kept hKT).c0; have z1 := (HBZ9.out.kept hKT).c1; have u0 := (HBZ9.out.kept hKT).f0; have u1 := (HBZ9.out.kept hKT).f1))
  go_wp2
  have hbz := HBZ9.out.lt
  refine bodyPost_ret (v := .tuple #[.agg #[.int .i64 (gp : Int), .int .i64 gs], .slice aT S.groups.length cT, .int .i64 0]) (by simp [results, Tryd.results13, go_sem, z0, z1]) rfl ⟨aT, cT, rfl, ?_, ?_⟩
  · have kz : Kept wT ((wT.setCell ⟨w.heap.size + 1 + 1 + 1, 0, none⟩ (.int .i64 (gp : Int))).setCell ⟨w.heap.size + 1 + 1 + 1, 1, none⟩ (.int .i64 gs)) (some (w.heap.size + 1 + 1 + 1)) := ((Kept.refl wT (some (w.heap.size + 1 + 1 + 1))).setRow _ _).setRow _ _
    exact hbT.keptZ kz (fun b e => by have h1 := hnT b e; have h2 := hRn.size; intro e2; have := Option.some.inj e2; omega)
  · exact ((HK9.out.tr hKT).setNew (p := ⟨w.heap.size + 1 + 1 + 1, 0, none⟩) (by show w.heap.size ≤ w.heap.size + 1 + 1 + 1; omega) _).setNew (p := ⟨w.heap.size + 1 + 1 + 1, 1, none⟩) (by show w.heap.size ≤ w.heap.size + 1 + 1 + 1; omega) _
theorem rnx16_any {X : Sa} {S : St} {w : World} (h : Sat w X S) {a : Option Addr} {ca : Nat} {F : Sf} (hF : SafeAt w a ca F) (p s : Int) (c g : Nat) (hc : c < 4294967296) (hg : g < 4294967296) : Calls Tryd.prog 13 #[siteV X S, .agg #[.int .i64 p, .int .i64 s], safeV a ca F, .int .u32 (c : Int), .int .u32 (g : Int)] w fun e w' => ∃ al cl, e = .returned (.tuple #[.agg #[.int .i64 ((nxS S F p s c g).ph : Int), .int .i64 (nxS S F p s c g).since], .slice al (nxL S F p s c g).length cl, .int .i64 (nxE S F p s)]) ∧ By w' al (nxL S F p s c g).length (nxL S F p s c g) ∧ Kept w w' none := by
  have zro : ∀ E : Int, nxE S F p s = E → E ≠ 0 → nxS S F p s c g = ⟨0, 0⟩ ∧ nxL S F p s c g = [] := fun E e h0 => by
    unfold nxL nxS
    rw [e, if_neg h0, if_neg h0]
    exact ⟨rfl, rfl⟩
  have wrp : ∀ E : Int, nxE S F p s = E → E ≠ 0 → (Calls Tryd.prog 13 #[siteV X S, .agg #[.int .i64 p, .int .i64 s], safeV a ca F, .int .u32 (c : Int), .int .u32 (g : Int)] w fun e w' => e = .returned (.tuple #[.agg #[.int .i64 0, .int .i64 0], .slice none 0 0, .int .i64 E]) ∧ Kept w w' none) → Calls Tryd.prog 13 #[siteV X S, .agg #[.int .i64 p, .int .i64 s], safeV a ca F, .int .u32 (c : Int), .int .u32 (g : Int)] w fun e w' => ∃ al cl, e = .returned (.tuple #[.agg #[.int .i64 ((nxS S F p s c g).ph : Int), .int .i64 (nxS S F p s c g).since], .slice al (nxL S F p s c g).length cl, .int .i64 (nxE S F p s)]) ∧ By w' al (nxL S F p s c g).length (nxL S F p s c g) ∧ Kept w w' none := fun E e1 h0 hx => by
    obtain ⟨e2, e3⟩ := zro _ e1 h0
    rw [e1, e2, e3]
    refine hx.mono ?_
    rintro e w' ⟨rfl, hk⟩
    exact ⟨none, 0, rfl, By.nil _ _, hk⟩
  cases hs : siteB S with
  | false => exact wrp 50 (by unfold nxE; rw [hs]; rfl) (by decide) (rnx16_no h hF p s c g hc hg hs)
  | true =>
    cases hpl : plaB S p s with
    | false =>
      have e1 : nxE S F p s = 2 := by unfold nxE; rw [hs, hpl]; rfl
      refine wrp 2 e1 (by decide) ?_
      by_cases h0 : p < 0
      · exact rnx16_a0 h hF p s c g hc hg hs h0
      · by_cases h1 : (S.phases.length : Int) ≤ p
        · exact rnx16_a1 h hF p s c g hc hg hs h0 h1
        · by_cases h2 : s < 0
          · exact rnx16_a2 h hF p s c g hc hg hs h0 h1 h2
          · by_cases h3 : (1048576 : Int) < s
            · exact rnx16_a3 h hF p s c g hc hg hs h0 h1 h2 h3
            · unfold plaB phB at hpl
              rw [decide_eq_true (show 0 ≤ p by omega), decide_eq_true (show p < (S.phases.length : Int) by omega), decide_eq_true (show 0 ≤ s by omega), decide_eq_true (show s ≤ 1048576 by omega)] at hpl
              cases hpl
    | true =>
      obtain ⟨⟨q, rfl, hq⟩, h0, h9⟩ := plaB_yes hpl
      by_cases hl : F.groups.length = S.groups.length
      · have e1 : nxE S F (q : Int) s = 0 := by unfold nxE; rw [hs, hpl, if_neg (by decide), if_neg (by decide), if_pos hl]
        have e2 : nxS S F (q : Int) s c g = goQ S ⟨q, s⟩ F c g := by unfold nxS; rw [if_pos e1]; rfl
        have e3 : nxL S F (q : Int) s c g = askV S (goQ S ⟨q, s⟩ F c g).ph := by unfold nxL; rw [if_pos e1, e2]
        rw [e1, e2, e3, askV_len, safeV, hl]
        exact rnx16_go h hF q s c g hc hg hs hq h0 h9 hl _ rfl
      · exact wrp 8 (by unfold nxE; rw [hs, hpl, if_neg (by decide), if_neg (by decide), if_neg hl]) (by decide) (rnx16_bad h hF (q : Int) s c g hc hg hs (by omega) (by omega) (by omega) (by omega) hl)
set_option maxRecDepth 100000 in
set_option maxHeartbeats 2000000 in
theorem rbou16_no {X : Sa} {S : St} {w : World} (h : Sat w X S) (hs : siteB S = false) : Calls Tryd.prog 14 #[siteV X S] w fun e w' => e = .returned (.tuple #[.int .i64 0, .int .i64 50]) ∧ Kept w w' none := by
  have hce : checkE S = 50 := by unfold checkE; rw [hs]; rfl
  obtain ⟨WA, hWA⟩ : ∃ WA, (w.alloc (.cells #[.int .i64 S.id, .slice X.g S.groups.length X.gc, .slice X.a S.apart.length X.ac, .slice X.b S.between.length X.bc, .slice X.p S.phases.length X.pc, .slice X.e S.eyes.length X.ec, .int .i64 S.watch, .int .i64 S.feed, .int .i64 S.heal, .int .i64 S.low, .int .i64 S.high, .slice X.l S.plans.length X.lc] 37)) = WA := ⟨_, rfl⟩
  obtain ⟨HSB, HK, HS, s0_, s1_, s2_, s3_, s4_, s5_, s6_, s7_, s8_, s9_, s10_, s11_⟩ := hd1 h hWA
  have hK0 := Kept.refl WA none
  clear h
  go_enter Tryd.func14, Tryd.ntmps14
  go_wp2_with (first | rw [hWA] | (go_at_call 26; have hx := rcheck_any HS.out; rw [hce] at hx; refine hx.mono ?_; rintro e wC ⟨rfl, hkC⟩; have hKC : Kept WA wC none := hkC; clear hx))
  go_ret2
  exact ⟨rfl, HK.out.tr hKC⟩
set_option maxRecDepth 100000 in
set_option maxHeartbeats 2000000 in
theorem rbou16_yes {X : Sa} {S : St} {w : World} (h : Sat w X S) (hs : siteB S = true) : Calls Tryd.prog 14 #[siteV X S] w fun e w' => e = .returned (.tuple #[.int .i64 (bouM S), .int .i64 0]) ∧ Kept w w' none := by
  have hce : checkE S = 0 := by unfold checkE; rw [hs]; rfl
  have hn := (span_may hs).base.sh.ok.np
  have hrm := h.pk.room
  have HR := Hid.mk' (fun k hk => bouK_rng (S := S) hs k hk)
  have HPF := Hid.mk' (fun k hk => phase_facts (S := S) hs (k := k) hk)
  have hw := wor_bd hs
  obtain ⟨WA, hWA⟩ : ∃ WA, (w.alloc (.cells #[.int .i64 S.id, .slice X.g S.groups.length X.gc, .slice X.a S.apart.length X.ac, .slice X.b S.between.length X.bc, .slice X.p S.phases.length X.pc, .slice X.e S.eyes.length X.ec, .int .i64 S.watch, .int .i64 S.feed, .int .i64 S.heal, .int .i64 S.low, .int .i64 S.high, .slice X.l S.plans.length X.lc] 37)) = WA := ⟨_, rfl⟩
  obtain ⟨HSB, HK, HS, s0_, s1_, s2_, s3_, s4_, s5_, s6_, s7_, s8_, s9_, s10_, s11_⟩ := hd1 h hWA
  have hK0 := Kept.refl WA none
  clear h
  go_enter Tryd.func14, Tryd.ntmps14
  go_wp2_with (first | rw [hWA] | (have hgo := hKC; clear hgo; go_at_call 29; refine (rturn_yes (HS.out.kept hKC) hs).mono ?_; rintro e wD ⟨rfl, hkD⟩; have hKD : Kept WA wD none := hKC.tr hkD) | (go_at_call 26; have hx := rcheck_any HS.out; rw [hce] at hx; refine hx.mono ?_; rintro e wC ⟨rfl, hkC⟩; have hKC : Kept WA wC none := hkC; clear hx))
  have HKD := Hid.mk' hKD
  have h0 : worT S = bouK S 0 := by show worT S = worT S + 0; omega
  clear hkC hKC hkD hKD
  go_loopw [6, 7] (fun t i wr => ∃ k : Nat, k ≤ S.phases.length ∧ i = .int .i64 k ∧ t = .int .i64 (bouK S k) ∧ Kept WA wr none) (fun _ i _ => S.phases.length - (intOf i).toNat)
  case atStart => exact ⟨0, by omega, rfl, by rw [← h0], HKD.out⟩
  case round =>
    clear h0
    obtain ⟨k, hk, rfl, rfl, hkw⟩ := hrel
    have HKW := Hid.mk' hkw
    by_cases hlt : k < S.phases.length
    · obtain ⟨pb, po, ep, q0, q1, q2, q3, q4⟩ := (HS.out.kept hkw).phAt hlt
      have hpb := block_lt q0
      have hr := HR.out k hk
      have hf := HPF.out k hlt
      have HN := Hid.mk' (bouK_succ S k)
      have c4 := (HSB.out.kept hkw).c4
      rw [ep] at c4
      clear s0_ s1_ s2_ s3_ s4_ s5_ s6_ s7_ s8_ s9_ s10_ s11_ hK0 hkw ep
      generalize S.ph k = x at *
      obtain ⟨x0', x1', x2', x3', x4'⟩ := x
      dsimp only at q0 q1 q2 q3 q4 hf HN
      generalize bouK S k = K at *
      generalize worT S = T at *
      go_wp2
      go_roundw
      case rel => exact ⟨k + 1, by omega, by go_num, by rw [HN.out], HKW.out⟩
      case measure => simp [intOf]; omega
    · obtain rfl : k = S.phases.length := by omega
      have c4 := (HSB.out.kept hkw).c4
      clear hkw s0_ s1_ s2_ s3_ s4_ s5_ s6_ s7_ s8_ s9_ s10_ s11_ hK0
      go_wp2
      go_ret2
      exact ⟨rfl, HK.out.tr HKW.out⟩
theorem rbou16_any {X : Sa} {S : St} {w : World} (h : Sat w X S) : Calls Tryd.prog 14 #[siteV X S] w fun e w' => e = .returned (.tuple #[.int .i64 (bouV S), .int .i64 (bouE S)]) ∧ Kept w w' none := by
  cases hs : siteB S with
  | false =>
    rw [show bouV S = 0 by unfold bouV; rw [hs]; rfl, show bouE S = 50 by unfold bouE; rw [hs]; rfl]
    exact rbou16_no h hs
  | true =>
    rw [show bouV S = bouM S by unfold bouV; rw [hs]; rfl, show bouE S = 0 by unfold bouE; rw [hs]; rfl]
    exact rbou16_yes h hs

end Go.Proofs.YtkgimccffggfdaaDoor

