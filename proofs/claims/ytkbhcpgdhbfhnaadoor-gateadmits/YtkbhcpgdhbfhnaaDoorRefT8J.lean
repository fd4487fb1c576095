/-
  Texts joined: some of those that the proofs of this seat stand on.
-/
import Derived.Test.YtkbhcpgdhbfhnaaDoorRefC8J
import Derived.Laws.AppendOwnNone
import Derived.Test.YtkbhcpgdhbfhnaaDoorRefA9J
import Derived.Test.YtkbhcpgdhbfhnaaDoorRefG
/-
  THE DOCUMENT'S Twin of layer 8 (made by a program).
-/
namespace Go.Proofs.YtkbhcpgdhbfhnaaDoor
open Go.RowKit Go.Lib Go.Deep
set_option linter.unusedVariables false
set_option linter.unusedSimpArgs false

theorem SnS.whole {w : World} {base : Nat} {a : Option Addr} {c : Nat} {F : Sf} (hF : SafeAt w a c F) (hl : F.groups.length ≤ 900) (hb : base ≤ w.heap.size) :
    ∃ a' c' w', (Builtin.append_ #[39, 39] 39 #[.slice none 0 0, .slice a F.groups.length c]).run Tryd.prog w = .ok (.slice a' F.groups.length c') w' ∧ SnS w' base (.slice a' F.groups.length c') F.groups ∧ Kept w w' none := by
  obtain ⟨i, hi, hz, hs, hby⟩ := info_parts Tryd.infoSeen
  cases a with
  | none =>
    obtain ⟨h0, rfl⟩ := hF.cap.nil rfl
    have hrun := run_append_owned_none (P := Tryd.prog) (w := w) base 39 39 65 i 3 Tryd.underlying39 hi (.slice none 0 0) 0 _ (World.ownsRow_nil _ _ _ _)
    refine ⟨none, 0, w, ?_, ?_, Kept.refl _ _⟩
    · rw [h0]; exact hrun
    · have hg : F.groups = [] := List.length_eq_zero_iff.1 h0
      rw [hg]
      exact Ow8.nil ..
  | some ad =>
    have hnews : ∀ j u, (cellsL F.groups.length 3 (fun i j => snV (F.g i) j))[j]? = some u → w.cell? (ad.add j) = some u := by
      by_cases hp : 0 < F.groups.length
      · obtain ⟨b, off, e, _, hcell⟩ := hF.lie.at_ hp
        injection e with e
        subst e
        exact cellsL_news (by omega) hcell
      · intro j u hu
        rw [show F.groups.length = 0 by omega] at hu
        simp [cellsL] at hu
    have hbytes : (0 + F.groups.length) * 24 ≤ 140737488355328 := by omega
    obtain ⟨v', w', hr, g1, g2, _, g3⟩ := run_append_own_at (P := Tryd.prog) w base 39 39 65 i _ 3 24 Tryd.underlying39 hi hz hs hby rfl (by omega) (.slice none 0 0) 0 _ (World.ownsRow_nil _ _ _ _) ad F.groups.length c _ (by rw [cellsL_len]) hnews (cellsL_one (fun i j => by unfold snV; split <;> rfl)) (by unfold maxLen; omega) hbytes hb
    rw [Nat.zero_add, List.nil_append] at g1
    obtain ⟨a', c', rfl, _⟩ := lie_own (by omega) g1
    exact ⟨a', c', w', hr, g1, g2⟩
set_option maxRecDepth 100000 in
set_option maxHeartbeats 1000000 in
theorem rtwin_any {w : World} {a : Option Addr} {c : Nat} {F : Sf} (hF : SafeAt w a c F) (hl : F.groups.length ≤ 900) : Calls Tryd.prog 17 #[.agg #[.slice a F.groups.length c, .int .i64 F.start, .bool F.flashed]] w fun e w' => ∃ a' c', e = .returned (.agg #[.slice a' F.groups.length c', .int .i64 F.start, .bool F.flashed]) ∧ SafeAt w' a' c' F ∧ (∀ b, a' = some b → w.heap.size ≤ b.block) ∧ Kept w w' none := by
  have k1 : Kept w (w.alloc (.cells #[.slice a F.groups.length c, .int .i64 F.start, .bool F.flashed] 41)) none := Kept.alloc _ _ _ _ _
  have b1 := box_alloc w (.slice a F.groups.length c) (.int .i64 F.start) (.bool F.flashed) 41
  have hz1 : (w.alloc (.cells #[.slice a F.groups.length c, .int .i64 F.start, .bool F.flashed] 41)).heap.size = w.heap.size + 1 := by simp
  obtain ⟨W1, hW1⟩ : ∃ W1, w.alloc (.cells #[.slice a F.groups.length c, .int .i64 F.start, .bool F.flashed] 41) = W1 := ⟨_, rfl⟩
  rw [hW1] at k1 b1 hz1
  have k2 : Kept W1 (W1.alloc (.cells #[.slice none 0 0, .int .i64 0, .bool false] 41)) none := Kept.alloc _ _ _ _ _
  have b2 := box_alloc W1 (.slice none 0 0) (.int .i64 0) (.bool false) 41
  have hz2 : (W1.alloc (.cells #[.slice none 0 0, .int .i64 0, .bool false] 41)).heap.size = w.heap.size + 1 + 1 := by simp [hz1]
  obtain ⟨W2, hW2⟩ : ∃ W2, W1.alloc (.cells #[.slice none 0 0, .int .i64 0, .bool false] 41) = W2 := ⟨_, rfl⟩
  rw [hW2] at k2 b2 hz2
  have k3 : Kept W2 (W2.alloc (.cells #[.slice a F.groups.length c, .int .i64 F.start, .bool F.flashed] 41)) none := Kept.alloc _ _ _ _ _
  have b3 := box_alloc W2 (.slice a F.groups.length c) (.int .i64 F.start) (.bool F.flashed) 41
  have hz3 : (W2.alloc (.cells #[.slice a F.groups.length c, .int .i64 F.start, .bool F.flashed] 41)).heap.size = w.heap.size + 1 + 1 + 1 := by simp [hz2]
  obtain ⟨W3, hW3⟩ : ∃ W3, W2.alloc (.cells #[.slice a F.groups.length c, .int .i64 F.start, .bool F.flashed] 41) = W3 := ⟨_, rfl⟩
  rw [hW3] at k3 b3 hz3
  rw [hz1] at b2
  rw [hz2] at b3
  have k4 : Kept W2 (W3.setCell ⟨w.heap.size + 1 + 1, 0, none⟩ (.slice none 0 0)) none := k3.setNew (by rw [hz2]; exact Nat.le_refl _) _
  have b4 := b3.set0 (.slice none 0 0)
  have hz4 : (W3.setCell ⟨w.heap.size + 1 + 1, 0, none⟩ (.slice none 0 0)).heap.size = w.heap.size + 1 + 1 + 1 := by simp [World.setCell, hz3]
  obtain ⟨W4, hW4⟩ : ∃ W4, W3.setCell ⟨w.heap.size + 1 + 1, 0, none⟩ (.slice none 0 0) = W4 := ⟨_, rfl⟩
  rw [hW4] at k4 b4 hz4
  obtain ⟨a5, c5, w5, hr5, hs5, k5⟩ := SnS.whole (base := w.heap.size + 1 + 1 + 1) ((hF.kept (k1.tr k2)).kept k4) hl (by rw [hz4]; exact Nat.le_refl _)
  have b1' := ((b1.kept k2).kept k4)
  have b2' := (b2.kept k4).kept k5
  have b5 := (b4.kept k5).set0 (.slice a5 F.groups.length c5)
  have HR5 := Hid.mk' hr5
  have B1 := Hid.mk' b1
  have HS5 := Hid.mk' hs5
  have HK : Hid (Kept w w5 none) := ((k1.tr k2).tr k4).tr k5
  have HRN := Hid.mk' hF.rng
  have hA0 := (b1.kept k2).c0
  have hA1 := (b1.kept k2).c1
  have hA2 := (b1.kept k2).c2
  have x0 := b1.c0
  have x1 := b1.c1
  have x2 := b1.c2
  have y0 := b3.f0
  have y1 := b3.c0
  have u1 := (b4.kept k5).c0
  have z0 := b4.c0
  have v0 := b1'.c0
  have u0 := (b4.kept k5).f0
  have q0 := b5.c0
  have q1 := b5.c1
  have q2 := b5.c2
  have B2 := Hid.mk' b2'
  have r2 := (b2'.other (p := ⟨w.heap.size + 1 + 1, 0, none⟩) (by show w.heap.size + 1 + 1 ≠ w.heap.size + 1; omega) (.slice a5 F.groups.length c5))
  have HR2 := Hid.mk' r2
  have t0 := r2.c0
  have t1 := r2.c1
  have t2 := r2.c2
  have f0 := r2.f0
  have f1 := r2.f1
  have f2 := r2.f2
  clear hF b1 b1' b2 b2' b3 b4 b5 k1 k2 k3 k4 k5 hr5 hs5 r2
  generalize hst : F.start = st at *
  generalize hfl : F.flashed = fl at *
  go_enter Tryd.func17, Tryd.ntmps17
  go_wp2_with (first | rw [hW1] | rw [hz1] | rw [hW2] | rw [hz2] | rw [hW3] | rw [hW4] | (at_builtin; refine wpList_app8 (by rfl) _ _ _ (by rfl) (by rfl) (by rfl) HR5.out ?_))
  have bx7 := ((HR2.out.set0 (.slice a5 F.groups.length c5)).set1 (.int .i64 st)).set2 (.bool fl)
  have p0 := bx7.c0
  have p1 := bx7.c1
  have p2 := bx7.c2
  have hsafe := SnS.safe (F := F) (SnS.setOther (SnS.setOther (SnS.setOther (SnS.setOther HS5.out (b := w.heap.size + 1 + 1) (i := 0) (by omega) (.slice a5 F.groups.length c5)) (b := w.heap.size + 1) (i := 0) (by omega) (.slice a5 F.groups.length c5)) (b := w.heap.size + 1) (i := 1) (by omega) (.int .i64 st)) (b := w.heap.size + 1) (i := 2) (by omega) (.bool fl)) rfl HRN.out
  refine bodyPost_ret (v := .agg #[.slice a5 F.groups.length c5, .int .i64 st, .bool fl]) (by simp [results, Tryd.results17, go_sem, p0, p1, p2]) rfl ⟨a5, c5, rfl, hsafe.2, (fun b e => by have := SnS.own HS5.out b e; omega), ?_⟩
  exact (((HK.out.setNew (by show w.heap.size ≤ w.heap.size + 1 + 1; omega) _).setNew (by show w.heap.size ≤ w.heap.size + 1; omega) _).setNew (by show w.heap.size ≤ w.heap.size + 1; omega) _).setNew (by show w.heap.size ≤ w.heap.size + 1; omega) _

end Go.Proofs.YtkbhcpgdhbfhnaaDoor

/-
  THE WALK of GateAdmits (made by a program).
-/
namespace Go.Proofs.YtkbhcpgdhbfhnaaDoor
open Go.RowKit Go.Lib Go.Deep
set_option linter.unusedVariables false
set_option linter.unusedSimpArgs false

theorem newbox9 (w : World) (v0 v1 v2 : Value) (t : TypeId) : ∃ W, w.alloc (.cells #[v0, v1, v2] t) = W ∧ Kept w W none ∧ (∀ w', Kept W w' none → w'.cell? ⟨w.heap.size, 0, none⟩ = some v0) ∧ (∀ w', Kept W w' none → w'.cell? ⟨w.heap.size, 1, none⟩ = some v1) ∧ (∀ w', Kept W w' none → w'.cell? ⟨w.heap.size, 2, none⟩ = some v2) ∧ W.heap.size = w.heap.size + 1 := by
  have b := box_alloc w v0 v1 v2 t
  exact ⟨_, rfl, Kept.alloc _ _ _ _ _, fun w' q => (b.kept q).c0, fun w' q => (b.kept q).c1, fun w' q => (b.kept q).c2, by simp⟩
theorem adm_both {X : Sa} {S : St} {w : World} {F : Sf} {n : Nat} {L : List Nat} (h : Sat w X S) (hT : Tabb w) (hl : F.groups.length ≤ 100) :
    ∃ (z : Int) (A : List Nat), (∀ w' a c al cl, Kept w w' none → SafeAt w' a c F → By w' al n L → Calls Tryd.prog 12 #[siteV X S, .agg #[.slice a F.groups.length c, .int .i64 F.start, .bool F.flashed], .slice al n cl] w' fun e w2 => ∃ a2 c2, e = .returned (.tuple #[.slice a2 A.length c2, .int .i64 z]) ∧ By w2 a2 A.length A ∧ (0 < A.length → ∃ b g, a2 = some ⟨b, 0, none⟩ ∧ w'.heap.size ≤ b ∧ w2.rowIs b 5 A.length g) ∧ A.length ≤ c2 ∧ c2 ≤ 9223372036854775807 ∧ Kept w' w2 none)
      ∧ (∀ w' a c al cl, Kept w w' none → SafeAt w' a c F → By w' al n L → Calls Tryd.prog 18 #[siteV X S, .agg #[.slice a F.groups.length c, .int .i64 F.start, .bool F.flashed], .slice al n cl] w' fun e w2 => ∃ a2 c2, e = .returned (.tuple #[.slice a2 A.length c2, .int .i64 z]) ∧ By w2 a2 A.length A ∧ Kept w' w2 none) := by
  by_cases hz : goesE S F = 0
  · by_cases hn : n = S.groups.length
    · have hng := (span_may (goesE_ok hz).1).base.sh.ok.ng
      have hlen : ∀ w' al, By w' al n L → (letV S F L).length = S.groups.length := fun w' al hb => (letV_len S F L).trans (hb.size.trans hn)
      by_cases hLn : L.length = n
      · have e : (letV S F L).length = S.groups.length := (letV_len S F L).trans (hLn.trans hn)
        refine ⟨0, letV S F L, fun w' a c al cl q hf hb => (gadmit_go (h.kept q) (hT.kept q) hf hb hz hn).mono ?_, fun w' a c al cl q hf hb => (radm9_go (h.kept q) (hT.kept q) hf hl hb hz hn).mono ?_⟩
        · rintro e2 w2 ⟨b, rfl, h1, h2, h3⟩
          refine ⟨_, _, by rw [e], ?_, fun _ => ⟨b, _, rfl, h1, by rw [e]; exact h2⟩, by rw [e]; exact Nat.le_refl _, by omega, h3⟩
          rw [e]
          exact By.row h2 _ _ (Nat.le_refl _) e (by omega) (letV_lt9 S F L) (fun i hi => by rw [show (letV S F L).getD i 0 = lg (letV S F L) i from rfl, letV_lg (by omega)])
        · rintro e2 w2 ⟨a', c', rfl, h1, h2⟩
          exact ⟨a', c', by rw [e], by rw [e]; exact h1, h2⟩
      · exact ⟨0, [], fun w' a c al cl q hf hb => absurd hb.size hLn, fun w' a c al cl q hf hb => absurd hb.size hLn⟩
    · refine ⟨90, [], fun w' a c al cl q hf hb => (gadmit_ask (h.kept q) (hT.kept q) hf hz hn).mono ?_, fun w' a c al cl q hf hb => (radm9_ask (h.kept q) (hT.kept q) hf hl hz hn).mono ?_⟩
      · rintro e2 w2 ⟨rfl, k⟩
        exact ⟨none, 0, rfl, By.nil _ _, fun hp => absurd hp (by simp), Nat.le_refl _, by omega, k⟩
      · rintro e2 w2 ⟨rfl, k⟩
        exact ⟨none, 0, rfl, By.nil _ _, k⟩
  · refine ⟨goesE S F, [], fun w' a c al cl q hf hb => (gadmit_no (h.kept q) (hT.kept q) hf hz).mono ?_, fun w' a c al cl q hf hb => (radm9_no (h.kept q) (hT.kept q) hf hl hz).mono ?_⟩
    · rintro e2 w2 ⟨rfl, k⟩
      exact ⟨none, 0, rfl, By.nil _ _, fun hp => absurd hp (by simp), Nat.le_refl _, by omega, k⟩
    · rintro e2 w2 ⟨rfl, k⟩
      exact ⟨none, 0, rfl, By.nil _ _, k⟩
theorem opn_both {X : Sa} {S : St} {w : World} {F : Sf} (gi : Int) (h : Sat w X S) (hT : Tabb w) (hl : F.groups.length ≤ 100) :
    ∃ (t : Bool) (z : Int), (∀ w' a c, Kept w w' none → SafeAt w' a c F → Calls Tryd.prog 14 #[siteV X S, .agg #[.slice a F.groups.length c, .int .i64 F.start, .bool F.flashed], .int .i64 gi] w' fun e w2 => e = .returned (.tuple #[.bool t, .int .i64 z]) ∧ Kept w' w2 none)
      ∧ (∀ w' a c, Kept w w' none → SafeAt w' a c F → Calls Tryd.prog 19 #[siteV X S, .agg #[.slice a F.groups.length c, .int .i64 F.start, .bool F.flashed], .int .i64 gi] w' fun e w2 => e = .returned (.tuple #[.bool t, .int .i64 z]) ∧ Kept w' w2 none) := by
  by_cases hz : goesE S F = 0
  · by_cases hg : gi < 0 ∨ (S.groups.length : Int) ≤ gi
    · exact ⟨_, _, fun w' a c q hf => gopn_arg (h.kept q) (hT.kept q) hf gi hz hg, fun w' a c q hf => ropn9_arg (h.kept q) (hT.kept q) hf hl gi hz hg⟩
    · obtain ⟨g, rfl⟩ : ∃ g : Nat, gi = (g : Int) := ⟨gi.toNat, by omega⟩
      exact ⟨_, _, fun w' a c q hf => gopn_go (h.kept q) (hT.kept q) hf g hz (by omega), fun w' a c q hf => ropn9_go (h.kept q) (hT.kept q) hf hl g hz (by omega)⟩
  · exact ⟨_, _, fun w' a c q hf => gopn_no (h.kept q) (hT.kept q) hf gi hz, fun w' a c q hf => ropn9_no (h.kept q) (hT.kept q) hf hl gi hz⟩
set_option maxRecDepth 100000 in
set_option maxHeartbeats 4000000 in
theorem gadm_long {X : Sa} {S : St} {w : World} {a : Option Addr} {c : Nat} {F : Sf} {al : Option Addr} {n cl : Nat} {L : List Nat} {gi : Int} (h : Sat w X S) (hT : Tabb w) (hF : SafeAt w a c F) (hB : By w al n L) (hC : al = none → cl = 0) (hl : 100 < F.groups.length) : Calls Tryd.prog 4 #[siteV X S, safeV a c F, .slice al n cl, .int .i64 gi] w fun e w' => e = .returned (.bool true) ∧ Below w.heap.size w w' := by
  have hlb : decide ((100 : Int) < (F.groups.length : Int)) = true := by simp; omega
  have k1 : Kept w (w.alloc (.cells #[.int .i64 S.id, .slice X.g S.groups.length X.gc, .slice X.a S.apart.length X.ac, .slice X.b S.between.length X.bc, .slice X.p S.phases.length X.pc, .slice X.e S.eyes.length X.ec, .int .i64 S.watch, .int .i64 S.feed, .int .i64 S.heal, .int .i64 S.low, .int .i64 S.high, .slice X.l S.plans.length X.lc] 34)) none := Kept.alloc _ _ _ _ _
  have k2 : Kept (w.alloc (.cells #[.int .i64 S.id, .slice X.g S.groups.length X.gc, .slice X.a S.apart.length X.ac, .slice X.b S.between.length X.bc, .slice X.p S.phases.length X.pc, .slice X.e S.eyes.length X.ec, .int .i64 S.watch, .int .i64 S.feed, .int .i64 S.heal, .int .i64 S.low, .int .i64 S.high, .slice X.l S.plans.length X.lc] 34)) ((w.alloc (.cells #[.int .i64 S.id, .slice X.g S.groups.length X.gc, .slice X.a S.apart.length X.ac, .slice X.b S.between.length X.bc, .slice X.p S.phases.length X.pc, .slice X.e S.eyes.length X.ec, .int .i64 S.watch, .int .i64 S.feed, .int .i64 S.heal, .int .i64 S.low, .int .i64 S.high, .slice X.l S.plans.length X.lc] 34)).alloc (.cells #[.slice a F.groups.length c, .int .i64 F.start, .bool F.flashed] 41)) none := Kept.alloc _ _ _ _ _
  have hsb := (sbox_alloc h 34).kept k2
  have bn := box_alloc (w.alloc (.cells #[.int .i64 S.id, .slice X.g S.groups.length X.gc, .slice X.a S.apart.length X.ac, .slice X.b S.between.length X.bc, .slice X.p S.phases.length X.pc, .slice X.e S.eyes.length X.ec, .int .i64 S.watch, .int .i64 S.feed, .int .i64 S.heal, .int .i64 S.low, .int .i64 S.high, .slice X.l S.plans.length X.lc] 34)) (.slice a F.groups.length c) (.int .i64 F.start) (.bool F.flashed) 41
  rw [World.size_alloc] at bn
  have hkA := k1.tr k2
  obtain ⟨WA, hWA⟩ : ∃ WA, ((w.alloc (.cells #[.int .i64 S.id, .slice X.g S.groups.length X.gc, .slice X.a S.apart.length X.ac, .slice X.b S.between.length X.bc, .slice X.p S.phases.length X.pc, .slice X.e S.eyes.length X.ec, .int .i64 S.watch, .int .i64 S.feed, .int .i64 S.heal, .int .i64 S.low, .int .i64 S.high, .slice X.l S.plans.length X.lc] 34)).alloc (.cells #[.slice a F.groups.length c, .int .i64 F.start, .bool F.flashed] 41)) = WA := ⟨_, rfl⟩
  rw [hWA] at hsb bn hkA
  have HSB := Hid.mk' hsb
  have HBN := Hid.mk' bn
  have HK := Hid.mk' hkA
  have HS := Hid.mk' (h.kept hkA)
  have HT := Hid.mk' (hT.kept hkA)
  have HF := Hid.mk' (hF.kept hkA)
  have HB := Hid.mk' (hB.kept hkA)
  have hBm := hB.max
  have n0_ : ∀ w', Kept WA w' none → w'.cell? ⟨w.heap.size + 1, 0, none⟩ = some (.slice a F.groups.length c) := fun w' q => (HBN.out.kept q).c0
  have n1_ : ∀ w', Kept WA w' none → w'.cell? ⟨w.heap.size + 1, 1, none⟩ = some (.int .i64 F.start) := fun w' q => (HBN.out.kept q).c1
  have n2_ : ∀ w', Kept WA w' none → w'.cell? ⟨w.heap.size + 1, 2, none⟩ = some (.bool F.flashed) := fun w' q => (HBN.out.kept q).c2
  have s0_ : ∀ w', Kept WA w' none → w'.cell? ⟨w.heap.size, 0, none⟩ = some (.int .i64 S.id) := fun w' q => (HSB.out.kept q).c0
  have s1_ : ∀ w', Kept WA w' none → w'.cell? ⟨w.heap.size, 1, none⟩ = some (.slice X.g S.groups.length X.gc) := fun w' q => (HSB.out.kept q).c1
  have s2_ : ∀ w', Kept WA w' none → w'.cell? ⟨w.heap.size, 2, none⟩ = some (.slice X.a S.apart.length X.ac) := fun w' q => (HSB.out.kept q).c2
  have s3_ : ∀ w', Kept WA w' none → w'.cell? ⟨w.heap.size, 3, none⟩ = some (.slice X.b S.between.length X.bc) := fun w' q => (HSB.out.kept q).c3
  have s4_ : ∀ w', Kept WA w' none → w'.cell? ⟨w.heap.size, 4, none⟩ = some (.slice X.p S.phases.length X.pc) := fun w' q => (HSB.out.kept q).c4
  have s5_ : ∀ w', Kept WA w' none → w'.cell? ⟨w.heap.size, 5, none⟩ = some (.slice X.e S.eyes.length X.ec) := fun w' q => (HSB.out.kept q).c5
  have s6_ : ∀ w', Kept WA w' none → w'.cell? ⟨w.heap.size, 6, none⟩ = some (.int .i64 S.watch) := fun w' q => (HSB.out.kept q).c6
  have s7_ : ∀ w', Kept WA w' none → w'.cell? ⟨w.heap.size, 7, none⟩ = some (.int .i64 S.feed) := fun w' q => (HSB.out.kept q).c7
  have s8_ : ∀ w', Kept WA w' none → w'.cell? ⟨w.heap.size, 8, none⟩ = some (.int .i64 S.heal) := fun w' q => (HSB.out.kept q).c8
  have s9_ : ∀ w', Kept WA w' none → w'.cell? ⟨w.heap.size, 9, none⟩ = some (.int .i64 S.low) := fun w' q => (HSB.out.kept q).c9
  have s10_ : ∀ w', Kept WA w' none → w'.cell? ⟨w.heap.size, 10, none⟩ = some (.int .i64 S.high) := fun w' q => (HSB.out.kept q).c10
  have s11_ : ∀ w', Kept WA w' none → w'.cell? ⟨w.heap.size, 11, none⟩ = some (.slice X.l S.plans.length X.lc) := fun w' q => (HSB.out.kept q).c11
  have hK0 := Kept.refl WA none
  clear h hT hF hB k1 k2 hsb bn hkA hl
  go_enter Tryd.func4, Tryd.ntmps4
  go_wp2_with (first | rw [hWA])
  go_at_call 16
  refine (rgreat_any HS.out).mono ?_
  rintro e wg ⟨gr, rfl, hgr, hkg⟩
  have hKg : Kept WA wg none := hkg
  clear hgr
  cases gr with
  | true =>
    go_wp2
    go_ret
    exact ⟨rfl, (HK.out.tr hKg).below⟩
  | false =>
  go_wp2
  go_ret
  exact ⟨rfl, (HK.out.tr hKg).below⟩
set_option maxRecDepth 100000 in
set_option maxHeartbeats 4000000 in
theorem gadm_wide {X : Sa} {S : St} {w : World} {a : Option Addr} {c : Nat} {F : Sf} {al : Option Addr} {n cl : Nat} {L : List Nat} {gi : Int} (h : Sat w X S) (hT : Tabb w) (hF : SafeAt w a c F) (hB : By w al n L) (hC : al = none → cl = 0) (hl : F.groups.length ≤ 100) (hn : 100 < n) : Calls Tryd.prog 4 #[siteV X S, safeV a c F, .slice al n cl, .int .i64 gi] w fun e w' => e = .returned (.bool true) ∧ Below w.heap.size w w' := by
  have hlb : decide ((100 : Int) < (F.groups.length : Int)) = false := by simp; omega
  have hnb : decide ((100 : Int) < (n : Int)) = true := by simp; omega
  have k1 : Kept w (w.alloc (.cells #[.int .i64 S.id, .slice X.g S.groups.length X.gc, .slice X.a S.apart.length X.ac, .slice X.b S.between.length X.bc, .slice X.p S.phases.length X.pc, .slice X.e S.eyes.length X.ec, .int .i64 S.watch, .int .i64 S.feed, .int .i64 S.heal, .int .i64 S.low, .int .i64 S.high, .slice X.l S.plans.length X.lc] 34)) none := Kept.alloc _ _ _ _ _
  have k2 : Kept (w.alloc (.cells #[.int .i64 S.id, .slice X.g S.groups.length X.gc, .slice X.a S.apart.length X.ac, .slice X.b S.between.length X.bc, .slice X.p S.phases.length X.pc, .slice X.e S.eyes.length X.ec, .int .i64 S.watch, .int .i64 S.feed, .int .i64 S.heal, .int .i64 S.low, .int .i64 S.high, .slice X.l S.plans.length X.lc] 34)) ((w.alloc (.cells #[.int .i64 S.id, .slice X.g S.groups.length X.gc, .slice X.a S.apart.length X.ac, .slice X.b S.between.length X.bc, .slice X.p S.phases.length X.pc, .slice X.e S.eyes.length X.ec, .int .i64 S.watch, .int .i64 S.feed, .int .i64 S.heal, .int .i64 S.low, .int .i64 S.high, .slice X.l S.plans.length X.lc] 34)).alloc (.cells #[.slice a F.groups.length c, .int .i64 F.start, .bool F.flashed] 41)) none := Kept.alloc _ _ _ _ _
  have hsb := (sbox_alloc h 34).kept k2
  have bn := box_alloc (w.alloc (.cells #[.int .i64 S.id, .slice X.g S.groups.length X.gc, .slice X.a S.apart.length X.ac, .slice X.b S.between.length X.bc, .slice X.p S.phases.length X.pc, .slice X.e S.eyes.length X.ec, .int .i64 S.watch, .int .i64 S.feed, .int .i64 S.heal, .int .i64 S.low, .int .i64 S.high, .slice X.l S.plans.length X.lc] 34)) (.slice a F.groups.length c) (.int .i64 F.start) (.bool F.flashed) 41
  rw [World.size_alloc] at bn
  have hkA := k1.tr k2
  obtain ⟨WA, hWA⟩ : ∃ WA, ((w.alloc (.cells #[.int .i64 S.id, .slice X.g S.groups.length X.gc, .slice X.a S.apart.length X.ac, .slice X.b S.between.length X.bc, .slice X.p S.phases.length X.pc, .slice X.e S.eyes.length X.ec, .int .i64 S.watch, .int .i64 S.feed, .int .i64 S.heal, .int .i64 S.low, .int .i64 S.high, .slice X.l S.plans.length X.lc] 34)).alloc (.cells #[.slice a F.groups.length c, .int .i64 F.start, .bool F.flashed] 41)) = WA := ⟨_, rfl⟩
  rw [hWA] at hsb bn hkA
  have HSB := Hid.mk' hsb
  have HBN := Hid.mk' bn
  have HK := Hid.mk' hkA
  have HS := Hid.mk' (h.kept hkA)
  have HT := Hid.mk' (hT.kept hkA)
  have HF := Hid.mk' (hF.kept hkA)
  have HB := Hid.mk' (hB.kept hkA)
  have hBm := hB.max
  have n0_ : ∀ w', Kept WA w' none → w'.cell? ⟨w.heap.size + 1, 0, none⟩ = some (.slice a F.groups.length c) := fun w' q => (HBN.out.kept q).c0
  have n1_ : ∀ w', Kept WA w' none → w'.cell? ⟨w.heap.size + 1, 1, none⟩ = some (.int .i64 F.start) := fun w' q => (HBN.out.kept q).c1
  have n2_ : ∀ w', Kept WA w' none → w'.cell? ⟨w.heap.size + 1, 2, none⟩ = some (.bool F.flashed) := fun w' q => (HBN.out.kept q).c2
  have s0_ : ∀ w', Kept WA w' none → w'.cell? ⟨w.heap.size, 0, none⟩ = some (.int .i64 S.id) := fun w' q => (HSB.out.kept q).c0
  have s1_ : ∀ w', Kept WA w' none → w'.cell? ⟨w.heap.size, 1, none⟩ = some (.slice X.g S.groups.length X.gc) := fun w' q => (HSB.out.kept q).c1
  have s2_ : ∀ w', Kept WA w' none → w'.cell? ⟨w.heap.size, 2, none⟩ = some (.slice X.a S.apart.length X.ac) := fun w' q => (HSB.out.kept q).c2
  have s3_ : ∀ w', Kept WA w' none → w'.cell? ⟨w.heap.size, 3, none⟩ = some (.slice X.b S.between.length X.bc) := fun w' q => (HSB.out.kept q).c3
  have s4_ : ∀ w', Kept WA w' none → w'.cell? ⟨w.heap.size, 4, none⟩ = some (.slice X.p S.phases.length X.pc) := fun w' q => (HSB.out.kept q).c4
  have s5_ : ∀ w', Kept WA w' none → w'.cell? ⟨w.heap.size, 5, none⟩ = some (.slice X.e S.eyes.length X.ec) := fun w' q => (HSB.out.kept q).c5
  have s6_ : ∀ w', Kept WA w' none → w'.cell? ⟨w.heap.size, 6, none⟩ = some (.int .i64 S.watch) := fun w' q => (HSB.out.kept q).c6
  have s7_ : ∀ w', Kept WA w' none → w'.cell? ⟨w.heap.size, 7, none⟩ = some (.int .i64 S.feed) := fun w' q => (HSB.out.kept q).c7
  have s8_ : ∀ w', Kept WA w' none → w'.cell? ⟨w.heap.size, 8, none⟩ = some (.int .i64 S.heal) := fun w' q => (HSB.out.kept q).c8
  have s9_ : ∀ w', Kept WA w' none → w'.cell? ⟨w.heap.size, 9, none⟩ = some (.int .i64 S.low) := fun w' q => (HSB.out.kept q).c9
  have s10_ : ∀ w', Kept WA w' none → w'.cell? ⟨w.heap.size, 10, none⟩ = some (.int .i64 S.high) := fun w' q => (HSB.out.kept q).c10
  have s11_ : ∀ w', Kept WA w' none → w'.cell? ⟨w.heap.size, 11, none⟩ = some (.slice X.l S.plans.length X.lc) := fun w' q => (HSB.out.kept q).c11
  have hK0 := Kept.refl WA none
  clear h hT hF hB k1 k2 hsb bn hkA hl hn
  go_enter Tryd.func4, Tryd.ntmps4
  go_wp2_with (first | rw [hWA])
  go_at_call 16
  refine (rgreat_any HS.out).mono ?_
  rintro e wg ⟨gr, rfl, hgr, hkg⟩
  have hKg : Kept WA wg none := hkg
  clear hgr
  cases gr with
  | true =>
    go_wp2
    go_ret
    exact ⟨rfl, (HK.out.tr hKg).below⟩
  | false =>
  go_wp2
  go_ret
  exact ⟨rfl, (HK.out.tr hKg).below⟩
set_option maxRecDepth 100000 in
set_option maxHeartbeats 4000000 in
theorem gadm_go {X : Sa} {S : St} {w : World} {a : Option Addr} {c : Nat} {F : Sf} {al : Option Addr} {n cl : Nat} {L : List Nat} {gi : Int} (h : Sat w X S) (hT : Tabb w) (hF : SafeAt w a c F) (hB : By w al n L) (hC : al = none → cl = 0) (hl : F.groups.length ≤ 100) (hn : n ≤ 100) : Calls Tryd.prog 4 #[siteV X S, safeV a c F, .slice al n cl, .int .i64 gi] w fun e w' => e = .returned (.bool true) ∧ Below w.heap.size w w' := by
  have hlb : decide ((100 : Int) < (F.groups.length : Int)) = false := by simp; omega
  have hnb : decide ((100 : Int) < (n : Int)) = false := by simp; omega
  have hl9 : F.groups.length ≤ 900 := by omega
  obtain ⟨z1, A, hd1, hd2⟩ := adm_both (n := n) (L := L) h hT hl
  obtain ⟨t, z2, ho1, ho2⟩ := opn_both gi h hT hl
  have HD1 := Hid.mk' hd1
  have HD2 := Hid.mk' hd2
  have HO1 := Hid.mk' ho1
  have HO2 := Hid.mk' ho2
  have HLT := Hid.mk' hB.lt
  have hFr := hF.cap.room
  have hFm := hF.cap.max
  have k1 : Kept w (w.alloc (.cells #[.int .i64 S.id, .slice X.g S.groups.length X.gc, .slice X.a S.apart.length X.ac, .slice X.b S.between.length X.bc, .slice X.p S.phases.length X.pc, .slice X.e S.eyes.length X.ec, .int .i64 S.watch, .int .i64 S.feed, .int .i64 S.heal, .int .i64 S.low, .int .i64 S.high, .slice X.l S.plans.length X.lc] 34)) none := Kept.alloc _ _ _ _ _
  have k2 : Kept (w.alloc (.cells #[.int .i64 S.id, .slice X.g S.groups.length X.gc, .slice X.a S.apart.length X.ac, .slice X.b S.between.length X.bc, .slice X.p S.phases.length X.pc, .slice X.e S.eyes.length X.ec, .int .i64 S.watch, .int .i64 S.feed, .int .i64 S.heal, .int .i64 S.low, .int .i64 S.high, .slice X.l S.plans.length X.lc] 34)) ((w.alloc (.cells #[.int .i64 S.id, .slice X.g S.groups.length X.gc, .slice X.a S.apart.length X.ac, .slice X.b S.between.length X.bc, .slice X.p S.phases.length X.pc, .slice X.e S.eyes.length X.ec, .int .i64 S.watch, .int .i64 S.feed, .int .i64 S.heal, .int .i64 S.low, .int .i64 S.high, .slice X.l S.plans.length X.lc] 34)).alloc (.cells #[.slice a F.groups.length c, .int .i64 F.start, .bool F.flashed] 41)) none := Kept.alloc _ _ _ _ _
  have hsb := (sbox_alloc h 34).kept k2
  have bn := box_alloc (w.alloc (.cells #[.int .i64 S.id, .slice X.g S.groups.length X.gc, .slice X.a S.apart.length X.ac, .slice X.b S.between.length X.bc, .slice X.p S.phases.length X.pc, .slice X.e S.eyes.length X.ec, .int .i64 S.watch, .int .i64 S.feed, .int .i64 S.heal, .int .i64 S.low, .int .i64 S.high, .slice X.l S.plans.length X.lc] 34)) (.slice a F.groups.length c) (.int .i64 F.start) (.bool F.flashed) 41
  rw [World.size_alloc] at bn
  have hkA := k1.tr k2
  obtain ⟨WA, hWA⟩ : ∃ WA, ((w.alloc (.cells #[.int .i64 S.id, .slice X.g S.groups.length X.gc, .slice X.a S.apart.length X.ac, .slice X.b S.between.length X.bc, .slice X.p S.phases.length X.pc, .slice X.e S.eyes.length X.ec, .int .i64 S.watch, .int .i64 S.feed, .int .i64 S.heal, .int .i64 S.low, .int .i64 S.high, .slice X.l S.plans.length X.lc] 34)).alloc (.cells #[.slice a F.groups.length c, .int .i64 F.start, .bool F.flashed] 41)) = WA := ⟨_, rfl⟩
  rw [hWA] at hsb bn hkA
  have HSB := Hid.mk' hsb
  have HBN := Hid.mk' bn
  have HK := Hid.mk' hkA
  have HS := Hid.mk' (h.kept hkA)
  have HT := Hid.mk' (hT.kept hkA)
  have HF := Hid.mk' (hF.kept hkA)
  have HB := Hid.mk' (hB.kept hkA)
  have hBm := hB.max
  have n0_ : ∀ w', Kept WA w' none → w'.cell? ⟨w.heap.size + 1, 0, none⟩ = some (.slice a F.groups.length c) := fun w' q => (HBN.out.kept q).c0
  have n1_ : ∀ w', Kept WA w' none → w'.cell? ⟨w.heap.size + 1, 1, none⟩ = some (.int .i64 F.start) := fun w' q => (HBN.out.kept q).c1
  have n2_ : ∀ w', Kept WA w' none → w'.cell? ⟨w.heap.size + 1, 2, none⟩ = some (.bool F.flashed) := fun w' q => (HBN.out.kept q).c2
  have s0_ : ∀ w', Kept WA w' none → w'.cell? ⟨w.heap.size, 0, none⟩ = some (.int .i64 S.id) := fun w' q => (HSB.out.kept q).c0
  have s1_ : ∀ w', Kept WA w' none → w'.cell? ⟨w.heap.size, 1, none⟩ = some (.slice X.g S.groups.length X.gc) := fun w' q => (HSB.out.kept q).c1
  have s2_ : ∀ w', Kept WA w' none → w'.cell? ⟨w.heap.size, 2, none⟩ = some (.slice X.a S.apart.length X.ac) := fun w' q => (HSB.out.kept q).c2
  have s3_ : ∀ w', Kept WA w' none → w'.cell? ⟨w.heap.size, 3, none⟩ = some (.slice X.b S.between.length X.bc) := fun w' q => (HSB.out.kept q).c3
  have s4_ : ∀ w', Kept WA w' none → w'.cell? ⟨w.heap.size, 4, none⟩ = some (.slice X.p S.phases.length X.pc) := fun w' q => (HSB.out.kept q).c4
  have s5_ : ∀ w', Kept WA w' none → w'.cell? ⟨w.heap.size, 5, none⟩ = some (.slice X.e S.eyes.length X.ec) := fun w' q => (HSB.out.kept q).c5
  have s6_ : ∀ w', Kept WA w' none → w'.cell? ⟨w.heap.size, 6, none⟩ = some (.int .i64 S.watch) := fun w' q => (HSB.out.kept q).c6
  have s7_ : ∀ w', Kept WA w' none → w'.cell? ⟨w.heap.size, 7, none⟩ = some (.int .i64 S.feed) := fun w' q => (HSB.out.kept q).c7
  have s8_ : ∀ w', Kept WA w' none → w'.cell? ⟨w.heap.size, 8, none⟩ = some (.int .i64 S.heal) := fun w' q => (HSB.out.kept q).c8
  have s9_ : ∀ w', Kept WA w' none → w'.cell? ⟨w.heap.size, 9, none⟩ = some (.int .i64 S.low) := fun w' q => (HSB.out.kept q).c9
  have s10_ : ∀ w', Kept WA w' none → w'.cell? ⟨w.heap.size, 10, none⟩ = some (.int .i64 S.high) := fun w' q => (HSB.out.kept q).c10
  have s11_ : ∀ w', Kept WA w' none → w'.cell? ⟨w.heap.size, 11, none⟩ = some (.slice X.l S.plans.length X.lc) := fun w' q => (HSB.out.kept q).c11
  have hK0 := Kept.refl WA none
  clear h hT hF hB k1 k2 hsb bn hkA hd1 hd2 ho1 ho2 hl
  go_enter Tryd.func4, Tryd.ntmps4
  go_wp2_with (first | rw [hWA])
  go_at_call 16
  refine (rgreat_any HS.out).mono ?_
  rintro e wg ⟨gr, rfl, hgr, hkg⟩
  have hKg : Kept WA wg none := hkg
  clear hgr
  cases gr with
  | true =>
    go_wp2
    go_ret
    exact ⟨rfl, (HK.out.tr hKg).below⟩
  | false =>
  go_wp2_with (first
    | rw [hWB]
    | (have hgo := hK5; clear hgo; go_at_call 20; refine (rsame9_yes (HA2.out.kept (hk3.tr (hk4.tr hk5))) (HA3.out.kept (hk4.tr hk5))).mono ?_; rintro e w6 ⟨rfl, hk6⟩; have hK6 : Kept WB w6 none := hK5.tr hk6)
    | (go_at_call 19; refine (HO2.out _ _ _ (HKB.out.tr hK4) (HF.out.kept (HWB.out.tr hK4))).mono ?_; rintro e w5 ⟨rfl, hk5⟩; have hK5 : Kept WB w5 none := hK4.tr hk5)
    | (go_at_call 14; refine (HO1.out _ _ _ (HKB.out.tr hK3) (HSO.out.kept hK3)).mono ?_; rintro e w4 ⟨rfl, hk4⟩; have hK4 : Kept WB w4 none := hK3.tr hk4)
    | (go_at_call 18; refine (HD2.out _ _ _ _ _ (HKB.out.tr hK2) (HF.out.kept (HWB.out.tr hK2)) (HB.out.kept (HWB.out.tr hK2))).mono ?_; rintro e w3 ⟨a3, c3, rfl, hby3, hk3⟩; have HA3 := Hid.mk' hby3; have hK3 : Kept WB w3 none := hK2.tr hk3; clear hby3)
    | (go_at_call 12; refine (HD1.out _ _ _ _ _ (HKB.out.tr hK1) (HSO.out.kept hK1) (HMI.out.by HLT.out)).mono ?_; rintro e w2 ⟨a2, c2, rfl, hby2, hw2, hr2, hx2, hk2⟩; have HA2 := Hid.mk' hby2; have HW2 := Hid.mk' hw2; have hK2 : Kept WB w2 none := hK1.tr hk2; clear hby2 hw2)
    | (at_builtin; refine wpList_join (by rfl) _ _ (by rfl) WB.heap.size (.slice none 0 0) 0 [] (by rfl) (World.ownsRow_nil _ _ _ _) al n cl L (by rfl) (HB.out.kept HWB.out) hC (by omega) (Nat.le_refl _) ?_; intro a1 c1 w1 hm1 hg1; rw [show 0 + n = n from Nat.zero_add n, List.nil_append] at hm1; rw [show 0 + n = n from Nat.zero_add n]; have hK1 : Kept WB w1 none := hg1; have HMI := Hid.mk' hm1; have hr1 := hm1.room; have hx1 := hm1.max; clear hm1)
    | (go_at_call 17; refine (rtwin_any (HF.out.kept hKg) hl9).mono ?_; rintro e wT ⟨aO, cO, rfl, hsO, hnO, hkT⟩; obtain ⟨WB, hWB, kWB, o0_, o1_, o2_, zWB⟩ := newbox9 wT (.slice aO F.groups.length cO) (.int .i64 F.start) (.bool F.flashed) 41; clear zWB hnO; have HWB := Hid.mk' ((hKg.tr hkT).tr kWB); have HKB := Hid.mk' (HK.out.tr HWB.out); have HSO := Hid.mk' (hsO.kept kWB); have hK0B := Kept.refl WB none; have n0B : ∀ w', Kept WB w' none → w'.cell? ⟨w.heap.size + 1, 0, none⟩ = some (.slice a F.groups.length c) := (fun w' q => n0_ w' (HWB.out.tr q)); have n1B : ∀ w', Kept WB w' none → w'.cell? ⟨w.heap.size + 1, 1, none⟩ = some (.int .i64 F.start) := (fun w' q => n1_ w' (HWB.out.tr q)); have n2B : ∀ w', Kept WB w' none → w'.cell? ⟨w.heap.size + 1, 2, none⟩ = some (.bool F.flashed) := (fun w' q => n2_ w' (HWB.out.tr q)); have b0_ : ∀ w', Kept WB w' none → w'.cell? ⟨w.heap.size, 0, none⟩ = some (.int .i64 S.id) := (fun w' q => s0_ w' (HWB.out.tr q)); have b1_ : ∀ w', Kept WB w' none → w'.cell? ⟨w.heap.size, 1, none⟩ = some (.slice X.g S.groups.length X.gc) := (fun w' q => s1_ w' (HWB.out.tr q)); have b2_ : ∀ w', Kept WB w' none → w'.cell? ⟨w.heap.size, 2, none⟩ = some (.slice X.a S.apart.length X.ac) := (fun w' q => s2_ w' (HWB.out.tr q)); have b3_ : ∀ w', Kept WB w' none → w'.cell? ⟨w.heap.size, 3, none⟩ = some (.slice X.b S.between.length X.bc) := (fun w' q => s3_ w' (HWB.out.tr q)); have b4_ : ∀ w', Kept WB w' none → w'.cell? ⟨w.heap.size, 4, none⟩ = some (.slice X.p S.phases.length X.pc) := (fun w' q => s4_ w' (HWB.out.tr q)); have b5_ : ∀ w', Kept WB w' none → w'.cell? ⟨w.heap.size, 5, none⟩ = some (.slice X.e S.eyes.length X.ec) := (fun w' q => s5_ w' (HWB.out.tr q)); have b6_ : ∀ w', Kept WB w' none → w'.cell? ⟨w.heap.size, 6, none⟩ = some (.int .i64 S.watch) := (fun w' q => s6_ w' (HWB.out.tr q)); have b7_ : ∀ w', Kept WB w' none → w'.cell? ⟨w.heap.size, 7, none⟩ = some (.int .i64 S.feed) := (fun w' q => s7_ w' (HWB.out.tr q)); have b8_ : ∀ w', Kept WB w' none → w'.cell? ⟨w.heap.size, 8, none⟩ = some (.int .i64 S.heal) := (fun w' q => s8_ w' (HWB.out.tr q)); have b9_ : ∀ w', Kept WB w' none → w'.cell? ⟨w.heap.size, 9, none⟩ = some (.int .i64 S.low) := (fun w' q => s9_ w' (HWB.out.tr q)); have b10_ : ∀ w', Kept WB w' none → w'.cell? ⟨w.heap.size, 10, none⟩ = some (.int .i64 S.high) := (fun w' q => s10_ w' (HWB.out.tr q)); have b11_ : ∀ w', Kept WB w' none → w'.cell? ⟨w.heap.size, 11, none⟩ = some (.slice X.l S.plans.length X.lc) := (fun w' q => s11_ w' (HWB.out.tr q)); clear n0_ n1_ n2_ s0_ s1_ s2_ s3_ s4_ s5_ s6_ s7_ s8_ s9_ s10_ s11_ hsO))
  have hbc : ∃ bc, 0 < A.length → a2 = some ⟨bc, 0, none⟩ ∧ w1.heap.size ≤ bc ∧ ∃ g, w6.rowIs bc 5 A.length g := by
    by_cases hp : 0 < A.length
    · obtain ⟨b, g, e, hb, ho⟩ := HW2.out hp
      exact ⟨b, fun _ => ⟨e, hb, g, row_kept ho ((hk3.tr (hk4.tr hk5)).tr hk6) (by simp)⟩⟩
    · exact ⟨0, fun hh => absurd hh hp⟩
  obtain ⟨bc, hbc⟩ := hbc
  have HBC := Hid.mk' hbc
  have K16 := Hid.mk' (((hk2.tr hk3).tr (hk4.tr hk5)).tr hk6)
  have K1B := Hid.mk' hK1
  clear hbc hk2 hk3 hk4 hk5 hk6 hK2 hK3 hK4 hK5 hK6 hkT kWB hK0B hg1
  go_loopw [20] (fun i wr => ∃ k : Nat, k ≤ A.length ∧ i = .int .i64 k ∧ Kept w1 wr none ∧ (0 < A.length → ∃ g, wr.rowIs bc 5 A.length g)) (fun i _ => A.length - (intOf i).toNat)
  case atStart => exact ⟨0, by omega, rfl, K16.out, fun hp => (HBC.out hp).2.2⟩
  case round =>
    obtain ⟨k, hk, rfl, hkw, hog⟩ := hrel
    by_cases hlt : k < A.length
    · obtain ⟨ea, hb4, _⟩ := HBC.out (by omega)
      subst ea
      obtain ⟨g, ho⟩ := hog (by omega)
      have y0 := ho.cell hlt
      have z0 := ho.frozen k
      have HO := Hid.mk' ho
      have HKW := Hid.mk' hkw
      have HB4 := Hid.mk' hb4
      clear ho hog hkw hb4
      go_wp2
      go_roundw
      case rel => exact ⟨k + 1, by omega, by go_num, HKW.out.setNew (p := ⟨bc, k, none⟩) HB4.out _, fun _ => ⟨_, HO.out.set k _⟩⟩
      case measure => simp [intOf]; omega
    · have e : k = A.length := by omega
      have hKw : Kept WB wr none := K1B.out.tr hkw
      have HK1W := Hid.mk' hkw
      clear hog hkw
      subst e
      go_wp2_with (first
        | (go_at_call 20; refine (rsame9_yes ((HMI.out.by HLT.out).kept (HK1W.out.tr hk7)) (HB.out.kept (HWB.out.tr (hKw.tr hk7)))).mono ?_; rintro e w8 ⟨rfl, hk8⟩)
        | (go_at_call 21; refine (rsame8_yes (HSO.out.kept hKw) (HF.out.kept (HWB.out.tr hKw)) rfl rfl).mono ?_; rintro e w7 ⟨rfl, hk7⟩))
      go_ret
      exact ⟨rfl, (HKB.out.tr (hKw.tr (hk7.tr hk8))).below⟩
theorem gadmits_any {X : Sa} {S : St} {w : World} {a : Option Addr} {c : Nat} {F : Sf} {al : Option Addr} {n cl : Nat} {L : List Nat} {gi : Int} (h : Sat w X S) (hT : Tabb w) (hF : SafeAt w a c F) (hB : By w al n L) (hC : al = none → cl = 0) : Calls Tryd.prog 4 #[siteV X S, safeV a c F, .slice al n cl, .int .i64 gi] w fun e w' => e = .returned (.bool true) ∧ Below w.heap.size w w' := by
  by_cases h1 : F.groups.length ≤ 100
  · by_cases h2 : n ≤ 100
    · exact gadm_go h hT hF hB hC h1 h2
    · exact gadm_wide h hT hF hB hC h1 (by omega)
  · exact gadm_long h hT hF hB hC (by omega)

end Go.Proofs.YtkbhcpgdhbfhnaaDoor

