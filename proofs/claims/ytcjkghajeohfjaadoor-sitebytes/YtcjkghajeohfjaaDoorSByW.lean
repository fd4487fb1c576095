/-
  Texts joined: some of those that the proofs of this seat stand on.
-/
import Derived.Test.YtcjkghajeohfjaaDoorRefPt
import Derived.Test.YtcjkghajeohfjaaDoorRefR
import Derived.Test.YtcjkghajeohfjaaDoorRefG
import Derived.Test.YtcjkghajeohfjaaDoorTwinE
import Derived.Test.YtcjkghajeohfjaaDoorSameB
import Derived.Test.YtcjkghajeohfjaaDoorSiteBJ
import Derived.Test.YtcjkghajeohfjaaDoorWholeJ
/-
  THE WALK of SiteBytes (made by a program).
-/
namespace Go.Proofs.YtcjkghajeohfjaaDoor
open Go.RowKit Go.Lib Go.Deep
set_option linter.unusedVariables false
set_option linter.unusedSimpArgs false

theorem wpList_joinS {ops : Array Oper} {rest : List Oper} {o : Oper} {act : Act} {Q : Exit → Act → World → Prop} {w : World} (hgd : o.guard = none) (s x : Operand)
    (ho : o.op = .call { callee := .builtin .append, args := #[s, x], argTypes := #[30, 30] })
    (base : Nat) (hs : act.eval s = .slice none 0 0) (a : Option Addr) (m c : Nat) (M : List Nat) (hx : act.eval x = .slice a m c) (hB : By w a m M) (ha : a = none → c = 0)
    (hm : m ≤ 70368744177664) (hbase : base ≤ w.heap.size)
    (h : ∀ a' cap w', Mine w' base a' m cap M → Kept w w' none → wpList Tryd.prog ops Q rest (act.put o.dst (.slice a' m cap)) w') : wpList Tryd.prog ops Q (o :: rest) act w := by
  refine wpList_join hgd s x ho base (.slice none 0 0) 0 [] hs (World.ownsRow_nil _ _ _ _) a m c M hx hB ha (by omega) hbase ?_
  intro a' cap w' h1 h2
  rw [Nat.zero_add] at h1 ⊢
  exact h a' cap w' h1 h2
theorem capS : Cap none 0 0 := ⟨fun _ => ⟨rfl, rfl⟩, Nat.le_refl _, Nat.zero_le _⟩
theorem plansS (w : World) : Plans w none 0 0 [] := ⟨⟨fun _ => (none, 0), ⟨fun hp => absurd hp (by simp)⟩, fun i hi => absurd hi (by simp)⟩, rfl, capS, by simp⟩
/-- A site that has nothing but plans. -/
def SLp (l : List Pl) : St := ⟨0, [], [], [], [], [], 0, 0, 0, 0, 0, l⟩
def XLp (a : Option Addr) (c : Nat) : Sa := ⟨none, 0, none, 0, none, 0, none, 0, none, 0, a, c⟩
theorem sat_lp {w : World} {a : Option Addr} {c : Nat} {l : List Pl} (h : Plans w a l.length c l) : Sat w (XLp a c) (SLp l) := by
  have hi : i64B 0 := by unfold i64B; omega
  exact ⟨⟨fun h => absurd h (Nat.lt_irrefl 0)⟩, ⟨fun h => absurd h (Nat.lt_irrefl 0)⟩, ⟨⟨fun _ => (none, 0), ⟨fun h => absurd h (Nat.lt_irrefl 0)⟩, fun i h => absurd h (Nat.not_lt_zero i)⟩, rfl, capS⟩, ⟨fun h => absurd h (Nat.lt_irrefl 0)⟩, ⟨fun h => absurd h (Nat.lt_irrefl 0)⟩, h, capS, capS, capS, capS, fun g h => (nomatch h), fun g h => (nomatch h), fun g h => (nomatch h), fun g h => (nomatch h), hi, hi, hi, hi, hi, hi⟩
theorem sat_0 (w : World) : Sat w X0 S0 := sat_lp (l := []) (plansS w)
/-! ### What Read and Parts answer, by one name -/
def RdS (L : List Nat) : St := if readB L = true then readS L else S0
def RdE (L : List Nat) : Int := if readB L = true then 0 else 8
def PtL (L : List Nat) : List Pl := if partsB L = true then (plansM (L, false)).1 else []
def PtE (L : List Nat) : Int := if partsB L = true then 0 else 8
def RdP (w : World) (L : List Nat) (e : Ending) (w' : World) : Prop := ∃ X, e = .returned (.tuple #[siteV X (RdS L), .int .i64 (RdE L)]) ∧ Sat w' X (RdS L) ∧ Kept w w' none
def PtP (w : World) (L : List Nat) (e : Ending) (w' : World) : Prop := ∃ a c, e = .returned (.tuple #[.slice a (PtL L).length c, .int .i64 (PtE L)]) ∧ Plans w' a (PtL L).length c (PtL L) ∧ Kept w w' none
theorem read_one {w : World} {a : Option Addr} {n c : Nat} {L : List Nat} (h : Come w a n c L) (hT : Tabb w) (hTb : Table w) : Calls Tryd.prog 8 #[.slice a n c] w (RdP w L) := by
  refine (read_site h hT hTb).mono ?_
  rintro e w' ⟨hk, ⟨hr, X, rfl, hs⟩ | ⟨hr, rfl⟩⟩
  · exact ⟨X, by unfold RdS RdE; rw [if_pos hr, if_pos hr], by unfold RdS; rw [if_pos hr]; exact hs w' ⟨Nat.le_refl _, fun _ _ _ => rfl⟩, hk⟩
  · exact ⟨X0, by unfold RdS RdE; rw [hr]; rfl, by unfold RdS; rw [hr]; exact sat_0 w', hk⟩
theorem dread_one {w : World} {a : Option Addr} {n c : Nat} {L : List Nat} (h : Come w a n c L) : Calls Tryd.prog 9 #[.slice a n c] w (RdP w L) := by
  refine (dread_any h).mono ?_
  rintro e w' ⟨hk, ⟨hr, X, rfl, hs⟩ | ⟨hr, rfl⟩⟩
  · exact ⟨X, by unfold RdS RdE; rw [if_pos hr, if_pos hr], by unfold RdS; rw [if_pos hr]; exact hs w' (Stay.refl _ _), hk⟩
  · exact ⟨X0, by unfold RdS RdE; rw [hr]; rfl, by unfold RdS; rw [hr]; exact sat_0 w', hk⟩
theorem parts_one {w : World} {a : Option Addr} {n c : Nat} {L : List Nat} (h : Come w a n c L) : Calls Tryd.prog 13 #[.slice a n c] w (PtP w L) := by
  refine (parts_any h).mono ?_
  rintro e w' ⟨hk, ⟨hr, g, rfl, hs⟩ | ⟨hr, rfl⟩⟩
  · exact ⟨_, _, by unfold PtL PtE; rw [if_pos hr, if_pos hr], by unfold PtL; rw [if_pos hr]; exact hs, hk⟩
  · exact ⟨none, 0, by unfold PtL PtE; rw [hr]; rfl, by unfold PtL; rw [hr]; exact plansS w', hk⟩
theorem dparts_one {w : World} {a : Option Addr} {n c : Nat} {L : List Nat} (h : Come w a n c L) : Calls Tryd.prog 14 #[.slice a n c] w (PtP w L) := by
  refine (dparts_any h).mono ?_
  rintro e w' ⟨hk, ⟨hr, a', c', rfl, hs⟩ | ⟨hr, rfl⟩⟩
  · exact ⟨_, _, by unfold PtL PtE; rw [if_pos hr, if_pos hr], by unfold PtL; rw [if_pos hr]; exact hs, hk⟩
  · exact ⟨none, 0, by unfold PtL PtE; rw [hr]; rfl, by unfold PtL; rw [hr]; exact plansS w', hk⟩
theorem Mine.come {w : World} {base : Nat} {a : Option Addr} {n cap : Nat} {L : List Nat} (h : Mine w base a n cap L) (hL : ∀ x ∈ L, x < 256) : Come w a n cap L := ⟨h.by hL, fun e => (h.nil e).2, h.room, h.max⟩
theorem Come.keptS {w w' : World} {a : Option Addr} {n c : Nat} {L : List Nat} (h : Come w a n c L) (q : Kept w w' none) : Come w' a n c L := ⟨h.by_.kept q, h.nil, h.room, h.max⟩
set_option maxRecDepth 100000 in
set_option maxHeartbeats 4000000 in
theorem sby_long {X : Sa} {S : St} {w : World} (h : Sat w X S) (hT : Tabb w) (hTb : Table w) {al : Option Addr} {cl : Nat} {l : List Pl} (hP : Plans w al l.length cl l) {a : Option Addr} {n c : Nat} {L : List Nat} (hA : Come w a n c L) (hl : 5000 < n) : Calls Tryd.prog 3 #[siteV X S, .slice al l.length cl, .slice a n c] w fun e w' => e = .returned (.bool true) ∧ Below w.heap.size w w' := by
  have hlb : decide ((5000 : Int) < (n : Int)) = true := by simp; omega
  have hkA : Kept w (w.alloc (.cells #[.int .i64 S.id, .slice X.g S.groups.length X.gc, .slice X.a S.apart.length X.ac, .slice X.b S.between.length X.bc, .slice X.p S.phases.length X.pc, .slice X.e S.eyes.length X.ec, .int .i64 S.watch, .int .i64 S.feed, .int .i64 S.heal, .int .i64 S.low, .int .i64 S.high, .slice X.l S.plans.length X.lc] 29)) none := Kept.alloc _ _ _ _ _
  have hsb := sbox_alloc h 29
  obtain ⟨WA, hWA⟩ : ∃ WA, w.alloc (.cells #[.int .i64 S.id, .slice X.g S.groups.length X.gc, .slice X.a S.apart.length X.ac, .slice X.b S.between.length X.bc, .slice X.p S.phases.length X.pc, .slice X.e S.eyes.length X.ec, .int .i64 S.watch, .int .i64 S.feed, .int .i64 S.heal, .int .i64 S.low, .int .i64 S.high, .slice X.l S.plans.length X.lc] 29) = WA := ⟨_, rfl⟩
  rw [hWA] at hkA hsb
  have HK := Hid.mk' hkA
  have HSB := Hid.mk' hsb
  have HS := Hid.mk' (h.kept hkA)
  have HT := Hid.mk' (hT.kept hkA)
  have HTb := Hid.mk' (hTb.kept hkA)
  have HP := Hid.mk' (hP.kept hkA)
  have HA := Hid.mk' (hA.keptS hkA)
  have hAm := hA.by_.max
  have HAL := Hid.mk' hA.by_.lt
  have s0_ : ∀ w', Kept WA w' none → w'.cell? ⟨w.heap.size, 0, none⟩ = some (.int .i64 S.id) := fun w' q => (HSB.out.kept q).c0
  have s1_ : ∀ w', Kept WA w' none → w'.cell? ⟨w.heap.size, 1, none⟩ = some (.slice X.g S.groups.length X.gc) := fun w' q => (HSB.out.kept q).c1
  have s2_ : ∀ w', Kept WA w' none → w'.cell? ⟨w.heap.size, 2, none⟩ = some (.slice X.a S.apart.length X.ac) := fun w' q => (HSB.out.kept q).c2
  have s3_ : ∀ w', Kept WA w' none → w'.cell? ⟨w.heap.size, 3, none⟩ = some (.slice X.b S.between.length X.bc) := fun w' q => (HSB.out.kept q).c3
  have s4_ : ∀ w', Kept WA w' none → w'.cell? ⟨w.heap.size, 4, none⟩ = some (.slice X.p S.phases.length X.pc) := fun w' q => (HSB.out.kept q).c4
  have s5_ : ∀ w', Kept WA w' none → w'.cell? ⟨w.heap.size, 5, none⟩ = some (.slice X.e S.eyes.length X.ec) := fun w' q => (HSB.out.kept q).c5
  have s6_ : ∀ w', Kept WA w' none → w'.cell? ⟨w.heap.size, 6, none⟩ = some (.int .i64 S.watch) := fun w' q => (HSB.out.kept q).c6
  have s7_ : ∀ w', Kept WA w' none → w'.cell? ⟨w.heap.size, 7, none⟩ = some (.int .i64 S.feed) := fun w' q => (HSB.out.kept q).c7
  have s8_ : ∀ w', Kept WA w' none → w'.cell? ⟨w.heap.size, 8, none⟩ = some (.int .i64 S.heal) := fun w' q => (HSB.out.kept q).c8
  have s9_ : ∀ w', Kept WA w' none → w'.cell? ⟨w.heap.size, 9, none⟩ = some (.int .i64 S.low) := fun w' q => (HSB.out.kept q).c9
  have s10_ : ∀ w', Kept WA w' none → w'.cell? ⟨w.heap.size, 10, none⟩ = some (.int .i64 S.high) := fun w' q => (HSB.out.kept q).c10
  have s11_ : ∀ w', Kept WA w' none → w'.cell? ⟨w.heap.size, 11, none⟩ = some (.slice X.l S.plans.length X.lc) := fun w' q => (HSB.out.kept q).c11
  have hK0 := Kept.refl WA none
  clear h hT hTb hP hA hkA hsb
  go_enter Tryd.func3, Tryd.ntmps3
  go_wp2_with (first | rw [hWA])
  go_at_call 4
  refine (rgreat_any (HS.out.kept hK0)).mono ?_
  rintro e w1 ⟨gr, rfl, hfew, hk1⟩
  have hK1 : Kept WA w1 none := hK0.tr hk1
  cases gr with
  | true =>
    go_wp2
    go_ret
    exact ⟨rfl, (HK.out.tr hK1).below⟩
  | false =>
    have HF1 := Hid.mk' (hfew rfl)
    clear hfew
    go_wp2_with (fail)
    go_at_call 4
    refine (rgreat_any (sat_lp (HP.out.kept hK1))).mono ?_
    rintro e w2 ⟨gr2, rfl, hfew, hk2⟩
    have hK2 : Kept WA w2 none := hK1.tr hk2
    cases gr2 with
    | true =>
      go_wp2
      go_ret
      exact ⟨rfl, (HK.out.tr hK2).below⟩
    | false =>
      have HF2 := Hid.mk' (hfew rfl)
      clear hfew
      go_wp2
      go_ret
      exact ⟨rfl, (HK.out.tr hK2).below⟩
set_option maxRecDepth 100000 in
set_option maxHeartbeats 16000000 in
theorem sby_go {X : Sa} {S : St} {w : World} (h : Sat w X S) (hT : Tabb w) (hTb : Table w) {al : Option Addr} {cl : Nat} {l : List Pl} (hP : Plans w al l.length cl l) {a : Option Addr} {n c : Nat} {L : List Nat} (hA : Come w a n c L) (hl : n ≤ 5000) : Calls Tryd.prog 3 #[siteV X S, .slice al l.length cl, .slice a n c] w fun e w' => e = .returned (.bool true) ∧ Below w.heap.size w w' := by
  have hlb : decide ((5000 : Int) < (n : Int)) = false := by simp; omega
  have hkA : Kept w (w.alloc (.cells #[.int .i64 S.id, .slice X.g S.groups.length X.gc, .slice X.a S.apart.length X.ac, .slice X.b S.between.length X.bc, .slice X.p S.phases.length X.pc, .slice X.e S.eyes.length X.ec, .int .i64 S.watch, .int .i64 S.feed, .int .i64 S.heal, .int .i64 S.low, .int .i64 S.high, .slice X.l S.plans.length X.lc] 29)) none := Kept.alloc _ _ _ _ _
  have hsb := sbox_alloc h 29
  obtain ⟨WA, hWA⟩ : ∃ WA, w.alloc (.cells #[.int .i64 S.id, .slice X.g S.groups.length X.gc, .slice X.a S.apart.length X.ac, .slice X.b S.between.length X.bc, .slice X.p S.phases.length X.pc, .slice X.e S.eyes.length X.ec, .int .i64 S.watch, .int .i64 S.feed, .int .i64 S.heal, .int .i64 S.low, .int .i64 S.high, .slice X.l S.plans.length X.lc] 29) = WA := ⟨_, rfl⟩
  rw [hWA] at hkA hsb
  have HK := Hid.mk' hkA
  have HSB := Hid.mk' hsb
  have HS := Hid.mk' (h.kept hkA)
  have HT := Hid.mk' (hT.kept hkA)
  have HTb := Hid.mk' (hTb.kept hkA)
  have HP := Hid.mk' (hP.kept hkA)
  have HA := Hid.mk' (hA.keptS hkA)
  have hAm := hA.by_.max
  have HAL := Hid.mk' hA.by_.lt
  have s0_ : ∀ w', Kept WA w' none → w'.cell? ⟨w.heap.size, 0, none⟩ = some (.int .i64 S.id) := fun w' q => (HSB.out.kept q).c0
  have s1_ : ∀ w', Kept WA w' none → w'.cell? ⟨w.heap.size, 1, none⟩ = some (.slice X.g S.groups.length X.gc) := fun w' q => (HSB.out.kept q).c1
  have s2_ : ∀ w', Kept WA w' none → w'.cell? ⟨w.heap.size, 2, none⟩ = some (.slice X.a S.apart.length X.ac) := fun w' q => (HSB.out.kept q).c2
  have s3_ : ∀ w', Kept WA w' none → w'.cell? ⟨w.heap.size, 3, none⟩ = some (.slice X.b S.between.length X.bc) := fun w' q => (HSB.out.kept q).c3
  have s4_ : ∀ w', Kept WA w' none → w'.cell? ⟨w.heap.size, 4, none⟩ = some (.slice X.p S.phases.length X.pc) := fun w' q => (HSB.out.kept q).c4
  have s5_ : ∀ w', Kept WA w' none → w'.cell? ⟨w.heap.size, 5, none⟩ = some (.slice X.e S.eyes.length X.ec) := fun w' q => (HSB.out.kept q).c5
  have s6_ : ∀ w', Kept WA w' none → w'.cell? ⟨w.heap.size, 6, none⟩ = some (.int .i64 S.watch) := fun w' q => (HSB.out.kept q).c6
  have s7_ : ∀ w', Kept WA w' none → w'.cell? ⟨w.heap.size, 7, none⟩ = some (.int .i64 S.feed) := fun w' q => (HSB.out.kept q).c7
  have s8_ : ∀ w', Kept WA w' none → w'.cell? ⟨w.heap.size, 8, none⟩ = some (.int .i64 S.heal) := fun w' q => (HSB.out.kept q).c8
  have s9_ : ∀ w', Kept WA w' none → w'.cell? ⟨w.heap.size, 9, none⟩ = some (.int .i64 S.low) := fun w' q => (HSB.out.kept q).c9
  have s10_ : ∀ w', Kept WA w' none → w'.cell? ⟨w.heap.size, 10, none⟩ = some (.int .i64 S.high) := fun w' q => (HSB.out.kept q).c10
  have s11_ : ∀ w', Kept WA w' none → w'.cell? ⟨w.heap.size, 11, none⟩ = some (.slice X.l S.plans.length X.lc) := fun w' q => (HSB.out.kept q).c11
  have hK0 := Kept.refl WA none
  clear h hT hTb hP hA hkA hsb
  go_enter Tryd.func3, Tryd.ntmps3
  go_wp2_with (first | rw [hWA])
  go_at_call 4
  refine (rgreat_any (HS.out.kept hK0)).mono ?_
  rintro e w1 ⟨gr, rfl, hfew, hk1⟩
  have hK1 : Kept WA w1 none := hK0.tr hk1
  cases gr with
  | true =>
    go_wp2
    go_ret
    exact ⟨rfl, (HK.out.tr hK1).below⟩
  | false =>
    have HF1 := Hid.mk' (hfew rfl)
    clear hfew
    go_wp2_with (fail)
    go_at_call 4
    refine (rgreat_any (sat_lp (HP.out.kept hK1))).mono ?_
    rintro e w2 ⟨gr2, rfl, hfew, hk2⟩
    have hK2 : Kept WA w2 none := hK1.tr hk2
    cases gr2 with
    | true =>
      go_wp2
      go_ret
      exact ⟨rfl, (HK.out.tr hK2).below⟩
    | false =>
      have HF2 := Hid.mk' (hfew rfl)
      clear hfew
      have HC1 : Hid (∀ w' X', Kept WA w' none → Sat w' X' S → Calls Tryd.prog 6 #[siteV X' S] w' fun e v => ∃ a' c', e = .returned (.tuple #[.slice a' (writeL S).length c', .int .i64 (checkE S)]) ∧ Mine v w'.heap.size a' (writeL S).length c' (writeL S) ∧ Kept w' v none) := fun w' X' q hs => write_any hs (HT.out.kept q) (HTb.out.kept q)
      have HC2 : Hid (∀ w' X', Kept WA w' none → Sat w' X' S → Calls Tryd.prog 7 #[siteV X' S] w' fun e v => ∃ a' c', e = .returned (.tuple #[.slice a' (writeL S).length c', .int .i64 (checkE S)]) ∧ Mine v w'.heap.size a' (writeL S).length c' (writeL S) ∧ Kept w' v none) := fun w' X' q hs => rwrite5_any hs
      have HC3 : Hid (∀ w' a1 c1, Kept WA w' none → Come w' a1 n c1 L → Calls Tryd.prog 8 #[.slice a1 n c1] w' fun e v => ∃ X', e = .returned (.tuple #[siteV X' (RdS L), .int .i64 (RdE L)]) ∧ Sat v X' (RdS L) ∧ Kept w' v none) := fun w' a1 c1 q hc => read_one hc (HT.out.kept q) (HTb.out.kept q)
      have HC4 : Hid (∀ w' a1 c1, Kept WA w' none → Come w' a1 n c1 L → Calls Tryd.prog 9 #[.slice a1 n c1] w' fun e v => ∃ X', e = .returned (.tuple #[siteV X' (RdS L), .int .i64 (RdE L)]) ∧ Sat v X' (RdS L) ∧ Kept w' v none) := fun w' a1 c1 q hc => dread_one hc
      have HC5 : Hid (∀ w' a1 c1, Plans w' a1 l.length c1 l → Calls Tryd.prog 10 #[.slice a1 l.length c1] w' fun e v => ∃ a' c', e = .returned (.tuple #[.slice a' (wholeL l).length c', .int .i64 (wholeE l)]) ∧ Mine v w'.heap.size a' (wholeL l).length c' (wholeL l) ∧ Kept w' v none) := fun w' a1 c1 hp => whole_any hp
      have HC6 : Hid (∀ w' a1 c1, Plans w' a1 l.length c1 l → Calls Tryd.prog 12 #[.slice a1 l.length c1] w' fun e v => ∃ a' c', e = .returned (.tuple #[.slice a' (wholeL l).length c', .int .i64 (wholeE l)]) ∧ Mine v w'.heap.size a' (wholeL l).length c' (wholeL l) ∧ Kept w' v none) := fun w' a1 c1 hp => rwhole_any hp
      have HC7 : Hid (∀ w' a1 c1, Come w' a1 n c1 L → Calls Tryd.prog 13 #[.slice a1 n c1] w' fun e v => ∃ a' c', e = .returned (.tuple #[.slice a' (PtL L).length c', .int .i64 (PtE L)]) ∧ Plans v a' (PtL L).length c' (PtL L) ∧ Kept w' v none) := fun w' a1 c1 hc => parts_one hc
      have HC8 : Hid (∀ w' a1 c1, Come w' a1 n c1 L → Calls Tryd.prog 14 #[.slice a1 n c1] w' fun e v => ∃ a' c', e = .returned (.tuple #[.slice a' (PtL L).length c', .int .i64 (PtE L)]) ∧ Plans v a' (PtL L).length c' (PtL L) ∧ Kept w' v none) := fun w' a1 c1 hc => dparts_one hc
      have HTW : Hid (∀ w', Kept WA w' none → Calls Tryd.prog 5 #[siteV X S] w' fun e v => ∃ X', e = .returned (siteV X' S) ∧ Sat v X' S ∧ Kept w' v none) := fun w' q => twin_any (HS.out.kept q) (by have := HF1.out.g; omega) (by have := HF1.out.a; omega) HF1.out.b (by have := HF1.out.p; omega) HF1.out.e HF1.out.l (fun i hi => by have := HF1.out.br i hi; omega) HF1.out.lr
      have HTP : Hid (∀ w', Kept WA w' none → Calls Tryd.prog 11 #[.slice al l.length cl] w' fun e v => ∃ a' c', e = .returned (.slice a' l.length c') ∧ Plans v a' l.length c' l ∧ Kept w' v none) := fun w' q => by
        refine (twinPlans_any (HP.out.kept q) HF2.out.l HF2.out.lr).mono ?_
        rintro e v ⟨a', c', rfl, h1, h2⟩
        exact ⟨a', c', rfl, h1 v ⟨Nat.le_refl _, fun _ _ _ => rfl⟩, h2⟩
      have HLW := Hid.mk' (writeL_lt S)
      have HLH := Hid.mk' (wholeL_lt l)
      clear HF1 HF2
      generalize writeL S = PL at *
      generalize checkE S = pe at *
      generalize wholeL l = UL at *
      generalize wholeE l = ue at *
      generalize RdS L = RS at *
      generalize RdE L = re at *
      generalize PtL L = PT at *
      generalize PtE L = pt at *
      go_wp2_with (first | rw [hW11] | rw [hW9] | rw [hW4] | (have hgo := hd18; clear hgo; go_at_call 15; refine (rsame_site (HSO.out.kept hO18) (HS.out.kept hA18)).mono ?_; rintro e w19 ⟨rfl, hk⟩; have hA19 : Kept WA w19 none := hA18.tr hk; have hO19 : Kept W4 w19 none := hO18.tr hk; have hI19 : Kept w5 w19 none := hI18.tr hk; have hP19 : Kept w6 w19 none := hP18.tr hk; have hQ19 : Kept w7 w19 none := hQ18.tr hk; have hX19 : Kept W9 w19 none := hX18.tr hk; have hY19 : Kept W11 w19 none := hY18.tr hk; have hU19 : Kept w13 w19 none := hU18.tr hk; have hV19 : Kept w14 w19 none := hV18.tr hk; have hM19 : Kept w15 w19 none := hM18.tr hk; have hN19 : Kept w16 w19 none := hN18.tr hk; clear hA18 hO18 hI18 hP18 hQ18 hX18 hY18 hU18 hV18 hM18 hN18; have t5 := run_text (HIN.out.by_.kept hI19) c5; have t6 := run_text (HA.out.by_.kept hA19) c; obtain ⟨T3, hT3⟩ : ∃ T, textOf L = T := ⟨_, rfl⟩; rw [hT3] at t5 t6; clear hk hT3) | (have hgo := hd17; clear hgo; go_at_call 16; refine (rsamePlans_yes (PM.out.kept hM17) (PN.out.kept hN17)).mono ?_; rintro e w18 ⟨rfl, hk⟩; have hA18 : Kept WA w18 none := hA17.tr hk; have hO18 : Kept W4 w18 none := hO17.tr hk; have hI18 : Kept w5 w18 none := hI17.tr hk; have hP18 : Kept w6 w18 none := hP17.tr hk; have hQ18 : Kept w7 w18 none := hQ17.tr hk; have hX18 : Kept W9 w18 none := hX17.tr hk; have hY18 : Kept W11 w18 none := hY17.tr hk; have hU18 : Kept w13 w18 none := hU17.tr hk; have hV18 : Kept w14 w18 none := hV17.tr hk; have hM18 : Kept w15 w18 none := hM17.tr hk; have hN18 : Kept w16 w18 none := hN17.tr hk; clear hA17 hO17 hI17 hP17 hQ17 hX17 hY17 hU17 hV17 hM17 hN17; have hd18 := trivial; clear hk hd17) | (have hgo := PN; clear hgo; go_at_call 15; refine (rsame_site (HSX.out.kept hX16) (HSY.out.kept hY16)).mono ?_; rintro e w17 ⟨rfl, hk⟩; have hA17 : Kept WA w17 none := hA16.tr hk; have hO17 : Kept W4 w17 none := hO16.tr hk; have hI17 : Kept w5 w17 none := hI16.tr hk; have hP17 : Kept w6 w17 none := hP16.tr hk; have hQ17 : Kept w7 w17 none := hQ16.tr hk; have hX17 : Kept W9 w17 none := hX16.tr hk; have hY17 : Kept W11 w17 none := hY16.tr hk; have hU17 : Kept w13 w17 none := hU16.tr hk; have hV17 : Kept w14 w17 none := hV16.tr hk; have hM17 : Kept w15 w17 none := hM16.tr hk; have hN17 : Kept w16 w17 none := hN16.tr hk; clear hA16 hO16 hI16 hP16 hQ16 hX16 hY16 hU16 hV16 hM16 hN16; have t3 := run_text ((MU.out.by HLH.out).kept hU17) c13; have t4 := run_text ((MV.out.by HLH.out).kept hV17) c14; obtain ⟨T2, hT2⟩ : ∃ T, textOf UL = T := ⟨_, rfl⟩; rw [hT2] at t3 t4; have hd17 := trivial; clear hk hT2) | (have hgo := PM; clear hgo; go_at_call 14; refine (HC8.out _ _ _ (HA.out.keptS hA15)).mono ?_; rintro e w16 ⟨a16, c16, rfl, hpl, hk⟩; have hA16 : Kept WA w16 none := hA15.tr hk; have hO16 : Kept W4 w16 none := hO15.tr hk; have hI16 : Kept w5 w16 none := hI15.tr hk; have hP16 : Kept w6 w16 none := hP15.tr hk; have hQ16 : Kept w7 w16 none := hQ15.tr hk; have hX16 : Kept W9 w16 none := hX15.tr hk; have hY16 : Kept W11 w16 none := hY15.tr hk; have hU16 : Kept w13 w16 none := hU15.tr hk; have hV16 : Kept w14 w16 none := hV15.tr hk; have hM16 : Kept w15 w16 none := hM15.tr hk; clear hA15 hO15 hI15 hP15 hQ15 hX15 hY15 hU15 hV15 hM15; have PN := Hid.mk' hpl; have hN16 := Kept.refl w16 none; have t1 := run_text ((MP.out.by HLW.out).kept hP16) c6; have t2 := run_text ((MQ.out.by HLW.out).kept hQ16) c7; obtain ⟨T1, hT1⟩ : ∃ T, textOf PL = T := ⟨_, rfl⟩; rw [hT1] at t1 t2; clear hpl hk hT1) | (have hgo := MV; clear hgo; go_at_call 13; refine (HC7.out _ _ _ (HIN.out.keptS hI14)).mono ?_; rintro e w15 ⟨a15, c15, rfl, hpl, hk⟩; have hA15 : Kept WA w15 none := hA14.tr hk; have hO15 : Kept W4 w15 none := hO14.tr hk; have hI15 : Kept w5 w15 none := hI14.tr hk; have hP15 : Kept w6 w15 none := hP14.tr hk; have hQ15 : Kept w7 w15 none := hQ14.tr hk; have hX15 : Kept W9 w15 none := hX14.tr hk; have hY15 : Kept W11 w15 none := hY14.tr hk; have hU15 : Kept w13 w15 none := hU14.tr hk; have hV15 : Kept w14 w15 none := hV14.tr hk; clear hA14 hO14 hI14 hP14 hQ14 hX14 hY14 hU14 hV14; have PM := Hid.mk' hpl; have hM15 := Kept.refl w15 none; clear hpl hk) | (have hgo := MU; clear hgo; go_at_call 12; refine (HC6.out _ _ _ (HP.out.kept hA13)).mono ?_; rintro e w14 ⟨a14, c14, rfl, hm, hk⟩; have hA14 : Kept WA w14 none := hA13.tr hk; have hO14 : Kept W4 w14 none := hO13.tr hk; have hI14 : Kept w5 w14 none := hI13.tr hk; have hP14 : Kept w6 w14 none := hP13.tr hk; have hQ14 : Kept w7 w14 none := hQ13.tr hk; have hX14 : Kept W9 w14 none := hX13.tr hk; have hY14 : Kept W11 w14 none := hY13.tr hk; have hU14 : Kept w13 w14 none := hU13.tr hk; clear hA13 hO13 hI13 hP13 hQ13 hX13 hY13 hU13; have MV := Hid.mk' hm; have hV14 := Kept.refl w14 none; clear hm hk) | (have hgo := HPT; clear hgo; go_at_call 10; refine (HC5.out _ _ _ HPT.out).mono ?_; rintro e w13 ⟨a13, c13, rfl, hm, hk⟩; have hA13 : Kept WA w13 none := hA12.tr hk; have hO13 : Kept W4 w13 none := hO12.tr hk; have hI13 : Kept w5 w13 none := hI12.tr hk; have hP13 : Kept w6 w13 none := hP12.tr hk; have hQ13 : Kept w7 w13 none := hQ12.tr hk; have hX13 : Kept W9 w13 none := hX12.tr hk; have hY13 : Kept W11 w13 none := hY12.tr hk; clear hA12 hO12 hI12 hP12 hQ12 hX12 hY12; have MU := Hid.mk' hm; have hU13 := Kept.refl w13 none; clear hm hk HPT) | (have hgo := hYW11; clear hgo; go_at_call 11; refine (HTP.out _ hAW11).mono ?_; rintro e w12 ⟨a12, c12, rfl, hpl, hk⟩; have hA12 : Kept WA w12 none := hAW11.tr hk; have hO12 : Kept W4 w12 none := hOW11.tr hk; have hI12 : Kept w5 w12 none := hIW11.tr hk; have hP12 : Kept w6 w12 none := hPW11.tr hk; have hQ12 : Kept w7 w12 none := hQW11.tr hk; have hX12 : Kept W9 w12 none := hXW11.tr hk; have hY12 : Kept W11 w12 none := hYW11.tr hk; clear hAW11 hOW11 hIW11 hPW11 hQW11 hXW11 hYW11; have HPT := Hid.mk' hpl; clear hpl hk) | (have hgo := hXW9; clear hgo; go_at_call 9; refine (HC4.out _ _ _ hAW9 (HA.out.keptS hAW9)).mono ?_; rintro e w10 ⟨X10, rfl, hsat, hk⟩; have hA10 : Kept WA w10 none := hAW9.tr hk; have hO10 : Kept W4 w10 none := hOW9.tr hk; have hI10 : Kept w5 w10 none := hIW9.tr hk; have hP10 : Kept w6 w10 none := hPW9.tr hk; have hQ10 : Kept w7 w10 none := hQW9.tr hk; have hX10 : Kept W9 w10 none := hXW9.tr hk; clear hAW9 hOW9 hIW9 hPW9 hQW9 hXW9; clear hk; have hk : Kept w10 (w10.alloc (.cells #[.int .i64 RS.id, .slice X10.g RS.groups.length X10.gc, .slice X10.a RS.apart.length X10.ac, .slice X10.b RS.between.length X10.bc, .slice X10.p RS.phases.length X10.pc, .slice X10.e RS.eyes.length X10.ec, .int .i64 RS.watch, .int .i64 RS.feed, .int .i64 RS.heal, .int .i64 RS.low, .int .i64 RS.high, .slice X10.l RS.plans.length X10.lc] 29)) none := Kept.alloc _ _ _ (0, 0) _; have hbb := sbox_alloc hsat 29; obtain ⟨W11, hW11⟩ : ∃ W11, w10.alloc (.cells #[.int .i64 RS.id, .slice X10.g RS.groups.length X10.gc, .slice X10.a RS.apart.length X10.ac, .slice X10.b RS.between.length X10.bc, .slice X10.p RS.phases.length X10.pc, .slice X10.e RS.eyes.length X10.ec, .int .i64 RS.watch, .int .i64 RS.feed, .int .i64 RS.heal, .int .i64 RS.low, .int .i64 RS.high, .slice X10.l RS.plans.length X10.lc] 29) = W11 := ⟨_, rfl⟩; rw [hW11] at hk hbb; have HYB := Hid.mk' hbb; clear hbb; have y0_ : ∀ w', Kept W11 w' none → w'.cell? ⟨w10.heap.size, 0, none⟩ = some (.int .i64 RS.id) := fun w' q => (HYB.out.kept q).c0; have y1_ : ∀ w', Kept W11 w' none → w'.cell? ⟨w10.heap.size, 1, none⟩ = some (.slice X10.g RS.groups.length X10.gc) := fun w' q => (HYB.out.kept q).c1; have y2_ : ∀ w', Kept W11 w' none → w'.cell? ⟨w10.heap.size, 2, none⟩ = some (.slice X10.a RS.apart.length X10.ac) := fun w' q => (HYB.out.kept q).c2; have y3_ : ∀ w', Kept W11 w' none → w'.cell? ⟨w10.heap.size, 3, none⟩ = some (.slice X10.b RS.between.length X10.bc) := fun w' q => (HYB.out.kept q).c3; have y4_ : ∀ w', Kept W11 w' none → w'.cell? ⟨w10.heap.size, 4, none⟩ = some (.slice X10.p RS.phases.length X10.pc) := fun w' q => (HYB.out.kept q).c4; have y5_ : ∀ w', Kept W11 w' none → w'.cell? ⟨w10.heap.size, 5, none⟩ = some (.slice X10.e RS.eyes.length X10.ec) := fun w' q => (HYB.out.kept q).c5; have y6_ : ∀ w', Kept W11 w' none → w'.cell? ⟨w10.heap.size, 6, none⟩ = some (.int .i64 RS.watch) := fun w' q => (HYB.out.kept q).c6; have y7_ : ∀ w', Kept W11 w' none → w'.cell? ⟨w10.heap.size, 7, none⟩ = some (.int .i64 RS.feed) := fun w' q => (HYB.out.kept q).c7; have y8_ : ∀ w', Kept W11 w' none → w'.cell? ⟨w10.heap.size, 8, none⟩ = some (.int .i64 RS.heal) := fun w' q => (HYB.out.kept q).c8; have y9_ : ∀ w', Kept W11 w' none → w'.cell? ⟨w10.heap.size, 9, none⟩ = some (.int .i64 RS.low) := fun w' q => (HYB.out.kept q).c9; have y10_ : ∀ w', Kept W11 w' none → w'.cell? ⟨w10.heap.size, 10, none⟩ = some (.int .i64 RS.high) := fun w' q => (HYB.out.kept q).c10; have y11_ : ∀ w', Kept W11 w' none → w'.cell? ⟨w10.heap.size, 11, none⟩ = some (.slice X10.l RS.plans.length X10.lc) := fun w' q => (HYB.out.kept q).c11; have hAW11 : Kept WA W11 none := hA10.tr hk; have hOW11 : Kept W4 W11 none := hO10.tr hk; have hIW11 : Kept w5 W11 none := hI10.tr hk; have hPW11 : Kept w6 W11 none := hP10.tr hk; have hQW11 : Kept w7 W11 none := hQ10.tr hk; have hXW11 : Kept W9 W11 none := hX10.tr hk; clear hA10 hO10 hI10 hP10 hQ10 hX10; have HSY := Hid.mk' (hsat.kept hk); have hYW11 := Kept.refl W11 none; clear hsat hk) | (have hgo := hQ7; clear hgo; go_at_call 8; refine (HC3.out _ _ _ hA7 (HIN.out.keptS hI7)).mono ?_; rintro e w8 ⟨X8, rfl, hsat, hk⟩; have hA8 : Kept WA w8 none := hA7.tr hk; have hO8 : Kept W4 w8 none := hO7.tr hk; have hI8 : Kept w5 w8 none := hI7.tr hk; have hP8 : Kept w6 w8 none := hP7.tr hk; have hQ8 : Kept w7 w8 none := hQ7.tr hk; clear hA7 hO7 hI7 hP7 hQ7; clear hk; have hk : Kept w8 (w8.alloc (.cells #[.int .i64 RS.id, .slice X8.g RS.groups.length X8.gc, .slice X8.a RS.apart.length X8.ac, .slice X8.b RS.between.length X8.bc, .slice X8.p RS.phases.length X8.pc, .slice X8.e RS.eyes.length X8.ec, .int .i64 RS.watch, .int .i64 RS.feed, .int .i64 RS.heal, .int .i64 RS.low, .int .i64 RS.high, .slice X8.l RS.plans.length X8.lc] 29)) none := Kept.alloc _ _ _ (0, 0) _; have hbb := sbox_alloc hsat 29; obtain ⟨W9, hW9⟩ : ∃ W9, w8.alloc (.cells #[.int .i64 RS.id, .slice X8.g RS.groups.length X8.gc, .slice X8.a RS.apart.length X8.ac, .slice X8.b RS.between.length X8.bc, .slice X8.p RS.phases.length X8.pc, .slice X8.e RS.eyes.length X8.ec, .int .i64 RS.watch, .int .i64 RS.feed, .int .i64 RS.heal, .int .i64 RS.low, .int .i64 RS.high, .slice X8.l RS.plans.length X8.lc] 29) = W9 := ⟨_, rfl⟩; rw [hW9] at hk hbb; have HXB := Hid.mk' hbb; clear hbb; have x0_ : ∀ w', Kept W9 w' none → w'.cell? ⟨w8.heap.size, 0, none⟩ = some (.int .i64 RS.id) := fun w' q => (HXB.out.kept q).c0; have x1_ : ∀ w', Kept W9 w' none → w'.cell? ⟨w8.heap.size, 1, none⟩ = some (.slice X8.g RS.groups.length X8.gc) := fun w' q => (HXB.out.kept q).c1; have x2_ : ∀ w', Kept W9 w' none → w'.cell? ⟨w8.heap.size, 2, none⟩ = some (.slice X8.a RS.apart.length X8.ac) := fun w' q => (HXB.out.kept q).c2; have x3_ : ∀ w', Kept W9 w' none → w'.cell? ⟨w8.heap.size, 3, none⟩ = some (.slice X8.b RS.between.length X8.bc) := fun w' q => (HXB.out.kept q).c3; have x4_ : ∀ w', Kept W9 w' none → w'.cell? ⟨w8.heap.size, 4, none⟩ = some (.slice X8.p RS.phases.length X8.pc) := fun w' q => (HXB.out.kept q).c4; have x5_ : ∀ w', Kept W9 w' none → w'.cell? ⟨w8.heap.size, 5, none⟩ = some (.slice X8.e RS.eyes.length X8.ec) := fun w' q => (HXB.out.kept q).c5; have x6_ : ∀ w', Kept W9 w' none → w'.cell? ⟨w8.heap.size, 6, none⟩ = some (.int .i64 RS.watch) := fun w' q => (HXB.out.kept q).c6; have x7_ : ∀ w', Kept W9 w' none → w'.cell? ⟨w8.heap.size, 7, none⟩ = some (.int .i64 RS.feed) := fun w' q => (HXB.out.kept q).c7; have x8_ : ∀ w', Kept W9 w' none → w'.cell? ⟨w8.heap.size, 8, none⟩ = some (.int .i64 RS.heal) := fun w' q => (HXB.out.kept q).c8; have x9_ : ∀ w', Kept W9 w' none → w'.cell? ⟨w8.heap.size, 9, none⟩ = some (.int .i64 RS.low) := fun w' q => (HXB.out.kept q).c9; have x10_ : ∀ w', Kept W9 w' none → w'.cell? ⟨w8.heap.size, 10, none⟩ = some (.int .i64 RS.high) := fun w' q => (HXB.out.kept q).c10; have x11_ : ∀ w', Kept W9 w' none → w'.cell? ⟨w8.heap.size, 11, none⟩ = some (.slice X8.l RS.plans.length X8.lc) := fun w' q => (HXB.out.kept q).c11; have hAW9 : Kept WA W9 none := hA8.tr hk; have hOW9 : Kept W4 W9 none := hO8.tr hk; have hIW9 : Kept w5 W9 none := hI8.tr hk; have hPW9 : Kept w6 W9 none := hP8.tr hk; have hQW9 : Kept w7 W9 none := hQ8.tr hk; clear hA8 hO8 hI8 hP8 hQ8; have HSX := Hid.mk' (hsat.kept hk); have hXW9 := Kept.refl W9 none; clear hsat hk) | (have hgo := hP6; clear hgo; go_at_call 7; refine (HC2.out _ _ hA6 (HS.out.kept hA6)).mono ?_; rintro e w7 ⟨a7, c7, rfl, hm, hk⟩; have MQ := Hid.mk' hm; have hA7 : Kept WA w7 none := hA6.tr hk; have hO7 : Kept W4 w7 none := hO6.tr hk; have hI7 : Kept w5 w7 none := hI6.tr hk; have hP7 : Kept w6 w7 none := hP6.tr hk; have hQ7 := Kept.refl w7 none; clear hm hk hA6 hO6 hI6 hP6) | (have hgo := hI5; clear hgo; go_at_call 6; refine (HC1.out _ _ hA5 (HSO.out.kept hO5)).mono ?_; rintro e w6 ⟨a6, c6, rfl, hm, hk⟩; have MP := Hid.mk' hm; have hA6 : Kept WA w6 none := hA5.tr hk; have hO6 : Kept W4 w6 none := hO5.tr hk; have hI6 : Kept w5 w6 none := hI5.tr hk; have hP6 := Kept.refl w6 none; clear hm hk hA5 hO5 hI5) | (have hgo := hA4; clear hgo; at_builtin; refine wpList_joinS (by rfl) _ _ (by rfl) W4.heap.size (by rfl) a n c L (by rfl) (HA.out.by_.kept hA4) HA.out.nil (by omega) (Nat.le_refl _) ?_; intro a5 c5 w5 hm hk; have HIN := Hid.mk' (hm.come HAL.out); have hA5 : Kept WA w5 none := hA4.tr hk; have hO5 : Kept W4 w5 none := hk; have hI5 := Kept.refl w5 none; clear hm hk hA4 hO4) | (have hgo := hK2; clear hgo; go_at_call 5; refine (HTW.out _ hK2).mono ?_; rintro e w3 ⟨X2, rfl, hsat, hk3⟩; have hk : Kept w3 (w3.alloc (.cells #[.int .i64 S.id, .slice X2.g S.groups.length X2.gc, .slice X2.a S.apart.length X2.ac, .slice X2.b S.between.length X2.bc, .slice X2.p S.phases.length X2.pc, .slice X2.e S.eyes.length X2.ec, .int .i64 S.watch, .int .i64 S.feed, .int .i64 S.heal, .int .i64 S.low, .int .i64 S.high, .slice X2.l S.plans.length X2.lc] 29)) none := Kept.alloc _ _ _ (0, 0) _; have hbb := sbox_alloc hsat 29; obtain ⟨W4, hW4⟩ : ∃ W4, w3.alloc (.cells #[.int .i64 S.id, .slice X2.g S.groups.length X2.gc, .slice X2.a S.apart.length X2.ac, .slice X2.b S.between.length X2.bc, .slice X2.p S.phases.length X2.pc, .slice X2.e S.eyes.length X2.ec, .int .i64 S.watch, .int .i64 S.feed, .int .i64 S.heal, .int .i64 S.low, .int .i64 S.high, .slice X2.l S.plans.length X2.lc] 29) = W4 := ⟨_, rfl⟩; rw [hW4] at hk hbb; have HOB := Hid.mk' hbb; clear hbb; have o0_ : ∀ w', Kept W4 w' none → w'.cell? ⟨w3.heap.size, 0, none⟩ = some (.int .i64 S.id) := fun w' q => (HOB.out.kept q).c0; have o1_ : ∀ w', Kept W4 w' none → w'.cell? ⟨w3.heap.size, 1, none⟩ = some (.slice X2.g S.groups.length X2.gc) := fun w' q => (HOB.out.kept q).c1; have o2_ : ∀ w', Kept W4 w' none → w'.cell? ⟨w3.heap.size, 2, none⟩ = some (.slice X2.a S.apart.length X2.ac) := fun w' q => (HOB.out.kept q).c2; have o3_ : ∀ w', Kept W4 w' none → w'.cell? ⟨w3.heap.size, 3, none⟩ = some (.slice X2.b S.between.length X2.bc) := fun w' q => (HOB.out.kept q).c3; have o4_ : ∀ w', Kept W4 w' none → w'.cell? ⟨w3.heap.size, 4, none⟩ = some (.slice X2.p S.phases.length X2.pc) := fun w' q => (HOB.out.kept q).c4; have o5_ : ∀ w', Kept W4 w' none → w'.cell? ⟨w3.heap.size, 5, none⟩ = some (.slice X2.e S.eyes.length X2.ec) := fun w' q => (HOB.out.kept q).c5; have o6_ : ∀ w', Kept W4 w' none → w'.cell? ⟨w3.heap.size, 6, none⟩ = some (.int .i64 S.watch) := fun w' q => (HOB.out.kept q).c6; have o7_ : ∀ w', Kept W4 w' none → w'.cell? ⟨w3.heap.size, 7, none⟩ = some (.int .i64 S.feed) := fun w' q => (HOB.out.kept q).c7; have o8_ : ∀ w', Kept W4 w' none → w'.cell? ⟨w3.heap.size, 8, none⟩ = some (.int .i64 S.heal) := fun w' q => (HOB.out.kept q).c8; have o9_ : ∀ w', Kept W4 w' none → w'.cell? ⟨w3.heap.size, 9, none⟩ = some (.int .i64 S.low) := fun w' q => (HOB.out.kept q).c9; have o10_ : ∀ w', Kept W4 w' none → w'.cell? ⟨w3.heap.size, 10, none⟩ = some (.int .i64 S.high) := fun w' q => (HOB.out.kept q).c10; have o11_ : ∀ w', Kept W4 w' none → w'.cell? ⟨w3.heap.size, 11, none⟩ = some (.slice X2.l S.plans.length X2.lc) := fun w' q => (HOB.out.kept q).c11; have HSO := Hid.mk' (hsat.kept hk); have hA4 : Kept WA W4 none := (hK2.tr hk3).tr hk; have hO4 := Kept.refl W4 none; clear hsat hk hk3 hK2))
      go_ret
      exact ⟨rfl, (HK.out.tr hA19).below⟩
theorem sby_any {X : Sa} {S : St} {w : World} (h : Sat w X S) (hT : Tabb w) (hTb : Table w) {al : Option Addr} {cl : Nat} {l : List Pl} (hP : Plans w al l.length cl l) {a : Option Addr} {n c : Nat} {L : List Nat} (hA : Come w a n c L) : Calls Tryd.prog 3 #[siteV X S, .slice al l.length cl, .slice a n c] w fun e w' => e = .returned (.bool true) ∧ Below w.heap.size w w' := by
  by_cases hl : n ≤ 5000
  · exact sby_go h hT hTb hP hA hl
  · exact sby_long h hT hTb hP hA (by omega)

end Go.Proofs.YtcjkghajeohfjaaDoor

