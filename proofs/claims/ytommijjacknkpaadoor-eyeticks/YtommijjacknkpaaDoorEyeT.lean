/-
  Texts joined: some of those that the proofs of this seat stand on.
-/
import Derived.Test.YtommijjacknkpaaDoorEyeUJ
import Derived.Test.YtommijjacknkpaaDoorEyeL
import Derived.Laws.StructEq
import Derived.Deep.RegionWith
import Derived.Deep.RegionHeld
/-
  THE STATEMENTS' OWN: behind, alive (made by a program).
-/
namespace Go.Proofs.YtommijjacknkpaaDoor
open Go.RowKit Go.Lib Go.Deep
set_option linter.unusedVariables false
set_option linter.unusedSimpArgs false

def Rr (A : Nat → Act) (P : Nat → World → Prop) (e : Exit) (a : Act) (w : World) : Prop := match e with
  | .normal => ∃ B, a = A B ∧ P B w
  | _ => False
theorem Rr.out {A : Nat → Act} {P : Nat → World → Prop} {e : Exit} {a : Act} {w : World} (h : Rr A P e a w) : e = .normal ∧ ∃ B, a = A B ∧ P B w := by
  cases e with
  | normal => exact ⟨rfl, h⟩
  | _ => exact h.elim
/-- Truths lie where a slice leads. -/
structure Bs (w : World) (a : Option Addr) (n : Nat) (L : List Bool) : Prop where
  size : L.length = n
  lie : Lie w a n 1 (fun i _ => .bool (tr L i))
theorem Bs.kept {w w' : World} {a : Option Addr} {n : Nat} {L : List Bool} (h : Bs w a n L) (q : Kept w w' none) : Bs w' a n L := ⟨h.size, h.lie.kept q⟩
theorem Bs.at_ {w : World} {a : Option Addr} {n : Nat} {L : List Bool} (h : Bs w a n L) {k : Nat} (hk : k < n) : ∃ b off, a = some ⟨b, off, none⟩ ∧ b < w.heap.size ∧ w.cell? ⟨b, off + k, none⟩ = some (.bool (tr L k)) := by
  obtain ⟨b, off, e, hb, hc⟩ := h.lie.one (by omega)
  exact ⟨b, off, e, hb, hc k hk⟩
theorem kept_rto {a b c : World} {r : Option Nat} (h : Kept a b r) (k : Kept b c none) : Kept a c r :=
  ⟨k.os.trans h.os, k.tape.trans h.tape, k.output.trans h.output, Nat.le_trans h.size k.size, fun i hi hr => (k.block i (Nat.lt_of_lt_of_le hi h.size) (by simp)).trans (h.block i hi hr)⟩
theorem B5.keptR {w w' : World} {b : Nat} {v0 v1 v2 v3 v4 : Value} {r : Option Nat} (h : B5 w b v0 v1 v2 v3 v4) (k : Kept w w' r) (hr : some b ≠ r) : B5 w' b v0 v1 v2 v3 v4 := by
  have e := k.block b h.lt hr
  exact ⟨(World.cell?_of_block (w := w) (a := ⟨b, 0, none⟩) e).trans h.c0, (World.cell?_of_block (w := w) (a := ⟨b, 1, none⟩) e).trans h.c1, (World.cell?_of_block (w := w) (a := ⟨b, 2, none⟩) e).trans h.c2, (World.cell?_of_block (w := w) (a := ⟨b, 3, none⟩) e).trans h.c3, (World.cell?_of_block (w := w) (a := ⟨b, 4, none⟩) e).trans h.c4, (World.frozen?_of_block (w := w) (a := ⟨b, 0, none⟩) e).trans h.f0, (World.frozen?_of_block (w := w) (a := ⟨b, 1, none⟩) e).trans h.f1, (World.frozen?_of_block (w := w) (a := ⟨b, 2, none⟩) e).trans h.f2, (World.frozen?_of_block (w := w) (a := ⟨b, 3, none⟩) e).trans h.f3, (World.frozen?_of_block (w := w) (a := ⟨b, 4, none⟩) e).trans h.f4, Nat.lt_of_lt_of_le h.lt k.size⟩
set_option maxRecDepth 100000 in
set_option maxHeartbeats 4000000 in
theorem behind_any {X : Sa} {S : St} {w : World} (h : Sat w X S) (hT : Tabb w) (hs : siteB S = true) {p : Nat} (hp : p < S.eyes.length) {a : Option Addr} {n c : Nat} {L : List Bool} (hA : Bs w a n L) (hn : n ≤ 1000) : Calls Tryd.prog 9 #[siteV X S, .int .i64 (p : Int), .slice a n c] w fun e w' => e = .returned (.tuple #[lkV (atK (S.ey p) S.heal L n), .bool true]) ∧ Kept w w' none := by
  have hH := (eye_facts hs).h1
  have HL := Hid.mk' hA.size
  have k1 : Kept w (w.alloc (.cells #[.int .i64 S.id, .slice X.g S.groups.length X.gc, .slice X.a S.apart.length X.ac, .slice X.b S.between.length X.bc, .slice X.p S.phases.length X.pc, .slice X.e S.eyes.length X.ec, .int .i64 S.watch, .int .i64 S.feed, .int .i64 S.heal, .int .i64 S.low, .int .i64 S.high, .slice X.l S.plans.length X.lc] 29)) none := Kept.alloc _ _ _ _ _
  have k2 : Kept (w.alloc (.cells #[.int .i64 S.id, .slice X.g S.groups.length X.gc, .slice X.a S.apart.length X.ac, .slice X.b S.between.length X.bc, .slice X.p S.phases.length X.pc, .slice X.e S.eyes.length X.ec, .int .i64 S.watch, .int .i64 S.feed, .int .i64 S.heal, .int .i64 S.low, .int .i64 S.high, .slice X.l S.plans.length X.lc] 29)) ((w.alloc (.cells #[.int .i64 S.id, .slice X.g S.groups.length X.gc, .slice X.a S.apart.length X.ac, .slice X.b S.between.length X.bc, .slice X.p S.phases.length X.pc, .slice X.e S.eyes.length X.ec, .int .i64 S.watch, .int .i64 S.feed, .int .i64 S.heal, .int .i64 S.low, .int .i64 S.high, .slice X.l S.plans.length X.lc] 29)).alloc (.cells #[.bool false, .int .i64 0, .int .u64 0, .bool false, .int .i64 0] 33)) none := Kept.alloc _ _ _ _ _
  have k3 : Kept ((w.alloc (.cells #[.int .i64 S.id, .slice X.g S.groups.length X.gc, .slice X.a S.apart.length X.ac, .slice X.b S.between.length X.bc, .slice X.p S.phases.length X.pc, .slice X.e S.eyes.length X.ec, .int .i64 S.watch, .int .i64 S.feed, .int .i64 S.heal, .int .i64 S.low, .int .i64 S.high, .slice X.l S.plans.length X.lc] 29)).alloc (.cells #[.bool false, .int .i64 0, .int .u64 0, .bool false, .int .i64 0] 33)) (((w.alloc (.cells #[.int .i64 S.id, .slice X.g S.groups.length X.gc, .slice X.a S.apart.length X.ac, .slice X.b S.between.length X.bc, .slice X.p S.phases.length X.pc, .slice X.e S.eyes.length X.ec, .int .i64 S.watch, .int .i64 S.feed, .int .i64 S.heal, .int .i64 S.low, .int .i64 S.high, .slice X.l S.plans.length X.lc] 29)).alloc (.cells #[.bool false, .int .i64 0, .int .u64 0, .bool false, .int .i64 0] 33)).alloc (.cells #[.bool false, .int .i64 0, .int .u64 0, .bool false, .int .i64 0] 33)) none := Kept.alloc _ _ _ _ _
  have hkA := (k1.tr k2).tr k3
  have hsb := ((sbox_alloc h 29).kept k2).kept k3
  have hrb : Kbox (((w.alloc (.cells #[.int .i64 S.id, .slice X.g S.groups.length X.gc, .slice X.a S.apart.length X.ac, .slice X.b S.between.length X.bc, .slice X.p S.phases.length X.pc, .slice X.e S.eyes.length X.ec, .int .i64 S.watch, .int .i64 S.feed, .int .i64 S.heal, .int .i64 S.low, .int .i64 S.high, .slice X.l S.plans.length X.lc] 29)).alloc (.cells #[.bool false, .int .i64 0, .int .u64 0, .bool false, .int .i64 0] 33)).alloc (.cells #[.bool false, .int .i64 0, .int .u64 0, .bool false, .int .i64 0] 33)) (w.heap.size + 1) Lk.zero := B5.kept (b5_at (by simp)) k3
  have hxb : Kbox (((w.alloc (.cells #[.int .i64 S.id, .slice X.g S.groups.length X.gc, .slice X.a S.apart.length X.ac, .slice X.b S.between.length X.bc, .slice X.p S.phases.length X.pc, .slice X.e S.eyes.length X.ec, .int .i64 S.watch, .int .i64 S.feed, .int .i64 S.heal, .int .i64 S.low, .int .i64 S.high, .slice X.l S.plans.length X.lc] 29)).alloc (.cells #[.bool false, .int .i64 0, .int .u64 0, .bool false, .int .i64 0] 33)).alloc (.cells #[.bool false, .int .i64 0, .int .u64 0, .bool false, .int .i64 0] 33)) (w.heap.size + 1 + 1) Lk.zero := b5_at (by simp)
  have HAA := Hid.mk' (hA.kept hkA)
  have HS := Hid.mk' h
  have HT := Hid.mk' hT
  have hnb : ∀ b off, a = some ⟨b, off, none⟩ → 0 < n → b < w.heap.size := fun b off e h0 => by
    obtain ⟨b', off', e', hb, _⟩ := hA.lie.one h0
    rw [e] at e'; injection e' with e'; injection e' with e1 _; omega
  have HNB := Hid.mk' hnb
  clear k1 k2 k3 hnb
  obtain ⟨WA, hWA⟩ : ∃ WA, (((w.alloc (.cells #[.int .i64 S.id, .slice X.g S.groups.length X.gc, .slice X.a S.apart.length X.ac, .slice X.b S.between.length X.bc, .slice X.p S.phases.length X.pc, .slice X.e S.eyes.length X.ec, .int .i64 S.watch, .int .i64 S.feed, .int .i64 S.heal, .int .i64 S.low, .int .i64 S.high, .slice X.l S.plans.length X.lc] 29)).alloc (.cells #[.bool false, .int .i64 0, .int .u64 0, .bool false, .int .i64 0] 33)).alloc (.cells #[.bool false, .int .i64 0, .int .u64 0, .bool false, .int .i64 0] 33)) = WA := ⟨_, rfl⟩
  rw [hWA] at hkA hsb hrb hxb HAA
  have HK := Hid.mk' hkA
  have HSB := Hid.mk' hsb
  have HRB := Hid.mk' hrb
  have HXB := Hid.mk' hxb
  have hK0 := Kept.refl WA none
  have HWA := Hid.mk' hWA
  clear hA h hT hkA hsb hrb hxb hWA
  go_enter Tryd.func9, Tryd.ntmps9
  go_wp2
  rw [HWA.out]
  go_loopw [9, 10, 11] (fun iv _ _ wr => ∃ (i : Nat), iv = .int .i64 i ∧ i ≤ n ∧ Kbox wr (w.heap.size + 1 + 1) (atK (S.ey p) S.heal L i) ∧ Kept WA wr (some (w.heap.size + 1 + 1))) (fun iv _ _ _ => n - (intOf iv).toNat)
  case atStart => exact ⟨0, rfl, by omega, HXB.out, kept_to hK0⟩
  case round =>
    obtain ⟨i, rfl, hin, hbx, hkr⟩ := hrel
    have HBX := Hid.mk' hbx
    have HKR := Hid.mk' hkr
    have hKw : Kept w wr none := HK.out.newRow HKR.out (fun q e => by injection e with e; omega)
    have HKW := Hid.mk' hKw
    have hrx := hbx.lt
    clear hbx hkr hKw
    by_cases hlt : i < n
    · have hiL : i < L.length := by have := HL.out; omega
      obtain ⟨Q, hQ⟩ : ∃ Q, Q = atK (S.ey p) S.heal L i := ⟨_, rfl⟩
      obtain ⟨Q', hQ'⟩ : ∃ Q', Q' = atK (S.ey p) S.heal L (i + 1) := ⟨_, rfl⟩
      have hst : Q' = stepK (S.ey p) S.heal Q (tr L i) := by rw [hQ', hQ]; exact atK_succ hiL
      obtain ⟨m1, m2, m3⟩ := may_atK (e := S.ey p) hH (L := L) i (by omega)
      rw [← hQ] at m1 m2 m3
      have hNX : ∀ w', Kept w w' none → Calls Tryd.prog 10 #[siteV X S, .int .i64 (p : Int), lkV Q, .bool (tr L i)] w' fun e w'' => e = .returned (.tuple #[lkV Q', .int .i64 0]) ∧ Kept w' w'' none := fun w' q => by
        rw [hst]
        exact enext_go (HS.out.kept q) (HT.out.kept q) p Q (tr L i) (typ_may m2 m3 m1) hs hp m1
      have HNX := Hid.mk' hNX
      have HQ' := Hid.mk' hQ'
      have bq := HBX.out
      rw [← hQ] at bq
      obtain ⟨b3, o3, e3, hb3, kc⟩ := HAA.out.at_ hlt
      have hb3' := HNB.out b3 o3 e3 (by omega)
      clear hst m1 m2 m3 hNX hQ hQ' hiL
      subst e3
      generalize tr L i = y at *
      have HBQ := Hid.mk' bq
      have s0_ : ∀ w', Kept wr w' none → w'.cell? ⟨w.heap.size, 0, none⟩ = some (.int .i64 S.id) := fun w' q => cell_kr HSB.out.c0 (kept_rto HKR.out q) (by simp <;> omega)
      have s1_ : ∀ w', Kept wr w' none → w'.cell? ⟨w.heap.size, 1, none⟩ = some (.slice X.g S.groups.length X.gc) := fun w' q => cell_kr HSB.out.c1 (kept_rto HKR.out q) (by simp <;> omega)
      have s2_ : ∀ w', Kept wr w' none → w'.cell? ⟨w.heap.size, 2, none⟩ = some (.slice X.a S.apart.length X.ac) := fun w' q => cell_kr HSB.out.c2 (kept_rto HKR.out q) (by simp <;> omega)
      have s3_ : ∀ w', Kept wr w' none → w'.cell? ⟨w.heap.size, 3, none⟩ = some (.slice X.b S.between.length X.bc) := fun w' q => cell_kr HSB.out.c3 (kept_rto HKR.out q) (by simp <;> omega)
      have s4_ : ∀ w', Kept wr w' none → w'.cell? ⟨w.heap.size, 4, none⟩ = some (.slice X.p S.phases.length X.pc) := fun w' q => cell_kr HSB.out.c4 (kept_rto HKR.out q) (by simp <;> omega)
      have s5_ : ∀ w', Kept wr w' none → w'.cell? ⟨w.heap.size, 5, none⟩ = some (.slice X.e S.eyes.length X.ec) := fun w' q => cell_kr HSB.out.c5 (kept_rto HKR.out q) (by simp <;> omega)
      have s6_ : ∀ w', Kept wr w' none → w'.cell? ⟨w.heap.size, 6, none⟩ = some (.int .i64 S.watch) := fun w' q => cell_kr HSB.out.c6 (kept_rto HKR.out q) (by simp <;> omega)
      have s7_ : ∀ w', Kept wr w' none → w'.cell? ⟨w.heap.size, 7, none⟩ = some (.int .i64 S.feed) := fun w' q => cell_kr HSB.out.c7 (kept_rto HKR.out q) (by simp <;> omega)
      have s8_ : ∀ w', Kept wr w' none → w'.cell? ⟨w.heap.size, 8, none⟩ = some (.int .i64 S.heal) := fun w' q => cell_kr HSB.out.c8 (kept_rto HKR.out q) (by simp <;> omega)
      have s9_ : ∀ w', Kept wr w' none → w'.cell? ⟨w.heap.size, 9, none⟩ = some (.int .i64 S.low) := fun w' q => cell_kr HSB.out.c9 (kept_rto HKR.out q) (by simp <;> omega)
      have s10_ : ∀ w', Kept wr w' none → w'.cell? ⟨w.heap.size, 10, none⟩ = some (.int .i64 S.high) := fun w' q => cell_kr HSB.out.c10 (kept_rto HKR.out q) (by simp <;> omega)
      have s11_ : ∀ w', Kept wr w' none → w'.cell? ⟨w.heap.size, 11, none⟩ = some (.slice X.l S.plans.length X.lc) := fun w' q => cell_kr HSB.out.c11 (kept_rto HKR.out q) (by simp <;> omega)
      have x0_ : ∀ w', Kept wr w' none → w'.cell? ⟨(w.heap.size + 1 + 1), 0, none⟩ = some (.bool Q.up) := fun w' q => (HBQ.out.kept q).c0
      have x1_ : ∀ w', Kept wr w' none → w'.cell? ⟨(w.heap.size + 1 + 1), 1, none⟩ = some (.int .i64 Q.same) := fun w' q => (HBQ.out.kept q).c1
      have x2_ : ∀ w', Kept wr w' none → w'.cell? ⟨(w.heap.size + 1 + 1), 2, none⟩ = some (.int .u64 Q.turns) := fun w' q => (HBQ.out.kept q).c2
      have x3_ : ∀ w', Kept wr w' none → w'.cell? ⟨(w.heap.size + 1 + 1), 3, none⟩ = some (.bool Q.bad) := fun w' q => (HBQ.out.kept q).c3
      have x4_ : ∀ w', Kept wr w' none → w'.cell? ⟨(w.heap.size + 1 + 1), 4, none⟩ = some (.int .i64 Q.well) := fun w' q => (HBQ.out.kept q).c4
      have c_ : ∀ w', Kept wr w' none → w'.cell? ⟨b3, o3 + i, none⟩ = some (.bool y) := fun w' q => cell_kr kc (kept_rto HKR.out q) (by simp <;> omega)
      clear bq kc
      have hKr0 := Kept.refl wr none
      go_wp2
      refine Code.wp_mono (Q := Rr ?A16 (fun B w' => Kept wr w' none ∧ wr.heap.size ≤ B ∧ Kbox w' B Q')) ?cont16 ?reg16
      case reg16 =>
        (repeat (rename_i hh; clear hh))
        refine wp_region_held_drew (S := fun w' => Kept wr w' none) (by kernel_rfl) (Kept.drew _ _) (fun hHeld => ?_)
        refine held_take (i := 0) (v := ?v1) rfl rfl (by kernel_rfl) (by kernel_rfl) (by kernel_rfl) (fun _ _ _ h => h) (Or.inl ⟨by rfl, ?hy1⟩) hHeld ?rest1
        case hy1 => first | (intro w hSw; (try dsimp only at hSw); go_simp; done) | (intro w hSw; (try dsimp only at hSw); go_simp; with_reducible rfl)
        try simp only [List.setIfInBounds_toArray, List.set_cons_zero, List.set_cons_succ]
        refine held_take (i := 1) (v := ?v2) rfl rfl (by kernel_rfl) (by kernel_rfl) (by kernel_rfl) (fun _ _ _ h => h) (Or.inl ⟨by rfl, ?hy2⟩) hHeld ?rest2
        case hy2 => first | (intro w hSw; (try dsimp only at hSw); go_simp; done) | (intro w hSw; (try dsimp only at hSw); go_simp; with_reducible rfl)
        try simp only [List.setIfInBounds_toArray, List.set_cons_zero, List.set_cons_succ]
        refine held_take (i := 2) (v := ?v3) rfl rfl (by kernel_rfl) (by kernel_rfl) (by kernel_rfl) (fun _ _ _ h => h) (Or.inl ⟨by rfl, ?hy3⟩) hHeld ?rest3
        case hy3 => first | (intro w hSw; (try dsimp only at hSw); go_simp; done) | (intro w hSw; (try dsimp only at hSw); go_simp; with_reducible rfl)
        try simp only [List.setIfInBounds_toArray, List.set_cons_zero, List.set_cons_succ]
        refine held_take (i := 3) (v := ?v4) rfl rfl (by kernel_rfl) (by kernel_rfl) (by kernel_rfl) (fun _ _ _ h => h) (Or.inl ⟨by rfl, ?hy4⟩) hHeld ?rest4
        case hy4 => first | (intro w hSw; (try dsimp only at hSw); go_simp; done) | (intro w hSw; (try dsimp only at hSw); go_simp; with_reducible rfl)
        try simp only [List.setIfInBounds_toArray, List.set_cons_zero, List.set_cons_succ]
        refine held_take (i := 4) (v := ?v5) rfl rfl (by kernel_rfl) (by kernel_rfl) (by kernel_rfl) (fun _ _ _ h => h) (Or.inl ⟨by rfl, ?hy5⟩) hHeld ?rest5
        case hy5 => first | (intro w hSw; (try dsimp only at hSw); go_simp; done) | (intro w hSw; (try dsimp only at hSw); go_simp; with_reducible rfl)
        try simp only [List.setIfInBounds_toArray, List.set_cons_zero, List.set_cons_succ]
        refine held_take (i := 5) (v := ?v6) rfl rfl (by kernel_rfl) (by kernel_rfl) (by kernel_rfl) (fun _ _ _ h => h) (Or.inl ⟨by rfl, ?hy6⟩) hHeld ?rest6
        case hy6 => first | (intro w hSw; (try dsimp only at hSw); go_simp; done) | (intro w hSw; (try dsimp only at hSw); go_simp; with_reducible rfl)
        try simp only [List.setIfInBounds_toArray, List.set_cons_zero, List.set_cons_succ]
        refine held_take (i := 6) (v := ?v7) rfl rfl (by kernel_rfl) (by kernel_rfl) (by kernel_rfl) (fun _ _ _ h => h) (Or.inl ⟨by rfl, ?hy7⟩) hHeld ?rest7
        case hy7 => first | (intro w hSw; (try dsimp only at hSw); go_simp; done) | (intro w hSw; (try dsimp only at hSw); go_simp; with_reducible rfl)
        try simp only [List.setIfInBounds_toArray, List.set_cons_zero, List.set_cons_succ]
        refine wpAnyH_ready (rs := [7, 11]) (by kernel_rfl) (by simp) ?_
        refine AllReadyH.cons rfl (fun K hK => ?w1) (AllReadyH.cons rfl (fun K hK => ?w2) AllReadyH.nil)
        case w1 =>
          go_simp
          go_wp2_with (go_at_call 10; refine (HNX.out _ (HKW.out.tr (Kept.drew _ _))).mono ?_; rintro e w3 ⟨rfl, hk3⟩)
          have hK9 : Kept wr w3 none := (Kept.drew _ _).tr hk3
          refine hK.out _ _ hK9 (fun hHeld => ?_)
          clear hK K
          refine held_take (i := 8) (v := ?v8) rfl rfl (by kernel_rfl) (by kernel_rfl) (by kernel_rfl) (fun _ _ _ h => h) (Or.inl ⟨by rfl, ?hy8⟩) hHeld ?rest8
          case hy8 => first | (intro w hSw; (try dsimp only at hSw); go_simp; done) | (intro w hSw; (try dsimp only at hSw); go_simp; with_reducible rfl)
          try simp only [List.setIfInBounds_toArray, List.set_cons_zero, List.set_cons_succ]
          refine held_take (i := 9) (v := ?v9) rfl rfl (by kernel_rfl) (by kernel_rfl) (by kernel_rfl) (fun _ _ _ h => h) (Or.inl ⟨by rfl, ?hy9⟩) hHeld ?rest9
          case hy9 => first | (intro w hSw; (try dsimp only at hSw); go_simp; done) | (intro w hSw; (try dsimp only at hSw); go_simp; with_reducible rfl)
          try simp only [List.setIfInBounds_toArray, List.set_cons_zero, List.set_cons_succ]
          refine held_take (i := 10) (v := ?v10) rfl rfl (by kernel_rfl) (by kernel_rfl) (by kernel_rfl) (fun _ _ _ h => h) (Or.inl ⟨by rfl, ?hy10⟩) hHeld ?rest10
          case hy10 => first | (intro w hSw; (try dsimp only at hSw); go_simp; done) | (intro w hSw; (try dsimp only at hSw); go_simp; with_reducible rfl)
          try simp only [List.setIfInBounds_toArray, List.set_cons_zero, List.set_cons_succ]
          refine wpAnyH_ready (rs := [11]) (by kernel_rfl) (by simp) ?_
          refine AllReadyH.cons rfl (fun K hK => ?_) AllReadyH.nil
          go_simp
          refine hK.out _ _ (hK9.tr (Kept.alloc _ _ _ _ _)) (fun hHeld => ?_)
          clear hK K
          refine wpAnyH_ready (rs := [12]) (by kernel_rfl) (by simp) ?_
          refine AllReadyH.cons rfl (fun K hK => ?_) AllReadyH.nil
          go_simp
          refine hK.out _ _ (hK9.tr (Kept.alloc _ _ _ _ _)) (fun hHeld => ?_)
          clear hK K
          refine held_take (i := 13) (v := ?v11) rfl rfl (by kernel_rfl) (by kernel_rfl) (by kernel_rfl) (fun _ _ _ h => h) (Or.inl ⟨by rfl, ?hy11⟩) hHeld ?rest11
          case hy11 => first | (intro w hSw; (try dsimp only at hSw); go_simp; done) | (intro w hSw; (try dsimp only at hSw); go_simp; with_reducible rfl)
          try simp only [List.setIfInBounds_toArray, List.set_cons_zero, List.set_cons_succ]
          refine wpAnyH_done (by kernel_rfl) ?_ _
          refine ⟨w3.heap.size, ?_, hK9.tr (Kept.alloc _ _ _ _ _), hK9.size, b5_alloc _ _ _ _ _ _ _⟩
          generalize w3.heap.size = B
          with_reducible rfl
        case w2 =>
          go_simp
          refine hK.out _ _ (hHeld.tr (Kept.alloc _ _ _ _ _)) (fun hHeld => ?_)
          clear hK K
          refine wpAnyH_ready (rs := [7]) (by kernel_rfl) (by simp) ?_
          refine AllReadyH.cons rfl (fun K hK => ?_) AllReadyH.nil
          go_simp
          go_wp2_with (go_at_call 10; refine (HNX.out _ (HKW.out.tr ((Kept.drew _ _).tr (Kept.alloc _ _ _ _ _)))).mono ?_; rintro e w3 ⟨rfl, hk3⟩)
          have hK9 : Kept wr w3 none := ((Kept.drew _ _).tr (Kept.alloc _ _ _ _ _)).tr hk3
          have ZB : Kbox w3 wr.heap.size Lk.zero := (b5_alloc wr.drew (.bool false) (.int .i64 0) (.int .u64 0) (.bool false) (.int .i64 0) 33).kept hk3
          refine hK.out _ _ hK9 (fun hHeld => ?_)
          clear hK K
          have z0 := ZB.c0
          have z1 := ZB.c1
          have z2 := ZB.c2
          have z3 := ZB.c3
          have z4 := ZB.c4
          have y0 := ZB.f0
          have y1 := ZB.f1
          have y2 := ZB.f2
          have y3 := ZB.f3
          have y4 := ZB.f4
          refine held_take (i := 8) (v := ?v12) rfl rfl (by kernel_rfl) (by kernel_rfl) (by kernel_rfl) (fun _ _ _ h => h) (Or.inl ⟨by rfl, ?hy12⟩) hHeld ?rest12
          case hy12 => first | (intro w hSw; (try dsimp only at hSw); go_simp; done) | (intro w hSw; (try dsimp only at hSw); go_simp; with_reducible rfl)
          try simp only [List.setIfInBounds_toArray, List.set_cons_zero, List.set_cons_succ]
          refine held_take (i := 9) (v := ?v13) rfl rfl (by kernel_rfl) (by kernel_rfl) (by kernel_rfl) (fun _ _ _ h => h) (Or.inl ⟨by rfl, ?hy13⟩) hHeld ?rest13
          case hy13 => first | (intro w hSw; (try dsimp only at hSw); go_simp; done) | (intro w hSw; (try dsimp only at hSw); go_simp; with_reducible rfl)
          try simp only [List.setIfInBounds_toArray, List.set_cons_zero, List.set_cons_succ]
          refine held_take (i := 10) (v := ?v14) rfl rfl (by kernel_rfl) (by kernel_rfl) (by kernel_rfl) (fun _ _ _ h => h) (Or.inl ⟨by rfl, ?hy14⟩) hHeld ?rest14
          case hy14 => first | (intro w hSw; (try dsimp only at hSw); go_simp; done) | (intro w hSw; (try dsimp only at hSw); go_simp; with_reducible rfl)
          try simp only [List.setIfInBounds_toArray, List.set_cons_zero, List.set_cons_succ]
          refine wpAnyH_ready (rs := [12]) (by kernel_rfl) (by simp) ?_
          refine AllReadyH.cons rfl (fun K hK => ?_) AllReadyH.nil
          go_simp
          refine hK.out _ _ (kept_set5 hK9 (Nat.le_refl _) _ _ _ _ _) (fun hHeld => ?_)
          clear hK K
          refine held_take (i := 13) (v := ?v15) rfl rfl (by kernel_rfl) (by kernel_rfl) (by kernel_rfl) (fun _ _ _ h => h) (Or.inl ⟨by rfl, ?hy15⟩) hHeld ?rest15
          case hy15 => first | (intro w hSw; (try dsimp only at hSw); go_simp; done) | (intro w hSw; (try dsimp only at hSw); go_simp; with_reducible rfl)
          try simp only [List.setIfInBounds_toArray, List.set_cons_zero, List.set_cons_succ]
          refine wpAnyH_done (by kernel_rfl) ?_ _
          refine ⟨wr.heap.size, ?_, kept_set5 hK9 (Nat.le_refl _) _ _ _ _ _, Nat.le_refl _, ZB.set _ _ _ _ _⟩
          generalize wr.heap.size = B
          with_reducible rfl
      case cont16 =>
        intro e16 act16 w16 hq16
        obtain ⟨rfl, B, rfl, hk16, hB16, bx16⟩ := Rr.out hq16
        clear hq16 s0_ s1_ s2_ s3_ s4_ s5_ s6_ s7_ s8_ s9_ s10_ s11_ x0_ x1_ x2_ x3_ x4_ c_
        have hKE : Kept WA w16 (some (w.heap.size + 1 + 1)) := kept_rto HKR.out hk16
        have HKE := Hid.mk' hKE
        have bo := HBX.out.kept hk16
        have HBO := Hid.mk' bo
        have g0 := bx16.c0
        have g1 := bx16.c1
        have g2 := bx16.c2
        have g3 := bx16.c3
        have g4 := bx16.c4
        have v0 := bo.c0
        have v1 := bo.c1
        have v2 := bo.c2
        have v3 := bo.c3
        have v4 := bo.c4
        have f0 := bo.f0
        have f1 := bo.f1
        have f2 := bo.f2
        have f3 := bo.f3
        have f4 := bo.f4
        clear bo hKE
        go_wp2
        go_roundw
        case rel => exact ⟨i + 1, by go_num, by omega, by rw [← HQ'.out]; exact HBO.out.set _ _ _ _ _, kept_own5 HKE.out _ _ _ _ _⟩
        case measure => simp [intOf]; omega
    · obtain rfl : i = n := by omega
      have br := HRB.out.keptR HKR.out (by simp <;> omega)
      have bx := HBX.out
      have g0 := bx.c0
      have g1 := bx.c1
      have g2 := bx.c2
      have g3 := bx.c3
      have g4 := bx.c4
      have v0 := br.c0
      have v1 := br.c1
      have v2 := br.c2
      have v3 := br.c3
      have v4 := br.c4
      have f0 := br.f0
      have f1 := br.f1
      have f2 := br.f2
      have f3 := br.f3
      have f4 := br.f4
      go_wp2
      refine bodyPost_ret (v := .tuple #[lkV _, .bool _]) (by simp [results, Tryd.results9, go_sem, *]; done) rfl ⟨rfl, ?_⟩
      exact kept_set5 HKW.out (by omega) _ _ _ _ _
theorem bs_alloc (w : World) (L : List Bool) (cs : Array Value) (hc : ∀ i, i < L.length → cs[i]? = some (.bool (tr L i))) : Bs (w.alloc (.cells cs 4)) (some ⟨w.heap.size, 0, none⟩) L.length L :=
  ⟨rfl, ⟨fun _ => ⟨_, 0, rfl, by simp, fun i hi j hj => by
    obtain rfl : j = 0 := by omega
    rw [Nat.zero_add, Nat.mul_one, Nat.add_zero, World.cell?_alloc_mark, hc i hi]⟩⟩⟩
/-- Behind the ticks of a list that is laid down for it. -/
theorem behind_at {u : World} {X : Sa} (h : Sat u X S13) (hT : Tabb u) (L : List Bool) (cs : Array Value) (v : Lk) (n : Nat) (hn : L.length = n) (hv : atK ⟨0, 3, 9, 2⟩ 4 L n = v) (hc : ∀ i, i < L.length → cs[i]? = some (.bool (tr L i))) (hl : n ≤ 100) : Calls Tryd.prog 9 #[siteV X S13, .int .i64 0, .slice (some ⟨u.heap.size, 0, none⟩) n n] (u.alloc (.cells cs 4)) fun e w' => e = .returned (.tuple #[lkV v, .bool true]) ∧ Kept u w' none := by
  have k : Kept u (u.alloc (.cells cs 4)) none := Kept.alloc _ _ _ _ _
  subst hn
  have hx := behind_any (c := L.length) (h.kept k) (hT.kept k) s13_may (p := 0) (by decide) (bs_alloc u L cs hc) (by omega)
  rw [show atK (S13.ey 0) S13.heal L L.length = v from hv] at hx
  exact hx.mono fun e w' ⟨h1, h2⟩ => ⟨h1, k.tr h2⟩
abbrev L2 : List Bool := [true, true]
abbrev L3 : List Bool := [true, true, true]
theorem at_L2 : atK ⟨0, 3, 9, 2⟩ 4 L2 2 = ⟨true, 2, 2, false, 0⟩ := by rfl
theorem at_L3 : atK ⟨0, 3, 9, 2⟩ 4 L3 3 = ⟨true, 3, 4, true, 0⟩ := by rfl
theorem bools2 : ∀ i, i < L2.length → (#[Value.bool true, .bool true] : Array Value)[i]? = some (.bool (tr L2 i)) := fun i hi => by have hi' : i < 2 := hi; rcases i with _|_|i <;> first | rfl | omega
theorem bools3 : ∀ i, i < L3.length → (#[Value.bool true, .bool true, .bool true] : Array Value)[i]? = some (.bool (tr L3 i)) := fun i hi => by have hi' : i < 3 := hi; rcases i with _|_|_|i <;> first | rfl | omega
set_option maxHeartbeats 1000000 in
theorem alive_any {w : World} (hT : Tabb w) : Calls Tryd.prog 13 #[] w fun e w' => e = .returned (.bool true) ∧ Kept w w' none := by
  have HT := Hid.mk' hT
  clear hT
  go_enter Tryd.func13, Tryd.ntmps13
  go_wp2_with (first | (have hgo := k23; clear hgo; go_at_call 9; refine (behind_at HS3.out HT3.out L3 _ _ 3 rfl at_L3 bools3 (by omega)).mono ?_; rintro e w4 ⟨rfl, hk4⟩; have xb : Kbox w4 w2.heap.size ⟨true, 2, 2, false, 0⟩ := (b5_alloc w2 (.bool true) (.int .i64 2) (.int .u64 2) (.bool false) (.int .i64 0) 33).kept (hk3.tr hk4); have x1 := xb.c1; have x3 := xb.c3; have lx := xb.lt) | (have hgo := hk2; clear hgo; go_at_call 8; refine seen_any.mono ?_; rintro e w3 ⟨X3, rfl, hs3, hk3⟩; have k23 : Kept w2 w3 none := (Kept.alloc _ _ _ _ _).tr hk3; have HS3 := Hid.mk' hs3; have HT3 := Hid.mk' (HT.out.kept ((hk1.tr hk2).tr k23)); clear hs3) | (go_at_call 9; refine (behind_at HS1.out HT1.out L2 _ _ 2 rfl at_L2 bools2 (by omega)).mono ?_; rintro e w2 ⟨rfl, hk2⟩) | (go_at_call 8; refine seen_any.mono ?_; rintro e w1 ⟨X1, rfl, hs1, hk1⟩; have HS1 := Hid.mk' hs1; have HT1 := Hid.mk' (HT.out.kept hk1); clear hs1))
  go_ret
  exact ⟨by simp, (((hk1.tr hk2).tr k23).tr hk4).tr (Kept.alloc _ _ _ _ _)⟩

end Go.Proofs.YtommijjacknkpaaDoor

