/-
  THE STATEMENTS' OWN: behind (gaps behind ticks), alive.
-/
import Derived.Test.YtcckpdgknjjjmaaGapE
import Derived.Laws.StructEq
import Derived.Deep.RegionWith
import Derived.Deep.RegionHeld
namespace Go.Proofs.Ytcckpdgknjjjmaa
open Go.RowKit Go.Lib Go.Deep
set_option linter.unusedVariables false
set_option linter.unusedSimpArgs false

def Rr (A : Nat → Act) (P : Nat → World → Prop) (e : Exit) (a : Act) (w : World) : Prop := match e with
  | .normal => ∃ B, a = A B ∧ P B w
  | _ => False
theorem Rr.out {A : Nat → Act} {P : Nat → World → Prop} {e : Exit} {a : Act} {w : World} (h : Rr A P e a w) : e = .normal ∧ ∃ B, a = A B ∧ P B w := by
  cases e with
  | normal => exact ⟨rfl, h⟩
  | _ => exact h.elim
theorem next_may {g : Ga} (u : Bool) (w : World) (hg : mayG g = true) (h0 : 0 ≤ g.last) (h1 : g.last < 18446744073709551616) : Calls Try.prog 12 #[gaV g, .bool u] w fun e w' => e = .returned (.tuple #[gaV (stepG g u), .int .i64 0]) ∧ Kept w w' none := by
  obtain ⟨q, a, b, c, z⟩ := g
  exact next_ok q a b c z u w hg h0 h1
/-- What is known between two ticks. -/
structure Beh (w : World) (L : List Bool) (a : Option Addr) (n : Nat) (i : Nat) (W : World) : Prop where
  res : Gbox W w.heap.size Ga.zero
  box : Gbox W (w.heap.size + 1) (atG L i)
  raw : Bo W a n L
  kept : Kept w W none
  na : ∀ x, a = some x → 0 < n → x.block < w.heap.size
theorem Beh.tr {w W W' : World} {L : List Bool} {a : Option Addr} {n i : Nat} (t : Beh w L a n i W) (q : Kept W W' none) : Beh w L a n i W' :=
  ⟨t.res.kept q, t.box.kept q, t.raw.kept q, t.kept.tr q, t.na⟩
theorem Beh.set {w W : World} {L : List Bool} {a : Option Addr} {n i : Nat} {P : Ga} (t : Beh w L a n i W) (hP : P = atG L (i + 1)) : Beh w L a n (i + 1) (setG W (w.heap.size + 1) P) := by
  refine ⟨t.res.off (by omega) _ _ _ _ _, by rw [← hP]; exact t.box.set _ _ _ _ _, bo_set5 t.raw (fun x hx h0 => by have := t.na x hx h0; omega) _ _ _ _ _, kept_set5 t.kept (by omega) _ _ _ _ _, t.na⟩
set_option maxRecDepth 100000 in
set_option maxHeartbeats 4000000 in
theorem behind_any {a : Option Addr} {n c : Nat} {L : List Bool} {w : World} (hA : Bo w a n L) : Calls Try.prog 9 #[.slice a n c] w fun e w' => e = .returned (.tuple #[gaV (atG L n), .bool true]) ∧ Kept w w' none := by
  have hmx := hA.max
  have HL := Hid.mk' hA.size
  have hB0 : Beh w L a n 0 ((w.alloc (.cells (gaC Ga.zero) 24)).alloc (.cells (gaC Ga.zero) 24)) := by
    have b1 := gbox_alloc (w.alloc (.cells (gaC Ga.zero) 24)) Ga.zero 24
    rw [World.size_alloc] at b1
    refine ⟨(gbox_alloc w Ga.zero 24).kept (Kept.alloc _ _ _ _ _), b1, hA.kept ((Kept.alloc _ _ _ _ _).tr (Kept.alloc _ _ _ _ _)), (Kept.alloc _ _ _ _ _).tr (Kept.alloc _ _ _ _ _), fun x hx h0 => ?_⟩
    obtain ⟨b, off, e, hb, _⟩ := hA.at_ h0
    rw [hx] at e; injection e with e; subst e; exact hb
  have HB0 := Hid.mk' hB0
  clear hA hB0
  go_enter Try.func9, Try.ntmps9
  go_wp2
  go_loopw [5, 6, 7] (fun iv _ _ wr => ∃ (i : Nat), iv = .int .i64 i ∧ i ≤ n ∧ Beh w L a n i wr) (fun iv _ _ _ => n - (intOf iv).toNat)
  case atStart => exact ⟨0, rfl, by omega, HB0.out⟩
  case round =>
    clear HB0
    obtain ⟨i, rfl, hin, hbr⟩ := hrel
    have HBR := Hid.mk' hbr
    clear hbr
    by_cases hlt : i < n
    · have hiL : i < L.length := by have := HL.out; omega
      obtain ⟨Q, hQ⟩ : ∃ Q, Q = atG L i := ⟨_, rfl⟩
      obtain ⟨Q', hQ'⟩ : ∃ Q', Q' = atG L (i + 1) := ⟨_, rfl⟩
      have hs : Q' = stepG Q (tr L i) := by rw [hQ', hQ]; exact atG_succ hiL
      obtain ⟨m1, m2, m3⟩ := may_atG (L := L) i (by omega)
      rw [← hQ] at m1 m2 m3
      have hNX := fun w' => next_may (tr L i) w' m1 m2 m3
      rw [← hs] at hNX
      have HNX := Hid.mk' hNX
      have HQ' := Hid.mk' hQ'
      have bq := HBR.out.box
      rw [← hQ] at bq
      have bres := HBR.out.res
      obtain ⟨b3, o3, e3, _, hc3⟩ := HBR.out.raw.at_ (by omega)
      have kc := hc3 i hlt
      have hb3 := HBR.out.na _ e3 (by omega)
      clear hc3 hs m1 m2 m3 hNX hQ hQ' hiL
      subst e3
      dsimp only at hb3
      generalize tr L i = y at *
      obtain ⟨q0', q1', q2', q3', q4'⟩ := Q
      have bq' : B5 wr (w.heap.size + 1) (.bool q0') (.int .i64 q1') (.int .i64 q2') (.int .i64 q3') (.int .u64 q4') := bq
      clear bq
      obtain ⟨r0', r1', r2', r3', r4'⟩ := Q'
      go_wp2
      refine Code.wp_mono (Q := Rr ?A16 (fun B w' => Kept wr w' none ∧ wr.heap.size ≤ B ∧ B5 w' B (.bool r0') (.int .i64 r1') (.int .i64 r2') (.int .i64 r3') (.int .u64 r4'))) ?cont16 ?reg16
      case reg16 =>
        (repeat (rename_i hh; clear hh))
        have q0 := bq'.c0
        have q1 := bq'.c1
        have q2 := bq'.c2
        have q3 := bq'.c3
        have q4 := bq'.c4
        have lW := bq'.lt
        have lb3 := block_lt kc
        go_region_with (go_at_call 12; refine (HNX.out _).mono ?_; rintro e w3 ⟨rfl, hk3⟩; (try have ZB : B5 w3 wr.heap.size (.bool false) (.int .i64 0) (.int .i64 0) (.int .i64 0) (.int .u64 0) := (b5_alloc wr.drew (.bool false) (.int .i64 0) (.int .i64 0) (.int .i64 0) (.int .u64 0) 24).kept hk3); (try have z0 := ZB.c0); (try have z1 := ZB.c1); (try have z2 := ZB.c2); (try have z3 := ZB.c3); (try have z4 := ZB.c4); (try have y0 := ZB.f0); (try have y1 := ZB.f1); (try have y2 := ZB.f2); (try have y3 := ZB.f3); (try have y4 := ZB.f4))
        all_goals simp only [Rr, Act.put, List.getElem_toArray, List.getElem_cons_zero, List.getElem_cons_succ, List.setIfInBounds_toArray, List.set_cons_zero, List.set_cons_succ]
        all_goals first
          | (refine ⟨w3.heap.size, ?_, ((Kept.drew _ _).tr hk3).tr (Kept.alloc _ _ _ _ _), hk3.size, b5_alloc _ _ _ _ _ _ _⟩; generalize w3.heap.size = B; with_reducible rfl)
          | (refine ⟨wr.heap.size, ?_, kept_set5 (((Kept.drew _ _).tr (Kept.alloc _ _ _ _ _)).tr hk3) (Nat.le_refl _) _ _ _ _ _, Nat.le_refl _, ZB.set _ _ _ _ _⟩; generalize wr.heap.size = B; with_reducible rfl)
      case cont16 =>
        intro e16 act16 w16 hq16
        obtain ⟨rfl, B, rfl, hk16, hB16, bx16⟩ := Rr.out hq16
        clear hq16
        have HP16 := Hid.mk' (HBR.out.tr hk16)
        have g0 := bx16.c0
        have g1 := bx16.c1
        have g2 := bx16.c2
        have g3 := bx16.c3
        have g4 := bx16.c4
        have v0 := HP16.out.box.c0
        have v1 := HP16.out.box.c1
        have v2 := HP16.out.box.c2
        have v3 := HP16.out.box.c3
        have v4 := HP16.out.box.c4
        have f0 := HP16.out.box.f0
        have f1 := HP16.out.box.f1
        have f2 := HP16.out.box.f2
        have f3 := HP16.out.box.f3
        have f4 := HP16.out.box.f4
        go_wp2
        go_roundw
        case rel => (have hX := Beh.set (P := ⟨r0', r1', r2', r3', r4'⟩) HP16.out HQ'.out; dsimp only [setG, set5] at hX; exact ⟨i + 1, by go_num, by omega, by with_reducible exact hX⟩)
        case measure => simp [intOf]; omega
    · obtain rfl : i = n := by omega
      have g0 := HBR.out.box.c0
      have g1 := HBR.out.box.c1
      have g2 := HBR.out.box.c2
      have g3 := HBR.out.box.c3
      have g4 := HBR.out.box.c4
      have v0 := HBR.out.res.c0
      have v1 := HBR.out.res.c1
      have v2 := HBR.out.res.c2
      have v3 := HBR.out.res.c3
      have v4 := HBR.out.res.c4
      have f0 := HBR.out.res.f0
      have f1 := HBR.out.res.f1
      have f2 := HBR.out.res.f2
      have f3 := HBR.out.res.f3
      have f4 := HBR.out.res.f4
      go_wp2
      refine bodyPost_ret (v := .tuple #[gaV _, .bool _]) (by simp [results, Try.results9, go_sem, *]; done) rfl ⟨rfl, ?_⟩
      exact kept_set5 HBR.out.kept (Nat.le_refl _) _ _ _ _ _
abbrev L4 : List Bool := [true, true, false, true]
abbrev L5 : List Bool := [true, true, false, true, false]
theorem at_L4 : atG L4 4 = ⟨true, 1, 0, 2, 13⟩ := by rfl
theorem at_L5 : atG L5 5 = ⟨false, 0, 1, 2, 26⟩ := by rfl
theorem lies4 {w : World} {H : Nat} (hH : w.heap.size = H) : Bo (w.alloc (.cells #[Value.bool true, .bool true, .bool false, .bool true] 4)) (some ⟨H, 0, none⟩) 4 L4 := by
  subst hH
  exact Bo.alloc _ L4 _ _ _ (fun i hi => by have hi' : i < 4 := hi; rcases i with _|_|_|_|i <;> first | rfl | omega) (by simp)
theorem lies5 {w : World} {H : Nat} (hH : w.heap.size = H) : Bo (w.alloc (.cells #[Value.bool true, .bool true, .bool false, .bool true, .bool false] 4)) (some ⟨H, 0, none⟩) 5 L5 := by
  subst hH
  exact Bo.alloc _ L5 _ _ _ (fun i hi => by have hi' : i < 5 := hi; rcases i with _|_|_|_|_|i <;> first | rfl | omega) (by simp)
theorem behind4 {w : World} {a : Option Addr} {c : Nat} (hA : Bo w a 4 L4) : Calls Try.prog 9 #[.slice a 4 c] w fun e w' => e = .returned (.tuple #[gaV ⟨true, 1, 0, 2, 13⟩, .bool true]) ∧ Kept w w' none := by
  rw [← at_L4]; exact behind_any hA
theorem behind5 {w : World} {a : Option Addr} {c : Nat} (hA : Bo w a 5 L5) : Calls Try.prog 9 #[.slice a 5 c] w fun e w' => e = .returned (.tuple #[gaV ⟨false, 0, 1, 2, 26⟩, .bool true]) ∧ Kept w w' none := by
  rw [← at_L5]; exact behind_any hA
set_option maxHeartbeats 400000 in
theorem alive_any (w : World) : Calls Try.prog 13 #[] w fun e w' => e = .returned (.bool true) ∧ Kept w w' none := by
  go_enter Try.func13, Try.ntmps13
  go_wp2_with (go_at_call 9; refine (behind4 (lies4 (w := w) rfl)).mono ?_; rintro e w1 ⟨rfl, hk1⟩)
  go_ret
  exact ⟨by simp, ((Kept.alloc _ _ _ _ _).tr hk1).tr (Kept.alloc _ _ _ _ _)⟩

end Go.Proofs.Ytcckpdgknjjjmaa
