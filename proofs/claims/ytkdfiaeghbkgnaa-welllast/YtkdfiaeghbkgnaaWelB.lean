/-
  THE STATEMENTS' OWN: behind (ticks behind others), alive.
-/
import Derived.Test.YtkdfiaeghbkgnaaWelC
namespace Go.Proofs.Ytkdfiaeghbkgnaa
open Go.RowKit Go.Lib Go.Deep
set_option linter.unusedVariables false
set_option linter.unusedSimpArgs false

/-- A region's end: the frame is A, the world some one that P tells of. -/
def RgP (A : Act) (P : World → Prop) (e : Exit) (a : Act) (w : World) : Prop := match e with
  | .normal => a = A ∧ P w
  | _ => False
theorem RgP.out {A : Act} {P : World → Prop} {e : Exit} {a : Act} {w : World} (h : RgP A P e a w) : e = .normal ∧ a = A ∧ P w := by
  cases e with
  | normal => exact ⟨rfl, h⟩
  | _ => exact h.elim
theorem bo_set {w : World} {a : Option Addr} {n : Nat} {L : List Bool} (h : Bo w a n L) {g : Nat} (hne : ∀ x, a = some x → 0 < n → x.block ≠ g) (v : Value) : Bo (w.setCell ⟨g, 0, none⟩ v) a n L := by
  obtain ⟨h1, h2, h4⟩ := h
  refine ⟨h1, h2, fun hp => ?_⟩
  obtain ⟨b, off, rfl, hb, hc⟩ := h4 hp
  have hx := hne _ rfl hp
  exact ⟨b, off, rfl, by simpa [World.setCell] using hb, fun i hi => (World.cell?_setCell_other _ _ _ _ (by simp; intro e; exact absurd e.symm hx)).trans (hc i hi)⟩
def atB (b : Nat) (L : List Bool) (i : Nat) : Nat := behW b (L.take i)
theorem atB_zero (b : Nat) (L : List Bool) : atB b L 0 = b := rfl
theorem atB_succ {b : Nat} {L : List Bool} {i : Nat} (h : i < L.length) : atB b L (i + 1) = nxW (atB b L i) (tr L i) := behW_take h
theorem atB_all {b : Nat} {L : List Bool} {n : Nat} (h : L.length = n) : atB b L n = behW b L := by subst h; exact behW_all b L
theorem atB_lt {b : Nat} (hb : b < 18446744073709551616) (L : List Bool) (i : Nat) : atB b L i < 18446744073709551616 := behW_lt hb _
/-- What is known between two ticks. -/
structure Bew (w : World) (b : Nat) (L : List Bool) (a : Option Addr) (n : Nat) (i : Nat) (W : World) : Prop where
  box : Wb W w.heap.size (atB b L i)
  res : Wb W (w.heap.size + 1) 0
  raw : Bo W a n L
  kept : Kept w W none
  na : ∀ x, a = some x → 0 < n → x.block < w.heap.size
theorem Bew.tr {w W W' : World} {b : Nat} {L : List Bool} {a : Option Addr} {n i : Nat} (t : Bew w b L a n i W) (q : Kept W W' none) : Bew w b L a n i W' :=
  ⟨t.box.kept q, t.res.kept q, t.raw.kept q, t.kept.tr q, t.na⟩
theorem Bew.set {w W : World} {b : Nat} {L : List Bool} {a : Option Addr} {n i : Nat} {y : Nat} (t : Bew w b L a n i W) (hP : y = atB b L (i + 1)) : Bew w b L a n (i + 1) (W.setCell ⟨w.heap.size, 0, none⟩ (.int .u64 (y : Int))) := by
  refine ⟨by rw [← hP]; exact t.box.set y, t.res.far (by omega) _, bo_set t.raw (fun x hx h0 => by have := t.na x hx h0; omega) _, t.kept.setNew (p := ⟨w.heap.size, 0, none⟩) (Nat.le_refl _) _, t.na⟩
set_option maxRecDepth 100000 in
set_option maxHeartbeats 4000000 in
theorem behind_any (b : Nat) {a : Option Addr} {n c : Nat} {L : List Bool} {w : World} (hb : b < 18446744073709551616) (hA : Bo w a n L) : Calls Try.prog 14 #[weV b, .slice a n c] w fun e w' => e = .returned (weV (behW b L)) ∧ Kept w w' none := by
  have hmx := hA.max
  have HL := Hid.mk' hA.size
  have hB0 : Bew w b L a n 0 ((w.alloc (.cells #[.int .u64 (b : Int)] 24)).alloc (.cells #[.int .u64 0] 24)) := by
    have b1 := wb_alloc (w.alloc (.cells #[.int .u64 (b : Int)] 24)) 0
    rw [World.size_alloc] at b1
    refine ⟨(wb_alloc w b).kept (Kept.alloc _ _ _ _ _), b1, hA.kept ((Kept.alloc _ _ _ _ _).tr (Kept.alloc _ _ _ _ _)), (Kept.alloc _ _ _ _ _).tr (Kept.alloc _ _ _ _ _), fun x hx h0 => ?_⟩
    obtain ⟨b, off, e, hb, _⟩ := hA.at_ h0
    rw [hx] at e; injection e with e; subst e; exact hb
  have HB0 := Hid.mk' hB0
  clear hA hB0
  go_enter Try.func14, Try.ntmps14
  go_wp2
  go_loopw [5] (fun iv wr => ∃ (i : Nat), iv = .int .i64 i ∧ i ≤ n ∧ Bew w b L a n i wr) (fun iv _ => n - (intOf iv).toNat)
  case atStart => exact ⟨0, rfl, by omega, HB0.out⟩
  case round =>
    clear HB0
    obtain ⟨i, rfl, hin, hbr⟩ := hrel
    have HBR := Hid.mk' hbr
    clear hbr
    by_cases hlt : i < n
    · have hiL : i < L.length := by have := HL.out; omega
      have hs := atB_succ (b := b) hiL
      have hlt1 := atB_lt hb L i
      have bq := HBR.out.box
      have bres := HBR.out.res
      obtain ⟨b3, o3, e3, _, hc3⟩ := HBR.out.raw.at_ (by omega)
      have kc := hc3 i hlt
      have hb3 := HBR.out.na _ e3 (by omega)
      clear hc3 hiL
      subst e3
      dsimp only at hb3
      have HNX := Hid.mk' (fun w' => wnext_any (atB b L i) (tr L i) w' hlt1)
      rw [← hs] at HNX
      clear hs
      obtain ⟨y, hy⟩ : ∃ y, y = atB b L (i + 1) := ⟨_, rfl⟩
      rw [← hy] at HNX
      have HY := Hid.mk' hy
      clear hy
      generalize tr L i = g at *
      generalize atB b L i = x at *
      go_wp2
      refine Code.wp_mono (Q := RgP ?A16 (fun w' => ∃ W, Kept wr W none ∧ w' = W.setCell ⟨w.heap.size, 0, none⟩ (.int .u64 (y : Int)))) ?cont16 ?reg16
      case reg16 =>
        (repeat (rename_i hh; clear hh))
        have q0 := bq.c0
        have qf := bq.f0
        have lW := bq.lt
        have lb3 := block_lt kc
        go_region_with (go_at_call 12; refine (HNX.out _).mono ?_; rintro e w3 ⟨rfl, hk3⟩; have W3 := bq.kept ((Kept.drew _ _).tr hk3); have q1 := W3.c0; have qf1 := W3.f0)
        all_goals simp only [RgP, Act.put, List.getElem_toArray, List.getElem_cons_zero, List.getElem_cons_succ, List.setIfInBounds_toArray, List.set_cons_zero, List.set_cons_succ]
        all_goals exact ⟨by with_reducible rfl, _, (Kept.drew _ _).tr hk3, rfl⟩
      case cont16 =>
        intro e16 act16 w16 hq16
        obtain ⟨rfl, rfl, W, hk16, rfl⟩ := RgP.out hq16
        clear hq16
        have HP16 := Hid.mk' (Bew.set (HBR.out.tr hk16) HY.out)
        go_wp2
        go_roundw
        case rel => exact ⟨i + 1, by go_num, by omega, HP16.out⟩
        case measure => simp [intOf]; omega
    · obtain rfl : i = n := by omega
      have g0 := HBR.out.box.c0
      have v0 := HBR.out.res.c0
      have f0 := HBR.out.res.f0
      have he := atB_all (b := b) HL.out
      rw [he] at g0
      clear he
      go_wp2
      refine bodyPost_ret (v := weV (behW b L)) (by simp [results, Try.results14, go_sem, *]; done) rfl ⟨rfl, ?_⟩
      exact HBR.out.kept.setNew (p := ⟨w.heap.size + 1, 0, none⟩) (by simp) _
abbrev L3 : List Bool := [true, false, true]
theorem beh_L3 : behW 0 L3 = 5 := by decide
theorem lies3 {w : World} {H : Nat} (hH : w.heap.size = H) : Bo (w.alloc (.cells #[Value.bool true, .bool false, .bool true] 4)) (some ⟨H, 0, none⟩) 3 L3 := by
  subst hH
  exact Bo.alloc _ L3 _ _ _ (fun i hi => by have hi' : i < 3 := hi; rcases i with _|_|_|i <;> first | rfl | omega) (by simp)
theorem behind3 {w : World} {a : Option Addr} {c : Nat} (hA : Bo w a 3 L3) : Calls Try.prog 14 #[.agg #[.int .u64 0], .slice a 3 c] w fun e w' => e = .returned (.agg #[.int .u64 5]) ∧ Kept w w' none := by
  have h := behind_any (c := c) 0 (by decide) hA
  rw [beh_L3] at h
  exact h
theorem sh5 : shQ 5 4 = 32768 := by decide
theorem share5 (w : World) : Calls Try.prog 7 #[.agg #[.int .u64 5], .int .i64 4] w fun e w' => e = .returned (.tuple #[.int .i64 32768, .int .i64 0]) ∧ Kept w w' none := by
  have h := wshare_any 5 4 w (by decide)
  rw [sh5, shF_ok (by omega)] at h
  exact h
theorem fld_bits (z : Int) (w : World) : (Instr.field 24 (.agg #[.int .u64 z]) 0).run Try.prog w = .ok (.int .u64 z) w := by
  first | rfl | kernel_rfl | simp [Instr.field, go_sem]
set_option maxHeartbeats 400000 in
theorem alive_any (w : World) : Calls Try.prog 9 #[] w fun e w' => e = .returned (.bool true) ∧ Kept w w' none := by
  have hfl := fun (w' : World) => fld_bits 5 w'
  go_enter Try.func9, Try.ntmps9
  go_wp2_with (first | (go_at_call 7; refine (share5 _).mono ?_; rintro e w1 ⟨rfl, hk1⟩) | (go_at_call 14; refine (behind3 (lies3 (w := w1) rfl)).mono ?_; rintro e w2 ⟨rfl, hk2⟩))
  go_ret
  exact ⟨by simp, (hk1.tr (Kept.alloc _ _ _ _ _)).tr hk2⟩

end Go.Proofs.Ytkdfiaeghbkgnaa
