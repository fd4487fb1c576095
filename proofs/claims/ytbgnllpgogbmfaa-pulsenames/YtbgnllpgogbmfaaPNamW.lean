/-
  PulseNames' walk: the chapter's examples.
-/
import Derived.Test.YtbgnllpgogbmfaaPulT
import Derived.Laws.StructEq
namespace Go.Proofs.Ytbgnllpgogbmfaa
open Go.RowKit Go.Lib Go.Deep
set_option linter.unusedVariables false
set_option linter.unusedSimpArgs false

def Rn (A : Nat → Nat → Option Addr → Nat → Act) (P : World → Prop) (e : Exit) (a : Act) (w : World) : Prop := match e with
  | .normal => ∃ B G x c, a = A B G x c ∧ P w
  | _ => False
theorem Rn.out {A : Nat → Nat → Option Addr → Nat → Act} {P : World → Prop} {e : Exit} {a : Act} {w : World} (h : Rn A P e a w) : e = .normal ∧ ∃ B G x c, a = A B G x c ∧ P w := by
  cases e with
  | normal => exact ⟨rfl, h⟩
  | _ => exact h.elim
theorem tr_rep (m i : Nat) (h : i < m) : tr (List.replicate m false) i = false := by unfold tr; simp [List.getElem?_replicate, h]
def LZ : List Bool := List.replicate 4097 false
theorem LZ_len : LZ.length = 4097 := List.length_replicate
theorem z_lies {Z : Array Value} (hZ : ∀ i, i < 4097 → Z[i]? = some (.bool false)) (w w' : World) {H : Nat} (hH : w.heap.size = H) (q : Kept (w.alloc (.cells Z 4)) w' none) : Bo w' (some ⟨H, 0, none⟩) 4097 LZ := by
  subst hH
  refine Bo.kept ⟨LZ_len, by omega, fun _ => ⟨_, 0, rfl, by simp, fun i hi => ?_⟩⟩ q
  rw [Nat.zero_add, World.cell?_alloc_mark, hZ i hi, show tr LZ i = false from tr_rep 4097 i hi]
theorem run_great {Z : Array Value} {w : World} {a : Option Addr} (hb : Bo w a 4097 LZ) : Calls Try.prog 9 #[puV ⟨false, true, 1⟩, .slice a 4097 4097, .int .i64 1] w fun e w' => ∃ x c, e = .returned (.tuple #[puV Pu.zero, .slice x 0 c, .int .i64 4]) ∧ Kept w w' none := by
  refine (run_any ⟨false, true, 1⟩ 1 hb).mono ?_
  rintro e w' ⟨x, c, he, _, hk⟩
  obtain ⟨x1, x2, x3⟩ := rn_many (p := ⟨false, true, 1⟩) (L := LZ) (h := 1) (by decide) (by rw [LZ_len]; omega)
  rw [x1, x2, x3] at he
  exact ⟨x, c, he, hk⟩
theorem zb2 {W w' : World} {o : Array Value} {t' : TypeId} {a b c : Value} {t : TypeId} (hk : Kept ((W.alloc (.cells o t')).alloc (.cells #[a, b, c] t)) w' none) : Box w' (W.heap.size + 1) a b c := by
  have h := (box_alloc (W.alloc (.cells o t')) a b c t).kept hk
  rw [World.size_alloc] at h
  exact h
theorem zb3 {W w' : World} {o : Array Value} {t' : TypeId} {a b c : Value} {t : TypeId} (hk : Kept ((W.alloc (.cells #[a, b, c] t)).alloc (.cells o t')) w' none) : Box w' W.heap.size a b c :=
  (box_alloc W a b c t).kept ((Kept.alloc _ _ _ _ _).tr hk)
theorem nx {p P : Pu} {r : Bool} {h E : Int} (h1 : nexV p r h = P) (h2 : nexE p h = E) (w : World) : Calls Try.prog 8 #[puV p, .bool r, .int .i64 h] w fun e w' => e = .returned (.tuple #[puV P, .int .i64 E]) ∧ Kept w w' none := by
  refine (next_any p r h w).mono ?_
  rw [h1, h2]
  exact fun _ _ h => h
theorem nx1 (w : World) : Calls Try.prog 8 #[puV ⟨false, false, 0⟩, .bool true, .int .i64 2] w fun e w' => e = .returned (.tuple #[puV ⟨false, true, 1⟩, .int .i64 0]) ∧ Kept w w' none := nx rfl rfl w
theorem nx2 (w : World) : Calls Try.prog 8 #[puV ⟨false, true, 1⟩, .bool true, .int .i64 2] w fun e w' => e = .returned (.tuple #[puV ⟨true, true, 2⟩, .int .i64 0]) ∧ Kept w w' none := nx rfl rfl w
theorem nx3 (w : World) : Calls Try.prog 8 #[puV ⟨true, true, 2⟩, .bool false, .int .i64 2] w fun e w' => e = .returned (.tuple #[puV ⟨true, false, 1⟩, .int .i64 0]) ∧ Kept w w' none := nx rfl rfl w
theorem nx4 (w : World) : Calls Try.prog 8 #[puV ⟨false, true, 1⟩, .bool true, .int .i64 0] w fun e w' => e = .returned (.tuple #[puV ⟨false, false, 0⟩, .int .i64 2]) ∧ Kept w w' none := nx rfl rfl w
theorem nx5 (w : World) : Calls Try.prog 8 #[puV ⟨false, false, -1⟩, .bool true, .int .i64 1] w fun e w' => e = .returned (.tuple #[puV ⟨false, false, 0⟩, .int .i64 8]) ∧ Kept w w' none := nx rfl rfl w
set_option maxRecDepth 100000 in
set_option maxHeartbeats 4000000 in
theorem pnames_main {Z : Array Value} (hZ : ∀ i, i < 4097 → Z[i]? = some (.bool false)) (hmk : ∀ w, (Instr.makeSlice 27 (.int .i64 4097) (.int .i64 4097)).run Try.prog w = .ok (.slice (some ⟨w.heap.size, 0, none⟩) 4097 4097) (w.alloc (.cells Z 4))) (w : World) : Calls Try.prog 3 #[] w fun e w' => e = .returned (.bool true) ∧ Kept w w' none := by
  have HZ := Hid.mk' hZ
  have HMK := Hid.mk' hmk
  clear hZ hmk
  go_enter Try.func3, Try.ntmps3
  go_wp2_with (first
    | (go_at_call 8; have hgo := hk4; clear hgo; refine (nx5 _).mono ?_; rintro e w5 ⟨rfl, hk5⟩; have k5 := (Kept.alloc w4 #[.bool false, .bool false, .int .i64 0] 23 (0, 0) none).tr hk5; have A5 := A4.kept k5; have B5 := B4.kept k5; have C5 := C4.kept k5; have a50 := A5.c0; have a51 := A5.c1; have a52 := A5.c2; have l5 := A5.lt)
    | (go_at_call 8; have hgo := hk3; clear hgo; refine (nx4 _).mono ?_; rintro e w4 ⟨rfl, hk4⟩; have k4 := (Kept.alloc w3 #[.bool true, .bool false, .int .i64 1] 23 (0, 0) none).tr hk4; have A4 := A3.kept k4; have B4 := B3.kept k4; have C4 := (box_alloc w3 (.bool true) (.bool false) (.int .i64 1) 23).kept hk4; clear a30 a31 a32)
    | (go_at_call 8; have hgo := hk2; clear hgo; refine (nx3 _).mono ?_; rintro e w3 ⟨rfl, hk3⟩; have k3 := (Kept.alloc w2 #[.bool true, .bool true, .int .i64 2] 23 (0, 0) none).tr hk3; have A3 := A2.kept k3; have B3 := (box_alloc w2 (.bool true) (.bool true) (.int .i64 2) 23).kept hk3; have a30 := A3.c0; have a31 := A3.c1; have a32 := A3.c2; have l3 := A3.lt)
    | (go_at_call 8; have hgo := hk1; clear hgo; refine (nx2 _).mono ?_; rintro e w2 ⟨rfl, hk2⟩; have A2 := (box_alloc w1 (.bool false) (.bool true) (.int .i64 1) 23).kept hk2)
    | (go_at_call 8; refine (nx1 _).mono ?_; rintro e w1 ⟨rfl, hk1⟩))
  have kW : Kept w5 (w5.alloc (.cells #[.bool false, .bool false, .int .i64 0] 23)) none := Kept.alloc _ _ _ _ _
  have AW := A5.kept kW
  have BW := B5.kept kW
  have CW := C5.kept kW
  have hKW : Kept w (w5.alloc (.cells #[.bool false, .bool false, .int .i64 0] 23)) none := (((((hk1.tr ((Kept.alloc _ _ _ _ _).tr hk2)).tr k3).tr k4).tr k5).tr kW)
  have HKW := Hid.mk' hKW
  obtain ⟨W, hW⟩ : ∃ W, w5.alloc (.cells #[.bool false, .bool false, .int .i64 0] 23) = W := ⟨_, rfl⟩
  rw [hW] at AW BW CW HKW ⊢
  clear hW hKW kW A2 A3 B3 A4 B4 C4 A5 B5 C5 a50 a51 a52 hk1 hk2 hk3 hk4 hk5 k3 k4 k5
  refine Code.wp_mono (Q := Rn ?A6 (fun w' => Kept W w' none)) ?cont6 ?reg6
  case reg6 =>
    (repeat (rename_i hh; clear hh))
    have hmk := HMK.out
    have q0 := AW.c0
    have q1 := AW.c1
    have q2 := AW.c2
    have lW := AW.lt
    have lW1 : w1.heap.size < W.heap.size + 1 := by omega
    go_region_with (go_at_call 9; refine (run_great (Z := Z) (by first | exact z_lies HZ.out W _ rfl (Kept.drew _ _) | exact z_lies HZ.out W _ rfl ((Kept.alloc _ _ _ _ _).tr (Kept.drew _ _)) | exact z_lies HZ.out (W.alloc (.cells #[.bool false, .bool false, .int .i64 0] 23)) _ (by simp) (Kept.drew _ _))).mono ?_; rintro e w6 ⟨x6, c6, rfl, hk6⟩; (first | (have ZB : Box w6 (W.heap.size + 1) (.bool false) (.bool false) (.int .i64 0) := zb2 ((Kept.drew _ _).tr hk6)) | (have ZB : Box w6 W.heap.size (.bool false) (.bool false) (.int .i64 0) := zb3 ((Kept.drew _ _).tr hk6)) | skip); (try have z0 := ZB.c0); (try have z1 := ZB.c1); (try have z2 := ZB.c2); (try have y0 := ZB.f0); (try have y1 := ZB.f1); (try have y2 := ZB.f2))
    all_goals simp only [Rn, Act.put, List.getElem_toArray, List.getElem_cons_zero, List.getElem_cons_succ, List.setIfInBounds_toArray, List.set_cons_zero, List.set_cons_succ]
    all_goals first
      | (refine ⟨w6.heap.size, W.heap.size, x6, c6, ?_, ((Kept.alloc _ _ _ _ _).tr ((Kept.drew _ _).tr hk6)).tr (Kept.alloc _ _ _ _ _)⟩; generalize w6.heap.size = B; generalize W.heap.size = G; with_reducible rfl)
      | (refine ⟨W.heap.size + 1, W.heap.size, x6, c6, ?_, kept_set3 (((Kept.alloc _ _ _ _ _).tr (Kept.alloc _ _ _ _ _)).tr ((Kept.drew _ _).tr hk6)) (Nat.le_succ _) _ _ _⟩; generalize W.heap.size + 1 = B; generalize W.heap.size = G; with_reducible rfl)
      | (refine ⟨W.heap.size, W.heap.size + 1, x6, c6, ?_, kept_set3 (((Kept.alloc _ _ _ _ _).tr (Kept.alloc _ _ _ _ _)).tr ((Kept.drew _ _).tr hk6)) (Nat.le_refl _) _ _ _⟩; generalize W.heap.size + 1 = G; generalize W.heap.size = B; with_reducible rfl)
  case cont6 =>
    intro e6 act6 w7 hq
    obtain ⟨rfl, B, G, x, c, rfl, hk7⟩ := Rn.out hq
    clear hq
    go_wp2_with (go_at_call 10; refine (alive_any _).mono ?_; rintro e w8 ⟨rfl, hk8⟩; have A8 := AW.kept (hk7.tr hk8); have B8 := BW.kept (hk7.tr hk8); have C8 := CW.kept (hk7.tr hk8); have a80 := A8.c0; have a81 := A8.c1; have a82 := A8.c2; have b80 := B8.c0; have b81 := B8.c1; have b82 := B8.c2; have c80 := C8.c0; have c81 := C8.c1; have c82 := C8.c2)
    go_ret
    exact ⟨by simp, (HKW.out.tr hk7).tr hk8⟩
theorem made_at (m i : Nat) (h : i < m) : (madeCells #[Value.bool false] m)[i]? = some (.bool false) := by simp [madeCells, h, Nat.mod_one]
theorem pnames_any (w : World) : Calls Try.prog 3 #[] w fun e w' => e = .returned (.bool true) ∧ Kept w w' none := by
  have hmk := run_make_row' (P := Try.prog) 27 4 (.bool false) 1 Try.underlying27 Try.info4b rfl .i64 .i64 4097 (by omega) (by omega)
  have hZ : ∀ i, i < 4097 → (madeCells #[Value.bool false] 4097)[i]? = some (.bool false) := fun i hi => made_at 4097 i hi
  exact pnames_main hZ hmk w

end Go.Proofs.Ytbgnllpgogbmfaa
