/-
  THE CONTRACT of alive: a message found behind other bytes.
-/
import Derived.Test.YtflehhliddcfgaaDoorScan
namespace Go.Proofs.YtflehhliddcfgaaDoor
open Go.RowKit Go.Lib Go.Deep
set_option linter.unusedVariables false
set_option linter.unusedSimpArgs false

/-- A list of bytes as cells. -/
abbrev rowOf (L : List Nat) : Array Value := (L.map byteV).toArray
theorem By.lit (w : World) (L : List Nat) (h2 : L.length ≤ 1000000) (hb : ∀ x ∈ L, x < 256) : By (w.alloc (.cells (rowOf L) 5)) (some ⟨w.heap.size, 0, none⟩) L.length L :=
  By.alloc w L 5 (0, 0) (rowOf L) (fun i hi => by simp [hi]) (by omega) hb
theorem come_lit (w : World) (L : List Nat) (h2 : L.length ≤ 1000000) (hb : ∀ x ∈ L, x < 256) : Come (w.alloc (.cells (rowOf L) 5)) (some ⟨w.heap.size, 0, none⟩) L.length L.length L :=
  ⟨By.lit w L h2 hb, (fun e => (nomatch e)), Nat.le_refl _, by omega⟩
theorem own_lit (w : World) (L : List Nat) (base : Nat) (h2 : L.length ≤ 1000000) (hb : base ≤ w.heap.size) : (w.alloc (.cells (rowOf L) 5)).ownsRow base 5 1 (.slice (some ⟨w.heap.size, 0, none⟩) L.length L.length) L.length (L.map byteV) :=
  ⟨by simp, .inr ⟨w.heap.size, L.length, rowOf L, rfl, hb, heap_alloc_new w _, Nat.le_refl _, by unfold maxLen; omega, by simp, by simp [List.take_of_length_le]⟩⟩
abbrev mA : Msg := (1, 2, [126, 125, 7])
theorem mA_ok : Mok mA := ⟨by decide, by decide, by decide⟩
abbrev fA : List Nat := [126, 1, 2, 0, 0, 0, 125, 94, 125, 93, 7, 156, 25, 141, 100, 126]
theorem fA_eq : frameB mA = fA := by decide +kernel
theorem scan_A : scanM ([7, 7] ++ fA) = [mA] := by
  have h := found [7, 7] [] [mA] (by simp) (fun m hm => by
    have : m = mA := by simpa using hm
    subst this
    exact ⟨mA_ok, by decide⟩)
  have e : framesB [mA] = fA := by unfold framesB; rw [List.map_cons, List.map_nil, fA_eq]; rfl
  rw [e, List.append_nil] at h
  rw [h]
  have h1 : scanM ([7, 7] ++ [126]) = [] := by decide +kernel
  have h2 : scanM (126 :: []) = [] := by decide +kernel
  rw [h1, h2]
  rfl
theorem last_A : lastE ([7, 7] ++ fA) = 17 := by decide +kernel
theorem write_A {w : World} {a : Option Addr} {c : Nat} (hC : Come w a 3 c [126, 125, 7]) (ht : Table w) :
    Calls Tryd.prog 10 #[.agg #[.int .u8 1, .int .u32 2, .slice a 3 c]] w fun e w' => ∃ a' c', e = .returned (.tuple #[.slice a' 16 c', .int .i64 0]) ∧ Mine w' w.heap.size a' 16 c' fA ∧ Kept w w' none := by
  have h := write_yes mA a 3 c w hC.by_ hC.nil mA_ok (by omega) ht
  rw [fA_eq] at h
  exact h
theorem scan_A' {w : World} {a : Option Addr} {c : Nat} (hB : By w a 18 ([7, 7] ++ fA)) (ht : Table w) :
    Calls Tryd.prog 11 #[.slice a 18 c] w fun e w' => ∃ la lc, e = .returned (.tuple #[.slice la 1 lc, .int .i64 17, .int .i64 0]) ∧ Ms w' la 1 [mA] ∧ Kept w w' none := by
  have h := scan_yes (c := c) hB (by omega) ht
  rw [scan_A, last_A] at h
  refine h.mono ?_
  rintro e w' ⟨la, n, lc, rfl, hm, hk⟩
  have := hm.size
  have e : n = 1 := this.symm
  subst e
  exact ⟨la, lc, rfl, hm.ms, hk⟩
set_option maxRecDepth 100000 in
set_option maxHeartbeats 1000000 in
theorem alive_any (w : World) (ht : Table w) : Calls Tryd.prog 15 #[] w fun e w' => e = .returned (.bool true) ∧ Kept w w' none := by
  have HT : Hid (Table w) := ht
  clear ht
  have HC : Hid (Come ((w.alloc (.cells #[.int .u8 126, .int .u8 125, .int .u8 7] 5)).alloc (.cells #[.int .u8 1, .int .u32 2, .slice (some ⟨w.heap.size, 0, none⟩) 3 3] 30)) (some ⟨w.heap.size, 0, none⟩) 3 3 [126, 125, 7]) := (come_lit w [126, 125, 7] (by decide) (by decide)).kept (Kept.alloc _ _ _ _ _)
  have hk0 : Kept w ((w.alloc (.cells #[.int .u8 126, .int .u8 125, .int .u8 7] 5)).alloc (.cells #[.int .u8 1, .int .u32 2, .slice (some ⟨w.heap.size, 0, none⟩) 3 3] 30)) none := (Kept.alloc _ _ _ _ _).tr (Kept.alloc _ _ _ _ _)
  have hB0 := box_alloc (w.alloc (.cells #[.int .u8 126, .int .u8 125, .int .u8 7] 5)) (.int .u8 1) (.int .u32 2) (.slice (some ⟨w.heap.size, 0, none⟩) 3 3) 30
  rw [World.size_alloc] at hB0
  have HB0 := Hid.mk' hB0
  have HK0 := Hid.mk' hk0
  clear hB0 hk0
  go_enter Tryd.func15, Tryd.ntmps15
  go_wp2_with (first
    | (have hgo := hK2; clear hgo; go_at_call 11; refine (scan_A' (M2.out.by (by decide)) (HT.out.kept hK2)).mono ?_; rintro e w3 ⟨la, lc, rfl, hs3, hk3⟩; have hX3 := (hX1.kept hk12).kept hk3; have x0 := hX3.c0; have x1 := hX3.c1; have x2 := hX3.c2; have HC3 := Hid.mk' ((HC1.out.kept hk12).kept hk3); have HS3 := Hid.mk' hs3; clear hs3)
    | (have hgo := M1; clear hgo; at_builtin; refine wpList_join (by rfl) _ _ (by rfl) w1.heap.size (.slice (some ⟨w1.heap.size, 0, none⟩) 2 2) 2 [7, 7] (by rfl) (own_lit w1 [7, 7] w1.heap.size (by decide) (Nat.le_refl _)) a1 16 c1 fA (by rfl) ((M1.out.by (by decide)).kept (Kept.alloc _ _ _ _ _)) (fun e => (M1.out.nil e).2) (by omega) (by simp) ?_; intro a2 c2 w2 hm2 hg2; have hk12 : Kept w1 w2 none := (Kept.alloc _ _ _ _ _).newRow hg2 (fun i h => by simp [Value.ownBlock] at h; omega); have hK2 : Kept w w2 none := hK1.tr hk12; have M2 : Hid (Mine w2 w1.heap.size a2 18 c2 ([7, 7] ++ fA)) := hm2)
    | (have hgo := HS3; clear hgo; go_at_call 28; refine (same_yes (HS3.out.kept (Kept.alloc _ _ _ _ _)) (ms_one w3 mA (some ⟨w.heap.size, 0, none⟩) 3 HC3.out)).mono ?_; rintro e w4 ⟨rfl, q4, rfl⟩)
    | (go_at_call 10; refine (write_A HC.out (HT.out.kept HK0.out)).mono ?_; rintro e w1 ⟨a1, c1, rfl, hm1, hk1⟩; have hK1 : Kept w w1 none := HK0.out.tr hk1; have hX1 := HB0.out.kept hk1; have HC1 := Hid.mk' (HC.out.kept hk1); have hl1 : w.heap.size < w1.heap.size := by { have := hk1.size; simp at this; omega }; have M1 := Hid.mk' hm1; clear hm1 hk1))
  go_ret
  exact ⟨rfl, ((hK2.tr hk3).tr (Kept.alloc _ _ _ _ _)).tr (Kept.drewN _ _ _)⟩

end Go.Proofs.YtflehhliddcfgaaDoor
