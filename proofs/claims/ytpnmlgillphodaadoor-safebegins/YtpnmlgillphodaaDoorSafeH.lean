/-
  THE CONTRACT of copied: a standing in memory of its own.
-/
import Derived.Test.YtpnmlgillphodaaDoorSafeG
import Derived.Test.YtpnmlgillphodaaDoorTwinA
namespace Go.Proofs.YtpnmlgillphodaaDoor
open Go.RowKit Go.Lib Go.Deep
set_option linter.unusedVariables false
set_option linter.unusedSimpArgs false

/-- copy of standings into a row of one's own. -/
theorem run_copy_seen {w : World} {ty : TypeId} {g n cd : Nat} {b off c : Nat} {f : Nat → Sn} {h : Nat → Sn} (hg : OwnG w g n f) (hsrc : ∀ i, i < n → ∀ j, j < 3 → w.cell? ⟨b, off + i * 3 + j, none⟩ = some (snV (h i) j)) :
    ∃ w', (Builtin.copy_ #[39, 39] ty #[.slice (some ⟨g, 0, none⟩) n cd, .slice (some ⟨b, off, none⟩) n c]).run Tryd.prog w = .ok (goInt n) w' ∧ OwnG w' g n h ∧ Kept w w' (some g) := by
  obtain ⟨cur, hb, hn, hc⟩ := hg
  have hl := run_loadCells_list (P := Tryd.prog) w ⟨b, off, none⟩ (cellsL n 3 (fun i j => snV (h i) j)) (cellsL_news (by omega) hsrc)
  have hst := run_storeCells_at Tryd.prog g 0 57 (cellsL n 3 (fun i j => snV (h i) j)) 0 cur w hb (by rw [cellsL_len]; omega) (cellsL_one (fun i j => by unfold snV; split <;> rfl))
  rw [cellsL_len] at hl
  obtain ⟨i, hi, hzz⟩ := Option.map_eq_some_iff.1 Tryd.infoSeen
  simp only [Prod.mk.injEq] at hzz
  obtain ⟨_, hs, _⟩ := hzz
  have hmin : min n n = n := by omega
  have hrow : ((List.take (0 + 0) cur.toList ++ cellsL n 3 (fun i j => snV (h i) j)) ++ List.drop (0 + 0 + (cellsL n 3 (fun i j => snV (h i) j)).length) cur.toList).toArray = (cellsL n 3 (fun i j => snV (h i) j)).toArray := by
    rw [cellsL_len, List.drop_of_length_le (by simp [hn])]
    simp
  rw [hrow] at hst
  refine ⟨w.setRow g (cellsL n 3 (fun i j => snV (h i) j)).toArray, by
    simp [Builtin.copy_, run_underlying Tryd.underlying39, Builtin.lenOf, Builtin.firstCells, sizeOf, typeInfo, hi, hs, hmin, hl, hst], ?_, ?_⟩
  · refine ⟨_, setRow_heap w g cur _ _ _ hb, by simp [cellsL_len], fun q hq => ?_⟩
    rw [List.getElem?_toArray, cellsL_at hq]
    rfl
  · exact ⟨rfl, rfl, rfl, by simp, fun k hk hr => setRow_other w g k _ (fun e => hr (by rw [e]))⟩
set_option maxRecDepth 100000 in
set_option maxHeartbeats 1000000 in
theorem copied_any {w : World} {a : Option Addr} {c : Nat} {F : Sf} (hF : SafeAt w a c F) (hp : 0 < F.groups.length) (hl : F.groups.length ≤ 100) : Calls Tryd.prog 31 #[safeV a c F] w fun e w' => ∃ b, e = .returned (safeV (some ⟨b, 0, none⟩) F.groups.length F) ∧ w.heap.size ≤ b ∧ OwnG w' b F.groups.length F.g ∧ Kept w w' none := by
  obtain ⟨bf, off, rfl, hbf, hcf⟩ := hF.lie.at_ hp
  have hFr := hF.cap.room
  have hFm := hF.cap.max
  have b1 := box_alloc w (.slice (some ⟨bf, off, none⟩) F.groups.length c) (.int .i64 F.start) (.bool F.flashed) 41
  have b2 := box_alloc (w.alloc (.cells #[.slice (some ⟨bf, off, none⟩) F.groups.length c, .int .i64 F.start, .bool F.flashed] 41)) (.slice none 0 0) (.int .i64 0) (.bool false) 41
  rw [World.size_alloc] at b2
  have k1 : Kept w (w.alloc (.cells #[.slice (some ⟨bf, off, none⟩) F.groups.length c, .int .i64 F.start, .bool F.flashed] 41)) none := Kept.alloc _ _ _ _ _
  have k2 : Kept (w.alloc (.cells #[.slice (some ⟨bf, off, none⟩) F.groups.length c, .int .i64 F.start, .bool F.flashed] 41)) ((w.alloc (.cells #[.slice (some ⟨bf, off, none⟩) F.groups.length c, .int .i64 F.start, .bool F.flashed] 41)).alloc (.cells #[.slice none 0 0, .int .i64 0, .bool false] 41)) none := Kept.alloc _ _ _ _ _
  have hsz : ((w.alloc (.cells #[.slice (some ⟨bf, off, none⟩) F.groups.length c, .int .i64 F.start, .bool F.flashed] 41)).alloc (.cells #[.slice none 0 0, .int .i64 0, .bool false] 41)).heap.size = w.heap.size + 1 + 1 := by simp
  have b1' := b1.kept k2
  have hmk := make_seen F.groups.length hl
  have k3 : Kept ((w.alloc (.cells #[.slice (some ⟨bf, off, none⟩) F.groups.length c, .int .i64 F.start, .bool F.flashed] 41)).alloc (.cells #[.slice none 0 0, .int .i64 0, .bool false] 41)) (((w.alloc (.cells #[.slice (some ⟨bf, off, none⟩) F.groups.length c, .int .i64 F.start, .bool F.flashed] 41)).alloc (.cells #[.slice none 0 0, .int .i64 0, .bool false] 41)).alloc (.cells (madeCells #[.int .u8 0, .int .i64 0, .int .i64 0] (F.groups.length * 3)) 57)) none := Kept.alloc _ _ _ _ _
  have hom := own_made ((w.alloc (.cells #[.slice (some ⟨bf, off, none⟩) F.groups.length c, .int .i64 F.start, .bool F.flashed] 41)).alloc (.cells #[.slice none 0 0, .int .i64 0, .bool false] 41)) F.groups.length
  rw [hsz] at hom
  have kw3 := (k1.tr k2).tr k3
  obtain ⟨Wc, hrun, hown, hkc⟩ := run_copy_seen (ty := 3) (cd := F.groups.length) (c := c) (h := F.g) hom (fun i hi j hj => cell_kept0 (hcf i hi j hj) kw3)
  have hnb : some w.heap.size ≠ some (w.heap.size + 1 + 1) := by intro e; have := Option.some.inj e; omega
  have hnb2 : some (w.heap.size + 1) ≠ some (w.heap.size + 1 + 1) := by intro e; have := Option.some.inj e; omega
  have hc1 : ∀ j v, ((w.alloc (.cells #[.slice (some ⟨bf, off, none⟩) F.groups.length c, .int .i64 F.start, .bool F.flashed] 41)).alloc (.cells #[.slice none 0 0, .int .i64 0, .bool false] 41)).cell? ⟨w.heap.size, j, none⟩ = some v → Wc.cell? ⟨w.heap.size, j, none⟩ = some v := fun j v h => cell_keptS (cell_kept0 h k3) hkc hnb
  have d0 := hc1 0 _ b1'.c0
  have d1 := hc1 1 _ b1'.c1
  have d2 := hc1 2 _ b1'.c2
  have b3 := b2.kept k3
  have p0 := cell_keptS b3.c0 hkc hnb2
  have p1 := cell_keptS b3.c1 hkc hnb2
  have p2 := cell_keptS b3.c2 hkc hnb2
  have fz : ∀ b j, b < w.heap.size + 1 + 1 → Wc.frozen? ⟨b, j, none⟩ = (((w.alloc (.cells #[.slice (some ⟨bf, off, none⟩) F.groups.length c, .int .i64 F.start, .bool F.flashed] 41)).alloc (.cells #[.slice none 0 0, .int .i64 0, .bool false] 41)).alloc (.cells (madeCells #[.int .u8 0, .int .i64 0, .int .i64 0] (F.groups.length * 3)) 57)).frozen? ⟨b, j, none⟩ := fun b j hb => World.frozen?_of_block (hkc.block b (by simp; omega) (by intro e; have := Option.some.inj e; omega))
  have q0 := (fz w.heap.size 0 (by omega)).trans (b1'.kept k3).f0
  have r0 := (fz (w.heap.size + 1) 0 (by omega)).trans b3.f0
  have r1 := (fz (w.heap.size + 1) 1 (by omega)).trans b3.f1
  have r2 := (fz (w.heap.size + 1) 2 (by omega)).trans b3.f2
  have hkw : Kept w Wc none := kw3.newRow hkc (fun i hi => by have := Option.some.inj hi; omega)
  have HKW := Hid.mk' hkw
  have HOWN := Hid.mk' hown
  have HGLT := Hid.mk' hown.lt
  clear b1 b2 k1 k2 hsz b1' hcf hF k3 hom kw3 hkc hkw hown hc1 b3 fz hnb hnb2
  go_enter Tryd.func31, Tryd.ntmps31
  go_wp2
  refine bodyPost_ret (v := .agg #[.slice (some ⟨w.heap.size + 1 + 1, 0, none⟩) F.groups.length F.groups.length, .int .i64 F.start, .bool F.flashed]) (by simp [results, Tryd.results31, go_sem, *]) rfl ⟨w.heap.size + 1 + 1, rfl, by omega, ?_, ?_⟩
  · exact (((HOWN.out.setOther (a := ⟨w.heap.size, 0, none⟩) (by show w.heap.size + 1 + 1 ≠ w.heap.size; omega) _).setOther (a := ⟨w.heap.size + 1, 0, none⟩) (by show w.heap.size + 1 + 1 ≠ w.heap.size + 1; omega) _).setOther (a := ⟨w.heap.size + 1, 1, none⟩) (by show w.heap.size + 1 + 1 ≠ w.heap.size + 1; omega) _).setOther (a := ⟨w.heap.size + 1, 2, none⟩) (by show w.heap.size + 1 + 1 ≠ w.heap.size + 1; omega) _
  · exact (((HKW.out.setNew (by simp) _).setNew (by simp) _).setNew (by simp) _).setNew (by simp) _

end Go.Proofs.YtpnmlgillphodaaDoor
