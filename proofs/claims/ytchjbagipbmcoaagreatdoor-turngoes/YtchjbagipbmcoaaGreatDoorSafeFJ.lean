/-
  Texts joined: some of those that the proofs of this seat stand on.
-/
import Derived.Test.YtchjbagipbmcoaaGreatDoorSafeCJ
import Derived.Laws.CopyOwn
import Derived.Laws.MakeOwn
/-
  THE CONTRACTS of Greatest, First, copied, mayBe.
-/
namespace Go.Proofs.YtchjbagipbmcoaaGreatDoor
open Go.RowKit Go.Lib Go.Deep
set_option linter.unusedVariables false
set_option linter.unusedSimpArgs false

theorem worst_rng {S : St} (h : siteB S = true) : 0 ≤ worstM S ∧ worstM S ≤ 1048576 := by
  have hb := (span_may h).base
  have h1 := mostL_is S.between.flatten
  refine ⟨h1.1, h1.le (by omega) (fun x hx => ?_)⟩
  obtain ⟨l, hl, hx⟩ := List.mem_flatten.1 hx
  obtain ⟨a, ha, rfl⟩ := List.getElem_of_mem hl
  obtain ⟨b, hb2, rfl⟩ := List.getElem_of_mem hx
  have hnb := hb.sh.ok.nb
  have hr := hb.sh.row a (by omega)
  have e : S.between.getD a [] = S.between[a] := by simp [ha]
  rw [e] at hr
  have := hb.bt a b (by omega) (by omega)
  unfold St.bt at this
  rw [e] at this
  simpa [hb2] using this
theorem great_yes {X : Sa} {S : St} {w : World} (h : Sat w X S) (hT : Tabb w) (hs : siteB S = true) : Calls Tryz.prog 24 #[siteV X S] w fun e w' => e = .returned (.tuple #[.int .i64 (worstM S), .int .i64 0]) ∧ Kept w w' none := by
  have hkA : Kept w (w.alloc (.cells #[.int .i64 S.id, .slice X.g S.groups.length X.gc, .slice X.a S.apart.length X.ac, .slice X.b S.between.length X.bc, .slice X.p S.phases.length X.pc, .slice X.e S.eyes.length X.ec, .int .i64 S.watch, .int .i64 S.feed, .int .i64 S.heal, .int .i64 S.low, .int .i64 S.high, .slice X.l S.plans.length X.lc] 29)) none := Kept.alloc _ _ _ _ _
  have HK := Hid.mk' hkA
  have HS := Hid.mk' (h.kept hkA)
  have HT := Hid.mk' (hT.kept hkA)
  clear h hT hkA
  go_enter Tryz.func24, Tryz.ntmps24
  go_wp2_with (go_at_call 41; refine (worst_yes HS.out HT.out hs).mono ?_; rintro e w2 ⟨rfl, hk2⟩)
  go_ret2
  exact ⟨rfl, HK.out.tr hk2⟩
theorem great_no {X : Sa} {S : St} {w : World} (h : Sat w X S) (hT : Tabb w) (hs : siteB S = false) : Calls Tryz.prog 24 #[siteV X S] w fun e w' => e = .returned (.tuple #[.int .i64 0, .int .i64 50]) ∧ Kept w w' none := by
  have hkA : Kept w (w.alloc (.cells #[.int .i64 S.id, .slice X.g S.groups.length X.gc, .slice X.a S.apart.length X.ac, .slice X.b S.between.length X.bc, .slice X.p S.phases.length X.pc, .slice X.e S.eyes.length X.ec, .int .i64 S.watch, .int .i64 S.feed, .int .i64 S.heal, .int .i64 S.low, .int .i64 S.high, .slice X.l S.plans.length X.lc] 29)) none := Kept.alloc _ _ _ _ _
  have HK := Hid.mk' hkA
  have HS := Hid.mk' (h.kept hkA)
  have HT := Hid.mk' (hT.kept hkA)
  clear h hT hkA
  go_enter Tryz.func24, Tryz.ntmps24
  go_wp2_with (go_at_call 41; refine (worst_no HS.out HT.out hs).mono ?_; rintro e w2 ⟨rfl, hk2⟩)
  go_ret2
  exact ⟨rfl, HK.out.tr hk2⟩

/-! ### make of standings -/
theorem Tryz.infoSeen : (Tryz.prog.info? 72).map (fun i => (i.zero, i.size, i.bytes)) = some (some (.agg #[.int .u8 0, .int .i64 0, .int .i64 0]), 3, 24) := by kernel_rfl
theorem make_seen (n : Nat) (hn : n ≤ 100) (w : World) : (Instr.makeSlice 30 (.int .i64 (n : Int)) (.int .i64 (n : Int))).run Tryz.prog w = .ok (.slice (some ⟨w.heap.size, 0, none⟩) n n) (w.alloc (.cells (madeCells #[.int .u8 0, .int .i64 0, .int .i64 0] (n * 3)) 72)) := by
  obtain ⟨i, hi, hzz⟩ := Option.map_eq_some_iff.1 Tryz.infoSeen
  simp only [Prod.mk.injEq] at hzz
  obtain ⟨hz, hs, hb⟩ := hzz
  have hr := run_make (P := Tryz.prog) w 30 72 i _ Tryz.underlying30 hi hz .i64 .i64 n n (by omega) (Int.le_refl _) (by rw [hb]; omega) (by omega)
  simp only [Int.toNat_natCast, hs, Value.cells] at hr
  exact hr
theorem own_made (w : World) (n : Nat) : OwnG (w.alloc (.cells (madeCells #[.int .u8 0, .int .i64 0, .int .i64 0] (n * 3)) 72)) w.heap.size n (fun _ => n0) := by
  refine ⟨_, blk_alloc_new _ _, size_madeCells _ _, fun i hi => ?_⟩
  unfold gcell
  have h3 : i % 3 < 3 := Nat.mod_lt _ (by omega)
  rcases (show i % 3 = 0 ∨ i % 3 = 1 ∨ i % 3 = 2 by omega) with e | e | e <;> simp [madeCells, hi, e, snV, n0]
abbrev seen1 : Sn := ⟨1, 1, 1048576⟩
theorem firstV_g {S : St} {i : Nat} (h : i < S.groups.length) : (firstV S).g i = seen1 := by simp [firstV, Sf.g, h]
theorem firstV_len (S : St) : (firstV S).groups.length = S.groups.length := by simp [firstV]

end Go.Proofs.YtchjbagipbmcoaaGreatDoor

/-
  THE CONTRACT of First.
-/
namespace Go.Proofs.YtchjbagipbmcoaaGreatDoor
open Go.RowKit Go.Lib Go.Deep
set_option linter.unusedVariables false
set_option linter.unusedSimpArgs false

abbrev safe0 : Value := .agg #[.slice none 0 0, .int .i64 0, .bool false]
end Go.Proofs.YtchjbagipbmcoaaGreatDoor

