/-
  THE CONTRACTS of link's checkCommand, Command, checkReport, Report.
-/
import Derived.Test.YtnmfigcemknjbaaLnkX
import Derived.Test.YtnmfigcemknjbaaLnkB
namespace Go.Proofs.Ytnmfigcemknjbaa
open Go.RowKit Go.Lib Go.Deep
set_option linter.unusedVariables false
set_option linter.unusedSimpArgs false

/-- Four cells of a box. -/
structure C4 (w : World) (b : Nat) (v0 v1 v2 v3 : Value) : Prop where
  c0 : w.cell? ⟨b, 0, none⟩ = some v0
  c1 : w.cell? ⟨b, 1, none⟩ = some v1
  c2 : w.cell? ⟨b, 2, none⟩ = some v2
  c3 : w.cell? ⟨b, 3, none⟩ = some v3
theorem c4_alloc (w : World) (v0 v1 v2 v3 : Value) (t : TypeId) : C4 (w.alloc (.cells #[v0, v1, v2, v3] t)) w.heap.size v0 v1 v2 v3 :=
  ⟨World.cell?_alloc_mark .., World.cell?_alloc_mark .., World.cell?_alloc_mark .., World.cell?_alloc_mark ..⟩
theorem C4.kept {w w' : World} {b : Nat} {v0 v1 v2 v3 : Value} {r : Option Nat} (h : C4 w b v0 v1 v2 v3) (k : Kept w w' r) (hr : some b ≠ r) : C4 w' b v0 v1 v2 v3 :=
  ⟨cell_keptR h.c0 k hr, cell_keptR h.c1 k hr, cell_keptR h.c2 k hr, cell_keptR h.c3 k hr⟩
abbrev cmC4 (c : Cm) (a : Option Addr) (k : Nat) : Array Value := #[.int .i64 c.site, .int .i64 c.plan.cycle, .int .i64 c.plan.offset, .slice a c.plan.splits.length k]
abbrev cmV (c : Cm) (a : Option Addr) (k : Nat) : Value := .agg (cmC4 c a k)
abbrev rpC4 (r : Rp) (a : Option Addr) (k : Nat) : Array Value := #[.int .i64 r.site, .int .u8 (r.mode : Int), .int .i64 r.tick, .slice a r.loads.length k]
abbrev rpV (r : Rp) (a : Option Addr) (k : Nat) : Value := .agg (rpC4 r a k)
/-- A command as it came in. -/
structure Cok (w : World) (c : Cm) (a : Option Addr) (k : Nat) : Prop where
  ints : Ints w a c.plan.splits.length k c.plan.splits
  cyc : i64B c.plan.cycle
  off : i64B c.plan.offset
  site : i64B c.site
theorem Cok.kept {w w' : World} {c : Cm} {a : Option Addr} {k : Nat} (h : Cok w c a k) (q : Kept w w' none) : Cok w' c a k := ⟨h.ints.kept q, h.cyc, h.off, h.site⟩
structure Rok (w : World) (r : Rp) (a : Option Addr) (k : Nat) : Prop where
  ints : Ints w a r.loads.length k r.loads
  mode : r.mode < 256
  tick : i64B r.tick
  site : i64B r.site
theorem Rok.kept {w w' : World} {r : Rp} {a : Option Addr} {k : Nat} (h : Rok w r a k) (q : Kept w w' none) : Rok w' r a k := ⟨h.ints.kept q, h.mode, h.tick, h.site⟩
theorem plans_oneL (w : World) (p : Pl) (a : Option Addr) (k : Nat) (hI : Ints w a p.splits.length k p.splits) (h1 : i64B p.cycle) (h2 : i64B p.offset) : Plans (w.alloc (.cells #[.int .i64 p.cycle, .int .i64 p.offset, .slice a p.splits.length k] 94)) (some ⟨w.heap.size, 0, none⟩) 1 1 [p] := by
  refine ⟨⟨fun _ => (a, k), ⟨fun _ => ⟨w.heap.size, 0, rfl, by simp, fun i hi j hj => ?_⟩⟩, fun i hi => ?_⟩, rfl, ⟨fun e => (nomatch e), Nat.le_refl _, by omega⟩, fun q hq => ?_⟩
  · obtain rfl : i = 0 := by omega
    have h := World.cell?_alloc_mark w #[.int .i64 p.cycle, .int .i64 p.offset, .slice a p.splits.length k] 94 (0, 0)
    have : j = 0 ∨ j = 1 ∨ j = 2 := by omega
    rcases this with rfl | rfl | rfl
    · exact h 0
    · exact h 1
    · exact h 2
  · obtain rfl : i = 0 := by omega
    exact hI.kept (Kept.alloc _ _ _ _ _)
  · rw [List.mem_singleton.1 hq]
    exact ⟨h1, h2⟩
theorem lcheckC_any (c : Cm) {w : World} {a : Option Addr} {k : Nat} (h : Cok w c a k) : Calls Try.prog 34 #[cmV c a k] w fun e w' => e = .returned (.int .i64 (cmE c)) ∧ Kept w w' none := by
  have HC := Hid.mk' h
  clear h
  by_cases hs : 0 ≤ c.site ∧ c.site ≤ 65535
  · have HE : Hid (cmE c = wholeE [c.plan]) := Hid.mk' (if_pos hs)
    go_enter Try.func34, Try.ntmps34
    go_wp2_with (first
      | (have hgo := K2; clear hgo; go_at_call 53; refine (whole_any (plans_oneL w2 c.plan a k (HC.out.kept K2.out).ints HC.out.cyc HC.out.off)).mono ?_; rintro e w3 ⟨a3, c3, rfl, hm3, hk3⟩)
      | (go_at_call 33; refine (lwithin_any _ _ _ true _ (decide_eq_true hs)).mono ?_; rintro e w2 ⟨rfl, hk2⟩; obtain ⟨c0, c1, c2, c3'⟩ := (c4_alloc w (.int .i64 c.site) (.int .i64 c.plan.cycle) (.int .i64 c.plan.offset) (.slice a c.plan.splits.length k) 39).kept hk2 (by simp); have K2 := Hid.mk' ((Kept.alloc w (cmC4 c a k) 39 (0, 0) none).tr hk2); clear hk2))
    go_ret
    exact ⟨by rw [HE.out]; rfl, (K2.out.tr (Kept.alloc _ _ _ _ _)).tr hk3⟩
  · have HE : Hid (cmE c = 2) := Hid.mk' (if_neg hs)
    go_enter Try.func34, Try.ntmps34
    go_wp2_with (go_at_call 33; refine (lwithin_any _ _ _ false _ (decide_eq_false hs)).mono ?_; rintro e w2 ⟨rfl, hk2⟩)
    go_ret
    exact ⟨by rw [HE.out]; rfl, (Kept.alloc _ _ _ _ _).tr hk2⟩
/-- Four numbers just laid. -/
theorem ints4 (w : World) (a b c d : Int) (h1 : i64B a) (h2 : i64B b) (h3 : i64B c) (h4 : i64B d) (t : TypeId) : Ints (w.alloc (.cells #[.int .i64 a, .int .i64 b, .int .i64 c, .int .i64 d] t)) (some ⟨w.heap.size, 0, none⟩) 4 4 [a, b, c, d] :=
  ints_lit w [a, b, c, d] _ t 4 rfl (fun i hi => by
    have : i = 0 ∨ i = 1 ∨ i = 2 ∨ i = 3 := by omega
    rcases this with rfl | rfl | rfl | rfl <;> rfl) (fun x hx => by
    simp only [List.mem_cons, List.not_mem_nil, or_false] at hx
    unfold i64B at *
    rcases hx with rfl | rfl | rfl | rfl <;> omega) (by omega)
theorem lcmd_any (c : Cm) {w : World} {a : Option Addr} {k : Nat} (h : Cok w c a k) : Calls Try.prog 13 #[cmV c a k] w fun e w' => ∃ a' c', e = .returned (.tuple #[.slice a' (cmL c).length c', .int .i64 (cmE c)]) ∧ Mine w' w.heap.size a' (cmL c).length c' (cmL c) ∧ Kept w w' none := by
  have HC := Hid.mk' h
  have hsm := h.ints.cap.max
  have hsr := h.ints.cap.room
  clear h
  by_cases hE : cmE c = 0
  · have hL : cmL c = smlI [c.site, c.plan.cycle, c.plan.offset, (c.plan.splits.length : Int)] ++ smlI c.plan.splits := by
      rw [← smlI_append]; exact if_pos hE
    have HL := Hid.mk' hL
    have HOK := Hid.mk' (cm_ok hE)
    have hlen : c.plan.splits.length ≤ 8 := (cm_ok hE).2.2.2.1
    have HE := Hid.mk' hE
    clear hL hE
    have h10 : (smlI [c.site, c.plan.cycle, c.plan.offset, (c.plan.splits.length : Int)]).length ≤ 40 := by
      have := smlI_len [c.site, c.plan.cycle, c.plan.offset, (c.plan.splits.length : Int)] (fun y hy => by
        obtain ⟨q1, q2, q3, q4, _⟩ := HOK.out
        simp only [List.mem_cons, List.not_mem_nil, or_false] at hy
        rcases hy with rfl | rfl | rfl | rfl <;> omega)
      simpa using this
    have HPOS : Hid (∀ x ∈ [c.site, c.plan.cycle, c.plan.offset, (c.plan.splits.length : Int)], 0 ≤ x) := Hid.mk' (fun y hy => by
        obtain ⟨q1, q2, q3, q4, _⟩ := HOK.out
        simp only [List.mem_cons, List.not_mem_nil, or_false] at hy
        rcases hy with rfl | rfl | rfl | rfl <;> omega)
    generalize hM1 : smlI [c.site, c.plan.cycle, c.plan.offset, (c.plan.splits.length : Int)] = M1 at *
    have HM1 := Hid.mk' hM1
    clear hM1
    go_enter Try.func13, Try.ntmps13
    go_wp2_with (first
      | (have hgo := P3; clear hgo; go_at_call 35; refine (wsmall_any w.heap.size P3.out K3.out.size (HC.out.kept K3.out).ints (by intro hp x hx e; obtain ⟨b, off, e1, hb, _⟩ := HC.out.ints.at_ hp; rw [e1] at hx; injection hx with hx; subst hx; have := (P3.out.own.lt _ e.symm).1; dsimp only at this; omega) (by intro x hx; exact (HOK.out.2.2.2.2 x hx).1) (by omega)).mono ?_; rintro e w4 ⟨a4, c4, rfl, hm4, hk4, _⟩; dsimp only; have P4 := Hid.mk' hm4; have K4 := Hid.mk' (kept_rowL K3.out hk4 (by intro g hg; exact (P3.out.own.lt g hg).1)); clear hm4 hk4 P3)
      | (have hgo := P2; clear hgo; go_at_call 35; refine (wsmall_any w.heap.size (mine_nil (w2.alloc (.cells #[.int .i64 c.site, .int .i64 c.plan.cycle, .int .i64 c.plan.offset, .int .i64 (c.plan.splits.length : Int)] 3)) w.heap.size) (K2.out.tr (Kept.alloc _ _ _ _ _)).size (ints4 w2 c.site c.plan.cycle c.plan.offset (c.plan.splits.length : Int) HC.out.site HC.out.cyc HC.out.off (by unfold i64B; omega) 3) (by intro hp x hx e; cases e) HPOS.out (by omega)).mono ?_; rw [HM1.out, List.nil_append, Nat.zero_add]; rintro e w3 ⟨a3, c3, rfl, hm3, hk3, _⟩; dsimp only; have P3 := Hid.mk' hm3; have K3 := Hid.mk' ((K2.out.tr (Kept.alloc _ _ _ _ _)).tr hk3); obtain ⟨c0, c1, c2, c3'⟩ := (B2.out.kept (Kept.alloc _ _ _ _ none) (by simp)).kept hk3 (by simp [Value.ownBlock]); clear hm3 hk3 P2)
      | (go_at_call 34; refine (lcheckC_any c (HC.out.kept (Kept.alloc _ _ _ _ _))).mono ?_; rw [HE.out]; rintro e w2 ⟨rfl, hk2⟩; dsimp only; have B2 := Hid.mk' ((c4_alloc w (.int .i64 c.site) (.int .i64 c.plan.cycle) (.int .i64 c.plan.offset) (.slice a c.plan.splits.length k) 39).kept hk2 (by simp)); obtain ⟨c0, c1, c2, c3'⟩ := B2.out; have K2 := Hid.mk' ((Kept.alloc w (cmC4 c a k) 39 (0, 0) none).tr hk2); have P2 := Hid.mk' trivial; clear hk2))
    go_ret2
    have hP := P4.out
    refine ⟨a4, c4, ?_, ?_, K4.out⟩
    · rw [HE.out, HL.out, List.length_append]; rfl
    · rw [HL.out, List.length_append]; exact hP
  · have HE := Hid.mk' hE
    have HL : Hid (cmL c = []) := Hid.mk' (if_neg hE)
    have hne : ((cmE c) != 0) = true := by simpa using hE
    clear hE
    go_enter Try.func13, Try.ntmps13
    go_wp2_with (go_at_call 34; refine (lcheckC_any c (HC.out.kept (Kept.alloc _ _ _ _ _))).mono ?_; rintro e w2 ⟨rfl, hk2⟩)
    go_ret2
    exact ⟨none, 0, by rw [HL.out]; rfl, by rw [HL.out]; exact mine_nil _ _, (Kept.alloc _ _ _ _ _).tr hk2⟩

end Go.Proofs.Ytnmfigcemknjbaa
