/-
  THE CONTRACTS of a reader: take, cut, New.
-/
import Derived.Test.YtflehhliddcfgaaDoorBare
namespace Go.Proofs.YtflehhliddcfgaaDoor
open Go.RowKit Go.Lib Go.Deep
set_option linter.unusedVariables false
set_option linter.unusedSimpArgs false

/-- Block R is a reader that New made. -/
structure Rdr (w : World) (R : Nat) (v : Value) (s : Pc) : Prop where
  ex : ∃ f, Pce w R 1 41 4 v s f ∧ f 0 = .pointer (some ⟨R, 0, none⟩)
theorem Rdr.own {w : World} {R : Nat} {v : Value} {s : Pc} (h : Rdr w R v s) : w.ownsRow 0 5 1 v s.1.length (s.1.map byteV) := by obtain ⟨f, hp, _⟩ := h.ex; exact hp.own
theorem Rdr.lt {w : World} {R : Nat} {v : Value} {s : Pc} (h : Rdr w R v s) : R < w.heap.size := by obtain ⟨f, hp, _⟩ := h.ex; exact hp.row.lt
theorem Rdr.vlt {w : World} {R : Nat} {v : Value} {s : Pc} (h : Rdr w R v s) : ∀ k, v.ownBlock = some k → k < w.heap.size := by obtain ⟨f, hp, _⟩ := h.ex; exact hp.lt
theorem Rdr.ne {w : World} {R : Nat} {v : Value} {s : Pc} (h : Rdr w R v s) : v.ownBlock ≠ some R := by obtain ⟨f, hp, _⟩ := h.ex; exact hp.ne
theorem Rdr.sep {w w' : World} {R : Nat} {v : Value} {s : Pc} {S : Nat → Prop} (h : Rdr w R v s) (k : Sep w w' S) (hb : ¬ S R) (hv : ∀ i, v.ownBlock = some i → ¬ S i) : Rdr w' R v s := by
  obtain ⟨f, hp, h0⟩ := h.ex
  exact ⟨f, hp.sep k hb hv, h0⟩
theorem Rdr.kept {w w' : World} {R : Nat} {v : Value} {s : Pc} (h : Rdr w R v s) (k : Kept w w' none) : Rdr w' R v s := by
  obtain ⟨f, hp, h0⟩ := h.ex
  exact ⟨f, hp.kept k, h0⟩
abbrev Rook (w w' : World) (R : Nat) (v : Value) (s' : Pc) : Prop := ∃ v', Rdr w' R v' s' ∧ Moved w v v' ∧ Sep w w' (PS R v)

set_option maxRecDepth 100000 in
set_option maxHeartbeats 1000000 in
theorem rtake_lost {w : World} {R : Nat} {v : Value} (M : List Nat) (hh : Bool) (x : Nat) (h : Rdr w R v (M, hh, true)) :
    Calls Tryd.prog 37 #[.pointer (some ⟨R, 0, none⟩), .int .u8 x] w fun e w' => e = .returned (.tuple #[]) ∧ w' = w := by
  obtain ⟨f, hp, h0⟩ := h.ex
  have hc3 := hp.row.cell (i := 3) (by omega)
  rw [show f 3 = .bool true from hp.lost] at hc3
  clear hp h0 h
  go_enter Tryd.func37, Tryd.ntmps37
  go_wp2
  exact bodyPost_ret (results_none rfl _ _ _) rfl ⟨rfl, rfl⟩
set_option maxRecDepth 100000 in
set_option maxHeartbeats 1000000 in
theorem rtake_more {w : World} {R : Nat} {v : Value} (M : List Nat) (hh : Bool) (x : Nat) (h : Rdr w R v (M, hh, false)) (hM : M.length ≤ 1000000) (hx : x < 256) :
    Calls Tryd.prog 37 #[.pointer (some ⟨R, 0, none⟩), .int .u8 x] w fun e w' => e = .returned (.tuple #[]) ∧ Rook w w' R v (if 521 < (tk (M, hh, false) x).1.length then ((tk (M, hh, false) x).1, (tk (M, hh, false) x).2.1, true) else tk (M, hh, false) x) := by
  obtain ⟨f, hp, h0⟩ := h.ex
  have hc3 := hp.row.cell (i := 3) (by omega)
  rw [show f 3 = .bool false from hp.lost] at hc3
  have HP : Hid (Pce w R 1 41 4 v (M, hh, false) f) := hp
  have H0 : Hid (f 0 = .pointer (some ⟨R, 0, none⟩)) := h0
  clear hp h0 h
  have hl := (tk_len (M, hh, false) x).2
  simp only at hl
  by_cases hgt : 521 < (tk (M, hh, false) x).1.length
  · rw [if_pos hgt]
    have HG : Hid (521 < (tk (M, hh, false) x).1.length) := hgt
    go_enter Tryd.func37, Tryd.ntmps37
    go_wp2_with (go_at_call 29; refine (take_any x HP.out hx hM).mono ?_; rintro e w1 ⟨rfl, ht⟩; obtain ⟨v1, f1, hp1, hf1, hm1, hs1⟩ := ht; obtain ⟨a1, c1, hve, hmv⟩ := mine_of hp1.own; subst hve; have hc1 := hp1.row.cell (i := 1) (by omega); rw [hp1.bare] at hc1; have hcl := hp1.row.cell (i := 3) (by omega); have hfl := hp1.row.frozen 3; have HP1 : Hid (Pce w1 R 1 41 4 (.slice a1 (tk (M, hh, false) x).1.length c1) (tk (M, hh, false) x) f1) := hp1; have HF1 : Hid (∀ j, j < 1 → f1 j = f j) := hf1; have HM1 : Hid (Moved w v (.slice a1 (tk (M, hh, false) x).1.length c1)) := hm1; clear hp1 hf1 hm1 hmv)
    go_end0
    refine ⟨rfl, .slice a1 (tk (M, hh, false) x).1.length c1, ⟨_, HP1.out.setLost true, ?_⟩, HM1.out, hs1.tr (Sep.set _ _ _ _) (fun i _ e => .inl e)⟩
    rw [if_neg (by omega), HF1.out 0 (by omega)]
    exact H0.out
  · rw [if_neg hgt]
    go_enter Tryd.func37, Tryd.ntmps37
    go_wp2_with (go_at_call 29; refine (take_any x HP.out hx hM).mono ?_; rintro e w1 ⟨rfl, ht⟩; obtain ⟨v1, f1, hp1, hf1, hm1, hs1⟩ := ht; obtain ⟨a1, c1, hve, hmv⟩ := mine_of hp1.own; subst hve; have hc1 := hp1.row.cell (i := 1) (by omega); rw [hp1.bare] at hc1; have HP1 : Hid (Pce w1 R 1 41 4 (.slice a1 (tk (M, hh, false) x).1.length c1) (tk (M, hh, false) x) f1) := hp1; have HF1 : Hid (∀ j, j < 1 → f1 j = f j) := hf1; have HM1 : Hid (Moved w v (.slice a1 (tk (M, hh, false) x).1.length c1)) := hm1; clear hp1 hf1 hm1 hmv)
    go_end0
    exact ⟨rfl, .slice a1 (tk (M, hh, false) x).1.length c1, ⟨_, HP1.out, by rw [HF1.out 0 (by omega)]; exact H0.out⟩, HM1.out, hs1⟩
theorem rtake_any {w : World} {R : Nat} {v : Value} {s : Pc} (x : Nat) (h : Rdr w R v s) (hP : Pok s) (hx : x < 256) :
    Calls Tryd.prog 37 #[.pointer (some ⟨R, 0, none⟩), .int .u8 x] w fun e w' => e = .returned (.tuple #[]) ∧ Rook w w' R v (rtk s x) := by
  obtain ⟨M, hh, l⟩ := s
  cases l with
  | true =>
    refine (rtake_lost M hh x h).mono ?_
    rintro e w' ⟨rfl, rfl⟩
    exact ⟨rfl, v, by simpa [rtk] using h, .inl rfl, Sep.refl _ _⟩
  | false =>
    have e : rtk (M, hh, false) x = if 521 < (tk (M, hh, false) x).1.length then ((tk (M, hh, false) x).1, (tk (M, hh, false) x).2.1, true) else tk (M, hh, false) x := by simp [rtk]
    rw [e]
    exact rtake_more M hh x h (by have := hP.len; simp only at this; omega) hx

/-! ### The message that is under way -/
def cutV (s : Pc) : Msg := if wholeP s = true then opnM s.1 else (0, 0, [])
def cutE (s : Pc) : Nat := if wholeP s = true then opnE s.1 else 8
theorem cutM_eq (s : Pc) : cutM s = if cutE s = 0 then [cutV s] else [] := by
  unfold cutM cutE cutV
  by_cases h : wholeP s = true
  · rw [if_pos h, if_pos h, if_pos h]
    unfold opn opnE
    by_cases h2 : opnB s.1 = true
    · rw [if_pos h2, if_pos h2]; rfl
    · rw [if_neg h2, if_neg h2]; rfl
  · rw [if_neg h, if_neg h, if_neg h]; rfl
theorem cutE_or (s : Pc) : cutE s = 0 ∨ cutE s = 8 := by
  unfold cutE opnE
  split
  · split
    · exact .inl rfl
    · exact .inr rfl
  · exact .inr rfl
theorem cutV_ok {s : Pc} (h : Pok s) : Mok (cutV s) := by
  unfold cutV
  split
  · exact opnM_ok h.lt
  · exact ⟨by decide, by decide, by simp⟩
theorem cutV_len (s : Pc) : (cutV s).2.2.length ≤ 512 := by
  unfold cutV
  split
  · exact opnM_len s.1
  · simp
/-- The slice is cut to nothing. -/
theorem own_cut {w : World} {a : Option Addr} {n c : Nat} {xs : List Value} (h : w.ownsRow 0 5 1 (.slice a n c) n xs) : w.ownsRow 0 5 1 (.slice a 0 c) 0 [] := by
  refine ⟨by simp, ?_⟩
  rcases h.2 with ⟨e, rfl⟩ | ⟨g, cap, cur, e, hb, hg, h1, h2, h3, h4⟩
  · injection e with e1 e2 e3
    subst e1 e3
    exact .inl ⟨rfl, rfl⟩
  · injection e with e1 e2 e3
    subst e1 e3
    exact .inr ⟨g, c, cur, rfl, hb, hg, Nat.zero_le _, h2, h3, by simp⟩
/-- The next piece begins in the same room. -/
theorem Rdr.cut {w : World} {R : Nat} {a : Option Addr} {n c : Nat} {s : Pc} (h : Rdr w R (.slice a n c) s) (hn : n = s.1.length) : Rdr (((w.setCell ⟨R, 1, none⟩ (.slice a 0 c)).setCell ⟨R, 2, none⟩ (.int .u8 0)).setCell ⟨R, 3, none⟩ (.bool false)) R (.slice a 0 c) ([], false, false) := by
  obtain ⟨f, hp, h0⟩ := h.ex
  have hne := hp.ne
  subst hn
  refine ⟨_, ⟨((hp.row.set 1 (.slice a 0 c)).set 2 (.int .u8 0)).set 3 (.bool false), by omega, rfl, rfl, rfl, ?_, ?_⟩, by simpa using h0⟩
  · have ho := own_cut hp.own
    have k : ∀ i, (Value.slice a 0 c).ownBlock = some i → ¬ i = R := fun i hi e => by
      subst e
      cases a with
      | none => simp [Value.ownBlock] at hi
      | some x => exact hne hi
    exact own_sep (own_sep (own_sep ho (Sep.set _ _ _ _) k) (Sep.set _ _ _ _) k) (Sep.set _ _ _ _) k
  · cases a with
    | none => simp [Value.ownBlock]
    | some x => exact hne
theorem sep_cut (w : World) (R : Nat) (v0 v1 v2 : Value) : Sep w (((w.setCell ⟨R, 1, none⟩ v0).setCell ⟨R, 2, none⟩ v1).setCell ⟨R, 3, none⟩ v2) (fun k => k = R) :=
  ((Sep.set _ _ _ _).tr (Sep.set _ _ _ _) (fun i _ e => e)).tr (Sep.set _ _ _ _) (fun i _ e => e)

theorem zeroMsg (w : World) : (zeroValue 30).run Tryd.prog w = .ok (.agg #[.int .u8 0, .int .u32 0, .slice none 0 0]) w := by kernel_rfl

set_option maxRecDepth 100000 in
set_option maxHeartbeats 1000000 in
theorem cut_no {w : World} {R : Nat} {a : Option Addr} {n c : Nat} {s : Pc} (h : Rdr w R (.slice a n c) s) (hn : n = s.1.length) (hw : wholeP s = false) :
    Calls Tryd.prog 38 #[.pointer (some ⟨R, 0, none⟩)] w fun e w' => e = .returned (.tuple #[.agg #[.int .u8 0, .int .u32 0, .slice none 0 0], .int .i64 8]) ∧ Rdr w' R (.slice a 0 c) ([], false, false) ∧ Sep w w' (fun k => k = R) := by
  obtain ⟨f, hp, h0⟩ := h.ex
  have HR : Hid (Rdr w R (.slice a n c) s) := h
  have hlt := h.lt
  have hc1 := hp.row.cell (i := 1) (by omega)
  rw [hp.bare] at hc1
  have hc2 := hp.row.cell (i := 2) (by omega)
  have hc3 := hp.row.cell (i := 3) (by omega)
  have hf1 := hp.row.frozen 1
  have hf2 := hp.row.frozen 2
  have hf3 := hp.row.frozen 3
  have hnc : n ≤ c ∧ c ≤ 9223372036854775807 ∧ (a = none → n = 0 ∧ c = 0) := by
    subst hn
    obtain ⟨a', c', e, hm⟩ := mine_of hp.own
    injection e with e1 e2 e3
    subst e1 e3
    exact ⟨hm.room, hm.max, hm.nil⟩
  have HP : Hid (Pce w R 1 41 4 (.slice a n c) s f) := hp
  clear hp h0 h
  go_enter Tryd.func38, Tryd.ntmps38
  go_wp2_with (go_at_call 30; refine (whole_any (HP.out.kept ((Kept.alloc _ _ _ _ _).tr (Kept.alloc _ _ _ _ _)))).mono ?_; rintro e w ⟨rfl, rfl⟩; rw [hw])
  exact bodyPost_ret (v := .tuple #[.agg #[.int .u8 0, .int .u32 0, .slice none 0 0], .int .i64 8]) (by simp [results, Tryd.results38, go_sem]) rfl ⟨rfl, (HR.out.cut hn).kept ((Kept.alloc _ _ _ _ _).tr (Kept.alloc _ _ _ _ _)), (sep_cut _ _ _ _ _).tr (Sep.kept (S := fun k => k = R) ((Kept.alloc _ _ _ _ _).tr (Kept.alloc _ _ _ _ _))) (fun i _ e => e)⟩
theorem sep3 (w : World) (g : Nat) (v0 v1 v2 : Value) : Sep w (((w.setCell ⟨g, 0, none⟩ v0).setCell ⟨g, 1, none⟩ v1).setCell ⟨g, 2, none⟩ v2) (fun k => k = g) :=
  ((Sep.set _ _ _ _).tr (Sep.set _ _ _ _) (fun i _ e => e)).tr (Sep.set _ _ _ _) (fun i _ e => e)
theorem sep_box {w w' : World} {S : Nat → Prop} {g : Nat} (h : Sep w w' S) (hg : w.heap.size ≤ g) (v0 v1 v2 : Value) : Sep w (((w'.setCell ⟨g, 0, none⟩ v0).setCell ⟨g, 1, none⟩ v1).setCell ⟨g, 2, none⟩ v2) S :=
  ((h.tr (Sep.set _ _ _ _) (fun i hi e => by omega)).tr (Sep.set _ _ _ _) (fun i hi e => by omega)).tr (Sep.set _ _ _ _) (fun i hi e => by omega)
set_option maxRecDepth 100000 in
set_option maxHeartbeats 1000000 in
theorem cut_yes {w : World} {R : Nat} {a : Option Addr} {n c : Nat} {s : Pc} (h : Rdr w R (.slice a n c) s) (hn : n = s.1.length) (hw : wholeP s = true) (hP : Pok s) (ht : Table w) :
    Calls Tryd.prog 38 #[.pointer (some ⟨R, 0, none⟩)] w fun e w' => ∃ a' c', e = .returned (.tuple #[msgV (opnM s.1) a' (opnM s.1).2.2.length c', .int .i64 ((opnE s.1 : Nat) : Int)]) ∧ Mine w' w.heap.size a' (opnM s.1).2.2.length c' (opnM s.1).2.2 ∧ Rdr w' R (.slice a 0 c) ([], false, false) ∧ Sep w w' (fun k => k = R) := by
  obtain ⟨f, hp, h0⟩ := h.ex
  have HR : Hid (Rdr w R (.slice a n c) s) := h
  have hlt := h.lt
  have hc1 := hp.row.cell (i := 1) (by omega)
  rw [hp.bare] at hc1
  have hnc : n ≤ c ∧ c ≤ 9223372036854775807 ∧ (a = none → n = 0 ∧ c = 0) := by
    subst hn
    obtain ⟨a', c', e, hm⟩ := mine_of hp.own
    injection e with e1 e2 e3
    subst e1 e3
    exact ⟨hm.room, hm.max, hm.nil⟩
  have HC : Hid (Come w a n c s.1) := by
    show Come w a n c s.1
    subst hn
    obtain ⟨a', c', e, hm⟩ := mine_of hp.own
    injection e with e1 e2 e3
    subst e1 e3
    exact hm.come hP.lt
  have HP : Hid (Pce w R 1 41 4 (.slice a n c) s f) := hp
  have HN : Hid (n = s.1.length) := hn
  have HT : Hid (Table w) := ht
  clear hp h0 h hn ht
  go_enter Tryd.func38, Tryd.ntmps38
  go_wp2_with (first
    | (have hgo := hkW; clear hgo; go_at_call 12; refine (open_any (HC.out.kept hkW) (HT.out.kept hkW)).mono ?_; rintro e w2 ⟨a2, c2, rfl, hm2, hk2⟩; have hX := hBx.kept hk2; have hY := hBy.kept hk2; have x0 := hX.c0; have x1 := hX.c1; have x2 := hX.c2; have x3 := hX.f0; have x4 := hX.f1; have x5 := hX.f2; have y0 := hY.c0; have y1 := hY.c1; have y2 := hY.c2; have y3 := hY.f0; have y4 := hY.f1; have y5 := hY.f2; have hp2 := HP.out.kept (hkW.tr hk2); have r1 := hp2.row.cell (i := 1) (by omega); rw [hp2.bare] at r1; have r2 := hp2.row.cell (i := 2) (by omega); have r3 := hp2.row.cell (i := 3) (by omega); have r4 := hp2.row.frozen 1; have r5 := hp2.row.frozen 2; have r6 := hp2.row.frozen 3; have HR2 : Hid (Rdr w2 R (.slice a n c) s) := HR.out.kept (hkW.tr hk2); clear hp2)
    | (go_at_call 30; refine (whole_any (HP.out.kept ((Kept.alloc _ _ _ _ _).tr (Kept.alloc _ _ _ _ _)))).mono ?_; rintro e w ⟨rfl, rfl⟩; rw [hw]; have hBx := (box_alloc w (.int .u8 0) (.int .u32 0) (.slice none 0 0) 30).kept (Kept.alloc _ #[.int .u8 0, .int .u32 0, .slice none 0 0] 30 (0, 0) none); have hBy := box_alloc (w.alloc (.cells #[.int .u8 0, .int .u32 0, .slice none 0 0] 30)) (.int .u8 0) (.int .u32 0) (.slice none 0 0) 30; rw [World.size_alloc] at hBy; have hkW : Kept w ((w.alloc (.cells #[.int .u8 0, .int .u32 0, .slice none 0 0] 30)).alloc (.cells #[.int .u8 0, .int .u32 0, .slice none 0 0] 30)) none := (Kept.alloc _ _ _ _ _).tr (Kept.alloc _ _ _ _ _)))
  have hz : R < w.heap.size + 2 := by omega
  have hm3 : Mine w2 (w.heap.size + 2) a2 (opnM s.1).2.2.length c2 (opnM s.1).2.2 := by
    rw [World.size_alloc, World.size_alloc] at hm2; exact hm2
  have hvl := HR.out.vlt
  refine bodyPost_ret (v := .tuple #[msgV (opnM s.1) a2 (opnM s.1).2.2.length c2, .int .i64 ((opnE s.1 : Nat) : Int)]) (by simp [results, Tryd.results38, go_sem, x0, x1, x2]) rfl ⟨a2, c2, rfl, ?_, ?_, ?_⟩
  · exact (((((hm3.set3 (by omega) _ _ _).set hz 1 _).set hz 2 _).set hz 3 _).set3 (g := w.heap.size) (by omega) _ _ _).lower (by omega)
  · refine Rdr.sep (Rdr.cut (HR2.out.sep (sep3 _ _ _ _ _) (by omega) (fun i hi e => by have := hvl i hi; omega)) HN.out) (sep3 _ _ _ _ _) (by omega) (fun i hi e => ?_)
    cases a with
    | none => simp [Value.ownBlock] at hi
    | some x => have := hvl i hi; omega
  · exact sep_box ((sep_box (Sep.kept (S := fun k => k = R) (hkW.tr hk2)) (by omega) _ _ _).tr (sep_cut _ _ _ _ _) (fun i _ e => e)) (Nat.le_refl _) _ _ _
theorem cut_any {w : World} {R : Nat} {v : Value} {s : Pc} (h : Rdr w R v s) (hP : Pok s) (ht : Table w) :
    Calls Tryd.prog 38 #[.pointer (some ⟨R, 0, none⟩)] w fun e w' => ∃ a' c', e = .returned (.tuple #[msgV (cutV s) a' (cutV s).2.2.length c', .int .i64 ((cutE s : Nat) : Int)]) ∧ Mine w' w.heap.size a' (cutV s).2.2.length c' (cutV s).2.2 ∧ (∃ v', Rdr w' R v' ([], false, false) ∧ v'.ownBlock = v.ownBlock) ∧ Sep w w' (fun k => k = R) := by
  obtain ⟨a, c, rfl, hm⟩ := mine_of h.own
  have hv : (Value.slice a 0 c).ownBlock = (Value.slice a s.1.length c).ownBlock := by cases a <;> rfl
  by_cases hw : wholeP s = true
  · have e1 : cutV s = opnM s.1 := by unfold cutV; rw [if_pos hw]
    have e2 : cutE s = opnE s.1 := by unfold cutE; rw [if_pos hw]
    rw [e1, e2]
    refine (cut_yes h rfl hw hP ht).mono ?_
    rintro e w' ⟨a', c', rfl, h1, h2, h3⟩
    exact ⟨a', c', rfl, h1, ⟨_, h2, hv⟩, h3⟩
  · have hw : wholeP s = false := by simpa using hw
    have e1 : cutV s = (0, 0, []) := by unfold cutV; rw [hw]; rfl
    have e2 : cutE s = 8 := by unfold cutE; rw [hw]; rfl
    rw [e1, e2]
    refine (cut_no h rfl hw).mono ?_
    rintro e w' ⟨rfl, h2, h3⟩
    exact ⟨none, 0, rfl, ⟨World.ownsRow_nil _ _ _ _, fun _ => ⟨rfl, rfl⟩, Nat.le_refl _, by omega⟩, ⟨_, h2, hv⟩, h3⟩

/-! ### New -/
set_option maxRecDepth 100000 in
theorem new_any (w : World) : Calls Tryd.prog 25 #[] w fun e w' => e = .returned (.pointer (some ⟨w.heap.size, 0, none⟩)) ∧ Rdr w' w.heap.size (.slice none 0 0) newP ∧ Kept w w' none ∧ w'.heap.size = w.heap.size + 1 := by
  go_enter Tryd.func25, Tryd.ntmps25
  go_wp2
  go_ret
  refine ⟨rfl, ⟨_, ⟨rowIs_alloc w _ _, by simp, rfl, rfl, rfl, World.ownsRow_nil _ _ _ _, by simp [Value.ownBlock]⟩, rfl⟩, Kept.alloc _ _ _ _ _, by simp⟩

end Go.Proofs.YtflehhliddcfgaaDoor
