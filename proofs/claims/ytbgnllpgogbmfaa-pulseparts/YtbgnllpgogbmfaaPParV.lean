/-
  PulseParts' walk: ticks gone through in pieces, and one by one, come to the same (made by a program).
-/
import Derived.Test.YtbgnllpgogbmfaaPulT
import Derived.Test.YtbgnllpgogbmfaaPulK
import Derived.Laws.StructEq
namespace Go.Proofs.Ytbgnllpgogbmfaa
open Go.RowKit Go.Lib Go.Deep
set_option linter.unusedVariables false
set_option linter.unusedSimpArgs false

/-- Run of a pulse that may be, with a hold that may be. -/
theorem runp_ok {p : Pu} {h : Int} {a : Option Addr} {n c : Nat} {L : List Bool} {w : World} (hA : Bo w a n L) (hp : mayP p = true) (hn : n ≤ 400) (hh : holB h = true) : Calls Try.prog 9 #[puV p, .slice a n c, .int .i64 h] w fun e w' => ∃ (a' : Option Addr) (c' : Nat), e = .returned (.tuple #[puV (runP h p L), .slice a' n c', .int .i64 0]) ∧ Bow w' w.heap.size a' n c' (saidP h p L) ∧ Kept w w' none := by
  refine (run_any p h hA).mono ?_
  rintro e w' ⟨a', c', he, hb, hk⟩
  obtain ⟨x1, x2, x3⟩ := rn_ok (p := p) (L := L) (h := h) hp (by rw [hA.size]; omega) hh
  rw [x1, x2, x3] at he
  rw [x3] at hb
  rw [saidP_len, hA.size] at he hb
  exact ⟨a', c', he, hb, hk⟩
/-- Run that answers an error: which one does not hang on how many ticks there are, as long as these are few. -/
theorem runp_no {p : Pu} {h E : Int} {a : Option Addr} {n c : Nat} {L : List Bool} {w : World} (hA : Bo w a n L) (hE : ∀ m, m ≤ 400 → runE p m h = E) (hE0 : E ≠ 0) (hn : n ≤ 400) : Calls Try.prog 9 #[puV p, .slice a n c, .int .i64 h] w fun e w' => ∃ (a' : Option Addr) (c' : Nat), e = .returned (.tuple #[puV Pu.zero, .slice a' 0 c', .int .i64 E]) ∧ Kept w w' none := by
  refine (run_any p h hA).mono ?_
  rintro e w' ⟨a', c', he, hb, hk⟩
  have e1 : runE p L.length h = E := by rw [hA.size]; exact hE n hn
  have e2 : rnV p L h = Pu.zero := by unfold rnV; rw [e1, if_neg hE0]
  have e3 : rnL p L h = [] := by unfold rnL; rw [e1, if_neg hE0]
  rw [e1, e2, e3] at he
  exact ⟨a', c', he, hk⟩
/-- A drawn region's ways, a block and a slice left open. -/
def Rq (A : Nat → Option Addr → Nat → Act) (P : Nat → Option Addr → Nat → World → Prop) (e : Exit) (a : Act) (w : World) : Prop := match e with
  | .normal => ∃ B x c, a = A B x c ∧ P B x c w
  | _ => False
theorem Rq.out {A : Nat → Option Addr → Nat → Act} {P : Nat → Option Addr → Nat → World → Prop} {e : Exit} {a : Act} {w : World} (h : Rq A P e a w) : e = .normal ∧ ∃ B x c, a = A B x c ∧ P B x c w := by
  cases e with
  | normal => exact ⟨rfl, h⟩
  | _ => exact h.elim

theorem pparts_long (p : Pu) (t h : Int) {a : Option Addr} {n c : Nat} {L : List Bool} {w : World} (hA : Bo w a n L) (hl : 400 < n) : Calls Try.prog 7 #[puV p, .slice a n c, .int .i64 t, .int .i64 h] w fun e w' => e = .returned (.bool true) ∧ Kept w w' none := by
  have hmx := hA.max
  clear hA
  go_enter Try.func7, Try.ntmps7
  go_wp2_with (go_at_call 10; refine (alive_any _).mono ?_; rintro e1 w1 ⟨rfl, hk1⟩)
  go_ret
  exact ⟨rfl, (Kept.alloc _ _ _ _ _).tr hk1⟩

theorem pparts_less (p : Pu) (t h : Int) {a : Option Addr} {n c : Nat} {L : List Bool} {w : World} (hA : Bo w a n L) (hl : n ≤ 400) (ht : t < 0) : Calls Try.prog 7 #[puV p, .slice a n c, .int .i64 t, .int .i64 h] w fun e w' => e = .returned (.bool true) ∧ Kept w w' none := by
  have hmx := hA.max
  clear hA
  go_enter Try.func7, Try.ntmps7
  go_wp2_with (go_at_call 10; refine (alive_any _).mono ?_; rintro e1 w1 ⟨rfl, hk1⟩)
  go_ret
  exact ⟨rfl, (Kept.alloc _ _ _ _ _).tr hk1⟩

theorem pparts_more (p : Pu) (t h : Int) {a : Option Addr} {n c : Nat} {L : List Bool} {w : World} (hA : Bo w a n L) (hl : n ≤ 400) (ht0 : 0 ≤ t) (ht : (n : Int) < t) : Calls Try.prog 7 #[puV p, .slice a n c, .int .i64 t, .int .i64 h] w fun e w' => e = .returned (.bool true) ∧ Kept w w' none := by
  have hmx := hA.max
  clear hA
  go_enter Try.func7, Try.ntmps7
  go_wp2_with (go_at_call 10; refine (alive_any _).mono ?_; rintro e1 w1 ⟨rfl, hk1⟩)
  go_ret
  exact ⟨rfl, (Kept.alloc _ _ _ _ _).tr hk1⟩

set_option maxRecDepth 100000 in
set_option maxHeartbeats 4000000 in
theorem pparts_no (p : Pu) (k : Nat) (h E : Int) {a : Option Addr} {n c : Nat} {L : List Bool} {w : World} (hA : Bo w a n L) (hE : ∀ m, m ≤ 400 → runE p m h = E) (hE0 : E ≠ 0) (hl : n ≤ 400) (hk : k ≤ n) (hc : n ≤ c) (hcm : c ≤ 9223372036854775807) : Calls Try.prog 7 #[puV p, .slice a n c, .int .i64 (k : Int), .int .i64 h] w fun e w' => e = .returned (.bool true) ∧ Kept w w' none := by
  have hmx := hA.max
  have HA := Hid.mk' hA
  have HE := Hid.mk' hE
  have hkc : k ≤ c := by omega
  have hEb : (E != 0) = true := by simpa using hE0
  have HE0 := Hid.mk' hE0
  clear hA hE hE0
  obtain ⟨u, q, s⟩ := p
  go_enter Try.func7, Try.ntmps7
  go_wp2_with (first
    | (go_at_call 9; refine (runp_no HA1.out HE.out HE0.out hl).mono ?_; rintro e w2 ⟨a2, c2, rfl, hk2⟩; have BP2 := BP1.kept hk2; have p20 := BP2.c0; have p21 := BP2.c1; have p22 := BP2.c2; have l2 := BP2.lt; have HA2 := Hid.mk' (HA1.out.kept hk2); clear p10 p11 p12)
    | (go_at_call 10; refine (alive_any _).mono ?_; rintro e1 w1 ⟨rfl, hk1⟩; have BP1 := (box_alloc w (.bool u) (.bool q) (.int .i64 s) 23).kept hk1; have p10 := BP1.c0; have p11 := BP1.c1; have p12 := BP1.c2; have HA1 := Hid.mk' ((HA.out.kept (Kept.alloc _ _ _ _ _)).kept hk1)))
  have BPW := BP2.kept (Kept.alloc w2 #[.bool false, .bool false, .int .i64 0] 23 (0, 0) none)
  have HAW := Hid.mk' (HA2.out.kept (Kept.alloc w2 #[.bool false, .bool false, .int .i64 0] 23 (0, 0) none))
  have hKW : Kept w (w2.alloc (.cells #[.bool false, .bool false, .int .i64 0] 23)) none := (((Kept.alloc _ _ _ _ _).tr hk1).tr hk2).tr (Kept.alloc _ _ _ _ _)
  have HKW := Hid.mk' hKW
  obtain ⟨W, hW⟩ : ∃ W, w2.alloc (.cells #[.bool false, .bool false, .int .i64 0] 23) = W := ⟨_, rfl⟩
  rw [hW] at BPW HAW HKW ⊢
  clear hW hKW BP1 BP2 p20 p21 p22 hk1 hk2
  refine Code.wp_mono (Q := Rq ?A7 (fun B x c7 w' => Kept W w' none)) ?cont7 ?reg7
  case reg7 =>
    (repeat (rename_i hh; clear hh))
    have q0 := BPW.c0
    have q1 := BPW.c1
    have q2 := BPW.c2
    have lW := BPW.lt
    go_region_with (go_at_call 9; refine (runp_no (n := k) (L := L.take k) ((HAW.out.kept (by first | exact Kept.drew _ _ | exact (Kept.drew _ _).tr (Kept.alloc _ _ _ _ _) | exact (Kept.alloc _ _ _ _ _).tr (Kept.drew _ _) | exact Kept.alloc _ _ _ _ _)).take k hk) HE.out HE0.out (by omega)).mono ?_; rintro e w3 ⟨a3, c3, rfl, hk3⟩; (try have ZB : Box w3 W.heap.size (.bool false) (.bool false) (.int .i64 0) := (box_alloc W.drew (.bool false) (.bool false) (.int .i64 0) 23).kept hk3); (try have z0 := ZB.c0); (try have z1 := ZB.c1); (try have z2 := ZB.c2); (try have y0 := ZB.f0); (try have y1 := ZB.f1); (try have y2 := ZB.f2))
    all_goals simp only [Rq, Act.put, List.getElem_toArray, List.getElem_cons_zero, List.getElem_cons_succ, List.setIfInBounds_toArray, List.set_cons_zero, List.set_cons_succ]
    · refine ⟨w3.heap.size, a3, c3, ?_, ((Kept.drew _ _).tr hk3).tr (Kept.alloc _ _ _ _ _)⟩
      generalize w3.heap.size = B
      with_reducible rfl
    all_goals
      refine ⟨W.heap.size, a3, c3, ?_, ?_⟩
      · generalize W.heap.size = B
        with_reducible rfl
      · exact kept_set3 (((Kept.drew _ _).tr (Kept.alloc _ _ _ _ _)).tr hk3) (Nat.le_refl _) _ _ _
  case cont7 =>
    intro e act w' hq
    obtain ⟨rfl, B, x, c7, rfl, hk4⟩ := Rq.out hq
    go_wp2
    go_ret
    exact ⟨by simp, HKW.out.tr hk4⟩

theorem nextp_ok {p : Pu} {h : Int} (r : Bool) (w : World) (hp : mayP p = true) (hh : holB h = true) : Calls Try.prog 8 #[puV p, .bool r, .int .i64 h] w fun e w' => e = .returned (.tuple #[puV (stepP h p r), .int .i64 0]) ∧ Kept w w' none := by
  refine (next_any p r h w).mono ?_
  obtain ⟨x1, x2⟩ := nex_ok (r := r) hp hh
  rw [x1, x2]
  exact fun _ _ h => h
/-- What is known between two ticks that are gone through one by one. -/
structure Pls (w : World) (h : Int) (p : Pu) (L : List Bool) (a a2 : Option Addr) (n B : Nat) (R : Pu) (i : Nat) (W : World) : Prop where
  box : Box W w.heap.size (.bool (atP h p L i).up) (.bool (atP h p L i).raw) (.int .i64 (atP h p L i).since)
  ans : Box W B (.bool R.up) (.bool R.raw) (.int .i64 R.since)
  raw : Bo W a n L
  said : Bo W a2 n (saidP h p L)
  kept : Kept w W none
  ne : w.heap.size < B
  na : ∀ x, a = some x → 0 < n → x.block < w.heap.size
  ns : ∀ x, a2 = some x → 0 < n → w.heap.size < x.block
theorem Pls.tr {w W W' : World} {h : Int} {p R : Pu} {L : List Bool} {a a2 : Option Addr} {n B i : Nat} (t : Pls w h p L a a2 n B R i W) (q : Kept W W' none) : Pls w h p L a a2 n B R i W' :=
  ⟨t.box.kept q, t.ans.kept q, t.raw.kept q, t.said.kept q, t.kept.tr q, t.ne, t.na, t.ns⟩
theorem bo_set3 {w : World} {a : Option Addr} {n b : Nat} {L : List Bool} (h : Bo w a n L) (hne : ∀ x, a = some x → 0 < n → x.block ≠ b) (x y z : Value) : Bo (set3 w b x y z) a n L := by
  by_cases h0 : 0 < n
  · have hne' : ∀ x, a = some x → x.block ≠ b := fun x hx => hne x hx h0
    exact ((h.put _ hne').put _ hne').put _ hne'
  · obtain rfl : n = 0 := by omega
    exact h.empty
theorem Pls.set {w W : World} {h : Int} {p R P : Pu} {L : List Bool} {a a2 : Option Addr} {n B i : Nat} (t : Pls w h p L a a2 n B R i W) (hP : P = atP h p L (i + 1)) : Pls w h p L a a2 n B R (i + 1) (set3 W w.heap.size (.bool P.up) (.bool P.raw) (.int .i64 P.since)) := by
  have hn := t.ne
  refine ⟨by rw [← hP]; exact t.box.set _ _ _, t.ans.off (by omega) _ _ _, bo_set3 t.raw (fun x hx h0 => by have := t.na x hx h0; omega) _ _ _, bo_set3 t.said (fun x hx h0 => by have := t.ns x hx h0; omega) _ _ _, kept_set3 t.kept (Nat.le_refl _) _ _ _, t.ne, t.na, t.ns⟩
def Rr (A : Nat → Act) (P : Nat → World → Prop) (e : Exit) (a : Act) (w : World) : Prop := match e with
  | .normal => ∃ B, a = A B ∧ P B w
  | _ => False
theorem Rr.out {A : Nat → Act} {P : Nat → World → Prop} {e : Exit} {a : Act} {w : World} (h : Rr A P e a w) : e = .normal ∧ ∃ B, a = A B ∧ P B w := by
  cases e with
  | normal => exact ⟨rfl, h⟩
  | _ => exact h.elim
theorem bow_base {w : World} {base base' n c : Nat} {a : Option Addr} {L : List Bool} (h : Bow w base a n c L) (hb : base' ≤ base) : Bow w base' a n c L := by
  refine ⟨⟨h.own.1, ?_⟩, h.nil, h.room, h.max⟩
  rcases id h.own.2 with ⟨e, h0⟩ | ⟨g, cap, cur, e, hg, hh, h4⟩
  · exact .inl ⟨e, h0⟩
  · exact .inr ⟨g, cap, cur, e, by omega, hh, h4⟩

end Go.Proofs.Ytbgnllpgogbmfaa
