/-
  THE CONTRACTS of block.done, the closure that it defers, Do, Write (made by a program).
-/
import Derived.Test.YtabikoipjaggbaaBlkB
import Derived.Defers
namespace Go.Proofs.Ytabikoipjaggbaa
open Go.RowKit Go.Lib Go.Deep
set_option linter.unusedVariables false
set_option linter.unusedSimpArgs false

/-- A drawn region's one way, and what holds of the world behind it. -/
def Rbq (A : Act) (P : World → Prop) (e : Exit) (a : Act) (w : World) : Prop := match e with
  | .normal => a = A ∧ P w
  | _ => False
theorem Rbq.out {A : Act} {P : World → Prop} {e : Exit} {a : Act} {w : World} (h : Rbq A P e a w) : e = .normal ∧ a = A ∧ P w := by
  cases e with
  | normal => exact ⟨rfl, h.1, h.2⟩
  | _ => exact h.elim
theorem kept_drw (w : World) (r : Option Nat) : Kept w w.drew r := ⟨rfl, rfl, rfl, Nat.le_refl _, fun _ _ _ => rfl⟩
theorem Kept.sm {w w' : World} (h : Kept w w' none) (r : Option Nat) : Kept w w' r := ⟨h.os, h.tape, h.output, h.size, fun i hi _ => h.block i hi (by simp)⟩
theorem hold_take {P : Program} {ops : Array Oper} {Q : Exit → Act → World → Prop} {md : Region.Mode} {S : World → Prop} {i d : Nat} {oi : Oper} {v : Value} {fuel : Nat} {listed : Array Bool} {a : Act} {w : World} (hi : ops[i]? = some oi) (hd : oi.dst = some d)
    (hs : Region.noSelect ops = true) (hf : Region.free md ops listed i = true) (hr : (Region.ready md ops listed).contains i = true)
    (hQ : ∀ c a w, Q (.panic c) (a.put oi.dst v) w → Q (.panic c) a w) (hy : YieldsIf P ops S oi v a) (hS : S w)
    (h : wpAnyH P md ops Q S fuel (listed.setIfInBounds i true) { tmps := a.tmps.setIfInBounds d v, defers := a.defers } w) : wpAnyH P md ops Q S (fuel + 1) listed a w :=
  wpAnyH_take hi hs hf hr hQ hy hS (by rw [hd]; exact h)
set_option maxRecDepth 100000 in
theorem step_cp {ops : Array Oper} {o : Oper} {act : Act} {K : Act → World → Prop} {Q : Exit → Act → World → Prop} {E : Prop} {w : World} (hgd : o.guard = none) (d s : Operand)
    (ho : o.op = .call { callee := .builtin .copy, args := #[d, s], argTypes := #[22, 22] })
    (dp sp : Option Addr) (dLen dCap sLen sCap : Nat) (hd : act.eval d = .slice dp dLen dCap) (hs : act.eval s = .slice sp sLen sCap)
    (g off : Nat) (L M : List Nat) (hR : Row w g L) (hB : By w sp sLen M) (hle : sLen ≤ dLen) (hfit : off + sLen ≤ L.length) (hdp : 0 < sLen → dp = some ⟨g, off, none⟩)
    (h : ∀ w', Row w' g (L.take off ++ (M ++ L.drop (off + sLen))) → Kept w w' (some g) → K (act.put o.dst (goInt sLen)) w') : if Region.wanted o (yielded ops act.tmps) = true then Oper.wp Try.prog o act w K Q else E := by
  have hw : Region.wanted o (yielded ops act.tmps) = true := by simp [Region.wanted, hgd]
  rw [if_pos hw]
  have hsz : (Try.prog.info? 5).map (·.size) = some 1 := by
    have := Try.info5
    cases hq : Try.prog.info? 5 with
    | none => rw [hq] at this; simp at this
    | some i => rw [hq] at this; simp at this; simp [this]
  have hM := hB.size
  have e : (M.map byteV).length = sLen := by simp [hM]
  by_cases h0 : sLen = 0
  · subst h0
    have hM0 : M = [] := List.length_eq_zero_iff.1 hM
    subst hM0
    have hrun := run_copy_none (P := Try.prog) w 22 22 o.type 5 dp sp dLen dCap 0 sCap Try.uB hsz (by simp)
    unfold Oper.wp
    simp [execOp, ho, resolve, invoke, builtin, hd, hs, hrun, Result.andThen]
    exact h w (by simpa using hR) (Kept.refl _ _)
  · obtain ⟨ad, rfl, hsrc⟩ := bytes_news' hB (by omega)
    obtain rfl := hdp (by omega)
    have hrun := run_copy_row (P := Try.prog) w 22 22 o.type 5 g off dLen dCap ad sLen sCap _ 5 (M.map byteV) Try.uB hsz hR (by rw [e]; exact (Nat.min_eq_left hle).symm) hsrc (by simp [hM]; omega) (bytes_one M)
    rw [e] at hrun
    unfold Oper.wp
    simp only [execOp, ho, resolve, invoke, builtin]
    simp [hd, hs, hrun, Result.andThen]
    refine h _ ?_ ?_
    · unfold Row
      rw [setRow_heap w g _ _ 5 (0, 0) hR]
      congr 2
      simp [List.map_take, List.map_drop]
    · exact ⟨rfl, rfl, rfl, by simp [World.setRow], fun k hk hr => setRow_other w g k _ (fun e => hr (by rw [e]))⟩

/-- The closure that tells what is done. -/
theorem tell_any {bu bb : Nat} {a a' : Option Addr} {n c n' c' : Nat} (u : FrameMode) (w : World) (h : Db w bu a n c) (h' : Db w bb a' n' c') :
    CallsD Try.prog 76 #[.pointer (some ⟨bu, 0, none⟩), .pointer (some ⟨bb, 0, none⟩)] u w fun e u' w' => u' = u ∧ (e = .returned (.tuple #[]) ∧ w' = w.setCell ⟨bb, 0, none⟩ (.slice a n c)) := by
  have c0 := h.c0
  have d0 := h'.c0
  have f0 := h'.f0
  go_enter_d Try.func76, Try.ntmps76
  go_wp2
  go_end0
  exact ⟨rfl, rfl⟩
/-- What stands at the head of each round. -/
structure Lq (w wr : World) (g B n : Nat) (D : List Nat) : Prop where
  kept : Kept w wr none
  row : Row wr g D
  bu : Db wr B (some ⟨g, 0, none⟩) n n
  bb : Db wr (w.heap.size + 1) none 0 0
set_option maxHeartbeats 4000000 in
theorem bdone_any {a : Option Addr} {n c : Nat} {la : Option Addr} {m : Nat} (lc : Nat) {l : List Pw} {L : List Nat} {wh to : Nat} (w : World) (hC : Come w a n c L) (hP : Plw w la m l) (h64 : n % 64 = 0) (hnm : n ≤ 4096) (hwr : wrE n l = 0) (hwh : wh ≤ m) (hto : to ≤ 64) :
    Calls Try.prog 53 #[dvV a n c, .slice la m lc, .int .i64 wh, .int .i64 to] w fun e w' => ∃ g, e = .returned (dvV (some ⟨g, 0, none⟩) n n) ∧ w.heap.size ≤ g ∧ Row w' g (doD l wh to L) ∧ Kept w w' none := by
  have hmf : ∀ (fn : Fn) (first cap : Array Value) (w : World), (Instr.makeFunc fn first cap).run Try.prog w = .ok (.func fn first cap) w := fun _ _ _ _ => rfl
  have HP := Hid.mk' hP
  have hs := hP.size
  have hm := hP.max
  have HS := Hid.mk' hs
  have hls := hC.by_.size
  have HL := Hid.mk' hls
  have hB := Hid.mk' hC.by_
  have hok : ∀ p ∈ l, okP L.length p := by rw [hls]; exact wr_ok h64 hwr
  have HOK := Hid.mk' hok
  obtain ⟨W1, HW1⟩ : ∃ W1, Hid (W1 = (w.alloc (.cells (dvC a n c) 24)).alloc (.cells (dvC none 0 0) 24)) := ⟨_, Hid.mk' rfl⟩
  have hk1 : Kept w W1 none := by rw [HW1.out]; exact (Kept.alloc _ _ _ _ _).tr (Kept.alloc _ _ _ _ _)
  have hz1 : W1.heap.size = w.heap.size + 2 := by rw [HW1.out]; simp
  have hD1 : Db W1 w.heap.size a n c := by rw [HW1.out]; exact (db_alloc _ _ _ _ _).kept (Kept.alloc _ _ _ _ _)
  have hD2 : Db W1 (w.heap.size + 1) none 0 0 := by
    rw [HW1.out]
    have := db_alloc (w.alloc (.cells (dvC a n c) 24)) none 0 0 24
    rwa [World.size_alloc] at this
  have HK1 := Hid.mk' hk1
  have HZ1 := Hid.mk' hz1
  have HD2 := Hid.mk' hD2
  have HC1 := Hid.mk' (fun W (e : W = W1) => bcop_any (a := a) (c := c) (L := L) (w := W) (by rw [e]; exact hB.out.kept hk1) (show n ≤ 10000 by omega))
  clear hC hP hs hls hok hk1 hz1 hD1 hD2 hwr
  go_enter_defers Try.func53, Try.ntmps53
  go_wp2_with (go_at_call 75; refine (HC1.out _ HW1.out.symm).mono ?_; rintro e w2 ⟨rfl, hr2, hk2⟩)
  have hrB : Row w2 (w.heap.size + 1 + 1) L := by simpa using hr2
  have hkB : Kept W1 w2 none := by rw [HW1.out]; exact hk2
  clear hr2 hk2
  have hlt2 := hrB.lt
  obtain ⟨W2, HW2⟩ : ∃ W2, Hid (W2 = w2.alloc (.cells #[.slice (some ⟨w.heap.size + 1 + 1, 0, none⟩) n n] 24)) := ⟨_, Hid.mk' rfl⟩
  have hkC : Kept w2 W2 none := by rw [HW2.out]; exact Kept.alloc _ _ _ _ _
  have hbuC : Db W2 w2.heap.size (some ⟨w.heap.size + 1 + 1, 0, none⟩) n n := by rw [HW2.out]; exact db_alloc _ _ _ _ _
  have hbbC : Db W2 (w.heap.size + 1) none 0 0 := (HD2.out.kept hkB).kept hkC
  have hkW : Kept w W2 none := (HK1.out.tr hkB).tr hkC
  have hrC : Row W2 (w.heap.size + 1 + 1) L := hrB.kept hkC (by simp)
  rw [← HW2.out]
  clear hkB hkC hrB
  have hg1 : w.heap.size + 1 < w.heap.size + 1 + 1 := by omega
  generalize hgg : w.heap.size + 1 + 1 = g at hlt2 hbuC hrC hg1 ⊢
  replace hgg := Hid.mk' hgg
  clear HW2
  generalize w2.heap.size = B at hlt2 hbuC ⊢
  have hLC : Lq w W2 g B n (doD l 0 0 L) := ⟨hkW, by rw [show doD l 0 0 L = L by cases l with | nil => rfl | cons p l => exact wrD_none _ _ _]; exact hrC, hbuC, hbbC⟩
  clear hkW hrC hbuC hbbC
  go_loopw [19] (fun i wr => ∃ k : Nat, k ≤ m ∧ k ≤ wh ∧ i = .int .i64 k ∧ Lq w wr g B n (doD l k 0 L)) (fun i _ => m - (intOf i).toNat)
  case atStart => exact ⟨0, Nat.zero_le _, Nat.zero_le _, rfl, hLC⟩
  case round =>
    obtain ⟨k, hk, hkw, rfl, hLr⟩ := hrel
    by_cases hlt : k < m
    · by_cases hke : k = wh
      · subst hke
        have HLr := Hid.mk' hLr
        obtain ⟨b, off, rfl, hb, hcells⟩ := (HP.out.kept hLr.kept).at_ (by omega)
        have hbw : b < w.heap.size := by
          obtain ⟨b', off', e', hb', _⟩ := HP.out.at_ (by omega)
          injection e' with e'
          injection e' with e1 e2 e3
          omega
        have hkl : k < l.length := by rw [HS.out]; exact hlt
        obtain ⟨a2, c2, p0, p1, hCp⟩ := hcells k l[k] (by simp)
        obtain ⟨hb0, hb1, hq⟩ := HOK.out l[k] (List.getElem_mem hkl)
        rw [HL.out] at hb1
        obtain ⟨b2, off2, rfl, hlt2, _⟩ := hCp.by_.at_ (by omega)
        have hbw2 : b2 < w.heap.size := by
          obtain ⟨b', off', e', hb', hcells'⟩ := HP.out.at_ (by omega)
          obtain ⟨a3, c3, q0, q1, hCp'⟩ := hcells' k l[k] (by simp)
          injection e' with e'
          injection e' with e1 e2 e3
          subst e1 e2
          have q2 := (cell_kpt hLr.kept (i := off + k * 2 + 1) hb').trans q1
          rw [p1] at q2
          injection q2 with q2
          injection q2 with q2 q3 q4
          obtain ⟨b4, off4, e4, hb4, _⟩ := hCp'.by_.at_ (by omega)
          rw [← q2] at e4
          injection e4 with e4
          injection e4 with e1 e2 e3
          omega
        have hc2 := hCp.room
        have hc2m := hCp.max
        have HCp := Hid.mk' hCp
        have hDl : (doD l k 0 L).length = n := by rw [doD_len l k 0 L HOK.out (by omega), HL.out]
        have hnx := doD_next l k L hkl
        have hsn := fun t => doD_snoc l k t L hkl
        clear hcells hCp hLr
        generalize l[k] = p at *
        clear hkl
        obtain ⟨pn, pd⟩ := p
        dsimp only at *
        rw [hq] at p1 hc2
        have HQ := Hid.mk' hq
        have htc : to ≤ c2 := by omega
        clear hq
        obtain ⟨WA, hWA⟩ : ∃ WA, Hid (WA = wr.alloc (.cells #[.int .i64 pn, .slice (some ⟨b2, off2, none⟩) 64 c2] 39)) := ⟨_, Hid.mk' rfl⟩
        have hkA : Kept wr WA none := by rw [hWA.out]; exact Kept.alloc _ _ _ _ _
        have HR : Hid (Row WA g (doD l k 0 L)) := Hid.mk' (HLr.out.row.kept hkA (by simp))
        have HUB := Hid.mk' (HLr.out.bu.kept hkA)
        have HBB := Hid.mk' (HLr.out.bb.kept hkA)
        have HKA := Hid.mk' (HLr.out.kept.tr hkA)
        have hsA : WA.heap.size = wr.heap.size + 1 := by rw [hWA.out]; simp
        have hA0 : WA.cell? ⟨wr.heap.size, 0, none⟩ = some (.int .i64 pn) := by rw [hWA.out]; exact World.cell?_alloc_mark ..
        have hA1 : WA.cell? ⟨wr.heap.size, 1, none⟩ = some (.slice (some ⟨b2, off2, none⟩) 64 c2) := by rw [hWA.out]; exact World.cell?_alloc_mark ..
        have hgr := HLr.out.row.lt
        have hgB := HLr.out.bu.lt
        have hU : ∀ w', Kept WA w' (some g) → w'.cell? ⟨B, 0, none⟩ = some (.slice (some ⟨g, 0, none⟩) n n) := fun w' hk => (HUB.out.row hk (by omega)).c0
        have hp0 : ∀ w', Kept WA w' (some g) → w'.cell? ⟨wr.heap.size, 0, none⟩ = some (.int .i64 pn) := fun w' hk => (World.cell?_of_block (w := WA) (a := ⟨wr.heap.size, 0, none⟩) (hk.block wr.heap.size (by omega) (fun e => by have := Option.some.inj e; omega))).trans hA0
        have hp1 : ∀ w', Kept WA w' (some g) → w'.cell? ⟨wr.heap.size, 1, none⟩ = some (.slice (some ⟨b2, off2, none⟩) 64 c2) := fun w' hk => (World.cell?_of_block (w := WA) (a := ⟨wr.heap.size, 1, none⟩) (hk.block wr.heap.size (by omega) (fun e => by have := Option.some.inj e; omega))).trans hA1
        clear hA0 hA1 hsA hgr hgB hkA
        have HB : Hid (∀ w', Kept WA w' none → By w' (some ⟨b2, off2, none⟩) to (pd.take to)) := Hid.mk' (fun w' hk => by
          have := HCp.out.by_
          rw [HQ.out] at this
          exact (this.take to hto).kept ((by rw [hWA.out]; exact Kept.alloc _ _ _ _ _ : Kept wr WA none).tr hk))
        have HFit : Hid (64 * pn.toNat + to ≤ (doD l k 0 L).length) := Hid.mk' (by rw [hDl]; omega)
        have HNew : Hid (∀ w5, Row w5 g ((doD l k 0 L).take (64 * pn.toNat) ++ (pd.take to ++ (doD l k 0 L).drop (64 * pn.toNat + to))) → Row w5 g (doD l k to L)) := Hid.mk' (fun w5 h => by rw [hsn]; unfold wrD; exact h)
        clear hnx hsn hDl
        go_wp2
        rw [← hWA.out]
        refine Code.wp_mono (Q := Rbq ?A1 (fun w' => Row w' g (doD l k to L) ∧ Kept WA w' (some g))) ?cont1 ?reg1
        case reg1 =>
          repeat (rename_i hh; clear hh)
          refine wp_region_held_drew (S := fun w' => Kept WA w' (some g)) (by kernel_rfl) (kept_drw _ _) (fun hHeld => ?_)
          refine hold_take (i := 0) (v := ?v1) rfl rfl (by kernel_rfl) (by kernel_rfl) (by kernel_rfl) (fun _ _ _ h => h) (Or.inl ⟨by rfl, ?hy1⟩) hHeld ?rest1
          case hy1 => first | (intro w hSw; (try dsimp only at hSw); go_simp; done) | (intro w hSw; (try dsimp only at hSw); go_simp; with_reducible rfl)
          try simp only [List.setIfInBounds_toArray, List.set_cons_zero, List.set_cons_succ]
          refine hold_take (i := 1) (v := ?v2) rfl rfl (by kernel_rfl) (by kernel_rfl) (by kernel_rfl) (fun _ _ _ h => h) (Or.inl ⟨by rfl, ?hy2⟩) hHeld ?rest2
          case hy2 => first | (intro w hSw; (try dsimp only at hSw); go_simp; done) | (intro w hSw; (try dsimp only at hSw); go_simp; with_reducible rfl)
          try simp only [List.setIfInBounds_toArray, List.set_cons_zero, List.set_cons_succ]
          refine hold_take (i := 2) (v := ?v3) rfl rfl (by kernel_rfl) (by kernel_rfl) (by kernel_rfl) (fun _ _ _ h => h) (Or.inl ⟨by rfl, ?hy3⟩) hHeld ?rest3
          case hy3 => first | (intro w hSw; (try dsimp only at hSw); go_simp; done) | (intro w hSw; (try dsimp only at hSw); go_simp; with_reducible rfl)
          try simp only [List.setIfInBounds_toArray, List.set_cons_zero, List.set_cons_succ]
          refine hold_take (i := 4) (v := ?v4) rfl rfl (by kernel_rfl) (by kernel_rfl) (by kernel_rfl) (fun _ _ _ h => h) (Or.inl ⟨by rfl, ?hy4⟩) hHeld ?rest4
          case hy4 => first | (intro w hSw; (try dsimp only at hSw); go_simp; done) | (intro w hSw; (try dsimp only at hSw); go_simp; with_reducible rfl)
          try simp only [List.setIfInBounds_toArray, List.set_cons_zero, List.set_cons_succ]
          refine hold_take (i := 5) (v := ?v5) rfl rfl (by kernel_rfl) (by kernel_rfl) (by kernel_rfl) (fun _ _ _ h => h) (Or.inl ⟨by rfl, ?hy5⟩) hHeld ?rest5
          case hy5 => first | (intro w hSw; (try dsimp only at hSw); go_simp; done) | (intro w hSw; (try dsimp only at hSw); go_simp; with_reducible rfl)
          try simp only [List.setIfInBounds_toArray, List.set_cons_zero, List.set_cons_succ]
          refine hold_take (i := 6) (v := ?v6) rfl rfl (by kernel_rfl) (by kernel_rfl) (by kernel_rfl) (fun _ _ _ h => h) (Or.inl ⟨by rfl, ?hy6⟩) hHeld ?rest6
          case hy6 => first | (intro w hSw; (try dsimp only at hSw); go_simp; done) | (intro w hSw; (try dsimp only at hSw); go_simp; with_reducible rfl)
          try simp only [List.setIfInBounds_toArray, List.set_cons_zero, List.set_cons_succ]
          refine hold_take (i := 7) (v := ?v7) rfl rfl (by kernel_rfl) (by kernel_rfl) (by kernel_rfl) (fun _ _ _ h => h) (Or.inl ⟨by rfl, ?hy7⟩) hHeld ?rest7
          case hy7 => first | (intro w hSw; (try dsimp only at hSw); go_simp; done) | (intro w hSw; (try dsimp only at hSw); go_simp; with_reducible rfl)
          try simp only [List.setIfInBounds_toArray, List.set_cons_zero, List.set_cons_succ]
          have HSK := Hid.mk' hHeld
          refine wpAnyH_ready (rs := [3]) (by kernel_rfl) (by simp) ?_
          refine AllReadyH.cons rfl (fun K hK => ?_) AllReadyH.nil
          go_simp
          go_wp2_with (go_at_call 77; refine (blk_any (off := 0) (n := n) (c := n) hb0 hb1 (Nat.le_refl _) (Nat.le_trans hnm (by decide))).mono ?_; rintro e w3 ⟨rfl, hk3⟩; have hHeldK : Kept WA w3 none := (kept_drw _ _).tr hk3; have hk3s : Kept WA.drew w3 (some g) := Kept.tr (Kept.refl _ _) ⟨hk3.os, hk3.tape, hk3.output, hk3.size, fun i hi _ => hk3.block i hi (by simp)⟩; have HR3 := Hid.mk' (Row.kept (r := none) (Row.kept (r := none) HR.out (kept_drw _ _) (by simp)) hk3 (by simp)); have HB3 := Hid.mk' (HB.out w3 hHeldK))
          replace hK := hK.out
          refine hK _ _ (HSK.out.tr hk3s) (fun hHeld => ?_)
          clear hK K
          refine wpAnyH_ready (rs := [8]) (by kernel_rfl) (by simp) ?_
          refine AllReadyH.cons rfl (fun K hK => ?_) AllReadyH.nil
          replace hK := hK.out
          refine step_cp (by rfl) (.tmp 30) (.tmp 34) (by rfl) (some ⟨g, 64 * pn.toNat, none⟩) (some ⟨b2, off2, none⟩) 64 (n - 64 * pn.toNat) to c2 (by rfl) (by rfl) g (64 * pn.toNat) (doD l k 0 L) (pd.take to) HR3.out HB3.out hto HFit.out (fun _ => rfl) ?_
          intro w5 hr5 hk5
          have hk6 : Kept WA w5 (some g) := hHeld.tr hk5
          refine hK _ _ hk6 (fun hHeld => ?_)
          clear hK K
          refine wpAnyH_done (by kernel_rfl) ?_ _
          refine And.intro ?_ ⟨HNew.out w5 hr5, hk6⟩
          with_reducible rfl
        case cont1 =>
        intro e a' w' hq
        obtain ⟨rfl, rfl, hrq, hkq⟩ := hq.out
        go_wp2
        have hkF : Kept w w' none := HKA.out.newRow hkq (fun i e => by cases e; omega)
        have hU' := HUB.out.row hkq (by omega)
        have hBB' := HBB.out.row hkq (by omega)
        refine leaves_cons (f := 76) (args := #[.pointer (some ⟨B, 0, none⟩), .pointer (some ⟨w.heap.size + 1, 0, none⟩)]) (by simp) (by simp [go_sem]) ?_
        refine (tell_any _ _ hU' hBB').mono ?_
        rintro e u' w7 ⟨rfl, rfl, rfl⟩
        have hf := (hBB'.set (some ⟨g, 0, none⟩) n n).c0
        have hkf := hkF.setNew (p := ⟨w.heap.size + 1, 0, none⟩) (show w.heap.size ≤ w.heap.size + 1 by omega) (.slice (some ⟨g, 0, none⟩) n n)
        have hrf := hrq.far (b := w.heap.size + 1) (by omega) 0 (.slice (some ⟨g, 0, none⟩) n n)
        refine ⟨dvV (some ⟨g, 0, none⟩) n n, ?_, g, rfl, by omega, hrf, hkf⟩
        simp [results, Try.results53, go_sem, hf]
      · have hne : ¬ (k : Int) = wh := by omega
        have HLr := Hid.mk' hLr
        obtain ⟨b, off, rfl, hb, hcells⟩ := (HP.out.kept hLr.kept).at_ (by omega)
        have hbw : b < w.heap.size := by
          obtain ⟨b', off', e', hb', _⟩ := HP.out.at_ (by omega)
          injection e' with e'
          injection e' with e1 e2 e3
          omega
        have hkl : k < l.length := by rw [HS.out]; exact hlt
        obtain ⟨a2, c2, p0, p1, hCp⟩ := hcells k l[k] (by simp)
        obtain ⟨hb0, hb1, hq⟩ := HOK.out l[k] (List.getElem_mem hkl)
        rw [HL.out] at hb1
        obtain ⟨b2, off2, rfl, hlt2, _⟩ := hCp.by_.at_ (by omega)
        have hbw2 : b2 < w.heap.size := by
          obtain ⟨b', off', e', hb', hcells'⟩ := HP.out.at_ (by omega)
          obtain ⟨a3, c3, q0, q1, hCp'⟩ := hcells' k l[k] (by simp)
          injection e' with e'
          injection e' with e1 e2 e3
          subst e1 e2
          have q2 := (cell_kpt hLr.kept (i := off + k * 2 + 1) hb').trans q1
          rw [p1] at q2
          injection q2 with q2
          injection q2 with q2 q3 q4
          obtain ⟨b4, off4, e4, hb4, _⟩ := hCp'.by_.at_ (by omega)
          rw [← q2] at e4
          injection e4 with e4
          injection e4 with e1 e2 e3
          omega
        have hc2 := hCp.room
        have hc2m := hCp.max
        have HCp := Hid.mk' hCp
        have hDl : (doD l k 0 L).length = n := by rw [doD_len l k 0 L HOK.out (by omega), HL.out]
        have hnx := doD_next l k L hkl
        have hsn := fun t => doD_snoc l k t L hkl
        clear hcells hCp hLr
        generalize l[k] = p at *
        clear hkl
        obtain ⟨pn, pd⟩ := p
        dsimp only at *
        rw [hq] at p1 hc2
        have HQ := Hid.mk' hq
        have htc : to ≤ c2 := by omega
        clear hq
        obtain ⟨WA, hWA⟩ : ∃ WA, Hid (WA = wr.alloc (.cells #[.int .i64 pn, .slice (some ⟨b2, off2, none⟩) 64 c2] 39)) := ⟨_, Hid.mk' rfl⟩
        have hkA : Kept wr WA none := by rw [hWA.out]; exact Kept.alloc _ _ _ _ _
        have HR : Hid (Row WA g (doD l k 0 L)) := Hid.mk' (HLr.out.row.kept hkA (by simp))
        have HUB := Hid.mk' (HLr.out.bu.kept hkA)
        have HBB := Hid.mk' (HLr.out.bb.kept hkA)
        have HKA := Hid.mk' (HLr.out.kept.tr hkA)
        have hsA : WA.heap.size = wr.heap.size + 1 := by rw [hWA.out]; simp
        have hA0 : WA.cell? ⟨wr.heap.size, 0, none⟩ = some (.int .i64 pn) := by rw [hWA.out]; exact World.cell?_alloc_mark ..
        have hA1 : WA.cell? ⟨wr.heap.size, 1, none⟩ = some (.slice (some ⟨b2, off2, none⟩) 64 c2) := by rw [hWA.out]; exact World.cell?_alloc_mark ..
        have hgr := HLr.out.row.lt
        have hgB := HLr.out.bu.lt
        have hU : ∀ w', Kept WA w' (some g) → w'.cell? ⟨B, 0, none⟩ = some (.slice (some ⟨g, 0, none⟩) n n) := fun w' hk => (HUB.out.row hk (by omega)).c0
        have hp0 : ∀ w', Kept WA w' (some g) → w'.cell? ⟨wr.heap.size, 0, none⟩ = some (.int .i64 pn) := fun w' hk => (World.cell?_of_block (w := WA) (a := ⟨wr.heap.size, 0, none⟩) (hk.block wr.heap.size (by omega) (fun e => by have := Option.some.inj e; omega))).trans hA0
        have hp1 : ∀ w', Kept WA w' (some g) → w'.cell? ⟨wr.heap.size, 1, none⟩ = some (.slice (some ⟨b2, off2, none⟩) 64 c2) := fun w' hk => (World.cell?_of_block (w := WA) (a := ⟨wr.heap.size, 1, none⟩) (hk.block wr.heap.size (by omega) (fun e => by have := Option.some.inj e; omega))).trans hA1
        clear hA0 hA1 hsA hgr hgB hkA
        have HB : Hid (∀ w', Kept WA w' none → By w' (some ⟨b2, off2, none⟩) 64 pd) := Hid.mk' (fun w' hk => by
          have := HCp.out.by_
          rw [HQ.out] at this
          exact this.kept ((by rw [hWA.out]; exact Kept.alloc _ _ _ _ _ : Kept wr WA none).tr hk))
        have HFit : Hid (64 * pn.toNat + 64 ≤ (doD l k 0 L).length) := Hid.mk' (by rw [hDl]; omega)
        have HNew : Hid (∀ w5, Row w5 g ((doD l k 0 L).take (64 * pn.toNat) ++ (pd ++ (doD l k 0 L).drop (64 * pn.toNat + 64))) → Row w5 g (doD l (k + 1) 0 L)) := Hid.mk' (fun w5 h => by rw [hnx]; unfold wrD; have e : pd.take 64 = pd := List.take_of_length_le (by rw [HQ.out]; exact Nat.le_refl _); rw [e]; exact h)
        clear hnx hsn hDl
        go_wp2
        rw [← hWA.out]
        refine Code.wp_mono (Q := Rbq ?A2 (fun w' => Row w' g (doD l (k + 1) 0 L) ∧ Kept WA w' (some g))) ?cont2 ?reg2
        case reg2 =>
          repeat (rename_i hh; clear hh)
          refine wp_region_held_drew (S := fun w' => Kept WA w' (some g)) (by kernel_rfl) (kept_drw _ _) (fun hHeld => ?_)
          refine hold_take (i := 0) (v := ?v8) rfl rfl (by kernel_rfl) (by kernel_rfl) (by kernel_rfl) (fun _ _ _ h => h) (Or.inl ⟨by rfl, ?hy8⟩) hHeld ?rest8
          case hy8 => first | (intro w hSw; (try dsimp only at hSw); go_simp; done) | (intro w hSw; (try dsimp only at hSw); go_simp; with_reducible rfl)
          try simp only [List.setIfInBounds_toArray, List.set_cons_zero, List.set_cons_succ]
          refine hold_take (i := 1) (v := ?v9) rfl rfl (by kernel_rfl) (by kernel_rfl) (by kernel_rfl) (fun _ _ _ h => h) (Or.inl ⟨by rfl, ?hy9⟩) hHeld ?rest9
          case hy9 => first | (intro w hSw; (try dsimp only at hSw); go_simp; done) | (intro w hSw; (try dsimp only at hSw); go_simp; with_reducible rfl)
          try simp only [List.setIfInBounds_toArray, List.set_cons_zero, List.set_cons_succ]
          refine hold_take (i := 2) (v := ?v10) rfl rfl (by kernel_rfl) (by kernel_rfl) (by kernel_rfl) (fun _ _ _ h => h) (Or.inl ⟨by rfl, ?hy10⟩) hHeld ?rest10
          case hy10 => first | (intro w hSw; (try dsimp only at hSw); go_simp; done) | (intro w hSw; (try dsimp only at hSw); go_simp; with_reducible rfl)
          try simp only [List.setIfInBounds_toArray, List.set_cons_zero, List.set_cons_succ]
          refine hold_take (i := 4) (v := ?v11) rfl rfl (by kernel_rfl) (by kernel_rfl) (by kernel_rfl) (fun _ _ _ h => h) (Or.inl ⟨by rfl, ?hy11⟩) hHeld ?rest11
          case hy11 => first | (intro w hSw; (try dsimp only at hSw); go_simp; done) | (intro w hSw; (try dsimp only at hSw); go_simp; with_reducible rfl)
          try simp only [List.setIfInBounds_toArray, List.set_cons_zero, List.set_cons_succ]
          refine hold_take (i := 5) (v := ?v12) rfl rfl (by kernel_rfl) (by kernel_rfl) (by kernel_rfl) (fun _ _ _ h => h) (Or.inl ⟨by rfl, ?hy12⟩) hHeld ?rest12
          case hy12 => first | (intro w hSw; (try dsimp only at hSw); go_simp; done) | (intro w hSw; (try dsimp only at hSw); go_simp; with_reducible rfl)
          try simp only [List.setIfInBounds_toArray, List.set_cons_zero, List.set_cons_succ]
          have HSK := Hid.mk' hHeld
          refine wpAnyH_ready (rs := [3]) (by kernel_rfl) (by simp) ?_
          refine AllReadyH.cons rfl (fun K hK => ?_) AllReadyH.nil
          go_simp
          go_wp2_with (go_at_call 77; refine (blk_any (off := 0) (n := n) (c := n) hb0 hb1 (Nat.le_refl _) (Nat.le_trans hnm (by decide))).mono ?_; rintro e w3 ⟨rfl, hk3⟩; have hHeldK : Kept WA w3 none := (kept_drw _ _).tr hk3; have hk3s : Kept WA.drew w3 (some g) := Kept.tr (Kept.refl _ _) ⟨hk3.os, hk3.tape, hk3.output, hk3.size, fun i hi _ => hk3.block i hi (by simp)⟩; have HR3 := Hid.mk' (Row.kept (r := none) (Row.kept (r := none) HR.out (kept_drw _ _) (by simp)) hk3 (by simp)); have HB3 := Hid.mk' (HB.out w3 hHeldK))
          replace hK := hK.out
          refine hK _ _ (HSK.out.tr hk3s) (fun hHeld => ?_)
          clear hK K
          refine wpAnyH_ready (rs := [6]) (by kernel_rfl) (by simp) ?_
          refine AllReadyH.cons rfl (fun K hK => ?_) AllReadyH.nil
          replace hK := hK.out
          refine step_cp (by rfl) (.tmp 39) (.tmp 41) (by rfl) (some ⟨g, 64 * pn.toNat, none⟩) (some ⟨b2, off2, none⟩) 64 (n - 64 * pn.toNat) 64 c2 (by rfl) (by rfl) g (64 * pn.toNat) (doD l k 0 L) (pd) HR3.out HB3.out (Nat.le_refl _) HFit.out (fun _ => rfl) ?_
          intro w5 hr5 hk5
          have hk6 : Kept WA w5 (some g) := hHeld.tr hk5
          refine hK _ _ hk6 (fun hHeld => ?_)
          clear hK K
          refine wpAnyH_done (by kernel_rfl) ?_ _
          refine And.intro ?_ ⟨HNew.out w5 hr5, hk6⟩
          with_reducible rfl
        case cont2 =>
        intro e a' w' hq
        obtain ⟨rfl, rfl, hrq, hkq⟩ := hq.out
        have hkF : Kept w w' none := HKA.out.newRow hkq (fun i e => by cases e; omega)
        have hLn : Lq w w' g B n (doD l (k + 1) 0 L) := ⟨hkF, hrq, HUB.out.row hkq (by omega), HBB.out.row hkq (by omega)⟩
        clear hkF hrq hkq
        go_wp2
        go_roundw
        case rel => exact ⟨k + 1, by omega, by omega, by go_num, hLn⟩
        case measure => simp [intOf]; omega
    · have hkm : k = m := by omega
      have hwm : wh = m := by omega
      subst hkm hwm
      have HF : Hid (doD l wh 0 L = doD l wh to L) := Hid.mk' (by rw [← HS.out, doD_all l to])
      have hLr' := hLr
      rw [HF.out] at hLr'
      clear hLr
      go_wp2
      refine leaves_cons (f := 76) (args := #[.pointer (some ⟨B, 0, none⟩), .pointer (some ⟨w.heap.size + 1, 0, none⟩)]) (by simp) (by simp [go_sem]) ?_
      refine (tell_any _ _ hLr'.bu hLr'.bb).mono ?_
      rintro e u' w7 ⟨rfl, rfl, rfl⟩
      have hf := (hLr'.bb.set (some ⟨g, 0, none⟩) n n).c0
      have hkf := hLr'.kept.setNew (p := ⟨w.heap.size + 1, 0, none⟩) (show w.heap.size ≤ w.heap.size + 1 by omega) (.slice (some ⟨g, 0, none⟩) n n)
      have hrf := hLr'.row.far (b := w.heap.size + 1) (by omega) 0 (.slice (some ⟨g, 0, none⟩) n n)
      refine ⟨dvV (some ⟨g, 0, none⟩) n n, ?_, g, rfl, by omega, hrf, hkf⟩
      simp [results, Try.results53, go_sem, hf]

end Go.Proofs.Ytabikoipjaggbaa
