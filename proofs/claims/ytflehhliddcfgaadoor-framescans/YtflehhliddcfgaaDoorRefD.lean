/-
  THE CONTRACTS of the document's own functions (stoplineref04): Open, Same.
-/
import Derived.Test.YtflehhliddcfgaaDoorRefC
import Derived.Deep.RegionLaw
namespace Go.Proofs.YtflehhliddcfgaaDoor
open Go.RowKit Go.Lib Go.Deep
set_option linter.unusedVariables false
set_option linter.unusedSimpArgs false

/-- append(nil, b...) in a region that draws its order. -/
theorem step_join0 {ops : Array Oper} {o : Oper} {act : Act} {K : Act → World → Prop} {Q : Exit → Act → World → Prop} {E : Prop} {w : World} (hgd : o.guard = none) (s x : Operand)
    (ho : o.op = .call { callee := .builtin .append, args := #[s, x], argTypes := #[22, 22] })
    (base : Nat) (hs : act.eval s = .slice none 0 0) (a : Option Addr) (m c : Nat) (M : List Nat) (hx : act.eval x = .slice a m c) (hB : By w a m M) (ha : a = none → c = 0)
    (hm : m ≤ 70368744177664) (hbase : base ≤ w.heap.size)
    (h : ∀ a' cap w', Mine w' base a' m cap M → Kept w w' none → K (act.put o.dst (.slice a' m cap)) w') : if Region.wanted o (yielded ops act.tmps) = true then Oper.wp Tryd.prog o act w K Q else E := by
  have hw : Region.wanted o (yielded ops act.tmps) = true := by simp [Region.wanted, hgd]
  rw [if_pos hw]
  obtain ⟨i0, hi0, hz0, hz1, hz2⟩ := info_parts Tryd.info5
  have hown : w.ownsRow base 5 1 (.slice none 0 0) 0 (([] : List Nat).map byteV) := World.ownsRow_nil _ _ _ _
  have key : ∀ v' w', w'.ownsRow base 5 1 v' m (M.map byteV) → w.grownBy w' none → K (act.put o.dst v') w' := by
    intro v' w' h1 h2
    obtain ⟨a', cap, rfl, hm⟩ := mine_of h1
    exact h a' cap w' hm h2
  cases a with
  | none =>
    have hm0 : m = 0 := by
      by_cases hm : 0 < m
      · obtain ⟨b, off, e, _⟩ := hB.at_ hm
        cases e
      · omega
    subst hm0
    have hM : M = [] := List.length_eq_zero_iff.1 hB.size
    subst hM
    have hc := ha rfl
    subst hc
    have hrun := run_append_owned_none (P := Tryd.prog) (w := w) base 22 o.type 5 i0 1 Tryd.uB hi0 (.slice none 0 0) 0 [] hown
    unfold Oper.wp
    simp [execOp, ho, resolve, invoke, builtin, hs, hx, hrun, Result.andThen]
    exact key _ w hown (World.grownBy.refl w _)
  | some ad =>
    by_cases hp : 0 < m
    · obtain ⟨b, off, e, hb, hc⟩ := hB.at_ hp
      injection e with e
      subst e
      refine wp_append_own w s x 22 ho base 5 i0 _ 1 1 Tryd.uB hi0 hz0 hz1 hz2 rfl (by omega) (.slice none 0 0) 0 [] hs hown ⟨b, off, none⟩ m c (M.map byteV) hx (by simp [hB.size]) (bytes_news hB.size hc) (bytes_one M) (by unfold maxLen; omega) (by omega) hbase ?_
      intro v' w' h1 h2 _
      rw [Nat.zero_add, List.nil_append] at h1
      exact key v' w' h1 h2
    · have hm0 : m = 0 := by omega
      subst hm0
      have hM : M = [] := List.length_eq_zero_iff.1 hB.size
      subst hM
      refine wp_append_own w s x 22 ho base 5 i0 _ 1 1 Tryd.uB hi0 hz0 hz1 hz2 rfl (by omega) (.slice none 0 0) 0 [] hs hown ad 0 c [] hx (by simp) (fun j u hu => by simp at hu) (fun u hu => by cases hu) (by unfold maxLen; omega) (by omega) hbase ?_
      intro v' w' h1 h2 _
      exact key v' w' h1 h2
set_option maxRecDepth 100000 in
set_option maxHeartbeats 1000000 in
theorem rsame_yes {w : World} (m : Msg) (a b : Option Addr) (c d : Nat) (hA : Come w a m.2.2.length c m.2.2) (hB : Come w b m.2.2.length d m.2.2) :
    Calls Tryd.prog 21 #[msgV m a m.2.2.length c, msgV m b m.2.2.length d] w fun e w' => e = .returned (.bool true) ∧ Kept w w' none := by
  obtain ⟨mk, mq, mb⟩ := m
  have hk : Kept w ((w.alloc (.cells #[.int .u8 (mk : Int), .int .u32 (mq : Int), .slice a mb.length c] 30)).alloc (.cells #[.int .u8 (mk : Int), .int .u32 (mq : Int), .slice b mb.length d] 30)) none := (Kept.alloc _ _ _ _ _).tr (Kept.alloc _ _ _ _ _)
  have t1 := run_text (hA.by_.kept hk) c
  have t2 := run_text (hB.by_.kept hk) d
  go_enter Tryd.func21, Tryd.ntmps21
  go_wp2
  go_ret
  exact ⟨rfl, hk⟩
set_option maxRecDepth 100000 in
set_option maxHeartbeats 1000000 in
theorem ropen_no {a : Option Addr} {len c : Nat} (w : World) (h : len < 9 ∨ 521 < len) (h2 : len ≤ 9223372036854775807) :
    Calls Tryd.prog 19 #[.slice a len c] w fun e w' => e = .returned (.tuple #[.agg #[.int .u8 0, .int .u32 0, .slice none 0 0], .int .i64 8]) ∧ Kept w w' none := by
  by_cases h9 : len < 9
  · go_enter Tryd.func19, Tryd.ntmps19
    go_wp2
    exact bodyPost_ret (v := .tuple #[.agg #[.int .u8 0, .int .u32 0, .slice none 0 0], .int .i64 8]) (by simp [results, Tryd.results19, go_sem]) rfl ⟨rfl, Kept.alloc _ _ _ _ _⟩
  · have h5 : 521 < len := by omega
    clear h
    go_enter Tryd.func19, Tryd.ntmps19
    go_wp2
    exact bodyPost_ret (v := .tuple #[.agg #[.int .u8 0, .int .u32 0, .slice none 0 0], .int .i64 8]) (by simp [results, Tryd.results19, go_sem]) rfl ⟨rfl, Kept.alloc _ _ _ _ _⟩
/-- The message that stands there, whatever its sum is. -/
def rawM (L : List Nat) : Msg := ((told L).getD 0 0, v256 (((told L).take 5).drop 1), (told L).drop 5)
theorem rawM_iff (L : List Nat) (hb : ∀ x ∈ L, x < 256) (h9 : 9 ≤ L.length) (h5 : L.length ≤ 521) : inside (rawM L) = L ↔ opnB L = true := by
  have hl : (rawM L).2.2.length ≤ 512 := by simp [rawM, told_len]; omega
  constructor
  · intro h
    have := opnB_inside (rawM L) hl
    rwa [h] at this
  · intro h
    have e : opnM L = rawM L := by unfold opnM rawM; rw [if_pos h]
    rw [← e]
    exact inside_opnM hb h
set_option maxRecDepth 100000 in
set_option maxHeartbeats 2000000 in
theorem ropen_in {b off len c : Nat} {L : List Nat} {w : World} (hC : Come w (some ⟨b, off, none⟩) len c L) (h9 : 9 ≤ len) (h5 : len ≤ 521) :
    Calls Tryd.prog 19 #[.slice (some ⟨b, off, none⟩) len c] w fun e w' => ∃ a' c', e = .returned (.tuple #[msgV (opnM L) a' (opnM L).2.2.length c', .int .i64 ((opnE L : Nat) : Int)]) ∧ Mine w' w.heap.size a' (opnM L).2.2.length c' (opnM L).2.2 ∧ Kept w w' none := by
  have hr := hC.room
  have hmx := hC.max
  have hL := hC.by_.size
  have HC := Hid.mk' hC
  have HLB := Hid.mk' hC.by_.lt
  have B1 : Hid (By w (some ⟨b, off, none⟩) (len - 4) (told L)) := by
    have := hC.by_.take (len - 4) (by omega)
    unfold told; rw [hL]; exact this
  have B3 : Hid (By w (some ⟨b, off + 1, none⟩) 4 (((told L).take 5).drop 1)) := (B1.out.take 5 (by omega)).drop 1 (by omega)
  have B4 : Hid (By w (some ⟨b, off + 5, none⟩) (len - 4 - 5) ((told L).drop 5)) := B1.out.drop 5 (by omega)
  have hq : v256 (((told L).take 5).drop 1) < 4294967296 := by
    have := v256_lt _ B3.out.lt
    rw [B3.out.size] at this
    exact this
  obtain ⟨b', off', e, hb, hcell⟩ := B1.out.at_ (by omega)
  injection e with e
  injection e with e1 e2
  subst e1 e2
  have hc0 := hcell 0 (by omega)
  rw [Nat.add_zero] at hc0
  have hk := B1.out.getD 0
  have HRO : Hid (Mok (rawM L)) := ⟨hk, hq, fun x hx => told_lt HLB.out x (List.mem_of_mem_drop hx)⟩
  have hrl : (rawM L).2.2.length = len - 4 - 5 := by simp [rawM, told_len, hL]
  have HIF := Hid.mk' (rawM_iff L HLB.out (by omega) (by omega))
  have HIL : Hid ((inside (rawM L)).length = len) := by show _ = len; rw [inside_len, hrl]; omega
  have HRL := Hid.mk' hrl
  obtain ⟨q, hqe⟩ : ∃ q, q = v256 (((told L).take 5).drop 1) := ⟨_, rfl⟩
  obtain ⟨k, hke⟩ : ∃ k, k = (told L).getD 0 0 := ⟨_, rfl⟩
  have HQ := Hid.mk' hqe
  have HK := Hid.mk' hke
  rw [← hqe] at hq
  rw [← hke] at hc0 hk
  clear hC hL hcell hqe hke hrl
  go_enter Tryd.func19, Tryd.ntmps19
  go_wp2_with (go_at_call 41; refine (rget_yes (B3.out.kept (Kept.alloc _ _ _ _ _)) (by omega) (by omega)).mono ?_; rw [← HQ.out]; rintro e w1 ⟨rfl, hk1'⟩; have hK1 : Kept w w1 none := by { obtain ⟨mm, rfl⟩ := hk1'; exact (Kept.alloc _ _ _ _ _).tr (Kept.drewN _ _ _) }; have hX1 : Box w1 w.heap.size (.int .u8 0) (.int .u32 0) (.slice none 0 0) := by { obtain ⟨mm, rfl⟩ := hk1'; exact (box_alloc w _ _ _ 30).kept (Kept.drewN _ _ _) }; have z0 : w1.cell? ⟨b, off, none⟩ = some (.int .u8 (k : Int)) := (cell_kept hK1 hb).trans hc0; have hwr := wrap32n q hq)
  have hX2 := box_alloc w1 (.int .u8 (k : Int)) (.int .u32 (q : Int)) (.slice none 0 0) 30
  have hX1' := hX1.kept (Kept.alloc w1 #[.int .u8 (k : Int), .int .u32 (q : Int), .slice none 0 0] 30 (0, 0) none)
  have hK2 : Kept w (w1.alloc (.cells #[.int .u8 (k : Int), .int .u32 (q : Int), .slice none 0 0] 30)) none := hK1.tr (Kept.alloc _ _ _ _ _)
  have hle := hX1.lt
  generalize hWe : w1.alloc (.cells #[.int .u8 (k : Int), .int .u32 (q : Int), .slice none 0 0] 30) = W at *
  have x2 := hX2.c2
  have y2 := hX2.f2
  have g0 : IntKind.i64.wrap ((len : Int) - 4) = ((len - 4 : Nat) : Int) := by
    simp [IntKind.wrap, IntKind.bits, IntKind.signed]; omega
  have g1 : (5 : Int) ≤ ((len - 4 : Nat) : Int) := by omega
  have g2 : ((len - 4 : Nat) : Int) ≤ (c : Int) := by omega
  have g3 : max ((len - 4 : Nat) : Int) 0 = ((len - 4 : Nat) : Int) := by omega
  have g4 : ¬ c = 5 := by omega
  have g5 : (0 : Int) ≤ ((len - 4 : Nat) : Int) := by omega
  have HX2 := Hid.mk' hX2
  have HX1 := Hid.mk' hX1'
  have hgl := hX2.lt
  clear hX2 hX1' hX1 hWe hk1'
  obtain ⟨g, hg⟩ : ∃ g, g = w1.heap.size := ⟨_, rfl⟩
  rw [← hg] at x2 y2 hgl hle HX2 ⊢
  clear hg
  go_region_law (refine step_join0 (by rfl) _ _ (by rfl) W.heap.size (by rfl) (some ⟨b, off + 5, none⟩) (len - 4 - 5) (c - 5) ((told L).drop 5) (by rfl) (B4.out.kept (hK2.tr (Kept.drew _ _))) (fun e => nomatch e) (by omega) (Nat.le_refl _) ?_; intro a3 c3 w3 hm3 hk3; have hX3 := HX2.out.kept ((Kept.drew W none).tr hk3); have x3 := hX3.c2; have y3 := hX3.f2)
  have hk4 : Kept w (w3.setCell ⟨g, 2, none⟩ (.slice a3 (len - 4 - 5) c3)) none := ((hK2.tr (Kept.drew _ _)).tr hk3).setNew (p := ⟨g, 2, none⟩) (Nat.le_of_lt hle) _
  have hm4 : Mine (w3.setCell ⟨g, 2, none⟩ (.slice a3 (len - 4 - 5) c3)) W.heap.size a3 (len - 4 - 5) c3 ((told L).drop 5) := hm3.set hgl 2 _
  have hB4 : Box (w3.setCell ⟨g, 2, none⟩ (.slice a3 (len - 4 - 5) c3)) g (.int .u8 (k : Int)) (.int .u32 (q : Int)) (.slice a3 (len - 4 - 5) c3) := by
    have h0 := hX3.c0
    have h1 := hX3.c1
    have h2 := hX3.c2
    have f0 := hX3.f0
    have f1 := hX3.f1
    have f2 := hX3.f2
    exact ⟨(World.cell?_setCell_other _ _ _ _ (by simp)).trans h0, (World.cell?_setCell_other _ _ _ _ (by simp)).trans h1, World.cell?_setCell_same _ _ _ h2, by rw [World.frozen?_setCell]; exact f0, by rw [World.frozen?_setCell]; exact f1, by rw [World.frozen?_setCell]; exact f2, by simpa [World.setCell] using hX3.lt⟩
  have hR4 : Box (w3.setCell ⟨g, 2, none⟩ (.slice a3 (len - 4 - 5) c3)) w.heap.size (.int .u8 0) (.int .u32 0) (.slice none 0 0) := by
    have hZ := HX1.out.kept ((Kept.drew W none).tr hk3)
    have hne : w.heap.size ≠ g := by omega
    have h0 := hZ.c0
    have h1 := hZ.c1
    have h2 := hZ.c2
    have f0 := hZ.f0
    have f1 := hZ.f1
    have f2 := hZ.f2
    exact ⟨(World.cell?_setCell_other _ _ _ _ (by simp [Ne.symm hne])).trans h0, (World.cell?_setCell_other _ _ _ _ (by simp [Ne.symm hne])).trans h1, (World.cell?_setCell_other _ _ _ _ (by simp [Ne.symm hne])).trans h2, by rw [World.frozen?_setCell]; exact f0, by rw [World.frozen?_setCell]; exact f1, by rw [World.frozen?_setCell]; exact f2, by simpa [World.setCell] using hZ.lt⟩
  generalize w3.setCell ⟨g, 2, none⟩ (.slice a3 (len - 4 - 5) c3) = W4 at *
  have HB4 := Hid.mk' hB4
  have HR4 := Hid.mk' hR4
  have HM4 := Hid.mk' hm4
  have x0 := hB4.c0
  have x1 := hB4.c1
  have x4 := hB4.c2
  have hg4 := hB4.lt
  clear hX3 x3 y3 x2 y2 HX2 HX1 hm3 hk3 hB4 hR4 hm4 g0 g1 g2 g3 g4 g5
  have HRE : Hid ((k, q, (told L).drop 5) = rawM L) := by show _ = rawM L; unfold rawM; rw [HQ.out, HK.out]
  have HMO : Hid (Mok (k, q, (told L).drop 5)) := by show Mok _; rw [HRE.out]; exact HRO.out
  have hDl : ((told L).drop 5).length = len - 4 - 5 := HRL.out
  have HD5 : Hid (By W4 a3 (len - 4 - 5) ((told L).drop 5)) := HM4.out.by (fun x hx => told_lt HLB.out x (List.mem_of_mem_drop hx))
  have hl9 : 9 + (len - 4 - 5) = len := by omega
  have hIx : ∀ x ∈ inside (k, q, (told L).drop 5), x < 256 := inside_lt HMO.out
  have HIX := Hid.mk' hIx
  have HIF2 : Hid (inside (k, q, (told L).drop 5) = L ↔ opnB L = true) := by show _ ↔ _; rw [HRE.out]; exact HIF.out
  have HRM : Hid (opnB L = true → opnM L = (k, q, (told L).drop 5)) := fun h => by rw [HRE.out]; unfold opnM rawM; rw [if_pos h]
  clear hIx
  generalize (told L).drop 5 = D at *
  cases hop : opnB L with
  | true =>
    have E1 : Hid (inside (k, q, D) = L) := HIF2.out.2 hop
    have E2 : Hid (opnM L = (k, q, D)) := HRM.out hop
    have E3 : Hid (opnE L = 0) := by show opnE L = 0; unfold opnE; rw [if_pos hop]
    go_wp2_with (go_at_call 17; refine (rinside_yes (k, q, D) a3 (len - 4 - 5) c3 _ HD5.out (fun e => (HM4.out.nil e).2) HMO.out (by omega)).mono ?_; rw [E1.out, hl9]; rintro e w5 ⟨a5, c5, rfl, hm5, hk5⟩; have t1 := run_text (hm5.by HLB.out) c5; have t2 := run_text (HC.out.by_.kept (hk4.tr hk5)) c; have hB5 := HB4.out.kept hk5; have hR5 := HR4.out.kept hk5; have z1 := hB5.c0; have z2 := hB5.c1; have z3 := hB5.c2; have r1 := hR5.c0; have r2 := hR5.c1; have r3 := hR5.c2; have s1 := hR5.f0; have s2 := hR5.f1; have s3 := hR5.f2)
    have hbz : w.heap.size < W.heap.size := by omega
    refine bodyPost_ret (v := .tuple #[.agg #[.int .u8 (k : Int), .int .u32 (q : Int), .slice a3 (len - 4 - 5) c3], .int .i64 0]) (by simp [results, Tryd.results19, go_sem, r1, r2, r3]) rfl ⟨a3, c3, ?_, ?_, (hk4.tr hk5).set3 (Nat.le_refl _) _ _ _⟩
    · rw [E2.out, E3.out]
      show _ = Ending.returned (.tuple #[.agg #[.int .u8 (k : Int), .int .u32 (q : Int), .slice a3 D.length c3], .int .i64 0])
      rw [hDl]
    · rw [E2.out]
      show Mine _ _ a3 D.length c3 D
      rw [hDl]
      exact ((HM4.out.kept hk5).set3 hbz _ _ _).lower (by omega)
  | false =>
    have hne : ¬ (textOf (inside (k, q, D))).toList = (textOf L).toList := fun e => by
      have h1 := textOf_eq HIX.out HLB.out
      rw [e] at h1
      have h2 : inside (k, q, D) = L := by simpa using h1
      have := HIF2.out.1 h2
      rw [hop] at this
      cases this
    have hne2 : ((textOf (inside (k, q, D))).toList == (textOf L).toList) = false := beq_eq_false_iff_ne.2 hne
    have E2 : Hid (opnM L = (0, 0, [])) := by show opnM L = _; unfold opnM; rw [hop]; rfl
    have E3 : Hid (opnE L = 8) := by show opnE L = 8; unfold opnE; rw [hop]; rfl
    go_wp2_with (go_at_call 17; refine (rinside_yes (k, q, D) a3 (len - 4 - 5) c3 _ HD5.out (fun e => (HM4.out.nil e).2) HMO.out (by omega)).mono ?_; rw [hl9]; rintro e w5 ⟨a5, c5, rfl, hm5, hk5⟩; have t1 := run_text (hm5.by HIX.out) c5; have t2 := run_text (HC.out.by_.kept (hk4.tr hk5)) c; have hR5 := HR4.out.kept hk5; have r1 := hR5.c0; have r2 := hR5.c1; have r3 := hR5.c2; have s1 := hR5.f0; have s2 := hR5.f1; have s3 := hR5.f2)
    all_goals first
      | (refine bodyPost_ret (v := .tuple #[.agg #[.int .u8 0, .int .u32 0, .slice none 0 0], .int .i64 8]) (by simp [results, Tryd.results19, go_sem, r1, r2, r3]) rfl ⟨none, 0, ?_, ?_, (hk4.tr hk5).set3 (Nat.le_refl _) _ _ _⟩
         · rw [E2.out, E3.out]; rfl
         · rw [E2.out]; exact ⟨World.ownsRow_nil _ _ _ _, fun _ => ⟨rfl, rfl⟩, Nat.le_refl _, by omega⟩)
      | (exfalso; simp_all)

theorem ropen_any {a : Option Addr} {len c : Nat} {L : List Nat} {w : World} (hC : Come w a len c L) :
    Calls Tryd.prog 19 #[.slice a len c] w fun e w' => ∃ a' c', e = .returned (.tuple #[msgV (opnM L) a' (opnM L).2.2.length c', .int .i64 ((opnE L : Nat) : Int)]) ∧ Mine w' w.heap.size a' (opnM L).2.2.length c' (opnM L).2.2 ∧ Kept w w' none := by
  have hl := hC.by_.size
  by_cases h : 9 ≤ len ∧ len ≤ 521
  · obtain ⟨b, off, rfl, _⟩ := hC.by_.at_ (by omega)
    exact ropen_in hC h.1 h.2
  · have hB : opnB L = false := by
      cases e : opnB L with
      | false => rfl
      | true => have := (opnB_iff L).1 e; omega
    refine (ropen_no w (by omega) (by have := hC.room; have := hC.max; omega)).mono ?_
    rintro e w' ⟨rfl, hk⟩
    unfold opnM opnE
    rw [hB]
    exact ⟨none, 0, rfl, ⟨World.ownsRow_nil _ _ _ _, fun _ => ⟨rfl, rfl⟩, Nat.le_refl _, by omega⟩, hk⟩

end Go.Proofs.YtflehhliddcfgaaDoor
