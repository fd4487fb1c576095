/-
  THE CONTRACTS of the document's TwinMessages, Next, SameMessages (made by a program).
-/
import Derived.Test.YtnmfigcemknjbaaLnkE
namespace Go.Proofs.Ytnmfigcemknjbaa
open Go.RowKit Go.Lib Go.Deep
set_option linter.unusedVariables false
set_option linter.unusedSimpArgs false

theorem kept_sm {w w' : World} (h : Kept w w' none) (r : Option Nat) : Kept w w' r := ⟨h.os, h.tape, h.output, h.size, fun i hi _ => h.block i hi (by simp)⟩
/-- append(nil, b...) in a region that draws its order. -/
theorem step_join0L {ops : Array Oper} {o : Oper} {act : Act} {K : Act → World → Prop} {Q : Exit → Act → World → Prop} {E : Prop} {w : World} (hgd : o.guard = none) (s x : Operand)
    (ho : o.op = .call { callee := .builtin .append, args := #[s, x], argTypes := #[34, 34] })
    (base : Nat) (hs : act.eval s = .slice none 0 0) (a : Option Addr) (m c : Nat) (M : List Nat) (hx : act.eval x = .slice a m c) (hB : By w a m M) (ha : a = none → c = 0)
    (hm : m ≤ 140737488355328) (hbase : base ≤ w.heap.size)
    (h : ∀ a' cap w', Mine w' base a' m cap M → Kept w w' none → K (act.put o.dst (.slice a' m cap)) w') : if Region.wanted o (yielded ops act.tmps) = true then Oper.wp Try.prog o act w K Q else E := by
  have hw : Region.wanted o (yielded ops act.tmps) = true := by simp [Region.wanted, hgd]
  rw [if_pos hw]
  obtain ⟨i0, hi0, hz0, hz1, hz2⟩ := info_parts Try.info5
  have hown : w.ownsRow base 5 1 (.slice none 0 0) 0 (([] : List Nat).map byteV) := World.ownsRow_nil _ _ _ _
  have key : ∀ v' w', w'.ownsRow base 5 1 v' m (M.map byteV) → w.grownBy w' none → K (act.put o.dst v') w' := by
    intro v' w' h1 h2
    obtain ⟨a', cap, rfl, hm⟩ := mine_of h1
    exact h a' cap w' hm h2
  cases a with
  | none =>
    have hm0 : m = 0 := by
      by_cases hm : 0 < m
      · obtain ⟨b, off, e, _⟩ := hB.at_ hm
        cases e
      · omega
    subst hm0
    have hM : M = [] := List.length_eq_zero_iff.1 hB.size
    subst hM
    have hc := ha rfl
    subst hc
    have hrun := run_append_owned_none (P := Try.prog) (w := w) base 34 o.type 5 i0 1 Try.uB hi0 (.slice none 0 0) 0 [] hown
    unfold Oper.wp
    simp [execOp, ho, resolve, invoke, builtin, hs, hx, hrun, Result.andThen]
    exact key _ w hown (World.grownBy.refl w _)
  | some ad =>
    have hnews : ∀ j u, (M.map byteV)[j]? = some u → w.cell? (ad.add j) = some u := by
      by_cases hp : 0 < m
      · obtain ⟨b, off, e, hb, hc⟩ := hB.at_ hp
        injection e with e
        subst e
        exact bytes_news hB.size hc
      · have hM : M = [] := List.length_eq_zero_iff.1 (by rw [hB.size]; omega)
        subst hM
        intro j u hu
        simp at hu
    obtain ⟨v', w', hr, h2, h3, _⟩ := run_append_own_at (P := Try.prog) w base 34 o.type 5 i0 _ 1 1 Try.uB hi0 hz0 hz1 hz2 rfl (by omega) (.slice none 0 0) 0 [] hown ad m c (M.map byteV) (by simp [hB.size]) hnews (bytes_one M) (by unfold maxLen; omega) (by omega) hbase
    rw [Nat.zero_add, List.nil_append] at h2
    unfold Oper.wp
    simp only [execOp, ho, resolve, invoke, builtin, Sem.run_bind, Sem.run_pure, Result.andThen_ok, List.map_toArray, List.map_cons, List.map_nil, hs, hx, hr]
    exact key v' w' h2 h3
theorem step_appL {ops : Array Oper} {o : Oper} {act : Act} {K : Act → World → Prop} {Q : Exit → Act → World → Prop} {E : Prop} {w w' : World} {v u v' : Value} (hgd : o.guard = none) (s x : Operand) (t : TypeId) (ho : o.op = .call { callee := .builtin .append, args := #[s, x], argTypes := #[t, t] }) (hs : act.eval s = v) (hx : act.eval x = u)
    (hr : (Builtin.append_ #[t, t] o.type #[v, u]).run Try.prog w = .ok v' w') (h : K (act.put o.dst v') w') : if Region.wanted o (yielded ops act.tmps) = true then Oper.wp Try.prog o act w K Q else E := by
  have hw : Region.wanted o (yielded ops act.tmps) = true := by simp [Region.wanted, hgd]
  rw [if_pos hw]
  unfold Oper.wp execOp
  simp only [ho, resolve, invoke, builtin, Sem.run_bind, Sem.run_pure, Result.andThen_ok, List.map_toArray, List.map_cons, List.map_nil, hs, hx, hr]
  exact h
/-- What a region leaves that appended. -/
def Rm (A : Option Addr → Nat → Nat → Value → Act) (P : Value → World → Prop) (e : Exit) (a : Act) (w : World) : Prop := match e with
  | .normal => ∃ x c g v, a = A x c g v ∧ P v w
  | _ => False
theorem Rm.out {A : Option Addr → Nat → Nat → Value → Act} {P : Value → World → Prop} {e : Exit} {a : Act} {w : World} (h : Rm A P e a w) : e = .normal ∧ ∃ x c g v, a = A x c g v ∧ P v w := by
  cases e with
  | normal => exact ⟨rfl, h⟩
  | _ => exact h.elim
theorem Rm.mk {A : Option Addr → Nat → Nat → Value → Act} {P : Value → World → Prop} {a : Act} {w : World} {x : Option Addr} {c g : Nat} {v : Value} (h : a = A x c g v) (p : P v w) : Rm A P .normal a w := ⟨x, c, g, v, h, p⟩
theorem Mw.appT {w0 W w3 : World} {l : List Msg} {v : Value} {m : Msg} {a3 : Option Addr} {c3 : Nat} (h : Mw w0 W l v) (k : Kept W w3 Option.none) (hM : Mine w3 W.heap.size a3 m.2.2.length c3 m.2.2) (hn : l.length ≤ 2000) (ty : TypeId) :
    ∃ v' w', (Builtin.append_ #[25, 25] ty #[v, .slice (some ⟨w3.heap.size, 0, Option.none⟩) 1 1]).run Try.prog (w3.alloc (.cells (msC m a3 c3) 47)) = .ok v' w' ∧ Mw w0 w' (l ++ [m]) v' ∧ Kept (w3.alloc (.cells (msC m a3 c3) 47)) w' v.ownBlock := by
  have hk := Kept.alloc w3 (msC m a3 c3) 47 (0, 0) Option.none
  obtain ⟨v', w', h1, h2, h3, _⟩ := ((h.keptN k).keptN hk).app (c := 1) (mb_alloc w3 m a3 c3) ((hM.keptT hk (NoB.none _ _)).base h.kept.size) hn ty
  exact ⟨v', w', h1, h2, h3⟩
theorem Nxi.appT {w W w3 : World} {s : Lk} {l : List Msg} {v : Value} {m : Msg} {a3 : Option Addr} {c3 : Nat} (h : Nxi w W s l v) (k : Kept W w3 none) (hM : Mine w3 W.heap.size a3 m.2.2.length c3 m.2.2) (hn : l.length ≤ 2000) (ty : TypeId) :
    ∃ v' w', (Builtin.append_ #[25, 25] ty #[v, .slice (some ⟨w3.heap.size, 0, none⟩) 1 1]).run Try.prog (w3.alloc (.cells (msC m a3 c3) 47)) = .ok v' w' ∧ Nxi w w' s (l ++ [m]) v' ∧ Kept (w3.alloc (.cells (msC m a3 c3) 47)) w' v.ownBlock := by
  have hk := Kept.alloc w3 (msC m a3 c3) 47 (0, 0) none
  obtain ⟨v', w', h1, h2, h3, h4, h5⟩ := ((h.mw.keptN k).keptN hk).app (c := 1) (mb_alloc w3 m a3 c3) ((hM.keptT hk (NoB.none _ _)).base h.mw.kept.size) hn ty
  exact ⟨v', w', h1, ⟨h2, row_keptT ((row_kept h.lb k (by simp)).alloc _) h3 h5, row_keptT ((row_kept h.rb k (by simp)).alloc _) h3 h5⟩, h3⟩
def TwP20 (w : World) (l : List Msg) (e : Ending) (w' : World) : Prop := ∃ v, e = .returned v ∧ Mw w w' l v
theorem take_snoc {l : List Msg} {k : Nat} {m : Msg} (h : l[k]? = some m) : l.take (k + 1) = l.take k ++ [m] := by
  rw [List.take_add_one, h]; rfl
set_option maxRecDepth 100000 in
set_option maxHeartbeats 8000000 in
theorem twinM_any {w : World} {la : Option Addr} {n c : Nat} {l : List Msg} (h : Ms w la n l) (hn : n ≤ 1100) (hb : ∀ m ∈ l, m.2.2.length ≤ 140737488351232) : Calls Try.prog 18 #[.slice la n c] w fun e w' => TwP20 w l e w' := by
  have HM := Hid.mk' h
  have HBD := Hid.mk' hb
  clear h hb
  go_enter Try.func18, Try.ntmps18
  go_wp2
  go_loopw [3, 4] (fun v i wr => ∃ k : Nat, k ≤ n ∧ i = .int .i64 k ∧ Hid (Mw w wr (l.take k) v)) (fun _ i _ => n - (intOf i).toNat)
  case atStart => exact ⟨0, Nat.zero_le _, rfl, Hid.mk' (Mw.nil w)⟩
  case round =>
    obtain ⟨k, hk, rfl, HT⟩ := hrel
    by_cases hlt : k < n
    case neg =>
      have e : k = n := by omega
      subst e
      have HE : Hid (l.take k = l) := Hid.mk' (List.take_of_length_le (by rw [HM.out.size]; exact Nat.le_refl _))
      go_wp2
      go_ret
      exact ⟨_, rfl, by have := HT.out; rwa [HE.out] at this⟩
    obtain ⟨b, off, m, a, cc, rfl, hb, hm, p1, p2, p3, p4⟩ := HM.out.at_is hlt
    have hml := HBD.out m (List.mem_of_getElem? hm)
    have HST := Hid.mk' (take_snoc hm)
    obtain ⟨mk, mq, mb⟩ := m
    have HP4 := Hid.mk' (p4.keptL HT.out.kept)
    have HBN : Hid (a = none → cc = 0) := Hid.mk' p4.nil
    have HTk : (l.take k).length ≤ 2000 := by rw [List.length_take]; omega
    have hnb : ∀ g, u3.ownBlock = some g → some b ≠ some g := fun g hg e => by cases e; have := (HT.out.lt _ hg).1; omega
    obtain ⟨R, hR⟩ : ∃ R, u3.ownBlock = R := ⟨_, rfl⟩
    have hbR : some b ≠ R := fun e => by rw [← hR] at e; exact hnb b e.symm rfl
    have x0 : ∀ w', Kept wr w' R → w'.cell? ⟨b, off + k * 3, none⟩ = some (.int .u8 (mk : Int)) := fun w' hk => cell_keptR ((cell_kl HT.out.kept hb).trans p1) hk hbR
    have x1 : ∀ w', Kept wr w' R → w'.cell? ⟨b, off + k * 3 + 1, none⟩ = some (.int .u32 (mq : Int)) := fun w' hk => cell_keptR ((cell_kl HT.out.kept hb).trans p2) hk hbR
    have x2 : ∀ w', Kept wr w' R → w'.cell? ⟨b, off + k * 3 + 2, none⟩ = some (.slice a mb.length cc) := fun w' hk => cell_keptR ((cell_kl HT.out.kept hb).trans p3) hk hbR
    have HRR := Hid.mk' hR
    dsimp only at hml
    clear p1 p2 p3 p4 hm hnb hR hbR
    go_wp2
    refine Code.wp_mono (Q := Rm ?A1 (fun v w' => Hid (Mw w w' (l.take k ++ [(mk, mq, mb)]) v))) ?cont1 ?reg1
    case reg1 =>
      repeat (rename_i hh; clear hh)
      refine wp_region_held_drew (S := fun w' => Kept wr w' R) (by kernel_rfl) (kept_drl _ _) (fun hHeld => ?_)
      refine held_take (i := 0) (v := ?rv1) rfl rfl (by kernel_rfl) (by kernel_rfl) (by kernel_rfl) (fun _ _ _ h => h) (Or.inl ⟨by rfl, ?rhy1⟩) hHeld ?rrest1
      case rhy1 => first | (intro w hSw; (try dsimp only at hSw); go_simp; done) | (intro w hSw; (try dsimp only at hSw); go_simp; with_reducible rfl)
      try simp only [List.setIfInBounds_toArray, List.set_cons_zero, List.set_cons_succ]
      refine held_take (i := 1) (v := ?rv2) rfl rfl (by kernel_rfl) (by kernel_rfl) (by kernel_rfl) (fun _ _ _ h => h) (Or.inl ⟨by rfl, ?rhy2⟩) hHeld ?rrest2
      case rhy2 => first | (intro w hSw; (try dsimp only at hSw); go_simp; done) | (intro w hSw; (try dsimp only at hSw); go_simp; with_reducible rfl)
      try simp only [List.setIfInBounds_toArray, List.set_cons_zero, List.set_cons_succ]
      refine held_take (i := 2) (v := ?rv3) rfl rfl (by kernel_rfl) (by kernel_rfl) (by kernel_rfl) (fun _ _ _ h => h) (Or.inl ⟨by rfl, ?rhy3⟩) hHeld ?rrest3
      case rhy3 => first | (intro w hSw; (try dsimp only at hSw); go_simp; done) | (intro w hSw; (try dsimp only at hSw); go_simp; with_reducible rfl)
      try simp only [List.setIfInBounds_toArray, List.set_cons_zero, List.set_cons_succ]
      refine held_take (i := 3) (v := ?rv4) rfl rfl (by kernel_rfl) (by kernel_rfl) (by kernel_rfl) (fun _ _ _ h => h) (Or.inl ⟨by rfl, ?rhy4⟩) hHeld ?rrest4
      case rhy4 => first | (intro w hSw; (try dsimp only at hSw); go_simp; done) | (intro w hSw; (try dsimp only at hSw); go_simp; with_reducible rfl)
      try simp only [List.setIfInBounds_toArray, List.set_cons_zero, List.set_cons_succ]
      refine held_take (i := 4) (v := ?rv5) rfl rfl (by kernel_rfl) (by kernel_rfl) (by kernel_rfl) (fun _ _ _ h => h) (Or.inl ⟨by rfl, ?rhy5⟩) hHeld ?rrest5
      case rhy5 => first | (intro w hSw; (try dsimp only at hSw); go_simp; done) | (intro w hSw; (try dsimp only at hSw); go_simp; with_reducible rfl)
      try simp only [List.setIfInBounds_toArray, List.set_cons_zero, List.set_cons_succ]
      refine held_take (i := 5) (v := ?rv6) rfl rfl (by kernel_rfl) (by kernel_rfl) (by kernel_rfl) (fun _ _ _ h => h) (Or.inl ⟨by rfl, ?rhy6⟩) hHeld ?rrest6
      case rhy6 => first | (intro w hSw; (try dsimp only at hSw); go_simp; done) | (intro w hSw; (try dsimp only at hSw); go_simp; with_reducible rfl)
      try simp only [List.setIfInBounds_toArray, List.set_cons_zero, List.set_cons_succ]
      refine held_take (i := 6) (v := ?rv7) rfl rfl (by kernel_rfl) (by kernel_rfl) (by kernel_rfl) (fun _ _ _ h => h) (Or.inl ⟨by rfl, ?rhy7⟩) hHeld ?rrest7
      case rhy7 => first | (intro w hSw; (try dsimp only at hSw); go_simp; done) | (intro w hSw; (try dsimp only at hSw); go_simp; with_reducible rfl)
      try simp only [List.setIfInBounds_toArray, List.set_cons_zero, List.set_cons_succ]
      refine held_take (i := 7) (v := ?rv8) rfl rfl (by kernel_rfl) (by kernel_rfl) (by kernel_rfl) (fun _ _ _ h => h) (Or.inl ⟨by rfl, ?rhy8⟩) hHeld ?rrest8
      case rhy8 => first | (intro w hSw; (try dsimp only at hSw); go_simp; done) | (intro w hSw; (try dsimp only at hSw); go_simp; with_reducible rfl)
      try simp only [List.setIfInBounds_toArray, List.set_cons_zero, List.set_cons_succ]
      refine held_take (i := 8) (v := ?rv9) rfl rfl (by kernel_rfl) (by kernel_rfl) (by kernel_rfl) (fun _ _ _ h => h) (Or.inl ⟨by rfl, ?rhy9⟩) hHeld ?rrest9
      case rhy9 => first | (intro w hSw; (try dsimp only at hSw); go_simp; done) | (intro w hSw; (try dsimp only at hSw); go_simp; with_reducible rfl)
      try simp only [List.setIfInBounds_toArray, List.set_cons_zero, List.set_cons_succ]
      refine held_take (i := 9) (v := ?rv10) rfl rfl (by kernel_rfl) (by kernel_rfl) (by kernel_rfl) (fun _ _ _ h => h) (Or.inl ⟨by rfl, ?rhy10⟩) hHeld ?rrest10
      case rhy10 => first | (intro w hSw; (try dsimp only at hSw); go_simp; done) | (intro w hSw; (try dsimp only at hSw); go_simp; with_reducible rfl)
      try simp only [List.setIfInBounds_toArray, List.set_cons_zero, List.set_cons_succ]
      refine held_take (i := 10) (v := ?rv11) rfl rfl (by kernel_rfl) (by kernel_rfl) (by kernel_rfl) (fun _ _ _ h => h) (Or.inl ⟨by rfl, ?rhy11⟩) hHeld ?rrest11
      case rhy11 => first | (intro w hSw; (try dsimp only at hSw); go_simp; done) | (intro w hSw; (try dsimp only at hSw); go_simp; with_reducible rfl)
      try simp only [List.setIfInBounds_toArray, List.set_cons_zero, List.set_cons_succ]
      refine held_take (i := 11) (v := ?rv12) rfl rfl (by kernel_rfl) (by kernel_rfl) (by kernel_rfl) (fun _ _ _ h => h) (Or.inl ⟨by rfl, ?rhy12⟩) hHeld ?rrest12
      case rhy12 => first | (intro w hSw; (try dsimp only at hSw); go_simp; done) | (intro w hSw; (try dsimp only at hSw); go_simp; with_reducible rfl)
      try simp only [List.setIfInBounds_toArray, List.set_cons_zero, List.set_cons_succ]
      refine held_take (i := 12) (v := ?rv13) rfl rfl (by kernel_rfl) (by kernel_rfl) (by kernel_rfl) (fun _ _ _ h => h) (Or.inl ⟨by rfl, ?rhy13⟩) hHeld ?rrest13
      case rhy13 => first | (intro w hSw; (try dsimp only at hSw); go_simp; done) | (intro w hSw; (try dsimp only at hSw); go_simp; with_reducible rfl)
      try simp only [List.setIfInBounds_toArray, List.set_cons_zero, List.set_cons_succ]
      refine held_take (i := 13) (v := ?rv14) rfl rfl (by kernel_rfl) (by kernel_rfl) (by kernel_rfl) (fun _ _ _ h => h) (Or.inl ⟨by rfl, ?rhy14⟩) hHeld ?rrest14
      case rhy14 => first | (intro w hSw; (try dsimp only at hSw); go_simp; done) | (intro w hSw; (try dsimp only at hSw); go_simp; with_reducible rfl)
      try simp only [List.setIfInBounds_toArray, List.set_cons_zero, List.set_cons_succ]
      refine held_take (i := 14) (v := ?rv15) rfl rfl (by kernel_rfl) (by kernel_rfl) (by kernel_rfl) (fun _ _ _ h => h) (Or.inl ⟨by rfl, ?rhy15⟩) hHeld ?rrest15
      case rhy15 => first | (intro w hSw; (try dsimp only at hSw); go_simp; done) | (intro w hSw; (try dsimp only at hSw); go_simp; with_reducible rfl)
      try simp only [List.setIfInBounds_toArray, List.set_cons_zero, List.set_cons_succ]
      refine held_take (i := 15) (v := ?rv16) rfl rfl (by kernel_rfl) (by kernel_rfl) (by kernel_rfl) (fun _ _ _ h => h) (Or.inl ⟨by rfl, ?rhy16⟩) hHeld ?rrest16
      case rhy16 => first | (intro w hSw; (try dsimp only at hSw); go_simp; done) | (intro w hSw; (try dsimp only at hSw); go_simp; with_reducible rfl)
      try simp only [List.setIfInBounds_toArray, List.set_cons_zero, List.set_cons_succ]
      refine wpAnyH_ready (rs := [16]) (by kernel_rfl) (by simp) ?_
      refine AllReadyH.cons rfl (fun K hK => ?_) AllReadyH.nil
      replace hK := hK.out
      refine step_join0L (by rfl) _ _ (by rfl) wr.heap.size (by rfl) _ _ _ _ (by rfl) (HP4.out.keptL (kept_drl wr none)).by_ HBN.out (by omega) hHeld.size ?_
      intro a3 c3 w3 hm3 hk3
      have hnew : Kept wr w3 R := hHeld.tr (kept_sm hk3 _)
      have HM3 := Hid.mk' hm3
      have K3 := Hid.mk' ((kept_drl wr none).tr hk3)
      refine hK _ _ hnew (fun hHeld => ?_)
      clear hK K hnew hm3 hk3
      refine held_take (i := 17) (v := ?rv17) rfl rfl (by kernel_rfl) (by kernel_rfl) (by kernel_rfl) (fun _ _ _ h => h) (Or.inl ⟨by rfl, ?rhy17⟩) hHeld ?rrest17
      case rhy17 => first | (intro w hSw; (try dsimp only at hSw); go_simp; done) | (intro w hSw; (try dsimp only at hSw); go_simp; with_reducible rfl)
      try simp only [List.setIfInBounds_toArray, List.set_cons_zero, List.set_cons_succ]
      refine wpAnyH_ready (rs := [18]) (by kernel_rfl) (by simp) ?_
      refine AllReadyH.cons rfl (fun K hK => ?_) AllReadyH.nil
      replace hK := hK.out
      go_simp
      have hnew : Kept wr (w3.alloc (.cells (msC (mk, mq, mb) a3 c3) 47)) R := hHeld.tr (Kept.alloc _ _ _ _ _)
      refine hK _ _ hnew (fun hHeld => ?_)
      clear hK K hnew
      refine wpAnyH_ready (rs := [19]) (by kernel_rfl) (by simp) ?_
      refine AllReadyH.cons rfl (fun K hK => ?_) AllReadyH.nil
      replace hK := hK.out
      obtain ⟨v', w5, hr5, hX5, hk5⟩ := HT.out.appT (m := (mk, mq, mb)) K3.out HM3.out HTk 25
      have hnew : Kept wr w5 R := hHeld.tr (by rw [HRR.out] at hk5; exact hk5)
      refine step_appL (by rfl) _ _ 25 (by rfl) (by rfl) (by rfl) hr5 ?_
      refine hK _ _ hnew (fun hHeld => ?_)
      clear hK K hnew
      refine held_take (i := 20) (v := ?rv18) rfl rfl (by kernel_rfl) (by kernel_rfl) (by kernel_rfl) (fun _ _ _ h => h) (Or.inl ⟨by rfl, ?rhy18⟩) hHeld ?rrest18
      case rhy18 => first | (intro w hSw; (try dsimp only at hSw); go_simp; done) | (intro w hSw; (try dsimp only at hSw); go_simp; with_reducible rfl)
      try simp only [List.setIfInBounds_toArray, List.set_cons_zero, List.set_cons_succ]
      refine wpAnyH_done (by kernel_rfl) ?_ _
      obtain ⟨gz, hgz⟩ : ∃ gz, w3.heap.size = gz := ⟨_, rfl⟩
      rw [hgz]
      refine Rm.mk (x := a3) (c := c3) (g := gz) (v := v') ?_ (Hid.mk' hX5)
      with_reducible rfl
    case cont1 =>
    intro e act w5 hq5
    obtain ⟨rfl, ax, cx, gx, vx, rfl, HX5⟩ := hq5.out
    go_wp2
    go_roundw
    case rel => exact ⟨k + 1, by omega, by go_num, by rw [HST.out]; exact HX5⟩
    case measure => simp [intOf]; omega

end Go.Proofs.Ytnmfigcemknjbaa
