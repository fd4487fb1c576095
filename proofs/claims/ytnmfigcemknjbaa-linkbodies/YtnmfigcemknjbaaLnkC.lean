/-
  THE CONTRACTS of bytes.Clone and link.Next.
-/
import Derived.Test.YtnmfigcemknjbaaLnkB
import Derived.Laws.Cover3
namespace Go.Proofs.Ytnmfigcemknjbaa
open Go.RowKit Go.Lib Go.Deep
set_option linter.unusedVariables false
set_option linter.unusedSimpArgs false

theorem lclone_any {a : Option Addr} {len c : Nat} {L : List Nat} {w : World} (hC : Come w a len c L) (hl : len ≤ 1000000) :
    Calls Try.prog 32 #[.slice a len c] w fun e w' => ∃ a' c', e = .returned (.slice a' len c') ∧ Mine w' w.heap.size a' len c' L ∧ Kept w w' none := by
  have HC : Hid (Come w a len c L) := hC
  have hnil : (binOp .eql 34 (.slice a len c) (.slice none 0 0)).run Try.prog w = .ok (.bool a.isNone) w := by
    simp only [binOp]
    simp [run_equal_slice_nil w 34 5 a len c Try.uB]
  clear hC
  cases a with
  | none =>
    have h0 := HC.out.nil rfl
    have h1 := HC.out.room
    have h2 : len = 0 := by omega
    subst h0 h2
    have h3 : L = [] := List.length_eq_zero_iff.1 HC.out.by_.size
    subst h3
    go_enter Try.func32, Try.ntmps32
    go_wp2
    go_ret
    exact ⟨none, 0, rfl, mine_nil _ _, Kept.refl _ _⟩
  | some x =>
    go_enter Try.func32, Try.ntmps32
    go_wp2_with (at_builtin; refine wpList_join (by rfl) _ _ (by rfl) w.heap.size (.slice (some ⟨w.heap.size, 0, none⟩) 0 0) 0 [] (by rfl) (World.ownsRow_made w #[] 0 (Nat.le_refl _) (by unfold maxLen; omega) (by simp)) (some x) len c L (by rfl) (HC.out.by_.kept (Kept.alloc _ _ _ _ _)) (fun e => nomatch e) (by omega) (by simp) ?_; intro a2 c2 w2 hm2 hg2)
    go_ret
    rw [Nat.zero_add] at hm2
    exact ⟨a2, c2, rfl, hm2, (Kept.alloc _ _ _ _ _).newRow hg2 (fun i h => by simp [Value.ownBlock] at h; omega)⟩

/-- The cells of a message in a box. -/
abbrev fMs (m : Msg) (a : Option Addr) (c : Nat) (i : Nat) : Value := if i = 0 then .int .u8 (m.1 : Int) else if i = 1 then .int .u32 (m.2.1 : Int) else .slice a m.2.2.length c
abbrev Mb (w : World) (b : Nat) (m : Msg) (a : Option Addr) (c : Nat) : Prop := w.rowIs b 47 3 (fMs m a c)
abbrev msC (m : Msg) (a : Option Addr) (c : Nat) : Array Value := #[.int .u8 (m.1 : Int), .int .u32 (m.2.1 : Int), .slice a m.2.2.length c]
theorem mb_alloc (w : World) (m : Msg) (a : Option Addr) (c : Nat) : Mb (w.alloc (.cells (msC m a c) 47)) w.heap.size m a c :=
  World.rowIs_alloc w _ _ _ (fun i hi => by
    have : i = 0 ∨ i = 1 ∨ i = 2 := by simp at hi; omega
    rcases this with rfl | rfl | rfl <;> rfl)
theorem Mb.c0 {w : World} {b : Nat} {m : Msg} {a : Option Addr} {c : Nat} (h : Mb w b m a c) : w.cell? ⟨b, 0, none⟩ = some (.int .u8 (m.1 : Int)) := h.cell (i := 0) (by omega)
theorem Mb.c1 {w : World} {b : Nat} {m : Msg} {a : Option Addr} {c : Nat} (h : Mb w b m a c) : w.cell? ⟨b, 1, none⟩ = some (.int .u32 (m.2.1 : Int)) := h.cell (i := 1) (by omega)
theorem Mb.c2 {w : World} {b : Nat} {m : Msg} {a : Option Addr} {c : Nat} (h : Mb w b m a c) : w.cell? ⟨b, 2, none⟩ = some (.slice a m.2.2.length c) := h.cell (i := 2) (by omega)
theorem Mw.lt {w0 w : World} {l : List Msg} {v : Value} (h : Mw w0 w l v) : ∀ g, v.ownBlock = some g → w0.heap.size ≤ g ∧ g < w.heap.size := by
  obtain ⟨⟨xs, o, n⟩, q⟩ := h
  exact o.lt
/-- A store into a block that is not the list's. -/
theorem Mw.setFar {w0 w : World} {l : List Msg} {v : Value} {b : Nat} (h : Mw w0 w l v) (hv : ∀ g, v.ownBlock = some g → g ≠ b) (h5 : NoB w 5 (some b)) (hb : w0.heap.size ≤ b) (i : Nat) (u : Value) : Mw w0 (w.setCell ⟨b, i, none⟩ u) l v := by
  obtain ⟨⟨xs, o, n⟩, q⟩ := h
  have k : Kept w (w.setCell ⟨b, i, none⟩ u) (some b) := kept_setZ _ _ _ _
  exact ⟨⟨xs, own_keptR' o k (fun g hg e => hv g hg (by injection e)), n.kept k h5⟩, kept_rowL q k (fun g e => by injection e with e; omega)⟩
/-- One message more: append. -/
theorem Mw.app {w0 w : World} {l : List Msg} {v : Value} {m : Msg} {b c' c : Nat} {a' : Option Addr} (h : Mw w0 w l v) (hm : Mb w b m a' c') (hM : Mine w w0.heap.size a' m.2.2.length c' m.2.2) (hn : l.length ≤ 2000) (ty : TypeId) :
    ∃ v' w', (Builtin.append_ #[25, 25] ty #[v, .slice (some ⟨b, 0, Option.none⟩) 1 c]).run Try.prog w = .ok v' w' ∧ Mw w0 w' (l ++ [m]) v' ∧ Kept w w' v.ownBlock ∧ NoB w 5 v.ownBlock ∧ NoB w 24 v.ownBlock := by
  refine h.join (k := [m]) (ys := (msC m a' c').toList) (fun j u hu => ?_) ⟨a', c', [], rfl, hM, rfl⟩ (by simp; omega) ty
  rw [Nat.zero_add]
  have hj : j < 3 := by have := (List.getElem?_eq_some_iff.1 hu).1; simpa using this
  rw [hm.cell hj]
  have : j = 0 ∨ j = 1 ∨ j = 2 := by omega
  rcases this with rfl | rfl | rfl
  · show some (Value.int .u8 (m.1 : Int)) = some u; rw [← hu]; rfl
  · show some (Value.int .u32 (m.2.1 : Int)) = some u; rw [← hu]; rfl
  · show some (Value.slice a' m.2.2.length c') = some u; rw [← hu]; rfl

/-- How Next's round stands: what was taken, the link's box, the answer's. -/
structure Nxi (w wr : World) (s : Lk) (l : List Msg) (v : Value) : Prop where
  mw : Mw w wr l v
  lb : Lb wr w.heap.size s
  rb : Lb wr (w.heap.size + 1) lk0
theorem Nxi.keptN {w wr w' : World} {s : Lk} {l : List Msg} {v : Value} (h : Nxi w wr s l v) (k : Kept wr w' none) : Nxi w w' s l v := ⟨h.mw.keptN k, row_kept h.lb k (by simp), row_kept h.rb k (by simp)⟩
theorem Nxi.app {w W : World} {s : Lk} {l : List Msg} {v : Value} {m : Msg} {b c' c : Nat} {a' : Option Addr} (h : Nxi w W s l v) (hm : Mb W b m a' c') (hM : Mine W w.heap.size a' m.2.2.length c' m.2.2) (hn : l.length ≤ 2000) (ty : TypeId) :
    ∃ v' w', (Builtin.append_ #[25, 25] ty #[v, .slice (some ⟨b, 0, none⟩) 1 c]).run Try.prog W = .ok v' w' ∧ Nxi w w' s (l ++ [m]) v' := by
  obtain ⟨v', w', h1, h2, h3, h4, h5⟩ := h.mw.app hm hM hn ty
  exact ⟨v', w', h1, h2, row_keptT h.lb h3 h5, row_keptT h.rb h3 h5⟩
theorem fLk_set (s t : Lk) (i : Nat) (hi : i < 3) : (if i = 2 then Value.int .i64 t.age else if i = 1 then .int .u32 (t.last : Int) else if i = 0 then .bool t.any else fLk s i) = fLk t i := by
  have : i = 0 ∨ i = 1 ∨ i = 2 := by omega
  rcases this with rfl | rfl | rfl <;> rfl
theorem Lb.set3 {w : World} {b : Nat} {s : Lk} (h : Lb w b s) (t : Lk) : Lb (((w.setCell ⟨b, 0, none⟩ (.bool t.any)).setCell ⟨b, 1, none⟩ (.int .u32 (t.last : Int))).setCell ⟨b, 2, none⟩ (.int .i64 t.age)) b t :=
  (((h.set 0 _).set 1 _).set 2 _).congr (fun i hi => fLk_set s t i hi)
theorem Nxi.set3 {w W : World} {s : Lk} {l : List Msg} {v : Value} (h : Nxi w W s l v) (t : Lk) : Nxi w (((W.setCell ⟨w.heap.size, 0, none⟩ (.bool t.any)).setCell ⟨w.heap.size, 1, none⟩ (.int .u32 (t.last : Int))).setCell ⟨w.heap.size, 2, none⟩ (.int .i64 t.age)) t l v := by
  have k0 : Kept W (W.setCell ⟨w.heap.size, 0, none⟩ (.bool t.any)) (some w.heap.size) := kept_setZ _ _ _ _
  have k1 : Kept (W.setCell ⟨w.heap.size, 0, none⟩ (.bool t.any)) ((W.setCell ⟨w.heap.size, 0, none⟩ (.bool t.any)).setCell ⟨w.heap.size, 1, none⟩ (.int .u32 (t.last : Int))) (some w.heap.size) := kept_setZ _ _ _ _
  have k2 : Kept ((W.setCell ⟨w.heap.size, 0, none⟩ (.bool t.any)).setCell ⟨w.heap.size, 1, none⟩ (.int .u32 (t.last : Int))) (((W.setCell ⟨w.heap.size, 0, none⟩ (.bool t.any)).setCell ⟨w.heap.size, 1, none⟩ (.int .u32 (t.last : Int))).setCell ⟨w.heap.size, 2, none⟩ (.int .i64 t.age)) (some w.heap.size) := kept_setZ _ _ _ _
  have k := (k0.tr k1).tr k2
  refine ⟨h.mw.kept' k (NoB.row h.lb (by decide)) (NoB.row h.lb (by decide)) (fun g e => by injection e with e; omega), h.lb.set3 t, row_kept h.rb k (by simp)⟩
theorem fLk_age (s t : Lk) (h1 : t.any = s.any) (h2 : t.last = s.last) (i : Nat) (hi : i < 3) : (if i = 2 then Value.int .i64 t.age else fLk s i) = fLk t i := by
  have : i = 0 ∨ i = 1 ∨ i = 2 := by omega
  rcases this with rfl | rfl | rfl
  · show Value.bool s.any = .bool t.any; rw [h1]
  · show Value.int .u32 (s.last : Int) = .int .u32 (t.last : Int); rw [h2]
  · rfl
/-- The age alone. -/
theorem Nxi.age {w W : World} {s t : Lk} {l : List Msg} {v : Value} (h : Nxi w W s l v) (h1 : t.any = s.any) (h2 : t.last = s.last) {x : Int} (h3 : t.age = x) : Nxi w (W.setCell ⟨w.heap.size, 2, none⟩ (.int .i64 x)) t l v := by
  subst h3
  have k : Kept W (W.setCell ⟨w.heap.size, 2, none⟩ (.int .i64 t.age)) (some w.heap.size) := kept_setZ _ _ _ _
  exact ⟨h.mw.kept' k (NoB.row h.lb (by decide)) (NoB.row h.lb (by decide)) (fun g e => by injection e with e; omega), (h.lb.set 2 _).congr (fun i hi => fLk_age s t h1 h2 i hi), row_kept h.rb k (by simp)⟩
/-- A store into the message's box. -/
theorem Nxi.setM {w W : World} {s : Lk} {l : List Msg} {v : Value} {m : Msg} {b c : Nat} {a : Option Addr} (h : Nxi w W s l v) (hm : Mb W b m a c) (hv : ∀ g, v.ownBlock = some g → g ≠ b) (hb : w.heap.size + 1 < b) (i : Nat) (u : Value) : Nxi w (W.setCell ⟨b, i, none⟩ u) s l v := by
  have k : Kept W (W.setCell ⟨b, i, none⟩ u) (some b) := kept_setZ _ _ _ _
  exact ⟨h.mw.setFar hv (NoB.row hm (by decide)) (by omega) i u, row_kept h.lb k (by simp; omega), row_kept h.rb k (by simp; omega)⟩
theorem Nxi.step {w W : World} {s : Lk} {l : List Msg} {v : Value} {m : Msg} {b c0 c' : Nat} {a0 a' : Option Addr} (h : Nxi w W s l v) (hm : Mb W b m a0 c0) (hv : ∀ g, v.ownBlock = some g → g ≠ b) (hb : w.heap.size + 1 < b) (hM : Mine W w.heap.size a' m.2.2.length c' m.2.2) (hn : l.length ≤ 2000) (ty : TypeId) :
    ∃ v' w', (Builtin.append_ #[25, 25] ty #[v, .slice (some ⟨W.heap.size, 0, none⟩) 1 1]).run Try.prog ((W.setCell ⟨b, 2, none⟩ (.slice a' m.2.2.length c')).alloc (.cells (msC m a' c') 47)) = .ok v' w' ∧ Nxi w w' s (l ++ [m]) v' := by
  have h1 := h.setM hm hv hb 2 (.slice a' m.2.2.length c')
  have h2 : Mine (W.setCell ⟨b, 2, none⟩ (.slice a' m.2.2.length c')) w.heap.size a' m.2.2.length c' m.2.2 := hM.keptT (kept_setZ _ _ _ _) (NoB.row hm (by decide))
  have hz : (W.setCell ⟨b, 2, none⟩ (.slice a' m.2.2.length c')).heap.size = W.heap.size := by simp [World.setCell]
  have hk := Kept.alloc (W.setCell ⟨b, 2, none⟩ (.slice a' m.2.2.length c')) (msC m a' c') 47 (0, 0) none
  have hb2 := mb_alloc (W.setCell ⟨b, 2, none⟩ (.slice a' m.2.2.length c')) m a' c'
  rw [hz] at hb2
  exact (h1.keptN hk).app hb2 (h2.keptT hk (NoB.none _ _)) hn ty

def NxP (w : World) (s : Lk) (l : List Msg) (e : Ending) (w' : World) : Prop := ∃ v, e = .returned (.tuple #[lkV (nxL s l), v, .int .i64 (nxE s l : Int)]) ∧ Mw w w' (nxT s l) v
theorem NxP.no {w w' : World} {s : Lk} {l : List Msg} {E : Nat} (hE : nxE s l = E) (h0 : 0 < E) (k : Kept w w' none) : NxP w s l (.returned (.tuple #[lkV lk0, .slice none 0 0, .int .i64 (E : Int)])) w' := by
  have hne : ¬ nxE s l = 0 := by omega
  refine ⟨.slice none 0 0, ?_, ?_⟩
  · unfold nxL; rw [if_neg hne, hE]
  · unfold nxT; rw [if_neg hne]; exact Mw.nil' k
theorem NxP.yes {w w' : World} {s : Lk} {l : List Msg} {v : Value} (hE : nxE s l = 0) (h : Mw w w' (ruK (ageK s) l).2 v) : NxP w s l (.returned (.tuple #[lkV (ruK (ageK s) l).1, v, .int .i64 0])) w' := by
  refine ⟨v, ?_, ?_⟩
  · unfold nxL; rw [if_pos hE, hE]; rfl
  · unfold nxT; rw [if_pos hE]; exact h
theorem nxE_no {s : Lk} {l : List Msg} (h : ¬ mayK s) : nxE s l = 8 := if_pos h
theorem nxE_ck {s : Lk} {l : List Msg} (h : mayK s) : nxE s l = ckE l := by unfold nxE ckE; rw [if_neg (fun q => q h)]
theorem lk_eta (s : Lk) : s = ⟨s.any, s.last, s.age⟩ := rfl
/-- What a walk asks of a link's box that is stored into. -/
structure Lc (w : World) (b : Nat) (s : Lk) : Prop where
  c0 : w.cell? ⟨b, 0, none⟩ = some (.bool s.any)
  c1 : w.cell? ⟨b, 1, none⟩ = some (.int .u32 (s.last : Int))
  c2 : w.cell? ⟨b, 2, none⟩ = some (.int .i64 s.age)
  f0 : w.frozen? ⟨b, 0, none⟩ = false
  f1 : w.frozen? ⟨b, 1, none⟩ = false
  f2 : w.frozen? ⟨b, 2, none⟩ = false
  lt : b < w.heap.size
theorem Lb.lc {w : World} {b : Nat} {s : Lk} (h : Lb w b s) : Lc w b s := ⟨h.c0, h.c1, h.c2, h.frozen 0, h.frozen 1, h.frozen 2, h.lt⟩
/-- The answer's box. -/
theorem Nxi.put3 {w W : World} {s : Lk} {l : List Msg} {v : Value} (h : Nxi w W s l v) (t : Lk) : Mw w (((W.setCell ⟨w.heap.size + 1, 0, none⟩ (.bool t.any)).setCell ⟨w.heap.size + 1, 1, none⟩ (.int .u32 (t.last : Int))).setCell ⟨w.heap.size + 1, 2, none⟩ (.int .i64 t.age)) l v := by
  have k0 : Kept W (W.setCell ⟨w.heap.size + 1, 0, none⟩ (.bool t.any)) (some (w.heap.size + 1)) := kept_setZ _ _ _ _
  have k1 : Kept (W.setCell ⟨w.heap.size + 1, 0, none⟩ (.bool t.any)) ((W.setCell ⟨w.heap.size + 1, 0, none⟩ (.bool t.any)).setCell ⟨w.heap.size + 1, 1, none⟩ (.int .u32 (t.last : Int))) (some (w.heap.size + 1)) := kept_setZ _ _ _ _
  have k2 : Kept ((W.setCell ⟨w.heap.size + 1, 0, none⟩ (.bool t.any)).setCell ⟨w.heap.size + 1, 1, none⟩ (.int .u32 (t.last : Int))) (((W.setCell ⟨w.heap.size + 1, 0, none⟩ (.bool t.any)).setCell ⟨w.heap.size + 1, 1, none⟩ (.int .u32 (t.last : Int))).setCell ⟨w.heap.size + 1, 2, none⟩ (.int .i64 t.age)) (some (w.heap.size + 1)) := kept_setZ _ _ _ _
  have k := (k0.tr k1).tr k2
  exact h.mw.kept' k (NoB.row h.rb (by decide)) (NoB.row h.rb (by decide)) (fun g e => by injection e with e; omega)
theorem nxi_start (w : World) (s : Lk) : Nxi w ((w.alloc (.cells #[.bool s.any, .int .u32 (s.last : Int), .int .i64 s.age] 24)).alloc (.cells #[.bool false, .int .u32 0, .int .i64 0] 24)) s [] (.slice none 0 0) := by
  refine ⟨Mw.nil' ((Kept.alloc _ _ _ _ _).tr (Kept.alloc _ _ _ _ _)), (lb_alloc w s).alloc _, ?_⟩
  have := lb_alloc (w.alloc (.cells #[.bool s.any, .int .u32 (s.last : Int), .int .i64 s.age] 24)) lk0
  rw [World.size_alloc] at this
  exact this
set_option maxRecDepth 100000 in
set_option maxHeartbeats 4000000 in
theorem lnext_bad {w : World} {la : Option Addr} {n c : Nat} {l : List Msg} (s : Lk) (hm : ¬ mayK s) : Calls Try.prog 9 #[lkV s, .slice la n c] w fun e w' => NxP w s l e w' := by
  have HE := Hid.mk' (nxE_no (l := l) hm)
  have HMY := Hid.mk' hm
  clear hm
  go_enter Try.func9, Try.ntmps9
  go_wp2_with (go_at_call 30; refine (lmay_is _ _ false (decide_eq_false HMY.out)).mono ?_; rintro e w1 ⟨rfl, hk1⟩; have hN := (nxi_start w s).keptN hk1; have HP := Hid.mk' (hN.put3 lk0).kept; obtain ⟨c0, c1, c2, f0, f1, f2, lt⟩ := Lb.lc hN.rb; clear hN hk1)
  refine bodyPost_ret (v := .tuple #[lkV lk0, .slice none 0 0, .int .i64 8]) (by simp [results, Try.results9, go_sem, *]; done) rfl ?_
  exact NxP.no (E := 8) HE.out (by decide) HP.out
set_option maxRecDepth 100000 in
set_option maxHeartbeats 4000000 in
theorem lnext_err {w : World} {la : Option Addr} {n c : Nat} {l : List Msg} (s : Lk) (h : Ms w la n l) (hm : mayK s) (E : Nat) (hE : ckE l = E) (h0 : 0 < E) (hE2 : E < 100) : Calls Try.prog 9 #[lkV s, .slice la n c] w fun e w' => NxP w s l e w' := by
  have HE := Hid.mk' (nxE_ck (l := l) hm)
  have HM := Hid.mk' h
  have HMY := Hid.mk' hm
  have HC := Hid.mk' hE
  have hne : ((E : Int) != 0) = true := by simp; omega
  clear h hm hE
  go_enter Try.func9, Try.ntmps9
  go_wp2_with (first
    | (have hgo := hk1; clear hgo; go_at_call 31; refine (lcheck_any (HM.out.kept (((Kept.alloc _ _ _ _ _).tr (Kept.alloc _ _ _ _ _)).tr hk1))).mono ?_; rintro e w2 ⟨rfl, hk2⟩; rw [HC.out]; have hN := ((nxi_start w s).keptN hk1).keptN hk2; have HP := Hid.mk' (hN.put3 lk0).kept; obtain ⟨c0, c1, c2, f0, f1, f2, lt⟩ := Lb.lc hN.rb; clear hN hk1)
    | (go_at_call 30; refine (lmay_is _ _ true (decide_eq_true HMY.out)).mono ?_; rintro e w1 ⟨rfl, hk1⟩))
  refine bodyPost_ret (v := .tuple #[lkV lk0, .slice none 0 0, .int .i64 (E : Int)]) (by simp [results, Try.results9, go_sem, *]; done) rfl ?_
  exact NxP.no (HE.out.trans HC.out) h0 HP.out
theorem ms_len {w : World} {la : Option Addr} {n : Nat} {l : List Msg} (h : Ms w la n l) : l.length = n := h.size
theorem long_at {l : List Msg} (h : longB l = false) {k : Nat} {m : Msg} (hm : l[k]? = some m) : m.2.2.length ≤ 512 := by
  by_cases q : m.2.2.length ≤ 512
  · exact q
  · rw [long_yes hm (by omega)] at h; cases h
theorem ckE_0 {l : List Msg} (h : ckE l = 0) : l.length ≤ 1024 ∧ longB l = false := by
  unfold ckE at h
  by_cases h2 : 1024 < l.length
  · rw [if_pos h2] at h; cases h
  · rw [if_neg h2] at h
    by_cases h3 : longB l = true
    · rw [if_pos h3] at h; cases h
    · exact ⟨by omega, by simpa using h3⟩
set_option maxRecDepth 100000 in
set_option maxHeartbeats 8000000 in
theorem lnext_ok {w : World} {la : Option Addr} {n c : Nat} {l : List Msg} (s : Lk) (h : Ms w la n l) (hm : mayK s) (hE : ckE l = 0) : Calls Try.prog 9 #[lkV s, .slice la n c] w fun e w' => NxP w s l e w' := by
  obtain ⟨hl1, hl2⟩ := ckE_0 hE
  have HE : Hid (nxE s l = 0) := Hid.mk' ((nxE_ck (l := l) hm).trans hE)
  have hn : n ≤ 1024 := by rw [← h.size]; exact hl1
  have HM := Hid.mk' h
  have HLG := Hid.mk' hl2
  have HMY := Hid.mk' hm
  have HC := Hid.mk' hE
  have ha0 : 0 ≤ s.age := hm.1.1
  have ha1 : s.age ≤ 1048576 := hm.1.2
  have hw1 : IntKind.i64.wrap (s.age + 1) = s.age + 1 := by simp [IntKind.wrap, IntKind.bits, IntKind.signed]; omega
  have HT : Hid (∀ k, k ≤ n → (ruK (ageK s) (l.take k)).2.length ≤ 2000) := Hid.mk' (fun k hk => by have := ru_len (ageK s) (l.take k); rw [List.length_take] at this; omega)
  clear h hm hE hl1 hl2
  go_enter Try.func9, Try.ntmps9
  go_wp2_with (first
    | (have hgo := hk1; clear hgo; go_at_call 31; refine (lcheck_any (HM.out.kept (((Kept.alloc _ _ _ _ _).tr (Kept.alloc _ _ _ _ _)).tr hk1))).mono ?_; rintro e w2 ⟨rfl, hk2⟩; rw [HC.out]; have hN := ((nxi_start w s).keptN hk1).keptN hk2; obtain ⟨c0, c1, c2, f0, f1, f2, lt⟩ := Lb.lc hN.lb; have HN := Hid.mk' hN; clear hN hk1 hk2)
    | (go_at_call 30; refine (lmay_is _ _ true (decide_eq_true HMY.out)).mono ?_; rintro e w1 ⟨rfl, hk1⟩))
  case' inr =>
    have HN2 : Hid (Nxi w (w2.setCell ⟨w.heap.size, 2, none⟩ (.int .i64 (s.age + 1))) (ageK s) [] (.slice none 0 0)) := Hid.mk' (HN.out.age (t := ageK s) rfl rfl (by unfold ageK; dsimp only; omega))
    clear HN c0 c1 c2 f0 f1 f2 lt
    generalize w2.setCell ⟨w.heap.size, 2, none⟩ (.int .i64 (s.age + 1)) = W2 at HN2 ⊢
  case' inl =>
    have HN2 : Hid (Nxi w (w2.setCell ⟨w.heap.size, 2, none⟩ (.int .i64 1048576)) (ageK s) [] (.slice none 0 0)) := Hid.mk' (HN.out.age (t := ageK s) rfl rfl (by unfold ageK; dsimp only; omega))
    clear HN c0 c1 c2 f0 f1 f2 lt
    generalize w2.setCell ⟨w.heap.size, 2, none⟩ (.int .i64 1048576) = W2 at HN2 ⊢
  all_goals
    go_loopw [8, 28] (fun v i wr => ∃ k : Nat, k ≤ n ∧ i = .int .i64 k ∧ Hid (Nxi w wr (ruK (ageK s) (l.take k)).1 (ruK (ageK s) (l.take k)).2 v)) (fun _ i _ => n - (intOf i).toNat)
    case atStart => exact ⟨0, Nat.zero_le _, rfl, HN2⟩
    case round =>
      obtain ⟨k, hk, rfl, HX⟩ := hrel
      by_cases hlt : k < n
      case neg =>
        have e : k = n := by omega
        subst e
        obtain ⟨c0, c1, c2, f0, f1, f2, lt⟩ := Lb.lc HX.out.lb
        obtain ⟨d0, d1, d2, g0, g1, g2, lt2⟩ := Lb.lc HX.out.rb
        have hR : ruK (ageK s) (l.take k) = ruK (ageK s) l := ru_all _ (by rw [HM.out.size]; exact Nat.le_refl _)
        have HP := Hid.mk' (HX.out.put3 (ruK (ageK s) (l.take k)).1)
        rw [hR] at HP
        rw [hR] at c0 c1 c2
        clear hR
        go_wp2
        refine bodyPost_ret (v := .tuple #[lkV (ruK (ageK s) l).1, u8, .int .i64 0]) (by simp [results, Try.results9, go_sem, *]; done) rfl ?_
        exact NxP.yes HE.out HP.out
      case pos =>
        obtain ⟨b, off, m, a, cc, rfl, hb, hm, p1', p2', p3', p4⟩ := HM.out.at_is hlt
        have p1 := (cell_kl HX.out.mw.kept hb).trans p1'
        have p2 := (cell_kl HX.out.mw.kept hb).trans p2'
        have p3 := (cell_kl HX.out.mw.kept hb).trans p3'
        have HP4 := Hid.mk' p4
        have hml := long_at HLG.out hm
        have hvl := Hid.mk' HX.out.mw.lt
        have HTk := HT.out k hk
        have hst := ru_step (ageK s) hm
        have hBz := HX.out.rb.lt
        generalize ruK (ageK s) (l.take k) = P at *
        clear p1' p2' p3' p4
        obtain ⟨⟨any, last, age⟩, T⟩ := P
        dsimp only at HX HTk
        obtain ⟨c0, c1, c2, f0, f1, f2, lt⟩ := Lb.lc HX.out.lb
        dsimp only at c0 c1 c2
        have hS3 := HX.out.set3 ⟨true, m.2.1, 0⟩
        have hz0 : (((wr.setCell ⟨w.heap.size, 0, none⟩ (.bool true)).setCell ⟨w.heap.size, 1, none⟩ (.int .u32 (m.2.1 : Int))).setCell ⟨w.heap.size, 2, none⟩ (.int .i64 0)).heap.size = wr.heap.size := by simp [World.setCell]
        have hMb0 := mb_alloc (((wr.setCell ⟨w.heap.size, 0, none⟩ (.bool true)).setCell ⟨w.heap.size, 1, none⟩ (.int .u32 (m.2.1 : Int))).setCell ⟨w.heap.size, 2, none⟩ (.int .i64 0)) m a cc
        rw [hz0] at hMb0
        have HMb := Hid.mk' hMb0
        have hA := hS3.keptN (Kept.alloc _ (msC m a cc) 47 (0, 0) none)
        clear hS3 hMb0 hz0
        have HA := Hid.mk' hA
        clear hA
        cases any with
        | true =>
          by_cases hq : m.2.1 ≤ last
          · rw [stK_old ⟨rfl, hq⟩] at hst
            have HST := Hid.mk' hst
            clear hst
            clear hm
            go_wp2
            go_roundw
            case rel => exact ⟨k + 1, by omega, by go_num, by rw [HST.out]; exact Hid.mk' (HX.out.keptN (Kept.alloc _ _ _ _ _))⟩
            case measure => simp [intOf]; omega
          · rw [stK_new (fun q => hq q.2)] at hst
            have HST := Hid.mk' hst
            clear hst
            clear hm
            go_wp2_with (first
              | (have hgo := HR2; clear hgo; at_builtin; refine wpList_app (by rfl) _ _ _ (by rfl) (by rfl) (by rfl) HR2.out ?_; have hdone := trivial)
              | (go_at_call 32; refine (lclone_any (HP4.out.keptL HA.out.mw.kept) (by omega)).mono ?_; rintro e W3 ⟨a', c', rfl, hM3, hk3⟩; have hMb := row_kept HMb.out hk3 (by simp); have q0 := Mb.c0 hMb; have q1 := Mb.c1 hMb; have q2 := Mb.c2 hMb; have qf := World.rowIs.frozen hMb 2; obtain ⟨v', W5, hrun2, hX5⟩ := (HA.out.keptN hk3).step hMb (fun g hg => by have := (hvl.out g hg).2; omega) (by omega) (hM3.base HA.out.mw.kept.size) HTk 25; have HR2 := Hid.mk' hrun2; have HX5 := Hid.mk' hX5; have hz3 := World.rowIs.lt hMb; clear hMb hrun2 hX5 hM3 hk3))
            go_roundw
            case rel => exact ⟨k + 1, by omega, by go_num, by rw [HST.out]; exact HX5⟩
            case measure => simp [intOf]; omega
        | false =>
          rw [stK_new (fun q => by have := q.1; cases this)] at hst
          have HST := Hid.mk' hst
          clear hst
          clear hm
          go_wp2_with (first
            | (have hgo := HR2; clear hgo; at_builtin; refine wpList_app (by rfl) _ _ _ (by rfl) (by rfl) (by rfl) HR2.out ?_; have hdone := trivial)
            | (go_at_call 32; refine (lclone_any (HP4.out.keptL HA.out.mw.kept) (by omega)).mono ?_; rintro e W3 ⟨a', c', rfl, hM3, hk3⟩; have hMb := row_kept HMb.out hk3 (by simp); have q0 := Mb.c0 hMb; have q1 := Mb.c1 hMb; have q2 := Mb.c2 hMb; have qf := World.rowIs.frozen hMb 2; obtain ⟨v', W5, hrun2, hX5⟩ := (HA.out.keptN hk3).step hMb (fun g hg => by have := (hvl.out g hg).2; omega) (by omega) (hM3.base HA.out.mw.kept.size) HTk 25; have HR2 := Hid.mk' hrun2; have HX5 := Hid.mk' hX5; have hz3 := World.rowIs.lt hMb; clear hMb hrun2 hX5 hM3 hk3))
          go_roundw
          case rel => exact ⟨k + 1, by omega, by go_num, by rw [HST.out]; exact HX5⟩
          case measure => simp [intOf]; omega

end Go.Proofs.Ytnmfigcemknjbaa
