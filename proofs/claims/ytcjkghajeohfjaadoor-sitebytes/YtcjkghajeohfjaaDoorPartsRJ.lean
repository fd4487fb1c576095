/-
  Texts joined: some of those that the proofs of this seat stand on.
-/
import Derived.Test.YtcjkghajeohfjaaDoorSiteR0J
import Derived.Test.YtcjkghajeohfjaaDoorWholeJ
import Derived.Test.YtcjkghajeohfjaaDoorSiteBJ
/-
  THE CONTRACTS of bytes.Equal and Parts.
-/
namespace Go.Proofs.YtcjkghajeohfjaaDoor
open Go.RowKit Go.Lib Go.Deep
set_option linter.unusedVariables false
set_option linter.unusedSimpArgs false

theorem textOf_inj {L M : List Nat} (hL : ∀ x ∈ L, x < 256) (hM : ∀ x ∈ M, x < 256) (h : textOf L = textOf M) : L = M := by
  unfold textOf at h
  have h1 : L.map UInt8.ofNat = M.map UInt8.ofNat := by injection h with h; simpa using h
  have h2 : ∀ N : List Nat, (∀ x ∈ N, x < 256) → (N.map UInt8.ofNat).map UInt8.toNat = N := by
    intro N hN
    rw [List.map_map]
    conv => rhs; rw [← List.map_id N]
    apply List.map_congr_left
    intro x hx
    have := hN x hx
    simp; omega
  rw [← h2 L hL, ← h2 M hM, h1]
theorem textOf_eq {L M : List Nat} (hL : ∀ x ∈ L, x < 256) (hM : ∀ x ∈ M, x < 256) : ((textOf L).toList == (textOf M).toList) = decide (L = M) := by
  rw [ByteArray.toList_eq, ByteArray.toList_eq]
  by_cases e : L = M
  · subst e; simp
  · have : ¬ (textOf L).data.toList = (textOf M).data.toList := fun e2 => e (textOf_inj hL hM (by
      have : (textOf L).data = (textOf M).data := Array.toList_inj.1 e2
      show ByteArray.mk (textOf L).data = ByteArray.mk (textOf M).data
      rw [this]))
    rw [decide_eq_false e]
    exact beq_eq_false_iff_ne.2 this
theorem equal_any {w : World} {a a' : Option Addr} {n n' c c' : Nat} {L M : List Nat} (hL : By w a n L) (hM : By w a' n' M) : Calls Tryd.prog 45 #[.slice a n c, .slice a' n' c'] w fun e w' => e = .returned (.bool (decide (L = M))) ∧ w' = w := by
  have t1 := run_text hL c
  have t2 := run_text hM c'
  have HE := Hid.mk' (textOf_eq hL.lt hM.lt)
  generalize hd : decide (L = M) = d at *
  clear hd hL hM
  go_enter Tryd.func45, Tryd.ntmps45
  go_wp2
  go_ret
  exact ⟨by rw [← HE.out]; simp, rfl⟩
theorem readerOf_any {w : World} {a : Option Addr} {n c : Nat} : Calls Tryd.prog 24 #[.slice a n c] w fun e w' => e = .returned (.agg #[.slice a n c, .bool false]) ∧ Kept w w' none := by
  go_enter Tryd.func24, Tryd.ntmps24
  go_wp2
  refine bodyPost_ret (v := .agg #[.slice a n c, .bool false]) (by simp [results, Tryd.results24, go_sem]) rfl ⟨rfl, ?_⟩
  exact Kept.alloc _ _ _ (0, 0) _
/-- A reader that has just been made. -/
theorem rdr_new {w : World} {a : Option Addr} {n c : Nat} {L : List Nat} (h : Come w a n c L) (t : TypeId) (v : Value) : Rdr (w.alloc (.cells #[.slice a n c, .bool false, v] t)) (w.heap.size + 1) w.heap.size (L, false) := by
  refine ⟨⟨a, n, c, by go_simp, h.keptR (Kept.alloc _ _ _ (0, 0) none) (fun _ _ _ => by simp), fun hp x hx => ?_⟩, by go_simp, by go_simp, by go_simp, ⟨v, by go_simp⟩, by go_simp, by omega⟩
  obtain ⟨b, off, e, hb, _⟩ := h.by_.at_ hp
  rw [hx] at e
  injection e with e
  subst e
  dsimp only
  omega
theorem kept_own {w W w' : World} (h : Kept w W none) (k : Kept W w' (some w.heap.size)) : Kept w w' none :=
  ⟨k.os.trans h.os, k.tape.trans h.tape, k.output.trans h.output, Nat.le_trans h.size k.size, fun i hi _ => (k.block i (Nat.lt_of_lt_of_le hi h.size) (fun e => by have := Option.some.inj e; omega)).trans (h.block i hi (by simp))⟩
def partsB (L : List Nat) : Bool := doneB (plansM (L, false)).2 && allB (plansM (L, false)).1.length (fun k => mayB ((plansM (L, false)).1.getD k q0))
set_option maxRecDepth 100000 in
set_option maxHeartbeats 1000000 in
theorem parts_any {w : World} {a : Option Addr} {n c : Nat} {L : List Nat} (h : Come w a n c L) : Calls Tryd.prog 13 #[.slice a n c] w fun e w' => Kept w w' none ∧ ((partsB L = true ∧ ∃ g, e = .returned (.tuple #[.slice (some ⟨g, 0, none⟩) (plansM (L, false)).1.length (plansM (L, false)).1.length, .int .i64 0]) ∧ Plans w' (some ⟨g, 0, none⟩) (plansM (L, false)).1.length (plansM (L, false)).1.length (plansM (L, false)).1) ∨ (partsB L = false ∧ e = .returned (.tuple #[.slice none 0 0, .int .i64 8]))) := by
  have hcall := fun (v : World) (hv : Kept w v none) => readPlans_any (rdr_new (h.keptR hv (fun _ _ _ => by simp)) 65 (.slice none 0 0)) (by simp)
  have HB : Hid (partsB L = (doneB (plansM (L, false)).2 && allB (plansM (L, false)).1.length (fun k => mayB ((plansM (L, false)).1.getD k q0)))) := rfl
  have hR := plansM_r (L, false)
  rw [HB.out]
  clear HB
  generalize plansM (L, false) = u at *
  obtain ⟨l, s'⟩ := u
  dsimp only at *
  have HC := Hid.mk' hcall
  have HR := Hid.mk' hR
  clear hcall hR h
  generalize hm : allB l.length (fun k => mayB (l.getD k q0)) = m
  have HM := Hid.mk' hm
  clear hm
  generalize hd : doneB s' = d
  have HD := Hid.mk' hd
  clear hd
  cases d <;> cases m <;>
    go_enter Tryd.func13, Tryd.ntmps13 <;>
    go_wp2_with (first
      | (have hgo := P2; clear hgo; go_at_call 28; have hn := allMay_any P2.out; rw [HM.out] at hn; refine hn.mono ?_; rintro e w3 ⟨rfl, hk3⟩; have P3 := Hid.mk' (P2.out.kept hk3); have c3 := cell_kept0 c2 hk3)
      | (have hgo := R1; clear hgo; go_at_call 26; have hn := done_any R1.out; rw [HD.out] at hn; refine hn.mono ?_; rintro e w2 ⟨rfl, rfl⟩)
      | (go_at_call 32; refine (HC.out _ hk0).mono ?_; rintro e w1 ⟨rfl, g, c2, hl1, hr1, hk1⟩; have R1 := Hid.mk' hr1; have P2 := Hid.mk' (hl1.plans rfl (by have := HR.out.1; omega) HR.out.2); have K1 := Hid.mk' (hk0.tr (kept_own (Kept.alloc w0 #[.slice a n c, .bool false, .slice none 0 0] 65 (0, 0) none) hk1)); clear hr1 hl1 hk1)
      | (go_at_call 24; refine readerOf_any.mono ?_; rintro e w0 ⟨rfl, hk0⟩))
  all_goals go_ret2
  · exact ⟨K1.out, .inr ⟨rfl, rfl⟩⟩
  · exact ⟨K1.out, .inr ⟨rfl, rfl⟩⟩
  · exact ⟨K1.out.tr hk3, .inr ⟨rfl, rfl⟩⟩
  · exact ⟨K1.out.tr hk3, .inl ⟨rfl, g, rfl, P3.out⟩⟩

end Go.Proofs.YtcjkghajeohfjaaDoor

/-
  THE CONTRACT of Read.
-/
namespace Go.Proofs.YtcjkghajeohfjaaDoor
open Go.RowKit Go.Lib Go.Deep
set_option linter.unusedVariables false
set_option linter.unusedSimpArgs false

def X0 : Sa := ⟨none, 0, none, 0, none, 0, none, 0, none, 0, none, 0⟩
def S0 : St := ⟨0, [], [], [], [], [], 0, 0, 0, 0, 0, []⟩
/-- The site that the bytes ahead of the sum tell. -/
def readS (L : List Nat) : St := (siteM (L.take (L.length - 4), false)).1
def sumOk (L : List Nat) : Bool := decide (L.drop (L.length - 4) = sum4 (L.take (L.length - 4)))
def toldOk (L : List Nat) : Bool := doneB (siteM (L.take (L.length - 4), false)).2
def readB (L : List Nat) : Bool := decide (4 ≤ L.length) && (sumOk L && (toldOk L && siteB (readS L)))
theorem zrow (w : World) : (w.alloc (.cells zS 29)).rowIs w.heap.size 29 12 (fS zS) := World.rowIs_alloc w zS 29 (fS zS) (fun i hi => by unfold fS; rw [Array.getElem?_eq_getElem hi]; rfl)
theorem zcells {wx : World} {B : Nat} (h : wx.rowIs B 29 12 (fS zS)) : wx.cell? ⟨B, 0, none⟩ = some (.int .i64 0) ∧ wx.cell? ⟨B, 1, none⟩ = some (.slice none 0 0) ∧ wx.cell? ⟨B, 2, none⟩ = some (.slice none 0 0) ∧ wx.cell? ⟨B, 3, none⟩ = some (.slice none 0 0) ∧ wx.cell? ⟨B, 4, none⟩ = some (.slice none 0 0) ∧ wx.cell? ⟨B, 5, none⟩ = some (.slice none 0 0) ∧ wx.cell? ⟨B, 6, none⟩ = some (.int .i64 0) ∧ wx.cell? ⟨B, 7, none⟩ = some (.int .i64 0) ∧ wx.cell? ⟨B, 8, none⟩ = some (.int .i64 0) ∧ wx.cell? ⟨B, 9, none⟩ = some (.int .i64 0) ∧ wx.cell? ⟨B, 10, none⟩ = some (.int .i64 0) ∧ wx.cell? ⟨B, 11, none⟩ = some (.slice none 0 0) ∧ wx.frozen? ⟨B, 0, none⟩ = false ∧ wx.frozen? ⟨B, 1, none⟩ = false ∧ wx.frozen? ⟨B, 2, none⟩ = false ∧ wx.frozen? ⟨B, 3, none⟩ = false ∧ wx.frozen? ⟨B, 4, none⟩ = false ∧ wx.frozen? ⟨B, 5, none⟩ = false ∧ wx.frozen? ⟨B, 6, none⟩ = false ∧ wx.frozen? ⟨B, 7, none⟩ = false ∧ wx.frozen? ⟨B, 8, none⟩ = false ∧ wx.frozen? ⟨B, 9, none⟩ = false ∧ wx.frozen? ⟨B, 10, none⟩ = false ∧ wx.frozen? ⟨B, 11, none⟩ = false :=
  ⟨h.cell (i := 0) (by omega), h.cell (i := 1) (by omega), h.cell (i := 2) (by omega), h.cell (i := 3) (by omega), h.cell (i := 4) (by omega), h.cell (i := 5) (by omega), h.cell (i := 6) (by omega), h.cell (i := 7) (by omega), h.cell (i := 8) (by omega), h.cell (i := 9) (by omega), h.cell (i := 10) (by omega), h.cell (i := 11) (by omega), h.frozen 0, h.frozen 1, h.frozen 2, h.frozen 3, h.frozen 4, h.frozen 5, h.frozen 6, h.frozen 7, h.frozen 8, h.frozen 9, h.frozen 10, h.frozen 11⟩
theorem wrapI (m : Nat) (h : m ≤ 9223372036854775807) : IntKind.i64.wrap (m : Int) = m := by
  simp [IntKind.wrap, IntKind.bits, IntKind.signed]; omega
def ReadP (w : World) (L : List Nat) (e : Ending) (w' : World) : Prop := Kept w w' none ∧ ((readB L = true ∧ ∃ X, e = .returned (.tuple #[siteV X (readS L), .int .i64 0]) ∧ ∀ w'', Ltr (w.heap.size + 1) w' w'' → Sat w'' X (readS L)) ∨ (readB L = false ∧ e = .returned (.tuple #[siteV X0 S0, .int .i64 8])))
theorem ahead_short {w : World} {a : Option Addr} {n c : Nat} (h4 : n < 4) : Calls Tryd.prog 23 #[.slice a n c] w fun e w' => e = .returned (.tuple #[.slice none 0 0, .bool false]) ∧ w' = w := by
  go_enter Tryd.func23, Tryd.ntmps23
  go_wp2
  go_ret2
  exact ⟨rfl, rfl⟩
set_option maxRecDepth 100000 in
set_option maxHeartbeats 2000000 in
theorem ahead_long {w : World} {blk off m c : Nat} {L : List Nat} (h : Come w (some ⟨blk, off, none⟩) (m + 4) c L) (hTb : Table w) : Calls Tryd.prog 23 #[.slice (some ⟨blk, off, none⟩) (m + 4 : Nat) c] w fun e w' => e = .returned (.tuple #[.slice (some ⟨blk, off, none⟩) m c, .bool (decide (L.drop m = sum4 (L.take m)))]) ∧ Kept w w' none := by
  have hroom := h.room
  have hmax := h.max
  have bt := h.by_.take m (by omega)
  have bs := h.by_.drop m (by omega)
  rw [Nat.add_sub_cancel_left] at bs
  have HT := Hid.mk' bt
  have HS := Hid.mk' bs
  have HTB := Hid.mk' hTb
  clear h bt bs hTb
  generalize L.take m = T at *
  generalize L.drop m = D at *
  generalize hd1 : decide (D = sum4 T) = d1 at *
  have HD1 := Hid.mk' hd1
  clear hd1
  have hcne : ¬ c = m := by omega
  have hwr : IntKind.i64.wrap (m : Int) = m := wrapI m (by omega)
  have hle0 : (0 : Int) ≤ (m : Int) := by omega
  have hlec : (m : Int) ≤ (c : Int) := by omega
  have hlec4 : (m : Int) ≤ (m : Int) + 4 := by omega
  have hcne2 : ¬ m = c := by omega
  have hclt : m < c := by omega
  go_enter Tryd.func23, Tryd.ntmps23
  go_wp2
  refine wp_region_held_drew (S := fun _ => True) (by kernel_rfl) trivial (fun _ => ?_)
  refine held_take (i := 0) (v := ?vp1x0) rfl rfl (by kernel_rfl) (by kernel_rfl) (by kernel_rfl) (fun _ _ _ h => h) (Or.inl ⟨by rfl, ?hyp1x0⟩) trivial ?restp1x0
  case hyp1x0 => first | (intro w hSw; go_simp; done) | (intro w hSw; go_simp; with_reducible rfl)
  try simp only [List.setIfInBounds_toArray, List.set_cons_zero, List.set_cons_succ]
  refine held_take (i := 1) (v := ?vp1x1) rfl rfl (by kernel_rfl) (by kernel_rfl) (by kernel_rfl) (fun _ _ _ h => h) (Or.inl ⟨by rfl, ?hyp1x1⟩) trivial ?restp1x1
  case hyp1x1 => first | (intro w hSw; go_simp; done) | (intro w hSw; go_simp; with_reducible rfl)
  try simp only [List.setIfInBounds_toArray, List.set_cons_zero, List.set_cons_succ]
  refine held_take (i := 2) (v := ?vp1x2) rfl rfl (by kernel_rfl) (by kernel_rfl) (by kernel_rfl) (fun _ _ _ h => h) (Or.inl ⟨by rfl, ?hyp1x2⟩) trivial ?restp1x2
  case hyp1x2 => first | (intro w hSw; go_simp; done) | (intro w hSw; go_simp; with_reducible rfl)
  try simp only [List.setIfInBounds_toArray, List.set_cons_zero, List.set_cons_succ]
  refine held_take (i := 3) (v := ?vp1x3) rfl rfl (by kernel_rfl) (by kernel_rfl) (by kernel_rfl) (fun _ _ _ h => h) (Or.inl ⟨by rfl, ?hyp1x3⟩) trivial ?restp1x3
  case hyp1x3 => first | (intro w hSw; go_simp; done) | (intro w hSw; go_simp; with_reducible rfl)
  try simp only [List.setIfInBounds_toArray, List.set_cons_zero, List.set_cons_succ]
  refine held_take (i := 4) (v := ?vp1x4) rfl rfl (by kernel_rfl) (by kernel_rfl) (by kernel_rfl) (fun _ _ _ h => h) (Or.inl ⟨by rfl, ?hyp1x4⟩) trivial ?restp1x4
  case hyp1x4 => first | (intro w hSw; go_simp; done) | (intro w hSw; go_simp; with_reducible rfl)
  try simp only [List.setIfInBounds_toArray, List.set_cons_zero, List.set_cons_succ]
  refine held_take (i := 5) (v := ?vp1x5) rfl rfl (by kernel_rfl) (by kernel_rfl) (by kernel_rfl) (fun _ _ _ h => h) (Or.inl ⟨by rfl, ?hyp1x5⟩) trivial ?restp1x5
  case hyp1x5 => first | (intro w hSw; go_simp; done) | (intro w hSw; go_simp; with_reducible rfl)
  try simp only [List.setIfInBounds_toArray, List.set_cons_zero, List.set_cons_succ]
  refine held_take (i := 6) (v := ?vp1x6) rfl rfl (by kernel_rfl) (by kernel_rfl) (by kernel_rfl) (fun _ _ _ h => h) (Or.inl ⟨by rfl, ?hyp1x6⟩) trivial ?restp1x6
  case hyp1x6 => first | (intro w hSw; go_simp; done) | (intro w hSw; go_simp; with_reducible rfl)
  try simp only [List.setIfInBounds_toArray, List.set_cons_zero, List.set_cons_succ]
  refine held_take (i := 7) (v := ?vp1x7) rfl rfl (by kernel_rfl) (by kernel_rfl) (by kernel_rfl) (fun _ _ _ h => h) (Or.inl ⟨by rfl, ?hyp1x7⟩) trivial ?restp1x7
  case hyp1x7 => first | (intro w hSw; go_simp; done) | (intro w hSw; go_simp; with_reducible rfl)
  try simp only [List.setIfInBounds_toArray, List.set_cons_zero, List.set_cons_succ]
  refine held_take (i := 8) (v := ?vp1x8) rfl rfl (by kernel_rfl) (by kernel_rfl) (by kernel_rfl) (fun _ _ _ h => h) (Or.inl ⟨by rfl, ?hyp1x8⟩) trivial ?restp1x8
  case hyp1x8 => first | (intro w hSw; go_simp; done) | (intro w hSw; go_simp; with_reducible rfl)
  try simp only [List.setIfInBounds_toArray, List.set_cons_zero, List.set_cons_succ]
  refine held_take (i := 9) (v := ?vp1x9) rfl rfl (by kernel_rfl) (by kernel_rfl) (by kernel_rfl) (fun _ _ _ h => h) (Or.inl ⟨by rfl, ?hyp1x9⟩) trivial ?restp1x9
  case hyp1x9 => first | (intro w hSw; go_simp; done) | (intro w hSw; go_simp; with_reducible rfl)
  try simp only [List.setIfInBounds_toArray, List.set_cons_zero, List.set_cons_succ]
  refine wpAnyH_ready (rs := [10]) (by kernel_rfl) (by simp) ?_
  refine AllReadyH.cons rfl (fun K hK => ?_) AllReadyH.nil
  go_simp
  refine hK.out _ _ trivial (fun _ => ?_)
  clear hK K
  refine wpAnyH_ready (rs := [11]) (by kernel_rfl) (by simp) ?_
  refine AllReadyH.cons rfl (fun K hK => ?_) AllReadyH.nil
  go_simp
  refine hK.out _ _ trivial (fun _ => ?_)
  clear hK K
  refine wpAnyH_done (by kernel_rfl) ?_ _
  have KZ : Hid (Kept w w.drew none) := Kept.drew _ _
  clear hwr hle0 hlec hlec4 hcne hcne2 hclt
  go_wp2_with (first
      | (have hgo := B2; clear hgo; go_at_call 45; have hn := equal_any (c := c - m) (c' := 4) B1.out B2.out; rw [HD1.out] at hn; refine hn.mono ?_; rintro e w2 ⟨rfl, hw2⟩; have hw2 := hw2.symm; subst hw2)
      | (go_at_call 37; refine (sumOf_any (By.kept HT.out KZ.out) (Table.kept HTB.out KZ.out)).mono ?_; rintro e w1 ⟨g1, rfl, hb2, hk1⟩; have B2 := Hid.mk' hb2; have B1 := Hid.mk' (By.kept HS.out (KZ.out.tr hk1)); have KK := Hid.mk' (KZ.out.tr hk1); clear hb2 hk1))
  go_ret2
  exact ⟨rfl, KK.out⟩
set_option maxRecDepth 100000 in
set_option maxHeartbeats 2000000 in
theorem rd_short {w : World} {a : Option Addr} {n c : Nat} {L : List Nat} (h : Come w a n c L) (h4 : n < 4) : Calls Tryd.prog 8 #[.slice a n c] w (ReadP w L) := by
  have hB : readB L = false := by unfold readB; rw [decide_eq_false (by have := h.by_.size; omega)]; rfl
  have hrow := zrow w
  have HB := Hid.mk' hB
  have HROW := Hid.mk' hrow
  clear h hB hrow
  go_enter Tryd.func8, Tryd.ntmps8
  go_wp2_with (go_at_call 23; refine (ahead_short h4).mono ?_; rintro e w1 ⟨rfl, hw1⟩; subst hw1)
  refine bodyPost_ret (v := .tuple #[siteV X0 S0, .int .i64 8]) (by simp [results, Tryd.results8, go_sem, X0, S0]) rfl ?_
  exact ⟨Kept.alloc _ _ _ (0, 0) _, .inr ⟨HB.out, rfl⟩⟩
set_option maxRecDepth 100000 in
set_option maxHeartbeats 4000000 in
theorem rd_long {w : World} {a : Option Addr} {m c : Nat} {L : List Nat} (h : Come w a (m + 4) c L) (hT : Tabb w) (hTb : Table w) : Calls Tryd.prog 8 #[.slice a (m + 4 : Nat) c] w (ReadP w L) := by
  obtain ⟨blk, off, rfl, hblk, _⟩ := h.by_.at_ (by omega)
  have hL := h.by_.size
  have hE4 : L.length - 4 = m := by omega
  have hroom := h.room
  have hmax := h.max
  have bt := h.by_.take m (by omega)
  have hAH := fun (v : World) (hv : Kept w v none) => ahead_long (h.keptR hv (fun _ _ _ => by simp)) (hTb.kept hv)
  have HCT : Hid (Come w (some ⟨blk, off, none⟩) m c (L.take m)) := ⟨bt, fun e => (nomatch e), by omega, hmax⟩
  have hB : readB L = (decide (L.drop m = sum4 (L.take m)) && (doneB (siteM (L.take m, false)).2 && siteB (siteM (L.take m, false)).1)) := by
    unfold readB sumOk toldOk readS
    rw [hE4, decide_eq_true (show 4 ≤ L.length by omega)]
    rfl
  have hS : readS L = (siteM (L.take m, false)).1 := by unfold readS; rw [hE4]
  have hrow := zrow w
  have HROW := Hid.mk' hrow
  have HTA := Hid.mk' hT
  unfold ReadP
  rw [hB, hS]
  clear h hL hE4 bt hB hS hrow hTb hT
  generalize L.take m = T at *
  generalize L.drop m = D at *
  have hsite := fun (v : World) (hv : Come v (some ⟨blk, off, none⟩) m c T) => site_rd (rdr_new hv 65 (.slice none 0 0)) (by simp)
  generalize siteM (T, false) = u at *
  obtain ⟨S, s'⟩ := u
  dsimp only at *
  have HSITE := Hid.mk' hsite
  clear hsite
  generalize hd1 : decide (D = sum4 T) = d1 at *
  clear hd1
  have HAH := Hid.mk' hAH
  clear hAH
  generalize hd2 : doneB s' = d2 at *
  have HD2 := Hid.mk' hd2
  clear hd2
  have HCE : Hid (checkE S = if siteB S = true then 0 else 50) := rfl
  generalize hd3 : siteB S = d3 at *
  clear hd3
  have KZ : Hid (Kept w (w.alloc (.cells zS 29)) none) := Kept.alloc w _ _ (0, 0) _
  cases d1
  · go_enter Tryd.func8, Tryd.ntmps8
    go_wp2_with (first
      | (have hgo := SB; clear hgo; go_at_call 17; have hn := check_any SB.out.sat TA4.out; rw [HCE.out] at hn; refine hn.mono ?_; rintro e w5 ⟨rfl, hk5⟩; have SB5 := Hid.mk' (SB.out.kept hk5); have KK := Hid.mk' (KK.out.tr hk5); have R := Hid.mk' (row_kept R.out hk5 (by simp)); clear r0 r1 r2 r3 r4 r5 r6 r7 r8 r9 r10 r11 y0 y1 y2 y3 y4 y5 y6 y7 y8 y9 y10 y11; obtain ⟨r0, r1, r2, r3, r4, r5, r6, r7, r8, r9, r10, r11, y0, y1, y2, y3, y4, y5, y6, y7, y8, y9, y10, y11⟩ := zcells R.out; have HS5 := Hid.mk' (fun w'' (q : Ltr (w.heap.size + 1) w5 w'') => HS4.out w'' ((Ltr.of_none hk5).tr q)); have b0 := SB5.out.c0; have b1 := SB5.out.c1; have b2 := SB5.out.c2; have b3 := SB5.out.c3; have b4 := SB5.out.c4; have b5 := SB5.out.c5; have b6 := SB5.out.c6; have b7 := SB5.out.c7; have b8 := SB5.out.c8; have b9 := SB5.out.c9; have b10 := SB5.out.c10; have b11 := SB5.out.c11)
      | (have hgo := R3; clear hgo; go_at_call 26; have hn := done_any (R3.out.alloc #[.int .i64 S.id, .slice X.g S.groups.length X.gc, .slice X.a S.apart.length X.ac, .slice X.b S.between.length X.bc, .slice X.p S.phases.length X.pc, .slice X.e S.eyes.length X.ec, .int .i64 S.watch, .int .i64 S.feed, .int .i64 S.heal, .int .i64 S.low, .int .i64 S.high, .slice X.l S.plans.length X.lc] 29); rw [HD2.out] at hn; refine hn.mono ?_; rintro e w4 ⟨rfl, rfl⟩; have KK := Hid.mk' (KK.out.tr (Kept.alloc _ #[.int .i64 S.id, .slice X.g S.groups.length X.gc, .slice X.a S.apart.length X.ac, .slice X.b S.between.length X.bc, .slice X.p S.phases.length X.pc, .slice X.e S.eyes.length X.ec, .int .i64 S.watch, .int .i64 S.feed, .int .i64 S.heal, .int .i64 S.low, .int .i64 S.high, .slice X.l S.plans.length X.lc] 29 (0, 0) none)); have R := Hid.mk' (World.rowIs.alloc R.out (.cells #[.int .i64 S.id, .slice X.g S.groups.length X.gc, .slice X.a S.apart.length X.ac, .slice X.b S.between.length X.bc, .slice X.p S.phases.length X.pc, .slice X.e S.eyes.length X.ec, .int .i64 S.watch, .int .i64 S.feed, .int .i64 S.heal, .int .i64 S.low, .int .i64 S.high, .slice X.l S.plans.length X.lc] 29)); obtain ⟨r0, r1, r2, r3, r4, r5, r6, r7, r8, r9, r10, r11, y0, y1, y2, y3, y4, y5, y6, y7, y8, y9, y10, y11⟩ := zcells R.out; have SB := Hid.mk' (sbox_alloc (HS3.out _ Ltr.rfl') 29); have TA4 := Hid.mk' (HTA.out.kept KK.out); have HS4 := Hid.mk' (fun w'' (q : Ltr (w.heap.size + 1) (w3.alloc (.cells #[.int .i64 S.id, .slice X.g S.groups.length X.gc, .slice X.a S.apart.length X.ac, .slice X.b S.between.length X.bc, .slice X.p S.phases.length X.pc, .slice X.e S.eyes.length X.ec, .int .i64 S.watch, .int .i64 S.feed, .int .i64 S.heal, .int .i64 S.low, .int .i64 S.high, .slice X.l S.plans.length X.lc] 29)) w'') => HS3.out w'' ((Ltr.of_none (Kept.alloc _ _ _ (0, 0) _)).tr q)))
      | (have hgo := SM; clear hgo; go_at_call 25; refine (HSITE.out w2 SM.out).mono ?_; rintro e w3 ⟨X, rfl, hs3, hr3, hk3⟩; have KK := Hid.mk' (KK.out.tr (kept_own (Kept.alloc w2 #[.slice (some ⟨blk, off, none⟩) m c, .bool false, .slice none 0 0] 65 (0, 0) none) hk3)); have R := Hid.mk' (row_kept (World.rowIs.alloc R.out (.cells #[.slice (some ⟨blk, off, none⟩) m c, .bool false, .slice none 0 0] 65)) hk3 (fun e => by have := Option.some.inj e; have := NE.out; omega)); have R3 := Hid.mk' hr3; have HS3 := Hid.mk' (fun w'' (q : Ltr (w.heap.size + 1) w3 w'') => hs3 w'' (q.up (by have := NE.out; simp; omega))); clear hr3 hs3 hk3)
      | (have hgo := R; clear hgo; go_at_call 24; refine readerOf_any.mono ?_; rintro e w2 ⟨rfl, hk2⟩; have KK := Hid.mk' (KK.out.tr hk2); have R := Hid.mk' (row_kept R.out hk2 (by simp)); have NE := Hid.mk' R.out.lt; have SM := Hid.mk' (HCT.out.keptR KK.out (fun _ _ _ => by simp)); clear r0 r1 r2 r3 r4 r5 r6 r7 r8 r9 r10 r11 y0 y1 y2 y3 y4 y5 y6 y7 y8 y9 y10 y11)
      | (go_at_call 23; refine (HAH.out _ KZ.out).mono ?_; rintro e w1 ⟨rfl, hk1⟩; have KK := Hid.mk' (KZ.out.tr hk1); have R := Hid.mk' (row_kept HROW.out hk1 (by simp)); obtain ⟨r0, r1, r2, r3, r4, r5, r6, r7, r8, r9, r10, r11, y0, y1, y2, y3, y4, y5, y6, y7, y8, y9, y10, y11⟩ := zcells R.out))
    obtain ⟨hkW, hlW, q0, q1, q2, q3, q4, q5, q6, q7, q8, q9, q10, q11⟩ := row12 (lo := w.heap.size + 1) R.out KK.out (Nat.le_refl _) (Nat.lt_succ_self _) (.int .i64 0) (.slice none 0 0) (.slice none 0 0) (.slice none 0 0) (.slice none 0 0) (.slice none 0 0) (.int .i64 0) (.int .i64 0) (.int .i64 0) (.int .i64 0) (.int .i64 0) (.slice none 0 0)
    clear r0 r1 r2 r3 r4 r5 r6 r7 r8 r9 r10 r11 y0 y1 y2 y3 y4 y5 y6 y7 y8 y9 y10 y11
    generalize ((((((((((((w1.setCell ⟨w.heap.size, 0, none⟩ (.int .i64 0)).setCell ⟨w.heap.size, 1, none⟩ (.slice none 0 0)).setCell ⟨w.heap.size, 2, none⟩ (.slice none 0 0)).setCell ⟨w.heap.size, 3, none⟩ (.slice none 0 0)).setCell ⟨w.heap.size, 4, none⟩ (.slice none 0 0)).setCell ⟨w.heap.size, 5, none⟩ (.slice none 0 0)).setCell ⟨w.heap.size, 6, none⟩ (.int .i64 0)).setCell ⟨w.heap.size, 7, none⟩ (.int .i64 0)).setCell ⟨w.heap.size, 8, none⟩ (.int .i64 0)).setCell ⟨w.heap.size, 9, none⟩ (.int .i64 0)).setCell ⟨w.heap.size, 10, none⟩ (.int .i64 0)).setCell ⟨w.heap.size, 11, none⟩ (.slice none 0 0)) = W at *
    refine bodyPost_ret (v := .tuple #[siteV X0 S0, .int .i64 8]) (by simp [results, Tryd.results8, go_sem, X0, S0, q0, q1, q2, q3, q4, q5, q6, q7, q8, q9, q10, q11]) rfl ?_
    exact ⟨hkW, .inr ⟨by simp, rfl⟩⟩
  cases d2
  · go_enter Tryd.func8, Tryd.ntmps8
    go_wp2_with (first
      | (have hgo := SB; clear hgo; go_at_call 17; have hn := check_any SB.out.sat TA4.out; rw [HCE.out] at hn; refine hn.mono ?_; rintro e w5 ⟨rfl, hk5⟩; have SB5 := Hid.mk' (SB.out.kept hk5); have KK := Hid.mk' (KK.out.tr hk5); have R := Hid.mk' (row_kept R.out hk5 (by simp)); clear r0 r1 r2 r3 r4 r5 r6 r7 r8 r9 r10 r11 y0 y1 y2 y3 y4 y5 y6 y7 y8 y9 y10 y11; obtain ⟨r0, r1, r2, r3, r4, r5, r6, r7, r8, r9, r10, r11, y0, y1, y2, y3, y4, y5, y6, y7, y8, y9, y10, y11⟩ := zcells R.out; have HS5 := Hid.mk' (fun w'' (q : Ltr (w.heap.size + 1) w5 w'') => HS4.out w'' ((Ltr.of_none hk5).tr q)); have b0 := SB5.out.c0; have b1 := SB5.out.c1; have b2 := SB5.out.c2; have b3 := SB5.out.c3; have b4 := SB5.out.c4; have b5 := SB5.out.c5; have b6 := SB5.out.c6; have b7 := SB5.out.c7; have b8 := SB5.out.c8; have b9 := SB5.out.c9; have b10 := SB5.out.c10; have b11 := SB5.out.c11)
      | (have hgo := R3; clear hgo; go_at_call 26; have hn := done_any (R3.out.alloc #[.int .i64 S.id, .slice X.g S.groups.length X.gc, .slice X.a S.apart.length X.ac, .slice X.b S.between.length X.bc, .slice X.p S.phases.length X.pc, .slice X.e S.eyes.length X.ec, .int .i64 S.watch, .int .i64 S.feed, .int .i64 S.heal, .int .i64 S.low, .int .i64 S.high, .slice X.l S.plans.length X.lc] 29); rw [HD2.out] at hn; refine hn.mono ?_; rintro e w4 ⟨rfl, rfl⟩; have KK := Hid.mk' (KK.out.tr (Kept.alloc _ #[.int .i64 S.id, .slice X.g S.groups.length X.gc, .slice X.a S.apart.length X.ac, .slice X.b S.between.length X.bc, .slice X.p S.phases.length X.pc, .slice X.e S.eyes.length X.ec, .int .i64 S.watch, .int .i64 S.feed, .int .i64 S.heal, .int .i64 S.low, .int .i64 S.high, .slice X.l S.plans.length X.lc] 29 (0, 0) none)); have R := Hid.mk' (World.rowIs.alloc R.out (.cells #[.int .i64 S.id, .slice X.g S.groups.length X.gc, .slice X.a S.apart.length X.ac, .slice X.b S.between.length X.bc, .slice X.p S.phases.length X.pc, .slice X.e S.eyes.length X.ec, .int .i64 S.watch, .int .i64 S.feed, .int .i64 S.heal, .int .i64 S.low, .int .i64 S.high, .slice X.l S.plans.length X.lc] 29)); obtain ⟨r0, r1, r2, r3, r4, r5, r6, r7, r8, r9, r10, r11, y0, y1, y2, y3, y4, y5, y6, y7, y8, y9, y10, y11⟩ := zcells R.out; have SB := Hid.mk' (sbox_alloc (HS3.out _ Ltr.rfl') 29); have TA4 := Hid.mk' (HTA.out.kept KK.out); have HS4 := Hid.mk' (fun w'' (q : Ltr (w.heap.size + 1) (w3.alloc (.cells #[.int .i64 S.id, .slice X.g S.groups.length X.gc, .slice X.a S.apart.length X.ac, .slice X.b S.between.length X.bc, .slice X.p S.phases.length X.pc, .slice X.e S.eyes.length X.ec, .int .i64 S.watch, .int .i64 S.feed, .int .i64 S.heal, .int .i64 S.low, .int .i64 S.high, .slice X.l S.plans.length X.lc] 29)) w'') => HS3.out w'' ((Ltr.of_none (Kept.alloc _ _ _ (0, 0) _)).tr q)))
      | (have hgo := SM; clear hgo; go_at_call 25; refine (HSITE.out w2 SM.out).mono ?_; rintro e w3 ⟨X, rfl, hs3, hr3, hk3⟩; have KK := Hid.mk' (KK.out.tr (kept_own (Kept.alloc w2 #[.slice (some ⟨blk, off, none⟩) m c, .bool false, .slice none 0 0] 65 (0, 0) none) hk3)); have R := Hid.mk' (row_kept (World.rowIs.alloc R.out (.cells #[.slice (some ⟨blk, off, none⟩) m c, .bool false, .slice none 0 0] 65)) hk3 (fun e => by have := Option.some.inj e; have := NE.out; omega)); have R3 := Hid.mk' hr3; have HS3 := Hid.mk' (fun w'' (q : Ltr (w.heap.size + 1) w3 w'') => hs3 w'' (q.up (by have := NE.out; simp; omega))); clear hr3 hs3 hk3)
      | (have hgo := R; clear hgo; go_at_call 24; refine readerOf_any.mono ?_; rintro e w2 ⟨rfl, hk2⟩; have KK := Hid.mk' (KK.out.tr hk2); have R := Hid.mk' (row_kept R.out hk2 (by simp)); have NE := Hid.mk' R.out.lt; have SM := Hid.mk' (HCT.out.keptR KK.out (fun _ _ _ => by simp)); clear r0 r1 r2 r3 r4 r5 r6 r7 r8 r9 r10 r11 y0 y1 y2 y3 y4 y5 y6 y7 y8 y9 y10 y11)
      | (go_at_call 23; refine (HAH.out _ KZ.out).mono ?_; rintro e w1 ⟨rfl, hk1⟩; have KK := Hid.mk' (KZ.out.tr hk1); have R := Hid.mk' (row_kept HROW.out hk1 (by simp)); obtain ⟨r0, r1, r2, r3, r4, r5, r6, r7, r8, r9, r10, r11, y0, y1, y2, y3, y4, y5, y6, y7, y8, y9, y10, y11⟩ := zcells R.out))
    obtain ⟨hkW, hlW, q0, q1, q2, q3, q4, q5, q6, q7, q8, q9, q10, q11⟩ := row12 (lo := w.heap.size + 1) R.out KK.out (Nat.le_refl _) (Nat.lt_succ_self _) (.int .i64 0) (.slice none 0 0) (.slice none 0 0) (.slice none 0 0) (.slice none 0 0) (.slice none 0 0) (.int .i64 0) (.int .i64 0) (.int .i64 0) (.int .i64 0) (.int .i64 0) (.slice none 0 0)
    clear r0 r1 r2 r3 r4 r5 r6 r7 r8 r9 r10 r11 y0 y1 y2 y3 y4 y5 y6 y7 y8 y9 y10 y11
    generalize (((((((((((((w3.alloc (.cells #[.int .i64 S.id, .slice X.g S.groups.length X.gc, .slice X.a S.apart.length X.ac, .slice X.b S.between.length X.bc, .slice X.p S.phases.length X.pc, .slice X.e S.eyes.length X.ec, .int .i64 S.watch, .int .i64 S.feed, .int .i64 S.heal, .int .i64 S.low, .int .i64 S.high, .slice X.l S.plans.length X.lc] 29)).setCell ⟨w.heap.size, 0, none⟩ (.int .i64 0)).setCell ⟨w.heap.size, 1, none⟩ (.slice none 0 0)).setCell ⟨w.heap.size, 2, none⟩ (.slice none 0 0)).setCell ⟨w.heap.size, 3, none⟩ (.slice none 0 0)).setCell ⟨w.heap.size, 4, none⟩ (.slice none 0 0)).setCell ⟨w.heap.size, 5, none⟩ (.slice none 0 0)).setCell ⟨w.heap.size, 6, none⟩ (.int .i64 0)).setCell ⟨w.heap.size, 7, none⟩ (.int .i64 0)).setCell ⟨w.heap.size, 8, none⟩ (.int .i64 0)).setCell ⟨w.heap.size, 9, none⟩ (.int .i64 0)).setCell ⟨w.heap.size, 10, none⟩ (.int .i64 0)).setCell ⟨w.heap.size, 11, none⟩ (.slice none 0 0)) = W at *
    refine bodyPost_ret (v := .tuple #[siteV X0 S0, .int .i64 8]) (by simp [results, Tryd.results8, go_sem, X0, S0, q0, q1, q2, q3, q4, q5, q6, q7, q8, q9, q10, q11]) rfl ?_
    exact ⟨hkW, .inr ⟨by simp, rfl⟩⟩
  cases d3
  · go_enter Tryd.func8, Tryd.ntmps8
    go_wp2_with (first
      | (have hgo := SB; clear hgo; go_at_call 17; have hn := check_any SB.out.sat TA4.out; rw [HCE.out] at hn; refine hn.mono ?_; rintro e w5 ⟨rfl, hk5⟩; have SB5 := Hid.mk' (SB.out.kept hk5); have KK := Hid.mk' (KK.out.tr hk5); have R := Hid.mk' (row_kept R.out hk5 (by simp)); clear r0 r1 r2 r3 r4 r5 r6 r7 r8 r9 r10 r11 y0 y1 y2 y3 y4 y5 y6 y7 y8 y9 y10 y11; obtain ⟨r0, r1, r2, r3, r4, r5, r6, r7, r8, r9, r10, r11, y0, y1, y2, y3, y4, y5, y6, y7, y8, y9, y10, y11⟩ := zcells R.out; have HS5 := Hid.mk' (fun w'' (q : Ltr (w.heap.size + 1) w5 w'') => HS4.out w'' ((Ltr.of_none hk5).tr q)); have b0 := SB5.out.c0; have b1 := SB5.out.c1; have b2 := SB5.out.c2; have b3 := SB5.out.c3; have b4 := SB5.out.c4; have b5 := SB5.out.c5; have b6 := SB5.out.c6; have b7 := SB5.out.c7; have b8 := SB5.out.c8; have b9 := SB5.out.c9; have b10 := SB5.out.c10; have b11 := SB5.out.c11)
      | (have hgo := R3; clear hgo; go_at_call 26; have hn := done_any (R3.out.alloc #[.int .i64 S.id, .slice X.g S.groups.length X.gc, .slice X.a S.apart.length X.ac, .slice X.b S.between.length X.bc, .slice X.p S.phases.length X.pc, .slice X.e S.eyes.length X.ec, .int .i64 S.watch, .int .i64 S.feed, .int .i64 S.heal, .int .i64 S.low, .int .i64 S.high, .slice X.l S.plans.length X.lc] 29); rw [HD2.out] at hn; refine hn.mono ?_; rintro e w4 ⟨rfl, rfl⟩; have KK := Hid.mk' (KK.out.tr (Kept.alloc _ #[.int .i64 S.id, .slice X.g S.groups.length X.gc, .slice X.a S.apart.length X.ac, .slice X.b S.between.length X.bc, .slice X.p S.phases.length X.pc, .slice X.e S.eyes.length X.ec, .int .i64 S.watch, .int .i64 S.feed, .int .i64 S.heal, .int .i64 S.low, .int .i64 S.high, .slice X.l S.plans.length X.lc] 29 (0, 0) none)); have R := Hid.mk' (World.rowIs.alloc R.out (.cells #[.int .i64 S.id, .slice X.g S.groups.length X.gc, .slice X.a S.apart.length X.ac, .slice X.b S.between.length X.bc, .slice X.p S.phases.length X.pc, .slice X.e S.eyes.length X.ec, .int .i64 S.watch, .int .i64 S.feed, .int .i64 S.heal, .int .i64 S.low, .int .i64 S.high, .slice X.l S.plans.length X.lc] 29)); obtain ⟨r0, r1, r2, r3, r4, r5, r6, r7, r8, r9, r10, r11, y0, y1, y2, y3, y4, y5, y6, y7, y8, y9, y10, y11⟩ := zcells R.out; have SB := Hid.mk' (sbox_alloc (HS3.out _ Ltr.rfl') 29); have TA4 := Hid.mk' (HTA.out.kept KK.out); have HS4 := Hid.mk' (fun w'' (q : Ltr (w.heap.size + 1) (w3.alloc (.cells #[.int .i64 S.id, .slice X.g S.groups.length X.gc, .slice X.a S.apart.length X.ac, .slice X.b S.between.length X.bc, .slice X.p S.phases.length X.pc, .slice X.e S.eyes.length X.ec, .int .i64 S.watch, .int .i64 S.feed, .int .i64 S.heal, .int .i64 S.low, .int .i64 S.high, .slice X.l S.plans.length X.lc] 29)) w'') => HS3.out w'' ((Ltr.of_none (Kept.alloc _ _ _ (0, 0) _)).tr q)))
      | (have hgo := SM; clear hgo; go_at_call 25; refine (HSITE.out w2 SM.out).mono ?_; rintro e w3 ⟨X, rfl, hs3, hr3, hk3⟩; have KK := Hid.mk' (KK.out.tr (kept_own (Kept.alloc w2 #[.slice (some ⟨blk, off, none⟩) m c, .bool false, .slice none 0 0] 65 (0, 0) none) hk3)); have R := Hid.mk' (row_kept (World.rowIs.alloc R.out (.cells #[.slice (some ⟨blk, off, none⟩) m c, .bool false, .slice none 0 0] 65)) hk3 (fun e => by have := Option.some.inj e; have := NE.out; omega)); have R3 := Hid.mk' hr3; have HS3 := Hid.mk' (fun w'' (q : Ltr (w.heap.size + 1) w3 w'') => hs3 w'' (q.up (by have := NE.out; simp; omega))); clear hr3 hs3 hk3)
      | (have hgo := R; clear hgo; go_at_call 24; refine readerOf_any.mono ?_; rintro e w2 ⟨rfl, hk2⟩; have KK := Hid.mk' (KK.out.tr hk2); have R := Hid.mk' (row_kept R.out hk2 (by simp)); have NE := Hid.mk' R.out.lt; have SM := Hid.mk' (HCT.out.keptR KK.out (fun _ _ _ => by simp)); clear r0 r1 r2 r3 r4 r5 r6 r7 r8 r9 r10 r11 y0 y1 y2 y3 y4 y5 y6 y7 y8 y9 y10 y11)
      | (go_at_call 23; refine (HAH.out _ KZ.out).mono ?_; rintro e w1 ⟨rfl, hk1⟩; have KK := Hid.mk' (KZ.out.tr hk1); have R := Hid.mk' (row_kept HROW.out hk1 (by simp)); obtain ⟨r0, r1, r2, r3, r4, r5, r6, r7, r8, r9, r10, r11, y0, y1, y2, y3, y4, y5, y6, y7, y8, y9, y10, y11⟩ := zcells R.out))
    obtain ⟨hkW, hlW, q0, q1, q2, q3, q4, q5, q6, q7, q8, q9, q10, q11⟩ := row12 (lo := w.heap.size + 1) R.out KK.out (Nat.le_refl _) (Nat.lt_succ_self _) (.int .i64 0) (.slice none 0 0) (.slice none 0 0) (.slice none 0 0) (.slice none 0 0) (.slice none 0 0) (.int .i64 0) (.int .i64 0) (.int .i64 0) (.int .i64 0) (.int .i64 0) (.slice none 0 0)
    clear r0 r1 r2 r3 r4 r5 r6 r7 r8 r9 r10 r11 y0 y1 y2 y3 y4 y5 y6 y7 y8 y9 y10 y11
    generalize ((((((((((((w5.setCell ⟨w.heap.size, 0, none⟩ (.int .i64 0)).setCell ⟨w.heap.size, 1, none⟩ (.slice none 0 0)).setCell ⟨w.heap.size, 2, none⟩ (.slice none 0 0)).setCell ⟨w.heap.size, 3, none⟩ (.slice none 0 0)).setCell ⟨w.heap.size, 4, none⟩ (.slice none 0 0)).setCell ⟨w.heap.size, 5, none⟩ (.slice none 0 0)).setCell ⟨w.heap.size, 6, none⟩ (.int .i64 0)).setCell ⟨w.heap.size, 7, none⟩ (.int .i64 0)).setCell ⟨w.heap.size, 8, none⟩ (.int .i64 0)).setCell ⟨w.heap.size, 9, none⟩ (.int .i64 0)).setCell ⟨w.heap.size, 10, none⟩ (.int .i64 0)).setCell ⟨w.heap.size, 11, none⟩ (.slice none 0 0)) = W at *
    refine bodyPost_ret (v := .tuple #[siteV X0 S0, .int .i64 8]) (by simp [results, Tryd.results8, go_sem, X0, S0, q0, q1, q2, q3, q4, q5, q6, q7, q8, q9, q10, q11]) rfl ?_
    exact ⟨hkW, .inr ⟨by simp, rfl⟩⟩
  · go_enter Tryd.func8, Tryd.ntmps8
    go_wp2_with (first
      | (have hgo := SB; clear hgo; go_at_call 17; have hn := check_any SB.out.sat TA4.out; rw [HCE.out] at hn; refine hn.mono ?_; rintro e w5 ⟨rfl, hk5⟩; have SB5 := Hid.mk' (SB.out.kept hk5); have KK := Hid.mk' (KK.out.tr hk5); have R := Hid.mk' (row_kept R.out hk5 (by simp)); clear r0 r1 r2 r3 r4 r5 r6 r7 r8 r9 r10 r11 y0 y1 y2 y3 y4 y5 y6 y7 y8 y9 y10 y11; obtain ⟨r0, r1, r2, r3, r4, r5, r6, r7, r8, r9, r10, r11, y0, y1, y2, y3, y4, y5, y6, y7, y8, y9, y10, y11⟩ := zcells R.out; have HS5 := Hid.mk' (fun w'' (q : Ltr (w.heap.size + 1) w5 w'') => HS4.out w'' ((Ltr.of_none hk5).tr q)); have b0 := SB5.out.c0; have b1 := SB5.out.c1; have b2 := SB5.out.c2; have b3 := SB5.out.c3; have b4 := SB5.out.c4; have b5 := SB5.out.c5; have b6 := SB5.out.c6; have b7 := SB5.out.c7; have b8 := SB5.out.c8; have b9 := SB5.out.c9; have b10 := SB5.out.c10; have b11 := SB5.out.c11)
      | (have hgo := R3; clear hgo; go_at_call 26; have hn := done_any (R3.out.alloc #[.int .i64 S.id, .slice X.g S.groups.length X.gc, .slice X.a S.apart.length X.ac, .slice X.b S.between.length X.bc, .slice X.p S.phases.length X.pc, .slice X.e S.eyes.length X.ec, .int .i64 S.watch, .int .i64 S.feed, .int .i64 S.heal, .int .i64 S.low, .int .i64 S.high, .slice X.l S.plans.length X.lc] 29); rw [HD2.out] at hn; refine hn.mono ?_; rintro e w4 ⟨rfl, rfl⟩; have KK := Hid.mk' (KK.out.tr (Kept.alloc _ #[.int .i64 S.id, .slice X.g S.groups.length X.gc, .slice X.a S.apart.length X.ac, .slice X.b S.between.length X.bc, .slice X.p S.phases.length X.pc, .slice X.e S.eyes.length X.ec, .int .i64 S.watch, .int .i64 S.feed, .int .i64 S.heal, .int .i64 S.low, .int .i64 S.high, .slice X.l S.plans.length X.lc] 29 (0, 0) none)); have R := Hid.mk' (World.rowIs.alloc R.out (.cells #[.int .i64 S.id, .slice X.g S.groups.length X.gc, .slice X.a S.apart.length X.ac, .slice X.b S.between.length X.bc, .slice X.p S.phases.length X.pc, .slice X.e S.eyes.length X.ec, .int .i64 S.watch, .int .i64 S.feed, .int .i64 S.heal, .int .i64 S.low, .int .i64 S.high, .slice X.l S.plans.length X.lc] 29)); obtain ⟨r0, r1, r2, r3, r4, r5, r6, r7, r8, r9, r10, r11, y0, y1, y2, y3, y4, y5, y6, y7, y8, y9, y10, y11⟩ := zcells R.out; have SB := Hid.mk' (sbox_alloc (HS3.out _ Ltr.rfl') 29); have TA4 := Hid.mk' (HTA.out.kept KK.out); have HS4 := Hid.mk' (fun w'' (q : Ltr (w.heap.size + 1) (w3.alloc (.cells #[.int .i64 S.id, .slice X.g S.groups.length X.gc, .slice X.a S.apart.length X.ac, .slice X.b S.between.length X.bc, .slice X.p S.phases.length X.pc, .slice X.e S.eyes.length X.ec, .int .i64 S.watch, .int .i64 S.feed, .int .i64 S.heal, .int .i64 S.low, .int .i64 S.high, .slice X.l S.plans.length X.lc] 29)) w'') => HS3.out w'' ((Ltr.of_none (Kept.alloc _ _ _ (0, 0) _)).tr q)))
      | (have hgo := SM; clear hgo; go_at_call 25; refine (HSITE.out w2 SM.out).mono ?_; rintro e w3 ⟨X, rfl, hs3, hr3, hk3⟩; have KK := Hid.mk' (KK.out.tr (kept_own (Kept.alloc w2 #[.slice (some ⟨blk, off, none⟩) m c, .bool false, .slice none 0 0] 65 (0, 0) none) hk3)); have R := Hid.mk' (row_kept (World.rowIs.alloc R.out (.cells #[.slice (some ⟨blk, off, none⟩) m c, .bool false, .slice none 0 0] 65)) hk3 (fun e => by have := Option.some.inj e; have := NE.out; omega)); have R3 := Hid.mk' hr3; have HS3 := Hid.mk' (fun w'' (q : Ltr (w.heap.size + 1) w3 w'') => hs3 w'' (q.up (by have := NE.out; simp; omega))); clear hr3 hs3 hk3)
      | (have hgo := R; clear hgo; go_at_call 24; refine readerOf_any.mono ?_; rintro e w2 ⟨rfl, hk2⟩; have KK := Hid.mk' (KK.out.tr hk2); have R := Hid.mk' (row_kept R.out hk2 (by simp)); have NE := Hid.mk' R.out.lt; have SM := Hid.mk' (HCT.out.keptR KK.out (fun _ _ _ => by simp)); clear r0 r1 r2 r3 r4 r5 r6 r7 r8 r9 r10 r11 y0 y1 y2 y3 y4 y5 y6 y7 y8 y9 y10 y11)
      | (go_at_call 23; refine (HAH.out _ KZ.out).mono ?_; rintro e w1 ⟨rfl, hk1⟩; have KK := Hid.mk' (KZ.out.tr hk1); have R := Hid.mk' (row_kept HROW.out hk1 (by simp)); obtain ⟨r0, r1, r2, r3, r4, r5, r6, r7, r8, r9, r10, r11, y0, y1, y2, y3, y4, y5, y6, y7, y8, y9, y10, y11⟩ := zcells R.out))
    obtain ⟨hkW, hlW, q0, q1, q2, q3, q4, q5, q6, q7, q8, q9, q10, q11⟩ := row12 (lo := w.heap.size + 1) R.out KK.out (Nat.le_refl _) (Nat.lt_succ_self _) (.int .i64 S.id) (.slice X.g S.groups.length X.gc) (.slice X.a S.apart.length X.ac) (.slice X.b S.between.length X.bc) (.slice X.p S.phases.length X.pc) (.slice X.e S.eyes.length X.ec) (.int .i64 S.watch) (.int .i64 S.feed) (.int .i64 S.heal) (.int .i64 S.low) (.int .i64 S.high) (.slice X.l S.plans.length X.lc)
    clear r0 r1 r2 r3 r4 r5 r6 r7 r8 r9 r10 r11 y0 y1 y2 y3 y4 y5 y6 y7 y8 y9 y10 y11
    generalize ((((((((((((w5.setCell ⟨w.heap.size, 0, none⟩ (.int .i64 S.id)).setCell ⟨w.heap.size, 1, none⟩ (.slice X.g S.groups.length X.gc)).setCell ⟨w.heap.size, 2, none⟩ (.slice X.a S.apart.length X.ac)).setCell ⟨w.heap.size, 3, none⟩ (.slice X.b S.between.length X.bc)).setCell ⟨w.heap.size, 4, none⟩ (.slice X.p S.phases.length X.pc)).setCell ⟨w.heap.size, 5, none⟩ (.slice X.e S.eyes.length X.ec)).setCell ⟨w.heap.size, 6, none⟩ (.int .i64 S.watch)).setCell ⟨w.heap.size, 7, none⟩ (.int .i64 S.feed)).setCell ⟨w.heap.size, 8, none⟩ (.int .i64 S.heal)).setCell ⟨w.heap.size, 9, none⟩ (.int .i64 S.low)).setCell ⟨w.heap.size, 10, none⟩ (.int .i64 S.high)).setCell ⟨w.heap.size, 11, none⟩ (.slice X.l S.plans.length X.lc)) = W at *
    refine bodyPost_ret (v := .tuple #[siteV X S, .int .i64 0]) (by simp [results, Tryd.results8, go_sem, X0, S0, q0, q1, q2, q3, q4, q5, q6, q7, q8, q9, q10, q11]) rfl ?_
    exact ⟨hkW, .inl ⟨rfl, X, rfl, fun w'' q => HS5.out w'' (hlW.tr q)⟩⟩
theorem read_site {w : World} {a : Option Addr} {n c : Nat} {L : List Nat} (h : Come w a n c L) (hT : Tabb w) (hTb : Table w) : Calls Tryd.prog 8 #[.slice a n c] w (ReadP w L) := by
  by_cases h4 : n < 4
  · exact rd_short h h4
  · obtain ⟨m, rfl⟩ : ∃ m, n = m + 4 := ⟨n - 4, by omega⟩
    exact rd_long h hT hTb

end Go.Proofs.YtcjkghajeohfjaaDoor

/-
  MATHS: a site (and plans) is read again as it was written, and nothing else is read as one.
-/
namespace Go.Proofs.YtcjkghajeohfjaaDoor
open Go.RowKit Go.Lib Go.Deep
set_option linter.unusedVariables false
set_option linter.unusedSimpArgs false

theorem writeL_yes {S : St} (hs : siteB S = true) : writeL S = siteL S ++ sum4 (siteL S) := by unfold writeL; rw [if_pos hs]
theorem read_write {S : St} (hr : Rok S) (hs : siteB S = true) : readB (writeL S) = true ∧ readS (writeL S) = S := by
  have hw := writeL_yes hs
  have hl : (writeL S).length - 4 = (siteL S).length := by rw [hw, List.length_append, sum4_len]; omega
  have ht : (writeL S).take ((writeL S).length - 4) = siteL S := by rw [hl, hw, List.take_left']; rfl
  have hd : (writeL S).drop ((writeL S).length - 4) = sum4 (siteL S) := by rw [hl, hw, List.drop_left']; rfl
  have hm : siteM (siteL S, false) = (S, ([], false)) := by
    have := siteC.fwd S [] hr
    rwa [List.append_nil] at this
  have h4 : 4 ≤ (writeL S).length := by rw [hw, List.length_append, sum4_len]; omega
  constructor
  · unfold readB sumOk toldOk readS
    rw [ht, hd, hm, decide_eq_true h4, decide_eq_true rfl, hs]
    rfl
  · unfold readS
    rw [ht, hm]
theorem write_read {L : List Nat} (hL : ∀ x ∈ L, x < 256) (h : readB L = true) : writeL (readS L) = L ∧ siteB (readS L) = true := by
  unfold readB at h
  simp only [Bool.and_eq_true, decide_eq_true_eq] at h
  obtain ⟨h4, h1, h2, h3⟩ := h
  refine ⟨?_, h3⟩
  rw [writeL_yes h3]
  unfold sumOk at h1
  rw [decide_eq_true_eq] at h1
  unfold toldOk doneB at h2
  simp only [Bool.and_eq_true, decide_eq_true_eq, Bool.not_eq_true'] at h2
  have hb := siteC.bwd (L.take (L.length - 4)) (fun y hy => hL y (List.mem_of_mem_take hy)) h2.1
  rw [h2.2, List.append_nil] at hb
  have e : siteL (readS L) = L.take (L.length - 4) := hb.1.symm
  rw [e, ← h1, List.take_append_drop]

theorem mayL_all {l : List Pl} : mayL l = allB l.length (fun k => mayB (l.getD k q0)) := by
  rw [Bool.eq_iff_iff, allB_iff, mayL_iff]
  constructor
  · exact fun h i hi => h _ (getD_mem hi)
  · intro h p hp
    obtain ⟨i, hi, rfl⟩ := List.mem_iff_getElem.1 hp
    have := h i hi
    rwa [List.getD_eq_getElem?_getD, List.getElem?_eq_getElem hi] at this
theorem parts_whole {l : List Pl} (h : wholeE l = 0) : partsB (wholeL l) = true ∧ (plansM (wholeL l, false)).1 = l := by
  have h8 : l.length ≤ 8 := by
    unfold wholeE at h
    split at h
    · omega
    · omega
  have hm : mayL l = true := by
    unfold wholeE at h
    rw [if_neg (by omega)] at h
    split at h
    · assumption
    · omega
  have hw : wholeL l = smlI (plansI l) := by unfold wholeL; rw [if_pos h]
  have hp := plansC.fwd l [] ⟨h8, fun p hp => by
    obtain ⟨h1, h2, h3, h4⟩ := may_parts (mayL_iff.1 hm p hp)
    exact ⟨by omega, by omega, by omega, fun x hx => h4 x hx⟩⟩
  rw [List.append_nil, ← hw] at hp
  unfold partsB
  rw [hp]
  exact ⟨by rw [← mayL_all, hm]; rfl, rfl⟩
theorem whole_parts {L : List Nat} (hL : ∀ x ∈ L, x < 256) (h : partsB L = true) : wholeE (plansM (L, false)).1 = 0 ∧ wholeL (plansM (L, false)).1 = L := by
  unfold partsB doneB at h
  simp only [Bool.and_eq_true, decide_eq_true_eq, Bool.not_eq_true'] at h
  obtain ⟨⟨h1, h2⟩, h3⟩ := h
  have hb := plansC.bwd L hL h1
  rw [h2, List.append_nil] at hb
  rw [← mayL_all] at h3
  have h0 : wholeE (plansM (L, false)).1 = 0 := by unfold wholeE; rw [if_neg (by have := hb.2.1; omega), if_pos h3]
  refine ⟨h0, ?_⟩
  unfold wholeL
  rw [if_pos h0]
  exact hb.1.symm

end Go.Proofs.YtcjkghajeohfjaaDoor

