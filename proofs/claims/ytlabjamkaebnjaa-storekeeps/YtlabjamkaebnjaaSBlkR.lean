/-
  Of the text BlkR: what this stage needs (culled by a program).
-/
import Derived.Test.YtlabjamkaebnjaaCrcJ
import Derived.Test.YtlabjamkaebnjaaMathsJ
import Derived.Test.YtlabjamkaebnjaaSmallJ
import Derived.Test.YtlabjamkaebnjaaBlkM
import Derived.Test.YtlabjamkaebnjaaSPlanLJ
import Derived.Test.YtlabjamkaebnjaaBlkA
import Derived.Test.YtlabjamkaebnjaaBlkBJ
import Derived.Test.YtlabjamkaebnjaaSBNamM
namespace Go.Proofs.Ytlabjamkaebnjaa
open Go.RowKit Go.Lib Go.Deep
set_option linter.unusedVariables false
set_option linter.unusedSimpArgs false

/-- Block g begins with these bytes, and has room for c. -/
structure RowC (w : World) (g c : Nat) (L : List Nat) : Prop where
  le : L.length ≤ c
  ex : ∃ f : Nat → Value, w.rowIs g 5 c (fun j => if j < L.length then .int .u8 ((L.getD j 0 : Nat) : Int) else f j)
theorem RowC.lt {w : World} {g c : Nat} {L : List Nat} (h : RowC w g c L) : g < w.heap.size := by
  obtain ⟨f, hf⟩ := h.ex
  exact hf.lt
theorem RowC.kept {w w' : World} {g c : Nat} {L : List Nat} {r : Option Nat} (h : RowC w g c L) (k : Kept w w' r) (hr : some g ≠ r) : RowC w' g c L := by
  obtain ⟨f, hf⟩ := h.ex
  exact ⟨h.le, f, row_kept hf k hr⟩
theorem RowC.cell {w : World} {g c : Nat} {L : List Nat} (h : RowC w g c L) {i : Nat} (hi : i < L.length) : w.cell? ⟨g, i, none⟩ = some (.int .u8 ((L.getD i 0 : Nat) : Int)) := by
  obtain ⟨f, hf⟩ := h.ex
  have := hf.cell (i := i) (by have := h.le; omega)
  rw [if_pos hi] at this
  exact this
theorem RowC.frozen {w : World} {g c : Nat} {L : List Nat} (h : RowC w g c L) (i : Nat) : w.frozen? ⟨g, i, none⟩ = false := by
  obtain ⟨f, hf⟩ := h.ex
  exact hf.frozen i
theorem RowC.set {w : World} {g c : Nat} {L : List Nat} (h : RowC w g c L) {i : Nat} (hi : i < L.length) (x : Nat) : RowC (w.setCell ⟨g, i, none⟩ (byteV x)) g c (L.set i x) := by
  obtain ⟨f, hf⟩ := h.ex
  refine ⟨by simpa using h.le, f, World.rowIs.congr (hf.set i _) (fun j hj => ?_)⟩
  by_cases e : j = i
  · subst e
    simp [hi]
  · rw [if_neg e]
    by_cases q : j < L.length
    · rw [if_pos q, if_pos (by simpa using q)]
      congr 2
      simp only [List.getD_eq_getElem?_getD]
      rw [List.getElem?_set_ne (fun z => e z.symm)]
    · rw [if_neg q, if_neg (by simpa using q)]
theorem RowC.far {w : World} {g c : Nat} {L : List Nat} (h : RowC w g c L) {b : Nat} (hne : b ≠ g) (i : Nat) (v : Value) : RowC (w.setCell ⟨b, i, none⟩ v) g c L := by
  obtain ⟨f, hf⟩ := h.ex
  refine ⟨h.le, f, hf.of_block ?_⟩
  simp only [World.setCell]
  rw [Array.getElem?_modify, if_neg hne]
theorem RowC.by_ {w : World} {g c : Nat} {L : List Nat} (h : RowC w g c L) (hl : L.length ≤ 9223372036854775807) (hb : ∀ x ∈ L, x < 256) : By w (some ⟨g, 0, none⟩) L.length L :=
  ⟨rfl, hl, hb, fun _ => ⟨g, 0, rfl, h.lt, fun i hi => by rw [Nat.zero_add]; exact h.cell hi⟩⟩
/-- A slice of the document's own: nil, or a row of its own. -/
structure Rv (w0 w : World) (a : Option Addr) (n c : Nat) (L : List Nat) : Prop where
  size : L.length = n
  room : n ≤ c
  max : c ≤ 9223372036854775807
  lt : ∀ x ∈ L, x < 256
  at_ : (a = none ∧ n = 0 ∧ c = 0) ∨ ∃ g, a = some ⟨g, 0, none⟩ ∧ w0.heap.size ≤ g ∧ RowC w g c L
theorem Rv.zero (w0 w : World) : Rv w0 w none 0 0 [] := ⟨rfl, by omega, by omega, fun _ h => (nomatch h), .inl ⟨rfl, rfl, rfl⟩⟩
theorem Rv.come {w0 w : World} {a : Option Addr} {n c : Nat} {L : List Nat} (h : Rv w0 w a n c L) : Come w a n c L := by
  obtain ⟨h1, h2, h3, h4, h5⟩ := h
  rcases h5 with ⟨rfl, rfl, rfl⟩ | ⟨g, rfl, _, hr⟩
  · have : L = [] := List.length_eq_zero_iff.1 h1
    subst this
    exact ⟨By.nil _ _, fun _ => rfl, Nat.le_refl _, by omega⟩
  · subst h1
    exact ⟨hr.by_ (by omega) h4, fun e => (nomatch e), h2, h3⟩
theorem Rv.kept {w0 w w' : World} {a : Option Addr} {n c : Nat} {L : List Nat} (h : Rv w0 w a n c L) (k : Kept w w' none) : Rv w0 w' a n c L := by
  obtain ⟨h1, h2, h3, h4, h5⟩ := h
  refine ⟨h1, h2, h3, h4, ?_⟩
  rcases h5 with h5 | ⟨g, e, hg, hr⟩
  · exact .inl h5
  · exact .inr ⟨g, e, hg, hr.kept k (by simp)⟩
theorem Rv.of {w0 w1 w : World} {a : Option Addr} {n c : Nat} {L : List Nat} (h : Rv w1 w a n c L) (hs : w0.heap.size ≤ w1.heap.size) : Rv w0 w a n c L := by
  obtain ⟨h1, h2, h3, h4, h5⟩ := h
  refine ⟨h1, h2, h3, h4, ?_⟩
  rcases h5 with h5 | ⟨g, e, hg, hr⟩
  · exact .inl h5
  · exact .inr ⟨g, e, by omega, hr⟩
theorem Rv.far {w0 w : World} {a : Option Addr} {n c : Nat} {L : List Nat} (h : Rv w0 w a n c L) {b : Nat} (hb : b < w0.heap.size) (i : Nat) (v : Value) : Rv w0 (w.setCell ⟨b, i, none⟩ v) a n c L := by
  obtain ⟨h1, h2, h3, h4, h5⟩ := h
  refine ⟨h1, h2, h3, h4, ?_⟩
  rcases h5 with h5 | ⟨g, e, hg, hr⟩
  · exact .inl h5
  · exact .inr ⟨g, e, hg, hr.far (by omega) _ _⟩
theorem mine_rv {w0 w : World} {base : Nat} {a : Option Addr} {n c : Nat} {L : List Nat} (h : Mine w base a n c L) (hb : ∀ x ∈ L, x < 256) (hbase : w0.heap.size ≤ base) : Rv w0 w a n c L := by
  have hl : L.length = n := by have := h.own.1; simpa using this
  refine ⟨hl, h.room, h.max, hb, ?_⟩
  rcases id h.own with ⟨_, ⟨e, e2⟩ | ⟨g, cap, cur, e, hbg, hh, hle, hmx, hsz, htk⟩⟩
  · injection e with e1 e2' e3
    exact .inl ⟨e1, e2, e3⟩
  · injection e with e1 e2' e3
    subst e1 e3
    refine .inr ⟨g, rfl, by omega, by omega, fun j => cur[j]?.getD undef, cur, hh, by omega, fun j hj => ?_⟩
    dsimp only
    by_cases q : j < L.length
    · rw [if_pos q]
      have e4 : (L.map byteV)[j]? = cur.toList[j]? := by rw [← htk, List.getElem?_take, if_pos (by omega)]
      rw [← Array.getElem?_toList, ← e4]
      simp [q]
    · rw [if_neg q]
      have : j < cur.size := by omega
      simp [this]
theorem wpList_ap0 {ops : Array Oper} {rest : List Oper} {o : Oper} {act : Act} {Q : Exit → Act → World → Prop} {w : World} (hgd : o.guard = none) (s x : Operand)
    (ho : o.op = .call { callee := .builtin .append, args := #[s, x], argTypes := #[22, 22] })
    (base : Nat) (hs : act.eval s = .slice none 0 0) (a : Option Addr) (m c : Nat) (M : List Nat) (hx : act.eval x = .slice a m c) (hB : By w a m M) (ha : a = none → c = 0)
    (hm : m ≤ 70368744177664) (hbase : base ≤ w.heap.size)
    (h : ∀ a' cap w', Mine w' base a' m cap M → Kept w w' none → wpList Try.prog ops Q rest (act.put o.dst (.slice a' m cap)) w') : wpList Try.prog ops Q (o :: rest) act w := by
  refine wpList_join hgd s x ho base (.slice none 0 0) 0 [] hs (World.ownsRow_nil _ _ _ _) a m c M hx hB ha (by omega) hbase ?_
  intro a' cap w' h1 h2
  rw [Nat.zero_add] at h1 ⊢
  exact h a' cap w' h1 h2

theorem rchk_any (a : Option Addr) (n c : Nat) (w : World) (hn : n ≤ 9223372036854775807) : Calls Try.prog 39 #[dvV a n c] w fun e w' => e = .returned (.int .i64 (chkE n)) ∧ Kept w w' none := by
  by_cases h1 : n < 64
  · have HE : Hid (chkE n = 180) := Hid.mk' (chk_bad (fun q => by omega))
    have h1' : (n : Int) < 64 := by omega
    go_enter Try.func39, Try.ntmps39
    go_wp2
    go_ret
    exact ⟨by rw [HE.out]; simp, Kept.alloc _ _ _ _ _⟩
  · have h1' : ¬ (n : Int) < 64 := by omega
    by_cases h2 : 4096 < n
    · have HE : Hid (chkE n = 180) := Hid.mk' (chk_bad (fun q => by omega))
      have h2' : (4096 : Int) < n := by omega
      go_enter Try.func39, Try.ntmps39
      go_wp2
      go_ret
      exact ⟨by rw [HE.out]; simp, Kept.alloc _ _ _ _ _⟩
    · have h2' : ¬ (4096 : Int) < n := by omega
      by_cases h3 : n % 64 = 0
      · have HE : Hid (chkE n = 0) := Hid.mk' (if_pos (by omega))
        have h3' : ((n : Int) % 64 != 0) = false := by simp; omega
        go_enter Try.func39, Try.ntmps39
        go_wp2
        go_ret
        exact ⟨by rw [HE.out]; simp, Kept.alloc _ _ _ _ _⟩
      · have HE : Hid (chkE n = 180) := Hid.mk' (chk_bad (fun q => h3 q.1))
        have h3' : ((n : Int) % 64 != 0) = true := by simp; omega
        go_enter Try.func39, Try.ntmps39
        go_wp2
        go_ret
        exact ⟨by rw [HE.out]; simp, Kept.alloc _ _ _ _ _⟩
theorem rman_any (a : Option Addr) (n c : Nat) (w : World) (hn : n ≤ 9223372036854775807) : Calls Try.prog 29 #[dvV a n c] w fun e w' => e = .returned (.int .i64 ((n / 64 : Nat) : Int)) ∧ Kept w w' none := by
  go_enter Try.func29, Try.ntmps29
  go_wp2
  go_ret
  exact ⟨by simp, Kept.alloc _ _ _ _ _⟩
theorem rnew_no {n : Int} (w : World) (h : ¬ (1 ≤ n ∧ n ≤ 64)) : Calls Try.prog 20 #[.int .i64 n] w fun e w' => e = dvR none 0 0 180 ∧ Kept w w' none := by
  by_cases a : n < 1
  · go_enter Try.func20, Try.ntmps20
    go_wp2
    refine bodyPost_ret (v := .tuple #[dvV _ _ _, .int .i64 _]) (by simp [results, Try.results20, go_sem, *]; done) rfl ⟨rfl, ?_⟩
    exact (Kept.alloc _ _ _ _ _)
  · have b : 64 < n := by omega
    go_enter Try.func20, Try.ntmps20
    go_wp2
    refine bodyPost_ret (v := .tuple #[dvV _ _ _, .int .i64 _]) (by simp [results, Try.results20, go_sem, *]; done) rfl ⟨rfl, ?_⟩
    exact (Kept.alloc _ _ _ _ _)
theorem rnew_yes {n : Int} (w : World) (hb : 1 ≤ n ∧ n ≤ 64) : Calls Try.prog 20 #[.int .i64 n] w fun e w' => e = dvR (some ⟨w.heap.size + 1, 0, none⟩) (64 * n.toNat) (64 * n.toNat) 0 ∧ Row w' (w.heap.size + 1) (List.replicate (64 * n.toNat) 0) ∧ Kept w w' none := by
  obtain ⟨k, rfl⟩ := Int.eq_ofNat_of_zero_le (show 0 ≤ n by omega)
  have hmk := run_make_row' (P := Try.prog) 22 5 (.int .u8 0) 1 Try.uB Try.info5 rfl .i64 .i64 (k * 64) (by omega) (by omega)
  have ek : ((k * 64 : Nat) : Int) = (k : Int) * 64 := by omega
  rw [ek] at hmk
  have HE : Hid (k * 64 = 64 * ((k : Nat) : Int).toNat) := Hid.mk' (by simp [Nat.mul_comm])
  have b1 : ¬ (k : Int) < 1 := by omega
  have b2 : ¬ 64 < (k : Int) := by omega
  clear ek
  go_enter Try.func20, Try.ntmps20
  go_wp2
  rw [show 64 * k = k * 64 by omega]
  refine bodyPost_ret (v := .tuple #[dvV _ _ _, .int .i64 _]) (by simp [results, Try.results20, go_sem, *]; done) rfl ⟨rfl, ?_, ?_⟩
  · have h := row_made (w.alloc (.cells (dvC (some ⟨w.heap.size + 1, 0, none⟩) (k * 64) (k * 64)) 24)) (k * 64)
    rw [World.size_alloc] at h
    exact h
  · exact (Kept.alloc _ _ _ _ _).tr (Kept.alloc _ _ _ _ _)
theorem rnew_any (n : Int) (w : World) : Calls Try.prog 20 #[.int .i64 n] w fun e w' => ∃ a2 c2, e = dvR a2 (newL n).length c2 (newE n) ∧ Hid (Come w' a2 (newL n).length c2 (newL n)) ∧ Kept w w' none := by
  unfold newE newL
  by_cases h : 1 ≤ n ∧ n ≤ 64
  · have e : bmayV n = true := by unfold bmayV; simp [h.1, h.2]
    rw [e, if_pos rfl, if_pos rfl]
    refine (rnew_yes w h).mono ?_
    rintro e w' ⟨rfl, hr, hk⟩
    rw [List.length_replicate]
    exact ⟨_, _, rfl, Hid.mk' (hr.cm (64 * n.toNat) (by simp) (by omega) (zer_lt _)), hk⟩
  · rw [bmayV_no h]
    refine (rnew_no w h).mono ?_
    rintro e w' ⟨rfl, hk⟩
    exact ⟨none, 0, rfl, Hid.mk' (Dv.none w _).come, hk⟩
theorem rtwin_any {a : Option Addr} {n c : Nat} {L : List Nat} (w : World) (hC : Come w a n c L) (hn : n ≤ 10000) : Calls Try.prog 5 #[dvV a n c] w fun e w' => ∃ a' c', e = .returned (dvV a' n c') ∧ Rv w w' a' n c' L ∧ Kept w w' none := by
  have hk0 : Kept w ((w.alloc (.cells (dvC a n c) 24)).alloc (.cells (dvC none 0 0) 24)) none := (Kept.alloc _ _ _ _ _).tr (Kept.alloc _ _ _ _ _)
  have hR := (db_alloc (w.alloc (.cells (dvC a n c) 24)) none 0 0 24)
  simp only [World.size_alloc] at hR
  have HB := Hid.mk' (hC.by_.kept hk0)
  have HN := Hid.mk' hC.nil
  have HR := Hid.mk' hR
  have HK := Hid.mk' hk0
  have HL := Hid.mk' hC.by_.lt
  have hm : n ≤ 70368744177664 := by omega
  clear hC hk0 hR
  go_enter Try.func5, Try.ntmps5
  go_wp2_with (at_builtin; refine wpList_ap0 (by rfl) _ _ (by rfl) (w.heap.size + 2) (by rfl) a n c L (by rfl) HB.out HN.out hm (by simp) ?_; intro a' cap w2 hm2 hk2; have HM := Hid.mk' hm2; have hS := HR.out.kept hk2; have s0 := hS.c0; have s1 := hS.f0; have s2 := hS.lt; have HK2 := Hid.mk' (HK.out.tr hk2); clear hm2 hS hk2)
  refine bodyPost_ret (v := dvV a' n cap) (by simp [results, Try.results5, go_sem, *]; done) rfl ⟨a', cap, rfl, ?_, ?_⟩
  · have h1 := mine_rv (w0 := (w.alloc (.cells (dvC a n c) 24)).alloc (.cells (dvC none 0 0) 24)) HM.out HL.out (by simp)
    exact (h1.far (b := w.heap.size + 1) (by simp) 0 _).of HK.out.size
  · exact HK2.out.setNew (p := ⟨w.heap.size + 1, 0, none⟩) (show w.heap.size ≤ w.heap.size + 1 by omega) _
set_option maxRecDepth 100000 in
theorem rblock_any {b off n c : Nat} {i : Int} {L : List Nat} (w : World) (hC : Come w (some ⟨b, off, none⟩) n c L) (h0 : 0 ≤ i) (h1 : 64 * i + 64 ≤ (n : Int)) (hn : n ≤ 4096) : Calls Try.prog 53 #[dvV (some ⟨b, off, none⟩) n c, .int .i64 i] w fun e w' => ∃ a' c', e = .returned (.slice a' 64 c') ∧ Hid (Come w' a' 64 c' (blD L i.toNat)) ∧ Kept w w' none := by
  obtain ⟨k, rfl⟩ := Int.eq_ofNat_of_zero_le h0
  have hk : 64 * k + 64 ≤ n := by omega
  have hr := hC.room
  have hm := hC.max
  have hl := hC.by_.size
  have hck : ¬ c = k * 64 := by omega
  have HB : Hid (By (w.alloc (.cells (dvC (some ⟨b, off, none⟩) n c) 24)) (some ⟨b, off + k * 64, none⟩) 64 (blD L k)) := Hid.mk' (by
    obtain ⟨q1, q2, q3, q4⟩ := hC.by_.kept (Kept.alloc w (dvC (some ⟨b, off, none⟩) n c) 24 (0, 0) none)
    obtain ⟨b', off', e, q5, q6⟩ := q4 (by omega)
    injection e with e
    injection e with e1 e2 e3
    subst e1 e2
    refine ⟨by rw [blD_len (by omega)], by omega, fun x hx => q3 x (List.mem_of_mem_drop (List.mem_of_mem_take hx)), fun _ => ⟨b, off + k * 64, rfl, q5, fun j hj => ?_⟩⟩
    rw [blD_get hj, Nat.add_assoc, q6 _ (by omega), Nat.mul_comm k 64])
  have HB2 : Hid (By (w.alloc (.cells (dvC (some ⟨b, off, none⟩) n c) 24)) (some ⟨b, off + k * 64, none⟩) (k * 64 + 64 - k * 64) (blD L k)) := Hid.mk' (by rw [Nat.add_sub_cancel_left]; exact HB.out)
  have hle : (k : Int) * 64 ≤ (k : Int) * 64 + 64 := by omega
  have hlc : (k : Int) * 64 + 64 ≤ c := by omega
  have hlcn : k * 64 + 64 ≤ c := by omega
  clear h0 h1 hl hC
  go_enter Try.func53, Try.ntmps53
  go_wp2_with (at_builtin; refine wpList_ap0 (by rfl) _ _ (by rfl) w.heap.size (by rfl) (some ⟨b, off + k * 64, none⟩) (k * 64 + 64 - k * 64) (c - k * 64) (blD L k) (by rfl) HB2.out (fun e => (nomatch e)) (by omega) (by simp) ?_; intro a' cap w2 hm2 hk2; rw [Nat.add_sub_cancel_left] at hm2 ⊢; have HM := Hid.mk' hm2; clear hm2)
  go_ret
  refine ⟨a', cap, rfl, Hid.mk' ?_, (Kept.alloc _ _ _ _ _).tr hk2⟩
  exact (mine_rv (w0 := w) HM.out HB.out.lt (Nat.le_refl _)).come
end Go.Proofs.Ytlabjamkaebnjaa
