/-
  Texts joined: some of those that the proofs of this seat stand on.
-/
import Derived.Test.YtlabjamkaebnjaaBlkA
import Derived.Defers
/-
  THE CONTRACTS of block.Same, New, Many, Read; lists of writes in memory, and what is wrong with them (checkWrites).
-/
namespace Go.Proofs.Ytlabjamkaebnjaa
open Go.RowKit Go.Lib Go.Deep
set_option linter.unusedVariables false
set_option linter.unusedSimpArgs false

theorem btext_inj {L M : List Nat} (hL : ∀ x ∈ L, x < 256) (hM : ∀ x ∈ M, x < 256) (h : textOf L = textOf M) : L = M := by
  unfold textOf at h
  have h1 : L.map UInt8.ofNat = M.map UInt8.ofNat := by injection h with h; simpa using h
  have h2 : ∀ N : List Nat, (∀ x ∈ N, x < 256) → (N.map UInt8.ofNat).map UInt8.toNat = N := by
    intro N hN
    rw [List.map_map]
    conv => rhs; rw [← List.map_id N]
    apply List.map_congr_left
    intro x hx
    have := hN x hx
    simp; omega
  rw [← h2 L hL, ← h2 M hM, h1]
theorem btext_eq {L M : List Nat} (hL : ∀ x ∈ L, x < 256) (hM : ∀ x ∈ M, x < 256) : ((textOf L).toList == (textOf M).toList) = decide (L = M) := by
  rw [ByteArray.toList_eq, ByteArray.toList_eq]
  by_cases e : L = M
  · subst e; simp
  · have : ¬ (textOf L).data.toList = (textOf M).data.toList := fun e2 => e (btext_inj hL hM (by
      have : (textOf L).data = (textOf M).data := Array.toList_inj.1 e2
      show ByteArray.mk (textOf L).data = ByteArray.mk (textOf M).data
      rw [this]))
    rw [decide_eq_false e]
    exact beq_eq_false_iff_ne.2 this
theorem bequ_any {a b : Option Addr} {n m c d : Nat} {L M : List Nat} {w : World} (h : By w a n L) (k : By w b m M) :
    Calls Try.prog 77 #[.slice a n c, .slice b m d] w fun e w' => e = .returned (.bool (decide (L = M))) ∧ w' = w := by
  have h1 := run_text h c
  have h2 := run_text k d
  have HE : Hid (((textOf L).toList == (textOf M).toList) = decide (L = M)) := btext_eq h.lt k.lt
  go_enter Try.func77, Try.ntmps77
  go_wp2
  go_ret
  exact ⟨ret_bool HE.out, rfl⟩
/-! ### New, Many, Read -/
abbrev dvR (a : Option Addr) (n c : Nat) (e : Int) : Ending := .returned (.tuple #[dvV a n c, .int .i64 e])
abbrev slR (a : Option Addr) (n c : Nat) (e : Int) : Ending := .returned (.tuple #[.slice a n c, .int .i64 e])
theorem bnew_no {n : Int} (w : World) (h : bmayV n = false) : Calls Try.prog 19 #[.int .i64 n] w fun e w' => e = dvR none 0 0 180 ∧ Kept w w' none := by
  have HV := Hid.mk' h
  clear h
  go_enter Try.func19, Try.ntmps19
  go_wp2_with (go_at_call 37; refine (mayH_any _ _).mono ?_; rw [HV.out]; rintro e w2 ⟨rfl, rfl⟩)
  refine bodyPost_ret (v := .tuple #[dvV _ _ _, .int .i64 _]) (by simp [results, Try.results19, go_sem, *]; done) rfl ⟨rfl, ?_⟩
  exact (Kept.alloc _ _ _ _ _)
theorem bnew_yes {n : Int} (w : World) (h : bmayV n = true) : Calls Try.prog 19 #[.int .i64 n] w fun e w' => e = dvR (some ⟨w.heap.size + 1, 0, none⟩) (64 * n.toNat) (64 * n.toNat) 0 ∧ Row w' (w.heap.size + 1) (List.replicate (64 * n.toNat) 0) ∧ Kept w w' none := by
  have hb : 1 ≤ n ∧ n ≤ 64 := by unfold bmayV at h; simpa using h
  have HV := Hid.mk' h
  obtain ⟨k, rfl⟩ := Int.eq_ofNat_of_zero_le (show 0 ≤ n by omega)
  have hmk := run_make_row' (P := Try.prog) 22 5 (.int .u8 0) 1 Try.uB Try.info5 rfl .i64 .i64 (k * 64) (by omega) (by omega)
  have ek : ((k * 64 : Nat) : Int) = (k : Int) * 64 := by omega
  rw [ek] at hmk
  have HE : Hid (k * 64 = 64 * ((k : Nat) : Int).toNat) := Hid.mk' (by simp [Nat.mul_comm])
  clear h ek
  go_enter Try.func19, Try.ntmps19
  go_wp2_with (go_at_call 37; refine (mayH_any _ _).mono ?_; rw [HV.out]; rintro e w2 ⟨rfl, rfl⟩)
  rw [← HE.out]
  refine bodyPost_ret (v := .tuple #[dvV _ _ _, .int .i64 _]) (by simp [results, Try.results19, go_sem, *]; done) rfl ⟨rfl, ?_, ?_⟩
  · have h := row_made (w.alloc (.cells (dvC (some ⟨w.heap.size + 1, 0, none⟩) (k * 64) (k * 64)) 24)) (k * 64)
    rw [World.size_alloc] at h
    exact h
  · exact (Kept.alloc _ _ _ _ _).tr (Kept.alloc _ _ _ _ _)
/-- A device that is answered, or none. -/
structure DvP (w w' : World) (e : Ending) (E : Int) (L : List Nat) : Prop where
  ex : ∃ a n c, e = dvR a n c E ∧ Dv w w' a n c L
  kept : Kept w w' none
theorem bnew_any (n : Int) (w : World) : Calls Try.prog 19 #[.int .i64 n] w fun e w' => DvP w w' e (newE n) (newL n) := by
  unfold newE newL
  cases h : bmayV n
  · refine (bnew_no w h).mono ?_
    rintro e w' ⟨rfl, hk⟩
    exact ⟨⟨_, _, _, rfl, Dv.none _ _⟩, hk⟩
  · refine (bnew_yes w h).mono ?_
    rintro e w' ⟨rfl, hr, hk⟩
    have hb : 1 ≤ n ∧ n ≤ 64 := by unfold bmayV at h; simpa using h
    have hd := Dv.row (w0 := w) hr (by omega) (by simp; omega) (by simp)
    simp only [List.length_replicate] at hd
    exact ⟨⟨_, _, _, rfl, hd⟩, hk⟩
theorem bmany_any (a : Option Addr) (n c : Nat) (w : World) (hn : n ≤ 9223372036854775807) : Calls Try.prog 54 #[dvV a n c] w fun e w' => e = .returned (.tuple #[.int .i64 (manV n), .int .i64 (chkE n)]) ∧ Kept w w' none := by
  unfold manV
  rcases chk_cases n with ⟨h, h1, h2, h3⟩ | h
  · have HC := Hid.mk' h
    rw [h, if_pos rfl]
    clear h h1 h2 h3
    go_enter Try.func54, Try.ntmps54
    go_wp2_with (first | (go_at_call 69; refine (bchk_any a n c _ hn).mono ?_; rw [HC.out]; rintro e w1 ⟨rfl, hk1⟩; have c1 := ((db_alloc w a n c 24).kept hk1).c0) | (go_at_call 70; refine (blks_any a n c _ hn).mono ?_; rintro e w2 ⟨rfl, hk2⟩))
    go_ret2
    exact ⟨rfl, ((Kept.alloc _ _ _ _ _).tr hk1).tr hk2⟩
  · have HC := Hid.mk' h
    rw [h, if_neg (by decide)]
    clear h
    go_enter Try.func54, Try.ntmps54
    go_wp2_with (first | (go_at_call 69; refine (bchk_any a n c _ hn).mono ?_; rw [HC.out]; rintro e w1 ⟨rfl, hk1⟩) | (go_at_call 70; refine (blks_any a n c _ hn).mono ?_; rintro e w2 ⟨rfl, hk2⟩))
    go_ret2
    exact ⟨rfl, (Kept.alloc _ _ _ _ _).tr hk1⟩

/-- Bytes that are answered, or none. -/
structure SlP (w w' : World) (e : Ending) (E : Int) (L : List Nat) : Prop where
  ex : ∃ a n c, e = slR a n c E ∧ Dv w w' a n c L
  kept : Kept w w' none
theorem bread_bad {a : Option Addr} {n c : Nat} (i : Int) (w : World) (hn : n ≤ 9223372036854775807) (h : chkE n = 180) : Calls Try.prog 55 #[dvV a n c, .int .i64 i] w fun e w' => e = slR none 0 0 180 ∧ Kept w w' none := by
  have HC := Hid.mk' h
  clear h
  go_enter Try.func55, Try.ntmps55
  go_wp2_with (go_at_call 69; refine (bchk_any a n c _ hn).mono ?_; rw [HC.out]; rintro e w1 ⟨rfl, hk1⟩)
  go_ret2
  exact ⟨rfl, (Kept.alloc _ _ _ _ _).tr hk1⟩
theorem bread_no {a : Option Addr} {n c : Nat} {i : Int} (w : World) (hn : n ≤ 9223372036854775807) (h : chkE n = 0) (hi : hasV n i = false) : Calls Try.prog 55 #[dvV a n c, .int .i64 i] w fun e w' => e = slR none 0 0 2 ∧ Kept w w' none := by
  have HC := Hid.mk' h
  have HI := Hid.mk' hi
  clear h hi
  go_enter Try.func55, Try.ntmps55
  go_wp2_with (first | (go_at_call 69; refine (bchk_any a n c _ hn).mono ?_; rw [HC.out]; rintro e w1 ⟨rfl, hk1⟩; have c1 := ((db_alloc w a n c 24).kept hk1).c0) | (go_at_call 71; refine (bhas_any a n c _ _ hn).mono ?_; rw [HI.out]; rintro e w2 ⟨rfl, hk2⟩))
  go_ret2
  exact ⟨rfl, ((Kept.alloc _ _ _ _ _).tr hk1).tr hk2⟩
theorem bread_yes {b off n c : Nat} {i : Int} {L : List Nat} (w : World) (hC : Come w (some ⟨b, off, none⟩) n c L) (h : chkE n = 0) (hi : hasV n i = true) (h0 : 0 ≤ i) (h1 : 64 * i + 64 ≤ (n : Int)) : Calls Try.prog 55 #[dvV (some ⟨b, off, none⟩) n c, .int .i64 i] w fun e w' => ∃ g, e = slR (some ⟨g, 0, none⟩) 64 64 0 ∧ w.heap.size ≤ g ∧ Row w' g (blD L i.toNat) ∧ Kept w w' none := by
  have HC := Hid.mk' h
  have HI := Hid.mk' hi
  have hn : n ≤ 9223372036854775807 := hC.by_.max
  have HB := Hid.mk' hC.by_
  have HS : Hid (∀ wX, Kept w wX none → By wX (some ⟨b, off + 64 * i.toNat, none⟩) 64 (blD L i.toNat)) := Hid.mk' (fun wX hk => by
    obtain ⟨q1, q2, q3, q4⟩ := hC.by_.kept hk
    obtain ⟨b', off', e, q5, q6⟩ := q4 (by omega)
    injection e with e
    injection e with e1 e2 e3
    subst e1 e2
    refine ⟨by rw [blD_len (by omega)], by omega, fun x hx => q3 x (List.mem_of_mem_drop (List.mem_of_mem_take hx)), fun _ => ⟨b, off + 64 * i.toNat, rfl, q5, fun j hj => ?_⟩⟩
    rw [blD_get hj, Nat.add_assoc, q6 _ (by omega)])
  obtain ⟨k, rfl⟩ := Int.eq_ofNat_of_zero_le h0
  have hr := hC.room
  have hm := hC.max
  have HK := Hid.mk' (And.intro h0 h1)
  clear h hi hC h0 h1
  go_enter Try.func55, Try.ntmps55
  go_wp2_with (first | (go_at_call 69; refine (bchk_any _ n c _ hn).mono ?_; rw [HC.out]; rintro e w1 ⟨rfl, hk1⟩; have c1 := ((db_alloc w (some ⟨b, off, none⟩) n c 24).kept hk1).c0) | (go_at_call 71; refine (bhas_any _ n c _ _ hn).mono ?_; rw [HI.out]; rintro e w2 ⟨rfl, hk2⟩; have c2 := (((db_alloc w (some ⟨b, off, none⟩) n c 24).kept hk1).kept hk2).c0) | (go_at_call 73; refine (blk_any HK.out.1 HK.out.2 hr hm).mono ?_; rintro e w3 ⟨rfl, hk3⟩) | (go_at_call 72; refine (bcop_any (HS.out _ ((((Kept.alloc _ _ _ _ _).tr hk1).tr hk2).tr hk3)) (by omega)).mono ?_; rintro e w4 ⟨rfl, hr4, hk4⟩; have HR4 := Hid.mk' hr4))
  go_ret2
  exact ⟨_, rfl, ((((Kept.alloc _ _ _ _ _).tr hk1).tr hk2).tr hk3).size, HR4.out, ((((Kept.alloc _ _ _ _ _).tr hk1).tr hk2).tr hk3).tr hk4⟩
theorem blD_lt {d : List Nat} (hd : ∀ x ∈ d, x < 256) (n : Nat) : ∀ x ∈ blD d n, x < 256 := fun x hx => hd x (List.mem_of_mem_drop (List.mem_of_mem_take hx))
theorem bread_any {a : Option Addr} {n c : Nat} {L : List Nat} {w : World} (hC : Come w a n c L) (i : Int) : Calls Try.prog 55 #[dvV a n c, .int .i64 i] w fun e w' => SlP w w' e (brE n i) (brL L i) := by
  have hs := hC.by_.size
  unfold brL
  rw [hs]
  unfold brE
  rcases chk_cases n with ⟨h, h1, h2, h3⟩ | h
  · rw [if_pos h]
    cases hi : hasV n i
    · refine (bread_no w hC.by_.max h hi).mono ?_
      rintro e w' ⟨rfl, hk⟩
      exact ⟨⟨_, _, _, rfl, Dv.none _ _⟩, hk⟩
    · obtain ⟨q1, q2⟩ := (has_iff h1).1 hi
      obtain ⟨b, off, rfl, _⟩ := hC.by_.at_ (by omega)
      refine (bread_yes w hC h hi q1 q2).mono ?_
      rintro e w' ⟨g, rfl, hg, hr, hk⟩
      have hl : (blD L i.toNat).length = 64 := blD_len (by omega)
      have hd := Dv.row hr hg (by omega) (blD_lt hC.by_.lt _)
      rw [hl] at hd
      exact ⟨⟨_, _, _, rfl, hd⟩, hk⟩
  · rw [h, if_neg (by decide), if_neg (by decide)]
    refine (bread_bad i w hC.by_.max h).mono ?_
    rintro e w' ⟨rfl, hk⟩
    exact ⟨⟨_, _, _, rfl, Dv.none _ _⟩, hk⟩

/-! ### Lists of writes -/
structure Plw (w : World) (la : Option Addr) (m : Nat) (l : List Pw) : Prop where
  size : l.length = m
  max : m ≤ 9223372036854775807
  at_ : 0 < m → ∃ b off, la = some ⟨b, off, none⟩ ∧ b < w.heap.size ∧ ∀ i p, l[i]? = some p → ∃ a c, w.cell? ⟨b, off + i * 2, none⟩ = some (.int .i64 p.n) ∧ w.cell? ⟨b, off + i * 2 + 1, none⟩ = some (.slice a p.data.length c) ∧ Come w a p.data.length c p.data
theorem Plw.kept {w w' : World} {la : Option Addr} {m : Nat} {l : List Pw} (h : Plw w la m l) (k : Kept w w' none) : Plw w' la m l := by
  refine ⟨h.size, h.max, fun hp => ?_⟩
  obtain ⟨b, off, rfl, hb, hc⟩ := h.at_ hp
  refine ⟨b, off, rfl, Nat.lt_of_lt_of_le hb k.size, fun i p hp => ?_⟩
  obtain ⟨a, c, h1, h2, h4⟩ := hc i p hp
  exact ⟨a, c, (cell_kpt k hb).trans h1, (cell_kpt k hb).trans h2, h4.kpt k⟩
theorem Plw.lt {w : World} {la : Option Addr} {m : Nat} {l : List Pw} (h : Plw w la m l) : ∀ p ∈ l, ∀ x ∈ p.data, x < 256 := by
  intro p hp
  obtain ⟨i, hi, rfl⟩ := List.mem_iff_getElem.1 hp
  obtain ⟨b, off, _, _, hc⟩ := h.at_ (by have := h.size; omega)
  obtain ⟨a, c, _, _, h4⟩ := hc i l[i] (by simp)
  exact h4.by_.lt
end Go.Proofs.Ytlabjamkaebnjaa

/-
  THE CONTRACTS of block.done, the closure that it defers, Do, Write (made by a program).
-/
namespace Go.Proofs.Ytlabjamkaebnjaa
open Go.RowKit Go.Lib Go.Deep
set_option linter.unusedVariables false
set_option linter.unusedSimpArgs false

/-- A drawn region's one way, and what holds of the world behind it. -/
def Rbq (A : Act) (P : World → Prop) (e : Exit) (a : Act) (w : World) : Prop := match e with
  | .normal => a = A ∧ P w
  | _ => False
theorem Rbq.out {A : Act} {P : World → Prop} {e : Exit} {a : Act} {w : World} (h : Rbq A P e a w) : e = .normal ∧ a = A ∧ P w := by
  cases e with
  | normal => exact ⟨rfl, h.1, h.2⟩
  | _ => exact h.elim
theorem kept_drw (w : World) (r : Option Nat) : Kept w w.drew r := ⟨rfl, rfl, rfl, Nat.le_refl _, fun _ _ _ => rfl⟩
theorem Kept.sm {w w' : World} (h : Kept w w' none) (r : Option Nat) : Kept w w' r := ⟨h.os, h.tape, h.output, h.size, fun i hi _ => h.block i hi (by simp)⟩
theorem hold_take {P : Program} {ops : Array Oper} {Q : Exit → Act → World → Prop} {md : Region.Mode} {S : World → Prop} {i d : Nat} {oi : Oper} {v : Value} {fuel : Nat} {listed : Array Bool} {a : Act} {w : World} (hi : ops[i]? = some oi) (hd : oi.dst = some d)
    (hs : Region.noSelect ops = true) (hf : Region.free md ops listed i = true) (hr : (Region.ready md ops listed).contains i = true)
    (hQ : ∀ c a w, Q (.panic c) (a.put oi.dst v) w → Q (.panic c) a w) (hy : YieldsIf P ops S oi v a) (hS : S w)
    (h : wpAnyH P md ops Q S fuel (listed.setIfInBounds i true) { tmps := a.tmps.setIfInBounds d v, defers := a.defers } w) : wpAnyH P md ops Q S (fuel + 1) listed a w :=
  wpAnyH_take hi hs hf hr hQ hy hS (by rw [hd]; exact h)
set_option maxRecDepth 100000 in
theorem step_cp {ops : Array Oper} {o : Oper} {act : Act} {K : Act → World → Prop} {Q : Exit → Act → World → Prop} {E : Prop} {w : World} (hgd : o.guard = none) (d s : Operand)
    (ho : o.op = .call { callee := .builtin .copy, args := #[d, s], argTypes := #[22, 22] })
    (dp sp : Option Addr) (dLen dCap sLen sCap : Nat) (hd : act.eval d = .slice dp dLen dCap) (hs : act.eval s = .slice sp sLen sCap)
    (g off : Nat) (L M : List Nat) (hR : Row w g L) (hB : By w sp sLen M) (hle : sLen ≤ dLen) (hfit : off + sLen ≤ L.length) (hdp : 0 < sLen → dp = some ⟨g, off, none⟩)
    (h : ∀ w', Row w' g (L.take off ++ (M ++ L.drop (off + sLen))) → Kept w w' (some g) → K (act.put o.dst (goInt sLen)) w') : if Region.wanted o (yielded ops act.tmps) = true then Oper.wp Try.prog o act w K Q else E := by
  have hw : Region.wanted o (yielded ops act.tmps) = true := by simp [Region.wanted, hgd]
  rw [if_pos hw]
  have hsz : (Try.prog.info? 5).map (·.size) = some 1 := by
    have := Try.info5
    cases hq : Try.prog.info? 5 with
    | none => rw [hq] at this; simp at this
    | some i => rw [hq] at this; simp at this; simp [this]
  have hM := hB.size
  have e : (M.map byteV).length = sLen := by simp [hM]
  by_cases h0 : sLen = 0
  · subst h0
    have hM0 : M = [] := List.length_eq_zero_iff.1 hM
    subst hM0
    have hrun := run_copy_none (P := Try.prog) w 22 22 o.type 5 dp sp dLen dCap 0 sCap Try.uB hsz (by simp)
    unfold Oper.wp
    simp [execOp, ho, resolve, invoke, builtin, hd, hs, hrun, Result.andThen]
    exact h w (by simpa using hR) (Kept.refl _ _)
  · obtain ⟨ad, rfl, hsrc⟩ := bytes_news' hB (by omega)
    obtain rfl := hdp (by omega)
    have hrun := run_copy_row (P := Try.prog) w 22 22 o.type 5 g off dLen dCap ad sLen sCap _ 5 (M.map byteV) Try.uB hsz hR (by rw [e]; exact (Nat.min_eq_left hle).symm) hsrc (by simp [hM]; omega) (bytes_one M)
    rw [e] at hrun
    unfold Oper.wp
    simp only [execOp, ho, resolve, invoke, builtin]
    simp [hd, hs, hrun, Result.andThen]
    refine h _ ?_ ?_
    · unfold Row
      rw [setRow_heap w g _ _ 5 (0, 0) hR]
      congr 2
      simp [List.map_take, List.map_drop]
    · exact ⟨rfl, rfl, rfl, by simp [World.setRow], fun k hk hr => setRow_other w g k _ (fun e => hr (by rw [e]))⟩

/-- What stands at the head of each round. -/
structure Lq (w wr : World) (g B n : Nat) (D : List Nat) : Prop where
  kept : Kept w wr none
  row : Row wr g D
  bu : Db wr B (some ⟨g, 0, none⟩) n n
  bb : Db wr (w.heap.size + 1) none 0 0
end Go.Proofs.Ytlabjamkaebnjaa

/-
  THE CONTRACTS of block.Do, Write (made by a program).
-/
namespace Go.Proofs.Ytlabjamkaebnjaa
open Go.RowKit Go.Lib Go.Deep
set_option linter.unusedVariables false
set_option linter.unusedSimpArgs false

/-! ### Write -/
theorem plw_one {w : World} {a : Option Addr} {n c : Nat} {B : List Nat} (i : Int) (h : Come w a n c B) (t : TypeId) : Plw (w.alloc (.cells #[.int .i64 i, .slice a n c] t)) (some ⟨w.heap.size, 0, none⟩) 1 [⟨i, B⟩] := by
  refine ⟨rfl, by omega, fun _ => ⟨_, 0, rfl, by simp, fun k p hp => ?_⟩⟩
  match k, hp with
  | 0, hp =>
    obtain rfl : (⟨i, B⟩ : Pw) = p := by simpa using hp
    have hs := h.by_.size
    exact ⟨a, c, World.cell?_alloc_mark .., by show World.cell? _ _ = some (.slice a B.length c); rw [hs]; exact World.cell?_alloc_mark .., by show Come _ a B.length c B; rw [hs]; exact h.kpt (Kept.alloc _ _ _ _ _)⟩
  | k + 1, hp => simp at hp
end Go.Proofs.Ytlabjamkaebnjaa

