/-
  THE WALK of StoreNames (made by a program).
-/
import Derived.Test.YtabikoipjaggbaaStnM
import Derived.Test.YtabikoipjaggbaaStoI
namespace Go.Proofs.Ytabikoipjaggbaa
open Go.RowKit Go.Lib Go.Deep
set_option linter.unusedVariables false
set_option linter.unusedSimpArgs false
set_option maxRecDepth 100000

/-- A box of one cell. -/
structure Bx (w : World) (b : Nat) (v : Value) : Prop where
  c : w.cell? ⟨b, 0, none⟩ = some v
  lt : b < w.heap.size
theorem Bx.kept {w w' : World} {b : Nat} {v : Value} (h : Bx w b v) (k : Kept w w' none) : Bx w' b v := ⟨(cell_kpt k h.lt).trans h.c, Nat.lt_of_lt_of_le h.lt k.size⟩
theorem bx_new (w : World) (v : Value) (t : TypeId) : Bx (w.alloc (.cells #[v] t)) w.heap.size v := ⟨World.cell?_alloc_mark .., by simp⟩
/-- A box of what is kept: its number and its mode. -/
structure Kx (w : World) (b : Nat) (g m : Value) : Prop where
  c0 : w.cell? ⟨b, 0, none⟩ = some g
  c1 : w.cell? ⟨b, 1, none⟩ = some m
  lt : b < w.heap.size
theorem Kx.kept {w w' : World} {b : Nat} {g m : Value} (h : Kx w b g m) (k : Kept w w' none) : Kx w' b g m := ⟨(cell_kpt k h.lt).trans h.c0, (cell_kpt k h.lt).trans h.c1, Nat.lt_of_lt_of_le h.lt k.size⟩
theorem kx_new (w : World) (g m v : Value) (t : TypeId) : Kx (w.alloc (.cells #[g, m, v] t)) w.heap.size g m := ⟨World.cell?_alloc_mark .., World.cell?_alloc_mark .., by simp⟩
theorem come_at {w : World} {x o n c : Nat} {L : List Nat} (h : Come w (some ⟨x, o, none⟩) n c L) {i : Nat} (hi : i < n) : w.cell? ⟨x, o + i, none⟩ = some (.int .u8 ((L.getD i 0 : Nat) : Int)) := by
  obtain ⟨b, off, e, _, hc⟩ := h.by_.at_ (by omega)
  simp only [Option.some.injEq, Addr.mk.injEq] at e
  obtain ⟨rfl, rfl, _⟩ := e
  exact hc i hi
theorem come_take {w : World} {a : Option Addr} {n c m : Nat} {L : List Nat} (h : Come w a n c L) (hm : m ≤ n) : Come w a m c (L.take m) := by
  have hs := h.by_.size
  have hx := h.by_.max
  refine ⟨⟨by rw [List.length_take]; omega, by omega, fun x q => h.by_.lt x (List.mem_of_mem_take q), fun hp => ?_⟩, h.nil, Nat.le_trans hm h.room, h.max⟩
  obtain ⟨b, off, e, hb, hc⟩ := h.by_.at_ (by omega)
  refine ⟨b, off, e, hb, fun i hi => ?_⟩
  rw [hc i (by omega)]
  simp [List.getD_eq_getElem?_getD, List.getElem?_take, hi]
theorem come_some {w : World} {a : Option Addr} {n c : Nat} {L : List Nat} (h : Come w a n c L) (hp : 0 < n) : ∃ x o, a = some ⟨x, o, none⟩ := by
  obtain ⟨b, off, e, _⟩ := h.by_.at_ hp
  exact ⟨b, off, e⟩
/-- Two writes of 64 bytes. -/
theorem pw_two {w : World} {H : Nat} {pa : Option Addr} {l : List Pw} {p0 p1 : Pw} (h : PwF w H pa 2 l) (h0 : l[0]? = some p0) (h1 : l[1]? = some p1) (l0 : p0.data.length = 64) (l1 : p1.data.length = 64) : ∃ b off x0 o0 c0 x1 o1 c1, pa = some ⟨b, off, none⟩ ∧ w.cell? ⟨b, off, none⟩ = some (.int .i64 p0.n) ∧ w.cell? ⟨b, off + 1, none⟩ = some (.slice (some ⟨x0, o0, none⟩) 64 c0) ∧ w.cell? ⟨b, off + 2, none⟩ = some (.int .i64 p1.n) ∧ w.cell? ⟨b, off + 3, none⟩ = some (.slice (some ⟨x1, o1, none⟩) 64 c1) ∧ Come w (some ⟨x0, o0, none⟩) 64 c0 p0.data ∧ Come w (some ⟨x1, o1, none⟩) 64 c1 p1.data := by
  obtain ⟨b, off, rfl, _, _, hc⟩ := h.at_ (by omega)
  obtain ⟨a0, c0, k1, k2, k3, _⟩ := hc 0 p0 h0
  obtain ⟨a1, c1, k4, k5, k6, _⟩ := hc 1 p1 h1
  rw [l0] at k2 k3
  rw [l1] at k5 k6
  obtain ⟨x0, o0, rfl⟩ := come_some k3 (by omega)
  obtain ⟨x1, o1, rfl⟩ := come_some k6 (by omega)
  exact ⟨b, off, x0, o0, c0, x1, o1, c1, rfl, k1, k2, k4, k5, k3, k6⟩
theorem text_16 : textOf [1, 0, 0, 0, 0, 0, 0, 0, 6, 2, 1, 5, 0, 1, 5, 0] = ⟨#[1, 0, 0, 0, 0, 0, 0, 0, 6, 2, 1, 5, 0, 1, 5, 0]⟩ := by decide +kernel
theorem sn_pl : (ptL z256 2 [p51])[0]? = some (sB 0) ∧ (ptL z256 2 [p51])[1]? = some (sB 1) := by
  have e : ptL z256 2 [p51] = ptW z256 2 [p51] := if_pos sn_p.1
  have hl : (ptW z256 2 [p51]).length = 2 := by rw [← e]; exact sn_p.2
  rw [e]
  refine ⟨?_, ?_⟩ <;> (rw [List.getElem?_eq_getElem (by omega)]; unfold sB; rw [List.getD_eq_getElem?_getD, List.getElem?_eq_getElem (by omega)]; rfl)
theorem sn_ql : (ptL a256 2 [p51])[0]? = some (sC 0) ∧ (ptL a256 2 [p51])[1]? = some (sC 1) := by
  have e : ptL a256 2 [p51] = ptW a256 2 [p51] := if_pos sn_q.1
  have hl : (ptW a256 2 [p51]).length = 2 := by rw [← e]; exact sn_q.2
  rw [e]
  refine ⟨?_, ?_⟩ <;> (rw [List.getElem?_eq_getElem (by omega)]; unfold sC; rw [List.getD_eq_getElem?_getD, List.getElem?_eq_getElem (by omega)]; rfl)
theorem sn_y56 : dnB a256 1 [] 1 56 = true ∧ dnL a256 1 [] 1 56 = yDev 56 := sn_y 56 (by omega)
theorem sn_y57 : dnB a256 1 [] 1 57 = true ∧ dnL a256 1 [] 1 57 = yDev 57 := sn_y 57 (by omega)
theorem ints_nilS (w : World) : Ints w none 0 0 [] := ⟨⟨fun h => absurd h (by omega)⟩, rfl, ⟨fun _ => ⟨rfl, rfl⟩, Nat.le_refl _, by omega⟩, fun x hx => by cases hx⟩
theorem plans_nilS (w : World) : Plans w none 0 0 [] := ⟨⟨fun _ => (none, 0), ⟨fun h => absurd h (by omega)⟩, fun i hi => absurd hi (by omega)⟩, rfl, ⟨fun _ => ⟨rfl, rfl⟩, Nat.le_refl _, by omega⟩, fun x hx => by cases hx⟩
theorem plans_zero (w : World) : Plans (w.alloc (.cells #[.int .i64 0, .int .i64 0, .slice none 0 0] 44)) (some ⟨w.heap.size, 0, none⟩) 1 1 [⟨0, 0, []⟩] := by
  refine ⟨⟨fun _ => (none, 0), ⟨fun _ => ⟨w.heap.size, 0, rfl, by simp, fun i hi j hj => ?_⟩⟩, fun i hi => ?_⟩, rfl, ⟨fun e => (nomatch e), Nat.le_refl _, by omega⟩, fun q hq => ?_⟩
  · obtain rfl : i = 0 := by omega
    have h := World.cell?_alloc_mark w #[.int .i64 0, .int .i64 0, .slice none 0 0] 44 (0, 0)
    have : j = 0 ∨ j = 1 ∨ j = 2 := by omega
    rcases this with rfl | rfl | rfl
    · exact h 0
    · exact h 1
    · exact h 2
  · obtain rfl : i = 0 := by omega
    exact ints_nilS _
  · have : q = ⟨0, 0, []⟩ := by simpa using hq
    subst this
    exact ⟨by unfold i64B; decide, by unfold i64B; decide⟩
/-- What a region leaves: numbers and a slice that are not said. -/
def Rn5 (A : Nat → Nat → Option Addr → Nat → Nat → Act) (P : Nat → Nat → Option Addr → Nat → Nat → World → Prop) (e : Exit) (a : Act) (w : World) : Prop := match e with
  | .normal => ∃ b g x n c, a = A b g x n c ∧ P b g x n c w
  | _ => False
theorem Rn5.out {A : Nat → Nat → Option Addr → Nat → Nat → Act} {P : Nat → Nat → Option Addr → Nat → Nat → World → Prop} {e : Exit} {a : Act} {w : World} (h : Rn5 A P e a w) : e = .normal ∧ ∃ b g x n c, a = A b g x n c ∧ P b g x n c w := by
  cases e with
  | normal => exact ⟨rfl, h⟩
  | _ => exact h.elim
theorem Rn5.mk {A : Nat → Nat → Option Addr → Nat → Nat → Act} {P : Nat → Nat → Option Addr → Nat → Nat → World → Prop} {a : Act} {w : World} {b g : Nat} {x : Option Addr} {n c : Nat} (h : a = A b g x n c) (p : P b g x n c w) : Rn5 A P .normal a w := ⟨b, g, x, n, c, h, p⟩
set_option maxHeartbeats 16000000 in
theorem snames_any (w : World) : Calls Try.prog 3 #[] w fun e w' => e = .returned (.bool true) ∧ Kept w w' none := by
  go_enter Try.func3, Try.ntmps3
  go_wp2_with (first
    | (have hgo := N3; clear hgo; go_at_call 5; have HF := Hid.mk' (format_any 65 (w3.alloc (.cells #[.slice a3 n3 k3] 24))); rw [sn_b.2, show foL 65 = [] from if_neg (by rw [sn_b.2]; decide)] at HF; refine HF.out.mono ?_; rintro e w4 ⟨⟨a4, n4, k4, rfl, _⟩, hk4⟩; have hk := ((Kept.alloc w3 #[.slice a3 n3 k3] 24 (0, 0) none).tr hk4).tr (Kept.alloc w4 #[.slice a4 n4 k4] 24 (0, 0) none); have HK := Hid.mk' (HK.out.tr hk); have DD := Hid.mk' (DD.out.kpt hk); have B1 := Hid.mk' (B1.out.kept hk); have N4 := Hid.mk' trivial; clear hk hk4 HF N3)
    | (have hgo := N2; clear hgo; go_at_call 5; have HF := Hid.mk' (format_any 1 (w2.alloc (.cells #[.int .i64 0, .int .u8 0, .slice p2 m2 q2] 30))); rw [sn_b.1, show foL 1 = [] from if_neg (by rw [sn_b.1]; decide)] at HF; refine HF.out.mono ?_; rintro e w3 ⟨⟨a3, n3, k3, rfl, _⟩, hk3⟩; have hk := (Kept.alloc w2 #[.int .i64 0, .int .u8 0, .slice p2 m2 q2] 30 (0, 0) none).tr hk3; have HK := Hid.mk' (HK.out.tr hk); have DD := Hid.mk' (DD.out.kpt hk); have B1 := Hid.mk' (B1.out.kept hk); have N3 := Hid.mk' trivial; clear hk hk3 HF N2)
    | (have hgo := N1; clear hgo; go_at_call 6; have HR := Hid.mk' (sread_any DD.out); unfold RdP at HR; rw [sn_a, show rdK19 z256 = k00 from if_neg (by rw [sn_a]; decide)] at HR; refine HR.out.mono ?_; rintro e w2 ⟨p2, m2, q2, rfl, _, hk⟩; have HK := Hid.mk' (HK.out.tr hk); have DD := Hid.mk' (DD.out.kpt hk); have B1 := Hid.mk' (B1.out.kept hk); have N2 := Hid.mk' trivial; clear b1c; clear hk HR N1)
    | (go_at_call 5; have HF := Hid.mk' (format_any 4 w); rw [al_fo.1, al_fo.2] at HF; refine HF.out.mono ?_; rintro e w1 ⟨⟨a1, n1, k1, rfl, hd1⟩, hk1⟩; have HK := Hid.mk' (hk1.tr (Kept.alloc w1 #[.slice a1 n1 k1] 24 (0, 0) none)); have DD := Hid.mk' (hd1.come.kpt (Kept.alloc w1 #[.slice a1 n1 k1] 24 (0, 0) none)); have B1 := Hid.mk' (bx_new w1 (.slice a1 n1 k1) 24); have b1c := B1.out.c; have N1 := Hid.mk' trivial; clear hd1 hk1 HF))
  obtain ⟨W, hW⟩ : ∃ v, w4.alloc (.cells #[.slice a4 n4 k4] 24) = v := ⟨_, rfl⟩
  rw [hW] at HK DD B1 ⊢
  clear hW
  obtain ⟨b1, hb1⟩ : ∃ v, w1.heap.size = v := ⟨_, rfl⟩
  rw [hb1] at B1 ⊢
  clear hb1
  refine wp_region_held_drew (S := fun w' => Kept W w' none ∧ Bx w' b1 (.slice a1 n1 k1)) (by kernel_rfl) ⟨kept_drw _ _, B1.out.kept (kept_drw _ none)⟩ (fun hHeld => ?_)
  obtain ⟨w0, hw0⟩ : ∃ v, W.drew = v := ⟨_, rfl⟩
  rw [hw0] at hHeld ⊢
  clear hw0
  refine hold_take (i := 0) (v := ?rv1) rfl rfl (by kernel_rfl) (by kernel_rfl) (by kernel_rfl) (fun _ _ _ h => h) (Or.inl ⟨by rfl, ?rhy1⟩) hHeld ?rrest1
  case rhy1 => (intro w hSw; have q0 := hSw.2.c; clear hSw; first | (go_simp; done) | (go_simp; with_reducible rfl))
  try simp only [List.setIfInBounds_toArray, List.set_cons_zero, List.set_cons_succ]
  refine wpAnyH_ready (rs := [1]) (by kernel_rfl) (by simp) ?_
  refine AllReadyH.cons rfl (fun K hK => ?_) AllReadyH.nil
  go_simp
  go_wp2_with (go_at_call 8; refine (one_any _).mono ?_; rintro e u1 ⟨g1, rfl, hp, hk⟩)
  have P1 := Hid.mk' hp
  have hnew := And.intro (hHeld.1.tr hk) (hHeld.2.kept hk)
  refine hK.out _ _ hnew (fun hHeld => ?_)
  clear hK K hnew hk hp
  refine wpAnyH_ready (rs := [2]) (by kernel_rfl) (by simp) ?_
  refine AllReadyH.cons rfl (fun K hK => ?_) AllReadyH.nil
  have HPU := Hid.mk' (sput_any (md := 2) (DD.out.kpt hHeld.1) P1.out)
  unfold PtP at HPU
  rw [sn_p.1, sn_p.2] at HPU
  go_simp
  go_wp2_with (go_at_call 7; refine HPU.out.mono ?_; rintro e u2 ⟨pa, cap, rfl, hw, hk⟩)
  have PW := Hid.mk' hw
  have hnew := And.intro (hHeld.1.tr hk) (hHeld.2.kept hk)
  refine hK.out _ _ hnew (fun hHeld => ?_)
  clear hK K hnew hk hw HPU
  refine hold_take (i := 3) (v := ?rv2) rfl rfl (by kernel_rfl) (by kernel_rfl) (by kernel_rfl) (fun _ _ _ h => h) (Or.inl ⟨by rfl, ?rhy2⟩) hHeld ?rrest2
  case rhy2 => (intro w hSw; have q0 := hSw.2.c; clear hSw; first | (go_simp; done) | (go_simp; with_reducible rfl))
  try simp only [List.setIfInBounds_toArray, List.set_cons_zero, List.set_cons_succ]
  refine hold_take (i := 4) (v := ?rv3) rfl rfl (by kernel_rfl) (by kernel_rfl) (by kernel_rfl) (fun _ _ _ h => h) (Or.inl ⟨by rfl, ?rhy3⟩) hHeld ?rrest3
  case rhy3 => (intro w hSw; have q0 := hSw.2.c; clear hSw; first | (go_simp; done) | (go_simp; with_reducible rfl))
  try simp only [List.setIfInBounds_toArray, List.set_cons_zero, List.set_cons_succ]
  refine hold_take (i := 5) (v := ?rv4) rfl rfl (by kernel_rfl) (by kernel_rfl) (by kernel_rfl) (fun _ _ _ h => h) (Or.inl ⟨by rfl, ?rhy4⟩) hHeld ?rrest4
  case rhy4 => (intro w hSw; have q0 := hSw.2.c; clear hSw; first | (go_simp; done) | (go_simp; with_reducible rfl))
  try simp only [List.setIfInBounds_toArray, List.set_cons_zero, List.set_cons_succ]
  refine hold_take (i := 6) (v := ?rv5) rfl rfl (by kernel_rfl) (by kernel_rfl) (by kernel_rfl) (fun _ _ _ h => h) (Or.inl ⟨by rfl, ?rhy5⟩) hHeld ?rrest5
  case rhy5 => (intro w hSw; have q0 := hSw.2.c; clear hSw; first | (go_simp; done) | (go_simp; with_reducible rfl))
  try simp only [List.setIfInBounds_toArray, List.set_cons_zero, List.set_cons_succ]
  refine hold_take (i := 7) (v := ?rv6) rfl rfl (by kernel_rfl) (by kernel_rfl) (by kernel_rfl) (fun _ _ _ h => h) (Or.inl ⟨by rfl, ?rhy6⟩) hHeld ?rrest6
  case rhy6 => (intro w hSw; have q0 := hSw.2.c; clear hSw; first | (go_simp; done) | (go_simp; with_reducible rfl))
  try simp only [List.setIfInBounds_toArray, List.set_cons_zero, List.set_cons_succ]
  refine wpAnyH_done (by kernel_rfl) ?_ _
  have hk := hHeld.1
  have HK := Hid.mk' (HK.out.tr hk)
  have DD := Hid.mk' (DD.out.kpt hk)
  have B1 := Hid.mk' hHeld.2
  clear hk hHeld P1
  obtain ⟨bp, op, x0, o0, h0, x1, o1, h1, rfl, e0, e1, e2, e3, C0, C1⟩ := pw_two PW.out sn_pl.1 sn_pl.2 sn_B.2.2.1 sn_B.2.2.2.1
  clear e0 e1 e2 e3 C0 C1
  go_wp2_with ((go_at_call 9; refine (alive_any _).mono ?_; rintro e w6 ⟨rfl, hk⟩; have HK := Hid.mk' (HK.out.tr hk); have DD := Hid.mk' (DD.out.kpt hk); have B1 := Hid.mk' (B1.out.kept hk); have PW := Hid.mk' (PW.out.kept hk); obtain ⟨bq, oq, y0, r0, h0, y1, r1, h1, eq, e0, e1, e2, e3, C0, C1⟩ := pw_two PW.out sn_pl.1 sn_pl.2 sn_B.2.2.1 sn_B.2.2.2.1; simp only [Option.some.injEq, Addr.mk.injEq] at eq; obtain ⟨rfl, rfl, _⟩ := eq; rw [sn_B.1] at e0; rw [sn_B.2.1] at e2; have t0 := run_text (come_take C0 (by omega : 16 ≤ 64)).by_ h0; rw [sn_B.2.2.2.2.1, text_16] at t0; have t1 := come_at C1 (i := 56) (by omega); rw [sn_B.2.2.2.2.2] at t1; have hr0 := C0.room; have hr1 := C0.max; have b1c := B1.out.c; clear C0 C1 hk))
  clear PW
  obtain ⟨W, hW⟩ : ∃ v, w6 = v := ⟨_, rfl⟩
  subst hW
  have HB1 : Hid (b1 < w6.heap.size) := Hid.mk' B1.out.lt
  refine Code.wp_mono (Q := Rn5 ?A9 (fun b g a n c w' => Hid (Bx w' b (.slice a n c)) ∧ Hid (Come w' a n c a256) ∧ Hid (Kept w6 w' none))) ?cont9 ?reg9
  case reg9 =>
    repeat (rename_i hh; clear hh)
    refine wp_region_held_drew (S := fun w' => Kept w6 w' none ∧ w'.cell? ⟨b1, 0, none⟩ = some (.slice a1 n1 k1)) (by kernel_rfl) ⟨kept_drw _ _, B1.out.c⟩ (fun hHeld => ?_)
    obtain ⟨w0, hw0⟩ : ∃ v, w6.drew = v := ⟨_, rfl⟩
    rw [hw0] at hHeld ⊢
    clear hw0
    refine hold_take (i := 0) (v := ?rv7) rfl rfl (by kernel_rfl) (by kernel_rfl) (by kernel_rfl) (fun _ _ _ h => h) (Or.inl ⟨by rfl, ?rhy7⟩) hHeld ?rrest7
    case rhy7 => (intro w hSw; have q0 := hSw.2; clear hSw; first | (go_simp; done) | (go_simp; with_reducible rfl))
    try simp only [List.setIfInBounds_toArray, List.set_cons_zero, List.set_cons_succ]
    refine wpAnyH_ready (rs := [1, 6]) (by kernel_rfl) (by simp) ?_
    refine (AllReadyH.cons rfl (fun K hK => ?rz8x1) (AllReadyH.cons rfl (fun K hK => ?rz8x6) AllReadyH.nil))
    case rz8x1 =>
      go_simp
      go_wp2_with (go_at_call 8; refine (one_any _).mono ?_; rintro e wv9 ⟨g, rfl, hp, hk⟩)
      have P1 := Hid.mk' hp
      have hnew : Kept w6 wv9 none ∧ wv9.cell? ⟨b1, 0, none⟩ = some (.slice a1 n1 k1) := ⟨hHeld.1.tr hk, (cell_kpt hk (Nat.lt_of_lt_of_le HB1.out hHeld.1.size)).trans hHeld.2⟩
      refine hK.out _ _ hnew (fun hHeld => ?_)
      clear hK K hnew hk hp
      refine wpAnyH_ready (rs := [2, 6]) (by kernel_rfl) (by simp) ?_
      refine (AllReadyH.cons rfl (fun K hK => ?rz10x2) (AllReadyH.cons rfl (fun K hK => ?rz10x6) AllReadyH.nil))
      case rz10x2 =>
        have HDN := Hid.mk' (ldone_any (m := 2) (wh := 9) (tn := 0) (DD.out.kpt hHeld.1) P1.out)
        unfold DonP at HDN
        rw [sn_dn.1, sn_dn.2] at HDN
        go_simp
        go_wp2_with (go_at_call 10; refine HDN.out.mono ?_; rintro e wv11 ⟨a3, n3, c3, rfl, hc, hk⟩)
        have P1 := Hid.mk' (P1.out.kept hk)
        have C3 := Hid.mk' hc
        have hnew : Kept w6 wv11 none ∧ wv11.cell? ⟨b1, 0, none⟩ = some (.slice a1 n1 k1) := ⟨hHeld.1.tr hk, (cell_kpt hk (Nat.lt_of_lt_of_le HB1.out hHeld.1.size)).trans hHeld.2⟩
        refine hK.out _ _ hnew (fun hHeld => ?_)
        clear hK K hnew hk hc HDN
        refine hold_take (i := 3) (v := ?rv12) rfl rfl (by kernel_rfl) (by kernel_rfl) (by kernel_rfl) (fun _ _ _ h => h) (Or.inl ⟨by rfl, ?rhy12⟩) hHeld ?rrest12
        case rhy12 => (intro w hSw; have q0 := hSw.2; clear hSw; first | (go_simp; done) | (go_simp; with_reducible rfl))
        try simp only [List.setIfInBounds_toArray, List.set_cons_zero, List.set_cons_succ]
        refine hold_take (i := 4) (v := ?rv13) rfl rfl (by kernel_rfl) (by kernel_rfl) (by kernel_rfl) (fun _ _ _ h => h) (Or.inl ⟨by rfl, ?rhy13⟩) hHeld ?rrest13
        case rhy13 => (intro w hSw; have q0 := hSw.2; clear hSw; first | (go_simp; done) | (go_simp; with_reducible rfl))
        try simp only [List.setIfInBounds_toArray, List.set_cons_zero, List.set_cons_succ]
        refine hold_take (i := 5) (v := ?rv14) rfl rfl (by kernel_rfl) (by kernel_rfl) (by kernel_rfl) (fun _ _ _ h => h) (Or.inl ⟨by rfl, ?rhy14⟩) hHeld ?rrest14
        case rhy14 => (intro w hSw; have q0 := hSw.2; clear hSw; first | (go_simp; done) | (go_simp; with_reducible rfl))
        try simp only [List.setIfInBounds_toArray, List.set_cons_zero, List.set_cons_succ]
        refine wpAnyH_ready (rs := [6]) (by kernel_rfl) (by simp) ?_
        refine (AllReadyH.cons rfl (fun K hK => ?rz15x6) AllReadyH.nil)
        case rz15x6 =>
          go_simp
          have hk : Kept wv11 (wv11.alloc (.cells #[.slice none 0 0] 24)) none := Kept.alloc _ _ _ _ _
          have P1 := Hid.mk' (P1.out.kept hk)
          have C3 := Hid.mk' (C3.out.kpt hk)
          have R3 := Hid.mk' (row1 wv11 (.slice none 0 0) 24)
          have N3 : Hid (w6.heap.size ≤ wv11.heap.size) := Hid.mk' hHeld.1.size
          have hnew : Kept w6 (wv11.alloc (.cells #[.slice none 0 0] 24)) none ∧ (wv11.alloc (.cells #[.slice none 0 0] 24)).cell? ⟨b1, 0, none⟩ = some (.slice a1 n1 k1) := ⟨hHeld.1.tr hk, (cell_kpt hk (Nat.lt_of_lt_of_le HB1.out hHeld.1.size)).trans hHeld.2⟩
          refine hK.out _ _ hnew (fun hHeld => ?_)
          clear hK K hnew hk
          obtain ⟨wv16, hwv16⟩ : ∃ v, (wv11.alloc (.cells #[.slice none 0 0] 24)) = v := ⟨_, rfl⟩
          rw [hwv16] at hHeld R3 P1 C3 ⊢
          clear hwv16
          obtain ⟨b3, hb3⟩ : ∃ v, wv11.heap.size = v := ⟨_, rfl⟩
          rw [hb3] at R3 N3
          rw [hb3]
          clear hb3
          refine wpAnyH_ready (rs := [7]) (by kernel_rfl) (by simp) ?_
          refine (AllReadyH.cons rfl (fun K hK => ?rz17x7) AllReadyH.nil)
          case rz17x7 =>
            have t0 := R3.out.cell (i := 0) (by omega)
            have y0 := R3.out.frozen 0
            go_simp
            have C3 := Hid.mk' (come_setB C3.out R3.out 0 (.slice a3 n3 c3))
            have R3 := Hid.mk' (R3.out.set 0 (.slice a3 n3 c3))
            have hnew : Kept w6 (wv16.setCell ⟨b3, 0, none⟩ (.slice a3 n3 c3)) none ∧ (wv16.setCell ⟨b3, 0, none⟩ (.slice a3 n3 c3)).cell? ⟨b1, 0, none⟩ = some (.slice a1 n1 k1) := ⟨hHeld.1.setNew (p := ⟨b3, 0, none⟩) N3.out _, (World.cell?_setCell_other _ _ _ _ (by have := N3.out; have := HB1.out; first | (simp; done) | (simp; omega))).trans hHeld.2⟩
            refine hK.out _ _ hnew (fun hHeld => ?_)
            clear hK K hnew t0 y0
            obtain ⟨wv18, hwv18⟩ : ∃ v, (wv16.setCell ⟨b3, 0, none⟩ (.slice a3 n3 c3)) = v := ⟨_, rfl⟩
            rw [hwv18] at hHeld R3 C3 ⊢
            clear hwv18
            refine hold_take (i := 8) (v := ?rv19) rfl rfl (by kernel_rfl) (by kernel_rfl) (by kernel_rfl) (fun _ _ _ h => h) (Or.inl ⟨by rfl, ?rhy19⟩) hHeld ?rrest19
            case rhy19 => (intro w hSw; have q0 := hSw.2; clear hSw; first | (go_simp; done) | (go_simp; with_reducible rfl))
            try simp only [List.setIfInBounds_toArray, List.set_cons_zero, List.set_cons_succ]
            refine wpAnyH_done (by kernel_rfl) ?_ _
            have hc3 := R3.out.cell (i := 0) (by omega)
            simp at hc3
            refine Rn5.mk (b := b3) (g := g) (x := a3) (n := n3) (c := c3) ?_ ⟨Hid.mk' ⟨hc3, R3.out.lt⟩, C3, Hid.mk' hHeld.1⟩
            with_reducible rfl
      case rz10x6 =>
        go_simp
        have hk : Kept wv9 (wv9.alloc (.cells #[.slice none 0 0] 24)) none := Kept.alloc _ _ _ _ _
        have P1 := Hid.mk' (P1.out.kept hk)
        have R3 := Hid.mk' (row1 wv9 (.slice none 0 0) 24)
        have N3 : Hid (w6.heap.size ≤ wv9.heap.size) := Hid.mk' hHeld.1.size
        have hnew : Kept w6 (wv9.alloc (.cells #[.slice none 0 0] 24)) none ∧ (wv9.alloc (.cells #[.slice none 0 0] 24)).cell? ⟨b1, 0, none⟩ = some (.slice a1 n1 k1) := ⟨hHeld.1.tr hk, (cell_kpt hk (Nat.lt_of_lt_of_le HB1.out hHeld.1.size)).trans hHeld.2⟩
        refine hK.out _ _ hnew (fun hHeld => ?_)
        clear hK K hnew hk
        obtain ⟨wv20, hwv20⟩ : ∃ v, (wv9.alloc (.cells #[.slice none 0 0] 24)) = v := ⟨_, rfl⟩
        rw [hwv20] at hHeld R3 P1 ⊢
        clear hwv20
        obtain ⟨b3, hb3⟩ : ∃ v, wv9.heap.size = v := ⟨_, rfl⟩
        rw [hb3] at R3 N3
        rw [hb3]
        clear hb3
        refine wpAnyH_ready (rs := [2]) (by kernel_rfl) (by simp) ?_
        refine (AllReadyH.cons rfl (fun K hK => ?rz21x2) AllReadyH.nil)
        case rz21x2 =>
          have HDN := Hid.mk' (ldone_any (m := 2) (wh := 9) (tn := 0) (DD.out.kpt hHeld.1) P1.out)
          unfold DonP at HDN
          rw [sn_dn.1, sn_dn.2] at HDN
          go_simp
          go_wp2_with (go_at_call 10; refine HDN.out.mono ?_; rintro e wv22 ⟨a3, n3, c3, rfl, hc, hk⟩)
          have P1 := Hid.mk' (P1.out.kept hk)
          have R3 := Hid.mk' (rowK R3.out hk)
          have C3 := Hid.mk' hc
          have hnew : Kept w6 wv22 none ∧ wv22.cell? ⟨b1, 0, none⟩ = some (.slice a1 n1 k1) := ⟨hHeld.1.tr hk, (cell_kpt hk (Nat.lt_of_lt_of_le HB1.out hHeld.1.size)).trans hHeld.2⟩
          refine hK.out _ _ hnew (fun hHeld => ?_)
          clear hK K hnew hk hc HDN
          refine hold_take (i := 3) (v := ?rv23) rfl rfl (by kernel_rfl) (by kernel_rfl) (by kernel_rfl) (fun _ _ _ h => h) (Or.inl ⟨by rfl, ?rhy23⟩) hHeld ?rrest23
          case rhy23 => (intro w hSw; have q0 := hSw.2; clear hSw; first | (go_simp; done) | (go_simp; with_reducible rfl))
          try simp only [List.setIfInBounds_toArray, List.set_cons_zero, List.set_cons_succ]
          refine hold_take (i := 4) (v := ?rv24) rfl rfl (by kernel_rfl) (by kernel_rfl) (by kernel_rfl) (fun _ _ _ h => h) (Or.inl ⟨by rfl, ?rhy24⟩) hHeld ?rrest24
          case rhy24 => (intro w hSw; have q0 := hSw.2; clear hSw; first | (go_simp; done) | (go_simp; with_reducible rfl))
          try simp only [List.setIfInBounds_toArray, List.set_cons_zero, List.set_cons_succ]
          refine hold_take (i := 5) (v := ?rv25) rfl rfl (by kernel_rfl) (by kernel_rfl) (by kernel_rfl) (fun _ _ _ h => h) (Or.inl ⟨by rfl, ?rhy25⟩) hHeld ?rrest25
          case rhy25 => (intro w hSw; have q0 := hSw.2; clear hSw; first | (go_simp; done) | (go_simp; with_reducible rfl))
          try simp only [List.setIfInBounds_toArray, List.set_cons_zero, List.set_cons_succ]
          refine wpAnyH_ready (rs := [7]) (by kernel_rfl) (by simp) ?_
          refine (AllReadyH.cons rfl (fun K hK => ?rz26x7) AllReadyH.nil)
          case rz26x7 =>
            have t0 := R3.out.cell (i := 0) (by omega)
            have y0 := R3.out.frozen 0
            go_simp
            have C3 := Hid.mk' (come_setB C3.out R3.out 0 (.slice a3 n3 c3))
            have R3 := Hid.mk' (R3.out.set 0 (.slice a3 n3 c3))
            have hnew : Kept w6 (wv22.setCell ⟨b3, 0, none⟩ (.slice a3 n3 c3)) none ∧ (wv22.setCell ⟨b3, 0, none⟩ (.slice a3 n3 c3)).cell? ⟨b1, 0, none⟩ = some (.slice a1 n1 k1) := ⟨hHeld.1.setNew (p := ⟨b3, 0, none⟩) N3.out _, (World.cell?_setCell_other _ _ _ _ (by have := N3.out; have := HB1.out; first | (simp; done) | (simp; omega))).trans hHeld.2⟩
            refine hK.out _ _ hnew (fun hHeld => ?_)
            clear hK K hnew t0 y0
            obtain ⟨wv27, hwv27⟩ : ∃ v, (wv22.setCell ⟨b3, 0, none⟩ (.slice a3 n3 c3)) = v := ⟨_, rfl⟩
            rw [hwv27] at hHeld R3 C3 ⊢
            clear hwv27
            refine hold_take (i := 8) (v := ?rv28) rfl rfl (by kernel_rfl) (by kernel_rfl) (by kernel_rfl) (fun _ _ _ h => h) (Or.inl ⟨by rfl, ?rhy28⟩) hHeld ?rrest28
            case rhy28 => (intro w hSw; have q0 := hSw.2; clear hSw; first | (go_simp; done) | (go_simp; with_reducible rfl))
            try simp only [List.setIfInBounds_toArray, List.set_cons_zero, List.set_cons_succ]
            refine wpAnyH_done (by kernel_rfl) ?_ _
            have hc3 := R3.out.cell (i := 0) (by omega)
            simp at hc3
            refine Rn5.mk (b := b3) (g := g) (x := a3) (n := n3) (c := c3) ?_ ⟨Hid.mk' ⟨hc3, R3.out.lt⟩, C3, Hid.mk' hHeld.1⟩
            with_reducible rfl
    case rz8x6 =>
      go_simp
      have hk : Kept w0 (w0.alloc (.cells #[.slice none 0 0] 24)) none := Kept.alloc _ _ _ _ _
      have R3 := Hid.mk' (row1 w0 (.slice none 0 0) 24)
      have N3 : Hid (w6.heap.size ≤ w0.heap.size) := Hid.mk' hHeld.1.size
      have hnew : Kept w6 (w0.alloc (.cells #[.slice none 0 0] 24)) none ∧ (w0.alloc (.cells #[.slice none 0 0] 24)).cell? ⟨b1, 0, none⟩ = some (.slice a1 n1 k1) := ⟨hHeld.1.tr hk, (cell_kpt hk (Nat.lt_of_lt_of_le HB1.out hHeld.1.size)).trans hHeld.2⟩
      refine hK.out _ _ hnew (fun hHeld => ?_)
      clear hK K hnew hk
      obtain ⟨wv29, hwv29⟩ : ∃ v, (w0.alloc (.cells #[.slice none 0 0] 24)) = v := ⟨_, rfl⟩
      rw [hwv29] at hHeld R3 ⊢
      clear hwv29
      obtain ⟨b3, hb3⟩ : ∃ v, w0.heap.size = v := ⟨_, rfl⟩
      rw [hb3] at R3 N3
      rw [hb3]
      clear hb3
      refine wpAnyH_ready (rs := [1]) (by kernel_rfl) (by simp) ?_
      refine (AllReadyH.cons rfl (fun K hK => ?rz30x1) AllReadyH.nil)
      case rz30x1 =>
        go_simp
        go_wp2_with (go_at_call 8; refine (one_any _).mono ?_; rintro e wv31 ⟨g, rfl, hp, hk⟩)
        have R3 := Hid.mk' (rowK R3.out hk)
        have P1 := Hid.mk' hp
        have hnew : Kept w6 wv31 none ∧ wv31.cell? ⟨b1, 0, none⟩ = some (.slice a1 n1 k1) := ⟨hHeld.1.tr hk, (cell_kpt hk (Nat.lt_of_lt_of_le HB1.out hHeld.1.size)).trans hHeld.2⟩
        refine hK.out _ _ hnew (fun hHeld => ?_)
        clear hK K hnew hk hp
        refine wpAnyH_ready (rs := [2]) (by kernel_rfl) (by simp) ?_
        refine (AllReadyH.cons rfl (fun K hK => ?rz32x2) AllReadyH.nil)
        case rz32x2 =>
          have HDN := Hid.mk' (ldone_any (m := 2) (wh := 9) (tn := 0) (DD.out.kpt hHeld.1) P1.out)
          unfold DonP at HDN
          rw [sn_dn.1, sn_dn.2] at HDN
          go_simp
          go_wp2_with (go_at_call 10; refine HDN.out.mono ?_; rintro e wv33 ⟨a3, n3, c3, rfl, hc, hk⟩)
          have P1 := Hid.mk' (P1.out.kept hk)
          have R3 := Hid.mk' (rowK R3.out hk)
          have C3 := Hid.mk' hc
          have hnew : Kept w6 wv33 none ∧ wv33.cell? ⟨b1, 0, none⟩ = some (.slice a1 n1 k1) := ⟨hHeld.1.tr hk, (cell_kpt hk (Nat.lt_of_lt_of_le HB1.out hHeld.1.size)).trans hHeld.2⟩
          refine hK.out _ _ hnew (fun hHeld => ?_)
          clear hK K hnew hk hc HDN
          refine hold_take (i := 3) (v := ?rv34) rfl rfl (by kernel_rfl) (by kernel_rfl) (by kernel_rfl) (fun _ _ _ h => h) (Or.inl ⟨by rfl, ?rhy34⟩) hHeld ?rrest34
          case rhy34 => (intro w hSw; have q0 := hSw.2; clear hSw; first | (go_simp; done) | (go_simp; with_reducible rfl))
          try simp only [List.setIfInBounds_toArray, List.set_cons_zero, List.set_cons_succ]
          refine hold_take (i := 4) (v := ?rv35) rfl rfl (by kernel_rfl) (by kernel_rfl) (by kernel_rfl) (fun _ _ _ h => h) (Or.inl ⟨by rfl, ?rhy35⟩) hHeld ?rrest35
          case rhy35 => (intro w hSw; have q0 := hSw.2; clear hSw; first | (go_simp; done) | (go_simp; with_reducible rfl))
          try simp only [List.setIfInBounds_toArray, List.set_cons_zero, List.set_cons_succ]
          refine hold_take (i := 5) (v := ?rv36) rfl rfl (by kernel_rfl) (by kernel_rfl) (by kernel_rfl) (fun _ _ _ h => h) (Or.inl ⟨by rfl, ?rhy36⟩) hHeld ?rrest36
          case rhy36 => (intro w hSw; have q0 := hSw.2; clear hSw; first | (go_simp; done) | (go_simp; with_reducible rfl))
          try simp only [List.setIfInBounds_toArray, List.set_cons_zero, List.set_cons_succ]
          refine wpAnyH_ready (rs := [7]) (by kernel_rfl) (by simp) ?_
          refine (AllReadyH.cons rfl (fun K hK => ?rz37x7) AllReadyH.nil)
          case rz37x7 =>
            have t0 := R3.out.cell (i := 0) (by omega)
            have y0 := R3.out.frozen 0
            go_simp
            have C3 := Hid.mk' (come_setB C3.out R3.out 0 (.slice a3 n3 c3))
            have R3 := Hid.mk' (R3.out.set 0 (.slice a3 n3 c3))
            have hnew : Kept w6 (wv33.setCell ⟨b3, 0, none⟩ (.slice a3 n3 c3)) none ∧ (wv33.setCell ⟨b3, 0, none⟩ (.slice a3 n3 c3)).cell? ⟨b1, 0, none⟩ = some (.slice a1 n1 k1) := ⟨hHeld.1.setNew (p := ⟨b3, 0, none⟩) N3.out _, (World.cell?_setCell_other _ _ _ _ (by have := N3.out; have := HB1.out; first | (simp; done) | (simp; omega))).trans hHeld.2⟩
            refine hK.out _ _ hnew (fun hHeld => ?_)
            clear hK K hnew t0 y0
            obtain ⟨wv38, hwv38⟩ : ∃ v, (wv33.setCell ⟨b3, 0, none⟩ (.slice a3 n3 c3)) = v := ⟨_, rfl⟩
            rw [hwv38] at hHeld R3 C3 ⊢
            clear hwv38
            refine hold_take (i := 8) (v := ?rv39) rfl rfl (by kernel_rfl) (by kernel_rfl) (by kernel_rfl) (fun _ _ _ h => h) (Or.inl ⟨by rfl, ?rhy39⟩) hHeld ?rrest39
            case rhy39 => (intro w hSw; have q0 := hSw.2; clear hSw; first | (go_simp; done) | (go_simp; with_reducible rfl))
            try simp only [List.setIfInBounds_toArray, List.set_cons_zero, List.set_cons_succ]
            refine wpAnyH_done (by kernel_rfl) ?_ _
            have hc3 := R3.out.cell (i := 0) (by omega)
            simp at hc3
            refine Rn5.mk (b := b3) (g := g) (x := a3) (n := n3) (c := c3) ?_ ⟨Hid.mk' ⟨hc3, R3.out.lt⟩, C3, Hid.mk' hHeld.1⟩
            with_reducible rfl
  case cont9 =>
  intro e act w7 hq
  obtain ⟨rfl, b3, g3, a3, n3, c3, rfl, B3, DX, K9⟩ := hq.out
  have hk := K9.out
  have HK := Hid.mk' (HK.out.tr hk)
  have DD := Hid.mk' (DD.out.kpt hk)
  have B1 := Hid.mk' (B1.out.kept hk)
  clear hk K9 hq HB1
  go_wp2
  refine wp_region_held_drew (S := fun w' => Kept w7 w' none ∧ Bx w' b3 (.slice a3 n3 c3)) (by kernel_rfl) ⟨kept_drw _ _, B3.out.kept (kept_drw _ none)⟩ (fun hHeld => ?_)
  obtain ⟨w0, hw0⟩ : ∃ v, w7.drew = v := ⟨_, rfl⟩
  rw [hw0] at hHeld ⊢
  clear hw0
  refine hold_take (i := 0) (v := ?rv40) rfl rfl (by kernel_rfl) (by kernel_rfl) (by kernel_rfl) (fun _ _ _ h => h) (Or.inl ⟨by rfl, ?rhy40⟩) hHeld ?rrest40
  case rhy40 => (intro w hSw; have q0 := hSw.2.c; clear hSw; first | (go_simp; done) | (go_simp; with_reducible rfl))
  try simp only [List.setIfInBounds_toArray, List.set_cons_zero, List.set_cons_succ]
  refine wpAnyH_ready (rs := [1]) (by kernel_rfl) (by simp) ?_
  refine AllReadyH.cons rfl (fun K hK => ?_) AllReadyH.nil
  go_simp
  go_wp2_with (go_at_call 8; refine (one_any _).mono ?_; rintro e u3 ⟨g4, rfl, hp, hk⟩)
  have P1 := Hid.mk' hp
  have hnew := And.intro (hHeld.1.tr hk) (hHeld.2.kept hk)
  refine hK.out _ _ hnew (fun hHeld => ?_)
  clear hK K hnew hk hp
  refine wpAnyH_ready (rs := [2]) (by kernel_rfl) (by simp) ?_
  refine AllReadyH.cons rfl (fun K hK => ?_) AllReadyH.nil
  have HPU := Hid.mk' (sput_any (md := 2) (DX.out.kpt hHeld.1) P1.out)
  unfold PtP at HPU
  rw [sn_q.1, sn_q.2] at HPU
  go_simp
  go_wp2_with (go_at_call 7; refine HPU.out.mono ?_; rintro e u4 ⟨pb, capb, rfl, hw, hk⟩)
  have PX := Hid.mk' hw
  have hnew := And.intro (hHeld.1.tr hk) (hHeld.2.kept hk)
  refine hK.out _ _ hnew (fun hHeld => ?_)
  clear hK K hnew hk hw HPU
  refine hold_take (i := 3) (v := ?rv41) rfl rfl (by kernel_rfl) (by kernel_rfl) (by kernel_rfl) (fun _ _ _ h => h) (Or.inl ⟨by rfl, ?rhy41⟩) hHeld ?rrest41
  case rhy41 => (intro w hSw; have q0 := hSw.2.c; clear hSw; first | (go_simp; done) | (go_simp; with_reducible rfl))
  try simp only [List.setIfInBounds_toArray, List.set_cons_zero, List.set_cons_succ]
  refine hold_take (i := 4) (v := ?rv42) rfl rfl (by kernel_rfl) (by kernel_rfl) (by kernel_rfl) (fun _ _ _ h => h) (Or.inl ⟨by rfl, ?rhy42⟩) hHeld ?rrest42
  case rhy42 => (intro w hSw; have q0 := hSw.2.c; clear hSw; first | (go_simp; done) | (go_simp; with_reducible rfl))
  try simp only [List.setIfInBounds_toArray, List.set_cons_zero, List.set_cons_succ]
  refine hold_take (i := 5) (v := ?rv43) rfl rfl (by kernel_rfl) (by kernel_rfl) (by kernel_rfl) (fun _ _ _ h => h) (Or.inl ⟨by rfl, ?rhy43⟩) hHeld ?rrest43
  case rhy43 => (intro w hSw; have q0 := hSw.2.c; clear hSw; first | (go_simp; done) | (go_simp; with_reducible rfl))
  try simp only [List.setIfInBounds_toArray, List.set_cons_zero, List.set_cons_succ]
  refine hold_take (i := 6) (v := ?rv44) rfl rfl (by kernel_rfl) (by kernel_rfl) (by kernel_rfl) (fun _ _ _ h => h) (Or.inl ⟨by rfl, ?rhy44⟩) hHeld ?rrest44
  case rhy44 => (intro w hSw; have q0 := hSw.2.c; clear hSw; first | (go_simp; done) | (go_simp; with_reducible rfl))
  try simp only [List.setIfInBounds_toArray, List.set_cons_zero, List.set_cons_succ]
  refine hold_take (i := 7) (v := ?rv45) rfl rfl (by kernel_rfl) (by kernel_rfl) (by kernel_rfl) (fun _ _ _ h => h) (Or.inl ⟨by rfl, ?rhy45⟩) hHeld ?rrest45
  case rhy45 => (intro w hSw; have q0 := hSw.2.c; clear hSw; first | (go_simp; done) | (go_simp; with_reducible rfl))
  try simp only [List.setIfInBounds_toArray, List.set_cons_zero, List.set_cons_succ]
  refine wpAnyH_done (by kernel_rfl) ?_ _
  have hk := hHeld.1
  have HK := Hid.mk' (HK.out.tr hk)
  have DD := Hid.mk' (DD.out.kpt hk)
  have DX := Hid.mk' (DX.out.kpt hk)
  have B1 := Hid.mk' (B1.out.kept hk)
  have B3 := Hid.mk' hHeld.2
  clear hk hHeld P1
  obtain ⟨bq, oq, z0, r0, i0, z1, r1, i1, rfl, e0, e1, e2, e3, C0, C1⟩ := pw_two PX.out sn_ql.1 sn_ql.2 sn_C.2.2.1 sn_C.2.2.2.1
  rw [sn_C.1] at e0
  rw [sn_C.2.1] at e2
  have t1 := come_at C0 (i := 0) (by omega)
  rw [sn_C.2.2.2.2, Nat.add_zero] at t1
  have hr0 := C0.room
  have hr1 := C0.max
  have b3c := B3.out.c
  clear C0 C1 PX
  have N14 := Hid.mk' trivial
  go_wp2_with (first
    | (have hgo := N20; clear hgo; go_at_call 11; have HR := Hid.mk' (sslot_any (i := 2) DD.out); unfold SlqP at HR; rw [sn_j, show slK19 z256 2 = k00 from if_neg (by rw [sn_j]; decide), show k00.gen = 0 from rfl, show k00.mode = 0 from rfl] at HR; refine HR.out.mono ?_; rintro e w20 ⟨p20, m20, q20, rfl, _, hk0⟩; have hk := hk0.tr (Kept.alloc w20 #[.int .i64 0, .int .u8 0, .slice p20 m20 q20] 30 (0, 0) none); have HK := Hid.mk' (HK.out.tr hk); have K6 := Hid.mk' (K6.out.kept hk); have K7 := Hid.mk' (K7.out.kept hk); have N21 := Hid.mk' trivial; have k6a := K6.out.c0; have k6b := K6.out.c1; have k7a := K7.out.c0; have k7b := K7.out.c1; clear hk hk0 HR N20)
    | (have hgo := N19; clear hgo; go_at_call 7; have HR := Hid.mk' (sput_any (md := 0) (DD.out.kpt (Kept.alloc w18 #[.int .i64 0, .int .i64 0, .slice none 0 0] 44 (0, 0) none)) (plans_zero w18)); unfold PtP at HR; rw [sn_i, show ptL z256 0 [⟨0, 0, []⟩] = [] from if_neg (by rw [sn_i]; decide)] at HR; refine HR.out.mono ?_; rintro e w19 ⟨p19, q19, rfl, _, hk0⟩; have hk := (Kept.alloc w18 #[.int .i64 0, .int .i64 0, .slice none 0 0] 44 (0, 0) none).tr hk0; have HK := Hid.mk' (HK.out.tr hk); have DD := Hid.mk' (DD.out.kpt hk); have B1 := Hid.mk' (B1.out.kept hk); have K6 := Hid.mk' (K6.out.kept hk); have K7 := Hid.mk' (K7.out.kept hk); have N20 := Hid.mk' trivial; try clear b1c; have b1c := B1.out.c; have k6a := K6.out.c0; have k6b := K6.out.c1; have k7a := K7.out.c0; have k7b := K7.out.c1; clear hk hk0 HR N19)
    | (have hgo := N18; clear hgo; go_at_call 7; have HR := Hid.mk' (sput_any (md := 4) DD.out (plans_nilS _)); unfold PtP at HR; rw [sn_h, show ptL z256 4 [] = [] from if_neg (by rw [sn_h]; decide)] at HR; refine HR.out.mono ?_; rintro e w18 ⟨p18, q18, rfl, _, hk0⟩; have hk := hk0; have HK := Hid.mk' (HK.out.tr hk); have DD := Hid.mk' (DD.out.kpt hk); have B1 := Hid.mk' (B1.out.kept hk); have K6 := Hid.mk' (K6.out.kept hk); have K7 := Hid.mk' (K7.out.kept hk); have N19 := Hid.mk' trivial; try clear b1c; have b1c := B1.out.c; have k6a := K6.out.c0; have k6b := K6.out.c1; have k7a := K7.out.c0; have k7b := K7.out.c1; clear hk hk0 HR N18)
    | (have hgo := N17; clear hgo; go_at_call 6; have HR := Hid.mk' (sread_any DZ.out); unfold RdP at HR; rw [sn_o.1, sn_o.2.1, sn_o.2.2] at HR; refine HR.out.mono ?_; rintro e w17 ⟨p17, m17, q17, rfl, _, hk0⟩; have hk := hk0.tr (Kept.alloc w17 #[.int .i64 2, .int .u8 1, .slice p17 m17 q17] 30 (0, 0) none); have HK := Hid.mk' (HK.out.tr hk); have DD := Hid.mk' (DD.out.kpt hk); have B1 := Hid.mk' (B1.out.kept hk); have K6 := Hid.mk' (K6.out.kept hk); have K7 := Hid.mk' (kx_new w17 (.int .i64 2) (.int .u8 1) (.slice p17 m17 q17) 30); have N18 := Hid.mk' trivial; try clear b1c; have b1c := B1.out.c; have k6a := K6.out.c0; have k6b := K6.out.c1; have k7a := K7.out.c0; have k7b := K7.out.c1; clear hk hk0 HR N17)
    | (have hgo := N16; clear hgo; go_at_call 6; have HR := Hid.mk' (sread_any DY.out); unfold RdP at HR; rw [sn_g.1, sn_g.2.1, sn_g.2.2] at HR; refine HR.out.mono ?_; rintro e w16 ⟨p16, m16, q16, rfl, _, hk0⟩; have hk := hk0.tr (Kept.alloc w16 #[.int .i64 1, .int .u8 2, .slice p16 m16 q16] 30 (0, 0) none); have HK := Hid.mk' (HK.out.tr hk); have DD := Hid.mk' (DD.out.kpt hk); have B1 := Hid.mk' (B1.out.kept hk); have DZ := Hid.mk' (DZ.out.kpt hk); have B5 := Hid.mk' (B5.out.kept hk); have K6 := Hid.mk' (kx_new w16 (.int .i64 1) (.int .u8 2) (.slice p16 m16 q16) 30); have N17 := Hid.mk' trivial; try clear b1c; try clear b5c; have b1c := B1.out.c; have b5c := B5.out.c; have k6a := K6.out.c0; have k6b := K6.out.c1; clear hk hk0 HR N16)
    | (have hgo := N15; clear hgo; go_at_call 10; have HR := Hid.mk' (ldone_any (m := 1) (wh := 1) (tn := 57) DX.out (plans_nilS _)); unfold DonP at HR; rw [sn_y57.1, sn_y57.2] at HR; refine HR.out.mono ?_; rintro e w15 ⟨a15, n15, c15, rfl, hc15, hk0⟩; have hk := hk0.tr (Kept.alloc w15 #[.slice a15 n15 c15] 24 (0, 0) none); have HK := Hid.mk' (HK.out.tr hk); have DD := Hid.mk' (DD.out.kpt hk); have B1 := Hid.mk' (B1.out.kept hk); have DY := Hid.mk' (DY.out.kpt hk); have B4 := Hid.mk' (B4.out.kept hk); have DZ := Hid.mk' (hc15.kpt (Kept.alloc w15 #[.slice a15 n15 c15] 24 (0, 0) none)); have B5 := Hid.mk' (bx_new w15 (.slice a15 n15 c15) 24); clear hc15; have N16 := Hid.mk' trivial; try clear b1c; try clear b4c; have b1c := B1.out.c; have b4c := B4.out.c; have b5c := B5.out.c; clear hk hk0 HR N15)
    | (have hgo := N14; clear hgo; go_at_call 10; have HR := Hid.mk' (ldone_any (m := 1) (wh := 1) (tn := 56) DX.out (plans_nilS _)); unfold DonP at HR; rw [sn_y56.1, sn_y56.2] at HR; refine HR.out.mono ?_; rintro e w14 ⟨a14, n14, c14, rfl, hc14, hk0⟩; have hk := hk0.tr (Kept.alloc w14 #[.slice a14 n14 c14] 24 (0, 0) none); have HK := Hid.mk' (HK.out.tr hk); have DD := Hid.mk' (DD.out.kpt hk); have B1 := Hid.mk' (B1.out.kept hk); have DX := Hid.mk' (DX.out.kpt hk); have B3 := Hid.mk' (B3.out.kept hk); have DY := Hid.mk' (hc14.kpt (Kept.alloc w14 #[.slice a14 n14 c14] 24 (0, 0) none)); have B4 := Hid.mk' (bx_new w14 (.slice a14 n14 c14) 24); clear hc14; have N15 := Hid.mk' trivial; try clear b1c; try clear b3c; have b1c := B1.out.c; have b3c := B3.out.c; have b4c := B4.out.c; clear hk hk0 HR N14))
  go_ret
  exact ⟨rfl, HK.out⟩

end Go.Proofs.Ytabikoipjaggbaa
