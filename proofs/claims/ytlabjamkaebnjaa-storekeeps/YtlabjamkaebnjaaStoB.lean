/-
  THE CONTRACT of store's slotOf (made by a program: for slot 0, for slot 1).
-/
import Derived.Test.YtlabjamkaebnjaaSto9J
import Derived.Test.YtlabjamkaebnjaaSto3J
namespace Go.Proofs.Ytlabjamkaebnjaa
open Go.RowKit Go.Lib Go.Deep
set_option linter.unusedVariables false
set_option linter.unusedSimpArgs false

/-! ### A list of slices of bytes, one more behind, in new memory -/
abbrev slBb (a : Option Addr) (m c : Nat) : Obj := .cells #[.slice a m c] 22
structure GrB (wr : World) (base : Nat) (v : Value) (l : List (List Nat)) : Prop where
  ex : ∃ r : Nat → Option Addr × Nat, wr.ownsRow base 22 1 v l.length (cellsL l.length 1 (fun i _ => .slice (r i).1 (l.getD i []).length (r i).2)) ∧ (∀ i, i < l.length → Come wr (r i).1 (l.getD i []).length (r i).2 (l.getD i [])) ∧ (∀ i, i < l.length → ∀ b, (r i).1 = some b → v.ownBlock ≠ some b.block ∧ b.block < wr.heap.size ∧ base ≤ b.block)
theorem GrB.nil (w : World) (base : Nat) : GrB w base (.slice none 0 0) [] := ⟨⟨fun _ => (none, 0), World.ownsRow_nil _ _ _ _, fun i hi => by simp at hi, fun i hi => by simp at hi⟩⟩
theorem own_ltB {w : World} {base e size n : Nat} {v : Value} {xs : List Value} (h : w.ownsRow base e size v n xs) : ∀ g, v.ownBlock = some g → base ≤ g ∧ g < w.heap.size := fun g e => h.lt g e
theorem GrB.lt {w : World} {base : Nat} {v : Value} {l : List (List Nat)} (h : GrB w base v l) : ∀ g, v.ownBlock = some g → base ≤ g ∧ g < w.heap.size := by
  obtain ⟨r, h1, _, _⟩ := h.ex
  exact own_ltB h1
theorem GrB.shape {w : World} {base : Nat} {v : Value} {l : List (List Nat)} (h : GrB w base v l) : ∃ a c, v = .slice a l.length c := by
  obtain ⟨r, h1, _, _⟩ := h.ex
  obtain ⟨a, c, e, _⟩ := lie_own (by omega) h1
  exact ⟨a, c, e⟩
theorem GrB.keptN {w w' : World} {base : Nat} {v : Value} {l : List (List Nat)} (h : GrB w base v l) (k : Kept w w' none) : GrB w' base v l := by
  obtain ⟨r, h1, h2, h3⟩ := h.ex
  exact ⟨⟨r, own_keptR' h1 k (fun g _ => by simp), fun i hi => (h2 i hi).kpt k, fun i hi b e => ⟨(h3 i hi b e).1, Nat.lt_of_lt_of_le (h3 i hi b e).2.1 k.size, (h3 i hi b e).2.2⟩⟩⟩
theorem GrB.set {w : World} {base x : Nat} {v : Value} {l : List (List Nat)} (h : GrB w base v l) (hx : x < base) (i : Nat) (u : Value) : GrB (w.setCell ⟨x, i, none⟩ u) base v l := by
  obtain ⟨r, h1, h2, h3⟩ := h.ex
  have k := dkept_set w x i u
  exact ⟨⟨r, own_keptR' h1 k (fun g e f => by injection f with f; have := (own_ltB h1 g e).1; omega), fun i hi => (h2 i hi).kptR k (fun y e => by have := (h3 i hi y e).2.2; omega), fun i hi b e => ⟨(h3 i hi b e).1, Nat.lt_of_lt_of_le (h3 i hi b e).2.1 k.size, (h3 i hi b e).2.2⟩⟩⟩
theorem GrB.bl {w : World} {base : Nat} {a : Option Addr} {n c : Nat} {l : List (List Nat)} (h : GrB w base (.slice a n c) l) (hn : l.length = n) (hm : n ≤ 1000) : Bl w base a n l := by
  obtain ⟨r, h1, h2, h3⟩ := h.ex
  obtain ⟨a', c', e, hl, hc, hbl⟩ := lie_own (by omega) h1
  injection e with e1 e2 e3
  subst e1
  refine ⟨hn, by omega, fun hp => ?_⟩
  obtain ⟨b, off, rfl, hb, hcell⟩ := hl.at_ (by omega)
  refine ⟨b, off, rfl, (hbl _ rfl).1, hb, fun i p hp => ?_⟩
  have hi : i < l.length := (List.getElem?_eq_some_iff.1 hp).1
  have e : l.getD i [] = p := by rw [List.getD_eq_getElem?_getD, hp]; rfl
  have q := hcell i hi 0 (by omega)
  have q2 := h2 i hi
  rw [e] at q q2
  rw [Nat.mul_one, Nat.add_zero] at q
  exact ⟨_, _, q, q2, fun x ex => (h3 i hi x ex).2.2⟩
theorem getD_snocB (l : List (List Nat)) (p : List Nat) (i : Nat) : (l ++ [p]).getD i [] = if i = l.length then p else l.getD i [] := by
  by_cases h : i = l.length
  · subst h; simp
  · rw [if_neg h]
    by_cases h2 : i < l.length
    · simp [h2, List.getElem?_append_left]
    · rw [List.getD_eq_getElem?_getD, List.getD_eq_getElem?_getD, List.getElem?_eq_none (by simp; omega), List.getElem?_eq_none (by omega)]
theorem GrB.grow {W : World} {base : Nat} {v : Value} {l : List (List Nat)} {p : List Nat} {a' : Option Addr} {cap : Nat} (h : GrB W base v l) (hI : Come W a' p.length cap p) (hb : ∀ b, a' = some b → v.ownBlock ≠ some b.block ∧ b.block < W.heap.size ∧ base ≤ b.block) (hk : l.length ≤ 40) (hbase : base ≤ W.heap.size) :
    ∃ v' W5, (Builtin.append_ #[64, 64] 64 #[v, .slice (some ⟨W.heap.size, 0, none⟩) 1 1]).run Try.prog (W.alloc (slBb a' p.length cap)) = .ok v' W5 ∧ GrB W5 base v' (l ++ [p]) ∧ Kept W W5 v.ownBlock := by
  obtain ⟨r, ho, hi, hbb⟩ := h.ex
  obtain ⟨i0, hi0, hz0, hz1, hz2⟩ := info_parts Try.infoB2
  have k4 : Kept W (W.alloc (slBb a' p.length cap)) none := Kept.alloc _ _ _ _ _
  have z4 : (W.alloc (slBb a' p.length cap)).heap.size = W.heap.size + 1 := by simp
  have q0' : ∀ j, j < 1 → (W.alloc (slBb a' p.length cap)).cell? ⟨W.heap.size, 0 + j, none⟩ = some (.slice a' p.length cap) := fun j hj => by
    have : j = 0 := by omega
    subst this
    exact alloc_at2 _ _ _ rfl rfl
  generalize W.alloc (slBb a' p.length cap) = W4 at *
  have own4 := own_keptR' ho k4 (fun g _ => by simp)
  obtain ⟨v', W5, hr, g1, g2, g3⟩ := grow_run (t := 64) (ty := 64) (c := 1) Try.uB2 hi0 hz0 hz1 hz2 rfl (by omega) (by omega) (g := fun _ => .slice a' p.length cap) own4 q0' (fun j => rfl) (by omega) (by omega)
  have g2' : Kept W4 W5 v.ownBlock := g2
  have hk45 : Kept W W5 v.ownBlock := ⟨g2'.os.trans k4.os, g2'.tape.trans k4.tape, g2'.output.trans k4.output, Nat.le_trans k4.size g2'.size, fun i hi hne => (g2'.block i (Nat.lt_of_lt_of_le hi k4.size) hne).trans (k4.block i hi (by simp))⟩
  have vfr : ∀ g, v'.ownBlock = some g → v.ownBlock = some g ∨ W.heap.size ≤ g := fun g hg => by
    rcases g3 with e | e
    · exact .inl (e.symm.trans hg)
    · rw [e] at hg; injection hg with hg; exact .inr (by omega)
  have hst : ∀ (x : Option Addr) (n cc : Nat) (L : List Nat), Come W x n cc L → (∀ b, x = some b → v.ownBlock ≠ some b.block) → Come W5 x n cc L := fun x n cc L hC hne => by
    cases ho : v.ownBlock with
    | none => rw [ho] at hk45; exact hC.kpt hk45
    | some g => rw [ho] at hk45 hne; exact hC.kptR hk45 (fun y e f => hne y e (by rw [f]))
  refine ⟨v', W5, hr, ⟨⟨fun i => if i = l.length then (a', cap) else r i, ?_, fun i hik => ?_, fun i hik b e => ?_⟩⟩, hk45⟩
  · rw [List.length_append]
    have he : cellsL (l.length + 1) 1 (fun i _ => if i = l.length then Value.slice a' p.length cap else .slice (r i).1 (l.getD i []).length (r i).2) = cellsL (l.length + [p].length) 1 (fun i _ => Value.slice ((if i = l.length then (a', cap) else r i) : Option Addr × Nat).1 ((l ++ [p]).getD i []).length ((if i = l.length then (a', cap) else r i) : Option Addr × Nat).2) := by
      show cellsL (l.length + 1) 1 _ = cellsL (l.length + 1) 1 _
      unfold cellsL
      refine List.map_congr_left fun q _ => ?_
      show (if q / 1 = l.length then Value.slice a' p.length cap else .slice (r (q / 1)).1 (l.getD (q / 1) []).length (r (q / 1)).2) = .slice ((if q / 1 = l.length then (a', cap) else r (q / 1)) : Option Addr × Nat).1 ((l ++ [p]).getD (q / 1) []).length ((if q / 1 = l.length then (a', cap) else r (q / 1)) : Option Addr × Nat).2
      rw [getD_snocB]
      by_cases e : q / 1 = l.length
      · rw [if_pos e, if_pos e, if_pos e]
      · rw [if_neg e, if_neg e, if_neg e]
    rw [← he]
    exact g1
  · rw [getD_snocB]
    by_cases e : i = l.length
    · rw [if_pos e]
      simp only [if_pos e]
      exact hst _ _ _ _ hI (fun b eb => (hb b eb).1)
    · rw [if_neg e]
      simp only [if_neg e]
      have hil : i < l.length := by rw [List.length_append] at hik; simp at hik; omega
      exact hst _ _ _ _ (hi i hil) (fun b eb => (hbb i hil b eb).1)
  · have hs5 := hk45.size
    by_cases ei : i = l.length
    · simp only [if_pos ei] at e
      obtain ⟨p1, p2, p3⟩ := hb b e
      exact ⟨fun ec => by rcases vfr _ ec with q | q; exact p1 q; omega, by omega, p3⟩
    · simp only [if_neg ei] at e
      have hil : i < l.length := by rw [List.length_append] at hik; simp at hik; omega
      obtain ⟨p1, p2, p3⟩ := hbb i hil b e
      exact ⟨fun ec => by rcases vfr _ ec with q | q; exact p1 q; omega, by omega, p3⟩
theorem Bl.set {w : World} {H x : Nat} {la : Option Addr} {m : Nat} {B : List (List Nat)} (h : Bl w H la m B) (hx : x < H) (i : Nat) (u : Value) : Bl (w.setCell ⟨x, i, none⟩ u) H la m B := by
  have k := dkept_set w x i u
  refine ⟨h.size, h.max, fun hp => ?_⟩
  obtain ⟨b, off, rfl, hH, hb, hc⟩ := h.at_ hp
  refine ⟨b, off, rfl, hH, Nat.lt_of_lt_of_le hb k.size, fun i p hp => ?_⟩
  obtain ⟨a, c, h1, h2, h3⟩ := hc i p hp
  exact ⟨a, c, (World.cell?_of_block (w := w) (a := ⟨b, off + i, none⟩) (k.block b hb (fun e => by injection e with e; omega))).trans h1, h2.kptR k (fun y e => by have := h3 y e; omega), h3⟩
theorem slt_64 {L : List Nat} {i : Nat} (hL : askE L.length = 0) (hi : i ≤ 1) : ∀ p ∈ sltB L i, p.length = 64 := by
  intro p hp
  obtain ⟨h1, h2, h3, h4, h5, h6, _⟩ := ask_ok hL
  unfold sltB at hp
  obtain ⟨n, hn, rfl⟩ := List.mem_map.1 hp
  have hn := List.mem_range.1 hn
  refine blD_len ?_
  have : i = 0 ∨ i = 1 := by omega
  rcases this with rfl | rfl <;> omega

/-! ### Rows of five cells -/
abbrev f5 (a b c d e : Value) (i : Nat) : Value := #[a, b, c, d, e][i]?.getD undef
theorem row5 (w : World) (a b c d e : Value) (t : TypeId) : (w.alloc (.cells #[a, b, c, d, e] t)).rowIs w.heap.size t 5 (f5 a b c d e) := World.rowIs_alloc w #[a, b, c, d, e] t _ (fun i hi => by simp at hi; simp [f5, hi])
theorem row5_set4 {w : World} {g : Nat} {t : TypeId} {a b c d e : Value} (h : w.rowIs g t 5 (f5 a b c d e)) (x : Value) : (w.setCell ⟨g, 4, none⟩ x).rowIs g t 5 (f5 a b c d x) :=
  (h.set 4 x).congr (fun i hi => by
    have : i = 0 ∨ i = 1 ∨ i = 2 ∨ i = 3 ∨ i = 4 := by omega
    rcases this with rfl | rfl | rfl | rfl | rfl <;> simp [f5])
theorem row5_set3 {w : World} {g : Nat} {t : TypeId} {a b c d e : Value} (h : w.rowIs g t 5 (f5 a b c d e)) (x y z : Value) : (((w.setCell ⟨g, 0, none⟩ x).setCell ⟨g, 1, none⟩ y).setCell ⟨g, 2, none⟩ z).rowIs g t 5 (f5 x y z d e) :=
  (((h.set 0 x).set 1 y).set 2 z).congr (fun i hi => by
    have : i = 0 ∨ i = 1 ∨ i = 2 ∨ i = 3 ∨ i = 4 := by omega
    rcases this with rfl | rfl | rfl | rfl | rfl <;> simp [f5])
theorem row5_set5 {w : World} {g : Nat} {t : TypeId} {f : Nat → Value} (h : w.rowIs g t 5 f) (a b c d e : Value) : (((((w.setCell ⟨g, 0, none⟩ a).setCell ⟨g, 1, none⟩ b).setCell ⟨g, 2, none⟩ c).setCell ⟨g, 3, none⟩ d).setCell ⟨g, 4, none⟩ e).rowIs g t 5 (f5 a b c d e) :=
  (((((h.set 0 a).set 1 b).set 2 c).set 3 d).set 4 e).congr (fun i hi => by
    have : i = 0 ∨ i = 1 ∨ i = 2 ∨ i = 3 ∨ i = 4 := by omega
    rcases this with rfl | rfl | rfl | rfl | rfl <;> simp [f5])
/-- A slot, answered. -/
def SloP (w : World) (B : List (List Nat)) (F : Int) (e : Ending) (w' : World) : Prop := ∃ pa pn pc ba bc, e = .returned (slV ((kepK B).gen : Int) (kepK B).mode pa pn pc F ba B.length bc) ∧ PlF w' w.heap.size pa pn pc (kepK B).plans ∧ Bl w' w.heap.size ba B.length B ∧ Kept w w' none
theorem read_k {a : Option Addr} {n c : Nat} {L : List Nat} {w : World} (hC : Come w a n c L) (hask : askE n = 0) (x : Int) (h0 : 0 ≤ x) (h1 : 64 * x + 64 ≤ (n : Int)) : Calls Try.prog 55 #[dvV a n c, .int .i64 x] w fun e w' => ∃ a2, e = slR a2 64 64 0 ∧ Come w' a2 64 64 (blD L x.toNat) ∧ (∀ y, a2 = some y → w.heap.size ≤ y.block ∧ y.block < w'.heap.size) ∧ Kept w w' none := by
  obtain ⟨q1, q2, q3, q4, q5, q6, q7⟩ := ask_ok hask
  have hs := hC.by_.size
  have hv : hasV n x = true := (has_iff q1).2 ⟨h0, h1⟩
  have hE : brE n x = 0 := by unfold brE; rw [if_pos q7, if_pos hv]
  have hL : brL L x = blD L x.toNat := by unfold brL; rw [hs, hE, if_pos rfl]
  refine (bread_any hC x).mono ?_
  rintro e w' ⟨⟨a2, n2, c2, rfl, hd⟩, hk⟩
  rw [hL] at hd
  rw [hE]
  have hl : (blD L x.toNat).length = 64 := blD_len (by omega)
  have e1 : n2 = 64 := by rw [← hd.size, hl]
  have e2 : c2 = 64 := by rw [hd.cap, e1]
  subst e1 e2
  refine ⟨a2, rfl, hd.come, fun y ey => ?_, hk⟩
  rcases hd.at_ with ⟨rfl, _⟩ | ⟨g, rfl, hg, hr⟩
  · cases ey
  · cases ey; exact ⟨hg, hr.lt⟩

set_option maxRecDepth 100000 in
set_option maxHeartbeats 4000000 in
theorem slotOf0_any {a : Option Addr} {n c : Nat} {L : List Nat} {w : World} (hC : Come w a n c L) (hask : askE n = 0) :
    Calls Try.prog 34 #[dvV a n c, .int .i64 0, .int .i64 (manK n : Int)] w (SloP w (sltB L 0) 0) := by
  have hs := hC.by_.size
  obtain ⟨q1, q2, q3, q4, q5, q6, q7⟩ := ask_ok hask
  have h64 : ∀ p ∈ sltB L 0, p.length = 64 := slt_64 (by rw [hs]; exact hask) (by omega)
  have hlen : (sltB L 0).length = manK n := by rw [sl_len, hs]
  have HRD : Hid (∀ k, k < manK n → ∀ w', Kept w w' none → Calls Try.prog 55 #[dvV a n c, .int .i64 (k : Int)] w' fun e w2 => ∃ a2, e = slR a2 64 64 0 ∧ Come w2 a2 64 64 ((sltB L 0).getD k []) ∧ (∀ y, a2 = some y → w'.heap.size ≤ y.block ∧ y.block < w2.heap.size) ∧ Kept w' w2 none) := Hid.mk' (fun k hk w' hw => by
    have h := read_k (hC.kpt hw) hask (k : Int) (by omega) (by omega)
    have e : (sltB L 0).getD k [] = blD L ((k : Int) : Int).toNat := by
      rw [sl_get (by rw [hs]; exact hk), hs]
      congr 1
      omega
    rw [e]
    exact h)
  have hn := hC.by_.max
  have HDb0 := db_alloc w a n c 24
  obtain ⟨WA, hWA⟩ : ∃ WA, ((w.alloc (.cells #[.slice a n c] 24)).alloc (.cells #[.int .i64 0, .int .u8 0, .slice none 0 0, .int .i64 0, .slice none 0 0] 66)).alloc (.cells #[.int .i64 0, .int .u8 0, .slice none 0 0, .int .i64 0, .slice none 0 0] 66) = WA := ⟨_, rfl⟩
  have hkA : Kept w WA none := by rw [← hWA]; exact ((Kept.alloc _ _ _ _ _).tr (Kept.alloc _ _ _ _ _)).tr (Kept.alloc _ _ _ _ _)
  have hzA : WA.heap.size = w.heap.size + 3 := by rw [← hWA]; simp
  have R6 : WA.rowIs (w.heap.size + 1) 66 5 (f5 (.int .i64 0) (.int .u8 0) (.slice none 0 0) (.int .i64 0) (.slice none 0 0)) := by
    have h := (row5 (w.alloc (.cells #[.slice a n c] 24)) (.int .i64 0) (.int .u8 0) (.slice none 0 0) (.int .i64 0) (.slice none 0 0) 66).alloc (.cells #[.int .i64 0, .int .u8 0, .slice none 0 0, .int .i64 0, .slice none 0 0] 66)
    rw [World.size_alloc] at h
    rw [← hWA]
    exact h
  have R7 : WA.rowIs (w.heap.size + 2) 66 5 (f5 (.int .i64 0) (.int .u8 0) (.slice none 0 0) (.int .i64 0) (.slice none 0 0)) := by
    have h := row5 ((w.alloc (.cells #[.slice a n c] 24)).alloc (.cells #[.int .i64 0, .int .u8 0, .slice none 0 0, .int .i64 0, .slice none 0 0] 66)) (.int .i64 0) (.int .u8 0) (.slice none 0 0) (.int .i64 0) (.slice none 0 0) 66
    simp only [World.size_alloc] at h
    rw [← hWA]
    exact h
  have DbA : Db WA w.heap.size a n c := by
    rw [← hWA]
    exact (HDb0.kept (Kept.alloc _ _ _ _ _)).kept (Kept.alloc _ _ _ _ _)
  have R6 := Hid.mk' R6
  have R7 := Hid.mk' R7
  have HDA := Hid.mk' DbA
  have HKA := Hid.mk' hkA
  have HWA := Hid.mk' hWA
  have HZ := Hid.mk' hzA
  have H64 := Hid.mk' h64
  have HLEN := Hid.mk' hlen
  clear hC hs HDb0 DbA hkA hWA hzA h64
  generalize hB : sltB L 0 = B at *
  clear hB
  obtain ⟨many, hmany⟩ : ∃ many, manK n = many := ⟨_, rfl⟩
  rw [hmany] at HLEN HRD q4 q5 q6 ⊢
  try rw [hmany] at R7
  try rw [hmany] at HWA
  clear hmany hlen
  go_enter Try.func34, Try.ntmps34
  go_wp2
  rw [HWA.out]
  go_loopw [16] (fun i wr => ∃ k : Nat, k ≤ many ∧ i = .int .i64 k ∧ ∃ a' c', wr.rowIs (w.heap.size + 2) 66 5 (f5 (.int .i64 0) (.int .u8 0) (.slice none 0 0) (.int .i64 0) (.slice a' k c')) ∧ GrB wr (w.heap.size + 3) (.slice a' k c') (B.take k) ∧ Kept WA wr (some (w.heap.size + 2))) (fun i _ => many - (intOf i).toNat)
  case atStart => exact ⟨0, Nat.zero_le _, rfl, none, 0, R7.out, GrB.nil _ _, Kept.refl _ _⟩
  case round =>
    obtain ⟨k, hk, rfl, a', c', hX, hG, hkr⟩ := hrel
    have HX := Hid.mk' hX
    have HG := Hid.mk' hG
    have HK := Hid.mk' hkr
    have HKW : Hid (Kept w wr none) := Hid.mk' (HKA.out.newRow hkr (fun i e => by cases e; omega))
    have D := HDA.out.row hkr (by omega)
    have c0 := D.c0
    have x3 := hX.cell (i := 3) (by omega)
    have x4 := hX.cell (i := 4) (by omega)
    simp [f5] at x3 x4
    clear hX hG hkr D
    by_cases hlt : k < many
    · have hkl : k < B.length := by rw [HLEN.out]; exact hlt
      have HTK : Hid (B.take (k + 1) = B.take k ++ [B.getD k []]) := Hid.mk' (by rw [List.take_succ_eq_append_getElem hkl]; simp [hkl])
      have HPL : Hid ((B.getD k []).length = 64) := Hid.mk' (by
        have e : B.getD k [] = B[k] := by simp [hkl]
        rw [e]; exact H64.out _ (List.getElem_mem hkl))
      have HTL : Hid ((B.take k).length = k) := Hid.mk' (by rw [List.length_take]; omega)
      have HR := Hid.mk' (HRD.out k hlt wr HKW.out)
      clear hkl
      generalize B.getD k [] = p at *
      go_wp2_with (first
        | (have hgo := RUN3; clear hgo; at_builtin; refine Lib.wpList_append_run _ rfl _ _ _ _ rfl _ _ rfl rfl _ _ RUN3.out ?_)
        | (go_at_call 55; refine HR.out.mono ?_; rintro e w2 ⟨a2, rfl, hc2, ha2, hk2⟩; have HX2 := Hid.mk' (rowK HX.out hk2); have x42 := HX2.out.cell (i := 4) (by omega); obtain ⟨v3, w3, hr3, hG3, hk3⟩ := (HG.out.keptN hk2).grow (p := p) (a' := a2) (cap := 64) (by rw [HPL.out]; exact hc2) (fun b eb => ⟨fun ec => by (have h7 := (HG.out.lt _ ec).2; have h8 := (ha2 b eb).1; omega), (ha2 b eb).2, by (have h8 := (ha2 b eb).1; have h9 := HX.out.lt; omega)⟩) (by rw [HTL.out]; omega) (by (have h8 := hk2.size; have h9 := HX.out.lt; omega)); obtain ⟨a3, c3, hv3⟩ := hG3.shape; have hl3 : (List.take k B ++ [p]).length = k + 1 := (List.length_append.trans (congrArg (fun x => x + 1) HTL.out)); rw [hl3] at hv3; subst hv3; rw [HPL.out] at hr3; have RUN3 := Hid.mk' hr3; have G3 := Hid.mk' hG3; have HX3 : Hid (w3.rowIs (w.heap.size + 2) 66 5 (f5 (.int .i64 0) (.int .u8 0) (.slice none 0 0) (.int .i64 0) (.slice a' k c'))) := Hid.mk' (HX2.out.of_block (hk3.block _ HX2.out.lt (fun e => by (have h7 := (HG.out.lt _ e.symm).1; omega)))); have x43 := HX3.out.cell (i := 4) (by omega); have y43 := HX3.out.frozen 4; have K3 : Hid (Kept WA w3 (some (w.heap.size + 2))) := Hid.mk' (kept_two (kept_two HK.out hk2 (fun g e => by cases e)) hk3 (fun g e => .inr (by (have h7 := (HG.out.lt _ e).1; have h8 := HZ.out; omega)))); simp [f5] at x42 x43; clear hr3 hG3 hk3 hk2 hc2 ha2))
      go_roundw
      case rel => exact ⟨k + 1, by omega, by go_num, a3, c3, row5_set4 HX3.out _, by rw [HTK.out]; exact G3.out.set (by omega) 4 _, kept_trR K3.out (dkept_set _ _ _ _)⟩
      case measure => simp [intOf]; omega
    · obtain rfl : k = many := by omega
      have e : B.take k = B := List.take_of_length_le (by rw [HLEN.out]; exact Nat.le_refl _)
      rw [e] at HG
      have HB := Hid.mk' (HG.out.bl HLEN.out (by omega))
      have HKP := Hid.mk' (kept_any (c := c') (HB.out.mono (Nat.zero_le _)) H64.out q4 q5)
      unfold KepP at HKP
      obtain ⟨g, hg⟩ : ∃ g : Int, ((kepK B).gen : Int) = g := ⟨_, rfl⟩
      obtain ⟨md, hmd⟩ : ∃ md : Nat, (kepK B).mode = md := ⟨_, rfl⟩
      rw [hg, hmd] at HKP
      have HGM : Hid (((kepK B).gen : Int) = g ∧ (kepK B).mode = md) := Hid.mk' ⟨hg, hmd⟩
      clear hg hmd e
      go_wp2_with (go_at_call 56; refine HKP.out.mono ?_; rintro e w8 ⟨pa, pn, pc, rfl, hp8, hk8⟩; have P8 := Hid.mk' hp8; have K8 := Hid.mk' hk8; have X8 := Hid.mk' (rowK HX.out hk8); have t0 := X8.out.cell (i := 0) (by omega); have t1 := X8.out.cell (i := 1) (by omega); have t2 := X8.out.cell (i := 2) (by omega); have t3 := X8.out.cell (i := 3) (by omega); have t4 := X8.out.cell (i := 4) (by omega); have y0 := X8.out.frozen 0; have y1 := X8.out.frozen 1; have y2 := X8.out.frozen 2; simp [f5] at t0 t1 t2 t3 t4; have X9 := Hid.mk' (row5_set3 X8.out (.int .i64 g) (.int .u8 (md : Int)) (.slice pa pn pc)); have r0 := X9.out.cell (i := 0) (by omega); have r1 := X9.out.cell (i := 1) (by omega); have r2 := X9.out.cell (i := 2) (by omega); have r3 := X9.out.cell (i := 3) (by omega); have r4 := X9.out.cell (i := 4) (by omega); simp [f5] at r0 r1 r2 r3 r4; have S8 := Hid.mk' (R6.out.of_block ((hk8.block _ (by (have h7 := HK.out.size; have h8 := HZ.out; omega)) (by simp)).trans (HK.out.block _ R6.out.lt (fun e => by (injection e with e; omega))))); have S9 := Hid.mk' (((S8.out.setOther (a := ⟨w.heap.size + 2, 0, none⟩) (show w.heap.size + 1 ≠ w.heap.size + 2 by omega) (.int .i64 g)).setOther (a := ⟨w.heap.size + 2, 1, none⟩) (show w.heap.size + 1 ≠ w.heap.size + 2 by omega) (.int .u8 (md : Int))).setOther (a := ⟨w.heap.size + 2, 2, none⟩) (show w.heap.size + 1 ≠ w.heap.size + 2 by omega) (.slice pa pn pc)); have s0 := S9.out.cell (i := 0) (by omega); have s1 := S9.out.cell (i := 1) (by omega); have s2 := S9.out.cell (i := 2) (by omega); have s3 := S9.out.cell (i := 3) (by omega); have s4 := S9.out.cell (i := 4) (by omega); have z0 := S9.out.frozen 0; have z1 := S9.out.frozen 1; have z2 := S9.out.frozen 2; have z3 := S9.out.frozen 3; have z4 := S9.out.frozen 4; simp [f5] at s0 s1 s2 s3 s4; clear hp8 hk8)
      have hrw := row5_set5 S9.out (.int .i64 g) (.int .u8 (md : Int)) (.slice pa pn pc) (.int .i64 0) (.slice a' k c')
      have v0 := hrw.cell (i := 0) (by omega)
      have v1 := hrw.cell (i := 1) (by omega)
      have v2 := hrw.cell (i := 2) (by omega)
      have v3 := hrw.cell (i := 3) (by omega)
      have v4 := hrw.cell (i := 4) (by omega)
      simp [f5] at v0 v1 v2 v3 v4
      have hz7 := HK.out.size
      have hz8 := HZ.out
      have hB8 := HB.out.kept K8.out
      have hl8 := HLEN.out
      refine bodyPost_ret (v := slV g md pa pn pc 0 a' k c') (by simp [results, Try.results34, go_sem, v0, v1, v2, v3, v4]) rfl ⟨pa, pn, pc, a', c', ?_, ?_, ?_, ?_⟩
      · rw [HGM.out.1, HGM.out.2, HLEN.out]
      · exact ((((((((P8.out.set (x := w.heap.size + 2) (by omega) 0 _).set (x := w.heap.size + 2) (by omega) 1 _).set (x := w.heap.size + 2) (by omega) 2 _).set (x := w.heap.size + 1) (by omega) 0 _).set (x := w.heap.size + 1) (by omega) 1 _).set (x := w.heap.size + 1) (by omega) 2 _).set (x := w.heap.size + 1) (by omega) 3 _).set (x := w.heap.size + 1) (by omega) 4 _).mono (by omega)
      · rw [hl8]
        exact ((((((((hB8.set (x := w.heap.size + 2) (by omega) 0 _).set (x := w.heap.size + 2) (by omega) 1 _).set (x := w.heap.size + 2) (by omega) 2 _).set (x := w.heap.size + 1) (by omega) 0 _).set (x := w.heap.size + 1) (by omega) 1 _).set (x := w.heap.size + 1) (by omega) 2 _).set (x := w.heap.size + 1) (by omega) 3 _).set (x := w.heap.size + 1) (by omega) 4 _).mono (by omega)
      · exact ((((((((HKW.out.tr K8.out).setNew (p := ⟨w.heap.size + 2, 0, none⟩) (show w.heap.size ≤ w.heap.size + 2 by omega) _).setNew (p := ⟨w.heap.size + 2, 1, none⟩) (show w.heap.size ≤ w.heap.size + 2 by omega) _).setNew (p := ⟨w.heap.size + 2, 2, none⟩) (show w.heap.size ≤ w.heap.size + 2 by omega) _).setNew (p := ⟨w.heap.size + 1, 0, none⟩) (show w.heap.size ≤ w.heap.size + 1 by omega) _).setNew (p := ⟨w.heap.size + 1, 1, none⟩) (show w.heap.size ≤ w.heap.size + 1 by omega) _).setNew (p := ⟨w.heap.size + 1, 2, none⟩) (show w.heap.size ≤ w.heap.size + 1 by omega) _).setNew (p := ⟨w.heap.size + 1, 3, none⟩) (show w.heap.size ≤ w.heap.size + 1 by omega) _).setNew (p := ⟨w.heap.size + 1, 4, none⟩) (show w.heap.size ≤ w.heap.size + 1 by omega) _

set_option maxRecDepth 100000 in
set_option maxHeartbeats 4000000 in
theorem slotOf1_any {a : Option Addr} {n c : Nat} {L : List Nat} {w : World} (hC : Come w a n c L) (hask : askE n = 0) :
    Calls Try.prog 34 #[dvV a n c, .int .i64 1, .int .i64 (manK n : Int)] w (SloP w (sltB L 1) (manK n : Int)) := by
  have hs := hC.by_.size
  obtain ⟨q1, q2, q3, q4, q5, q6, q7⟩ := ask_ok hask
  have h64 : ∀ p ∈ sltB L 1, p.length = 64 := slt_64 (by rw [hs]; exact hask) (by omega)
  have hlen : (sltB L 1).length = manK n := by rw [sl_len, hs]
  have HRD : Hid (∀ k, k < manK n → ∀ w', Kept w w' none → Calls Try.prog 55 #[dvV a n c, .int .i64 ((manK n : Int) + (k : Int))] w' fun e w2 => ∃ a2, e = slR a2 64 64 0 ∧ Come w2 a2 64 64 ((sltB L 1).getD k []) ∧ (∀ y, a2 = some y → w'.heap.size ≤ y.block ∧ y.block < w2.heap.size) ∧ Kept w' w2 none) := Hid.mk' (fun k hk w' hw => by
    have h := read_k (hC.kpt hw) hask ((manK n : Int) + (k : Int)) (by omega) (by omega)
    have e : (sltB L 1).getD k [] = blD L (((manK n : Int) + (k : Int)) : Int).toNat := by
      rw [sl_get (by rw [hs]; exact hk), hs]
      congr 1
      omega
    rw [e]
    exact h)
  have hn := hC.by_.max
  have HDb0 := db_alloc w a n c 24
  obtain ⟨WA, hWA⟩ : ∃ WA, ((w.alloc (.cells #[.slice a n c] 24)).alloc (.cells #[.int .i64 0, .int .u8 0, .slice none 0 0, .int .i64 0, .slice none 0 0] 66)).alloc (.cells #[.int .i64 0, .int .u8 0, .slice none 0 0, .int .i64 (manK n : Int), .slice none 0 0] 66) = WA := ⟨_, rfl⟩
  have hkA : Kept w WA none := by rw [← hWA]; exact ((Kept.alloc _ _ _ _ _).tr (Kept.alloc _ _ _ _ _)).tr (Kept.alloc _ _ _ _ _)
  have hzA : WA.heap.size = w.heap.size + 3 := by rw [← hWA]; simp
  have R6 : WA.rowIs (w.heap.size + 1) 66 5 (f5 (.int .i64 0) (.int .u8 0) (.slice none 0 0) (.int .i64 0) (.slice none 0 0)) := by
    have h := (row5 (w.alloc (.cells #[.slice a n c] 24)) (.int .i64 0) (.int .u8 0) (.slice none 0 0) (.int .i64 0) (.slice none 0 0) 66).alloc (.cells #[.int .i64 0, .int .u8 0, .slice none 0 0, .int .i64 (manK n : Int), .slice none 0 0] 66)
    rw [World.size_alloc] at h
    rw [← hWA]
    exact h
  have R7 : WA.rowIs (w.heap.size + 2) 66 5 (f5 (.int .i64 0) (.int .u8 0) (.slice none 0 0) (.int .i64 (manK n : Int)) (.slice none 0 0)) := by
    have h := row5 ((w.alloc (.cells #[.slice a n c] 24)).alloc (.cells #[.int .i64 0, .int .u8 0, .slice none 0 0, .int .i64 0, .slice none 0 0] 66)) (.int .i64 0) (.int .u8 0) (.slice none 0 0) (.int .i64 (manK n : Int)) (.slice none 0 0) 66
    simp only [World.size_alloc] at h
    rw [← hWA]
    exact h
  have DbA : Db WA w.heap.size a n c := by
    rw [← hWA]
    exact (HDb0.kept (Kept.alloc _ _ _ _ _)).kept (Kept.alloc _ _ _ _ _)
  have R6 := Hid.mk' R6
  have R7 := Hid.mk' R7
  have HDA := Hid.mk' DbA
  have HKA := Hid.mk' hkA
  have HWA := Hid.mk' hWA
  have HZ := Hid.mk' hzA
  have H64 := Hid.mk' h64
  have HLEN := Hid.mk' hlen
  clear hC hs HDb0 DbA hkA hWA hzA h64
  generalize hB : sltB L 1 = B at *
  clear hB
  obtain ⟨many, hmany⟩ : ∃ many, manK n = many := ⟨_, rfl⟩
  rw [hmany] at HLEN HRD q4 q5 q6 ⊢
  try rw [hmany] at R7
  try rw [hmany] at HWA
  clear hmany hlen
  go_enter Try.func34, Try.ntmps34
  go_wp2
  rw [HWA.out]
  go_loopw [16] (fun i wr => ∃ k : Nat, k ≤ many ∧ i = .int .i64 k ∧ ∃ a' c', wr.rowIs (w.heap.size + 2) 66 5 (f5 (.int .i64 0) (.int .u8 0) (.slice none 0 0) (.int .i64 (many : Int)) (.slice a' k c')) ∧ GrB wr (w.heap.size + 3) (.slice a' k c') (B.take k) ∧ Kept WA wr (some (w.heap.size + 2))) (fun i _ => many - (intOf i).toNat)
  case atStart => exact ⟨0, Nat.zero_le _, rfl, none, 0, R7.out, GrB.nil _ _, Kept.refl _ _⟩
  case round =>
    obtain ⟨k, hk, rfl, a', c', hX, hG, hkr⟩ := hrel
    have HX := Hid.mk' hX
    have HG := Hid.mk' hG
    have HK := Hid.mk' hkr
    have HKW : Hid (Kept w wr none) := Hid.mk' (HKA.out.newRow hkr (fun i e => by cases e; omega))
    have D := HDA.out.row hkr (by omega)
    have c0 := D.c0
    have x3 := hX.cell (i := 3) (by omega)
    have x4 := hX.cell (i := 4) (by omega)
    simp [f5] at x3 x4
    clear hX hG hkr D
    by_cases hlt : k < many
    · have hkl : k < B.length := by rw [HLEN.out]; exact hlt
      have HTK : Hid (B.take (k + 1) = B.take k ++ [B.getD k []]) := Hid.mk' (by rw [List.take_succ_eq_append_getElem hkl]; simp [hkl])
      have HPL : Hid ((B.getD k []).length = 64) := Hid.mk' (by
        have e : B.getD k [] = B[k] := by simp [hkl]
        rw [e]; exact H64.out _ (List.getElem_mem hkl))
      have HTL : Hid ((B.take k).length = k) := Hid.mk' (by rw [List.length_take]; omega)
      have HR := Hid.mk' (HRD.out k hlt wr HKW.out)
      clear hkl
      generalize B.getD k [] = p at *
      go_wp2_with (first
        | (have hgo := RUN3; clear hgo; at_builtin; refine Lib.wpList_append_run _ rfl _ _ _ _ rfl _ _ rfl rfl _ _ RUN3.out ?_)
        | (go_at_call 55; refine HR.out.mono ?_; rintro e w2 ⟨a2, rfl, hc2, ha2, hk2⟩; have HX2 := Hid.mk' (rowK HX.out hk2); have x42 := HX2.out.cell (i := 4) (by omega); obtain ⟨v3, w3, hr3, hG3, hk3⟩ := (HG.out.keptN hk2).grow (p := p) (a' := a2) (cap := 64) (by rw [HPL.out]; exact hc2) (fun b eb => ⟨fun ec => by (have h7 := (HG.out.lt _ ec).2; have h8 := (ha2 b eb).1; omega), (ha2 b eb).2, by (have h8 := (ha2 b eb).1; have h9 := HX.out.lt; omega)⟩) (by rw [HTL.out]; omega) (by (have h8 := hk2.size; have h9 := HX.out.lt; omega)); obtain ⟨a3, c3, hv3⟩ := hG3.shape; have hl3 : (List.take k B ++ [p]).length = k + 1 := (List.length_append.trans (congrArg (fun x => x + 1) HTL.out)); rw [hl3] at hv3; subst hv3; rw [HPL.out] at hr3; have RUN3 := Hid.mk' hr3; have G3 := Hid.mk' hG3; have HX3 : Hid (w3.rowIs (w.heap.size + 2) 66 5 (f5 (.int .i64 0) (.int .u8 0) (.slice none 0 0) (.int .i64 (many : Int)) (.slice a' k c'))) := Hid.mk' (HX2.out.of_block (hk3.block _ HX2.out.lt (fun e => by (have h7 := (HG.out.lt _ e.symm).1; omega)))); have x43 := HX3.out.cell (i := 4) (by omega); have y43 := HX3.out.frozen 4; have K3 : Hid (Kept WA w3 (some (w.heap.size + 2))) := Hid.mk' (kept_two (kept_two HK.out hk2 (fun g e => by cases e)) hk3 (fun g e => .inr (by (have h7 := (HG.out.lt _ e).1; have h8 := HZ.out; omega)))); simp [f5] at x42 x43; clear hr3 hG3 hk3 hk2 hc2 ha2))
      go_roundw
      case rel => exact ⟨k + 1, by omega, by go_num, a3, c3, row5_set4 HX3.out _, by rw [HTK.out]; exact G3.out.set (by omega) 4 _, kept_trR K3.out (dkept_set _ _ _ _)⟩
      case measure => simp [intOf]; omega
    · obtain rfl : k = many := by omega
      have e : B.take k = B := List.take_of_length_le (by rw [HLEN.out]; exact Nat.le_refl _)
      rw [e] at HG
      have HB := Hid.mk' (HG.out.bl HLEN.out (by omega))
      have HKP := Hid.mk' (kept_any (c := c') (HB.out.mono (Nat.zero_le _)) H64.out q4 q5)
      unfold KepP at HKP
      obtain ⟨g, hg⟩ : ∃ g : Int, ((kepK B).gen : Int) = g := ⟨_, rfl⟩
      obtain ⟨md, hmd⟩ : ∃ md : Nat, (kepK B).mode = md := ⟨_, rfl⟩
      rw [hg, hmd] at HKP
      have HGM : Hid (((kepK B).gen : Int) = g ∧ (kepK B).mode = md) := Hid.mk' ⟨hg, hmd⟩
      clear hg hmd e
      go_wp2_with (go_at_call 56; refine HKP.out.mono ?_; rintro e w8 ⟨pa, pn, pc, rfl, hp8, hk8⟩; have P8 := Hid.mk' hp8; have K8 := Hid.mk' hk8; have X8 := Hid.mk' (rowK HX.out hk8); have t0 := X8.out.cell (i := 0) (by omega); have t1 := X8.out.cell (i := 1) (by omega); have t2 := X8.out.cell (i := 2) (by omega); have t3 := X8.out.cell (i := 3) (by omega); have t4 := X8.out.cell (i := 4) (by omega); have y0 := X8.out.frozen 0; have y1 := X8.out.frozen 1; have y2 := X8.out.frozen 2; simp [f5] at t0 t1 t2 t3 t4; have X9 := Hid.mk' (row5_set3 X8.out (.int .i64 g) (.int .u8 (md : Int)) (.slice pa pn pc)); have r0 := X9.out.cell (i := 0) (by omega); have r1 := X9.out.cell (i := 1) (by omega); have r2 := X9.out.cell (i := 2) (by omega); have r3 := X9.out.cell (i := 3) (by omega); have r4 := X9.out.cell (i := 4) (by omega); simp [f5] at r0 r1 r2 r3 r4; have S8 := Hid.mk' (R6.out.of_block ((hk8.block _ (by (have h7 := HK.out.size; have h8 := HZ.out; omega)) (by simp)).trans (HK.out.block _ R6.out.lt (fun e => by (injection e with e; omega))))); have S9 := Hid.mk' (((S8.out.setOther (a := ⟨w.heap.size + 2, 0, none⟩) (show w.heap.size + 1 ≠ w.heap.size + 2 by omega) (.int .i64 g)).setOther (a := ⟨w.heap.size + 2, 1, none⟩) (show w.heap.size + 1 ≠ w.heap.size + 2 by omega) (.int .u8 (md : Int))).setOther (a := ⟨w.heap.size + 2, 2, none⟩) (show w.heap.size + 1 ≠ w.heap.size + 2 by omega) (.slice pa pn pc)); have s0 := S9.out.cell (i := 0) (by omega); have s1 := S9.out.cell (i := 1) (by omega); have s2 := S9.out.cell (i := 2) (by omega); have s3 := S9.out.cell (i := 3) (by omega); have s4 := S9.out.cell (i := 4) (by omega); have z0 := S9.out.frozen 0; have z1 := S9.out.frozen 1; have z2 := S9.out.frozen 2; have z3 := S9.out.frozen 3; have z4 := S9.out.frozen 4; simp [f5] at s0 s1 s2 s3 s4; clear hp8 hk8)
      have hrw := row5_set5 S9.out (.int .i64 g) (.int .u8 (md : Int)) (.slice pa pn pc) (.int .i64 (k : Int)) (.slice a' k c')
      have v0 := hrw.cell (i := 0) (by omega)
      have v1 := hrw.cell (i := 1) (by omega)
      have v2 := hrw.cell (i := 2) (by omega)
      have v3 := hrw.cell (i := 3) (by omega)
      have v4 := hrw.cell (i := 4) (by omega)
      simp [f5] at v0 v1 v2 v3 v4
      have hz7 := HK.out.size
      have hz8 := HZ.out
      have hB8 := HB.out.kept K8.out
      have hl8 := HLEN.out
      refine bodyPost_ret (v := slV g md pa pn pc (k : Int) a' k c') (by simp [results, Try.results34, go_sem, v0, v1, v2, v3, v4]) rfl ⟨pa, pn, pc, a', c', ?_, ?_, ?_, ?_⟩
      · rw [HGM.out.1, HGM.out.2, HLEN.out]
      · exact ((((((((P8.out.set (x := w.heap.size + 2) (by omega) 0 _).set (x := w.heap.size + 2) (by omega) 1 _).set (x := w.heap.size + 2) (by omega) 2 _).set (x := w.heap.size + 1) (by omega) 0 _).set (x := w.heap.size + 1) (by omega) 1 _).set (x := w.heap.size + 1) (by omega) 2 _).set (x := w.heap.size + 1) (by omega) 3 _).set (x := w.heap.size + 1) (by omega) 4 _).mono (by omega)
      · rw [hl8]
        exact ((((((((hB8.set (x := w.heap.size + 2) (by omega) 0 _).set (x := w.heap.size + 2) (by omega) 1 _).set (x := w.heap.size + 2) (by omega) 2 _).set (x := w.heap.size + 1) (by omega) 0 _).set (x := w.heap.size + 1) (by omega) 1 _).set (x := w.heap.size + 1) (by omega) 2 _).set (x := w.heap.size + 1) (by omega) 3 _).set (x := w.heap.size + 1) (by omega) 4 _).mono (by omega)
      · exact ((((((((HKW.out.tr K8.out).setNew (p := ⟨w.heap.size + 2, 0, none⟩) (show w.heap.size ≤ w.heap.size + 2 by omega) _).setNew (p := ⟨w.heap.size + 2, 1, none⟩) (show w.heap.size ≤ w.heap.size + 2 by omega) _).setNew (p := ⟨w.heap.size + 2, 2, none⟩) (show w.heap.size ≤ w.heap.size + 2 by omega) _).setNew (p := ⟨w.heap.size + 1, 0, none⟩) (show w.heap.size ≤ w.heap.size + 1 by omega) _).setNew (p := ⟨w.heap.size + 1, 1, none⟩) (show w.heap.size ≤ w.heap.size + 1 by omega) _).setNew (p := ⟨w.heap.size + 1, 2, none⟩) (show w.heap.size ≤ w.heap.size + 1 by omega) _).setNew (p := ⟨w.heap.size + 1, 3, none⟩) (show w.heap.size ≤ w.heap.size + 1 by omega) _).setNew (p := ⟨w.heap.size + 1, 4, none⟩) (show w.heap.size ≤ w.heap.size + 1 by omega) _

end Go.Proofs.Ytlabjamkaebnjaa
