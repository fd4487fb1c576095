/-
  THE CONTRACT of store's blocksOf.
-/
import Derived.Test.YtmjkhafifemegabSto2J
import Derived.Test.YtmjkhafifemegabRefReadJ
namespace Go.Proofs.Ytmjkhafifemegab
open Go.RowKit Go.Lib Go.Deep
set_option linter.unusedVariables false
set_option linter.unusedSimpArgs false

theorem Come.kptR {w w' : World} {r : Nat} {a : Option Addr} {n c : Nat} {L : List Nat} (h : Come w a n c L) (k : Kept w w' (some r)) (hr : ∀ x, a = some x → x.block ≠ r) : Come w' a n c L := by
  refine ⟨⟨h.by_.size, h.by_.max, h.by_.lt, fun hp => ?_⟩, h.nil, h.room, h.max⟩
  obtain ⟨b, off, e, hb, hc⟩ := h.by_.at_ hp
  refine ⟨b, off, e, Nat.lt_of_lt_of_le hb k.size, fun i hi => ?_⟩
  have hne : some b ≠ some r := by
    intro q; injection q with q; exact hr _ e q
  exact (World.cell?_of_block (w := w) (a := ⟨b, off + i, none⟩) (k.block b hb hne)).trans (hc i hi)
theorem bl_three {w : World} {a1 a2 a3 : Option Addr} {c1 c2 c3 : Nat} {A B C : List Nat} (h1 : Come w a1 A.length c1 A) (h2 : Come w a2 B.length c2 B) (h3 : Come w a3 C.length c3 C) : Bl (w.alloc (.cells #[.slice a1 A.length c1, .slice a2 B.length c2, .slice a3 C.length c3] 22)) 0 (some ⟨w.heap.size, 0, none⟩) 3 [A, B, C] := by
  refine ⟨rfl, by omega, fun _ => ⟨_, 0, rfl, Nat.zero_le _, by simp, fun i p hp => ?_⟩⟩
  have hk : Kept w (w.alloc (.cells #[.slice a1 A.length c1, .slice a2 B.length c2, .slice a3 C.length c3] 22)) none := Kept.alloc _ _ _ _ _
  match i, hp with
  | 0, hp =>
    obtain rfl : A = p := by simpa using hp
    exact ⟨a1, c1, World.cell?_alloc_mark .., h1.kpt hk, fun _ _ => Nat.zero_le _⟩
  | 1, hp =>
    obtain rfl : B = p := by simpa using hp
    exact ⟨a2, c2, World.cell?_alloc_mark .., h2.kpt hk, fun _ _ => Nat.zero_le _⟩
  | 2, hp =>
    obtain rfl : C = p := by simpa using hp
    exact ⟨a3, c3, World.cell?_alloc_mark .., h3.kpt hk, fun _ _ => Nat.zero_le _⟩
  | k + 3, hp => simp at hp
theorem conc3_any {w : World} {a1 a2 : Option Addr} {c1 c2 g : Nat} {p : List Nat} (h1 : Come w a1 8 c1 (leb 8 g)) (h2 : Come w a2 48 c2 p) :
    Calls Try.prog 36 #[.slice (some ⟨w.heap.size, 0, none⟩) 3 3] (w.alloc (.cells #[.slice a1 8 c1, .slice a2 48 c2, .slice a1 8 c1] 22)) fun e w' => ∃ a cap, e = .returned (.slice a 64 cap) ∧ Mine w' (w.heap.size + 1) a 64 cap (bkK g p) ∧ Kept w w' none := by
  have e8 : (leb 8 g).length = 8 := leb_length 8 g
  have ep : p.length = 48 := h2.by_.size
  have hB := bl_three (c1 := c1) (c2 := c2) (c3 := c1) (by rw [e8]; exact h1) (by rw [ep]; exact h2) (by rw [e8]; exact h1)
  rw [e8, ep] at hB
  have ef : [leb 8 g, p, leb 8 g].flatten = bkK g p := by simp [bkK]
  have el : (bkK g p).length = 64 := bk_len ep
  have hc := conc_any (c := 3) hB (by rw [ef, el]; decide) (by rw [ef, el]; decide)
  rw [ef, el] at hc
  refine hc.mono ?_
  rintro e w' ⟨a, cap, rfl, hm, hk⟩
  rw [World.size_alloc] at hm
  exact ⟨a, cap, rfl, hm, (Kept.alloc _ _ _ _ _).tr hk⟩
/-- A list of blocks that is being made: the first k are there. -/
structure Fl (w0 w : World) (G m k : Nat) (B : List (List Nat)) : Prop where
  ex : ∃ r : Nat → Option Addr × Nat, w.rowIs G 22 m (fun i => if i < k then .slice (r i).1 64 (r i).2 else .slice none 0 0) ∧ ∀ i, i < k → Come w (r i).1 64 (r i).2 (B.getD i []) ∧ ∀ x, (r i).1 = some x → G < x.block
  kept : Kept w0 w none
  at_ : w0.heap.size ≤ G
theorem Fl.put {w0 w w3 : World} {G m k : Nat} {B : List (List Nat)} {a : Option Addr} {cap : Nat} (h : Fl w0 w G m k B) (hk : Kept w w3 none) (hC : Come w3 a 64 cap (B.getD k [])) (ha : ∀ x, a = some x → G < x.block) : Fl w0 (w3.setCell ⟨G, k, none⟩ (.slice a 64 cap)) G m (k + 1) B := by
  obtain ⟨r, h1, h2⟩ := h.ex
  have h3 : w3.rowIs G 22 m (fun i => if i < k then .slice (r i).1 64 (r i).2 else .slice none 0 0) := h1.of_block (hk.block G h1.lt (by simp))
  have hs := dkept_set w3 G k (.slice a 64 cap)
  refine ⟨⟨fun i => if i = k then (a, cap) else r i, (h3.set k _).congr (fun i hi => ?_), fun i hi => ?_⟩, ?_, h.at_⟩
  · show (if i = k then _ else _) = _
    by_cases e : i = k
    · subst e; simp
    · by_cases e2 : i < k
      · simp [e, e2, show i < k + 1 by omega]
      · simp [e, e2, show ¬ i < k + 1 by omega]
  · by_cases e : i = k
    · subst e
      simp only [if_pos rfl]
      exact ⟨hC.kptR hs (fun x hx => by have := ha x hx; omega), ha⟩
    · simp only [if_neg e]
      obtain ⟨q1, q2⟩ := h2 i (by omega)
      exact ⟨(q1.kpt hk).kptR hs (fun x hx => by have := q2 x hx; omega), q2⟩
  · exact (h.kept.tr hk).newRow hs (fun i e => by cases e; exact h.at_)
theorem Fl.bl {w0 w : World} {G m : Nat} {B : List (List Nat)} (h : Fl w0 w G m m B) (hB : B.length = m) (h64 : ∀ p ∈ B, p.length = 64) (hm : m ≤ 1000) : Bl w w0.heap.size (some ⟨G, 0, none⟩) m B := by
  obtain ⟨r, h1, h2⟩ := h.ex
  refine ⟨hB, by omega, fun hp => ⟨G, 0, rfl, h.at_, h1.lt, fun i p hp => ?_⟩⟩
  have hi : i < m := by have := (List.getElem?_eq_some_iff.1 hp).1; omega
  obtain ⟨q1, q2⟩ := h2 i hi
  have e : B.getD i [] = p := by rw [List.getD_eq_getElem?_getD, hp]; rfl
  have el : p.length = 64 := h64 p (List.mem_of_getElem? hp)
  rw [e] at q1
  rw [el]
  refine ⟨_, _, ?_, q1, fun x hx => Nat.le_of_lt (Nat.lt_of_le_of_lt h.at_ (q2 x hx))⟩
  rw [Nat.zero_add, h1.cell hi, if_pos hi]
/-- Blocks of a Gen, of pieces. -/
def bkL (g : Nat) (P : List (List Nat)) : List (List Nat) := P.map (bkK g)
set_option maxRecDepth 100000 in
set_option maxHeartbeats 4000000 in
theorem blocksOf_any {la : Option Addr} {m c g : Nat} {P : List (List Nat)} {w : World} (hP : Bl w 0 la m P) (h48 : ∀ p ∈ P, p.length = 48) (hg : g < gtop) (hm : m ≤ 1000) :
    Calls Try.prog 20 #[.int .i64 (g : Int), .slice la m c] w fun e w' => ∃ a cap, e = .returned (.slice a m cap) ∧ Bl w' w.heap.size a m (bkL g P) ∧ Kept w w' none := by
  have HB := Hid.mk' hP
  have HS := Hid.mk' hP.size
  have H48 := Hid.mk' h48
  have hg2 : g < 4611686018427387904 := hg
  have HPU := Hid.mk' (fun w' => put_yes g 8 w' (by omega) (by omega) (by omega) (by show g / 256 ^ 8 = 0; omega))
  have HLB := Hid.mk' (leb_length 8 g)
  have hmk := run_make_row' (P := Try.prog) 46 22 (.slice none 0 0) 24 Try.uB2 Try.infoB2 rfl .i64 .i64 m (by omega) (by omega)
  have HBL : Hid (∀ k, k < m → (bkL g P).getD k [] = bkK g (P.getD k [])) := Hid.mk' (fun k hk => by unfold bkL; simp [HS.out, hk])
  have HP8 : Hid (∀ k, k < m → (P.getD k []).length = 48) := Hid.mk' (fun k hk => by
    have hk' : k < P.length := by rw [HS.out]; exact hk
    have : P.getD k [] = P[k] := by simp [hk']
    rw [this]
    exact H48.out _ (List.getElem_mem hk'))
  clear hP h48 hg
  go_enter Try.func20, Try.ntmps20
  go_wp2_with (go_at_call 35; refine (HPU.out _).mono ?_; rintro e w1 ⟨rfl, hb1, hk1, hz1⟩; have B1 := Hid.mk' hb1; have K1 := Hid.mk' hk1; have HGn : Hid (w.heap.size < w1.heap.size) := Hid.mk' (by omega); clear hb1 hk1 hz1)
  have hF0 : Fl w (w1.alloc (.cells (madeCells #[.slice none 0 0] m) 22)) w1.heap.size m 0 (bkL g P) := ⟨⟨fun _ => (none, 0), (World.rowIs_made w1 (.slice none 0 0) m 22).congr (fun i hi => by simp), fun i hi => absurd hi (by omega)⟩, K1.out.tr (Kept.alloc _ _ _ _ _), K1.out.size⟩
  have hN0 : Come (w1.alloc (.cells (madeCells #[.slice none 0 0] m) 22)) (some ⟨w.heap.size, 0, none⟩) 8 8 (leb 8 g) := ⟨B1.out.kept (Kept.alloc _ _ _ _ _), fun e => (nomatch e), Nat.le_refl _, by omega⟩
  have F0 := Hid.mk' hF0
  have N0 := Hid.mk' hN0
  clear hF0 hN0 hmk
  obtain ⟨WA, hWA⟩ : ∃ WA, (w1.alloc (.cells (madeCells #[.slice none 0 0] m) 22)) = WA := ⟨_, rfl⟩
  rw [hWA] at F0 N0 ⊢
  clear hWA
  obtain ⟨G, hG⟩ : ∃ G, w1.heap.size = G := ⟨_, rfl⟩
  rw [hG] at F0 HGn ⊢
  clear hG
  go_loopw [21] (fun i wr => ∃ k : Nat, k ≤ m ∧ i = .int .i64 k ∧ Fl w wr G m k (bkL g P) ∧ Kept WA wr (some G)) (fun i _ => m - (intOf i).toNat)
  case atStart => exact ⟨0, Nat.zero_le _, rfl, F0.out, Kept.refl _ _⟩
  case round =>
    obtain ⟨k, hk, rfl, hF, hkr⟩ := hrel
    have HF := Hid.mk' hF
    have HK := Hid.mk' hkr
    clear hF hkr
    by_cases hlt : k < m
    · obtain ⟨b1, o1, a1, c1, rfl, hb1, p1, hC1⟩ := (HB.out.kept HF.out.kept).get hlt
      rw [HP8.out k hlt] at p1 hC1
      have hNr : Come wr (some ⟨w.heap.size, 0, none⟩) 8 8 (leb 8 g) := N0.out.kptR HK.out (fun x hx => by cases hx; have := HGn.out; show w.heap.size ≠ G; omega)
      have HC := Hid.mk' (conc3_any hNr hC1)
      have HBk := Hid.mk' (HBL.out k hlt)
      have HPL := Hid.mk' hC1.by_.lt
      clear hC1 hNr
      generalize P.getD k [] = p at *
      obtain ⟨r, hr1, hr2⟩ := HF.out.ex
      have HR1 := Hid.mk' hr1
      clear hr1 hr2
      go_wp2_with (go_at_call 36; refine HC.out.mono ?_; rintro e w3 ⟨a3, cap3, rfl, hm3, hk3⟩; have M3 := Hid.mk' hm3; have K3 := Hid.mk' hk3; have hrow := HR1.out.of_block (hk3.block G HR1.out.lt (by simp)); have hcl := hrow.cell hlt; have hfr := hrow.frozen k; rw [if_neg (Nat.lt_irrefl k)] at hcl; clear hm3 hk3 hrow)
      go_roundw
      case rel =>
        have hz := HK.out.size
        refine ⟨k + 1, by omega, by go_num, HF.out.put K3.out (by rw [HBk.out]; exact mineCome M3.out (bk_lt HPL.out)) (fun x hx => ?_), ?_⟩
        · have := mineAt M3.out x hx
          have := HR1.out.lt
          omega
        · exact kept_trR (kept_trR HK.out (K3.out.sm _)) (dkept_set _ _ _ _)
      case measure => simp [intOf]; omega
    · obtain rfl : k = m := by omega
      go_wp2
      go_ret
      refine ⟨_, _, rfl, HF.out.bl (by unfold bkL; rw [List.length_map, HS.out]) (fun p hp => ?_) hm, HF.out.kept⟩
      obtain ⟨q, hq, rfl⟩ := List.mem_map.1 hp
      exact bk_len (H48.out q hq)

end Go.Proofs.Ytmjkhafifemegab
