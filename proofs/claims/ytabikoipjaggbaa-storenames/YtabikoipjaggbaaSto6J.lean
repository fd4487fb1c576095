/-
  Texts joined: some of those that the proofs of this seat stand on.
-/
import Derived.Test.YtabikoipjaggbaaSto4J
import Derived.Test.YtabikoipjaggbaaSSiteR0J
/-
  THE CONTRACT of store.Blocks.
-/
namespace Go.Proofs.Ytabikoipjaggbaa
open Go.RowKit Go.Lib Go.Deep
set_option linter.unusedVariables false
set_option linter.unusedSimpArgs false

abbrev kpV (g : Int) (m : Nat) (pa : Option Addr) (n c : Nat) : Value := .agg #[.int .i64 g, .int .u8 (m : Int), .slice pa n c]
/-- What Blocks answers. -/
def StoP (w : World) (g : Int) (m : Nat) (l : List Pl) (many : Int) (e : Ending) (w' : World) : Prop := ∃ a cap, e = .returned (.tuple #[.slice a (stoL g m l many).length cap, .int .i64 (stoE g m l many)]) ∧ Bl w' w.heap.size a (stoL g m l many).length (stoL g m l many) ∧ Kept w w' none
theorem sto_no {w w' : World} {g : Int} {m : Nat} {l : List Pl} {many E : Int} (hE : stoE g m l many = E) (h0 : E ≠ 0) (hk : Kept w w' none) : StoP w g m l many (.returned (.tuple #[.slice none 0 0, .int .i64 E])) w' := by
  have e : stoL g m l many = [] := by unfold stoL; rw [hE, if_neg h0]
  refine ⟨none, 0, by rw [e, hE]; rfl, by rw [e]; exact Bl.nil _ _ _, hk⟩
theorem bls_bkl (g m : Nat) (l : List Pl) (many : Nat) (h : pieE m l many = 0) : bkL g (pieL m l many) = blsK g m l many := by
  unfold bkL pieL blsK
  rw [if_pos h, List.map_map]
  rfl
theorem pie_len {m : Nat} {l : List Pl} {many : Nat} (h : pieE m l many = 0) : (pieL m l many).length = many := by unfold pieL; rw [if_pos h]; simp
theorem pie_48 {m : Nat} {l : List Pl} {many : Nat} : ∀ p ∈ pieL m l many, p.length = 48 := by
  intro p hp
  unfold pieL at hp
  split at hp
  · next h =>
    obtain ⟨i, hi, rfl⟩ := List.mem_map.1 hp
    exact pc_len (fil_len (pie_fit h).2) (List.mem_range.1 hi)
  · cases hp
set_option maxHeartbeats 1000000 in
theorem sblocks_bad1 {pa : Option Addr} {n c : Nat} {g : Int} {m : Nat} {many : Int} (w : World) (h : many < 1) : Calls Try.prog 80 #[kpV g m pa n c, .int .i64 many] w fun e w' => e = .returned (.tuple #[.slice none 0 0, .int .i64 2]) ∧ Kept w w' none := by
  go_enter Try.func80, Try.ntmps80
  go_wp2
  go_ret2
  exact ⟨rfl, Kept.alloc _ _ _ _ _⟩
set_option maxHeartbeats 1000000 in
theorem sblocks_bad2 {pa : Option Addr} {n c : Nat} {g : Int} {m : Nat} {many : Int} (w : World) (h : ¬ many < 1) (h2 : 32 < many) : Calls Try.prog 80 #[kpV g m pa n c, .int .i64 many] w fun e w' => e = .returned (.tuple #[.slice none 0 0, .int .i64 2]) ∧ Kept w w' none := by
  go_enter Try.func80, Try.ntmps80
  go_wp2
  go_ret2
  exact ⟨rfl, Kept.alloc _ _ _ _ _⟩
set_option maxHeartbeats 1000000 in
theorem sblocks_bad3 {pa : Option Addr} {n c : Nat} {g : Int} {m : Nat} {many : Int} (w : World) (h : ¬ many < 1) (h2 : ¬ 32 < many) (hg : g < 1) : Calls Try.prog 80 #[kpV g m pa n c, .int .i64 many] w fun e w' => e = .returned (.tuple #[.slice none 0 0, .int .i64 190]) ∧ Kept w w' none := by
  go_enter Try.func80, Try.ntmps80
  go_wp2
  go_ret2
  exact ⟨rfl, Kept.alloc _ _ _ _ _⟩
set_option maxHeartbeats 1000000 in
theorem sblocks_bad4 {pa : Option Addr} {n c : Nat} {g : Int} {m : Nat} {many : Int} (w : World) (h : ¬ many < 1) (h2 : ¬ 32 < many) (hg : ¬ g < 1) (hg2 : 4611686018427387904 ≤ g) : Calls Try.prog 80 #[kpV g m pa n c, .int .i64 many] w fun e w' => e = .returned (.tuple #[.slice none 0 0, .int .i64 190]) ∧ Kept w w' none := by
  go_enter Try.func80, Try.ntmps80
  go_wp2
  go_ret2
  exact ⟨rfl, Kept.alloc _ _ _ _ _⟩
set_option maxHeartbeats 1000000 in
theorem sblocks_bad5 {pa : Option Addr} {n c : Nat} {g : Int} {m : Nat} {many : Int} (w : World) (h : ¬ many < 1) (h2 : ¬ 32 < many) (hg : ¬ g < 1) (hg2 : ¬ 4611686018427387904 ≤ g) (hm : 3 < m) : Calls Try.prog 80 #[kpV g m pa n c, .int .i64 many] w fun e w' => e = .returned (.tuple #[.slice none 0 0, .int .i64 190]) ∧ Kept w w' none := by
  have hm' : (3 : Int) < (m : Int) := by omega
  go_enter Try.func80, Try.ntmps80
  go_wp2
  go_ret2
  exact ⟨rfl, Kept.alloc _ _ _ _ _⟩
theorem blocksOf_anyI {la : Option Addr} {m c : Nat} {g : Int} {P : List (List Nat)} {w : World} (hP : Bl w 0 la m P) (h48 : ∀ p ∈ P, p.length = 48) (h0 : 0 ≤ g) (hg : g < 4611686018427387904) (hm : m ≤ 1000) :
    Calls Try.prog 28 #[.int .i64 g, .slice la m c] w fun e w' => ∃ a cap, e = .returned (.slice a m cap) ∧ Bl w' w.heap.size a m (bkL g.toNat P) ∧ Kept w w' none := by
  obtain ⟨k, rfl⟩ := Int.eq_ofNat_of_zero_le h0
  exact blocksOf_any hP h48 (by unfold gtop; omega) hm
set_option maxRecDepth 100000 in
set_option maxHeartbeats 1000000 in
theorem sblocks_ok {pa : Option Addr} {n c : Nat} {l : List Pl} {g : Int} {m many : Nat} {w : World} (hP : Plans w pa n c l) (h1 : 1 ≤ many) (h2 : many ≤ 32) (hg1 : 1 ≤ g) (hg2 : g < 4611686018427387904) (hm : m ≤ 3) :
    Calls Try.prog 80 #[kpV g m pa n c, .int .i64 (many : Int)] w (StoP w g m l (many : Int)) := by
  have hE : stoE g m l (many : Int) = pieE m l many := by
    unfold stoE gtop
    rw [if_pos (by omega), if_pos (by omega), Int.toNat_natCast]
  have HPI := Hid.mk' (fun w' (hk : Kept w w' none) => pieces_any (hP.kept hk) hm h1 h2)
  have hm' : (m : Int) ≤ 3 := by omega
  have hk0 : Kept w (w.alloc (.cells #[.int .i64 g, .int .u8 (m : Int), .slice pa n c] 30)) none := Kept.alloc _ _ _ _ _
  have HK0 := Hid.mk' hk0
  have hx0 := World.cell?_alloc_mark w #[.int .i64 g, .int .u8 (m : Int), .slice pa n c] 30 (0, 0) 0
  have HX0 : Hid ((w.alloc (.cells #[.int .i64 g, .int .u8 (m : Int), .slice pa n c] 30)).cell? ⟨w.heap.size, 0, none⟩ = some (.int .i64 g)) := Hid.mk' hx0
  clear hP hx0
  by_cases hp : pieE m l many = 0
  · have hL : stoL g m l (many : Int) = blsK g.toNat m l many := by
      unfold stoL
      rw [hE, if_pos hp, Int.toNat_natCast]
    have HL := Hid.mk' hL
    have HE : Hid (stoE g m l (many : Int) = 0) := Hid.mk' (hE.trans hp)
    have HBK := Hid.mk' (bls_bkl g.toNat m l many hp)
    have HPL := Hid.mk' (pie_len hp)
    have HP := Hid.mk' hp
    clear hL hp hE
    go_enter Try.func80, Try.ntmps80
    go_wp2_with (first
      | (have hgo := B1; clear hgo; go_at_call 28; refine (blocksOf_anyI (B1.out.mono (Nat.zero_le _)) pie_48 (by omega) hg2 (by omega)).mono ?_; rintro e w2 ⟨a2, c2, rfl, hb2, hk2⟩; have B2 := Hid.mk' hb2; have K2 := Hid.mk' hk2; clear hb2 hk2)
      | (go_at_call 25; refine (HPI.out _ HK0.out).mono ?_; rintro e w1 ⟨a1, c1, rfl, hb1, hk1⟩; rw [HPL.out] at hb1; rw [HP.out, HPL.out]; have x0 := (cell_kpt hk1 (by simp)).trans HX0.out; have B1 := Hid.mk' hb1; have K1 := Hid.mk' hk1; clear hb1 hk1))
    go_ret2
    have hk := HK0.out.tr K1.out
    refine ⟨a2, c2, ?_, ?_, hk.tr K2.out⟩
    · rw [HL.out, bls_len, HE.out]; rfl
    · rw [HL.out, bls_len, ← HBK.out]
      exact B2.out.mono hk.size
  · obtain ⟨E, HE⟩ : ∃ E, Hid (pieE m l many = E) := ⟨_, Hid.mk' rfl⟩
    have hF : stoE g m l (many : Int) = E := hE.trans HE.out
    have HF := Hid.mk' hF
    rw [HE.out] at hp
    obtain ⟨q, hq⟩ : ∃ q, Hid ((pieL m l many).length = q) := ⟨_, Hid.mk' rfl⟩
    clear hE hF
    go_enter Try.func80, Try.ntmps80
    go_wp2_with (go_at_call 25; refine (HPI.out _ HK0.out).mono ?_; rintro e w1 ⟨a1, c1, rfl, hb1, hk1⟩; rw [HE.out, hq.out]; have K1 := Hid.mk' hk1; clear hb1 hk1)
    go_ret2
    exact sto_no HF.out hp (HK0.out.tr K1.out)
theorem sblocks_any {pa : Option Addr} {n c : Nat} {l : List Pl} {g : Int} {m : Nat} {many : Int} {w : World} (hP : Plans w pa n c l) : Calls Try.prog 80 #[kpV g m pa n c, .int .i64 many] w (StoP w g m l many) := by
  have fin : ∀ {E : Int}, stoE g m l many = E → E ≠ 0 → ∀ e w', (e = .returned (.tuple #[.slice none 0 0, .int .i64 E]) ∧ Kept w w' none) → StoP w g m l many e w' := by
    rintro E hE h0 e w' ⟨rfl, hk⟩
    exact sto_no hE h0 hk
  by_cases h1 : many < 1
  · exact (sblocks_bad1 w h1).mono (fin (by unfold stoE; rw [if_neg (by omega)]) (by decide))
  by_cases h2 : 32 < many
  · exact (sblocks_bad2 w h1 h2).mono (fin (by unfold stoE; rw [if_neg (by omega)]) (by decide))
  by_cases h3 : g < 1
  · exact (sblocks_bad3 w h1 h2 h3).mono (fin (by unfold stoE; rw [if_pos (by omega), if_neg (by omega)]) (by decide))
  by_cases h4 : 4611686018427387904 ≤ g
  · exact (sblocks_bad4 w h1 h2 h3 h4).mono (fin (by unfold stoE gtop; rw [if_pos (by omega), if_neg (by omega)]) (by decide))
  by_cases h5 : 3 < m
  · exact (sblocks_bad5 w h1 h2 h3 h4 h5).mono (fin (by unfold stoE; rw [if_pos (by omega), if_neg (by omega)]) (by decide))
  obtain ⟨k, rfl⟩ := Int.eq_ofNat_of_zero_le (show 0 ≤ many by omega)
  exact sblocks_ok hP (by omega) (by omega) (by omega) (by omega) (by omega)

end Go.Proofs.Ytabikoipjaggbaa

/-
  PLANS IN NEW MEMORY; site.Parts answers such.
-/
namespace Go.Proofs.Ytabikoipjaggbaa
open Go.RowKit Go.Lib Go.Deep
set_option linter.unusedVariables false
set_option linter.unusedSimpArgs false

/-- Plans whose lists lie in block H or behind it. -/
structure PlF (w : World) (H : Nat) (a : Option Addr) (n c : Nat) (l : List Pl) : Prop where
  ex : ∃ r : Nat → Option Addr × Nat, Lie w a n 3 (fun i j => plV (l.getD i q0) (r i).1 (r i).2 j) ∧ ∀ i, i < n → Ints w (r i).1 (l.getD i q0).splits.length (r i).2 (l.getD i q0).splits ∧ ∀ x, (r i).1 = some x → H ≤ x.block
  size : l.length = n
  cap : Cap a n c
  rng : ∀ p ∈ l, i64B p.cycle ∧ i64B p.offset
  lo : ∀ x, a = some x → H ≤ x.block
theorem PlF.plans {w : World} {H : Nat} {a : Option Addr} {n c : Nat} {l : List Pl} (h : PlF w H a n c l) : Plans w a n c l := by
  obtain ⟨⟨r, h1, h2⟩, h3, h4, h5, h6⟩ := h
  exact ⟨⟨r, h1, fun i hi => (h2 i hi).1⟩, h3, h4, h5⟩
theorem PlF.kept {w w' : World} {H : Nat} {a : Option Addr} {n c : Nat} {l : List Pl} (h : PlF w H a n c l) (q : Kept w w' none) : PlF w' H a n c l := by
  obtain ⟨⟨r, h1, h2⟩, h3, h4, h5, h6⟩ := h
  exact ⟨⟨r, h1.kept q, fun i hi => ⟨(h2 i hi).1.kept q, (h2 i hi).2⟩⟩, h3, h4, h5, h6⟩
theorem PlF.keptR {w w' : World} {H x : Nat} {a : Option Addr} {n c : Nat} {l : List Pl} (h : PlF w H a n c l) (q : Kept w w' (some x)) (hx : x < H) : PlF w' H a n c l := by
  obtain ⟨⟨r, h1, h2⟩, h3, h4, h5, h6⟩ := h
  exact ⟨⟨r, h1.keptR q (fun _ y e f => by have f := Option.some.inj f; have := h6 y e; omega), fun i hi => ⟨(h2 i hi).1.keptR q (fun _ y e f => by have f := Option.some.inj f; have := (h2 i hi).2 y e; omega), (h2 i hi).2⟩⟩, h3, h4, h5, h6⟩
theorem PlF.set {w : World} {H x : Nat} {a : Option Addr} {n c : Nat} {l : List Pl} (h : PlF w H a n c l) (hx : x < H) (i : Nat) (v : Value) : PlF (w.setCell ⟨x, i, none⟩ v) H a n c l := h.keptR (dkept_set w x i v) hx
theorem PlF.mono {w : World} {H H' : Nat} {a : Option Addr} {n c : Nat} {l : List Pl} (h : PlF w H a n c l) (k : H' ≤ H) : PlF w H' a n c l := by
  obtain ⟨⟨r, h1, h2⟩, h3, h4, h5, h6⟩ := h
  exact ⟨⟨r, h1, fun i hi => ⟨(h2 i hi).1, fun x e => Nat.le_trans k ((h2 i hi).2 x e)⟩⟩, h3, h4, h5, fun x e => Nat.le_trans k (h6 x e)⟩
theorem PlF.nil (w : World) (H : Nat) : PlF w H none 0 0 [] := ⟨⟨fun _ => (none, 0), ⟨fun hp => absurd hp (by simp)⟩, fun i hi => absurd hi (by simp)⟩, rfl, ⟨fun _ => ⟨rfl, rfl⟩, Nat.le_refl _, by omega⟩, fun p hp => (nomatch hp), fun x e => (nomatch e)⟩
theorem PlN.plF {lo : Nat} {w : World} {a n : Nat} {l : List Pl} (h : PlN w lo a n l) (hn : l.length = n) (h8 : n ≤ 1000) (hr : ∀ p ∈ l, (i64B p.cycle ∧ i64B p.offset) ∧ p.splits.length ≤ 8 ∧ ∀ x ∈ p.splits, i64B x) : PlF w lo (some ⟨a, 0, none⟩) n n l := by
  obtain ⟨⟨r, h1, h2⟩, h3⟩ := h
  refine ⟨⟨fun i => (some ⟨r i, 0, none⟩, (l.getD i q0).splits.length), h1, fun i hi => ⟨?_, fun x e => by cases e; exact (h2 i hi).1⟩⟩, hn, cap_some h8, fun p hp => (hr p hp).1, fun x e => by cases e; exact h3⟩
  have hm := hr _ (getD_mem (d := q0) (show i < l.length by omega))
  exact ⟨(h2 i hi).2, rfl, cap_some (by omega), hm.2.2⟩
set_option maxRecDepth 100000 in
set_option maxHeartbeats 1000000 in
theorem partsF_any {w : World} {a : Option Addr} {n c : Nat} {L : List Nat} (h : Come w a n c L) : Calls Try.prog 90 #[.slice a n c] w fun e w' => Kept w w' none ∧ ((partsB L = true ∧ ∃ g, e = .returned (.tuple #[.slice (some ⟨g, 0, none⟩) (plansM (L, false)).1.length (plansM (L, false)).1.length, .int .i64 0]) ∧ PlF w' w.heap.size (some ⟨g, 0, none⟩) (plansM (L, false)).1.length (plansM (L, false)).1.length (plansM (L, false)).1) ∨ (partsB L = false ∧ e = .returned (.tuple #[.slice none 0 0, .int .i64 8]))) := by
  have hcall := fun (v : World) (hv : Kept w v none) => readPlans_any (rdr_new (h.keptR hv (fun _ _ _ => by simp)) 154 (.slice none 0 0)) (by simp)
  have HB : Hid (partsB L = (doneB (plansM (L, false)).2 && allB (plansM (L, false)).1.length (fun k => mayB ((plansM (L, false)).1.getD k q0)))) := rfl
  have hR := plansM_r (L, false)
  rw [HB.out]
  clear HB
  generalize plansM (L, false) = u at *
  obtain ⟨l, s'⟩ := u
  dsimp only at *
  have HC := Hid.mk' hcall
  have HR := Hid.mk' hR
  clear hcall hR h
  generalize hm : allB l.length (fun k => mayB (l.getD k q0)) = m
  have HM := Hid.mk' hm
  clear hm
  generalize hd : doneB s' = d
  have HD := Hid.mk' hd
  clear hd
  cases d <;> cases m <;>
    go_enter Try.func90, Try.ntmps90 <;>
    go_wp2_with (first
      | (have hgo := P2; clear hgo; go_at_call 67; have hn := allMay_any P2.out.plans; rw [HM.out] at hn; refine hn.mono ?_; rintro e w3 ⟨rfl, hk3⟩; have P3 := Hid.mk' (P2.out.kept hk3); have c3 := cell_kept0 c2 hk3)
      | (have hgo := R1; clear hgo; go_at_call 97; have hn := done_any R1.out; rw [HD.out] at hn; refine hn.mono ?_; rintro e w2 ⟨rfl, rfl⟩)
      | (go_at_call 96; refine (HC.out _ hk0).mono ?_; rintro e w1 ⟨rfl, g, c2, hl1, hr1, hk1⟩; have R1 := Hid.mk' hr1; have P2 := Hid.mk' ((hl1.plF rfl (by have := HR.out.1; omega) HR.out.2).mono (show w.heap.size ≤ _ by (have := hk0.size; simp only [World.size_alloc]; omega))); have K1 := Hid.mk' (hk0.tr (kept_own (Kept.alloc w0 #[.slice a n c, .bool false, .slice none 0 0] 154 (0, 0) none) hk1)); clear hr1 hl1 hk1)
      | (go_at_call 95; refine readerOf_any.mono ?_; rintro e w0 ⟨rfl, hk0⟩))
  all_goals go_ret2
  · exact ⟨K1.out, .inr ⟨rfl, rfl⟩⟩
  · exact ⟨K1.out, .inr ⟨rfl, rfl⟩⟩
  · exact ⟨K1.out.tr hk3, .inr ⟨rfl, rfl⟩⟩
  · exact ⟨K1.out.tr hk3, .inl ⟨rfl, g, rfl, P3.out⟩⟩

end Go.Proofs.Ytabikoipjaggbaa

