/-
  Texts joined: some of those that the proofs of this seat stand on.
-/
import Derived.Test.YtlabjamkaebnjaaRefNumJ
import Derived.Test.YtlabjamkaebnjaaSto3J
import Derived.Test.YtlabjamkaebnjaaSFitsJ
import Derived.Test.YtlabjamkaebnjaaSSiGJ
import Derived.Test.YtlabjamkaebnjaaRefReadJ
import Derived.Test.YtlabjamkaebnjaaSPlanLJ
/-
  THE CONTRACT of store's piecesOf.
-/
namespace Go.Proofs.Ytlabjamkaebnjaa
open Go.RowKit Go.Lib Go.Deep
set_option linter.unusedVariables false
set_option linter.unusedSimpArgs false

theorem fml_len : ∀ (l : List Pl), (∀ p ∈ l, p.splits.length ≤ 8) → (l.flatMap plI).length ≤ 11 * l.length
  | [], _ => by simp
  | p :: l, h => by
    have h1 := fml_len l (fun q hq => h q (List.mem_cons_of_mem _ hq))
    have h2 := h p (List.mem_cons_self ..)
    rw [List.flatMap_cons, List.length_append]
    have h3 : (plI p).length = 3 + p.splits.length := by unfold plI; simp; omega
    simp only [List.length_cons]
    omega
theorem whl_len (l : List Pl) : (wholeL l).length ≤ 890 := by
  by_cases h : wholeE l = 0
  · obtain ⟨⟨h1, h2⟩, h3⟩ := dpok_whole h
    rw [h3]
    have h4 := fml_len l (fun p hp => (h2 p hp).2.2.1)
    have h5 : (plansI l).length ≤ 89 := by unfold plansI; rw [List.length_cons]; omega
    have h6 := smlI_len (plansI l) (fun x hx => by
      unfold plansI at hx
      rcases List.mem_cons.1 hx with rfl | hx
      · omega
      · obtain ⟨p, hp, hx⟩ := List.mem_flatMap.1 hx
        obtain ⟨⟨_, q1⟩, ⟨_, q2⟩, q3, q4⟩ := h2 p hp
        unfold plI at hx
        simp only [List.mem_cons] at hx
        rcases hx with rfl | rfl | rfl | hx
        · omega
        · omega
        · omega
        · have := (q4 x hx).2; omega)
    omega
  · unfold wholeL
    rw [if_neg h]
    simp
/-- What stands between the numbers of the blocks. -/
def pieL (m : Nat) (l : List Pl) (many : Nat) : List (List Nat) := if pieE m l many = 0 then (List.range many).map (pcK (filK m l many)) else []
theorem bl_of_own {w : World} {base H many cap G : Nat} {a : Option Addr} {F : List Nat} (h : w.ownsRow base 22 1 (.slice a many cap) many ((List.range many).map (pcV G))) (hR : Row w G F) (hF : F.length = 48 * many) (hlt : ∀ x ∈ F, x < 256) (h1 : H ≤ base) (h2 : H ≤ G) (hm : many ≤ 1000) : Bl w H a many ((List.range many).map (pcK F)) := by
  refine ⟨by simp, by omega, fun hp => ?_⟩
  rcases id h.2 with ⟨e, h0⟩ | ⟨g, cap', cur, e, hb, hg, _⟩
  · omega
  · injection e with e1 e2 e3
    subst e1
    have hc := h.cells (g := g) rfl
    refine ⟨g, 0, rfl, Nat.le_trans h1 hb, (Array.getElem?_eq_some_iff.1 hg).1, fun i p hp => ?_⟩
    have hi : i < many := by
      have := (List.getElem?_eq_some_iff.1 hp).1
      simpa using this
    obtain rfl : pcK F i = p := by simpa [hi] using hp
    have hl : (pcK F i).length = 48 := pc_len hF hi
    have hq := hc i (pcV G i) (by simp [hi])
    rw [Addr.add_lit] at hq
    have hBy : By w (some ⟨G, 0, none⟩) (48 * many) F := by
      have := hR.by_ (by omega) hlt
      rwa [hF] at this
    have hs := hBy.subN (i := 48 * i) (k := 48) (by omega)
    rw [Nat.zero_add] at hs
    refine ⟨some ⟨G, 48 * i, none⟩, 48, ?_, ?_, fun x e => by cases e; exact h2⟩
    · rw [hl]; exact hq
    · rw [hl]; exact ⟨hs, fun e => (nomatch e), Nat.le_refl _, by omega⟩
theorem fil_eq {m : Nat} {l : List Pl} {many n : Nat} (hn : (toldK m l).length = n) (h : n ≤ 48 * many) : (List.replicate (48 * many) 0).take 0 ++ (toldK m l ++ (List.replicate (48 * many) 0).drop (0 + n)) = filK m l many := by
  unfold filK
  rw [List.take_zero, List.nil_append, List.drop_replicate, hn, Nat.zero_add]
theorem chunk_boxes (w : World) (a : Option Addr) (n c : Nat) : ((w.alloc (.cells #[.slice a n c] 22)).alloc (.cells #[.int .i64 48] 3)).cell? ⟨w.heap.size, 0, none⟩ = some (.slice a n c) ∧ ((w.alloc (.cells #[.slice a n c] 22)).alloc (.cells #[.int .i64 48] 3)).cell? ⟨w.heap.size + 1, 0, none⟩ = some (.int .i64 48) := by
  have h1 := ((Boxed.new w 22 (.slice a n c)).alloc (.cells #[.int .i64 48] 3)).cell
  have h2 := (Boxed.new (w.alloc (.cells #[.slice a n c] 22)) 3 (.int .i64 48)).cell
  rw [World.size_alloc] at h2
  exact ⟨h1, h2⟩
/-- What piecesOf answers. -/
def PieP (w : World) (m : Nat) (l : List Pl) (many : Nat) (e : Ending) (w' : World) : Prop := ∃ a cap, e = .returned (.tuple #[.slice a (pieL m l many).length cap, .int .i64 (pieE m l many)]) ∧ Bl w' w.heap.size a (pieL m l many).length (pieL m l many) ∧ Kept w w' none
theorem pie_no {w w' : World} {m : Nat} {l : List Pl} {many : Nat} {E : Int} (hE : pieE m l many = E) (h0 : E ≠ 0) (hk : Kept w w' none) : PieP w m l many (.returned (.tuple #[.slice none 0 0, .int .i64 E])) w' := by
  have e : pieL m l many = [] := by unfold pieL; rw [hE, if_neg h0]
  refine ⟨none, 0, by rw [e, hE]; rfl, by rw [e]; exact Bl.nil _ _ _, hk⟩
set_option maxRecDepth 100000 in
set_option maxHeartbeats 4000000 in
theorem pieces_any {la : Option Addr} {n c : Nat} {l : List Pl} {m many : Nat} {w : World} (hP : Plans w la n c l) (hm : m ≤ 3) (h1 : 1 ≤ many) (h2 : many ≤ 32) :
    Calls Try.prog 25 #[.int .u8 (m : Int), .slice la n c, .int .i64 (many : Int)] w (PieP w m l many) := by
  have HW := Hid.mk' (whole_any hP)
  clear hP
  by_cases hE : wholeE l = 0
  · have hw := whl_len l
    have hlw := whl_lt l
    have hsm := sml_len10 m (by omega)
    obtain ⟨N1, hN1⟩ : ∃ N1, Hid ((wholeL l).length = N1) := ⟨_, Hid.mk' rfl⟩
    obtain ⟨n2, hn2⟩ : ∃ n2, Hid ((sml m).length = n2) := ⟨_, Hid.mk' rfl⟩
    have HS2 := Hid.mk' (fun w' => small_any m w' (by omega))
    rw [hN1.out, hE] at HW
    rw [hN1.out] at hw
    rw [hn2.out] at hsm HS2
    obtain ⟨n3, hn3⟩ : ∃ n3, Hid (n2 + N1 = n3) := ⟨_, Hid.mk' rfl⟩
    have hle3 : n3 ≤ 900 := by have := hn3.out; omega
    have HI : Hid (sml m ++ wholeL l = insK m l) := Hid.mk' rfl
    have HIL : Hid ((insK m l).length = n3) := Hid.mk' (by rw [← HI.out, List.length_append, hn2.out, hN1.out, hn3.out])
    have hs4 := sml_len10 n3 (by omega)
    obtain ⟨n4, hn4⟩ : ∃ n4, Hid ((sml n3).length = n4) := ⟨_, Hid.mk' rfl⟩
    have HS4 := Hid.mk' (fun w' => small_any n3 w' (by omega))
    rw [hn4.out] at hs4 HS4
    obtain ⟨n5, hn5⟩ : ∃ n5, Hid (n4 + n3 = n5) := ⟨_, Hid.mk' rfl⟩
    have hle5 : n5 ≤ 910 := by have := hn5.out; omega
    have HT : Hid (sml n3 ++ insK m l = toldK m l) := Hid.mk' (by unfold toldK; rw [HIL.out])
    have HTL : Hid ((toldK m l).length = n5) := Hid.mk' (by rw [← HT.out, List.length_append, hn4.out, HIL.out, hn5.out])
    have HWL := Hid.mk' hlw
    have HIT := Hid.mk' (ins_lt m l)
    have HTT := Hid.mk' (tdK_lt m l)
    clear hlw
    have hmk := run_make_row' (P := Try.prog) 22 5 (.int .u8 0) 1 Try.uB Try.info5 rfl .i64 .i64 (48 * many) (by omega) (by omega)
    have ek : ((48 * many : Nat) : Int) = (many : Int) * 48 := by omega
    rw [ek] at hmk
    clear ek
    by_cases hfit : n5 ≤ 48 * many
    · have HPE : Hid (pieE m l many = 0) := Hid.mk' (by unfold pieE; rw [if_pos hE, if_pos (by rw [HTL.out]; exact hfit)])
      have HFE := Hid.mk' (fil_eq HTL.out hfit)
      have HFL : Hid ((filK m l many).length = 48 * many) := Hid.mk' (fil_len (by rw [HTL.out]; exact hfit))
      have HRL : Hid (0 + n5 ≤ (List.replicate (48 * many) 0).length) := Hid.mk' (by simp; exact hfit)
      clear hE
      go_enter Try.func25, Try.ntmps25
      go_wp2_with (first
        | (have hgo := R6; clear hgo; go_at_call 42; refine ((callsIn_wide (n := 9)).1 (collect_in 9 (by omega) w6.heap.size (w6.heap.size + 1) w5.heap.size many (by omega) _ (by simp; omega) (by simp) CB.out.1 CB.out.2)).mono ?_; rintro e w8 ⟨a8, c8, rfl, hr8, hb8⟩; have R8 := Hid.mk' hr8; have B8 := Hid.mk' hb8; clear hr8 hb8)
        | (have hgo := R6; clear hgo; go_at_call 43; refine ((callsIn_wide (n := 9)).1 (chunk_in 9 _ _ _ _)).mono ?_; rintro e w7 ⟨rfl, h7⟩; have h7' := h7.symm; clear h7; subst h7'; have CB := Hid.mk' (chunk_boxes w6 (some ⟨w5.heap.size, 0, none⟩) (48 * many) (48 * many)))
        | (have hgo := M5; clear hgo; refine wpList_cp (by rfl) _ _ (by rfl) _ _ _ _ _ _ (by rfl) (by rfl) w5.heap.size 0 (List.replicate (48 * many) 0) (toldK m l) (row_made w5 (48 * many)) ((M5.out.by HTT.out).kept (Kept.alloc _ _ _ _ _)) hfit HRL.out (fun _ => rfl) ?_; intro w6 hr6 hk6; rw [HFE.out] at hr6; have R6 := Hid.mk' hr6; have K6 : Hid (Kept w5 w6 none) := Hid.mk' ((Kept.alloc w5 (madeCells #[.int .u8 0] (48 * many)) 5 (0, 0) none).newRow hk6 (fun i e => by cases e; exact Nat.le_refl _)); clear hr6 hk6)
        | (have hgo := S4; clear hgo; at_builtin; refine wpList_join (by rfl) _ _ (by rfl) w3.heap.size (.slice (some ⟨w3.heap.size, 0, none⟩) n4 10) n4 (sml n3) (by rfl) S4.out a3 n3 c3 (insK m l) (by rfl) ((M3.out.by HIT.out).kept K4.out) (fun e => (M3.out.nil e).2) (by omega) K4.out.size ?_; intro a5 c5 w5 hm5 hg5; rw [hn5.out, HT.out] at hm5; rw [hn5.out]; have M5 := Hid.mk' hm5; have K5 : Hid (Kept w3 w5 none) := Hid.mk' (K4.out.newRow hg5 (fun i h => by cases h; exact Nat.le_refl _)); clear hm5 hg5)
        | (have hgo := M3; clear hgo; go_at_call 41; refine (HS4.out _).mono ?_; rintro e w4 ⟨rfl, hs4, hk4⟩; have S4 := Hid.mk' hs4; have K4 := Hid.mk' hk4; clear hs4 hk4)
        | (have hgo := S2; clear hgo; at_builtin; refine wpList_join (by rfl) _ _ (by rfl) w1.heap.size (.slice (some ⟨w1.heap.size, 0, none⟩) n2 10) n2 (sml m) (by rfl) S2.out a1 N1 c1 (wholeL l) (by rfl) ((M1.out.by HWL.out).kept K2.out) (fun e => (M1.out.nil e).2) (by omega) K2.out.size ?_; intro a3 c3 w3 hm3 hg3; rw [hn3.out, HI.out] at hm3; rw [hn3.out]; have M3 := Hid.mk' hm3; have K3 : Hid (Kept w1 w3 none) := Hid.mk' (K2.out.newRow hg3 (fun i h => by cases h; exact Nat.le_refl _)); clear hm3 hg3)
        | (have hgo := M1; clear hgo; go_at_call 41; refine (HS2.out _).mono ?_; rintro e w2 ⟨rfl, hs2, hk2⟩; have S2 := Hid.mk' hs2; have K2 := Hid.mk' hk2; clear hs2 hk2)
        | (go_at_call 40; refine HW.out.mono ?_; rintro e w1 ⟨a1, c1, rfl, hm1, hk1⟩; have M1 := Hid.mk' hm1; have K1 := Hid.mk' hk1; clear hm1 hk1))
      go_ret2
      have hk7 : Kept w6 ((w6.alloc (.cells #[.slice (some ⟨w5.heap.size, 0, none⟩) (48 * many) (48 * many)] 22)).alloc (.cells #[.int .i64 48] 3)) none := (Kept.alloc _ _ _ _ _).tr (Kept.alloc _ _ _ _ _)
      have hk8 := hk7.tr (Kept.of_below B8.out)
      have hk5 := (K1.out.tr K3.out).tr K5.out
      have e : pieL m l many = (List.range many).map (pcK (filK m l many)) := by unfold pieL; rw [if_pos HPE.out]
      refine ⟨a8, c8, ?_, ?_, (hk5.tr K6.out).tr hk8⟩
      · rw [e, HPE.out, List.length_map, List.length_range]; rfl
      · rw [e, List.length_map, List.length_range]
        have hz := K6.out.size
        exact bl_of_own R8.out (R6.out.kept hk8 (by simp)) HFL.out (fil_lt m l many) (by simp only [World.size_alloc]; have := hk5.size; omega) hk5.size (by omega)
    · have HPE : Hid (pieE m l many = 190) := Hid.mk' (by unfold pieE; rw [if_pos hE, if_neg (by rw [HTL.out]; exact hfit)])
      clear hE hmk
      go_enter Try.func25, Try.ntmps25
      go_wp2_with (first
        | (have hgo := S4; clear hgo; at_builtin; refine wpList_join (by rfl) _ _ (by rfl) w3.heap.size (.slice (some ⟨w3.heap.size, 0, none⟩) n4 10) n4 (sml n3) (by rfl) S4.out a3 n3 c3 (insK m l) (by rfl) ((M3.out.by HIT.out).kept K4.out) (fun e => (M3.out.nil e).2) (by omega) K4.out.size ?_; intro a5 c5 w5 hm5 hg5; rw [hn5.out, HT.out] at hm5; rw [hn5.out]; have M5 := Hid.mk' hm5; have K5 : Hid (Kept w3 w5 none) := Hid.mk' (K4.out.newRow hg5 (fun i h => by cases h; exact Nat.le_refl _)); clear hm5 hg5)
        | (have hgo := M3; clear hgo; go_at_call 41; refine (HS4.out _).mono ?_; rintro e w4 ⟨rfl, hs4, hk4⟩; have S4 := Hid.mk' hs4; have K4 := Hid.mk' hk4; clear hs4 hk4)
        | (have hgo := S2; clear hgo; at_builtin; refine wpList_join (by rfl) _ _ (by rfl) w1.heap.size (.slice (some ⟨w1.heap.size, 0, none⟩) n2 10) n2 (sml m) (by rfl) S2.out a1 N1 c1 (wholeL l) (by rfl) ((M1.out.by HWL.out).kept K2.out) (fun e => (M1.out.nil e).2) (by omega) K2.out.size ?_; intro a3 c3 w3 hm3 hg3; rw [hn3.out, HI.out] at hm3; rw [hn3.out]; have M3 := Hid.mk' hm3; have K3 : Hid (Kept w1 w3 none) := Hid.mk' (K2.out.newRow hg3 (fun i h => by cases h; exact Nat.le_refl _)); clear hm3 hg3)
        | (have hgo := M1; clear hgo; go_at_call 41; refine (HS2.out _).mono ?_; rintro e w2 ⟨rfl, hs2, hk2⟩; have S2 := Hid.mk' hs2; have K2 := Hid.mk' hk2; clear hs2 hk2)
        | (go_at_call 40; refine HW.out.mono ?_; rintro e w1 ⟨a1, c1, rfl, hm1, hk1⟩; have M1 := Hid.mk' hm1; have K1 := Hid.mk' hk1; clear hm1 hk1))
      go_ret2
      exact pie_no HPE.out (by decide) ((K1.out.tr K3.out).tr K5.out)
  · obtain ⟨E, HE⟩ : ∃ E, Hid (wholeE l = E) := ⟨_, Hid.mk' rfl⟩
    have HPE : Hid (pieE m l many = E) := Hid.mk' (by unfold pieE; rw [if_neg hE, HE.out])
    rw [HE.out] at HW hE
    obtain ⟨N1, hN1⟩ : ∃ N1, Hid ((wholeL l).length = N1) := ⟨_, Hid.mk' rfl⟩
    rw [hN1.out] at HW
    go_enter Try.func25, Try.ntmps25
    go_wp2_with (go_at_call 40; refine HW.out.mono ?_; rintro e w1 ⟨a1, c1, rfl, hm1, hk1⟩; have M1 := Hid.mk' hm1; have K1 := Hid.mk' hk1; clear hm1 hk1)
    go_ret2
    exact pie_no HPE.out hE K1.out

end Go.Proofs.Ytlabjamkaebnjaa

/-
  THE CONTRACT of store's blocksOf.
-/
namespace Go.Proofs.Ytlabjamkaebnjaa
open Go.RowKit Go.Lib Go.Deep
set_option linter.unusedVariables false
set_option linter.unusedSimpArgs false

theorem Come.kptR {w w' : World} {r : Nat} {a : Option Addr} {n c : Nat} {L : List Nat} (h : Come w a n c L) (k : Kept w w' (some r)) (hr : ∀ x, a = some x → x.block ≠ r) : Come w' a n c L := by
  refine ⟨⟨h.by_.size, h.by_.max, h.by_.lt, fun hp => ?_⟩, h.nil, h.room, h.max⟩
  obtain ⟨b, off, e, hb, hc⟩ := h.by_.at_ hp
  refine ⟨b, off, e, Nat.lt_of_lt_of_le hb k.size, fun i hi => ?_⟩
  have hne : some b ≠ some r := by
    intro q; injection q with q; exact hr _ e q
  exact (World.cell?_of_block (w := w) (a := ⟨b, off + i, none⟩) (k.block b hb hne)).trans (hc i hi)
theorem bl_three {w : World} {a1 a2 a3 : Option Addr} {c1 c2 c3 : Nat} {A B C : List Nat} (h1 : Come w a1 A.length c1 A) (h2 : Come w a2 B.length c2 B) (h3 : Come w a3 C.length c3 C) : Bl (w.alloc (.cells #[.slice a1 A.length c1, .slice a2 B.length c2, .slice a3 C.length c3] 22)) 0 (some ⟨w.heap.size, 0, none⟩) 3 [A, B, C] := by
  refine ⟨rfl, by omega, fun _ => ⟨_, 0, rfl, Nat.zero_le _, by simp, fun i p hp => ?_⟩⟩
  have hk : Kept w (w.alloc (.cells #[.slice a1 A.length c1, .slice a2 B.length c2, .slice a3 C.length c3] 22)) none := Kept.alloc _ _ _ _ _
  match i, hp with
  | 0, hp =>
    obtain rfl : A = p := by simpa using hp
    exact ⟨a1, c1, World.cell?_alloc_mark .., h1.kpt hk, fun _ _ => Nat.zero_le _⟩
  | 1, hp =>
    obtain rfl : B = p := by simpa using hp
    exact ⟨a2, c2, World.cell?_alloc_mark .., h2.kpt hk, fun _ _ => Nat.zero_le _⟩
  | 2, hp =>
    obtain rfl : C = p := by simpa using hp
    exact ⟨a3, c3, World.cell?_alloc_mark .., h3.kpt hk, fun _ _ => Nat.zero_le _⟩
  | k + 3, hp => simp at hp
theorem conc3_any {w : World} {a1 a2 : Option Addr} {c1 c2 g : Nat} {p : List Nat} (h1 : Come w a1 8 c1 (leb 8 g)) (h2 : Come w a2 48 c2 p) :
    Calls Try.prog 47 #[.slice (some ⟨w.heap.size, 0, none⟩) 3 3] (w.alloc (.cells #[.slice a1 8 c1, .slice a2 48 c2, .slice a1 8 c1] 22)) fun e w' => ∃ a cap, e = .returned (.slice a 64 cap) ∧ Mine w' (w.heap.size + 1) a 64 cap (bkK g p) ∧ Kept w w' none := by
  have e8 : (leb 8 g).length = 8 := leb_length 8 g
  have ep : p.length = 48 := h2.by_.size
  have hB := bl_three (c1 := c1) (c2 := c2) (c3 := c1) (by rw [e8]; exact h1) (by rw [ep]; exact h2) (by rw [e8]; exact h1)
  rw [e8, ep] at hB
  have ef : [leb 8 g, p, leb 8 g].flatten = bkK g p := by simp [bkK]
  have el : (bkK g p).length = 64 := bk_len ep
  have hc := conc_any (c := 3) hB (by rw [ef, el]; decide) (by rw [ef, el]; decide)
  rw [ef, el] at hc
  refine hc.mono ?_
  rintro e w' ⟨a, cap, rfl, hm, hk⟩
  rw [World.size_alloc] at hm
  exact ⟨a, cap, rfl, hm, (Kept.alloc _ _ _ _ _).tr hk⟩
/-- A list of blocks that is being made: the first k are there. -/
structure Fl (w0 w : World) (G m k : Nat) (B : List (List Nat)) : Prop where
  ex : ∃ r : Nat → Option Addr × Nat, w.rowIs G 22 m (fun i => if i < k then .slice (r i).1 64 (r i).2 else .slice none 0 0) ∧ ∀ i, i < k → Come w (r i).1 64 (r i).2 (B.getD i []) ∧ ∀ x, (r i).1 = some x → G < x.block
  kept : Kept w0 w none
  at_ : w0.heap.size ≤ G
theorem Fl.put {w0 w w3 : World} {G m k : Nat} {B : List (List Nat)} {a : Option Addr} {cap : Nat} (h : Fl w0 w G m k B) (hk : Kept w w3 none) (hC : Come w3 a 64 cap (B.getD k [])) (ha : ∀ x, a = some x → G < x.block) : Fl w0 (w3.setCell ⟨G, k, none⟩ (.slice a 64 cap)) G m (k + 1) B := by
  obtain ⟨r, h1, h2⟩ := h.ex
  have h3 : w3.rowIs G 22 m (fun i => if i < k then .slice (r i).1 64 (r i).2 else .slice none 0 0) := h1.of_block (hk.block G h1.lt (by simp))
  have hs := dkept_set w3 G k (.slice a 64 cap)
  refine ⟨⟨fun i => if i = k then (a, cap) else r i, (h3.set k _).congr (fun i hi => ?_), fun i hi => ?_⟩, ?_, h.at_⟩
  · show (if i = k then _ else _) = _
    by_cases e : i = k
    · subst e; simp
    · by_cases e2 : i < k
      · simp [e, e2, show i < k + 1 by omega]
      · simp [e, e2, show ¬ i < k + 1 by omega]
  · by_cases e : i = k
    · subst e
      simp only [if_pos rfl]
      exact ⟨hC.kptR hs (fun x hx => by have := ha x hx; omega), ha⟩
    · simp only [if_neg e]
      obtain ⟨q1, q2⟩ := h2 i (by omega)
      exact ⟨(q1.kpt hk).kptR hs (fun x hx => by have := q2 x hx; omega), q2⟩
  · exact (h.kept.tr hk).newRow hs (fun i e => by cases e; exact h.at_)
theorem Fl.bl {w0 w : World} {G m : Nat} {B : List (List Nat)} (h : Fl w0 w G m m B) (hB : B.length = m) (h64 : ∀ p ∈ B, p.length = 64) (hm : m ≤ 1000) : Bl w w0.heap.size (some ⟨G, 0, none⟩) m B := by
  obtain ⟨r, h1, h2⟩ := h.ex
  refine ⟨hB, by omega, fun hp => ⟨G, 0, rfl, h.at_, h1.lt, fun i p hp => ?_⟩⟩
  have hi : i < m := by have := (List.getElem?_eq_some_iff.1 hp).1; omega
  obtain ⟨q1, q2⟩ := h2 i hi
  have e : B.getD i [] = p := by rw [List.getD_eq_getElem?_getD, hp]; rfl
  have el : p.length = 64 := h64 p (List.mem_of_getElem? hp)
  rw [e] at q1
  rw [el]
  refine ⟨_, _, ?_, q1, fun x hx => Nat.le_of_lt (Nat.lt_of_le_of_lt h.at_ (q2 x hx))⟩
  rw [Nat.zero_add, h1.cell hi, if_pos hi]
/-- Blocks of a Gen, of pieces. -/
def bkL (g : Nat) (P : List (List Nat)) : List (List Nat) := P.map (bkK g)
set_option maxRecDepth 100000 in
set_option maxHeartbeats 4000000 in
theorem blocksOf_any {la : Option Addr} {m c g : Nat} {P : List (List Nat)} {w : World} (hP : Bl w 0 la m P) (h48 : ∀ p ∈ P, p.length = 48) (hg : g < gtop) (hm : m ≤ 1000) :
    Calls Try.prog 28 #[.int .i64 (g : Int), .slice la m c] w fun e w' => ∃ a cap, e = .returned (.slice a m cap) ∧ Bl w' w.heap.size a m (bkL g P) ∧ Kept w w' none := by
  have HB := Hid.mk' hP
  have HS := Hid.mk' hP.size
  have H48 := Hid.mk' h48
  have hg2 : g < 4611686018427387904 := hg
  have HPU := Hid.mk' (fun w' => put_yes g 8 w' (by omega) (by omega) (by omega) (by show g / 256 ^ 8 = 0; omega))
  have HLB := Hid.mk' (leb_length 8 g)
  have hmk := run_make_row' (P := Try.prog) 64 22 (.slice none 0 0) 24 Try.uB2 Try.infoB2 rfl .i64 .i64 m (by omega) (by omega)
  have HBL : Hid (∀ k, k < m → (bkL g P).getD k [] = bkK g (P.getD k [])) := Hid.mk' (fun k hk => by unfold bkL; simp [HS.out, hk])
  have HP8 : Hid (∀ k, k < m → (P.getD k []).length = 48) := Hid.mk' (fun k hk => by
    have hk' : k < P.length := by rw [HS.out]; exact hk
    have : P.getD k [] = P[k] := by simp [hk']
    rw [this]
    exact H48.out _ (List.getElem_mem hk'))
  clear hP h48 hg
  go_enter Try.func28, Try.ntmps28
  go_wp2_with (go_at_call 46; refine (HPU.out _).mono ?_; rintro e w1 ⟨rfl, hb1, hk1, hz1⟩; have B1 := Hid.mk' hb1; have K1 := Hid.mk' hk1; have HGn : Hid (w.heap.size < w1.heap.size) := Hid.mk' (by omega); clear hb1 hk1 hz1)
  have hF0 : Fl w (w1.alloc (.cells (madeCells #[.slice none 0 0] m) 22)) w1.heap.size m 0 (bkL g P) := ⟨⟨fun _ => (none, 0), (World.rowIs_made w1 (.slice none 0 0) m 22).congr (fun i hi => by simp), fun i hi => absurd hi (by omega)⟩, K1.out.tr (Kept.alloc _ _ _ _ _), K1.out.size⟩
  have hN0 : Come (w1.alloc (.cells (madeCells #[.slice none 0 0] m) 22)) (some ⟨w.heap.size, 0, none⟩) 8 8 (leb 8 g) := ⟨B1.out.kept (Kept.alloc _ _ _ _ _), fun e => (nomatch e), Nat.le_refl _, by omega⟩
  have F0 := Hid.mk' hF0
  have N0 := Hid.mk' hN0
  clear hF0 hN0 hmk
  obtain ⟨WA, hWA⟩ : ∃ WA, (w1.alloc (.cells (madeCells #[.slice none 0 0] m) 22)) = WA := ⟨_, rfl⟩
  rw [hWA] at F0 N0 ⊢
  clear hWA
  obtain ⟨G, hG⟩ : ∃ G, w1.heap.size = G := ⟨_, rfl⟩
  rw [hG] at F0 HGn ⊢
  clear hG
  go_loopw [21] (fun i wr => ∃ k : Nat, k ≤ m ∧ i = .int .i64 k ∧ Fl w wr G m k (bkL g P) ∧ Kept WA wr (some G)) (fun i _ => m - (intOf i).toNat)
  case atStart => exact ⟨0, Nat.zero_le _, rfl, F0.out, Kept.refl _ _⟩
  case round =>
    obtain ⟨k, hk, rfl, hF, hkr⟩ := hrel
    have HF := Hid.mk' hF
    have HK := Hid.mk' hkr
    clear hF hkr
    by_cases hlt : k < m
    · obtain ⟨b1, o1, a1, c1, rfl, hb1, p1, hC1⟩ := (HB.out.kept HF.out.kept).get hlt
      rw [HP8.out k hlt] at p1 hC1
      have hNr : Come wr (some ⟨w.heap.size, 0, none⟩) 8 8 (leb 8 g) := N0.out.kptR HK.out (fun x hx => by cases hx; have := HGn.out; show w.heap.size ≠ G; omega)
      have HC := Hid.mk' (conc3_any hNr hC1)
      have HBk := Hid.mk' (HBL.out k hlt)
      have HPL := Hid.mk' hC1.by_.lt
      clear hC1 hNr
      generalize P.getD k [] = p at *
      obtain ⟨r, hr1, hr2⟩ := HF.out.ex
      have HR1 := Hid.mk' hr1
      clear hr1 hr2
      go_wp2_with (go_at_call 47; refine HC.out.mono ?_; rintro e w3 ⟨a3, cap3, rfl, hm3, hk3⟩; have M3 := Hid.mk' hm3; have K3 := Hid.mk' hk3; have hrow := HR1.out.of_block (hk3.block G HR1.out.lt (by simp)); have hcl := hrow.cell hlt; have hfr := hrow.frozen k; rw [if_neg (Nat.lt_irrefl k)] at hcl; clear hm3 hk3 hrow)
      go_roundw
      case rel =>
        have hz := HK.out.size
        refine ⟨k + 1, by omega, by go_num, HF.out.put K3.out (by rw [HBk.out]; exact mineCome M3.out (bk_lt HPL.out)) (fun x hx => ?_), ?_⟩
        · have := mineAt M3.out x hx
          have := HR1.out.lt
          omega
        · exact kept_trR (kept_trR HK.out (K3.out.sm _)) (dkept_set _ _ _ _)
      case measure => simp [intOf]; omega
    · obtain rfl : k = m := by omega
      go_wp2
      go_ret
      refine ⟨_, _, rfl, HF.out.bl (by unfold bkL; rw [List.length_map, HS.out]) (fun p hp => ?_) hm, HF.out.kept⟩
      obtain ⟨q, hq, rfl⟩ := List.mem_map.1 hp
      exact bk_len (H48.out q hq)

end Go.Proofs.Ytlabjamkaebnjaa

/-
  THE CONTRACT of store.Blocks.
-/
namespace Go.Proofs.Ytlabjamkaebnjaa
open Go.RowKit Go.Lib Go.Deep
set_option linter.unusedVariables false
set_option linter.unusedSimpArgs false

abbrev kpV (g : Int) (m : Nat) (pa : Option Addr) (n c : Nat) : Value := .agg #[.int .i64 g, .int .u8 (m : Int), .slice pa n c]
/-- What Blocks answers. -/
def StoP (w : World) (g : Int) (m : Nat) (l : List Pl) (many : Int) (e : Ending) (w' : World) : Prop := ∃ a cap, e = .returned (.tuple #[.slice a (stoL g m l many).length cap, .int .i64 (stoE g m l many)]) ∧ Bl w' w.heap.size a (stoL g m l many).length (stoL g m l many) ∧ Kept w w' none
theorem sto_no {w w' : World} {g : Int} {m : Nat} {l : List Pl} {many E : Int} (hE : stoE g m l many = E) (h0 : E ≠ 0) (hk : Kept w w' none) : StoP w g m l many (.returned (.tuple #[.slice none 0 0, .int .i64 E])) w' := by
  have e : stoL g m l many = [] := by unfold stoL; rw [hE, if_neg h0]
  refine ⟨none, 0, by rw [e, hE]; rfl, by rw [e]; exact Bl.nil _ _ _, hk⟩
theorem bls_bkl (g m : Nat) (l : List Pl) (many : Nat) (h : pieE m l many = 0) : bkL g (pieL m l many) = blsK g m l many := by
  unfold bkL pieL blsK
  rw [if_pos h, List.map_map]
  rfl
theorem pie_len {m : Nat} {l : List Pl} {many : Nat} (h : pieE m l many = 0) : (pieL m l many).length = many := by unfold pieL; rw [if_pos h]; simp
theorem pie_48 {m : Nat} {l : List Pl} {many : Nat} : ∀ p ∈ pieL m l many, p.length = 48 := by
  intro p hp
  unfold pieL at hp
  split at hp
  · next h =>
    obtain ⟨i, hi, rfl⟩ := List.mem_map.1 hp
    exact pc_len (fil_len (pie_fit h).2) (List.mem_range.1 hi)
  · cases hp
set_option maxHeartbeats 1000000 in
theorem sblocks_bad1 {pa : Option Addr} {n c : Nat} {g : Int} {m : Nat} {many : Int} (w : World) (h : many < 1) : Calls Try.prog 75 #[kpV g m pa n c, .int .i64 many] w fun e w' => e = .returned (.tuple #[.slice none 0 0, .int .i64 2]) ∧ Kept w w' none := by
  go_enter Try.func75, Try.ntmps75
  go_wp2
  go_ret2
  exact ⟨rfl, Kept.alloc _ _ _ _ _⟩
set_option maxHeartbeats 1000000 in
theorem sblocks_bad2 {pa : Option Addr} {n c : Nat} {g : Int} {m : Nat} {many : Int} (w : World) (h : ¬ many < 1) (h2 : 32 < many) : Calls Try.prog 75 #[kpV g m pa n c, .int .i64 many] w fun e w' => e = .returned (.tuple #[.slice none 0 0, .int .i64 2]) ∧ Kept w w' none := by
  go_enter Try.func75, Try.ntmps75
  go_wp2
  go_ret2
  exact ⟨rfl, Kept.alloc _ _ _ _ _⟩
set_option maxHeartbeats 1000000 in
theorem sblocks_bad3 {pa : Option Addr} {n c : Nat} {g : Int} {m : Nat} {many : Int} (w : World) (h : ¬ many < 1) (h2 : ¬ 32 < many) (hg : g < 1) : Calls Try.prog 75 #[kpV g m pa n c, .int .i64 many] w fun e w' => e = .returned (.tuple #[.slice none 0 0, .int .i64 190]) ∧ Kept w w' none := by
  go_enter Try.func75, Try.ntmps75
  go_wp2
  go_ret2
  exact ⟨rfl, Kept.alloc _ _ _ _ _⟩
set_option maxHeartbeats 1000000 in
theorem sblocks_bad4 {pa : Option Addr} {n c : Nat} {g : Int} {m : Nat} {many : Int} (w : World) (h : ¬ many < 1) (h2 : ¬ 32 < many) (hg : ¬ g < 1) (hg2 : 4611686018427387904 ≤ g) : Calls Try.prog 75 #[kpV g m pa n c, .int .i64 many] w fun e w' => e = .returned (.tuple #[.slice none 0 0, .int .i64 190]) ∧ Kept w w' none := by
  go_enter Try.func75, Try.ntmps75
  go_wp2
  go_ret2
  exact ⟨rfl, Kept.alloc _ _ _ _ _⟩
set_option maxHeartbeats 1000000 in
theorem sblocks_bad5 {pa : Option Addr} {n c : Nat} {g : Int} {m : Nat} {many : Int} (w : World) (h : ¬ many < 1) (h2 : ¬ 32 < many) (hg : ¬ g < 1) (hg2 : ¬ 4611686018427387904 ≤ g) (hm : 3 < m) : Calls Try.prog 75 #[kpV g m pa n c, .int .i64 many] w fun e w' => e = .returned (.tuple #[.slice none 0 0, .int .i64 190]) ∧ Kept w w' none := by
  have hm' : (3 : Int) < (m : Int) := by omega
  go_enter Try.func75, Try.ntmps75
  go_wp2
  go_ret2
  exact ⟨rfl, Kept.alloc _ _ _ _ _⟩
theorem blocksOf_anyI {la : Option Addr} {m c : Nat} {g : Int} {P : List (List Nat)} {w : World} (hP : Bl w 0 la m P) (h48 : ∀ p ∈ P, p.length = 48) (h0 : 0 ≤ g) (hg : g < 4611686018427387904) (hm : m ≤ 1000) :
    Calls Try.prog 28 #[.int .i64 g, .slice la m c] w fun e w' => ∃ a cap, e = .returned (.slice a m cap) ∧ Bl w' w.heap.size a m (bkL g.toNat P) ∧ Kept w w' none := by
  obtain ⟨k, rfl⟩ := Int.eq_ofNat_of_zero_le h0
  exact blocksOf_any hP h48 (by unfold gtop; omega) hm
set_option maxRecDepth 100000 in
set_option maxHeartbeats 1000000 in
theorem sblocks_ok {pa : Option Addr} {n c : Nat} {l : List Pl} {g : Int} {m many : Nat} {w : World} (hP : Plans w pa n c l) (h1 : 1 ≤ many) (h2 : many ≤ 32) (hg1 : 1 ≤ g) (hg2 : g < 4611686018427387904) (hm : m ≤ 3) :
    Calls Try.prog 75 #[kpV g m pa n c, .int .i64 (many : Int)] w (StoP w g m l (many : Int)) := by
  have hE : stoE g m l (many : Int) = pieE m l many := by
    unfold stoE gtop
    rw [if_pos (by omega), if_pos (by omega), Int.toNat_natCast]
  have HPI := Hid.mk' (fun w' (hk : Kept w w' none) => pieces_any (hP.kept hk) hm h1 h2)
  have hm' : (m : Int) ≤ 3 := by omega
  have hk0 : Kept w (w.alloc (.cells #[.int .i64 g, .int .u8 (m : Int), .slice pa n c] 35)) none := Kept.alloc _ _ _ _ _
  have HK0 := Hid.mk' hk0
  have hx0 := World.cell?_alloc_mark w #[.int .i64 g, .int .u8 (m : Int), .slice pa n c] 35 (0, 0) 0
  have HX0 : Hid ((w.alloc (.cells #[.int .i64 g, .int .u8 (m : Int), .slice pa n c] 35)).cell? ⟨w.heap.size, 0, none⟩ = some (.int .i64 g)) := Hid.mk' hx0
  clear hP hx0
  by_cases hp : pieE m l many = 0
  · have hL : stoL g m l (many : Int) = blsK g.toNat m l many := by
      unfold stoL
      rw [hE, if_pos hp, Int.toNat_natCast]
    have HL := Hid.mk' hL
    have HE : Hid (stoE g m l (many : Int) = 0) := Hid.mk' (hE.trans hp)
    have HBK := Hid.mk' (bls_bkl g.toNat m l many hp)
    have HPL := Hid.mk' (pie_len hp)
    have HP := Hid.mk' hp
    clear hL hp hE
    go_enter Try.func75, Try.ntmps75
    go_wp2_with (first
      | (have hgo := B1; clear hgo; go_at_call 28; refine (blocksOf_anyI (B1.out.mono (Nat.zero_le _)) pie_48 (by omega) hg2 (by omega)).mono ?_; rintro e w2 ⟨a2, c2, rfl, hb2, hk2⟩; have B2 := Hid.mk' hb2; have K2 := Hid.mk' hk2; clear hb2 hk2)
      | (go_at_call 25; refine (HPI.out _ HK0.out).mono ?_; rintro e w1 ⟨a1, c1, rfl, hb1, hk1⟩; rw [HPL.out] at hb1; rw [HP.out, HPL.out]; have x0 := (cell_kpt hk1 (by simp)).trans HX0.out; have B1 := Hid.mk' hb1; have K1 := Hid.mk' hk1; clear hb1 hk1))
    go_ret2
    have hk := HK0.out.tr K1.out
    refine ⟨a2, c2, ?_, ?_, hk.tr K2.out⟩
    · rw [HL.out, bls_len, HE.out]; rfl
    · rw [HL.out, bls_len, ← HBK.out]
      exact B2.out.mono hk.size
  · obtain ⟨E, HE⟩ : ∃ E, Hid (pieE m l many = E) := ⟨_, Hid.mk' rfl⟩
    have hF : stoE g m l (many : Int) = E := hE.trans HE.out
    have HF := Hid.mk' hF
    rw [HE.out] at hp
    obtain ⟨q, hq⟩ : ∃ q, Hid ((pieL m l many).length = q) := ⟨_, Hid.mk' rfl⟩
    clear hE hF
    go_enter Try.func75, Try.ntmps75
    go_wp2_with (go_at_call 25; refine (HPI.out _ HK0.out).mono ?_; rintro e w1 ⟨a1, c1, rfl, hb1, hk1⟩; rw [HE.out, hq.out]; have K1 := Hid.mk' hk1; clear hb1 hk1)
    go_ret2
    exact sto_no HF.out hp (HK0.out.tr K1.out)
theorem sblocks_any {pa : Option Addr} {n c : Nat} {l : List Pl} {g : Int} {m : Nat} {many : Int} {w : World} (hP : Plans w pa n c l) : Calls Try.prog 75 #[kpV g m pa n c, .int .i64 many] w (StoP w g m l many) := by
  have fin : ∀ {E : Int}, stoE g m l many = E → E ≠ 0 → ∀ e w', (e = .returned (.tuple #[.slice none 0 0, .int .i64 E]) ∧ Kept w w' none) → StoP w g m l many e w' := by
    rintro E hE h0 e w' ⟨rfl, hk⟩
    exact sto_no hE h0 hk
  by_cases h1 : many < 1
  · exact (sblocks_bad1 w h1).mono (fin (by unfold stoE; rw [if_neg (by omega)]) (by decide))
  by_cases h2 : 32 < many
  · exact (sblocks_bad2 w h1 h2).mono (fin (by unfold stoE; rw [if_neg (by omega)]) (by decide))
  by_cases h3 : g < 1
  · exact (sblocks_bad3 w h1 h2 h3).mono (fin (by unfold stoE; rw [if_pos (by omega), if_neg (by omega)]) (by decide))
  by_cases h4 : 4611686018427387904 ≤ g
  · exact (sblocks_bad4 w h1 h2 h3 h4).mono (fin (by unfold stoE gtop; rw [if_pos (by omega), if_neg (by omega)]) (by decide))
  by_cases h5 : 3 < m
  · exact (sblocks_bad5 w h1 h2 h3 h4 h5).mono (fin (by unfold stoE; rw [if_pos (by omega), if_neg (by omega)]) (by decide))
  obtain ⟨k, rfl⟩ := Int.eq_ofNat_of_zero_le (show 0 ≤ many by omega)
  exact sblocks_ok hP (by omega) (by omega) (by omega) (by omega) (by omega)

end Go.Proofs.Ytlabjamkaebnjaa

/-
  PLANS IN NEW MEMORY; site.Parts answers such.
-/
namespace Go.Proofs.Ytlabjamkaebnjaa
open Go.RowKit Go.Lib Go.Deep
set_option linter.unusedVariables false
set_option linter.unusedSimpArgs false

/-- Plans whose lists lie in block H or behind it. -/
structure PlF (w : World) (H : Nat) (a : Option Addr) (n c : Nat) (l : List Pl) : Prop where
  ex : ∃ r : Nat → Option Addr × Nat, Lie w a n 3 (fun i j => plV (l.getD i q0) (r i).1 (r i).2 j) ∧ ∀ i, i < n → Ints w (r i).1 (l.getD i q0).splits.length (r i).2 (l.getD i q0).splits ∧ ∀ x, (r i).1 = some x → H ≤ x.block
  size : l.length = n
  cap : Cap a n c
  rng : ∀ p ∈ l, i64B p.cycle ∧ i64B p.offset
  lo : ∀ x, a = some x → H ≤ x.block
theorem PlF.plans {w : World} {H : Nat} {a : Option Addr} {n c : Nat} {l : List Pl} (h : PlF w H a n c l) : Plans w a n c l := by
  obtain ⟨⟨r, h1, h2⟩, h3, h4, h5, h6⟩ := h
  exact ⟨⟨r, h1, fun i hi => (h2 i hi).1⟩, h3, h4, h5⟩
theorem PlF.kept {w w' : World} {H : Nat} {a : Option Addr} {n c : Nat} {l : List Pl} (h : PlF w H a n c l) (q : Kept w w' none) : PlF w' H a n c l := by
  obtain ⟨⟨r, h1, h2⟩, h3, h4, h5, h6⟩ := h
  exact ⟨⟨r, h1.kept q, fun i hi => ⟨(h2 i hi).1.kept q, (h2 i hi).2⟩⟩, h3, h4, h5, h6⟩
theorem PlF.keptR {w w' : World} {H x : Nat} {a : Option Addr} {n c : Nat} {l : List Pl} (h : PlF w H a n c l) (q : Kept w w' (some x)) (hx : x < H) : PlF w' H a n c l := by
  obtain ⟨⟨r, h1, h2⟩, h3, h4, h5, h6⟩ := h
  exact ⟨⟨r, h1.keptR q (fun _ y e f => by have f := Option.some.inj f; have := h6 y e; omega), fun i hi => ⟨(h2 i hi).1.keptR q (fun _ y e f => by have f := Option.some.inj f; have := (h2 i hi).2 y e; omega), (h2 i hi).2⟩⟩, h3, h4, h5, h6⟩
theorem PlF.set {w : World} {H x : Nat} {a : Option Addr} {n c : Nat} {l : List Pl} (h : PlF w H a n c l) (hx : x < H) (i : Nat) (v : Value) : PlF (w.setCell ⟨x, i, none⟩ v) H a n c l := h.keptR (dkept_set w x i v) hx
theorem PlF.mono {w : World} {H H' : Nat} {a : Option Addr} {n c : Nat} {l : List Pl} (h : PlF w H a n c l) (k : H' ≤ H) : PlF w H' a n c l := by
  obtain ⟨⟨r, h1, h2⟩, h3, h4, h5, h6⟩ := h
  exact ⟨⟨r, h1, fun i hi => ⟨(h2 i hi).1, fun x e => Nat.le_trans k ((h2 i hi).2 x e)⟩⟩, h3, h4, h5, fun x e => Nat.le_trans k (h6 x e)⟩
theorem PlF.nil (w : World) (H : Nat) : PlF w H none 0 0 [] := ⟨⟨fun _ => (none, 0), ⟨fun hp => absurd hp (by simp)⟩, fun i hi => absurd hi (by simp)⟩, rfl, ⟨fun _ => ⟨rfl, rfl⟩, Nat.le_refl _, by omega⟩, fun p hp => (nomatch hp), fun x e => (nomatch e)⟩
theorem PlN.plF {lo : Nat} {w : World} {a n : Nat} {l : List Pl} (h : PlN w lo a n l) (hn : l.length = n) (h8 : n ≤ 1000) (hr : ∀ p ∈ l, (i64B p.cycle ∧ i64B p.offset) ∧ p.splits.length ≤ 8 ∧ ∀ x ∈ p.splits, i64B x) : PlF w lo (some ⟨a, 0, none⟩) n n l := by
  obtain ⟨⟨r, h1, h2⟩, h3⟩ := h
  refine ⟨⟨fun i => (some ⟨r i, 0, none⟩, (l.getD i q0).splits.length), h1, fun i hi => ⟨?_, fun x e => by cases e; exact (h2 i hi).1⟩⟩, hn, cap_some h8, fun p hp => (hr p hp).1, fun x e => by cases e; exact h3⟩
  have hm := hr _ (getD_mem (d := q0) (show i < l.length by omega))
  exact ⟨(h2 i hi).2, rfl, cap_some (by omega), hm.2.2⟩
set_option maxRecDepth 100000 in
set_option maxHeartbeats 1000000 in
theorem partsF_any {w : World} {a : Option Addr} {n c : Nat} {L : List Nat} (h : Come w a n c L) : Calls Try.prog 82 #[.slice a n c] w fun e w' => Kept w w' none ∧ ((partsB L = true ∧ ∃ g, e = .returned (.tuple #[.slice (some ⟨g, 0, none⟩) (plansM (L, false)).1.length (plansM (L, false)).1.length, .int .i64 0]) ∧ PlF w' w.heap.size (some ⟨g, 0, none⟩) (plansM (L, false)).1.length (plansM (L, false)).1.length (plansM (L, false)).1) ∨ (partsB L = false ∧ e = .returned (.tuple #[.slice none 0 0, .int .i64 8]))) := by
  have hcall := fun (v : World) (hv : Kept w v none) => readPlans_any (rdr_new (h.keptR hv (fun _ _ _ => by simp)) 149 (.slice none 0 0)) (by simp)
  have HB : Hid (partsB L = (doneB (plansM (L, false)).2 && allB (plansM (L, false)).1.length (fun k => mayB ((plansM (L, false)).1.getD k q0)))) := rfl
  have hR := plansM_r (L, false)
  rw [HB.out]
  clear HB
  generalize plansM (L, false) = u at *
  obtain ⟨l, s'⟩ := u
  dsimp only at *
  have HC := Hid.mk' hcall
  have HR := Hid.mk' hR
  clear hcall hR h
  generalize hm : allB l.length (fun k => mayB (l.getD k q0)) = m
  have HM := Hid.mk' hm
  clear hm
  generalize hd : doneB s' = d
  have HD := Hid.mk' hd
  clear hd
  cases d <;> cases m <;>
    go_enter Try.func82, Try.ntmps82 <;>
    go_wp2_with (first
      | (have hgo := P2; clear hgo; go_at_call 60; have hn := allMay_any P2.out.plans; rw [HM.out] at hn; refine hn.mono ?_; rintro e w3 ⟨rfl, hk3⟩; have P3 := Hid.mk' (P2.out.kept hk3); have c3 := cell_kept0 c2 hk3)
      | (have hgo := R1; clear hgo; go_at_call 89; have hn := done_any R1.out; rw [HD.out] at hn; refine hn.mono ?_; rintro e w2 ⟨rfl, rfl⟩)
      | (go_at_call 88; refine (HC.out _ hk0).mono ?_; rintro e w1 ⟨rfl, g, c2, hl1, hr1, hk1⟩; have R1 := Hid.mk' hr1; have P2 := Hid.mk' ((hl1.plF rfl (by have := HR.out.1; omega) HR.out.2).mono (show w.heap.size ≤ _ by (have := hk0.size; simp only [World.size_alloc]; omega))); have K1 := Hid.mk' (hk0.tr (kept_own (Kept.alloc w0 #[.slice a n c, .bool false, .slice none 0 0] 149 (0, 0) none) hk1)); clear hr1 hl1 hk1)
      | (go_at_call 87; refine readerOf_any.mono ?_; rintro e w0 ⟨rfl, hk0⟩))
  all_goals go_ret2
  · exact ⟨K1.out, .inr ⟨rfl, rfl⟩⟩
  · exact ⟨K1.out, .inr ⟨rfl, rfl⟩⟩
  · exact ⟨K1.out.tr hk3, .inr ⟨rfl, rfl⟩⟩
  · exact ⟨K1.out.tr hk3, .inl ⟨rfl, g, rfl, P3.out⟩⟩

end Go.Proofs.Ytlabjamkaebnjaa

