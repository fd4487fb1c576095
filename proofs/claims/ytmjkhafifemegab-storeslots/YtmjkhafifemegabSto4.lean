/-
  THE CONTRACT of store's piecesOf.
-/
import Derived.Test.YtmjkhafifemegabSto2J
import Derived.Test.YtmjkhafifemegabSWholeJ
import Derived.Test.YtmjkhafifemegabSGrGJ
namespace Go.Proofs.Ytmjkhafifemegab
open Go.RowKit Go.Lib Go.Deep
set_option linter.unusedVariables false
set_option linter.unusedSimpArgs false

theorem fml_len : ∀ (l : List Pl), (∀ p ∈ l, p.splits.length ≤ 8) → (l.flatMap plI).length ≤ 11 * l.length
  | [], _ => by simp
  | p :: l, h => by
    have h1 := fml_len l (fun q hq => h q (List.mem_cons_of_mem _ hq))
    have h2 := h p (List.mem_cons_self ..)
    rw [List.flatMap_cons, List.length_append]
    have h3 : (plI p).length = 3 + p.splits.length := by unfold plI; simp; omega
    simp only [List.length_cons]
    omega
theorem whl_len (l : List Pl) : (wholeL l).length ≤ 890 := by
  by_cases h : wholeE l = 0
  · obtain ⟨⟨h1, h2⟩, h3⟩ := dpok_whole h
    rw [h3]
    have h4 := fml_len l (fun p hp => (h2 p hp).2.2.1)
    have h5 : (plansI l).length ≤ 89 := by unfold plansI; rw [List.length_cons]; omega
    have h6 := smlI_len (plansI l) (fun x hx => by
      unfold plansI at hx
      rcases List.mem_cons.1 hx with rfl | hx
      · omega
      · obtain ⟨p, hp, hx⟩ := List.mem_flatMap.1 hx
        obtain ⟨⟨_, q1⟩, ⟨_, q2⟩, q3, q4⟩ := h2 p hp
        unfold plI at hx
        simp only [List.mem_cons] at hx
        rcases hx with rfl | rfl | rfl | hx
        · omega
        · omega
        · omega
        · have := (q4 x hx).2; omega)
    omega
  · unfold wholeL
    rw [if_neg h]
    simp
/-- What stands between the numbers of the blocks. -/
def pieL (m : Nat) (l : List Pl) (many : Nat) : List (List Nat) := if pieE m l many = 0 then (List.range many).map (pcK (filK m l many)) else []
theorem bl_of_own {w : World} {base H many cap G : Nat} {a : Option Addr} {F : List Nat} (h : w.ownsRow base 22 1 (.slice a many cap) many ((List.range many).map (pcV G))) (hR : Row w G F) (hF : F.length = 48 * many) (hlt : ∀ x ∈ F, x < 256) (h1 : H ≤ base) (h2 : H ≤ G) (hm : many ≤ 1000) : Bl w H a many ((List.range many).map (pcK F)) := by
  refine ⟨by simp, by omega, fun hp => ?_⟩
  rcases id h.2 with ⟨e, h0⟩ | ⟨g, cap', cur, e, hb, hg, _⟩
  · omega
  · injection e with e1 e2 e3
    subst e1
    have hc := h.cells (g := g) rfl
    refine ⟨g, 0, rfl, Nat.le_trans h1 hb, (Array.getElem?_eq_some_iff.1 hg).1, fun i p hp => ?_⟩
    have hi : i < many := by
      have := (List.getElem?_eq_some_iff.1 hp).1
      simpa using this
    obtain rfl : pcK F i = p := by simpa [hi] using hp
    have hl : (pcK F i).length = 48 := pc_len hF hi
    have hq := hc i (pcV G i) (by simp [hi])
    rw [Addr.add_lit] at hq
    have hBy : By w (some ⟨G, 0, none⟩) (48 * many) F := by
      have := hR.by_ (by omega) hlt
      rwa [hF] at this
    have hs := hBy.subN (i := 48 * i) (k := 48) (by omega)
    rw [Nat.zero_add] at hs
    refine ⟨some ⟨G, 48 * i, none⟩, 48, ?_, ?_, fun x e => by cases e; exact h2⟩
    · rw [hl]; exact hq
    · rw [hl]; exact ⟨hs, fun e => (nomatch e), Nat.le_refl _, by omega⟩
theorem fil_eq {m : Nat} {l : List Pl} {many n : Nat} (hn : (toldK m l).length = n) (h : n ≤ 48 * many) : (List.replicate (48 * many) 0).take 0 ++ (toldK m l ++ (List.replicate (48 * many) 0).drop (0 + n)) = filK m l many := by
  unfold filK
  rw [List.take_zero, List.nil_append, List.drop_replicate, hn, Nat.zero_add]
theorem chunk_boxes (w : World) (a : Option Addr) (n c : Nat) : ((w.alloc (.cells #[.slice a n c] 22)).alloc (.cells #[.int .i64 48] 3)).cell? ⟨w.heap.size, 0, none⟩ = some (.slice a n c) ∧ ((w.alloc (.cells #[.slice a n c] 22)).alloc (.cells #[.int .i64 48] 3)).cell? ⟨w.heap.size + 1, 0, none⟩ = some (.int .i64 48) := by
  have h1 := ((Boxed.new w 22 (.slice a n c)).alloc (.cells #[.int .i64 48] 3)).cell
  have h2 := (Boxed.new (w.alloc (.cells #[.slice a n c] 22)) 3 (.int .i64 48)).cell
  rw [World.size_alloc] at h2
  exact ⟨h1, h2⟩
/-- What piecesOf answers. -/
def PieP (w : World) (m : Nat) (l : List Pl) (many : Nat) (e : Ending) (w' : World) : Prop := ∃ a cap, e = .returned (.tuple #[.slice a (pieL m l many).length cap, .int .i64 (pieE m l many)]) ∧ Bl w' w.heap.size a (pieL m l many).length (pieL m l many) ∧ Kept w w' none
theorem pie_no {w w' : World} {m : Nat} {l : List Pl} {many : Nat} {E : Int} (hE : pieE m l many = E) (h0 : E ≠ 0) (hk : Kept w w' none) : PieP w m l many (.returned (.tuple #[.slice none 0 0, .int .i64 E])) w' := by
  have e : pieL m l many = [] := by unfold pieL; rw [hE, if_neg h0]
  refine ⟨none, 0, by rw [e, hE]; rfl, by rw [e]; exact Bl.nil _ _ _, hk⟩
set_option maxRecDepth 100000 in
set_option maxHeartbeats 4000000 in
theorem pieces_any {la : Option Addr} {n c : Nat} {l : List Pl} {m many : Nat} {w : World} (hP : Plans w la n c l) (hm : m ≤ 3) (h1 : 1 ≤ many) (h2 : many ≤ 32) :
    Calls Try.prog 17 #[.int .u8 (m : Int), .slice la n c, .int .i64 (many : Int)] w (PieP w m l many) := by
  have HW := Hid.mk' (whole_any hP)
  clear hP
  by_cases hE : wholeE l = 0
  · have hw := whl_len l
    have hlw := whl_lt l
    have hsm := sml_len10 m (by omega)
    obtain ⟨N1, hN1⟩ : ∃ N1, Hid ((wholeL l).length = N1) := ⟨_, Hid.mk' rfl⟩
    obtain ⟨n2, hn2⟩ : ∃ n2, Hid ((sml m).length = n2) := ⟨_, Hid.mk' rfl⟩
    have HS2 := Hid.mk' (fun w' => small_any m w' (by omega))
    rw [hN1.out, hE] at HW
    rw [hN1.out] at hw
    rw [hn2.out] at hsm HS2
    obtain ⟨n3, hn3⟩ : ∃ n3, Hid (n2 + N1 = n3) := ⟨_, Hid.mk' rfl⟩
    have hle3 : n3 ≤ 900 := by have := hn3.out; omega
    have HI : Hid (sml m ++ wholeL l = insK m l) := Hid.mk' rfl
    have HIL : Hid ((insK m l).length = n3) := Hid.mk' (by rw [← HI.out, List.length_append, hn2.out, hN1.out, hn3.out])
    have hs4 := sml_len10 n3 (by omega)
    obtain ⟨n4, hn4⟩ : ∃ n4, Hid ((sml n3).length = n4) := ⟨_, Hid.mk' rfl⟩
    have HS4 := Hid.mk' (fun w' => small_any n3 w' (by omega))
    rw [hn4.out] at hs4 HS4
    obtain ⟨n5, hn5⟩ : ∃ n5, Hid (n4 + n3 = n5) := ⟨_, Hid.mk' rfl⟩
    have hle5 : n5 ≤ 910 := by have := hn5.out; omega
    have HT : Hid (sml n3 ++ insK m l = toldK m l) := Hid.mk' (by unfold toldK; rw [HIL.out])
    have HTL : Hid ((toldK m l).length = n5) := Hid.mk' (by rw [← HT.out, List.length_append, hn4.out, HIL.out, hn5.out])
    have HWL := Hid.mk' hlw
    have HIT := Hid.mk' (ins_lt m l)
    have HTT := Hid.mk' (tdK_lt m l)
    clear hlw
    have hmk := run_make_row' (P := Try.prog) 22 5 (.int .u8 0) 1 Try.uB Try.info5 rfl .i64 .i64 (48 * many) (by omega) (by omega)
    have ek : ((48 * many : Nat) : Int) = (many : Int) * 48 := by omega
    rw [ek] at hmk
    clear ek
    by_cases hfit : n5 ≤ 48 * many
    · have HPE : Hid (pieE m l many = 0) := Hid.mk' (by unfold pieE; rw [if_pos hE, if_pos (by rw [HTL.out]; exact hfit)])
      have HFE := Hid.mk' (fil_eq HTL.out hfit)
      have HFL : Hid ((filK m l many).length = 48 * many) := Hid.mk' (fil_len (by rw [HTL.out]; exact hfit))
      have HRL : Hid (0 + n5 ≤ (List.replicate (48 * many) 0).length) := Hid.mk' (by simp; exact hfit)
      clear hE
      go_enter Try.func17, Try.ntmps17
      go_wp2_with (first
        | (have hgo := R6; clear hgo; go_at_call 31; refine ((callsIn_wide (n := 9)).1 (collect_in 9 (by omega) w6.heap.size (w6.heap.size + 1) w5.heap.size many (by omega) _ (by simp; omega) (by simp) CB.out.1 CB.out.2)).mono ?_; rintro e w8 ⟨a8, c8, rfl, hr8, hb8⟩; have R8 := Hid.mk' hr8; have B8 := Hid.mk' hb8; clear hr8 hb8)
        | (have hgo := R6; clear hgo; go_at_call 32; refine ((callsIn_wide (n := 9)).1 (chunk_in 9 _ _ _ _)).mono ?_; rintro e w7 ⟨rfl, h7⟩; have h7' := h7.symm; clear h7; subst h7'; have CB := Hid.mk' (chunk_boxes w6 (some ⟨w5.heap.size, 0, none⟩) (48 * many) (48 * many)))
        | (have hgo := M5; clear hgo; refine wpList_cp (by rfl) _ _ (by rfl) _ _ _ _ _ _ (by rfl) (by rfl) w5.heap.size 0 (List.replicate (48 * many) 0) (toldK m l) (row_made w5 (48 * many)) ((M5.out.by HTT.out).kept (Kept.alloc _ _ _ _ _)) hfit HRL.out (fun _ => rfl) ?_; intro w6 hr6 hk6; rw [HFE.out] at hr6; have R6 := Hid.mk' hr6; have K6 : Hid (Kept w5 w6 none) := Hid.mk' ((Kept.alloc w5 (madeCells #[.int .u8 0] (48 * many)) 5 (0, 0) none).newRow hk6 (fun i e => by cases e; exact Nat.le_refl _)); clear hr6 hk6)
        | (have hgo := S4; clear hgo; at_builtin; refine wpList_join (by rfl) _ _ (by rfl) w3.heap.size (.slice (some ⟨w3.heap.size, 0, none⟩) n4 10) n4 (sml n3) (by rfl) S4.out a3 n3 c3 (insK m l) (by rfl) ((M3.out.by HIT.out).kept K4.out) (fun e => (M3.out.nil e).2) (by omega) K4.out.size ?_; intro a5 c5 w5 hm5 hg5; rw [hn5.out, HT.out] at hm5; rw [hn5.out]; have M5 := Hid.mk' hm5; have K5 : Hid (Kept w3 w5 none) := Hid.mk' (K4.out.newRow hg5 (fun i h => by cases h; exact Nat.le_refl _)); clear hm5 hg5)
        | (have hgo := M3; clear hgo; go_at_call 30; refine (HS4.out _).mono ?_; rintro e w4 ⟨rfl, hs4, hk4⟩; have S4 := Hid.mk' hs4; have K4 := Hid.mk' hk4; clear hs4 hk4)
        | (have hgo := S2; clear hgo; at_builtin; refine wpList_join (by rfl) _ _ (by rfl) w1.heap.size (.slice (some ⟨w1.heap.size, 0, none⟩) n2 10) n2 (sml m) (by rfl) S2.out a1 N1 c1 (wholeL l) (by rfl) ((M1.out.by HWL.out).kept K2.out) (fun e => (M1.out.nil e).2) (by omega) K2.out.size ?_; intro a3 c3 w3 hm3 hg3; rw [hn3.out, HI.out] at hm3; rw [hn3.out]; have M3 := Hid.mk' hm3; have K3 : Hid (Kept w1 w3 none) := Hid.mk' (K2.out.newRow hg3 (fun i h => by cases h; exact Nat.le_refl _)); clear hm3 hg3)
        | (have hgo := M1; clear hgo; go_at_call 30; refine (HS2.out _).mono ?_; rintro e w2 ⟨rfl, hs2, hk2⟩; have S2 := Hid.mk' hs2; have K2 := Hid.mk' hk2; clear hs2 hk2)
        | (go_at_call 29; refine HW.out.mono ?_; rintro e w1 ⟨a1, c1, rfl, hm1, hk1⟩; have M1 := Hid.mk' hm1; have K1 := Hid.mk' hk1; clear hm1 hk1))
      go_ret2
      have hk7 : Kept w6 ((w6.alloc (.cells #[.slice (some ⟨w5.heap.size, 0, none⟩) (48 * many) (48 * many)] 22)).alloc (.cells #[.int .i64 48] 3)) none := (Kept.alloc _ _ _ _ _).tr (Kept.alloc _ _ _ _ _)
      have hk8 := hk7.tr (Kept.of_below B8.out)
      have hk5 := (K1.out.tr K3.out).tr K5.out
      have e : pieL m l many = (List.range many).map (pcK (filK m l many)) := by unfold pieL; rw [if_pos HPE.out]
      refine ⟨a8, c8, ?_, ?_, (hk5.tr K6.out).tr hk8⟩
      · rw [e, HPE.out, List.length_map, List.length_range]; rfl
      · rw [e, List.length_map, List.length_range]
        have hz := K6.out.size
        exact bl_of_own R8.out (R6.out.kept hk8 (by simp)) HFL.out (fil_lt m l many) (by simp only [World.size_alloc]; have := hk5.size; omega) hk5.size (by omega)
    · have HPE : Hid (pieE m l many = 190) := Hid.mk' (by unfold pieE; rw [if_pos hE, if_neg (by rw [HTL.out]; exact hfit)])
      clear hE hmk
      go_enter Try.func17, Try.ntmps17
      go_wp2_with (first
        | (have hgo := S4; clear hgo; at_builtin; refine wpList_join (by rfl) _ _ (by rfl) w3.heap.size (.slice (some ⟨w3.heap.size, 0, none⟩) n4 10) n4 (sml n3) (by rfl) S4.out a3 n3 c3 (insK m l) (by rfl) ((M3.out.by HIT.out).kept K4.out) (fun e => (M3.out.nil e).2) (by omega) K4.out.size ?_; intro a5 c5 w5 hm5 hg5; rw [hn5.out, HT.out] at hm5; rw [hn5.out]; have M5 := Hid.mk' hm5; have K5 : Hid (Kept w3 w5 none) := Hid.mk' (K4.out.newRow hg5 (fun i h => by cases h; exact Nat.le_refl _)); clear hm5 hg5)
        | (have hgo := M3; clear hgo; go_at_call 30; refine (HS4.out _).mono ?_; rintro e w4 ⟨rfl, hs4, hk4⟩; have S4 := Hid.mk' hs4; have K4 := Hid.mk' hk4; clear hs4 hk4)
        | (have hgo := S2; clear hgo; at_builtin; refine wpList_join (by rfl) _ _ (by rfl) w1.heap.size (.slice (some ⟨w1.heap.size, 0, none⟩) n2 10) n2 (sml m) (by rfl) S2.out a1 N1 c1 (wholeL l) (by rfl) ((M1.out.by HWL.out).kept K2.out) (fun e => (M1.out.nil e).2) (by omega) K2.out.size ?_; intro a3 c3 w3 hm3 hg3; rw [hn3.out, HI.out] at hm3; rw [hn3.out]; have M3 := Hid.mk' hm3; have K3 : Hid (Kept w1 w3 none) := Hid.mk' (K2.out.newRow hg3 (fun i h => by cases h; exact Nat.le_refl _)); clear hm3 hg3)
        | (have hgo := M1; clear hgo; go_at_call 30; refine (HS2.out _).mono ?_; rintro e w2 ⟨rfl, hs2, hk2⟩; have S2 := Hid.mk' hs2; have K2 := Hid.mk' hk2; clear hs2 hk2)
        | (go_at_call 29; refine HW.out.mono ?_; rintro e w1 ⟨a1, c1, rfl, hm1, hk1⟩; have M1 := Hid.mk' hm1; have K1 := Hid.mk' hk1; clear hm1 hk1))
      go_ret2
      exact pie_no HPE.out (by decide) ((K1.out.tr K3.out).tr K5.out)
  · obtain ⟨E, HE⟩ : ∃ E, Hid (wholeE l = E) := ⟨_, Hid.mk' rfl⟩
    have HPE : Hid (pieE m l many = E) := Hid.mk' (by unfold pieE; rw [if_neg hE, HE.out])
    rw [HE.out] at HW hE
    obtain ⟨N1, hN1⟩ : ∃ N1, Hid ((wholeL l).length = N1) := ⟨_, Hid.mk' rfl⟩
    rw [hN1.out] at HW
    go_enter Try.func17, Try.ntmps17
    go_wp2_with (go_at_call 29; refine HW.out.mono ?_; rintro e w1 ⟨a1, c1, rfl, hm1, hk1⟩; have M1 := Hid.mk' hm1; have K1 := Hid.mk' hk1; clear hm1 hk1)
    go_ret2
    exact pie_no HPE.out hE K1.out

end Go.Proofs.Ytmjkhafifemegab
