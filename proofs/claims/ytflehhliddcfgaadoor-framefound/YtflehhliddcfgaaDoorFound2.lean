/-
  THE WALK of FrameFound.
-/
import Derived.Test.YtflehhliddcfgaaDoorFound
namespace Go.Proofs.YtflehhliddcfgaaDoor
open Go.RowKit Go.Lib Go.Deep
set_option linter.unusedVariables false
set_option linter.unusedSimpArgs false

set_option maxRecDepth 100000 in
set_option maxHeartbeats 1000000 in
theorem found_out (a b c : Option Addr) (na ca n cb nc cc : Nat) (w : World) (ht : Table w) (h1 : na ≤ 9223372036854775807) (h2 : n ≤ 9223372036854775807) (h3 : nc ≤ 9223372036854775807) (h : 3000 < na ∨ (na ≤ 3000 ∧ 3000 < nc) ∨ (na ≤ 3000 ∧ nc ≤ 3000 ∧ 5 < n) ∨ (na ≤ 3000 ∧ nc ≤ 3000 ∧ n < 1)) :
    Calls Tryd.prog 6 #[.slice a na ca, .slice b n cb, .slice c nc cc] w fun e w' => e = .returned (.bool true) ∧ Below w.heap.size w w' := by
  have HT := Hid.mk' ht
  clear ht
  rcases h with h | ⟨h, k⟩ | ⟨h, k, j⟩ | ⟨h, k, j⟩
  all_goals
    go_enter Tryd.func6, Tryd.ntmps6
    go_wp2_with (go_at_call 15; refine (alive_any _ HT.out).mono ?_; rintro e w1 ⟨rfl, hk1⟩)
    go_ret
    exact ⟨rfl, hk1.below⟩
set_option maxRecDepth 100000 in
set_option maxHeartbeats 1000000 in
theorem found_no (a b c : Option Addr) (na ca n cb nc cc : Nat) (l : List Msg) (w : World) (ht : Table w) (hM : Ms w b n l) (hok : ∀ m ∈ l, Mok m) (h1 : na ≤ 3000) (h2 : nc ≤ 3000) (h3 : 1 ≤ n) (h4 : n ≤ 5) (hf : frG l 0 = false) :
    Calls Tryd.prog 6 #[.slice a na ca, .slice b n cb, .slice c nc cc] w fun e w' => e = .returned (.bool true) ∧ Below w.heap.size w w' := by
  have HT := Hid.mk' ht
  have HMs := Hid.mk' hM
  have HOK := Hid.mk' hok
  clear ht hM hok
  go_enter Tryd.func6, Tryd.ntmps6
  go_wp2_with (first
    | (have hgo := hk1; clear hgo; go_at_call 27; refine (frames_any (HMs.out.kept hk1) HOK.out h4 (HT.out.kept hk1)).mono ?_; rw [hf]; rintro e w2 ⟨a2, c2, rfl, hm2, hk2⟩)
    | (go_at_call 15; refine (alive_any _ HT.out).mono ?_; rintro e w1 ⟨rfl, hk1⟩))
  go_ret
  exact ⟨rfl, (hk1.tr hk2).below⟩
set_option maxRecDepth 100000 in
set_option maxHeartbeats 2000000 in
theorem found_yes (a b c : Option Addr) (na ca n cb nc cc : Nat) (A B : List Nat) (l : List Msg) (w : World) (ht : Table w) (hA : Come w a na ca A) (hM : Ms w b n l) (hok : ∀ m ∈ l, Mok m) (hnb : b = none → cb = 0) (hB : Come w c nc cc B) (h1 : na ≤ 3000) (h2 : nc ≤ 3000) (h3 : 1 ≤ n) (h4 : n ≤ 5) (hf : frG l 0 = true) :
    Calls Tryd.prog 6 #[.slice a na ca, .slice b n cb, .slice c nc cc] w fun e w' => e = .returned (.bool true) ∧ Below w.heap.size w w' := by
  have HT := Hid.mk' ht
  have HMs := Hid.mk' hM
  have HOK := Hid.mk' hok
  have HA := Hid.mk' hA
  have HB := Hid.mk' hB
  have HAx := Hid.mk' hA.by_.lt
  have HBx := Hid.mk' hB.by_.lt
  have HMz := Hid.mk' (hM.mz hnb)
  have hfl : (framesB l).length ≤ 7044 := by
    rcases frG_len l 0 hf with h | h
    · omega
    · subst h; simp [framesB]
  have HFL : Hid (frL l = framesB l) := by show frL l = _; unfold frL; rw [if_pos hf]
  have HFx : Hid (∀ x ∈ framesB l, x < 256) := framesB_lt hok
  have HTH : Hid (scanM (A ++ framesB l ++ B) = scanM (A ++ [126]) ++ l ++ scanM (126 :: B)) := found A B l (by intro e; subst e; have := hM.size; simp at this; omega) (fun m hm => ⟨hok m hm, frG_all l 0 hf m hm⟩)
  have HLl := Hid.mk' hM.size
  have hAl := hA.by_.size
  have hBl := hB.by_.size
  have hc1 := scan_count (A ++ [126])
  have hc2 := scan_count (126 :: B)
  simp only [List.length_append, List.length_cons, List.length_nil] at hc1 hc2
  have hc1 : (scanM (A ++ [126])).length ≤ 3001 := by omega
  have hc2 : (scanM (126 :: B)).length ≤ 3001 := by omega
  clear ht hM hok hA hB hAl hBl
  generalize hF : framesB l = F at *
  have hth := HTH.out
  obtain ⟨X1, hX1⟩ : ∃ X, scanM (A ++ F ++ B) = X := ⟨_, rfl⟩
  obtain ⟨X2, hX2⟩ : ∃ X, scanM (A ++ [126]) = X := ⟨_, rfl⟩
  obtain ⟨X3, hX3⟩ : ∃ X, scanM (126 :: B) = X := ⟨_, rfl⟩
  obtain ⟨z1, hz1⟩ : ∃ z, lastE (A ++ F ++ B) = z := ⟨_, rfl⟩
  obtain ⟨z2, hz2⟩ : ∃ z, lastE (A ++ [126]) = z := ⟨_, rfl⟩
  obtain ⟨z3, hz3⟩ : ∃ z, lastE (126 :: B) = z := ⟨_, rfl⟩
  rw [hX1, hX2, hX3] at hth
  rw [hX2] at hc1
  rw [hX3] at hc2
  obtain ⟨n2, hn2⟩ : ∃ n, X2.length = n := ⟨_, rfl⟩
  obtain ⟨n3, hn3⟩ : ∃ n, X3.length = n := ⟨_, rfl⟩
  rw [hn2] at hc1
  rw [hn3] at hc2
  have HX1 := Hid.mk' hX1
  have HX2 := Hid.mk' hX2
  have HX3 := Hid.mk' hX3
  have HZ1 := Hid.mk' hz1
  have HZ2 := Hid.mk' hz2
  have HZ3 := Hid.mk' hz3
  have HN2 := Hid.mk' hn2
  have HN3 := Hid.mk' hn3
  have HTH2 : Hid (X1 = X2 ++ l ++ X3) := hth
  have HN1 : Hid (X1.length = n2 + n + n3) := by show X1.length = _; rw [HTH2.out, List.length_append, List.length_append, HN2.out, HN3.out, HLl.out]
  clear hX1 hX2 hX3 hz1 hz2 hz3 hn2 hn3 hth HTH
  go_enter Tryd.func6, Tryd.ntmps6
  go_wp2_with (first
    | (have hgo := J3; clear hgo; go_at_call 28; refine (same_yes (M4'.out.ms (by omega)) J3.out).mono ?_; rintro e wE ⟨rfl, qE, rfl⟩)
    | (have hgo := J2; clear hgo; at_builtin; refine wpList_mjoin (by rfl) _ _ (by rfl) w9.heap.size j2 (n2 + n) d2 (X2 ++ l) (by rfl) J2.out l9 n3 c9 X3 (by rfl) ((M9.out.sep hs1 (fun q hq => by omega)).sep hs2 (fun q hq => by omega)) (by omega) ?_; intro j3 d3 wJ3 hj3 hs3; have hs123 : Sep w9 wJ3 (fun q => w9.heap.size ≤ q) := (hs1.tr hs2 (fun i _ e => e)).tr hs3 (fun i _ e => e); have J3 := Hid.mk' (by have := hj3.ms; rw [← HTH2.out] at this; exact this); have M4' := Hid.mk' (((M4.out.kept hk49).mono hk49.size (Nat.le_refl _)).sep hs123 (fun q hq => by omega)); have hKE : Kept w wJ3 none := hK9.sep hs123 (fun i hi => Nat.le_trans hK9.size hi); clear hj3)
    | (have hgo := J1; clear hgo; at_builtin; refine wpList_mjoin (by rfl) _ _ (by rfl) w9.heap.size j1 n2 d1 X2 (by rfl) J1.out b n cb l (by rfl) (((HMz.out.kept hK9).mono hK9.size (Nat.le_refl _)).sep hs1 (fun q hq => by omega)) (by omega) ?_; intro j2 d2 wJ2 hj2 hs2; have J2 := Hid.mk' hj2; clear hj2)
    | (have hgo := M9; clear hgo; at_builtin; refine wpList_mjoin0 (by rfl) _ _ (by rfl) w9.heap.size (by rfl) l7 n2 c7 X2 (by rfl) ((M7.out.kept hk79).mono hk79.size (Nat.le_refl _)) (by omega) ?_; intro j1 d1 wJ1 hj1 hs1; have J1 := Hid.mk' hj1; clear hj1)
    | (have hgo := M8; clear hgo; go_at_call 11; refine (scan_as X3 n3 z3 HX3.out HN3.out HZ3.out (M8.out.by (fun x hx => by rcases List.mem_append.1 hx with h | h; (simp at h; omega); exact HBx.out x h)) (by omega) (HT.out.kept hK8)).mono ?_; rintro e w9 ⟨l9, c9, rfl, hz9, hk9⟩; have M9 := Hid.mk' hz9; have hK9 : Kept w w9 none := hK8.tr hk9; have hk79 : Kept w7 w9 none := hk78.tr hk9; have hk49 : Kept w4 w9 none := (hk46.tr hk7).tr hk79; clear hz9)
    | (have hgo := M7; clear hgo; at_builtin; refine wpList_join (by rfl) _ _ (by rfl) w7.heap.size (.slice (some ⟨w7.heap.size, 0, none⟩) 1 1) 1 [126] (by rfl) (own_lit1 w7 126 w7.heap.size (Nat.le_refl _)) c nc cc B (by rfl) ((HB.out.by_.kept hK7).kept (Kept.alloc _ _ _ _ _)) HB.out.nil (by omega) (by simp) ?_; intro a8 c8 w8 hm8 hg8; have M8 := Hid.mk' hm8; have hk78 : Kept w7 w8 none := (Kept.alloc _ _ _ _ _).newRow hg8 (fun i h => by simp [Value.ownBlock] at h; omega); have hK8 : Kept w w8 none := hK7.tr hk78; clear hm8 hg8)
    | (have hgo := M6; clear hgo; go_at_call 11; refine (scan_as X2 n2 z2 HX2.out HN2.out HZ2.out (M6.out.by (fun x hx => by rcases List.mem_append.1 hx with h | h; exact HAx.out x h; (simp at h; omega))) (by omega) (HT.out.kept hK6)).mono ?_; rintro e w7 ⟨l7, c7, rfl, hz7, hk7⟩; have M7 := Hid.mk' hz7; have hK7 : Kept w w7 none := hK6.tr hk7; clear hz7)
    | (have hgo := M5; clear hgo; at_builtin; refine wpList_join (by rfl) _ _ (by rfl) w4.heap.size (.slice a5 na c5) na A (by rfl) (own_kept M5.out.own (Kept.alloc _ _ _ _ _)) (some ⟨w5.heap.size, 0, none⟩) 1 1 [126] (by rfl) (by_lit1 w5 126 (by omega)) (fun e => nomatch e) (by omega) (by have := hk45.size; simp; omega) ?_; intro a6 c6 w6 hm6 hg6; have M6 : Hid (Mine w6 w4.heap.size a6 (na + 1) c6 (A ++ [126])) := hm6; have hk46 : Kept w4 w6 none := (hk45.tr (Kept.alloc _ _ _ _ _)).newRow hg6 (fun i h => M5.out.new i h); have hK6 : Kept w w6 none := hK4.tr hk46; clear hm6 hg6)
    | (have hgo := M4; clear hgo; at_builtin; refine wpList_join0 (by rfl) _ _ (by rfl) w4.heap.size (by rfl) a na ca A (by rfl) (HA.out.by_.kept hK4) HA.out.nil (by omega) (Nat.le_refl _) ?_; intro a5 c5 w5 hm5 hk45; have M5 := Hid.mk' hm5; clear hm5)
    | (have hgo := M3; clear hgo; go_at_call 11; refine (scan_as X1 (n2 + n + n3) z1 HX1.out HN1.out HZ1.out (M3.out.by (fun x hx => by rcases List.mem_append.1 hx with h | h; (rcases List.mem_append.1 h with h | h; exact HAx.out x h; exact HFx.out x h); exact HBx.out x h)) (by omega) (HT.out.kept hK3)).mono ?_; rintro e w4 ⟨l4, c4, rfl, hz4, hk4⟩; have M4 := Hid.mk' hz4; have hK4 : Kept w w4 none := hK3.tr hk4; clear hz4)
    | (have hgo := MB; clear hgo; at_builtin; refine wpList_join (by rfl) _ _ (by rfl) w2.heap.size (.slice aB (na + F.length) cB) (na + F.length) (A ++ F) (by rfl) MB.out.own c nc cc B (by rfl) (HB.out.by_.kept (hK2.tr hk2B)) HB.out.nil (by omega) hk2B.size ?_; intro a3 c3 w3 hm3 hg3; have M3 : Hid (Mine w3 w2.heap.size a3 (na + F.length + nc) c3 (A ++ F ++ B)) := hm3; have hk23 : Kept w2 w3 none := hk2B.newRow hg3 (fun i h => MB.out.new i h); have hK3 : Kept w w3 none := hK2.tr hk23; clear hm3 hg3)
    | (have hgo := MA; clear hgo; at_builtin; refine wpList_join (by rfl) _ _ (by rfl) w2.heap.size (.slice aA na cA) na A (by rfl) MA.out.own a2 F.length c2 F (by rfl) ((M2.out.by HFx.out).kept hk2A) (fun e => (M2.out.nil e).2) (by omega) hk2A.size ?_; intro aB cB wB hmB hgB; have MB := Hid.mk' hmB; have hk2B : Kept w2 wB none := hk2A.newRow hgB (fun i h => MA.out.new i h); clear hmB hgB)
    | (have hgo := M2; clear hgo; at_builtin; refine wpList_join0 (by rfl) _ _ (by rfl) w2.heap.size (by rfl) a na ca A (by rfl) (HA.out.by_.kept hK2) HA.out.nil (by omega) (Nat.le_refl _) ?_; intro aA cA wA hmA hk2A; have MA := Hid.mk' hmA; clear hmA)
    | (have hgo := hk1; clear hgo; go_at_call 27; refine (frames_any (HMs.out.kept hk1) HOK.out h4 (HT.out.kept hk1)).mono ?_; rw [hf, HFL.out]; rintro e w2 ⟨a2, c2, rfl, hm2, hk2⟩; have M2 := Hid.mk' hm2; have hK2 : Kept w w2 none := hk1.tr hk2; clear hm2)
    | (go_at_call 15; refine (alive_any _ HT.out).mono ?_; rintro e w1 ⟨rfl, hk1⟩))
  go_ret
  exact ⟨rfl, (hKE.tr (Kept.drewN _ _ _)).below⟩

end Go.Proofs.YtflehhliddcfgaaDoor
