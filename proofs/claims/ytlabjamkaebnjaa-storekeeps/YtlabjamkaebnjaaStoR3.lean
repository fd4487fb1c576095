/-
  THE DOCUMENT's Blocks, the rest (made by a program).
-/
import Derived.Test.YtlabjamkaebnjaaStoR2
import Derived.Test.YtlabjamkaebnjaaSto8
import Derived.Test.YtlabjamkaebnjaaStoNJ
namespace Go.Proofs.Ytlabjamkaebnjaa
open Go.RowKit Go.Lib Go.Deep
set_option linter.unusedVariables false
set_option linter.unusedSimpArgs false

def lenOf19 : Value → Nat
  | .slice _ n _ => n
  | _ => 0
/-- A list of blocks that grows. -/
structure Ol (w : World) (base : Nat) (v : Value) (k : Nat) (B : List (List Nat)) : Prop where
  ex : ∃ r : Nat → Option Addr × Nat, w.ownsRow base 22 1 v k ((List.range k).map fun i => .slice (r i).1 64 (r i).2) ∧ ∀ i, i < k → Come w (r i).1 64 (r i).2 (B.getD i []) ∧ ∀ x, (r i).1 = some x → base ≤ x.block ∧ v.ownBlock ≠ some x.block
theorem Ol.zero (w : World) (base : Nat) (B : List (List Nat)) : Ol w base (.slice none 0 0) 0 B := ⟨fun _ => (none, 0), World.ownsRow_nil _ _ _ _, fun i hi => absurd hi (by omega)⟩
theorem Ol.kept {w w' : World} {base k : Nat} {v : Value} {B : List (List Nat)} (h : Ol w base v k B) (q : Kept w w' none) : Ol w' base v k B := by
  obtain ⟨r, h1, h2⟩ := h.ex
  exact ⟨r, own_keptR h1 q (fun i _ => by simp), fun i hi => ⟨(h2 i hi).1.kpt q, (h2 i hi).2⟩⟩
theorem come_ne {w w' : World} {r : Option Nat} {a : Option Addr} {n c : Nat} {L : List Nat} (h : Come w a n c L) (k : Kept w w' r) (hr : ∀ x, a = some x → r ≠ some x.block) : Come w' a n c L := by
  cases r with
  | none => exact h.kpt k
  | some g => exact h.kptR k (fun x e q => hr x e (by rw [q]))
theorem Ol.push {w w' : World} {base k : Nat} {v v' : Value} {B : List (List Nat)} {r : Nat → Option Addr × Nat} (h2 : ∀ i, i < k → Come w (r i).1 64 (r i).2 (B.getD i []) ∧ ∀ x, (r i).1 = some x → base ≤ x.block ∧ v.ownBlock ≠ some x.block) (hg : Kept w w' v.ownBlock) {a : Option Addr} {c : Nat} (hC : Come w a 64 c (B.getD k [])) (ha : ∀ x, a = some x → base ≤ x.block ∧ v.ownBlock ≠ some x.block) 
    (hx : w'.ownsRow base 22 1 v' (k + 1) (((List.range k).map fun i => .slice (r i).1 64 (r i).2) ++ [.slice a 64 c])) (hv : v'.ownBlock = v.ownBlock ∨ v'.ownBlock = some w.heap.size) : Ol w' base v' (k + 1) B := by
  refine ⟨fun i => if i < k then r i else (a, c), ?_, fun i hi => ?_⟩
  · have e : ((List.range (k + 1)).map fun i => Value.slice (if i < k then r i else (a, c)).1 64 (if i < k then r i else (a, c)).2) = ((List.range k).map fun i => Value.slice (r i).1 64 (r i).2) ++ [.slice a 64 c] := by
      rw [List.range_succ, List.map_append]
      congr 1
      · exact List.map_congr_left (fun i hi => by rw [if_pos (List.mem_range.1 hi)])
      · simp
    rw [e]
    exact hx
  · have key : ∀ (b : Option Addr) (d : Nat), Come w b 64 d (B.getD i []) → (∀ x, b = some x → base ≤ x.block ∧ v.ownBlock ≠ some x.block) → Come w' b 64 d (B.getD i []) ∧ ∀ x, b = some x → base ≤ x.block ∧ v'.ownBlock ≠ some x.block := fun b d hc hb => by
      refine ⟨come_ne hc hg (fun x e => (hb x e).2), fun x e => ⟨(hb x e).1, ?_⟩⟩
      rcases hv with q | q
      · rw [q]; exact (hb x e).2
      · rw [q]
        subst e
        obtain ⟨g, off, e1, e2, _⟩ := hc.by_.at_ (by omega)
        cases e1
        intro q2
        have q3 := Option.some.inj q2
        dsimp only at q3 e2
        omega
    by_cases hk : i < k
    · simp only [if_pos hk]
      exact key _ _ (h2 i hk).1 (h2 i hk).2
    · have e : i = k := by omega
      subst e
      simp only [if_neg hk]
      exact key _ _ hC ha
theorem Ol.bl {w : World} {base k : Nat} {v : Value} {B : List (List Nat)} (h : Ol w base v k B) (hB : B.length = k) (h64 : ∀ p ∈ B, p.length = 64) (hk : k ≤ 1000) : ∃ a c, v = .slice a k c ∧ Bl w base a k B := by
  obtain ⟨r, h1, h2⟩ := h.ex
  rcases id h1.2 with ⟨rfl, e⟩ | ⟨g, cap, cur, rfl, g1, g2, hle, hm, hc, hr⟩
  · subst e
    exact ⟨none, 0, rfl, hB, by omega, fun q => absurd q (by omega)⟩
  · have hcs := h1.cells (g := g) rfl
    refine ⟨some ⟨g, 0, none⟩, cap, rfl, hB, by omega, fun hp => ⟨g, 0, rfl, g1, (Array.getElem?_eq_some_iff.1 g2).1, fun i p hp => ?_⟩⟩
    have hi : i < k := by have := (List.getElem?_eq_some_iff.1 hp).1; omega
    have hq := hcs i (.slice (r i).1 64 (r i).2) (by simp [hi])
    rw [Addr.add_lit] at hq
    obtain ⟨q1, q2⟩ := h2 i hi
    have e : B.getD i [] = p := by rw [List.getD_eq_getElem?_getD, hp]; rfl
    have el : p.length = 64 := h64 p (List.mem_of_getElem? hp)
    rw [e] at q1
    rw [el]
    exact ⟨_, _, hq, q1, fun x hx => (q2 x hx).1⟩

set_option maxRecDepth 100000 in
set_option maxHeartbeats 2000000 in
theorem rblocks_4 {pa : Option Addr} {n c : Nat} {g : Int} {m many : Nat} {l : List Pl} {w : World} (hP : Plans w pa n c l) (h1 : 1 ≤ many) (h2 : many ≤ 32) (hg1 : 1 ≤ g) (hg2 : g < 4611686018427387904) (hm : m ≤ 3) (hE : wholeE l = 0) (hf : 48 * many < (toldK m l).length) : Calls Try.prog 30 #[kpV g m pa n c, .int .i64 (many : Int)] w fun e w' => e = .returned (.tuple #[.slice none 0 0, .int .i64 190]) ∧ Kept w w' none := by
  have hkA : Kept w (w.alloc (.cells #[(.int .i64 g), (.int .u8 (m : Int)), (.slice pa n c)] 35)) none := Kept.alloc _ _ _ _ _
  have K := Hid.mk' hkA
  have RK := Hid.mk' (row3 w (.int .i64 g) (.int .u8 (m : Int)) (.slice pa n c) 35)
  have hmay : mayE19 g m l = 0 := by unfold mayE19 gtop; rw [if_pos (by omega), hE]
  have HM : Hid (∀ w', Kept w w' none → Calls Try.prog 48 #[kpV g m pa n c] w' fun e w2 => e = .returned (.int .i64 0) ∧ Kept w' w2 none) := Hid.mk' (fun w' hk => by have h := rmay19_any (g := g) (m := m) (hP.kept hk); rw [hmay] at h; exact h)
  have HW := Hid.mk' (fun w' (hk : Kept w w' none) => rwhole_any (hP.kept hk))
  have hw := whl_len l
  have HWL := Hid.mk' (whl_lt l)
  have hsm := sml_len10 m (by omega)
  obtain ⟨N1, hN1⟩ : ∃ N1, Hid ((wholeL l).length = N1) := ⟨_, Hid.mk' rfl⟩
  obtain ⟨n2, hn2⟩ : ∃ n2, Hid ((sml m).length = n2) := ⟨_, Hid.mk' rfl⟩
  have HS2 := Hid.mk' (fun w' => rsmall_mine m w' (by omega))
  rw [hN1.out, hE] at HW
  rw [hN1.out] at hw
  rw [hn2.out] at hsm HS2
  obtain ⟨n3, hn3⟩ : ∃ n3, Hid (n2 + N1 = n3) := ⟨_, Hid.mk' rfl⟩
  have hle3 : n3 ≤ 900 := by have := hn3.out; omega
  have HI : Hid (sml m ++ wholeL l = insK m l) := Hid.mk' rfl
  have HIL : Hid ((insK m l).length = n3) := Hid.mk' (by rw [← HI.out, List.length_append, hn2.out, hN1.out, hn3.out])
  have hs4 := sml_len10 n3 (by omega)
  obtain ⟨n4, hn4⟩ : ∃ n4, Hid ((sml n3).length = n4) := ⟨_, Hid.mk' rfl⟩
  have HS4 := Hid.mk' (fun w' => rsmall_mine n3 w' (by omega))
  rw [hn4.out] at hs4 HS4
  obtain ⟨n5, hn5⟩ : ∃ n5, Hid (n4 + n3 = n5) := ⟨_, Hid.mk' rfl⟩
  have hle5 : n5 ≤ 910 := by have := hn5.out; omega
  have HT : Hid (sml n3 ++ insK m l = toldK m l) := Hid.mk' (by unfold toldK; rw [HIL.out])
  have HTL : Hid ((toldK m l).length = n5) := Hid.mk' (by rw [← HT.out, List.length_append, hn4.out, HIL.out, hn5.out])
  have HIT := Hid.mk' (ins_lt m l)
  have HTT := Hid.mk' (tdK_lt m l)
  have hm' : (m : Int) ≤ 3 := by omega
  have M0 := Hid.mk' True.intro
  clear hP hkA hmay
  rw [HTL.out] at hf
  have hf' : 48 * (many : Int) < (n5 : Int) := by omega
  go_enter Try.func30, Try.ntmps30
  go_wp2_with (first
    | (have hgo := M5; clear hgo; at_builtin; refine wpList_join (by rfl) _ _ (by rfl) w4.heap.size (.slice a5 n4 c5) n4 (sml n3) (by rfl) S5.out.own a4 n3 c4 (insK m l) (by rfl) ((I4.out.by HIT.out).kept K5.out) (fun e => (I4.out.nil e).2) (by omega) K5.out.size ?_; intro a6 c6 w6 hm6 hg6; rw [hn5.out, HT.out] at hm6; rw [hn5.out]; have T6 := Hid.mk' hm6; have K6 : Hid (Kept w4 w6 none) := Hid.mk' (K5.out.newRow hg6 S5.out.new); replace K : Hid (Kept w w6 none) := Hid.mk' (K.out.tr K6.out); replace RK := Hid.mk' (rowK RK4.out K6.out); replace k0 : w6.cell? ⟨w.heap.size, 0, none⟩ = some (.int .i64 g) := RK.out.cell (i := 0) (by omega); replace k1 : w6.cell? ⟨w.heap.size, 1, none⟩ = some (.int .u8 (m : Int)) := RK.out.cell (i := 1) (by omega); replace k2 : w6.cell? ⟨w.heap.size, 2, none⟩ = some (.slice pa n c) := RK.out.cell (i := 2) (by omega); have M6 := Hid.mk' True.intro; clear hm6 hg6 M5)
    | (have hgo := M4; clear hgo; go_at_call 49; refine (HS4.out w4).mono ?_; rintro e w5 ⟨a5, c5, rfl, hs, hk⟩; have S5 := Hid.mk' hs; have K5 := Hid.mk' hk; have RK4 := RK; replace RK := Hid.mk' (rowK RK.out hk); replace k0 : w5.cell? ⟨w.heap.size, 0, none⟩ = some (.int .i64 g) := RK.out.cell (i := 0) (by omega); replace k1 : w5.cell? ⟨w.heap.size, 1, none⟩ = some (.int .u8 (m : Int)) := RK.out.cell (i := 1) (by omega); replace k2 : w5.cell? ⟨w.heap.size, 2, none⟩ = some (.slice pa n c) := RK.out.cell (i := 2) (by omega); have M5 := Hid.mk' True.intro; clear hs hk M4)
    | (have hgo := M3; clear hgo; at_builtin; refine wpList_join (by rfl) _ _ (by rfl) w1.heap.size (.slice a2 n2 c2) n2 (sml m) (by rfl) S2.out.own a3 N1 c3 (wholeL l) (by rfl) (P3.out.by HWL.out) (fun e => (P3.out.nil e).2) (by omega) K2.out.size ?_; intro a4 c4 w4 hm4 hg4; rw [hn3.out, HI.out] at hm4; rw [hn3.out]; have I4 := Hid.mk' hm4; have K4 : Hid (Kept w1 w4 none) := Hid.mk' (K2.out.newRow hg4 S2.out.new); replace K : Hid (Kept w w4 none) := Hid.mk' (KA.out.tr K4.out); replace RK := Hid.mk' (rowK RK1.out K4.out); replace k0 : w4.cell? ⟨w.heap.size, 0, none⟩ = some (.int .i64 g) := RK.out.cell (i := 0) (by omega); replace k1 : w4.cell? ⟨w.heap.size, 1, none⟩ = some (.int .u8 (m : Int)) := RK.out.cell (i := 1) (by omega); replace k2 : w4.cell? ⟨w.heap.size, 2, none⟩ = some (.slice pa n c) := RK.out.cell (i := 2) (by omega); have M4 := Hid.mk' True.intro; clear hm4 hg4 M3)
    | (have hgo := M2; clear hgo; go_at_call 50; refine (HW.out _ K.out).mono ?_; rintro e w3 ⟨a3, c3, rfl, hm3, hk⟩; have P3 := Hid.mk' hm3; replace K2 := Hid.mk' (K2.out.tr hk); replace S2 := Hid.mk' (S2.out.kept hk); replace K := Hid.mk' (K.out.tr hk); replace RK := Hid.mk' (rowK RK.out hk); replace k0 : w3.cell? ⟨w.heap.size, 0, none⟩ = some (.int .i64 g) := RK.out.cell (i := 0) (by omega); replace k1 : w3.cell? ⟨w.heap.size, 1, none⟩ = some (.int .u8 (m : Int)) := RK.out.cell (i := 1) (by omega); replace k2 : w3.cell? ⟨w.heap.size, 2, none⟩ = some (.slice pa n c) := RK.out.cell (i := 2) (by omega); have M3 := Hid.mk' True.intro; clear hm3 hk M2)
    | (have hgo := M1; clear hgo; go_at_call 49; refine (HS2.out w1).mono ?_; rintro e w2 ⟨a2, c2, rfl, hs, hk⟩; have S2 := Hid.mk' hs; have K2 := Hid.mk' hk; replace K := Hid.mk' (K.out.tr hk); replace RK := Hid.mk' (rowK RK.out hk); replace k0 : w2.cell? ⟨w.heap.size, 0, none⟩ = some (.int .i64 g) := RK.out.cell (i := 0) (by omega); replace k1 : w2.cell? ⟨w.heap.size, 1, none⟩ = some (.int .u8 (m : Int)) := RK.out.cell (i := 1) (by omega); replace k2 : w2.cell? ⟨w.heap.size, 2, none⟩ = some (.slice pa n c) := RK.out.cell (i := 2) (by omega); have M2 := Hid.mk' True.intro; clear hs hk M1)
    | (have hgo := M0; clear hgo; go_at_call 48; refine (HM.out _ K.out).mono ?_; rintro e w1 ⟨rfl, hk⟩; replace K := Hid.mk' (K.out.tr hk); replace RK := Hid.mk' (rowK RK.out hk); have k0 : w1.cell? ⟨w.heap.size, 0, none⟩ = some (.int .i64 g) := RK.out.cell (i := 0) (by omega); have k1 : w1.cell? ⟨w.heap.size, 1, none⟩ = some (.int .u8 (m : Int)) := RK.out.cell (i := 1) (by omega); have k2 : w1.cell? ⟨w.heap.size, 2, none⟩ = some (.slice pa n c) := RK.out.cell (i := 2) (by omega); have KA := K; have RK1 := RK; have M1 := Hid.mk' True.intro; clear hk M0))
  go_ret2
  exact ⟨rfl, K.out⟩
set_option maxRecDepth 100000 in
set_option maxHeartbeats 2000000 in
theorem rblocks_5 {pa : Option Addr} {n c : Nat} {g : Int} {m many : Nat} {l : List Pl} {w : World} (hP : Plans w pa n c l) (h1 : 1 ≤ many) (h2 : many ≤ 32) (hg1 : 1 ≤ g) (hg2 : g < 4611686018427387904) (hm : m ≤ 3) (hE : wholeE l = 0) (hf : (toldK m l).length ≤ 48 * many) : Calls Try.prog 30 #[kpV g m pa n c, .int .i64 (many : Int)] w (fun e w' => ∃ a c, e = .returned (.tuple #[.slice a many c, .int .i64 0]) ∧ Bl w' w.heap.size a many (blsK g.toNat m l many) ∧ Kept w w' none) := by
  have hkA : Kept w (w.alloc (.cells #[(.int .i64 g), (.int .u8 (m : Int)), (.slice pa n c)] 35)) none := Kept.alloc _ _ _ _ _
  have K := Hid.mk' hkA
  have RK := Hid.mk' (row3 w (.int .i64 g) (.int .u8 (m : Int)) (.slice pa n c) 35)
  have hmay : mayE19 g m l = 0 := by unfold mayE19 gtop; rw [if_pos (by omega), hE]
  have HM : Hid (∀ w', Kept w w' none → Calls Try.prog 48 #[kpV g m pa n c] w' fun e w2 => e = .returned (.int .i64 0) ∧ Kept w' w2 none) := Hid.mk' (fun w' hk => by have h := rmay19_any (g := g) (m := m) (hP.kept hk); rw [hmay] at h; exact h)
  have HW := Hid.mk' (fun w' (hk : Kept w w' none) => rwhole_any (hP.kept hk))
  have hw := whl_len l
  have HWL := Hid.mk' (whl_lt l)
  have hsm := sml_len10 m (by omega)
  obtain ⟨N1, hN1⟩ : ∃ N1, Hid ((wholeL l).length = N1) := ⟨_, Hid.mk' rfl⟩
  obtain ⟨n2, hn2⟩ : ∃ n2, Hid ((sml m).length = n2) := ⟨_, Hid.mk' rfl⟩
  have HS2 := Hid.mk' (fun w' => rsmall_mine m w' (by omega))
  rw [hN1.out, hE] at HW
  rw [hN1.out] at hw
  rw [hn2.out] at hsm HS2
  obtain ⟨n3, hn3⟩ : ∃ n3, Hid (n2 + N1 = n3) := ⟨_, Hid.mk' rfl⟩
  have hle3 : n3 ≤ 900 := by have := hn3.out; omega
  have HI : Hid (sml m ++ wholeL l = insK m l) := Hid.mk' rfl
  have HIL : Hid ((insK m l).length = n3) := Hid.mk' (by rw [← HI.out, List.length_append, hn2.out, hN1.out, hn3.out])
  have hs4 := sml_len10 n3 (by omega)
  obtain ⟨n4, hn4⟩ : ∃ n4, Hid ((sml n3).length = n4) := ⟨_, Hid.mk' rfl⟩
  have HS4 := Hid.mk' (fun w' => rsmall_mine n3 w' (by omega))
  rw [hn4.out] at hs4 HS4
  obtain ⟨n5, hn5⟩ : ∃ n5, Hid (n4 + n3 = n5) := ⟨_, Hid.mk' rfl⟩
  have hle5 : n5 ≤ 910 := by have := hn5.out; omega
  have HT : Hid (sml n3 ++ insK m l = toldK m l) := Hid.mk' (by unfold toldK; rw [HIL.out])
  have HTL : Hid ((toldK m l).length = n5) := Hid.mk' (by rw [← HT.out, List.length_append, hn4.out, HIL.out, hn5.out])
  have HIT := Hid.mk' (ins_lt m l)
  have HTT := Hid.mk' (tdK_lt m l)
  have hm' : (m : Int) ≤ 3 := by omega
  have M0 := Hid.mk' True.intro
  clear hP hkA hmay
  rw [HTL.out] at hf
  have hf' : ¬ 48 * (many : Int) < (n5 : Int) := by omega
  have HFI : Hid (toldK m l ++ List.replicate (48 * many - n5) 0 = filK m l many) := Hid.mk' (by unfold filK; rw [HTL.out])
  have HPI : Hid (pieE m l many = 0) := Hid.mk' (by unfold pieE; rw [if_pos hE, if_pos (by rw [HTL.out]; omega)])
  have HP8 : Hid (∀ w', Calls Try.prog 51 #[.int .u64 g, .int .i64 8] w' fun e w2 => ∃ a c, e = .returned (.tuple #[.slice a 8 c, .int .i64 0]) ∧ Mine w2 w'.heap.size a 8 c (leb 8 g.toNat) ∧ Kept w' w2 none) := Hid.mk' (fun w' => by
    obtain ⟨gn, rfl⟩ := Int.eq_ofNat_of_zero_le (show 0 ≤ g by omega)
    have h := rput_mine gn 8 w' (by omega) (by omega) (by omega) (by show gn / 18446744073709551616 = 0; omega)
    exact h)
  have HPOS := Hid.mk' hg1
  go_enter Try.func30, Try.ntmps30
  go_wp2_with (first
    | (have hgo := M5; clear hgo; at_builtin; refine wpList_join (by rfl) _ _ (by rfl) w4.heap.size (.slice a5 n4 c5) n4 (sml n3) (by rfl) S5.out.own a4 n3 c4 (insK m l) (by rfl) ((I4.out.by HIT.out).kept K5.out) (fun e => (I4.out.nil e).2) (by omega) K5.out.size ?_; intro a6 c6 w6 hm6 hg6; rw [hn5.out, HT.out] at hm6; rw [hn5.out]; have T6 := Hid.mk' hm6; have K6 : Hid (Kept w4 w6 none) := Hid.mk' (K5.out.newRow hg6 S5.out.new); replace K : Hid (Kept w w6 none) := Hid.mk' (K.out.tr K6.out); replace RK := Hid.mk' (rowK RK4.out K6.out); replace k0 : w6.cell? ⟨w.heap.size, 0, none⟩ = some (.int .i64 g) := RK.out.cell (i := 0) (by omega); replace k1 : w6.cell? ⟨w.heap.size, 1, none⟩ = some (.int .u8 (m : Int)) := RK.out.cell (i := 1) (by omega); replace k2 : w6.cell? ⟨w.heap.size, 2, none⟩ = some (.slice pa n c) := RK.out.cell (i := 2) (by omega); have M6 := Hid.mk' True.intro; clear hm6 hg6 M5)
    | (have hgo := M4; clear hgo; go_at_call 49; refine (HS4.out w4).mono ?_; rintro e w5 ⟨a5, c5, rfl, hs, hk⟩; have S5 := Hid.mk' hs; have K5 := Hid.mk' hk; have RK4 := RK; replace RK := Hid.mk' (rowK RK.out hk); replace k0 : w5.cell? ⟨w.heap.size, 0, none⟩ = some (.int .i64 g) := RK.out.cell (i := 0) (by omega); replace k1 : w5.cell? ⟨w.heap.size, 1, none⟩ = some (.int .u8 (m : Int)) := RK.out.cell (i := 1) (by omega); replace k2 : w5.cell? ⟨w.heap.size, 2, none⟩ = some (.slice pa n c) := RK.out.cell (i := 2) (by omega); have M5 := Hid.mk' True.intro; clear hs hk M4)
    | (have hgo := M3; clear hgo; at_builtin; refine wpList_join (by rfl) _ _ (by rfl) w1.heap.size (.slice a2 n2 c2) n2 (sml m) (by rfl) S2.out.own a3 N1 c3 (wholeL l) (by rfl) (P3.out.by HWL.out) (fun e => (P3.out.nil e).2) (by omega) K2.out.size ?_; intro a4 c4 w4 hm4 hg4; rw [hn3.out, HI.out] at hm4; rw [hn3.out]; have I4 := Hid.mk' hm4; have K4 : Hid (Kept w1 w4 none) := Hid.mk' (K2.out.newRow hg4 S2.out.new); replace K : Hid (Kept w w4 none) := Hid.mk' (KA.out.tr K4.out); replace RK := Hid.mk' (rowK RK1.out K4.out); replace k0 : w4.cell? ⟨w.heap.size, 0, none⟩ = some (.int .i64 g) := RK.out.cell (i := 0) (by omega); replace k1 : w4.cell? ⟨w.heap.size, 1, none⟩ = some (.int .u8 (m : Int)) := RK.out.cell (i := 1) (by omega); replace k2 : w4.cell? ⟨w.heap.size, 2, none⟩ = some (.slice pa n c) := RK.out.cell (i := 2) (by omega); have M4 := Hid.mk' True.intro; clear hm4 hg4 M3)
    | (have hgo := M2; clear hgo; go_at_call 50; refine (HW.out _ K.out).mono ?_; rintro e w3 ⟨a3, c3, rfl, hm3, hk⟩; have P3 := Hid.mk' hm3; replace K2 := Hid.mk' (K2.out.tr hk); replace S2 := Hid.mk' (S2.out.kept hk); replace K := Hid.mk' (K.out.tr hk); replace RK := Hid.mk' (rowK RK.out hk); replace k0 : w3.cell? ⟨w.heap.size, 0, none⟩ = some (.int .i64 g) := RK.out.cell (i := 0) (by omega); replace k1 : w3.cell? ⟨w.heap.size, 1, none⟩ = some (.int .u8 (m : Int)) := RK.out.cell (i := 1) (by omega); replace k2 : w3.cell? ⟨w.heap.size, 2, none⟩ = some (.slice pa n c) := RK.out.cell (i := 2) (by omega); have M3 := Hid.mk' True.intro; clear hm3 hk M2)
    | (have hgo := M1; clear hgo; go_at_call 49; refine (HS2.out w1).mono ?_; rintro e w2 ⟨a2, c2, rfl, hs, hk⟩; have S2 := Hid.mk' hs; have K2 := Hid.mk' hk; replace K := Hid.mk' (K.out.tr hk); replace RK := Hid.mk' (rowK RK.out hk); replace k0 : w2.cell? ⟨w.heap.size, 0, none⟩ = some (.int .i64 g) := RK.out.cell (i := 0) (by omega); replace k1 : w2.cell? ⟨w.heap.size, 1, none⟩ = some (.int .u8 (m : Int)) := RK.out.cell (i := 1) (by omega); replace k2 : w2.cell? ⟨w.heap.size, 2, none⟩ = some (.slice pa n c) := RK.out.cell (i := 2) (by omega); have M2 := Hid.mk' True.intro; clear hs hk M1)
    | (have hgo := M0; clear hgo; go_at_call 48; refine (HM.out _ K.out).mono ?_; rintro e w1 ⟨rfl, hk⟩; replace K := Hid.mk' (K.out.tr hk); replace RK := Hid.mk' (rowK RK.out hk); have k0 : w1.cell? ⟨w.heap.size, 0, none⟩ = some (.int .i64 g) := RK.out.cell (i := 0) (by omega); have k1 : w1.cell? ⟨w.heap.size, 1, none⟩ = some (.int .u8 (m : Int)) := RK.out.cell (i := 1) (by omega); have k2 : w1.cell? ⟨w.heap.size, 2, none⟩ = some (.slice pa n c) := RK.out.cell (i := 2) (by omega); have KA := K; have RK1 := RK; have M1 := Hid.mk' True.intro; clear hk M0))
  have HT6 := Hid.mk' (T6.out.lower K4.out.size)
  have HK0 := K
  go_loopw [10] (fun bv wr => ∃ (k : Nat) (a7 : Option Addr) (c7 : Nat), bv = .slice a7 (n5 + k) c7 ∧ n5 + k ≤ 48 * many ∧ Mine wr w1.heap.size a7 (n5 + k) c7 (toldK m l ++ List.replicate k 0) ∧ Kept w1 wr none) (fun bv _ => 48 * many - (lenOf19 bv))
  case atStart => exact ⟨0, a6, c6, rfl, by omega, by simpa using HT6.out, K4.out.tr K6.out⟩
  case round =>
    obtain ⟨k, a7, c7, rfl, hk, hm7, hkw⟩ := hrel
    have HM7 := Hid.mk' hm7
    have K7 := Hid.mk' hkw
    clear hm7 hkw
    have hsz := K7.out.size
    by_cases hlt : n5 + k < 48 * many
    · have hlt' : ((n5 + k : Nat) : Int) < 48 * (many : Int) := by omega
      have HB1 : Hid (By (wr.alloc (.cells #[.int .u8 0] 5)) (some ⟨wr.heap.size, 0, none⟩) 1 [0]) := Hid.mk' (by_one wr 0 (by omega))
      go_wp2_with (at_builtin; refine wpList_join (by rfl) _ _ (by rfl) w1.heap.size (.slice a7 (n5 + k) c7) (n5 + k) (toldK m l ++ List.replicate k 0) (by rfl) (HM7.out.own.alloc _) (some ⟨wr.heap.size, 0, none⟩) 1 1 [0] (by rfl) HB1.out (fun e => (nomatch e)) (by omega) (by simp; omega) ?_; intro a9 c9 w9 hm9 hg9)
      go_roundw
      case rel => exact ⟨k + 1, a9, c9, rfl, by omega, by rw [List.replicate_succ', ← List.append_assoc]; exact hm9, (K7.out.tr (Kept.alloc _ _ _ _ _)).newRow hg9 HM7.out.new⟩
      case measure => simp [lenOf19]; omega
    · obtain rfl : k = 48 * many - n5 := by omega
      have hk5 : n5 + (48 * many - n5) = 48 * many := by omega
      rw [hk5] at HM7 ⊢
      rw [HFI.out] at HM7
      have RK := Hid.mk' (rowK RK1.out K7.out)
      have k0 : wr.cell? ⟨w.heap.size, 0, none⟩ = some (.int .i64 g) := RK.out.cell (i := 0) (by omega)
      have k1 : wr.cell? ⟨w.heap.size, 1, none⟩ = some (.int .u8 (m : Int)) := RK.out.cell (i := 1) (by omega)
      have k2 : wr.cell? ⟨w.heap.size, 2, none⟩ = some (.slice pa n c) := RK.out.cell (i := 2) (by omega)
      have M7 := Hid.mk' True.intro
      obtain ⟨gb, rfl⟩ : ∃ gb, a7 = some ⟨gb, 0, none⟩ := by
        rcases id HM7.out.own.2 with ⟨_, q⟩ | ⟨q, _, _, e, _⟩
        · omega
        · injection e with e1; exact ⟨q, e1⟩
      have hg2x : g < 18446744073709551616 := by omega
      have hg0 : 0 ≤ g := by omega
      go_wp2_with (have hgo := M7; clear hgo; go_at_call 51; refine (HP8.out wr).mono ?_; rintro e w8 ⟨a8, c8, rfl, hm8, hk8⟩; have G8 := Hid.mk' hm8; have K8 := Hid.mk' hk8; clear hm8 hk8 M7)
      have HMB : Hid (By w8 (some ⟨gb, 0, none⟩) (48 * many) (filK m l many)) := Hid.mk' ((HM7.out.by (fil_lt m l many)).kept K8.out)
      have HGB : Hid (By w8 a8 8 (leb 8 g.toNat)) := Hid.mk' (G8.out.by (leb_lt _ _))
      have HF : Hid ((filK m l many).length = 48 * many) := Hid.mk' (fil_len (by rw [HTL.out]; omega))
      go_loopw [13, 14] (fun ov iv wr' => ∃ k : Nat, k ≤ many ∧ iv = .int .i64 k ∧ Ol wr' w8.heap.size ov k (blsK g.toNat m l many) ∧ Kept w8 wr' none) (fun _ iv _ => many - (intOf iv).toNat)
      case atStart => exact ⟨0, Nat.zero_le _, rfl, Ol.zero _ _ _, Kept.refl _ _⟩
      case round =>
        obtain ⟨i, hi, rfl, hol, hki⟩ := hrel
        have OL := Hid.mk' hol
        have KI := Hid.mk' hki
        clear hol hki
        by_cases hlt2 : i < many
        · have HG1 := Hid.mk' (HGB.out.kept KI.out)
          have hs1 := KI.out.size
          have ei : (i : Int) * 48 = ((48 * i : Nat) : Int) := by omega
          obtain ⟨r, hr1, hr2⟩ := OL.out.ex
          obtain ⟨i0, hi0, hz0, hz1, hz2⟩ := info_parts Try.infoB2
          have HR1 := Hid.mk' hr1
          have HR2 := Hid.mk' hr2
          have HPB : Hid (∀ w', Kept w8 w' none → By w' (some ⟨gb, 48 * i, none⟩) 48 (pcK (filK m l many) i)) := Hid.mk' (fun w' hk => by
            have h := (HMB.out.kept hk).subN (i := 48 * i) (k := 48) (by omega)
            rw [Nat.zero_add] at h
            exact h)
          have HLT : Hid (∀ q, u13.ownBlock = some q → q < wr.heap.size) := Hid.mk' (fun q hq => (own_lt HR1.out q hq).2)
          have HBK : Hid ((blsK g.toNat m l many).getD i [] = bkK g.toNat (pcK (filK m l many) i)) := Hid.mk' (by rw [List.getD_eq_getElem?_getD]; unfold blsK; simp [hlt2])
          have HB64 : Hid (∀ x ∈ bkK g.toNat (pcK (filK m l many) i), x < 256) := Hid.mk' (bk_lt (pc_lt (fil_lt _ _ _) _))
          clear hr1 hr2
          have hcap := HM7.out.room
          have hb2 : 48 * i + 48 ≤ c7 := by omega
          have hb3 : 48 * i ≤ 48 * i + 48 := by omega
          have MA := Hid.mk' True.intro
          go_wp2_with (first
            | (have hgo := MD; clear hgo; at_builtin; refine wpList_append_own_at _ (by rfl) _ _ 64 (by rfl) w8.heap.size 22 i0 (.slice none 0 0) 1 24 Try.uB2 hi0 hz0 hz1 hz2 rfl (by decide) u13 i _ (by rfl) (own_keptR HR1.out (KZ.out.tr (Kept.alloc _ _ _ _ _)) (fun i _ => by simp)) ⟨wz.heap.size, 0, none⟩ 1 1 [.slice az 64 cz] (by rfl) rfl (cell_one_new _ _ _) (by simp [Value.oneCell']) (by unfold maxLen; omega) (by omega) (by have := KZ.out.size; simp; omega) ?_; intro v' wo hown' hgo' _ hblk; have HO := Hid.mk' hown'; have HG := Hid.mk' hgo'; have HBL := Hid.mk' hblk; clear hown' hgo' hblk MD)
            | (have hgo := MC; clear hgo; at_builtin; refine wpList_join (by rfl) _ _ (by rfl) wr.heap.size (.slice ay 56 cy) 56 (leb 8 g.toNat ++ pcK (filK m l many) i) (by rfl) X2.out.own a8 8 c8 (leb 8 g.toNat) (by rfl) (HG1.out.kept KY.out) (fun e => (G8.out.nil e).2) (by omega) KY.out.size ?_; intro az cz wz hmz hgz; have X3 := Hid.mk' hmz; have KZ : Hid (Kept wr wz none) := Hid.mk' (KY.out.newRow hgz X2.out.new); have MD := Hid.mk' True.intro; clear hmz hgz MC)
            | (have hgo := MB; clear hgo; at_builtin; refine wpList_join (by rfl) _ _ (by rfl) wr.heap.size (.slice ax 8 cx) 8 (leb 8 g.toNat) (by rfl) X1.out.own (some ⟨gb, 48 * i, none⟩) 48 (c7 - 48 * i) (pcK (filK m l many) i) (by first | rfl | (go_simp; done) | (simp; done) | (simp [Act.eval]; done) | (simp [Act.eval]; omega)) (HPB.out _ (KI.out.tr KX.out)) (fun e => (nomatch e)) (by omega) KX.out.size ?_; intro ay cy wy hmy hgy; have X2 := Hid.mk' hmy; have KY : Hid (Kept wr wy none) := Hid.mk' (KX.out.newRow hgy X1.out.new); have MC := Hid.mk' True.intro; clear hmy hgy MB)
            | (have hgo := MA; clear hgo; at_builtin; refine wpList_join (by rfl) _ _ (by rfl) wr.heap.size (.slice none 0 0) 0 [] (by rfl) (World.ownsRow_nil _ _ _ _) a8 8 c8 (leb 8 g.toNat) (by rfl) HG1.out (fun e => (G8.out.nil e).2) (by omega) (Nat.le_refl _) ?_; intro ax cx wx hmx hgx; have X1 := Hid.mk' hmx; have KX : Hid (Kept wr wx none) := Hid.mk' ((Kept.refl _ _).newRow hgx (fun i h => by cases h)); have MB := Hid.mk' True.intro; clear hmx hgx MA))
          have KZA : Kept wr (wz.alloc (.cells #[.slice az 64 cz] 22)) none := KZ.out.tr (Kept.alloc _ _ _ _ _)
          have hX3 : Mine wz wr.heap.size az 64 cz (bkK g.toNat (pcK (filK m l many) i)) := by
            have h := X3.out
            rw [List.append_assoc] at h
            exact h
          have hC3 : Come (wz.alloc (.cells #[.slice az 64 cz] 22)) az 64 cz ((blsK g.toNat m l many).getD i []) := by
            rw [HBK.out]
            exact (mineCome hX3 HB64.out).kpt (Kept.alloc _ _ _ _ _)
          have hol2 : Ol wo w8.heap.size v' (i + 1) (blsK g.toNat m l many) := Ol.push (fun j hj => ⟨(HR2.out j hj).1.kpt KZA, (HR2.out j hj).2⟩) HG.out hC3
            (fun x e => by
              have h1 := mineAt hX3 x e
              exact ⟨Nat.le_trans hs1 h1, fun q => by have := HLT.out _ q; omega⟩) HO.out HBL.out
          have hk2 : Kept w8 wo none := (KI.out.tr KZA).newRow HG.out (fun q hq => (own_lt HR1.out q hq).1)
          exact ⟨⟨i + 1, by omega, by go_num, hol2, hk2⟩, by simp [intOf]; omega⟩
        · obtain rfl : i = many := by omega
          obtain ⟨ao, co, rfl, hbl⟩ := OL.out.bl (bls_len _ _ _ _) (bls_64 HPI.out) (by omega)
          have HBL := Hid.mk' hbl
          clear hbl
          go_wp2
          go_ret2
          have hk8 : Kept w w8 none := (KA.out.tr K7.out).tr K8.out
          exact ⟨ao, co, rfl, HBL.out.mono hk8.size, hk8.tr KI.out⟩

end Go.Proofs.Ytlabjamkaebnjaa
