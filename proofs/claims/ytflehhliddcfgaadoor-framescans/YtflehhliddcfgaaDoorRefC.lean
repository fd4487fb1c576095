/-
  THE CONTRACTS of the document's own functions (stoplineref04): Bare, Open, Same.
-/
import Derived.Test.YtflehhliddcfgaaDoorRefB
namespace Go.Proofs.YtflehhliddcfgaaDoor
open Go.RowKit Go.Lib Go.Deep
set_option linter.unusedVariables false
set_option linter.unusedSimpArgs false

theorem rbF_lt : ∀ n, ∀ L : List Nat, L.length ≤ n → (∀ x ∈ L, x < 256) → ∀ x ∈ rbF L, x < 256
  | 0, L, h, hb => by have : L = [] := List.length_eq_zero_iff.1 (by omega); subst this; simp [rbF]
  | n + 1, [], h, hb => by simp [rbF]
  | n + 1, [x], h, hb => by simpa [rbF] using hb
  | n + 1, x :: y :: L, h, hb => by
    intro z hz
    rw [rbF] at hz
    split at hz
    · rename_i hc
      rcases List.mem_cons.1 hz with rfl | hz
      · omega
      · exact rbF_lt n L (by simp at h; omega) (fun t ht => hb t (List.mem_cons_of_mem _ (List.mem_cons_of_mem _ ht))) z hz
    · rcases List.mem_cons.1 hz with rfl | hz
      · exact hb _ (List.mem_cons_self ..)
      · exact rbF_lt n (y :: L) (by simp at h ⊢; omega) (fun t ht => hb t (List.mem_cons_of_mem _ ht)) z hz
set_option maxRecDepth 100000 in
set_option maxHeartbeats 2000000 in
theorem rbare_any {a : Option Addr} {len c : Nat} {L : List Nat} {w : World} (hB : By w a len L) (hlen : len ≤ 1000000) :
    Calls Tryd.prog 20 #[.slice a len c] w fun e w' => ∃ a' c', e = .returned (.tuple #[.slice a' (bareL L).length c', .int .i64 ((bareE L : Nat) : Int)]) ∧ Mine w' w.heap.size a' (bareL L).length c' (bareL L) ∧ Kept w w' none := by
  have HL := Hid.mk' hB.size
  have HX := Hid.mk' hB.lt
  have HG : Hid (∀ i, L.getD i 0 < 256) := hB.getD
  have HA := Hid.mk' hB
  have HRL : Hid ((rbF L).length ≤ len) := by have := rbF_len L.length L (Nat.le_refl _); rw [hB.size] at this; exact this
  clear hB
  go_enter Tryd.func20, Tryd.ntmps20
  go_wp2
  go_loopw [4, 5] (fun l i wr => ∃ k : Nat, k ≤ len ∧ i = .int .i64 k ∧ ∃ a' n' c' O, l = .slice a' n' c' ∧ n' = O.length ∧ O ++ rbF (L.drop k) = rbF L ∧ Mine wr w.heap.size a' n' c' O ∧ Kept w wr none) (fun _ i _ => len - (intOf i).toNat)
  case atStart => exact ⟨0, Nat.zero_le _, rfl, none, 0, 0, [], rfl, rfl, rfl, ⟨World.ownsRow_nil _ _ _ _, fun _ => ⟨rfl, rfl⟩, Nat.le_refl _, by omega⟩, Kept.refl _ _⟩
  case round =>
    obtain ⟨k, hk, rfl, a', n', c', O, rfl, hn, hO, hM, hkw⟩ := hrel
    have hn' : n' ≤ len := by have h1 := congrArg List.length hO; rw [List.length_append] at h1; have := HRL.out; omega
    by_cases hlt : k < len
    · have hBr := HA.out.kept hkw
      obtain ⟨b, off, rfl, hb, hc⟩ := hBr.at_ (by omega)
      have hcell := hc k hlt
      have hx := HG.out k
      have HM := Hid.mk' hM
      have HN := Hid.mk' hn
      have HO := Hid.mk' hO
      clear hM hn hO hBr
      by_cases hp : L.getD k 0 = 125 ∧ k + 1 < len ∧ (L.getD (k + 1) 0 = 93 ∨ L.getD (k + 1) 0 = 94)
      · obtain ⟨p1, p2, p3⟩ := hp
        have HR := Hid.mk' (rb_pair L k (by rw [HL.out]; exact p2) p1 p3)
        have hcell2 := hc (k + 1) p2
        rw [p1] at hcell
        have hy : L.getD (k + 1) 0 + 32 < 256 := by omega
        clear hc
        generalize L.getD (k + 1) 0 = y at *
        have hb1 := by_lit1 wr (y + 32) hy
        rw [show ((y + 32 : Nat) : Int) = (y : Int) + 32 by omega] at hb1
        have HB1 := Hid.mk' hb1
        have d0 : (k : Int) + 1 < (len : Int) := by omega
        clear hb1
        rcases p3 with rfl | rfl
        all_goals
          go_wp2_with (at_builtin; refine wpList_join (by rfl) _ _ (by rfl) w.heap.size (.slice a' n' c') n' O (by rfl) (own_kept HM.out.own (Kept.alloc _ _ _ _ _)) (some ⟨wr.heap.size, 0, none⟩) 1 1 _ (by rfl) HB1.out (fun e => nomatch e) (by omega) (by have := hkw.size; simp; omega) ?_; intro a2 c2 w2 hm2 hg2)
          go_roundw
          case rel => exact ⟨k + 2, by omega, by go_num, a2, _, c2, _, rfl, by rw [List.length_append, ← HN.out]; rfl, by rw [List.append_assoc, List.singleton_append, ← HR.out]; exact HO.out, hm2, (hkw.tr (Kept.alloc _ _ _ _ _)).newRow hg2 (fun i h => HM.out.new i h)⟩
          case measure => simp [intOf]; omega
      · have hq : ¬ (L.getD k 0 = 125 ∧ (L.getD (k + 1) 0 = 93 ∨ L.getD (k + 1) 0 = 94)) := fun h => by
          by_cases h2 : k + 1 < len
          · exact hp ⟨h.1, h2, h.2⟩
          · have : L.getD (k + 1) 0 = 0 := by simp [show L.length ≤ k + 1 by rw [HL.out]; omega]
            omega
        have HR := Hid.mk' (rb_one L k (by rw [HL.out]; exact hlt) hq)
        have HB1 := Hid.mk' (by_lit1 wr (L.getD k 0) hx)
        by_cases h1 : L.getD k 0 = 125
        · by_cases h2 : k + 1 < len
          · have hcell2 := hc (k + 1) h2
            have hy1 : L.getD (k + 1) 0 ≠ 93 := fun e => hq ⟨h1, .inl e⟩
            have hy2 : L.getD (k + 1) 0 ≠ 94 := fun e => hq ⟨h1, .inr e⟩
            have hyl := HG.out (k + 1)
            clear hc hq hp
            generalize L.getD (k + 1) 0 = y at *
            have d0 : (k : Int) + 1 < (len : Int) := by omega
            have d1 : ((y : Int) == 93) = false := by simp; omega
            have d2 : ((y : Int) == 94) = false := by simp; omega
            rw [h1] at hcell HR HB1
            go_wp2_with (at_builtin; refine wpList_join (by rfl) _ _ (by rfl) w.heap.size (.slice a' n' c') n' O (by rfl) (own_kept HM.out.own (Kept.alloc _ _ _ _ _)) (some ⟨wr.heap.size, 0, none⟩) 1 1 _ (by rfl) HB1.out (fun e => nomatch e) (by omega) (by have := hkw.size; simp; omega) ?_; intro a2 c2 w2 hm2 hg2)
            go_roundw
            case rel => exact ⟨k + 1, by omega, by go_num, a2, _, c2, _, rfl, by rw [List.length_append, ← HN.out]; rfl, by rw [List.append_assoc, List.singleton_append, ← HR.out]; exact HO.out, hm2, (hkw.tr (Kept.alloc _ _ _ _ _)).newRow hg2 (fun i h => HM.out.new i h)⟩
            case measure => simp [intOf]; omega
          · clear hc hq hp
            rw [h1] at hcell HR HB1
            have d0 : ¬ (k : Int) + 1 < (len : Int) := by omega
            go_wp2_with (at_builtin; refine wpList_join (by rfl) _ _ (by rfl) w.heap.size (.slice a' n' c') n' O (by rfl) (own_kept HM.out.own (Kept.alloc _ _ _ _ _)) (some ⟨wr.heap.size, 0, none⟩) 1 1 _ (by rfl) HB1.out (fun e => nomatch e) (by omega) (by have := hkw.size; simp; omega) ?_; intro a2 c2 w2 hm2 hg2)
            go_roundw
            case rel => exact ⟨k + 1, by omega, by go_num, a2, _, c2, _, rfl, by rw [List.length_append, ← HN.out]; rfl, by rw [List.append_assoc, List.singleton_append, ← HR.out]; exact HO.out, hm2, (hkw.tr (Kept.alloc _ _ _ _ _)).newRow hg2 (fun i h => HM.out.new i h)⟩
            case measure => simp [intOf]; omega
        · clear hc hq hp
          generalize L.getD k 0 = x at *
          have d1 : ((x : Int) == 125) = false := by simp; omega
          go_wp2_with (at_builtin; refine wpList_join (by rfl) _ _ (by rfl) w.heap.size (.slice a' n' c') n' O (by rfl) (own_kept HM.out.own (Kept.alloc _ _ _ _ _)) (some ⟨wr.heap.size, 0, none⟩) 1 1 _ (by rfl) HB1.out (fun e => nomatch e) (by omega) (by have := hkw.size; simp; omega) ?_; intro a2 c2 w2 hm2 hg2)
          go_roundw
          case rel => exact ⟨k + 1, by omega, by go_num, a2, _, c2, _, rfl, by rw [List.length_append, ← HN.out]; rfl, by rw [List.append_assoc, List.singleton_append, ← HR.out]; exact HO.out, hm2, (hkw.tr (Kept.alloc _ _ _ _ _)).newRow hg2 (fun i h => HM.out.new i h)⟩
          case measure => simp [intOf]; omega
    · have hd : L.drop k = [] := List.drop_eq_nil_of_le (by rw [HL.out]; omega)
      rw [hd, show rbF [] = [] from rfl, List.append_nil] at hO
      subst hO
      have HM := Hid.mk' hM
      have HRX : Hid (∀ x ∈ rbF L, x < 256) := rbF_lt L.length L (Nat.le_refl _) HX.out
      have HN := Hid.mk' hn
      clear hM hn hd
      have tb := run_text (HA.out.kept hkw) c
      have tb' := run_text ((HA.out.kept hkw).kept (Kept.drew wr none)) c
      have HE : Hid (((textOf (stuff (rbF L))).toList == (textOf L).toList) = decide (stuff (rbF L) = L)) := textOf_eq (stuff_lt _ HRX.out) HX.out
      rcases (show bareE L = 0 ∨ bareE L = 8 by unfold bareE; split <;> simp) with he | he
      · have e1 := (rb_iff L).2 he
        have E2 := Hid.mk' (rb_eq he)
        have E3 := Hid.mk' he
        have E1 := Hid.mk' e1
        clear e1 he HE
        go_wp2
        go_region_with (first
          | (go_at_call 22; refine (rstuff_any ((HM.out.by HRX.out).kept (Kept.drew wr none)) (by omega)).mono ?_; rw [E1.out]; rintro e w9 ⟨a9, c9, rfl, hm9, hk9⟩; have hK9 : Kept w w9 none := (hkw.tr (Kept.drew _ _)).tr hk9; have t9 := run_text (hm9.by HX.out) c9; have t10 := run_text (HA.out.kept hK9) c; have M9 := Hid.mk' (HM.out.kept ((Kept.drew wr none).tr hk9))))
        all_goals
          go_wp2
          go_ret2
          rw [E3.out, ← E2.out, ← HN.out]
          exact ⟨a', c', rfl, M9.out, hK9⟩
      · have e1 : stuff (rbF L) ≠ L := fun e => by have := (rb_iff L).1 e; omega
        have HD : Hid (((textOf (stuff (rbF L))).toList == (textOf L).toList) = false) := by
          show _ = false
          rw [HE.out]; exact decide_eq_false e1
        have hnb : ¬ (textOf (stuff (rbF L))).toList = (textOf L).toList := fun e => by have := HD.out; rw [e] at this; simp at this
        have E3 := Hid.mk' he
        have E2 : Hid (bareL L = []) := by
          show bareL L = []
          unfold bareE at he
          unfold bareL
          split at he
          · cases he
          · rename_i h; rw [if_neg h]
        clear e1 he HE
        go_wp2
        go_region_with (first
          | (go_at_call 22; refine (rstuff_any ((HM.out.by HRX.out).kept (Kept.drew wr none)) (by omega)).mono ?_; rintro e w9 ⟨a9, c9, rfl, hm9, hk9⟩; have hK9 : Kept w w9 none := (hkw.tr (Kept.drew _ _)).tr hk9; have t9 := run_text (hm9.by (stuff_lt _ HRX.out)) c9; have t10 := run_text (HA.out.kept hK9) c))
        all_goals go_wp2
        all_goals first
          | (go_ret2
             rw [E3.out, E2.out]
             exact ⟨none, 0, rfl, ⟨World.ownsRow_nil _ _ _ _, fun _ => ⟨rfl, rfl⟩, Nat.le_refl _, by omega⟩, hK9⟩)
          | (exfalso; have hd := HD.out; simp_all)

end Go.Proofs.YtflehhliddcfgaaDoor
