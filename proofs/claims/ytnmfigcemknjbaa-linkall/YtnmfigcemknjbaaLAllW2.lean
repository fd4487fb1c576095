/-
  THE WALK of LinkAll, round by round (made by a program).
-/
import Derived.Test.YtnmfigcemknjbaaLAllW
namespace Go.Proofs.Ytnmfigcemknjbaa
open Go.RowKit Go.Lib Go.Deep
set_option linter.unusedVariables false
set_option linter.unusedSimpArgs false

/-- The link's box and the messages that wait. -/
structure Alp (w wr : World) (B : Nat) (s : Lk) (l : List Msg) (v : Value) : Prop where
  lb : Lb wr B s
  mw : Mw w wr l v
theorem us1 (w : World) (x : Int) (n : Nat) (h : x = (n : Int)) : Us (w.alloc (.cells #[.int .u32 x] 22)) (some ⟨w.heap.size, 0, none⟩) 1 [n] := by
  subst h
  exact us_alloc w [n] _ _ (fun i hi => by
    have : i = 0 := by simp at hi; omega
    subst this; rfl)
theorem us2 (w : World) (x y : Int) (n m : Nat) (h : x = (n : Int)) (h' : y = (m : Int)) : Us (w.alloc (.cells #[.int .u32 x, .int .u32 y] 22)) (some ⟨w.heap.size, 0, none⟩) 2 [n, m] := by
  subst h h'
  exact us_alloc w [n, m] _ _ (fun i hi => by
    have : i = 0 ∨ i = 1 := by simp at hi; omega
    rcases this with rfl | rfl <;> rfl)
theorem Als.alp {w wr : World} {B f a d : Nat} {ag : Nat → Bool} {s : Lk} {v : Value} (h : Als w wr B f a ag d s v) : Alp w wr B s (nwL f ag a d) v := ⟨h.lb, h.mw⟩
theorem Alp.keptN {w wr w' : World} {B : Nat} {s : Lk} {l : List Msg} {v : Value} (h : Alp w wr B s l v) (q : Kept wr w' none) : Alp w w' B s l v := ⟨row_kept h.lb q (by simp), h.mw.keptN q⟩
theorem Alp.add {w w1 w2 : World} {B : Nat} {s : Lk} {l k : List Msg} {v : Value} {a : Option Addr} {n c : Nat} (h : Alp w w1 B s l v) (hs : Mw w1 w2 k (.slice a n c)) (hp : 0 < n) (hn : l.length + k.length ≤ 100000) (ty : TypeId) :
    ∃ v' w', (Builtin.append_ #[25, 25] ty #[v, .slice a n c]).run Try.prog w2 = .ok v' w' ∧ Alp w w' B s (l ++ k) v' := by
  obtain ⟨v', w', h1, h2, h3, h4, h5⟩ := h.mw.add hs.kw hs hp hn ty
  exact ⟨v', w', h1, row_keptT (row_kept h.lb hs.kw (by simp)) h3 h5, h2⟩
theorem nw_ok {f : Nat} (hf : f ≤ 2147483648) (ag : Nat → Bool) (a d : Nat) (h : a + d ≤ 1000) : ∀ m ∈ nwL f ag a d, Mok m := by
  intro m hm
  have h1 := nw_seq f ag a d m hm
  have h2 := nw_body f ag a d m hm
  exact ⟨by omega, by omega, by rw [h2]; intro x hx; cases hx⟩
set_option maxRecDepth 100000 in
set_option maxHeartbeats 8000000 in
theorem lall_any (f : Nat) (hf : f < 4294967296) {w : World} {ca : Option Addr} {n cc : Nat} {cuts : List Bool} (hA : Bls w ca n cuts) (hAc : Cap ca n cc) {ga : Option Addr} {ng gc : Nat} {again : List Bool} (hB : Bls w ga ng again) (hBc : Cap ga ng gc) : Calls Try.prog 7 #[.int .u32 (f : Int), .slice ca n cc, .slice ga ng gc] w fun e w' => e = .returned (.bool true) ∧ Kept w w' none := by
  have HA := Hid.mk' hA
  have HB := Hid.mk' hB
  have hm1 : n ≤ 9223372036854775807 := by have := hAc.max; have := hAc.room; omega
  have hm2 : ng ≤ 9223372036854775807 := by have := hBc.max; have := hBc.room; omega
  have HBS : Hid (∀ i, ¬ i < ng → agB again i = false) := Hid.mk' (fun i hi => by unfold agB; rw [List.getD_eq_getElem?_getD, List.getElem?_eq_none (by have := hB.size; omega)]; rfl)
  clear hA hAc hB hBc
  by_cases h1 : 40 < n
  · go_enter Try.func7, Try.ntmps7
    go_wp2_with (go_at_call 16; refine (alive_any _).mono ?_; rintro e w1 ⟨rfl, hk1⟩)
    go_ret
    exact ⟨rfl, hk1⟩
  by_cases h2 : 2147483648 < f
  · go_enter Try.func7, Try.ntmps7
    go_wp2_with (go_at_call 16; refine (alive_any _).mono ?_; rintro e w1 ⟨rfl, hk1⟩)
    go_ret
    exact ⟨rfl, hk1⟩
  go_enter Try.func7, Try.ntmps7
  go_wp2_with (go_at_call 16; refine (alive_any _).mono ?_; rintro e w1 ⟨rfl, hk1⟩; have K1 := Hid.mk' hk1; clear hk1)
  have HF : Hid (Als w (w1.alloc (.cells #[.bool false, .int .u32 0, .int .i64 0] 24)) w1.heap.size f 0 (agB again) 0 lk0 (.slice none 0 0)) := Hid.mk' ⟨lb_alloc w1 lk0, ⟨by decide, fun _ => rfl, fun h => absurd h (by omega)⟩, Mw.nil' (K1.out.tr (Kept.alloc _ _ _ _ _)), K1.out.size, by decide⟩
  generalize (w1.alloc (.cells #[.bool false, .int .u32 0, .int .i64 0] 24)) = W at HF ⊢
  generalize w1.heap.size = B at HF ⊢
  go_loopw [9, 10, 11] (fun v t i wr => ∃ (k a d : Nat) (s : Lk), k ≤ n ∧ k = a + d ∧ (k = n → d = 0) ∧ t = .int .i64 a ∧ i = .int .i64 k ∧ Hid (Als w wr B f a (agB again) d s v)) (fun _ _ i _ => n - (intOf i).toNat)
  case atStart => exact ⟨0, 0, 0, lk0, Nat.zero_le _, rfl, fun _ => rfl, rfl, rfl, HF⟩
  case round =>
    obtain ⟨k, a, d, s, hk, hkad, hkn, rfl, rfl, HX⟩ := hrel
    by_cases hlt : k < n
    case neg =>
      have e : k = n := by omega
      have hd0 := hkn e
      have e2 : a = n := by omega
      subst e2
      go_wp2
      go_ret
      exact ⟨rfl, HX.out.mw.kept⟩
    obtain ⟨b, off, rfl, hb, hcw⟩ := HA.out.at_ hlt
    have HKAD := Hid.mk' hkad
    have ha40 : a ≤ 40 := by omega
    have hd40 : d ≤ 40 := by omega
    clear hkn
    have hfk : (f : Int) + (k : Int) = ((f + k : Nat) : Int) := by omega
    by_cases hgl : k < ng
    · obtain ⟨bg, offg, rfl, hgb, hgw⟩ := HB.out.at_ hgl
      cases hag : again.getD k false with
      | true =>
        rw [hag] at hgw
        have hNW2 : nwL f (agB again) a d ++ ofL [f + k] ++ ofL [f + k, f] = nwL f (agB again) a (d + 1) := by rw [hkad]; exact nw_add2 f (agB again) a d (by rw [← hkad]; exact hag)
        clear hkad hfk
        cases hcut : cuts.getD k false with
        | true =>
          rw [hcut] at hcw
          generalize hdd : d + 1 = dd at *
          have hdd0 : 0 < dd := by omega
          have hdd1 : dd ≤ 41 := by omega
          have HDD := Hid.mk' hdd
          clear hdd
          have HNW := Hid.mk' (nw_next HX.out.lk (agB again) dd hdd0 hdd1)
          obtain ⟨q, hq⟩ : ∃ q, nxL s (nwL f (agB again) a dd) = q := ⟨_, rfl⟩
          obtain ⟨QA, QL, QG⟩ := q
          have HQ := Hid.mk' hq
          clear hq
          go_wp2_with (first
            | (have hgo := G2; clear hgo; go_at_call 9; have hms := G2.out.mw.ms (nw_ok (by omega) (agB again) a dd (by omega)); have HNX := Hid.mk' (lnext_any (c := c2) s hms); unfold NxP at HNX; rw [HQ.out, HNW.out.1, HNW.out.2.1] at HNX; refine HNX.out.mono ?_; rintro e w6 ⟨v6, rfl, hM6⟩; dsimp only; obtain ⟨a6, c6, hv6, _⟩ := hM6.slice; rw [range_len] at hv6; subst hv6; have HM6 := Hid.mk' (hM6.ms (ofL_ok (by intro q hq; simp only [List.mem_map, List.mem_range] at hq; obtain ⟨j, hj, rfl⟩ := hq; omega))); have HX6 := Hid.mk' (G2.out.keptN hM6.kw); obtain ⟨d0, d1, d2, g0, g1, g2, dlt⟩ := Lb.lc HX6.out.lb; clear HNX hM6 hms)
            | (have hgo := R2; clear hgo; at_builtin; refine wpList_app (by rfl) _ _ _ (by rfl) (by rfl) (by rfl) R2.out ?_; clear R2; have G2 : Hid (Alp w W5 B s (nwL f (agB again) a dd) v5) := G2'; obtain ⟨a2, c2, hv2, _⟩ := G2.out.mw.slice; subst hv2; obtain ⟨c0, c1, c2', f0, f1, f2, lt⟩ := Lb.lc G2.out.lb; have hc := (cell_kl G2.out.mw.kept hb).trans hcw)
            | (have hgo := G1; clear hgo; go_at_call 10; have hU2 : Us (W3.alloc (.cells #[.int .u32 ((f : Int) + (k : Int)), .int .u32 (f : Int)] 22)) (some ⟨W3.heap.size, 0, none⟩) 2 [f + k, f] := us2 W3 ((f : Int) + (k : Int)) (f : Int) (f + k) f rfl rfl; refine (of_any hU2 (by omega)).mono ?_; rintro e w4 ⟨v4, rfl, hO4⟩; dsimp only; obtain ⟨a4, c4, hv4, _⟩ := hO4.slice; rw [show (ofL [f + k, f]).length = 2 from rfl] at hv4; subst hv4; obtain ⟨v5, W5, hr5, hA5⟩ := (G1.out.keptN (Kept.alloc W3 #[.int .u32 ((f : Int) + (k : Int)), .int .u32 (f : Int)] 22 (0, 0) none)).add hO4 (by omega) (by have := nw_len f (agB again) a d; rw [List.length_append, ofL_len, ofL_len]; simp only [List.length_cons, List.length_nil]; omega) 25; rw [hNW2] at hA5; have R2 := Hid.mk' hr5; have G2' := Hid.mk' hA5; clear hr5 hA5 hO4 hU2)
            | (have hgo := R1; clear hgo; at_builtin; refine wpList_app (by rfl) _ _ _ (by rfl) (by rfl) (by rfl) R1.out ?_; clear R1; have G1 : Hid (Alp w W3 B s (nwL f (agB again) a d ++ ofL [f + k]) v3) := G1'; have hgc := (cell_kl G1.out.mw.kept hgb).trans hgw)
            | (go_at_call 10; have hU1 : Us (wr.alloc (.cells #[.int .u32 ((f : Int) + (k : Int))] 22)) (some ⟨wr.heap.size, 0, none⟩) 1 [f + k] := us1 wr ((f : Int) + (k : Int)) (f + k) rfl; refine (of_any hU1 (by omega)).mono ?_; rintro e w2 ⟨v1, rfl, hO1⟩; dsimp only; obtain ⟨a1, c1, hv1, _⟩ := hO1.slice; rw [show (ofL [f + k]).length = 1 from rfl] at hv1; subst hv1; obtain ⟨v3, W3, hr3, hA3⟩ := (HX.out.alp.keptN (Kept.alloc wr #[.int .u32 ((f : Int) + (k : Int))] 22 (0, 0) none)).add hO1 (by omega) (by have := nw_len f (agB again) a d; rw [ofL_len]; simp only [List.length_cons, List.length_nil]; omega) 25; have R1 := Hid.mk' hr3; have G1' := Hid.mk' hA3; clear hr3 hA3 hO1 hU1))
          have HZ : Hid (Alp w (w6.alloc (.cells #[.bool QA, .int .u32 (QL : Int), .int .i64 QG] 24)) B s (nwL f (agB again) a dd) (.slice a2 (nwL f (agB again) a dd).length c2)) := Hid.mk' (HX6.out.keptN (Kept.alloc _ _ _ _ _))
          have HN : Hid (Lb (w6.alloc (.cells #[.bool QA, .int .u32 (QL : Int), .int .i64 QG] 24)) w6.heap.size ⟨QA, QL, QG⟩) := Hid.mk' (lb_alloc w6 ⟨QA, QL, QG⟩)
          have HM7 := Hid.mk' (HM6.out.kept (Kept.alloc w6 #[.bool QA, .int .u32 (QL : Int), .int .i64 QG] 24 (0, 0) none))
          clear HX6 HM6 d0 d1 d2 g0 g1 g2
          generalize (w6.alloc (.cells #[.bool QA, .int .u32 (QL : Int), .int .i64 QG] 24)) = W7 at HZ HN HM7 ⊢
          generalize w6.heap.size = B7 at HN ⊢
          go_loopw [10, 15] (fun t i wr => ∃ j : Nat, j ≤ dd ∧ t = .int .i64 ((a + j : Nat) : Int) ∧ i = .int .i64 j ∧ Hid (Kept W7 wr none)) (fun _ i _ => dd - (intOf i).toNat)
          case atStart => exact ⟨0, Nat.zero_le _, rfl, rfl, Hid.mk' (Kept.refl _ _)⟩
          case round =>
            obtain ⟨j, hj, rfl, rfl, HK⟩ := hrel
            by_cases hlj : j < dd
            · obtain ⟨b8, off8, e8, hb8, hc8⟩ := (HM7.out.kept HK.out).at_ (by omega)
              subst e8
              obtain ⟨a9, c9, r1, r2, r3, _⟩ := hc8 j _ (range_at f a dd j hlj)
              clear hc8
              have hwa : (((f + (a + j) : Nat) : Int)) = (f : Int) + ((a : Int) + (j : Int)) := by omega
              dsimp only at r2
              rw [hwa] at r2
              have hx9 : (((f : Int) + ((a : Int) + (j : Int))) != ((f : Int) + ((a : Int) + (j : Int)))) = false := by simp
              go_wp2
              go_roundw
              case rel => exact ⟨j + 1, by omega, by go_num, by go_num, HK⟩
              case measure => simp [intOf]; omega
            · have ej : j = dd := by omega
              subst ej
              have hZ := HZ.out.keptN HK.out
              obtain ⟨d0, d1, d2, g0, g1, g2, dlt⟩ := Lb.lc hZ.lb
              obtain ⟨e0, e1, e2, l0, l1, l2, elt⟩ := Lb.lc (row_kept HN.out HK.out (by simp))
              dsimp only at e0 e1 e2
              have HF2 : Hid (Als w (((wr.setCell ⟨B, 0, none⟩ (.bool QA)).setCell ⟨B, 1, none⟩ (.int .u32 (QL : Int))).setCell ⟨B, 2, none⟩ (.int .i64 QG)) B f (a + j) (agB again) 0 ⟨QA, QL, QG⟩ (.slice none 0 0)) := Hid.mk' ⟨Lb.set3 hZ.lb ⟨QA, QL, QG⟩, by have := HNW.out.2.2; rw [HQ.out] at this; exact this, Mw.nil' (kept_rowL hZ.mw.kept (Lb.set3K wr B ⟨QA, QL, QG⟩) (fun g e => by cases e; exact HX.out.le)), HX.out.le, by have := nxL_last s (nwL f (agB again) a j) HX.out.lt (fun m hm => by have := (nw_seq f (agB again) a j m hm).2; omega); rw [HQ.out] at this; exact this⟩
              clear hZ
              go_wp2
              go_roundw
              case rel => exact ⟨k + 1, a + j, 0, ⟨QA, QL, QG⟩, by omega, by have := HKAD.out; have := HDD.out; omega, fun _ => rfl, by first | rfl | go_num, by go_num, HF2⟩
              case measure => simp [intOf]; omega
        | false =>
          rw [hcut] at hcw
          by_cases hlast : k + 1 < n
          ·
            go_wp2_with (first
              | (have hgo := R2; clear hgo; at_builtin; refine wpList_app (by rfl) _ _ _ (by rfl) (by rfl) (by rfl) R2.out ?_; clear R2; have G2 : Hid (Alp w W5 B s (nwL f (agB again) a (d + 1)) v5) := G2'; obtain ⟨c0, c1, c2', f0, f1, f2, lt⟩ := Lb.lc G2.out.lb; have hc := (cell_kl G2.out.mw.kept hb).trans hcw)
              | (have hgo := G1; clear hgo; go_at_call 10; have hU2 : Us (W3.alloc (.cells #[.int .u32 ((f : Int) + (k : Int)), .int .u32 (f : Int)] 22)) (some ⟨W3.heap.size, 0, none⟩) 2 [f + k, f] := us2 W3 ((f : Int) + (k : Int)) (f : Int) (f + k) f rfl rfl; refine (of_any hU2 (by omega)).mono ?_; rintro e w4 ⟨v4, rfl, hO4⟩; dsimp only; obtain ⟨a4, c4, hv4, _⟩ := hO4.slice; rw [show (ofL [f + k, f]).length = 2 from rfl] at hv4; subst hv4; obtain ⟨v5, W5, hr5, hA5⟩ := (G1.out.keptN (Kept.alloc W3 #[.int .u32 ((f : Int) + (k : Int)), .int .u32 (f : Int)] 22 (0, 0) none)).add hO4 (by omega) (by have := nw_len f (agB again) a d; rw [List.length_append, ofL_len, ofL_len]; simp only [List.length_cons, List.length_nil]; omega) 25; rw [hNW2] at hA5; have R2 := Hid.mk' hr5; have G2' := Hid.mk' hA5; clear hr5 hA5 hO4 hU2)
              | (have hgo := R1; clear hgo; at_builtin; refine wpList_app (by rfl) _ _ _ (by rfl) (by rfl) (by rfl) R1.out ?_; clear R1; have G1 : Hid (Alp w W3 B s (nwL f (agB again) a d ++ ofL [f + k]) v3) := G1'; have hgc := (cell_kl G1.out.mw.kept hgb).trans hgw)
              | (go_at_call 10; have hU1 : Us (wr.alloc (.cells #[.int .u32 ((f : Int) + (k : Int))] 22)) (some ⟨wr.heap.size, 0, none⟩) 1 [f + k] := us1 wr ((f : Int) + (k : Int)) (f + k) rfl; refine (of_any hU1 (by omega)).mono ?_; rintro e w2 ⟨v1, rfl, hO1⟩; dsimp only; obtain ⟨a1, c1, hv1, _⟩ := hO1.slice; rw [show (ofL [f + k]).length = 1 from rfl] at hv1; subst hv1; obtain ⟨v3, W3, hr3, hA3⟩ := (HX.out.alp.keptN (Kept.alloc wr #[.int .u32 ((f : Int) + (k : Int))] 22 (0, 0) none)).add hO1 (by omega) (by have := nw_len f (agB again) a d; rw [ofL_len]; simp only [List.length_cons, List.length_nil]; omega) 25; have R1 := Hid.mk' hr3; have G1' := Hid.mk' hA3; clear hr3 hA3 hO1 hU1))
            go_roundw
            case rel => exact ⟨k + 1, a, d + 1, s, by omega, by have := HKAD.out; omega, fun h => by omega, rfl, by go_num, Hid.mk' ⟨G2.out.lb, HX.out.lk, G2.out.mw, HX.out.le, HX.out.lt⟩⟩
            case measure => simp [intOf]; omega
          ·
            generalize hdd : d + 1 = dd at *
            have hdd0 : 0 < dd := by omega
            have hdd1 : dd ≤ 41 := by omega
            have HDD := Hid.mk' hdd
            clear hdd
            have HNW := Hid.mk' (nw_next HX.out.lk (agB again) dd hdd0 hdd1)
            obtain ⟨q, hq⟩ : ∃ q, nxL s (nwL f (agB again) a dd) = q := ⟨_, rfl⟩
            obtain ⟨QA, QL, QG⟩ := q
            have HQ := Hid.mk' hq
            clear hq
            go_wp2_with (first
              | (have hgo := G2; clear hgo; go_at_call 9; have hms := G2.out.mw.ms (nw_ok (by omega) (agB again) a dd (by omega)); have HNX := Hid.mk' (lnext_any (c := c2) s hms); unfold NxP at HNX; rw [HQ.out, HNW.out.1, HNW.out.2.1] at HNX; refine HNX.out.mono ?_; rintro e w6 ⟨v6, rfl, hM6⟩; dsimp only; obtain ⟨a6, c6, hv6, _⟩ := hM6.slice; rw [range_len] at hv6; subst hv6; have HM6 := Hid.mk' (hM6.ms (ofL_ok (by intro q hq; simp only [List.mem_map, List.mem_range] at hq; obtain ⟨j, hj, rfl⟩ := hq; omega))); have HX6 := Hid.mk' (G2.out.keptN hM6.kw); obtain ⟨d0, d1, d2, g0, g1, g2, dlt⟩ := Lb.lc HX6.out.lb; clear HNX hM6 hms)
              | (have hgo := R2; clear hgo; at_builtin; refine wpList_app (by rfl) _ _ _ (by rfl) (by rfl) (by rfl) R2.out ?_; clear R2; have G2 : Hid (Alp w W5 B s (nwL f (agB again) a dd) v5) := G2'; obtain ⟨a2, c2, hv2, _⟩ := G2.out.mw.slice; subst hv2; obtain ⟨c0, c1, c2', f0, f1, f2, lt⟩ := Lb.lc G2.out.lb; have hc := (cell_kl G2.out.mw.kept hb).trans hcw)
              | (have hgo := G1; clear hgo; go_at_call 10; have hU2 : Us (W3.alloc (.cells #[.int .u32 ((f : Int) + (k : Int)), .int .u32 (f : Int)] 22)) (some ⟨W3.heap.size, 0, none⟩) 2 [f + k, f] := us2 W3 ((f : Int) + (k : Int)) (f : Int) (f + k) f rfl rfl; refine (of_any hU2 (by omega)).mono ?_; rintro e w4 ⟨v4, rfl, hO4⟩; dsimp only; obtain ⟨a4, c4, hv4, _⟩ := hO4.slice; rw [show (ofL [f + k, f]).length = 2 from rfl] at hv4; subst hv4; obtain ⟨v5, W5, hr5, hA5⟩ := (G1.out.keptN (Kept.alloc W3 #[.int .u32 ((f : Int) + (k : Int)), .int .u32 (f : Int)] 22 (0, 0) none)).add hO4 (by omega) (by have := nw_len f (agB again) a d; rw [List.length_append, ofL_len, ofL_len]; simp only [List.length_cons, List.length_nil]; omega) 25; rw [hNW2] at hA5; have R2 := Hid.mk' hr5; have G2' := Hid.mk' hA5; clear hr5 hA5 hO4 hU2)
              | (have hgo := R1; clear hgo; at_builtin; refine wpList_app (by rfl) _ _ _ (by rfl) (by rfl) (by rfl) R1.out ?_; clear R1; have G1 : Hid (Alp w W3 B s (nwL f (agB again) a d ++ ofL [f + k]) v3) := G1'; have hgc := (cell_kl G1.out.mw.kept hgb).trans hgw)
              | (go_at_call 10; have hU1 : Us (wr.alloc (.cells #[.int .u32 ((f : Int) + (k : Int))] 22)) (some ⟨wr.heap.size, 0, none⟩) 1 [f + k] := us1 wr ((f : Int) + (k : Int)) (f + k) rfl; refine (of_any hU1 (by omega)).mono ?_; rintro e w2 ⟨v1, rfl, hO1⟩; dsimp only; obtain ⟨a1, c1, hv1, _⟩ := hO1.slice; rw [show (ofL [f + k]).length = 1 from rfl] at hv1; subst hv1; obtain ⟨v3, W3, hr3, hA3⟩ := (HX.out.alp.keptN (Kept.alloc wr #[.int .u32 ((f : Int) + (k : Int))] 22 (0, 0) none)).add hO1 (by omega) (by have := nw_len f (agB again) a d; rw [ofL_len]; simp only [List.length_cons, List.length_nil]; omega) 25; have R1 := Hid.mk' hr3; have G1' := Hid.mk' hA3; clear hr3 hA3 hO1 hU1))
            have HZ : Hid (Alp w (w6.alloc (.cells #[.bool QA, .int .u32 (QL : Int), .int .i64 QG] 24)) B s (nwL f (agB again) a dd) (.slice a2 (nwL f (agB again) a dd).length c2)) := Hid.mk' (HX6.out.keptN (Kept.alloc _ _ _ _ _))
            have HN : Hid (Lb (w6.alloc (.cells #[.bool QA, .int .u32 (QL : Int), .int .i64 QG] 24)) w6.heap.size ⟨QA, QL, QG⟩) := Hid.mk' (lb_alloc w6 ⟨QA, QL, QG⟩)
            have HM7 := Hid.mk' (HM6.out.kept (Kept.alloc w6 #[.bool QA, .int .u32 (QL : Int), .int .i64 QG] 24 (0, 0) none))
            clear HX6 HM6 d0 d1 d2 g0 g1 g2
            generalize (w6.alloc (.cells #[.bool QA, .int .u32 (QL : Int), .int .i64 QG] 24)) = W7 at HZ HN HM7 ⊢
            generalize w6.heap.size = B7 at HN ⊢
            go_loopw [10, 15] (fun t i wr => ∃ j : Nat, j ≤ dd ∧ t = .int .i64 ((a + j : Nat) : Int) ∧ i = .int .i64 j ∧ Hid (Kept W7 wr none)) (fun _ i _ => dd - (intOf i).toNat)
            case atStart => exact ⟨0, Nat.zero_le _, rfl, rfl, Hid.mk' (Kept.refl _ _)⟩
            case round =>
              obtain ⟨j, hj, rfl, rfl, HK⟩ := hrel
              by_cases hlj : j < dd
              · obtain ⟨b8, off8, e8, hb8, hc8⟩ := (HM7.out.kept HK.out).at_ (by omega)
                subst e8
                obtain ⟨a9, c9, r1, r2, r3, _⟩ := hc8 j _ (range_at f a dd j hlj)
                clear hc8
                have hwa : (((f + (a + j) : Nat) : Int)) = (f : Int) + ((a : Int) + (j : Int)) := by omega
                dsimp only at r2
                rw [hwa] at r2
                have hx9 : (((f : Int) + ((a : Int) + (j : Int))) != ((f : Int) + ((a : Int) + (j : Int)))) = false := by simp
                go_wp2
                go_roundw
                case rel => exact ⟨j + 1, by omega, by go_num, by go_num, HK⟩
                case measure => simp [intOf]; omega
              · have ej : j = dd := by omega
                subst ej
                have hZ := HZ.out.keptN HK.out
                obtain ⟨d0, d1, d2, g0, g1, g2, dlt⟩ := Lb.lc hZ.lb
                obtain ⟨e0, e1, e2, l0, l1, l2, elt⟩ := Lb.lc (row_kept HN.out HK.out (by simp))
                dsimp only at e0 e1 e2
                have HF2 : Hid (Als w (((wr.setCell ⟨B, 0, none⟩ (.bool QA)).setCell ⟨B, 1, none⟩ (.int .u32 (QL : Int))).setCell ⟨B, 2, none⟩ (.int .i64 QG)) B f (a + j) (agB again) 0 ⟨QA, QL, QG⟩ (.slice none 0 0)) := Hid.mk' ⟨Lb.set3 hZ.lb ⟨QA, QL, QG⟩, by have := HNW.out.2.2; rw [HQ.out] at this; exact this, Mw.nil' (kept_rowL hZ.mw.kept (Lb.set3K wr B ⟨QA, QL, QG⟩) (fun g e => by cases e; exact HX.out.le)), HX.out.le, by have := nxL_last s (nwL f (agB again) a j) HX.out.lt (fun m hm => by have := (nw_seq f (agB again) a j m hm).2; omega); rw [HQ.out] at this; exact this⟩
                clear hZ
                go_wp2
                go_roundw
                case rel => exact ⟨k + 1, a + j, 0, ⟨QA, QL, QG⟩, by omega, by have := HKAD.out; have := HDD.out; omega, fun _ => rfl, by first | rfl | go_num, by go_num, HF2⟩
                case measure => simp [intOf]; omega
      | false =>
        rw [hag] at hgw
        have hNW1 : nwL f (agB again) a d ++ ofL [f + k] = nwL f (agB again) a (d + 1) := by rw [hkad]; exact nw_add1 f (agB again) a d (by rw [← hkad]; exact hag)
        clear hkad hfk
        cases hcut : cuts.getD k false with
        | true =>
          rw [hcut] at hcw
          generalize hdd : d + 1 = dd at *
          have hdd0 : 0 < dd := by omega
          have hdd1 : dd ≤ 41 := by omega
          have HDD := Hid.mk' hdd
          clear hdd
          have HNW := Hid.mk' (nw_next HX.out.lk (agB again) dd hdd0 hdd1)
          obtain ⟨q, hq⟩ : ∃ q, nxL s (nwL f (agB again) a dd) = q := ⟨_, rfl⟩
          obtain ⟨QA, QL, QG⟩ := q
          have HQ := Hid.mk' hq
          clear hq
          go_wp2_with (first
            | (have hgo := G2; clear hgo; go_at_call 9; have hms := G2.out.mw.ms (nw_ok (by omega) (agB again) a dd (by omega)); have HNX := Hid.mk' (lnext_any (c := c2) s hms); unfold NxP at HNX; rw [HQ.out, HNW.out.1, HNW.out.2.1] at HNX; refine HNX.out.mono ?_; rintro e w6 ⟨v6, rfl, hM6⟩; dsimp only; obtain ⟨a6, c6, hv6, _⟩ := hM6.slice; rw [range_len] at hv6; subst hv6; have HM6 := Hid.mk' (hM6.ms (ofL_ok (by intro q hq; simp only [List.mem_map, List.mem_range] at hq; obtain ⟨j, hj, rfl⟩ := hq; omega))); have HX6 := Hid.mk' (G2.out.keptN hM6.kw); obtain ⟨d0, d1, d2, g0, g1, g2, dlt⟩ := Lb.lc HX6.out.lb; clear HNX hM6 hms)
            | (have hgo := R1; clear hgo; at_builtin; refine wpList_app (by rfl) _ _ _ (by rfl) (by rfl) (by rfl) R1.out ?_; clear R1; have G2 : Hid (Alp w W3 B s (nwL f (agB again) a dd) v3) := G1'; have hgc := (cell_kl G2.out.mw.kept hgb).trans hgw; obtain ⟨a2, c2, hv2, _⟩ := G2.out.mw.slice; subst hv2; obtain ⟨c0, c1, c2', f0, f1, f2, lt⟩ := Lb.lc G2.out.lb; have hc := (cell_kl G2.out.mw.kept hb).trans hcw)
            | (go_at_call 10; have hU1 : Us (wr.alloc (.cells #[.int .u32 ((f : Int) + (k : Int))] 22)) (some ⟨wr.heap.size, 0, none⟩) 1 [f + k] := us1 wr ((f : Int) + (k : Int)) (f + k) rfl; refine (of_any hU1 (by omega)).mono ?_; rintro e w2 ⟨v1, rfl, hO1⟩; dsimp only; obtain ⟨a1, c1, hv1, _⟩ := hO1.slice; rw [show (ofL [f + k]).length = 1 from rfl] at hv1; subst hv1; obtain ⟨v3, W3, hr3, hA3⟩ := (HX.out.alp.keptN (Kept.alloc wr #[.int .u32 ((f : Int) + (k : Int))] 22 (0, 0) none)).add hO1 (by omega) (by have := nw_len f (agB again) a d; rw [ofL_len]; simp only [List.length_cons, List.length_nil]; omega) 25; rw [hNW1] at hA3; have R1 := Hid.mk' hr3; have G1' := Hid.mk' hA3; clear hr3 hA3 hO1 hU1))
          have HZ : Hid (Alp w (w6.alloc (.cells #[.bool QA, .int .u32 (QL : Int), .int .i64 QG] 24)) B s (nwL f (agB again) a dd) (.slice a2 (nwL f (agB again) a dd).length c2)) := Hid.mk' (HX6.out.keptN (Kept.alloc _ _ _ _ _))
          have HN : Hid (Lb (w6.alloc (.cells #[.bool QA, .int .u32 (QL : Int), .int .i64 QG] 24)) w6.heap.size ⟨QA, QL, QG⟩) := Hid.mk' (lb_alloc w6 ⟨QA, QL, QG⟩)
          have HM7 := Hid.mk' (HM6.out.kept (Kept.alloc w6 #[.bool QA, .int .u32 (QL : Int), .int .i64 QG] 24 (0, 0) none))
          clear HX6 HM6 d0 d1 d2 g0 g1 g2
          generalize (w6.alloc (.cells #[.bool QA, .int .u32 (QL : Int), .int .i64 QG] 24)) = W7 at HZ HN HM7 ⊢
          generalize w6.heap.size = B7 at HN ⊢
          go_loopw [10, 15] (fun t i wr => ∃ j : Nat, j ≤ dd ∧ t = .int .i64 ((a + j : Nat) : Int) ∧ i = .int .i64 j ∧ Hid (Kept W7 wr none)) (fun _ i _ => dd - (intOf i).toNat)
          case atStart => exact ⟨0, Nat.zero_le _, rfl, rfl, Hid.mk' (Kept.refl _ _)⟩
          case round =>
            obtain ⟨j, hj, rfl, rfl, HK⟩ := hrel
            by_cases hlj : j < dd
            · obtain ⟨b8, off8, e8, hb8, hc8⟩ := (HM7.out.kept HK.out).at_ (by omega)
              subst e8
              obtain ⟨a9, c9, r1, r2, r3, _⟩ := hc8 j _ (range_at f a dd j hlj)
              clear hc8
              have hwa : (((f + (a + j) : Nat) : Int)) = (f : Int) + ((a : Int) + (j : Int)) := by omega
              dsimp only at r2
              rw [hwa] at r2
              have hx9 : (((f : Int) + ((a : Int) + (j : Int))) != ((f : Int) + ((a : Int) + (j : Int)))) = false := by simp
              go_wp2
              go_roundw
              case rel => exact ⟨j + 1, by omega, by go_num, by go_num, HK⟩
              case measure => simp [intOf]; omega
            · have ej : j = dd := by omega
              subst ej
              have hZ := HZ.out.keptN HK.out
              obtain ⟨d0, d1, d2, g0, g1, g2, dlt⟩ := Lb.lc hZ.lb
              obtain ⟨e0, e1, e2, l0, l1, l2, elt⟩ := Lb.lc (row_kept HN.out HK.out (by simp))
              dsimp only at e0 e1 e2
              have HF2 : Hid (Als w (((wr.setCell ⟨B, 0, none⟩ (.bool QA)).setCell ⟨B, 1, none⟩ (.int .u32 (QL : Int))).setCell ⟨B, 2, none⟩ (.int .i64 QG)) B f (a + j) (agB again) 0 ⟨QA, QL, QG⟩ (.slice none 0 0)) := Hid.mk' ⟨Lb.set3 hZ.lb ⟨QA, QL, QG⟩, by have := HNW.out.2.2; rw [HQ.out] at this; exact this, Mw.nil' (kept_rowL hZ.mw.kept (Lb.set3K wr B ⟨QA, QL, QG⟩) (fun g e => by cases e; exact HX.out.le)), HX.out.le, by have := nxL_last s (nwL f (agB again) a j) HX.out.lt (fun m hm => by have := (nw_seq f (agB again) a j m hm).2; omega); rw [HQ.out] at this; exact this⟩
              clear hZ
              go_wp2
              go_roundw
              case rel => exact ⟨k + 1, a + j, 0, ⟨QA, QL, QG⟩, by omega, by have := HKAD.out; have := HDD.out; omega, fun _ => rfl, by first | rfl | go_num, by go_num, HF2⟩
              case measure => simp [intOf]; omega
        | false =>
          rw [hcut] at hcw
          by_cases hlast : k + 1 < n
          ·
            go_wp2_with (first
              | (have hgo := R1; clear hgo; at_builtin; refine wpList_app (by rfl) _ _ _ (by rfl) (by rfl) (by rfl) R1.out ?_; clear R1; have G2 : Hid (Alp w W3 B s (nwL f (agB again) a (d + 1)) v3) := G1'; have hgc := (cell_kl G2.out.mw.kept hgb).trans hgw; obtain ⟨c0, c1, c2', f0, f1, f2, lt⟩ := Lb.lc G2.out.lb; have hc := (cell_kl G2.out.mw.kept hb).trans hcw)
              | (go_at_call 10; have hU1 : Us (wr.alloc (.cells #[.int .u32 ((f : Int) + (k : Int))] 22)) (some ⟨wr.heap.size, 0, none⟩) 1 [f + k] := us1 wr ((f : Int) + (k : Int)) (f + k) rfl; refine (of_any hU1 (by omega)).mono ?_; rintro e w2 ⟨v1, rfl, hO1⟩; dsimp only; obtain ⟨a1, c1, hv1, _⟩ := hO1.slice; rw [show (ofL [f + k]).length = 1 from rfl] at hv1; subst hv1; obtain ⟨v3, W3, hr3, hA3⟩ := (HX.out.alp.keptN (Kept.alloc wr #[.int .u32 ((f : Int) + (k : Int))] 22 (0, 0) none)).add hO1 (by omega) (by have := nw_len f (agB again) a d; rw [ofL_len]; simp only [List.length_cons, List.length_nil]; omega) 25; rw [hNW1] at hA3; have R1 := Hid.mk' hr3; have G1' := Hid.mk' hA3; clear hr3 hA3 hO1 hU1))
            go_roundw
            case rel => exact ⟨k + 1, a, d + 1, s, by omega, by have := HKAD.out; omega, fun h => by omega, rfl, by go_num, Hid.mk' ⟨G2.out.lb, HX.out.lk, G2.out.mw, HX.out.le, HX.out.lt⟩⟩
            case measure => simp [intOf]; omega
          ·
            generalize hdd : d + 1 = dd at *
            have hdd0 : 0 < dd := by omega
            have hdd1 : dd ≤ 41 := by omega
            have HDD := Hid.mk' hdd
            clear hdd
            have HNW := Hid.mk' (nw_next HX.out.lk (agB again) dd hdd0 hdd1)
            obtain ⟨q, hq⟩ : ∃ q, nxL s (nwL f (agB again) a dd) = q := ⟨_, rfl⟩
            obtain ⟨QA, QL, QG⟩ := q
            have HQ := Hid.mk' hq
            clear hq
            go_wp2_with (first
              | (have hgo := G2; clear hgo; go_at_call 9; have hms := G2.out.mw.ms (nw_ok (by omega) (agB again) a dd (by omega)); have HNX := Hid.mk' (lnext_any (c := c2) s hms); unfold NxP at HNX; rw [HQ.out, HNW.out.1, HNW.out.2.1] at HNX; refine HNX.out.mono ?_; rintro e w6 ⟨v6, rfl, hM6⟩; dsimp only; obtain ⟨a6, c6, hv6, _⟩ := hM6.slice; rw [range_len] at hv6; subst hv6; have HM6 := Hid.mk' (hM6.ms (ofL_ok (by intro q hq; simp only [List.mem_map, List.mem_range] at hq; obtain ⟨j, hj, rfl⟩ := hq; omega))); have HX6 := Hid.mk' (G2.out.keptN hM6.kw); obtain ⟨d0, d1, d2, g0, g1, g2, dlt⟩ := Lb.lc HX6.out.lb; clear HNX hM6 hms)
              | (have hgo := R1; clear hgo; at_builtin; refine wpList_app (by rfl) _ _ _ (by rfl) (by rfl) (by rfl) R1.out ?_; clear R1; have G2 : Hid (Alp w W3 B s (nwL f (agB again) a dd) v3) := G1'; have hgc := (cell_kl G2.out.mw.kept hgb).trans hgw; obtain ⟨a2, c2, hv2, _⟩ := G2.out.mw.slice; subst hv2; obtain ⟨c0, c1, c2', f0, f1, f2, lt⟩ := Lb.lc G2.out.lb; have hc := (cell_kl G2.out.mw.kept hb).trans hcw)
              | (go_at_call 10; have hU1 : Us (wr.alloc (.cells #[.int .u32 ((f : Int) + (k : Int))] 22)) (some ⟨wr.heap.size, 0, none⟩) 1 [f + k] := us1 wr ((f : Int) + (k : Int)) (f + k) rfl; refine (of_any hU1 (by omega)).mono ?_; rintro e w2 ⟨v1, rfl, hO1⟩; dsimp only; obtain ⟨a1, c1, hv1, _⟩ := hO1.slice; rw [show (ofL [f + k]).length = 1 from rfl] at hv1; subst hv1; obtain ⟨v3, W3, hr3, hA3⟩ := (HX.out.alp.keptN (Kept.alloc wr #[.int .u32 ((f : Int) + (k : Int))] 22 (0, 0) none)).add hO1 (by omega) (by have := nw_len f (agB again) a d; rw [ofL_len]; simp only [List.length_cons, List.length_nil]; omega) 25; rw [hNW1] at hA3; have R1 := Hid.mk' hr3; have G1' := Hid.mk' hA3; clear hr3 hA3 hO1 hU1))
            have HZ : Hid (Alp w (w6.alloc (.cells #[.bool QA, .int .u32 (QL : Int), .int .i64 QG] 24)) B s (nwL f (agB again) a dd) (.slice a2 (nwL f (agB again) a dd).length c2)) := Hid.mk' (HX6.out.keptN (Kept.alloc _ _ _ _ _))
            have HN : Hid (Lb (w6.alloc (.cells #[.bool QA, .int .u32 (QL : Int), .int .i64 QG] 24)) w6.heap.size ⟨QA, QL, QG⟩) := Hid.mk' (lb_alloc w6 ⟨QA, QL, QG⟩)
            have HM7 := Hid.mk' (HM6.out.kept (Kept.alloc w6 #[.bool QA, .int .u32 (QL : Int), .int .i64 QG] 24 (0, 0) none))
            clear HX6 HM6 d0 d1 d2 g0 g1 g2
            generalize (w6.alloc (.cells #[.bool QA, .int .u32 (QL : Int), .int .i64 QG] 24)) = W7 at HZ HN HM7 ⊢
            generalize w6.heap.size = B7 at HN ⊢
            go_loopw [10, 15] (fun t i wr => ∃ j : Nat, j ≤ dd ∧ t = .int .i64 ((a + j : Nat) : Int) ∧ i = .int .i64 j ∧ Hid (Kept W7 wr none)) (fun _ i _ => dd - (intOf i).toNat)
            case atStart => exact ⟨0, Nat.zero_le _, rfl, rfl, Hid.mk' (Kept.refl _ _)⟩
            case round =>
              obtain ⟨j, hj, rfl, rfl, HK⟩ := hrel
              by_cases hlj : j < dd
              · obtain ⟨b8, off8, e8, hb8, hc8⟩ := (HM7.out.kept HK.out).at_ (by omega)
                subst e8
                obtain ⟨a9, c9, r1, r2, r3, _⟩ := hc8 j _ (range_at f a dd j hlj)
                clear hc8
                have hwa : (((f + (a + j) : Nat) : Int)) = (f : Int) + ((a : Int) + (j : Int)) := by omega
                dsimp only at r2
                rw [hwa] at r2
                have hx9 : (((f : Int) + ((a : Int) + (j : Int))) != ((f : Int) + ((a : Int) + (j : Int)))) = false := by simp
                go_wp2
                go_roundw
                case rel => exact ⟨j + 1, by omega, by go_num, by go_num, HK⟩
                case measure => simp [intOf]; omega
              · have ej : j = dd := by omega
                subst ej
                have hZ := HZ.out.keptN HK.out
                obtain ⟨d0, d1, d2, g0, g1, g2, dlt⟩ := Lb.lc hZ.lb
                obtain ⟨e0, e1, e2, l0, l1, l2, elt⟩ := Lb.lc (row_kept HN.out HK.out (by simp))
                dsimp only at e0 e1 e2
                have HF2 : Hid (Als w (((wr.setCell ⟨B, 0, none⟩ (.bool QA)).setCell ⟨B, 1, none⟩ (.int .u32 (QL : Int))).setCell ⟨B, 2, none⟩ (.int .i64 QG)) B f (a + j) (agB again) 0 ⟨QA, QL, QG⟩ (.slice none 0 0)) := Hid.mk' ⟨Lb.set3 hZ.lb ⟨QA, QL, QG⟩, by have := HNW.out.2.2; rw [HQ.out] at this; exact this, Mw.nil' (kept_rowL hZ.mw.kept (Lb.set3K wr B ⟨QA, QL, QG⟩) (fun g e => by cases e; exact HX.out.le)), HX.out.le, by have := nxL_last s (nwL f (agB again) a j) HX.out.lt (fun m hm => by have := (nw_seq f (agB again) a j m hm).2; omega); rw [HQ.out] at this; exact this⟩
                clear hZ
                go_wp2
                go_roundw
                case rel => exact ⟨k + 1, a + j, 0, ⟨QA, QL, QG⟩, by omega, by have := HKAD.out; have := HDD.out; omega, fun _ => rfl, by first | rfl | go_num, by go_num, HF2⟩
                case measure => simp [intOf]; omega
    · have hNW1 : nwL f (agB again) a d ++ ofL [f + k] = nwL f (agB again) a (d + 1) := by rw [hkad]; exact nw_add1 f (agB again) a d (by rw [← hkad]; exact HBS.out k hgl)
      clear hkad hfk
      cases hcut : cuts.getD k false with
      | true =>
        rw [hcut] at hcw
        generalize hdd : d + 1 = dd at *
        have hdd0 : 0 < dd := by omega
        have hdd1 : dd ≤ 41 := by omega
        have HDD := Hid.mk' hdd
        clear hdd
        have HNW := Hid.mk' (nw_next HX.out.lk (agB again) dd hdd0 hdd1)
        obtain ⟨q, hq⟩ : ∃ q, nxL s (nwL f (agB again) a dd) = q := ⟨_, rfl⟩
        obtain ⟨QA, QL, QG⟩ := q
        have HQ := Hid.mk' hq
        clear hq
        go_wp2_with (first
          | (have hgo := G2; clear hgo; go_at_call 9; have hms := G2.out.mw.ms (nw_ok (by omega) (agB again) a dd (by omega)); have HNX := Hid.mk' (lnext_any (c := c2) s hms); unfold NxP at HNX; rw [HQ.out, HNW.out.1, HNW.out.2.1] at HNX; refine HNX.out.mono ?_; rintro e w6 ⟨v6, rfl, hM6⟩; dsimp only; obtain ⟨a6, c6, hv6, _⟩ := hM6.slice; rw [range_len] at hv6; subst hv6; have HM6 := Hid.mk' (hM6.ms (ofL_ok (by intro q hq; simp only [List.mem_map, List.mem_range] at hq; obtain ⟨j, hj, rfl⟩ := hq; omega))); have HX6 := Hid.mk' (G2.out.keptN hM6.kw); obtain ⟨d0, d1, d2, g0, g1, g2, dlt⟩ := Lb.lc HX6.out.lb; clear HNX hM6 hms)
          | (have hgo := R1; clear hgo; at_builtin; refine wpList_app (by rfl) _ _ _ (by rfl) (by rfl) (by rfl) R1.out ?_; clear R1; have G2 : Hid (Alp w W3 B s (nwL f (agB again) a dd) v3) := G1'; obtain ⟨a2, c2, hv2, _⟩ := G2.out.mw.slice; subst hv2; obtain ⟨c0, c1, c2', f0, f1, f2, lt⟩ := Lb.lc G2.out.lb; have hc := (cell_kl G2.out.mw.kept hb).trans hcw)
          | (go_at_call 10; have hU1 : Us (wr.alloc (.cells #[.int .u32 ((f : Int) + (k : Int))] 22)) (some ⟨wr.heap.size, 0, none⟩) 1 [f + k] := us1 wr ((f : Int) + (k : Int)) (f + k) rfl; refine (of_any hU1 (by omega)).mono ?_; rintro e w2 ⟨v1, rfl, hO1⟩; dsimp only; obtain ⟨a1, c1, hv1, _⟩ := hO1.slice; rw [show (ofL [f + k]).length = 1 from rfl] at hv1; subst hv1; obtain ⟨v3, W3, hr3, hA3⟩ := (HX.out.alp.keptN (Kept.alloc wr #[.int .u32 ((f : Int) + (k : Int))] 22 (0, 0) none)).add hO1 (by omega) (by have := nw_len f (agB again) a d; rw [ofL_len]; simp only [List.length_cons, List.length_nil]; omega) 25; rw [hNW1] at hA3; have R1 := Hid.mk' hr3; have G1' := Hid.mk' hA3; clear hr3 hA3 hO1 hU1))
        have HZ : Hid (Alp w (w6.alloc (.cells #[.bool QA, .int .u32 (QL : Int), .int .i64 QG] 24)) B s (nwL f (agB again) a dd) (.slice a2 (nwL f (agB again) a dd).length c2)) := Hid.mk' (HX6.out.keptN (Kept.alloc _ _ _ _ _))
        have HN : Hid (Lb (w6.alloc (.cells #[.bool QA, .int .u32 (QL : Int), .int .i64 QG] 24)) w6.heap.size ⟨QA, QL, QG⟩) := Hid.mk' (lb_alloc w6 ⟨QA, QL, QG⟩)
        have HM7 := Hid.mk' (HM6.out.kept (Kept.alloc w6 #[.bool QA, .int .u32 (QL : Int), .int .i64 QG] 24 (0, 0) none))
        clear HX6 HM6 d0 d1 d2 g0 g1 g2
        generalize (w6.alloc (.cells #[.bool QA, .int .u32 (QL : Int), .int .i64 QG] 24)) = W7 at HZ HN HM7 ⊢
        generalize w6.heap.size = B7 at HN ⊢
        go_loopw [10, 15] (fun t i wr => ∃ j : Nat, j ≤ dd ∧ t = .int .i64 ((a + j : Nat) : Int) ∧ i = .int .i64 j ∧ Hid (Kept W7 wr none)) (fun _ i _ => dd - (intOf i).toNat)
        case atStart => exact ⟨0, Nat.zero_le _, rfl, rfl, Hid.mk' (Kept.refl _ _)⟩
        case round =>
          obtain ⟨j, hj, rfl, rfl, HK⟩ := hrel
          by_cases hlj : j < dd
          · obtain ⟨b8, off8, e8, hb8, hc8⟩ := (HM7.out.kept HK.out).at_ (by omega)
            subst e8
            obtain ⟨a9, c9, r1, r2, r3, _⟩ := hc8 j _ (range_at f a dd j hlj)
            clear hc8
            have hwa : (((f + (a + j) : Nat) : Int)) = (f : Int) + ((a : Int) + (j : Int)) := by omega
            dsimp only at r2
            rw [hwa] at r2
            have hx9 : (((f : Int) + ((a : Int) + (j : Int))) != ((f : Int) + ((a : Int) + (j : Int)))) = false := by simp
            go_wp2
            go_roundw
            case rel => exact ⟨j + 1, by omega, by go_num, by go_num, HK⟩
            case measure => simp [intOf]; omega
          · have ej : j = dd := by omega
            subst ej
            have hZ := HZ.out.keptN HK.out
            obtain ⟨d0, d1, d2, g0, g1, g2, dlt⟩ := Lb.lc hZ.lb
            obtain ⟨e0, e1, e2, l0, l1, l2, elt⟩ := Lb.lc (row_kept HN.out HK.out (by simp))
            dsimp only at e0 e1 e2
            have HF2 : Hid (Als w (((wr.setCell ⟨B, 0, none⟩ (.bool QA)).setCell ⟨B, 1, none⟩ (.int .u32 (QL : Int))).setCell ⟨B, 2, none⟩ (.int .i64 QG)) B f (a + j) (agB again) 0 ⟨QA, QL, QG⟩ (.slice none 0 0)) := Hid.mk' ⟨Lb.set3 hZ.lb ⟨QA, QL, QG⟩, by have := HNW.out.2.2; rw [HQ.out] at this; exact this, Mw.nil' (kept_rowL hZ.mw.kept (Lb.set3K wr B ⟨QA, QL, QG⟩) (fun g e => by cases e; exact HX.out.le)), HX.out.le, by have := nxL_last s (nwL f (agB again) a j) HX.out.lt (fun m hm => by have := (nw_seq f (agB again) a j m hm).2; omega); rw [HQ.out] at this; exact this⟩
            clear hZ
            go_wp2
            go_roundw
            case rel => exact ⟨k + 1, a + j, 0, ⟨QA, QL, QG⟩, by omega, by have := HKAD.out; have := HDD.out; omega, fun _ => rfl, by first | rfl | go_num, by go_num, HF2⟩
            case measure => simp [intOf]; omega
      | false =>
        rw [hcut] at hcw
        by_cases hlast : k + 1 < n
        ·
          go_wp2_with (first
            | (have hgo := R1; clear hgo; at_builtin; refine wpList_app (by rfl) _ _ _ (by rfl) (by rfl) (by rfl) R1.out ?_; clear R1; have G2 : Hid (Alp w W3 B s (nwL f (agB again) a (d + 1)) v3) := G1'; obtain ⟨c0, c1, c2', f0, f1, f2, lt⟩ := Lb.lc G2.out.lb; have hc := (cell_kl G2.out.mw.kept hb).trans hcw)
            | (go_at_call 10; have hU1 : Us (wr.alloc (.cells #[.int .u32 ((f : Int) + (k : Int))] 22)) (some ⟨wr.heap.size, 0, none⟩) 1 [f + k] := us1 wr ((f : Int) + (k : Int)) (f + k) rfl; refine (of_any hU1 (by omega)).mono ?_; rintro e w2 ⟨v1, rfl, hO1⟩; dsimp only; obtain ⟨a1, c1, hv1, _⟩ := hO1.slice; rw [show (ofL [f + k]).length = 1 from rfl] at hv1; subst hv1; obtain ⟨v3, W3, hr3, hA3⟩ := (HX.out.alp.keptN (Kept.alloc wr #[.int .u32 ((f : Int) + (k : Int))] 22 (0, 0) none)).add hO1 (by omega) (by have := nw_len f (agB again) a d; rw [ofL_len]; simp only [List.length_cons, List.length_nil]; omega) 25; rw [hNW1] at hA3; have R1 := Hid.mk' hr3; have G1' := Hid.mk' hA3; clear hr3 hA3 hO1 hU1))
          go_roundw
          case rel => exact ⟨k + 1, a, d + 1, s, by omega, by have := HKAD.out; omega, fun h => by omega, rfl, by go_num, Hid.mk' ⟨G2.out.lb, HX.out.lk, G2.out.mw, HX.out.le, HX.out.lt⟩⟩
          case measure => simp [intOf]; omega
        ·
          generalize hdd : d + 1 = dd at *
          have hdd0 : 0 < dd := by omega
          have hdd1 : dd ≤ 41 := by omega
          have HDD := Hid.mk' hdd
          clear hdd
          have HNW := Hid.mk' (nw_next HX.out.lk (agB again) dd hdd0 hdd1)
          obtain ⟨q, hq⟩ : ∃ q, nxL s (nwL f (agB again) a dd) = q := ⟨_, rfl⟩
          obtain ⟨QA, QL, QG⟩ := q
          have HQ := Hid.mk' hq
          clear hq
          go_wp2_with (first
            | (have hgo := G2; clear hgo; go_at_call 9; have hms := G2.out.mw.ms (nw_ok (by omega) (agB again) a dd (by omega)); have HNX := Hid.mk' (lnext_any (c := c2) s hms); unfold NxP at HNX; rw [HQ.out, HNW.out.1, HNW.out.2.1] at HNX; refine HNX.out.mono ?_; rintro e w6 ⟨v6, rfl, hM6⟩; dsimp only; obtain ⟨a6, c6, hv6, _⟩ := hM6.slice; rw [range_len] at hv6; subst hv6; have HM6 := Hid.mk' (hM6.ms (ofL_ok (by intro q hq; simp only [List.mem_map, List.mem_range] at hq; obtain ⟨j, hj, rfl⟩ := hq; omega))); have HX6 := Hid.mk' (G2.out.keptN hM6.kw); obtain ⟨d0, d1, d2, g0, g1, g2, dlt⟩ := Lb.lc HX6.out.lb; clear HNX hM6 hms)
            | (have hgo := R1; clear hgo; at_builtin; refine wpList_app (by rfl) _ _ _ (by rfl) (by rfl) (by rfl) R1.out ?_; clear R1; have G2 : Hid (Alp w W3 B s (nwL f (agB again) a dd) v3) := G1'; obtain ⟨a2, c2, hv2, _⟩ := G2.out.mw.slice; subst hv2; obtain ⟨c0, c1, c2', f0, f1, f2, lt⟩ := Lb.lc G2.out.lb; have hc := (cell_kl G2.out.mw.kept hb).trans hcw)
            | (go_at_call 10; have hU1 : Us (wr.alloc (.cells #[.int .u32 ((f : Int) + (k : Int))] 22)) (some ⟨wr.heap.size, 0, none⟩) 1 [f + k] := us1 wr ((f : Int) + (k : Int)) (f + k) rfl; refine (of_any hU1 (by omega)).mono ?_; rintro e w2 ⟨v1, rfl, hO1⟩; dsimp only; obtain ⟨a1, c1, hv1, _⟩ := hO1.slice; rw [show (ofL [f + k]).length = 1 from rfl] at hv1; subst hv1; obtain ⟨v3, W3, hr3, hA3⟩ := (HX.out.alp.keptN (Kept.alloc wr #[.int .u32 ((f : Int) + (k : Int))] 22 (0, 0) none)).add hO1 (by omega) (by have := nw_len f (agB again) a d; rw [ofL_len]; simp only [List.length_cons, List.length_nil]; omega) 25; rw [hNW1] at hA3; have R1 := Hid.mk' hr3; have G1' := Hid.mk' hA3; clear hr3 hA3 hO1 hU1))
          have HZ : Hid (Alp w (w6.alloc (.cells #[.bool QA, .int .u32 (QL : Int), .int .i64 QG] 24)) B s (nwL f (agB again) a dd) (.slice a2 (nwL f (agB again) a dd).length c2)) := Hid.mk' (HX6.out.keptN (Kept.alloc _ _ _ _ _))
          have HN : Hid (Lb (w6.alloc (.cells #[.bool QA, .int .u32 (QL : Int), .int .i64 QG] 24)) w6.heap.size ⟨QA, QL, QG⟩) := Hid.mk' (lb_alloc w6 ⟨QA, QL, QG⟩)
          have HM7 := Hid.mk' (HM6.out.kept (Kept.alloc w6 #[.bool QA, .int .u32 (QL : Int), .int .i64 QG] 24 (0, 0) none))
          clear HX6 HM6 d0 d1 d2 g0 g1 g2
          generalize (w6.alloc (.cells #[.bool QA, .int .u32 (QL : Int), .int .i64 QG] 24)) = W7 at HZ HN HM7 ⊢
          generalize w6.heap.size = B7 at HN ⊢
          go_loopw [10, 15] (fun t i wr => ∃ j : Nat, j ≤ dd ∧ t = .int .i64 ((a + j : Nat) : Int) ∧ i = .int .i64 j ∧ Hid (Kept W7 wr none)) (fun _ i _ => dd - (intOf i).toNat)
          case atStart => exact ⟨0, Nat.zero_le _, rfl, rfl, Hid.mk' (Kept.refl _ _)⟩
          case round =>
            obtain ⟨j, hj, rfl, rfl, HK⟩ := hrel
            by_cases hlj : j < dd
            · obtain ⟨b8, off8, e8, hb8, hc8⟩ := (HM7.out.kept HK.out).at_ (by omega)
              subst e8
              obtain ⟨a9, c9, r1, r2, r3, _⟩ := hc8 j _ (range_at f a dd j hlj)
              clear hc8
              have hwa : (((f + (a + j) : Nat) : Int)) = (f : Int) + ((a : Int) + (j : Int)) := by omega
              dsimp only at r2
              rw [hwa] at r2
              have hx9 : (((f : Int) + ((a : Int) + (j : Int))) != ((f : Int) + ((a : Int) + (j : Int)))) = false := by simp
              go_wp2
              go_roundw
              case rel => exact ⟨j + 1, by omega, by go_num, by go_num, HK⟩
              case measure => simp [intOf]; omega
            · have ej : j = dd := by omega
              subst ej
              have hZ := HZ.out.keptN HK.out
              obtain ⟨d0, d1, d2, g0, g1, g2, dlt⟩ := Lb.lc hZ.lb
              obtain ⟨e0, e1, e2, l0, l1, l2, elt⟩ := Lb.lc (row_kept HN.out HK.out (by simp))
              dsimp only at e0 e1 e2
              have HF2 : Hid (Als w (((wr.setCell ⟨B, 0, none⟩ (.bool QA)).setCell ⟨B, 1, none⟩ (.int .u32 (QL : Int))).setCell ⟨B, 2, none⟩ (.int .i64 QG)) B f (a + j) (agB again) 0 ⟨QA, QL, QG⟩ (.slice none 0 0)) := Hid.mk' ⟨Lb.set3 hZ.lb ⟨QA, QL, QG⟩, by have := HNW.out.2.2; rw [HQ.out] at this; exact this, Mw.nil' (kept_rowL hZ.mw.kept (Lb.set3K wr B ⟨QA, QL, QG⟩) (fun g e => by cases e; exact HX.out.le)), HX.out.le, by have := nxL_last s (nwL f (agB again) a j) HX.out.lt (fun m hm => by have := (nw_seq f (agB again) a j m hm).2; omega); rw [HQ.out] at this; exact this⟩
              clear hZ
              go_wp2
              go_roundw
              case rel => exact ⟨k + 1, a + j, 0, ⟨QA, QL, QG⟩, by omega, by have := HKAD.out; have := HDD.out; omega, fun _ => rfl, by first | rfl | go_num, by go_num, HF2⟩
              case measure => simp [intOf]; omega

end Go.Proofs.Ytnmfigcemknjbaa
