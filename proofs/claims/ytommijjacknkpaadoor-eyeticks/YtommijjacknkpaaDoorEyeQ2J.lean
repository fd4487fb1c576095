/-
  Texts joined: some of those that the proofs of this seat stand on.
-/
import Derived.Test.YtommijjacknkpaaDoorEyeQ0J
import Derived.Test.YtommijjacknkpaaDoorEyeA
/-
  THE CONTRACT of the document's All (made by a program).
-/
namespace Go.Proofs.YtommijjacknkpaaDoor
open Go.RowKit Go.Lib Go.Deep
set_option linter.unusedVariables false
set_option linter.unusedSimpArgs false

set_option maxRecDepth 100000 in
set_option maxHeartbeats 2000000 in
theorem rall_no {X : Sa} {S : St} {w : World} (h : Sat w X S) (hT : Tabb w) {a : Option Addr} {n c : Nat} {L : List Lk} (hA : Lks w a n L) (hc : Cap a n c) (U : Nat) (hU : U < 4294967296) (E : Int) (he : allE S L = E) (h0 : E ≠ 0) : Calls Tryd.prog 18 #[siteV X S, .slice a n c, .int .u32 (U : Int)] w fun e w' => e = .returned (.tuple #[.slice none 0 0, .int .i64 E]) ∧ Kept w w' none := by
  have HE := Hid.mk' he
  have hEb : (E != 0) = true := by simpa using h0
  clear he
  have hkA : Kept w (w.alloc (.cells #[.int .i64 S.id, .slice X.g S.groups.length X.gc, .slice X.a S.apart.length X.ac, .slice X.b S.between.length X.bc, .slice X.p S.phases.length X.pc, .slice X.e S.eyes.length X.ec, .int .i64 S.watch, .int .i64 S.feed, .int .i64 S.heal, .int .i64 S.low, .int .i64 S.high, .slice X.l S.plans.length X.lc] 29)) none := Kept.alloc _ _ _ _ _
  have hsb := sbox_alloc h 29
  have HS := Hid.mk' (h.kept hkA)
  have HT := Hid.mk' (hT.kept hkA)
  have HA := Hid.mk' (hA.kept hkA)
  have hE9 : S.eyes.length ≤ 9223372036854775807 := by have := h.ek.room; have := h.ek.max; omega
  have hn9 : n ≤ 9223372036854775807 := by have := hc.room; have := hc.max; omega
  have HSZ := Hid.mk' hA.size
  obtain ⟨WA, hWA⟩ : ∃ WA, (w.alloc (.cells #[.int .i64 S.id, .slice X.g S.groups.length X.gc, .slice X.a S.apart.length X.ac, .slice X.b S.between.length X.bc, .slice X.p S.phases.length X.pc, .slice X.e S.eyes.length X.ec, .int .i64 S.watch, .int .i64 S.feed, .int .i64 S.heal, .int .i64 S.low, .int .i64 S.high, .slice X.l S.plans.length X.lc] 29)) = WA := ⟨_, rfl⟩
  rw [hWA] at hkA hsb HS HT HA
  have hlA : w.heap.size < WA.heap.size := hsb.lt
  have HK := Hid.mk' hkA
  have HSB := Hid.mk' hsb
  have hK0 := Kept.refl WA none
  clear h hT hkA hsb hA
  have s0_ : ∀ w', Kept WA w' none → w'.cell? ⟨w.heap.size, 0, none⟩ = some (.int .i64 S.id) := fun w' q => (HSB.out.kept q).c0
  have s1_ : ∀ w', Kept WA w' none → w'.cell? ⟨w.heap.size, 1, none⟩ = some (.slice X.g S.groups.length X.gc) := fun w' q => (HSB.out.kept q).c1
  have s2_ : ∀ w', Kept WA w' none → w'.cell? ⟨w.heap.size, 2, none⟩ = some (.slice X.a S.apart.length X.ac) := fun w' q => (HSB.out.kept q).c2
  have s3_ : ∀ w', Kept WA w' none → w'.cell? ⟨w.heap.size, 3, none⟩ = some (.slice X.b S.between.length X.bc) := fun w' q => (HSB.out.kept q).c3
  have s4_ : ∀ w', Kept WA w' none → w'.cell? ⟨w.heap.size, 4, none⟩ = some (.slice X.p S.phases.length X.pc) := fun w' q => (HSB.out.kept q).c4
  have s5_ : ∀ w', Kept WA w' none → w'.cell? ⟨w.heap.size, 5, none⟩ = some (.slice X.e S.eyes.length X.ec) := fun w' q => (HSB.out.kept q).c5
  have s6_ : ∀ w', Kept WA w' none → w'.cell? ⟨w.heap.size, 6, none⟩ = some (.int .i64 S.watch) := fun w' q => (HSB.out.kept q).c6
  have s7_ : ∀ w', Kept WA w' none → w'.cell? ⟨w.heap.size, 7, none⟩ = some (.int .i64 S.feed) := fun w' q => (HSB.out.kept q).c7
  have s8_ : ∀ w', Kept WA w' none → w'.cell? ⟨w.heap.size, 8, none⟩ = some (.int .i64 S.heal) := fun w' q => (HSB.out.kept q).c8
  have s9_ : ∀ w', Kept WA w' none → w'.cell? ⟨w.heap.size, 9, none⟩ = some (.int .i64 S.low) := fun w' q => (HSB.out.kept q).c9
  have s10_ : ∀ w', Kept WA w' none → w'.cell? ⟨w.heap.size, 10, none⟩ = some (.int .i64 S.high) := fun w' q => (HSB.out.kept q).c10
  have s11_ : ∀ w', Kept WA w' none → w'.cell? ⟨w.heap.size, 11, none⟩ = some (.slice X.l S.plans.length X.lc) := fun w' q => (HSB.out.kept q).c11
  go_enter Tryd.func18, Tryd.ntmps18
  go_wp2_with (first | rw [hWA] | (go_at_call 33; have hx := rask_any (HS.out) (HT.out) HA.out hc; rw [HE.out] at hx; refine hx.mono ?_; rintro e wC ⟨rfl, hkC⟩; have hKC : Kept WA wC none := hkC; clear hx))
  go_ret2
  exact ⟨rfl, HK.out.tr hKC⟩
set_option maxRecDepth 100000 in
set_option maxHeartbeats 2000000 in
theorem rall_go {X : Sa} {S : St} {w : World} (h : Sat w X S) (hT : Tabb w) {a : Option Addr} {n c : Nat} {L : List Lk} (hA : Lks w a n L) (hc : Cap a n c) (U : Nat) (hU : U < 4294967296) (he : allE S L = 0) : Calls Tryd.prog 18 #[siteV X S, .slice a n c, .int .u32 (U : Int)] w fun e w' => ∃ v, e = .returned (.tuple #[v, .int .i64 0]) ∧ LkS w' w.heap.size v (allL S L U) ∧ Kept w w' none := by
  have HE := Hid.mk' he
  obtain ⟨hs, hl, hm⟩ := allE_zero he
  have hle1 : n ≤ S.eyes.length := by rw [← hl]; exact Nat.le_of_eq hA.size.symm
  have hn24 : n ≤ 24 := Nat.le_trans hle1 (eye_facts hs).n
  have HMY : Hid (∀ k, k < n → mayK (lk L k) = true) := fun k hk => allB_iff.1 hm k (by rw [hA.size]; exact hk)
  have HTY := Hid.mk' hA.typ
  have HLL : Hid (allL S L U = (List.range n).map (fun i => stepK (S.ey i) S.heal (lk L i) (hasB U (i : Int)))) := by show _ = _; unfold allL; rw [hA.size]
  have HSw := Hid.mk' h
  clear he hs hl hm
  have hkA : Kept w (w.alloc (.cells #[.int .i64 S.id, .slice X.g S.groups.length X.gc, .slice X.a S.apart.length X.ac, .slice X.b S.between.length X.bc, .slice X.p S.phases.length X.pc, .slice X.e S.eyes.length X.ec, .int .i64 S.watch, .int .i64 S.feed, .int .i64 S.heal, .int .i64 S.low, .int .i64 S.high, .slice X.l S.plans.length X.lc] 29)) none := Kept.alloc _ _ _ _ _
  have hsb := sbox_alloc h 29
  have HS := Hid.mk' (h.kept hkA)
  have HT := Hid.mk' (hT.kept hkA)
  have HA := Hid.mk' (hA.kept hkA)
  have hE9 : S.eyes.length ≤ 9223372036854775807 := by have := h.ek.room; have := h.ek.max; omega
  have hn9 : n ≤ 9223372036854775807 := by have := hc.room; have := hc.max; omega
  have HSZ := Hid.mk' hA.size
  obtain ⟨WA, hWA⟩ : ∃ WA, (w.alloc (.cells #[.int .i64 S.id, .slice X.g S.groups.length X.gc, .slice X.a S.apart.length X.ac, .slice X.b S.between.length X.bc, .slice X.p S.phases.length X.pc, .slice X.e S.eyes.length X.ec, .int .i64 S.watch, .int .i64 S.feed, .int .i64 S.heal, .int .i64 S.low, .int .i64 S.high, .slice X.l S.plans.length X.lc] 29)) = WA := ⟨_, rfl⟩
  rw [hWA] at hkA hsb HS HT HA
  have hlA : w.heap.size < WA.heap.size := hsb.lt
  have HK := Hid.mk' hkA
  have HSB := Hid.mk' hsb
  have hK0 := Kept.refl WA none
  clear h hT hkA hsb hA
  have s0_ : ∀ w', Kept WA w' none → w'.cell? ⟨w.heap.size, 0, none⟩ = some (.int .i64 S.id) := fun w' q => (HSB.out.kept q).c0
  have s1_ : ∀ w', Kept WA w' none → w'.cell? ⟨w.heap.size, 1, none⟩ = some (.slice X.g S.groups.length X.gc) := fun w' q => (HSB.out.kept q).c1
  have s2_ : ∀ w', Kept WA w' none → w'.cell? ⟨w.heap.size, 2, none⟩ = some (.slice X.a S.apart.length X.ac) := fun w' q => (HSB.out.kept q).c2
  have s3_ : ∀ w', Kept WA w' none → w'.cell? ⟨w.heap.size, 3, none⟩ = some (.slice X.b S.between.length X.bc) := fun w' q => (HSB.out.kept q).c3
  have s4_ : ∀ w', Kept WA w' none → w'.cell? ⟨w.heap.size, 4, none⟩ = some (.slice X.p S.phases.length X.pc) := fun w' q => (HSB.out.kept q).c4
  have s5_ : ∀ w', Kept WA w' none → w'.cell? ⟨w.heap.size, 5, none⟩ = some (.slice X.e S.eyes.length X.ec) := fun w' q => (HSB.out.kept q).c5
  have s6_ : ∀ w', Kept WA w' none → w'.cell? ⟨w.heap.size, 6, none⟩ = some (.int .i64 S.watch) := fun w' q => (HSB.out.kept q).c6
  have s7_ : ∀ w', Kept WA w' none → w'.cell? ⟨w.heap.size, 7, none⟩ = some (.int .i64 S.feed) := fun w' q => (HSB.out.kept q).c7
  have s8_ : ∀ w', Kept WA w' none → w'.cell? ⟨w.heap.size, 8, none⟩ = some (.int .i64 S.heal) := fun w' q => (HSB.out.kept q).c8
  have s9_ : ∀ w', Kept WA w' none → w'.cell? ⟨w.heap.size, 9, none⟩ = some (.int .i64 S.low) := fun w' q => (HSB.out.kept q).c9
  have s10_ : ∀ w', Kept WA w' none → w'.cell? ⟨w.heap.size, 10, none⟩ = some (.int .i64 S.high) := fun w' q => (HSB.out.kept q).c10
  have s11_ : ∀ w', Kept WA w' none → w'.cell? ⟨w.heap.size, 11, none⟩ = some (.slice X.l S.plans.length X.lc) := fun w' q => (HSB.out.kept q).c11
  go_enter Tryd.func18, Tryd.ntmps18
  go_wp2_with (first | rw [hWA] | (go_at_call 33; have hx := rask_any (HS.out) (HT.out) HA.out hc; rw [HE.out] at hx; refine hx.mono ?_; rintro e wC ⟨rfl, hkC⟩; have hKC : Kept WA wC none := hkC; clear hx))
  have HS0 : Hid (LkS wC wC.heap.size (.slice none 0 0) ((List.range 0).map (fun i => stepK (S.ey i) S.heal (lk L i) (hasB U (i : Int))))) := Ow8.nil _ _ _ _ _ _
  have hKC0 := Kept.refl wC none
  go_loopw [9, 10] (fun nv iv wr => ∃ (k : Nat), k ≤ n ∧ iv = .int .i64 k ∧ Kept wC wr none ∧ LkS wr wC.heap.size nv ((List.range k).map (fun i => stepK (S.ey i) S.heal (lk L i) (hasB U (i : Int))))) (fun _ iv _ => n - (intOf iv).toNat)
  case atStart => exact ⟨0, by omega, rfl, hKC0, HS0.out⟩
  case round =>
    clear HS0
    obtain ⟨k, hk, rfl, hkr, hown⟩ := hrel
    obtain ⟨a5, c5, hv5, _, hcap5, _⟩ := Ow8.lie hown (by omega)
    have hlen : ((List.range k).map (fun i => stepK (S.ey i) S.heal (lk L i) (hasB U (i : Int)))).length = k := by simp
    rw [hlen] at hv5 hcap5
    subst hv5
    have HOW := Hid.mk' hown
    have hc5 := hcap5.max
    have hc6 := hcap5.room
    clear hown hcap5
    by_cases hlt : k < n
    · have hKA : Kept WA wr none := hKC.tr hkr
      have HKwr := Hid.mk' (HK.out.tr hKA)
      obtain ⟨b, off, ea, hb, c0, c1, c2, c3, c4⟩ := (HA.out).at_ hlt
      subst ea
      have hxm := HMY.out k hlt
      have hxt := HTY.out k hlt
      have HST : Hid (∀ w', Kept wr w' none → Calls Tryd.prog 32 #[siteV X S, .int .i64 (k : Int), lkV (lk L k), .bool (hasB U (k : Int))] w' fun e w'' => e = .returned (lkV (stepK (S.ey k) S.heal (lk L k) (hasB U (k : Int)))) ∧ Kept w' w'' none) := fun w' q => rstep_any (HSw.out.kept (HKwr.out.tr q)) k (by omega) _ _ hxm hxt.t0 hxt.t1
      have HNX : Hid ((List.range (k + 1)).map (fun i => stepK (S.ey i) S.heal (lk L i) (hasB U (i : Int))) = ((List.range k).map (fun i => stepK (S.ey i) S.heal (lk L i) (hasB U (i : Int)))) ++ [stepK (S.ey k) S.heal (lk L k) (hasB U (k : Int))]) := by show _ = _; rw [List.range_succ, List.map_append]; rfl
      clear hxm hxt
      generalize stepK (S.ey k) S.heal (lk L k) (hasB U (k : Int)) = Y at *
      generalize hx : lk L k = x at *
      clear hx
      have hne := Ow8.lt HOW.out
      have hlc := hKC.size
      have NE : ∀ B, (B < wC.heap.size) → some B ≠ (Value.slice a5 k c5).ownBlock := fun B hB e => by have := hne B e.symm; omega
      have t0_ : ∀ w', Kept wr w' (Value.slice a5 k c5).ownBlock → w'.cell? ⟨w.heap.size, 0, none⟩ = some (.int .i64 S.id) := fun w' q => cell_kr ((HSB.out.kept hKA).c0) q (NE _ (by omega))
      have t1_ : ∀ w', Kept wr w' (Value.slice a5 k c5).ownBlock → w'.cell? ⟨w.heap.size, 1, none⟩ = some (.slice X.g S.groups.length X.gc) := fun w' q => cell_kr ((HSB.out.kept hKA).c1) q (NE _ (by omega))
      have t2_ : ∀ w', Kept wr w' (Value.slice a5 k c5).ownBlock → w'.cell? ⟨w.heap.size, 2, none⟩ = some (.slice X.a S.apart.length X.ac) := fun w' q => cell_kr ((HSB.out.kept hKA).c2) q (NE _ (by omega))
      have t3_ : ∀ w', Kept wr w' (Value.slice a5 k c5).ownBlock → w'.cell? ⟨w.heap.size, 3, none⟩ = some (.slice X.b S.between.length X.bc) := fun w' q => cell_kr ((HSB.out.kept hKA).c3) q (NE _ (by omega))
      have t4_ : ∀ w', Kept wr w' (Value.slice a5 k c5).ownBlock → w'.cell? ⟨w.heap.size, 4, none⟩ = some (.slice X.p S.phases.length X.pc) := fun w' q => cell_kr ((HSB.out.kept hKA).c4) q (NE _ (by omega))
      have t5_ : ∀ w', Kept wr w' (Value.slice a5 k c5).ownBlock → w'.cell? ⟨w.heap.size, 5, none⟩ = some (.slice X.e S.eyes.length X.ec) := fun w' q => cell_kr ((HSB.out.kept hKA).c5) q (NE _ (by omega))
      have t6_ : ∀ w', Kept wr w' (Value.slice a5 k c5).ownBlock → w'.cell? ⟨w.heap.size, 6, none⟩ = some (.int .i64 S.watch) := fun w' q => cell_kr ((HSB.out.kept hKA).c6) q (NE _ (by omega))
      have t7_ : ∀ w', Kept wr w' (Value.slice a5 k c5).ownBlock → w'.cell? ⟨w.heap.size, 7, none⟩ = some (.int .i64 S.feed) := fun w' q => cell_kr ((HSB.out.kept hKA).c7) q (NE _ (by omega))
      have t8_ : ∀ w', Kept wr w' (Value.slice a5 k c5).ownBlock → w'.cell? ⟨w.heap.size, 8, none⟩ = some (.int .i64 S.heal) := fun w' q => cell_kr ((HSB.out.kept hKA).c8) q (NE _ (by omega))
      have t9_ : ∀ w', Kept wr w' (Value.slice a5 k c5).ownBlock → w'.cell? ⟨w.heap.size, 9, none⟩ = some (.int .i64 S.low) := fun w' q => cell_kr ((HSB.out.kept hKA).c9) q (NE _ (by omega))
      have t10_ : ∀ w', Kept wr w' (Value.slice a5 k c5).ownBlock → w'.cell? ⟨w.heap.size, 10, none⟩ = some (.int .i64 S.high) := fun w' q => cell_kr ((HSB.out.kept hKA).c10) q (NE _ (by omega))
      have t11_ : ∀ w', Kept wr w' (Value.slice a5 k c5).ownBlock → w'.cell? ⟨w.heap.size, 11, none⟩ = some (.slice X.l S.plans.length X.lc) := fun w' q => cell_kr ((HSB.out.kept hKA).c11) q (NE _ (by omega))
      have w0_ : ∀ w', Kept wr w' (Value.slice a5 k c5).ownBlock → w'.cell? ⟨b, off + k * 5, none⟩ = some (.bool x.up) := fun w' q => cell_kr (cell_kr c0 hKA (by simp)) q (NE _ (by omega))
      have w1_ : ∀ w', Kept wr w' (Value.slice a5 k c5).ownBlock → w'.cell? ⟨b, off + k * 5 + 1, none⟩ = some (.int .i64 x.same) := fun w' q => cell_kr (cell_kr c1 hKA (by simp)) q (NE _ (by omega))
      have w2_ : ∀ w', Kept wr w' (Value.slice a5 k c5).ownBlock → w'.cell? ⟨b, off + k * 5 + 2, none⟩ = some (.int .u64 x.turns) := fun w' q => cell_kr (cell_kr c2 hKA (by simp)) q (NE _ (by omega))
      have w3_ : ∀ w', Kept wr w' (Value.slice a5 k c5).ownBlock → w'.cell? ⟨b, off + k * 5 + 3, none⟩ = some (.bool x.bad) := fun w' q => cell_kr (cell_kr c3 hKA (by simp)) q (NE _ (by omega))
      have w4_ : ∀ w', Kept wr w' (Value.slice a5 k c5).ownBlock → w'.cell? ⟨b, off + k * 5 + 4, none⟩ = some (.int .i64 x.well) := fun w' q => cell_kr (cell_kr c4 hKA (by simp)) q (NE _ (by omega))
      clear c0 c1 c2 c3 c4 s0_ s1_ s2_ s3_ s4_ s5_ s6_ s7_ s8_ s9_ s10_ s11_
      have hkr0 := Kept.refl wr (Value.slice a5 k c5).ownBlock
      go_wp2
      refine wp_region_held_drew (S := fun w' => Kept wr w' (Value.slice a5 k c5).ownBlock) (by kernel_rfl) (kept_to (Kept.drew _ _)) (fun hHeld => ?_)
      refine held_take (i := 0) (v := ?v1) rfl rfl (by kernel_rfl) (by kernel_rfl) (by kernel_rfl) (fun _ _ _ h => h) (Or.inl ⟨by rfl, ?hy1⟩) hHeld ?rest1
      case hy1 => first | (intro w hSw; (try dsimp only at hSw); go_simp; done) | (intro w hSw; (try dsimp only at hSw); go_simp; with_reducible rfl)
      try simp only [List.setIfInBounds_toArray, List.set_cons_zero, List.set_cons_succ]
      refine held_take (i := 1) (v := ?v2) rfl rfl (by kernel_rfl) (by kernel_rfl) (by kernel_rfl) (fun _ _ _ h => h) (Or.inl ⟨by rfl, ?hy2⟩) hHeld ?rest2
      case hy2 => first | (intro w hSw; (try dsimp only at hSw); go_simp; done) | (intro w hSw; (try dsimp only at hSw); go_simp; with_reducible rfl)
      try simp only [List.setIfInBounds_toArray, List.set_cons_zero, List.set_cons_succ]
      refine held_take (i := 2) (v := ?v3) rfl rfl (by kernel_rfl) (by kernel_rfl) (by kernel_rfl) (fun _ _ _ h => h) (Or.inl ⟨by rfl, ?hy3⟩) hHeld ?rest3
      case hy3 => first | (intro w hSw; (try dsimp only at hSw); go_simp; done) | (intro w hSw; (try dsimp only at hSw); go_simp; with_reducible rfl)
      try simp only [List.setIfInBounds_toArray, List.set_cons_zero, List.set_cons_succ]
      refine held_take (i := 3) (v := ?v4) rfl rfl (by kernel_rfl) (by kernel_rfl) (by kernel_rfl) (fun _ _ _ h => h) (Or.inl ⟨by rfl, ?hy4⟩) hHeld ?rest4
      case hy4 => first | (intro w hSw; (try dsimp only at hSw); go_simp; done) | (intro w hSw; (try dsimp only at hSw); go_simp; with_reducible rfl)
      try simp only [List.setIfInBounds_toArray, List.set_cons_zero, List.set_cons_succ]
      refine held_take (i := 4) (v := ?v5) rfl rfl (by kernel_rfl) (by kernel_rfl) (by kernel_rfl) (fun _ _ _ h => h) (Or.inl ⟨by rfl, ?hy5⟩) hHeld ?rest5
      case hy5 => first | (intro w hSw; (try dsimp only at hSw); go_simp; done) | (intro w hSw; (try dsimp only at hSw); go_simp; with_reducible rfl)
      try simp only [List.setIfInBounds_toArray, List.set_cons_zero, List.set_cons_succ]
      refine held_take (i := 5) (v := ?v6) rfl rfl (by kernel_rfl) (by kernel_rfl) (by kernel_rfl) (fun _ _ _ h => h) (Or.inl ⟨by rfl, ?hy6⟩) hHeld ?rest6
      case hy6 => first | (intro w hSw; (try dsimp only at hSw); go_simp; done) | (intro w hSw; (try dsimp only at hSw); go_simp; with_reducible rfl)
      try simp only [List.setIfInBounds_toArray, List.set_cons_zero, List.set_cons_succ]
      refine held_take (i := 6) (v := ?v7) rfl rfl (by kernel_rfl) (by kernel_rfl) (by kernel_rfl) (fun _ _ _ h => h) (Or.inl ⟨by rfl, ?hy7⟩) hHeld ?rest7
      case hy7 => first | (intro w hSw; (try dsimp only at hSw); go_simp; done) | (intro w hSw; (try dsimp only at hSw); go_simp; with_reducible rfl)
      try simp only [List.setIfInBounds_toArray, List.set_cons_zero, List.set_cons_succ]
      refine held_take (i := 7) (v := ?v8) rfl rfl (by kernel_rfl) (by kernel_rfl) (by kernel_rfl) (fun _ _ _ h => h) (Or.inl ⟨by rfl, ?hy8⟩) hHeld ?rest8
      case hy8 => first | (intro w hSw; (try dsimp only at hSw); go_simp; done) | (intro w hSw; (try dsimp only at hSw); go_simp; with_reducible rfl)
      try simp only [List.setIfInBounds_toArray, List.set_cons_zero, List.set_cons_succ]
      refine held_take (i := 8) (v := ?v9) rfl rfl (by kernel_rfl) (by kernel_rfl) (by kernel_rfl) (fun _ _ _ h => h) (Or.inl ⟨by rfl, ?hy9⟩) hHeld ?rest9
      case hy9 => first | (intro w hSw; (try dsimp only at hSw); go_simp; done) | (intro w hSw; (try dsimp only at hSw); go_simp; with_reducible rfl)
      try simp only [List.setIfInBounds_toArray, List.set_cons_zero, List.set_cons_succ]
      refine wpAnyH_ready (rs := [9]) (by kernel_rfl) (by simp) ?_
      refine AllReadyH.cons rfl (fun K hK => ?_) AllReadyH.nil
      go_simp
      go_wp2_with (go_at_call 34; refine (rhas_any U (k : Int) _ hU).mono ?_; rintro e wS ⟨rfl, hwS⟩; have hwS := hwS.symm; subst hwS)
      refine hK.out _ _ hHeld (fun hHeld => ?_)
      clear hK K
      refine wpAnyH_ready (rs := [10]) (by kernel_rfl) (by simp) ?_
      refine AllReadyH.cons rfl (fun K hK => ?_) AllReadyH.nil
      go_simp
      go_wp2_with (go_at_call 32; refine (HST.out _ (Kept.drew _ _)).mono ?_; rintro e wS ⟨rfl, hkS⟩)
      have hk1 : Kept wr wS none := Kept.tr (Kept.drew _ _) hkS
      refine hK.out _ _ (kept_to hk1) (fun hHeld => ?_)
      clear hK K
      have hsnS : LkS wS wC.heap.size (.slice a5 k c5) ((List.range k).map (fun i => stepK (S.ey i) S.heal (lk L i) (hasB U (i : Int)))) := Ow8.keptR HOW.out hk1 (fun g e => (nomatch e))
      obtain ⟨a6, c6, w6, hr6, hL6, hk6⟩ := LkS.grow hsnS Y (by rw [hlen]; omega) (by have h1 := hk1.size; have h2 := hkr.size; omega)
      rw [hlen] at hr6 hL6
      have HR6 := Hid.mk' hr6
      have HL6 := Hid.mk' hL6
      have hK6 : Kept wC w6 none := (hkr.tr hk1).newRow hk6 (fun i e => (hne i e).1)
      clear hr6 hL6
      refine wpAnyH_ready (rs := [11]) (by kernel_rfl) (by simp) ?_
      refine AllReadyH.cons rfl (fun K hK => ?_) AllReadyH.nil
      go_simp
      refine hK.out _ _ (kept_to (hk1.tr (Kept.alloc _ _ _ _ _))) (fun hHeld => ?_)
      clear hK K
      refine wpAnyH_ready (rs := [12]) (by kernel_rfl) (by simp) ?_
      refine AllReadyH.cons rfl (fun K hK => ?_) AllReadyH.nil
      rw [if_pos (by rfl)]
      refine wp_app8 _ _ _ (by rfl) (by rfl) (by rfl) HR6.out ?_
      try simp only [Act.put, List.setIfInBounds_toArray, List.set_cons_zero, List.set_cons_succ]
      refine hK.out _ _ (kept_tro hk1 hk6) (fun hHeld => ?_)
      clear hK K
      refine held_take (i := 13) (v := ?v10) rfl rfl (by kernel_rfl) (by kernel_rfl) (by kernel_rfl) (fun _ _ _ h => h) (Or.inl ⟨by rfl, ?hy10⟩) hHeld ?rest10
      case hy10 => first | (intro w hSw; (try dsimp only at hSw); go_simp; done) | (intro w hSw; (try dsimp only at hSw); go_simp; with_reducible rfl)
      try simp only [List.setIfInBounds_toArray, List.set_cons_zero, List.set_cons_succ]
      refine wpAnyH_done (by kernel_rfl) ?_ _
      go_wp2
      go_roundw
      case rel => exact ⟨k + 1, by omega, by go_num, hK6, by rw [HNX.out]; exact HL6.out⟩
      case measure => simp [intOf]; omega
    · obtain rfl : k = n := by omega
      go_wp2
      go_ret2
      exact ⟨_, rfl, by rw [HLL.out]; exact Ow8.base HOW.out (by have := hKC.size; omega), (HK.out.tr hKC).tr hkr⟩
theorem rall_any {X : Sa} {S : St} {w : World} (h : Sat w X S) (hT : Tabb w) {a : Option Addr} {n c : Nat} {L : List Lk} (hA : Lks w a n L) (hc : Cap a n c) (U : Nat) (hU : U < 4294967296) : Calls Tryd.prog 18 #[siteV X S, .slice a n c, .int .u32 (U : Int)] w fun e w' => ∃ v, e = .returned (.tuple #[v, .int .i64 (allE S L)]) ∧ AllP S L U w v w' := by
  by_cases he : allE S L = 0
  · rw [he]
    exact (rall_go h hT hA hc U hU he).mono fun e w' ⟨v, h1, h2, h3⟩ => ⟨v, h1, fun _ => h2, fun q => absurd he q, h3⟩
  · exact (rall_no h hT hA hc U hU _ rfl he).mono fun e w' ⟨h1, h3⟩ => ⟨_, h1, fun q => absurd q he, fun _ => rfl, h3⟩

end Go.Proofs.YtommijjacknkpaaDoor

/-
  THE CONTRACT of the document's Well (made by a program).
-/
namespace Go.Proofs.YtommijjacknkpaaDoor
open Go.RowKit Go.Lib Go.Deep
set_option linter.unusedVariables false
set_option linter.unusedSimpArgs false

/-- Has one of the first j the phase p; one that B tells of? -/
def hasP (P : Nat → Int) (p : Int) : Nat → Bool
  | 0 => false
  | j + 1 => if P j = p then true else hasP P p j
def belP (P : Nat → Int) (B : Nat → Bool) (p : Int) : Nat → Bool
  | 0 => false
  | j + 1 => if P j = p then belP P B p j || B j else belP P B p j
theorem hasP_iff {P : Nat → Int} {p : Int} : ∀ j, hasP P p j = true ↔ ∃ k, k < j ∧ P k = p
  | 0 => ⟨fun h => (nomatch h), fun ⟨k, hk, _⟩ => absurd hk (by omega)⟩
  | j + 1 => by
    show (if P j = p then true else hasP P p j) = true ↔ _
    by_cases h : P j = p
    · rw [if_pos h]
      exact ⟨fun _ => ⟨j, by omega, h⟩, fun _ => rfl⟩
    · rw [if_neg h, hasP_iff j]
      constructor
      · rintro ⟨k, a, b⟩; exact ⟨k, by omega, b⟩
      · rintro ⟨k, a, b⟩
        by_cases e : k = j
        · subst e; exact absurd b h
        · exact ⟨k, by omega, b⟩
theorem belP_iff {P : Nat → Int} {B : Nat → Bool} {p : Int} : ∀ j, belP P B p j = true ↔ ∃ k, k < j ∧ P k = p ∧ B k = true
  | 0 => ⟨fun h => (nomatch h), fun ⟨k, hk, _⟩ => absurd hk (by omega)⟩
  | j + 1 => by
    show (if P j = p then belP P B p j || B j else belP P B p j) = true ↔ _
    by_cases h : P j = p
    · rw [if_pos h, Bool.or_eq_true, belP_iff j]
      constructor
      · rintro (⟨k, a, b⟩ | b)
        · exact ⟨k, by omega, b⟩
        · exact ⟨j, by omega, h, b⟩
      · rintro ⟨k, a, b, c⟩
        by_cases e : k = j
        · subst e; exact .inr c
        · exact .inl ⟨k, by omega, b, c⟩
    · rw [if_neg h, belP_iff j]
      constructor
      · rintro ⟨k, a, b⟩; exact ⟨k, by omega, b⟩
      · rintro ⟨k, a, b, c⟩
        by_cases e : k = j
        · subst e; exact absurd b h
        · exact ⟨k, by omega, b, c⟩
theorem wel_yes {P : Nat → Int} {B : Nat → Bool} {n m : Nat} (hP : ∀ i, i < n → 0 ≤ P i ∧ P i < (m : Int)) (h : ∀ q : Nat, q < m → hasP P (q : Int) n = true → belP P B (q : Int) n = true) : welB P B n = true := by
  rw [welB_iff]
  intro i hi
  obtain ⟨a, b⟩ := hP i hi
  obtain ⟨q, hq⟩ : ∃ q : Nat, P i = (q : Int) := ⟨(P i).toNat, by omega⟩
  obtain ⟨k, hk, e1, e2⟩ := (belP_iff n).1 (h q (by omega) ((hasP_iff n).2 ⟨i, hi, hq⟩))
  exact ⟨k, hk, e1.trans hq.symm, e2⟩
theorem wel_no {P : Nat → Int} {B : Nat → Bool} {n : Nat} {p : Int} (h1 : hasP P p n = true) (h2 : belP P B p n = false) : welB P B n = false := by
  cases h : welB P B n
  · rfl
  · exfalso
    obtain ⟨i, hi, e⟩ := (hasP_iff n).1 h1
    obtain ⟨k, hk, e1, e2⟩ := welB_iff.1 h i hi
    rw [(belP_iff n).2 ⟨k, hk, e1.trans e, e2⟩] at h2
    cases h2
theorem hasP_yes {P : Nat → Int} {p : Int} {j : Nat} (h : P j = p) : hasP P p (j + 1) = true := if_pos h
theorem hasP_no {P : Nat → Int} {p : Int} {j : Nat} (h : ¬ P j = p) : hasP P p (j + 1) = hasP P p j := if_neg h
theorem belP_yes {P : Nat → Int} {B : Nat → Bool} {p : Int} {j : Nat} (h : P j = p) : belP P B p (j + 1) = (belP P B p j || B j) := if_pos h
theorem belP_no {P : Nat → Int} {B : Nat → Bool} {p : Int} {j : Nat} (h : ¬ P j = p) : belP P B p (j + 1) = belP P B p j := if_neg h
set_option maxRecDepth 100000 in
set_option maxHeartbeats 2000000 in
theorem rwell_no {X : Sa} {S : St} {w : World} (h : Sat w X S) (hT : Tabb w) {a : Option Addr} {n c : Nat} {L : List Lk} (hA : Lks w a n L) (hc : Cap a n c) (E : Int) (he : allE S L = E) (h0 : E ≠ 0) : Calls Tryd.prog 19 #[siteV X S, .slice a n c] w fun e w' => e = .returned (.tuple #[.bool false, .int .i64 E]) ∧ Kept w w' none := by
  have HE := Hid.mk' he
  have hEb : (E != 0) = true := by simpa using h0
  clear he
  have hkA : Kept w (w.alloc (.cells #[.int .i64 S.id, .slice X.g S.groups.length X.gc, .slice X.a S.apart.length X.ac, .slice X.b S.between.length X.bc, .slice X.p S.phases.length X.pc, .slice X.e S.eyes.length X.ec, .int .i64 S.watch, .int .i64 S.feed, .int .i64 S.heal, .int .i64 S.low, .int .i64 S.high, .slice X.l S.plans.length X.lc] 29)) none := Kept.alloc _ _ _ _ _
  have hsb := sbox_alloc h 29
  have HS := Hid.mk' (h.kept hkA)
  have HT := Hid.mk' (hT.kept hkA)
  have HA := Hid.mk' (hA.kept hkA)
  have hE9 : S.eyes.length ≤ 9223372036854775807 := by have := h.ek.room; have := h.ek.max; omega
  have hn9 : n ≤ 9223372036854775807 := by have := hc.room; have := hc.max; omega
  have HSZ := Hid.mk' hA.size
  obtain ⟨WA, hWA⟩ : ∃ WA, (w.alloc (.cells #[.int .i64 S.id, .slice X.g S.groups.length X.gc, .slice X.a S.apart.length X.ac, .slice X.b S.between.length X.bc, .slice X.p S.phases.length X.pc, .slice X.e S.eyes.length X.ec, .int .i64 S.watch, .int .i64 S.feed, .int .i64 S.heal, .int .i64 S.low, .int .i64 S.high, .slice X.l S.plans.length X.lc] 29)) = WA := ⟨_, rfl⟩
  rw [hWA] at hkA hsb HS HT HA
  have hlA : w.heap.size < WA.heap.size := hsb.lt
  have HK := Hid.mk' hkA
  have HSB := Hid.mk' hsb
  have hK0 := Kept.refl WA none
  clear h hT hkA hsb hA
  have s0_ : ∀ w', Kept WA w' none → w'.cell? ⟨w.heap.size, 0, none⟩ = some (.int .i64 S.id) := fun w' q => (HSB.out.kept q).c0
  have s1_ : ∀ w', Kept WA w' none → w'.cell? ⟨w.heap.size, 1, none⟩ = some (.slice X.g S.groups.length X.gc) := fun w' q => (HSB.out.kept q).c1
  have s2_ : ∀ w', Kept WA w' none → w'.cell? ⟨w.heap.size, 2, none⟩ = some (.slice X.a S.apart.length X.ac) := fun w' q => (HSB.out.kept q).c2
  have s3_ : ∀ w', Kept WA w' none → w'.cell? ⟨w.heap.size, 3, none⟩ = some (.slice X.b S.between.length X.bc) := fun w' q => (HSB.out.kept q).c3
  have s4_ : ∀ w', Kept WA w' none → w'.cell? ⟨w.heap.size, 4, none⟩ = some (.slice X.p S.phases.length X.pc) := fun w' q => (HSB.out.kept q).c4
  have s5_ : ∀ w', Kept WA w' none → w'.cell? ⟨w.heap.size, 5, none⟩ = some (.slice X.e S.eyes.length X.ec) := fun w' q => (HSB.out.kept q).c5
  have s6_ : ∀ w', Kept WA w' none → w'.cell? ⟨w.heap.size, 6, none⟩ = some (.int .i64 S.watch) := fun w' q => (HSB.out.kept q).c6
  have s7_ : ∀ w', Kept WA w' none → w'.cell? ⟨w.heap.size, 7, none⟩ = some (.int .i64 S.feed) := fun w' q => (HSB.out.kept q).c7
  have s8_ : ∀ w', Kept WA w' none → w'.cell? ⟨w.heap.size, 8, none⟩ = some (.int .i64 S.heal) := fun w' q => (HSB.out.kept q).c8
  have s9_ : ∀ w', Kept WA w' none → w'.cell? ⟨w.heap.size, 9, none⟩ = some (.int .i64 S.low) := fun w' q => (HSB.out.kept q).c9
  have s10_ : ∀ w', Kept WA w' none → w'.cell? ⟨w.heap.size, 10, none⟩ = some (.int .i64 S.high) := fun w' q => (HSB.out.kept q).c10
  have s11_ : ∀ w', Kept WA w' none → w'.cell? ⟨w.heap.size, 11, none⟩ = some (.slice X.l S.plans.length X.lc) := fun w' q => (HSB.out.kept q).c11
  go_enter Tryd.func19, Tryd.ntmps19
  go_wp2_with (first | rw [hWA] | (go_at_call 33; have hx := rask_any (HS.out) (HT.out) HA.out hc; rw [HE.out] at hx; refine hx.mono ?_; rintro e wC ⟨rfl, hkC⟩; have hKC : Kept WA wC none := hkC; clear hx))
  go_ret2
  exact ⟨rfl, HK.out.tr hKC⟩
set_option maxRecDepth 100000 in
set_option maxHeartbeats 4000000 in
theorem rwell_go {X : Sa} {S : St} {w : World} (h : Sat w X S) (hT : Tabb w) {a : Option Addr} {n c : Nat} {L : List Lk} (hA : Lks w a n L) (hc : Cap a n c) (he : allE S L = 0) (V : Bool) (hV : V = welS S L) : Calls Tryd.prog 19 #[siteV X S, .slice a n c] w fun e w' => e = .returned (.tuple #[.bool V, .int .i64 0]) ∧ Kept w w' none := by
  have HE := Hid.mk' he
  obtain ⟨hs, hl, _⟩ := allE_zero he
  have hle1 : n ≤ S.eyes.length := by rw [← hl]; exact Nat.le_of_eq hA.size.symm
  have HVW : Hid (V = welB (fun i => (S.ey i).phase) (fun i => !(lk L i).bad) n) := by show V = _; rw [hV]; unfold welS; rw [hA.size]
  have HPH : Hid (∀ i, i < n → 0 ≤ (S.ey i).phase ∧ (S.ey i).phase < (S.phases.length : Int)) := fun i hi => by have := (eye_facts hs).ey i (by omega); omega
  have hp8 := (eye_facts hs).p
  clear he hs hl hV
  have hkA : Kept w (w.alloc (.cells #[.int .i64 S.id, .slice X.g S.groups.length X.gc, .slice X.a S.apart.length X.ac, .slice X.b S.between.length X.bc, .slice X.p S.phases.length X.pc, .slice X.e S.eyes.length X.ec, .int .i64 S.watch, .int .i64 S.feed, .int .i64 S.heal, .int .i64 S.low, .int .i64 S.high, .slice X.l S.plans.length X.lc] 29)) none := Kept.alloc _ _ _ _ _
  have hsb := sbox_alloc h 29
  have HS := Hid.mk' (h.kept hkA)
  have HT := Hid.mk' (hT.kept hkA)
  have HA := Hid.mk' (hA.kept hkA)
  have hE9 : S.eyes.length ≤ 9223372036854775807 := by have := h.ek.room; have := h.ek.max; omega
  have hn9 : n ≤ 9223372036854775807 := by have := hc.room; have := hc.max; omega
  have HSZ := Hid.mk' hA.size
  obtain ⟨WA, hWA⟩ : ∃ WA, (w.alloc (.cells #[.int .i64 S.id, .slice X.g S.groups.length X.gc, .slice X.a S.apart.length X.ac, .slice X.b S.between.length X.bc, .slice X.p S.phases.length X.pc, .slice X.e S.eyes.length X.ec, .int .i64 S.watch, .int .i64 S.feed, .int .i64 S.heal, .int .i64 S.low, .int .i64 S.high, .slice X.l S.plans.length X.lc] 29)) = WA := ⟨_, rfl⟩
  rw [hWA] at hkA hsb HS HT HA
  have hlA : w.heap.size < WA.heap.size := hsb.lt
  have HK := Hid.mk' hkA
  have HSB := Hid.mk' hsb
  have hK0 := Kept.refl WA none
  clear h hT hkA hsb hA
  have s0_ : ∀ w', Kept WA w' none → w'.cell? ⟨w.heap.size, 0, none⟩ = some (.int .i64 S.id) := fun w' q => (HSB.out.kept q).c0
  have s1_ : ∀ w', Kept WA w' none → w'.cell? ⟨w.heap.size, 1, none⟩ = some (.slice X.g S.groups.length X.gc) := fun w' q => (HSB.out.kept q).c1
  have s2_ : ∀ w', Kept WA w' none → w'.cell? ⟨w.heap.size, 2, none⟩ = some (.slice X.a S.apart.length X.ac) := fun w' q => (HSB.out.kept q).c2
  have s3_ : ∀ w', Kept WA w' none → w'.cell? ⟨w.heap.size, 3, none⟩ = some (.slice X.b S.between.length X.bc) := fun w' q => (HSB.out.kept q).c3
  have s4_ : ∀ w', Kept WA w' none → w'.cell? ⟨w.heap.size, 4, none⟩ = some (.slice X.p S.phases.length X.pc) := fun w' q => (HSB.out.kept q).c4
  have s5_ : ∀ w', Kept WA w' none → w'.cell? ⟨w.heap.size, 5, none⟩ = some (.slice X.e S.eyes.length X.ec) := fun w' q => (HSB.out.kept q).c5
  have s6_ : ∀ w', Kept WA w' none → w'.cell? ⟨w.heap.size, 6, none⟩ = some (.int .i64 S.watch) := fun w' q => (HSB.out.kept q).c6
  have s7_ : ∀ w', Kept WA w' none → w'.cell? ⟨w.heap.size, 7, none⟩ = some (.int .i64 S.feed) := fun w' q => (HSB.out.kept q).c7
  have s8_ : ∀ w', Kept WA w' none → w'.cell? ⟨w.heap.size, 8, none⟩ = some (.int .i64 S.heal) := fun w' q => (HSB.out.kept q).c8
  have s9_ : ∀ w', Kept WA w' none → w'.cell? ⟨w.heap.size, 9, none⟩ = some (.int .i64 S.low) := fun w' q => (HSB.out.kept q).c9
  have s10_ : ∀ w', Kept WA w' none → w'.cell? ⟨w.heap.size, 10, none⟩ = some (.int .i64 S.high) := fun w' q => (HSB.out.kept q).c10
  have s11_ : ∀ w', Kept WA w' none → w'.cell? ⟨w.heap.size, 11, none⟩ = some (.slice X.l S.plans.length X.lc) := fun w' q => (HSB.out.kept q).c11
  go_enter Tryd.func19, Tryd.ntmps19
  go_wp2_with (first | rw [hWA] | (go_at_call 33; have hx := rask_any (HS.out) (HT.out) HA.out hc; rw [HE.out] at hx; refine hx.mono ?_; rintro e wC ⟨rfl, hkC⟩; have hKC : Kept WA wC none := hkC; clear hx))
  go_loopw [7, 8, 9, 10] (fun pv _ _ _ wr => ∃ p : Nat, pv = .int .i64 p ∧ p ≤ S.phases.length ∧ Hid (∀ q : Nat, q < p → hasP (fun i => (S.ey i).phase) (q : Int) n = true → belP (fun i => (S.ey i).phase) (fun i => !(lk L i).bad) (q : Int) n = true) ∧ Kept WA wr none) (fun pv _ _ _ _ => S.phases.length - (intOf pv).toNat)
  case atStart => exact ⟨0, rfl, by omega, fun q hq => absurd hq (by omega), hKC⟩
  case round =>
    obtain ⟨p, rfl, hpm, HQ, hkr⟩ := hrel
    have HKR := Hid.mk' hkr
    by_cases hpl : p < S.phases.length
    · go_wp2
      go_loopw [8, 9, 10] (fun hv bv jv wq => ∃ j : Nat, hv = .bool (hasP (fun i => (S.ey i).phase) (p : Int) j) ∧ bv = .bool (belP (fun i => (S.ey i).phase) (fun i => !(lk L i).bad) (p : Int) j) ∧ jv = .int .i64 j ∧ j ≤ n ∧ Kept WA wq none) (fun _ _ jv _ => n - (intOf jv).toNat)
      case atStart => exact ⟨0, rfl, rfl, rfl, by omega, HKR.out⟩
      case round =>
        obtain ⟨j, rfl, rfl, rfl, hjn, hkq⟩ := hrel
        by_cases hjlt : j < n
        · obtain ⟨b4, o4, e4, hb4, d0, d1, d2, d3, d4⟩ := (HA.out.kept hkq).at_ hjlt
          obtain ⟨eb, eo, ee, heb, y0, y1, y2, y3⟩ := (HS.out.kept hkq).eye (k := j) (by omega)
          have s5 := s5_ _ hkq
          rw [ee] at s5
          have hje : j < S.eyes.length := by omega
          subst e4
          by_cases hp : (S.ey j).phase = (p : Int)
          · have HH : Hid (hasP (fun i => (S.ey i).phase) (p : Int) (j + 1) = true) := hasP_yes hp
            have HB : Hid (belP (fun i => (S.ey i).phase) (fun i => !(lk L i).bad) (p : Int) (j + 1) = (belP (fun i => (S.ey i).phase) (fun i => !(lk L i).bad) (p : Int) j || !(lk L j).bad)) := belP_yes hp
            rw [hp] at y0
            clear d0 d1 d2 d4 y1 y2 y3 s5_ ee hp
            generalize hasP (fun i => (S.ey i).phase) (p : Int) j = hh at *
            generalize belP (fun i => (S.ey i).phase) (fun i => !(lk L i).bad) (p : Int) j = bb at *
            generalize (lk L j).bad = bj at *
            cases bb
            · skip
              go_wp2
              go_roundw
              case rel => exact ⟨j + 1, by rw [HH.out], by rw [HB.out]; simp, by go_num, by omega, hkq⟩
              case measure => simp [intOf]; omega
            · skip
              go_wp2
              go_roundw
              case rel => exact ⟨j + 1, by rw [HH.out], by rw [HB.out]; simp, by go_num, by omega, hkq⟩
              case measure => simp [intOf]; omega
          · have HH : Hid (hasP (fun i => (S.ey i).phase) (p : Int) (j + 1) = hasP (fun i => (S.ey i).phase) (p : Int) j) := hasP_no hp
            have HB : Hid (belP (fun i => (S.ey i).phase) (fun i => !(lk L i).bad) (p : Int) (j + 1) = belP (fun i => (S.ey i).phase) (fun i => !(lk L i).bad) (p : Int) j) := belP_no hp
            have hpb : ((S.ey j).phase == (p : Int)) = false := by simpa using hp
            clear d0 d1 d2 d4 y1 y2 y3 s5_ ee hp
            generalize (S.ey j).phase = Pj at *
            generalize hasP (fun i => (S.ey i).phase) (p : Int) j = hh at *
            generalize belP (fun i => (S.ey i).phase) (fun i => !(lk L i).bad) (p : Int) j = bb at *
            go_wp2
            go_roundw
            case rel => exact ⟨j + 1, by rw [HH.out], by rw [HB.out], by go_num, by omega, hkq⟩
            case measure => simp [intOf]; omega
        · obtain rfl : j = n := by omega
          cases hh : hasP (fun i => (S.ey i).phase) (p : Int) j
          · have HQ2 : Hid (∀ q : Nat, q < p + 1 → hasP (fun i => (S.ey i).phase) (q : Int) j = true → belP (fun i => (S.ey i).phase) (fun i => !(lk L i).bad) (q : Int) j = true) := fun q hq h1 => by
              by_cases eq : q = p
              · subst eq; rw [hh] at h1; cases h1
              · exact HQ.out q (by omega) h1
            generalize belP (fun i => (S.ey i).phase) (fun i => !(lk L i).bad) (p : Int) j = bb at *
            clear hh
            go_wp2
            go_roundw
            case rel => exact ⟨p + 1, by go_num, by omega, HQ2, hkq⟩
            case measure => simp [intOf]; omega
          · cases hb : belP (fun i => (S.ey i).phase) (fun i => !(lk L i).bad) (p : Int) j
            · have HV0 : Hid (V = false) := by show V = false; rw [HVW.out]; exact wel_no hh hb
              clear hh hb
              go_wp2
              go_ret2
              exact ⟨by rw [HV0.out]; rfl, HK.out.tr hkq⟩
            · have HQ2 : Hid (∀ q : Nat, q < p + 1 → hasP (fun i => (S.ey i).phase) (q : Int) j = true → belP (fun i => (S.ey i).phase) (fun i => !(lk L i).bad) (q : Int) j = true) := fun q hq h1 => by
                by_cases eq : q = p
                · subst eq; exact hb
                · exact HQ.out q (by omega) h1
              clear hh hb
              go_wp2
              go_roundw
              case rel => exact ⟨p + 1, by go_num, by omega, HQ2, hkq⟩
              case measure => simp [intOf]; omega
    · have HV1 : Hid (V = true) := by
        show V = true
        rw [HVW.out]
        exact wel_yes HPH.out (fun q hq => HQ.out q (by omega))
      go_wp2
      go_ret2
      exact ⟨by rw [HV1.out]; rfl, HK.out.tr hkr⟩
theorem rwell_any {X : Sa} {S : St} {w : World} (h : Sat w X S) (hT : Tabb w) {a : Option Addr} {n c : Nat} {L : List Lk} (hA : Lks w a n L) (hc : Cap a n c) : Calls Tryd.prog 19 #[siteV X S, .slice a n c] w fun e w' => e = .returned (.tuple #[.bool (decide (allE S L = 0) && welS S L), .int .i64 (allE S L)]) ∧ Kept w w' none := by
  by_cases he : allE S L = 0
  · rw [he, decide_eq_true rfl, Bool.true_and]
    exact rwell_go h hT hA hc he _ rfl
  · rw [decide_eq_false he, Bool.false_and]
    exact rwell_no h hT hA hc _ rfl he

end Go.Proofs.YtommijjacknkpaaDoor

