/-
  THE CONTRACT of eye.All (made by a program).
-/
import Derived.Test.YtommijjacknkpaaDoorEyeL
namespace Go.Proofs.YtommijjacknkpaaDoor
open Go.RowKit Go.Lib Go.Deep
set_option linter.unusedVariables false
set_option linter.unusedSimpArgs false

theorem Tryd.infoLooked : (Tryd.prog.info? 33).map (fun i => (i.zero, i.size, i.bytes)) = some (some (.agg #[.bool false, .int .i64 0, .int .u64 0, .bool false, .int .i64 0]), 5, 40) := by kernel_rfl
/-- Detectors in a list of one's own. -/
abbrev LkS (w : World) (base : Nat) (v : Value) (l : List Lk) : Prop := Ow8 33 5 lkF Lk.zero w base v l
theorem LkS.grow {w : World} {base : Nat} {v : Value} {l : List Lk} (h : LkS w base v l) (x : Lk) (hn : l.length ≤ 900) (hb : base ≤ w.heap.size) :
    ∃ a' c' w', (Builtin.append_ #[40, 40] 40 #[v, .slice (some ⟨w.heap.size, 0, none⟩) 1 1]).run Tryd.prog (w.alloc (.cells (lkC x) 33)) = .ok (.slice a' (l.length + 1) c') w' ∧ LkS w' base (.slice a' (l.length + 1) c') (l ++ [x]) ∧ Kept w w' v.ownBlock := by
  obtain ⟨i, hi, hz, hs, hby⟩ := info_parts Tryd.infoLooked
  exact Ow8.grow h x (cs := lkC x) (lkF_cs x) Tryd.underlying40 hi hz hs hby rfl (by omega) (by omega) (lkF_one x) hn hb
theorem Ow8.base {α : Type} {e : TypeId} {K : Nat} {f : α → Nat → Value} {d : α} {w : World} {base b : Nat} {v : Value} {l : List α} (h : Ow8 e K f d w base v l) (hb : b ≤ base) : Ow8 e K f d w b v l := by
  refine ⟨h.1, ?_⟩
  rcases id h.2 with ⟨rfl, h0⟩ | ⟨g, cap, cur, rfl, hg, hh⟩
  · exact .inl ⟨rfl, h0⟩
  · exact .inr ⟨g, cap, cur, rfl, by omega, hh⟩
theorem lks_own {w : World} {base : Nat} {v : Value} {l : List Lk} (h : LkS w base v l) (ht : ∀ i, i < l.length → Typ (lk l i)) : ∃ a c, v = .slice a l.length c ∧ Lks w a l.length l ∧ Cap a l.length c ∧ ∀ b, a = some b → base ≤ b.block ∧ b.block < w.heap.size := by
  obtain ⟨a, c, e, h1, h2, h3⟩ := Ow8.lie h (by omega)
  exact ⟨a, c, e, ⟨rfl, h1, ht⟩, h2, h3⟩
theorem kept_tro {a b c : World} {r : Option Nat} (h : Kept a b none) (k : Kept b c r) : Kept a c r :=
  ⟨k.os.trans h.os, k.tape.trans h.tape, k.output.trans h.output, Nat.le_trans h.size k.size, fun i hi hr => (k.block i (Nat.lt_of_lt_of_le hi h.size) hr).trans (h.block i hi (by simp))⟩
/-- What All leaves behind. -/
structure AllP (S : St) (L : List Lk) (U : Nat) (w : World) (v : Value) (w' : World) : Prop where
  yes : allE S L = 0 → LkS w' w.heap.size v (allL S L U)
  no : allE S L ≠ 0 → v = .slice none 0 0
  kept : Kept w w' none
set_option maxRecDepth 100000 in
set_option maxHeartbeats 2000000 in
theorem eall_no {X : Sa} {S : St} {w : World} (h : Sat w X S) (hT : Tabb w) {a : Option Addr} {n c : Nat} {L : List Lk} (hA : Lks w a n L) (hc : Cap a n c) (U : Nat) (hU : U < 4294967296) (E : Int) (he : allE S L = E) (h0 : E ≠ 0) : Calls Tryd.prog 11 #[siteV X S, .slice a n c, .int .u32 (U : Int)] w fun e w' => e = .returned (.tuple #[.slice none 0 0, .int .i64 E]) ∧ Kept w w' none := by
  have HE := Hid.mk' he
  have hEb : (E != 0) = true := by simpa using h0
  clear he
  have hkA : Kept w (w.alloc (.cells #[.int .i64 S.id, .slice X.g S.groups.length X.gc, .slice X.a S.apart.length X.ac, .slice X.b S.between.length X.bc, .slice X.p S.phases.length X.pc, .slice X.e S.eyes.length X.ec, .int .i64 S.watch, .int .i64 S.feed, .int .i64 S.heal, .int .i64 S.low, .int .i64 S.high, .slice X.l S.plans.length X.lc] 29)) none := Kept.alloc _ _ _ _ _
  have hsb := sbox_alloc h 29
  have HS := Hid.mk' (h.kept hkA)
  have HT := Hid.mk' (hT.kept hkA)
  have HA := Hid.mk' (hA.kept hkA)
  have hE9 : S.eyes.length ≤ 9223372036854775807 := by have := h.ek.room; have := h.ek.max; omega
  have hn9 : n ≤ 9223372036854775807 := by have := hc.room; have := hc.max; omega
  have HSZ := Hid.mk' hA.size
  obtain ⟨WA, hWA⟩ : ∃ WA, (w.alloc (.cells #[.int .i64 S.id, .slice X.g S.groups.length X.gc, .slice X.a S.apart.length X.ac, .slice X.b S.between.length X.bc, .slice X.p S.phases.length X.pc, .slice X.e S.eyes.length X.ec, .int .i64 S.watch, .int .i64 S.feed, .int .i64 S.heal, .int .i64 S.low, .int .i64 S.high, .slice X.l S.plans.length X.lc] 29)) = WA := ⟨_, rfl⟩
  rw [hWA] at hkA hsb HS HT HA
  have hlA : w.heap.size < WA.heap.size := hsb.lt
  have HK := Hid.mk' hkA
  have HSB := Hid.mk' hsb
  have hK0 := Kept.refl WA none
  clear h hT hkA hsb hA
  have s0_ : ∀ w', Kept WA w' none → w'.cell? ⟨w.heap.size, 0, none⟩ = some (.int .i64 S.id) := fun w' q => (HSB.out.kept q).c0
  have s1_ : ∀ w', Kept WA w' none → w'.cell? ⟨w.heap.size, 1, none⟩ = some (.slice X.g S.groups.length X.gc) := fun w' q => (HSB.out.kept q).c1
  have s2_ : ∀ w', Kept WA w' none → w'.cell? ⟨w.heap.size, 2, none⟩ = some (.slice X.a S.apart.length X.ac) := fun w' q => (HSB.out.kept q).c2
  have s3_ : ∀ w', Kept WA w' none → w'.cell? ⟨w.heap.size, 3, none⟩ = some (.slice X.b S.between.length X.bc) := fun w' q => (HSB.out.kept q).c3
  have s4_ : ∀ w', Kept WA w' none → w'.cell? ⟨w.heap.size, 4, none⟩ = some (.slice X.p S.phases.length X.pc) := fun w' q => (HSB.out.kept q).c4
  have s5_ : ∀ w', Kept WA w' none → w'.cell? ⟨w.heap.size, 5, none⟩ = some (.slice X.e S.eyes.length X.ec) := fun w' q => (HSB.out.kept q).c5
  have s6_ : ∀ w', Kept WA w' none → w'.cell? ⟨w.heap.size, 6, none⟩ = some (.int .i64 S.watch) := fun w' q => (HSB.out.kept q).c6
  have s7_ : ∀ w', Kept WA w' none → w'.cell? ⟨w.heap.size, 7, none⟩ = some (.int .i64 S.feed) := fun w' q => (HSB.out.kept q).c7
  have s8_ : ∀ w', Kept WA w' none → w'.cell? ⟨w.heap.size, 8, none⟩ = some (.int .i64 S.heal) := fun w' q => (HSB.out.kept q).c8
  have s9_ : ∀ w', Kept WA w' none → w'.cell? ⟨w.heap.size, 9, none⟩ = some (.int .i64 S.low) := fun w' q => (HSB.out.kept q).c9
  have s10_ : ∀ w', Kept WA w' none → w'.cell? ⟨w.heap.size, 10, none⟩ = some (.int .i64 S.high) := fun w' q => (HSB.out.kept q).c10
  have s11_ : ∀ w', Kept WA w' none → w'.cell? ⟨w.heap.size, 11, none⟩ = some (.slice X.l S.plans.length X.lc) := fun w' q => (HSB.out.kept q).c11
  go_enter Tryd.func11, Tryd.ntmps11
  go_wp2_with (first | rw [hWA] | (go_at_call 27; have hx := echk_any (HS.out) (HT.out) HA.out hc; rw [HE.out] at hx; refine hx.mono ?_; rintro e wC ⟨rfl, hkC⟩; have hKC : Kept WA wC none := hkC; clear hx))
  go_ret2
  exact ⟨rfl, HK.out.tr hKC⟩
set_option maxRecDepth 100000 in
set_option maxHeartbeats 2000000 in
theorem eall_go {X : Sa} {S : St} {w : World} (h : Sat w X S) (hT : Tabb w) {a : Option Addr} {n c : Nat} {L : List Lk} (hA : Lks w a n L) (hc : Cap a n c) (U : Nat) (hU : U < 4294967296) (he : allE S L = 0) : Calls Tryd.prog 11 #[siteV X S, .slice a n c, .int .u32 (U : Int)] w fun e w' => ∃ v, e = .returned (.tuple #[v, .int .i64 0]) ∧ LkS w' w.heap.size v (allL S L U) ∧ Kept w w' none := by
  have HE := Hid.mk' he
  obtain ⟨hs, hl, hm⟩ := allE_zero he
  have hle1 : n ≤ S.eyes.length := by rw [← hl]; exact Nat.le_of_eq hA.size.symm
  have hn24 : n ≤ 24 := Nat.le_trans hle1 (eye_facts hs).n
  have HMY : Hid (∀ k, k < n → mayK (lk L k) = true) := fun k hk => allB_iff.1 hm k (by rw [hA.size]; exact hk)
  have HTY := Hid.mk' hA.typ
  have HLL : Hid (allL S L U = (List.range n).map (fun i => stepK (S.ey i) S.heal (lk L i) (hasB U (i : Int)))) := by show _ = _; unfold allL; rw [hA.size]
  obtain ⟨i0, hi0, hz0, hz1, hz2⟩ := info_parts Tryd.infoLooked
  clear he hs hl hm
  have hkA : Kept w (w.alloc (.cells #[.int .i64 S.id, .slice X.g S.groups.length X.gc, .slice X.a S.apart.length X.ac, .slice X.b S.between.length X.bc, .slice X.p S.phases.length X.pc, .slice X.e S.eyes.length X.ec, .int .i64 S.watch, .int .i64 S.feed, .int .i64 S.heal, .int .i64 S.low, .int .i64 S.high, .slice X.l S.plans.length X.lc] 29)) none := Kept.alloc _ _ _ _ _
  have hsb := sbox_alloc h 29
  have HS := Hid.mk' (h.kept hkA)
  have HT := Hid.mk' (hT.kept hkA)
  have HA := Hid.mk' (hA.kept hkA)
  have hE9 : S.eyes.length ≤ 9223372036854775807 := by have := h.ek.room; have := h.ek.max; omega
  have hn9 : n ≤ 9223372036854775807 := by have := hc.room; have := hc.max; omega
  have HSZ := Hid.mk' hA.size
  obtain ⟨WA, hWA⟩ : ∃ WA, (w.alloc (.cells #[.int .i64 S.id, .slice X.g S.groups.length X.gc, .slice X.a S.apart.length X.ac, .slice X.b S.between.length X.bc, .slice X.p S.phases.length X.pc, .slice X.e S.eyes.length X.ec, .int .i64 S.watch, .int .i64 S.feed, .int .i64 S.heal, .int .i64 S.low, .int .i64 S.high, .slice X.l S.plans.length X.lc] 29)) = WA := ⟨_, rfl⟩
  rw [hWA] at hkA hsb HS HT HA
  have hlA : w.heap.size < WA.heap.size := hsb.lt
  have HK := Hid.mk' hkA
  have HSB := Hid.mk' hsb
  have hK0 := Kept.refl WA none
  clear h hT hkA hsb hA
  have s0_ : ∀ w', Kept WA w' none → w'.cell? ⟨w.heap.size, 0, none⟩ = some (.int .i64 S.id) := fun w' q => (HSB.out.kept q).c0
  have s1_ : ∀ w', Kept WA w' none → w'.cell? ⟨w.heap.size, 1, none⟩ = some (.slice X.g S.groups.length X.gc) := fun w' q => (HSB.out.kept q).c1
  have s2_ : ∀ w', Kept WA w' none → w'.cell? ⟨w.heap.size, 2, none⟩ = some (.slice X.a S.apart.length X.ac) := fun w' q => (HSB.out.kept q).c2
  have s3_ : ∀ w', Kept WA w' none → w'.cell? ⟨w.heap.size, 3, none⟩ = some (.slice X.b S.between.length X.bc) := fun w' q => (HSB.out.kept q).c3
  have s4_ : ∀ w', Kept WA w' none → w'.cell? ⟨w.heap.size, 4, none⟩ = some (.slice X.p S.phases.length X.pc) := fun w' q => (HSB.out.kept q).c4
  have s5_ : ∀ w', Kept WA w' none → w'.cell? ⟨w.heap.size, 5, none⟩ = some (.slice X.e S.eyes.length X.ec) := fun w' q => (HSB.out.kept q).c5
  have s6_ : ∀ w', Kept WA w' none → w'.cell? ⟨w.heap.size, 6, none⟩ = some (.int .i64 S.watch) := fun w' q => (HSB.out.kept q).c6
  have s7_ : ∀ w', Kept WA w' none → w'.cell? ⟨w.heap.size, 7, none⟩ = some (.int .i64 S.feed) := fun w' q => (HSB.out.kept q).c7
  have s8_ : ∀ w', Kept WA w' none → w'.cell? ⟨w.heap.size, 8, none⟩ = some (.int .i64 S.heal) := fun w' q => (HSB.out.kept q).c8
  have s9_ : ∀ w', Kept WA w' none → w'.cell? ⟨w.heap.size, 9, none⟩ = some (.int .i64 S.low) := fun w' q => (HSB.out.kept q).c9
  have s10_ : ∀ w', Kept WA w' none → w'.cell? ⟨w.heap.size, 10, none⟩ = some (.int .i64 S.high) := fun w' q => (HSB.out.kept q).c10
  have s11_ : ∀ w', Kept WA w' none → w'.cell? ⟨w.heap.size, 11, none⟩ = some (.slice X.l S.plans.length X.lc) := fun w' q => (HSB.out.kept q).c11
  go_enter Tryd.func11, Tryd.ntmps11
  go_wp2_with (first | rw [hWA] | (go_at_call 27; have hx := echk_any (HS.out) (HT.out) HA.out hc; rw [HE.out] at hx; refine hx.mono ?_; rintro e wC ⟨rfl, hkC⟩; have hKC : Kept WA wC none := hkC; clear hx; obtain ⟨w2, hmk, hown, hgw⟩ := run_make_own (P := Tryd.prog) wC wC.heap.size 40 33 i0 _ 5 Tryd.underlying40 hi0 hz0 hz1 .i64 .i64 n (by rw [hz2]; omega) (by unfold maxLen; omega) (Nat.le_refl _)))
  have hS0 : LkS w2 wC.heap.size (.slice (some ⟨wC.heap.size, 0, none⟩) 0 n) ((List.range 0).map (fun i => stepK (S.ey i) S.heal (lk L i) (hasB U (i : Int)))) := hown
  have HS0 := Hid.mk' hS0
  have HGW := Hid.mk' hgw
  clear hS0 hown hgw hmk hi0 hz0 hz1 hz2
  go_loopw [9, 10, 11, 23] (fun nv _ _ iv wr => ∃ (k : Nat), k ≤ n ∧ iv = .int .i64 k ∧ Kept wC wr none ∧ LkS wr wC.heap.size nv ((List.range k).map (fun i => stepK (S.ey i) S.heal (lk L i) (hasB U (i : Int))))) (fun _ _ _ iv _ => n - (intOf iv).toNat)
  case atStart => exact ⟨0, by omega, rfl, HGW.out, HS0.out⟩
  case round =>
    clear HS0 HGW
    obtain ⟨k, hk, rfl, hkr, hown⟩ := hrel
    obtain ⟨a5, c5, hv5, _, hcap5, _⟩ := Ow8.lie hown (by omega)
    have hlen : ((List.range k).map (fun i => stepK (S.ey i) S.heal (lk L i) (hasB U (i : Int)))).length = k := by simp
    rw [hlen] at hv5 hcap5
    subst hv5
    have HOW := Hid.mk' hown
    have hc5 := hcap5.max
    have hc6 := hcap5.room
    clear hown hcap5
    by_cases hlt : k < n
    · have hKA : Kept WA wr none := hKC.tr hkr
      obtain ⟨b, off, ea, hb, c0, c1, c2, c3, c4⟩ := (HA.out.kept hKA).at_ hlt
      subst ea
      obtain ⟨eb, eo, ee, heb, y0, y1, y2, y3⟩ := (HS.out).eye (k := k) (by omega)
      have HEE := Hid.mk' ee
      clear ee
      have hke : k < S.eyes.length := by omega
      have hxm := HMY.out k hlt
      have hxt := HTY.out k hlt
      have HLA := Hid.mk' (fun w' => later_any (S.ey k) S.heal (lk L k) (hasB U (k : Int)) w' hxm hxt.t0 hxt.t1)
      have HNX : Hid ((List.range (k + 1)).map (fun i => stepK (S.ey i) S.heal (lk L i) (hasB U (i : Int))) = (List.range k).map (fun i => stepK (S.ey i) S.heal (lk L i) (hasB U (i : Int))) ++ [stepK (S.ey k) S.heal (lk L k) (hasB U (k : Int))]) := by show _ = _; rw [List.range_succ, List.map_append]; rfl
      clear hxm hxt
      generalize stepK (S.ey k) S.heal (lk L k) (hasB U (k : Int)) = Y at *
      generalize hx : lk L k = x at *
      generalize S.ey k = EE at *
      clear hx
      obtain ⟨e0', e1', e2', e3'⟩ := EE
      dsimp only at y0 y1 y2 y3
      have hsz5 := Ow8.lt HOW.out
      go_wp2
      have hbx : Kbox (wr.alloc (.cells #[.bool x.up, .int .i64 x.same, .int .u64 x.turns, .bool x.bad, .int .i64 x.well] 33)) wr.heap.size x := b5_alloc wr _ _ _ _ _ 33
      have hkx : Kept wr (wr.alloc (.cells #[.bool x.up, .int .i64 x.same, .int .u64 x.turns, .bool x.bad, .int .i64 x.well] 33)) none := Kept.alloc _ _ _ _ _
      obtain ⟨Wx, hWx⟩ : ∃ Wx, (wr.alloc (.cells #[.bool x.up, .int .i64 x.same, .int .u64 x.turns, .bool x.bad, .int .i64 x.well] 33)) = Wx := ⟨_, rfl⟩
      rw [hWx] at hbx hkx ⊢
      clear hWx
      have HBX := Hid.mk' hbx
      have HKX := Hid.mk' hkx
      have hwx := hbx.lt
      have hwc := HKX.out.size
      have hne : ∀ i, (Value.slice a5 k c5).ownBlock = some i → wC.heap.size ≤ i ∧ i < wr.heap.size := hsz5
      have hKW : Kept WA Wx none := hKA.tr hkx
      have HOX : Hid (LkS Wx wC.heap.size (.slice a5 k c5) ((List.range k).map (fun i => stepK (S.ey i) S.heal (lk L i) (hasB U (i : Int))))) := Ow8.keptR HOW.out hkx (fun g e => (nomatch e))
      have hlc := hKC.size
      have NE : ∀ B, (B < wC.heap.size ∨ wr.heap.size ≤ B) → some B ≠ (Value.slice a5 k c5).ownBlock := fun B hB e => by have := hne B e.symm; omega
      have z0_ : ∀ w', Kept Wx w' (Value.slice a5 k c5).ownBlock → w'.cell? ⟨wr.heap.size, 0, none⟩ = some (.bool x.up) := fun w' q => cell_kr HBX.out.c0 q (NE _ (.inr (Nat.le_refl _)))
      have z1_ : ∀ w', Kept Wx w' (Value.slice a5 k c5).ownBlock → w'.cell? ⟨wr.heap.size, 1, none⟩ = some (.int .i64 x.same) := fun w' q => cell_kr HBX.out.c1 q (NE _ (.inr (Nat.le_refl _)))
      have z2_ : ∀ w', Kept Wx w' (Value.slice a5 k c5).ownBlock → w'.cell? ⟨wr.heap.size, 2, none⟩ = some (.int .u64 x.turns) := fun w' q => cell_kr HBX.out.c2 q (NE _ (.inr (Nat.le_refl _)))
      have z3_ : ∀ w', Kept Wx w' (Value.slice a5 k c5).ownBlock → w'.cell? ⟨wr.heap.size, 3, none⟩ = some (.bool x.bad) := fun w' q => cell_kr HBX.out.c3 q (NE _ (.inr (Nat.le_refl _)))
      have z4_ : ∀ w', Kept Wx w' (Value.slice a5 k c5).ownBlock → w'.cell? ⟨wr.heap.size, 4, none⟩ = some (.int .i64 x.well) := fun w' q => cell_kr HBX.out.c4 q (NE _ (.inr (Nat.le_refl _)))
      have t5_ : ∀ w', Kept Wx w' (Value.slice a5 k c5).ownBlock → w'.cell? ⟨w.heap.size, 5, none⟩ = some (.slice (some ⟨eb, eo, none⟩) S.eyes.length X.ec) := fun w' q => cell_kr (by rw [← HEE.out]; exact (HSB.out.kept hKW).c5) q (NE _ (.inl (by omega)))
      have t8_ : ∀ w', Kept Wx w' (Value.slice a5 k c5).ownBlock → w'.cell? ⟨w.heap.size, 8, none⟩ = some (.int .i64 S.heal) := fun w' q => cell_kr ((HSB.out.kept hKW).c8) q (NE _ (.inl (by omega)))
      have w0_ : ∀ w', Kept Wx w' (Value.slice a5 k c5).ownBlock → w'.cell? ⟨eb, eo + k * 4, none⟩ = some (.int .i64 e0') := fun w' q => cell_kr (cell_kr y0 hKW (by simp)) q (NE _ (.inl (by omega)))
      have w1_ : ∀ w', Kept Wx w' (Value.slice a5 k c5).ownBlock → w'.cell? ⟨eb, eo + k * 4 + 1, none⟩ = some (.int .i64 e1') := fun w' q => cell_kr (cell_kr y1 hKW (by simp)) q (NE _ (.inl (by omega)))
      have w2_ : ∀ w', Kept Wx w' (Value.slice a5 k c5).ownBlock → w'.cell? ⟨eb, eo + k * 4 + 2, none⟩ = some (.int .i64 e2') := fun w' q => cell_kr (cell_kr y2 hKW (by simp)) q (NE _ (.inl (by omega)))
      have w3_ : ∀ w', Kept Wx w' (Value.slice a5 k c5).ownBlock → w'.cell? ⟨eb, eo + k * 4 + 3, none⟩ = some (.int .i64 e3') := fun w' q => cell_kr (cell_kr y3 hKW (by simp)) q (NE _ (.inl (by omega)))
      clear c0 c1 c2 c3 c4 y0 y1 y2 y3 hbx hkx
      refine wp_region_held_drew (S := fun w' => Kept Wx w' (Value.slice a5 k c5).ownBlock) (by kernel_rfl) (kept_to (Kept.drew _ _)) (fun hHeld => ?_)
      refine held_take (i := 0) (v := ?v1) rfl rfl (by kernel_rfl) (by kernel_rfl) (by kernel_rfl) (fun _ _ _ h => h) (Or.inl ⟨by rfl, ?hy1⟩) hHeld ?rest1
      case hy1 => first | (intro w hSw; (try dsimp only at hSw); go_simp; done) | (intro w hSw; (try dsimp only at hSw); go_simp; with_reducible rfl)
      try simp only [List.setIfInBounds_toArray, List.set_cons_zero, List.set_cons_succ]
      refine held_take (i := 1) (v := ?v2) rfl rfl (by kernel_rfl) (by kernel_rfl) (by kernel_rfl) (fun _ _ _ h => h) (Or.inl ⟨by rfl, ?hy2⟩) hHeld ?rest2
      case hy2 => first | (intro w hSw; (try dsimp only at hSw); go_simp; done) | (intro w hSw; (try dsimp only at hSw); go_simp; with_reducible rfl)
      try simp only [List.setIfInBounds_toArray, List.set_cons_zero, List.set_cons_succ]
      refine held_take (i := 2) (v := ?v3) rfl rfl (by kernel_rfl) (by kernel_rfl) (by kernel_rfl) (fun _ _ _ h => h) (Or.inl ⟨by rfl, ?hy3⟩) hHeld ?rest3
      case hy3 => first | (intro w hSw; (try dsimp only at hSw); go_simp; done) | (intro w hSw; (try dsimp only at hSw); go_simp; with_reducible rfl)
      try simp only [List.setIfInBounds_toArray, List.set_cons_zero, List.set_cons_succ]
      refine held_take (i := 3) (v := ?v4) rfl rfl (by kernel_rfl) (by kernel_rfl) (by kernel_rfl) (fun _ _ _ h => h) (Or.inl ⟨by rfl, ?hy4⟩) hHeld ?rest4
      case hy4 => first | (intro w hSw; (try dsimp only at hSw); go_simp; done) | (intro w hSw; (try dsimp only at hSw); go_simp; with_reducible rfl)
      try simp only [List.setIfInBounds_toArray, List.set_cons_zero, List.set_cons_succ]
      refine held_take (i := 4) (v := ?v5) rfl rfl (by kernel_rfl) (by kernel_rfl) (by kernel_rfl) (fun _ _ _ h => h) (Or.inl ⟨by rfl, ?hy5⟩) hHeld ?rest5
      case hy5 => first | (intro w hSw; (try dsimp only at hSw); go_simp; done) | (intro w hSw; (try dsimp only at hSw); go_simp; with_reducible rfl)
      try simp only [List.setIfInBounds_toArray, List.set_cons_zero, List.set_cons_succ]
      refine held_take (i := 5) (v := ?v6) rfl rfl (by kernel_rfl) (by kernel_rfl) (by kernel_rfl) (fun _ _ _ h => h) (Or.inl ⟨by rfl, ?hy6⟩) hHeld ?rest6
      case hy6 => first | (intro w hSw; (try dsimp only at hSw); go_simp; done) | (intro w hSw; (try dsimp only at hSw); go_simp; with_reducible rfl)
      try simp only [List.setIfInBounds_toArray, List.set_cons_zero, List.set_cons_succ]
      refine held_take (i := 6) (v := ?v7) rfl rfl (by kernel_rfl) (by kernel_rfl) (by kernel_rfl) (fun _ _ _ h => h) (Or.inl ⟨by rfl, ?hy7⟩) hHeld ?rest7
      case hy7 => first | (intro w hSw; (try dsimp only at hSw); go_simp; done) | (intro w hSw; (try dsimp only at hSw); go_simp; with_reducible rfl)
      try simp only [List.setIfInBounds_toArray, List.set_cons_zero, List.set_cons_succ]
      refine held_take (i := 7) (v := ?v8) rfl rfl (by kernel_rfl) (by kernel_rfl) (by kernel_rfl) (fun _ _ _ h => h) (Or.inl ⟨by rfl, ?hy8⟩) hHeld ?rest8
      case hy8 => first | (intro w hSw; (try dsimp only at hSw); go_simp; done) | (intro w hSw; (try dsimp only at hSw); go_simp; with_reducible rfl)
      try simp only [List.setIfInBounds_toArray, List.set_cons_zero, List.set_cons_succ]
      refine held_take (i := 8) (v := ?v9) rfl rfl (by kernel_rfl) (by kernel_rfl) (by kernel_rfl) (fun _ _ _ h => h) (Or.inl ⟨by rfl, ?hy9⟩) hHeld ?rest9
      case hy9 => first | (intro w hSw; (try dsimp only at hSw); go_simp; done) | (intro w hSw; (try dsimp only at hSw); go_simp; with_reducible rfl)
      try simp only [List.setIfInBounds_toArray, List.set_cons_zero, List.set_cons_succ]
      refine held_take (i := 9) (v := ?v10) rfl rfl (by kernel_rfl) (by kernel_rfl) (by kernel_rfl) (fun _ _ _ h => h) (Or.inl ⟨by rfl, ?hy10⟩) hHeld ?rest10
      case hy10 => first | (intro w hSw; (try dsimp only at hSw); go_simp; done) | (intro w hSw; (try dsimp only at hSw); go_simp; with_reducible rfl)
      try simp only [List.setIfInBounds_toArray, List.set_cons_zero, List.set_cons_succ]
      refine held_take (i := 10) (v := ?v11) rfl rfl (by kernel_rfl) (by kernel_rfl) (by kernel_rfl) (fun _ _ _ h => h) (Or.inl ⟨by rfl, ?hy11⟩) hHeld ?rest11
      case hy11 => first | (intro w hSw; (try dsimp only at hSw); go_simp; done) | (intro w hSw; (try dsimp only at hSw); go_simp; with_reducible rfl)
      try simp only [List.setIfInBounds_toArray, List.set_cons_zero, List.set_cons_succ]
      refine wpAnyH_ready (rs := [11]) (by kernel_rfl) (by simp) ?_
      refine AllReadyH.cons rfl (fun K hK => ?_) AllReadyH.nil
      go_simp
      go_wp2_with (go_at_call 28; refine (has_any U (k : Int) _ hU).mono ?_; rintro e wS ⟨rfl, hwS⟩; have hwS := hwS.symm; subst hwS)
      refine hK.out _ _ hHeld (fun hHeld => ?_)
      clear hK K
      refine wpAnyH_ready (rs := [12]) (by kernel_rfl) (by simp) ?_
      refine AllReadyH.cons rfl (fun K hK => ?_) AllReadyH.nil
      go_simp
      go_wp2_with (go_at_call 26; refine (HLA.out _).mono ?_; rintro e wS ⟨rfl, hkS⟩)
      have hk1 : Kept Wx wS none := Kept.tr (Kept.drew _ _) hkS
      refine hK.out _ _ (kept_to hk1) (fun hHeld => ?_)
      clear hK K
      have hsnS : LkS wS wC.heap.size (.slice a5 k c5) ((List.range k).map (fun i => stepK (S.ey i) S.heal (lk L i) (hasB U (i : Int)))) := Ow8.keptR HOX.out hk1 (fun g e => (nomatch e))
      obtain ⟨a6, c6, w6, hr6, hL6, hk6⟩ := LkS.grow hsnS Y (by rw [hlen]; omega) (by have h1 := hk1.size; have h2 := hkr.size; omega)
      rw [hlen] at hr6 hL6
      have HR6 := Hid.mk' hr6
      have HL6 := Hid.mk' hL6
      have hK6 : Kept wC w6 none := ((hkr.tr HKX.out).tr hk1).newRow hk6 (fun i e => (hne i e).1)
      clear hr6 hL6
      refine wpAnyH_ready (rs := [13]) (by kernel_rfl) (by simp) ?_
      refine AllReadyH.cons rfl (fun K hK => ?_) AllReadyH.nil
      go_simp
      refine hK.out _ _ (kept_to (hk1.tr (Kept.alloc _ _ _ _ _))) (fun hHeld => ?_)
      clear hK K
      refine wpAnyH_ready (rs := [14]) (by kernel_rfl) (by simp) ?_
      refine AllReadyH.cons rfl (fun K hK => ?_) AllReadyH.nil
      rw [if_pos (by rfl)]
      refine wp_app8 _ _ _ (by rfl) (by rfl) (by rfl) HR6.out ?_
      try simp only [Act.put, List.setIfInBounds_toArray, List.set_cons_zero, List.set_cons_succ]
      refine hK.out _ _ (kept_tro hk1 hk6) (fun hHeld => ?_)
      clear hK K
      refine held_take (i := 15) (v := ?v12) rfl rfl (by kernel_rfl) (by kernel_rfl) (by kernel_rfl) (fun _ _ _ h => h) (Or.inl ⟨by rfl, ?hy12⟩) hHeld ?rest12
      case hy12 => first | (intro w hSw; (try dsimp only at hSw); go_simp; done) | (intro w hSw; (try dsimp only at hSw); go_simp; with_reducible rfl)
      try simp only [List.setIfInBounds_toArray, List.set_cons_zero, List.set_cons_succ]
      refine wpAnyH_done (by kernel_rfl) ?_ _
      go_wp2
      go_roundw
      case rel => exact ⟨k + 1, by omega, by go_num, hK6, by rw [HNX.out]; exact HL6.out⟩
      case measure => simp [intOf]; omega
    · obtain rfl : k = n := by omega
      go_wp2
      go_ret2
      exact ⟨_, rfl, by rw [HLL.out]; exact Ow8.base HOW.out (by have := hKC.size; omega), (HK.out.tr hKC).tr hkr⟩
theorem eall_any {X : Sa} {S : St} {w : World} (h : Sat w X S) (hT : Tabb w) {a : Option Addr} {n c : Nat} {L : List Lk} (hA : Lks w a n L) (hc : Cap a n c) (U : Nat) (hU : U < 4294967296) : Calls Tryd.prog 11 #[siteV X S, .slice a n c, .int .u32 (U : Int)] w fun e w' => ∃ v, e = .returned (.tuple #[v, .int .i64 (allE S L)]) ∧ AllP S L U w v w' := by
  by_cases he : allE S L = 0
  · rw [he]
    exact (eall_go h hT hA hc U hU he).mono fun e w' ⟨v, h1, h2, h3⟩ => ⟨v, h1, fun _ => h2, fun q => absurd he q, h3⟩
  · exact (eall_no h hT hA hc U hU _ rfl he).mono fun e w' ⟨h1, h3⟩ => ⟨_, h1, fun q => absurd q he, fun _ => rfl, h3⟩

end Go.Proofs.YtommijjacknkpaaDoor
