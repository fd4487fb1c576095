/-
  Part 8 of the texts that the proofs of this seat stand on.
-/
import Derived.Test.YtoahbpdgbiachaaDoorPart7
import Derived.Test.YtoahbpdgbiachaaDoorPart3
import Derived.Test.YtoahbpdgbiachaaDoorPart6
/-
  THE CONTRACTS of netBytes, Write.
-/
namespace Go.Proofs.YtoahbpdgbiachaaDoor
open Go.RowKit Go.Lib Go.Deep Go.Maps
set_option linter.unusedVariables false
set_option linter.unusedSimpArgs false

def suI (U : Sb) : List Int := [(U.sites.length : Int)] ++ U.sites ++ [U.critical]
def weI (D : Wd) : List Int := [D.a, D.b, D.votes, (D.offsets.length : Int)] ++ D.offsets
/-- A region's bytes ahead of its sum, part by part. -/
def nsI (N : Nt) (k : Nat) : List Nat := smlI [(N.sites.length : Int)] ++ (N.sites.take k).flatMap (fun S => smlI [((writeL S).length : Int)] ++ writeL S)
def nuI (N : Nt) (k : Nat) : List Nat := nsI N N.sites.length ++ smlI [(N.subs.length : Int)] ++ (N.subs.take k).flatMap (fun U => smlI (suI U))
def nwI (N : Nt) (k : Nat) : List Nat := nuI N N.subs.length ++ smlI [N.low, N.high, N.step, (N.weds.length : Int)] ++ (N.weds.take k).flatMap (fun D => smlI (weI D))
def netL (N : Nt) : List Nat := nwI N N.weds.length
theorem nsI_succ {N : Nt} {k : Nat} (h : k < N.sites.length) : nsI N (k + 1) = nsI N k ++ smlI [((writeL (N.sites.getD k s0)).length : Int)] ++ writeL (N.sites.getD k s0) := by
  unfold nsI; rw [take_snocA (d := s0) h, List.flatMap_append, List.flatMap_singleton, ← List.append_assoc, ← List.append_assoc]
theorem nuI_succ {N : Nt} {k : Nat} (h : k < N.subs.length) : nuI N (k + 1) = nuI N k ++ smlI [((N.subs.getD k u0).sites.length : Int)] ++ smlI (N.subs.getD k u0).sites ++ smlI [(N.subs.getD k u0).critical] := by
  unfold nuI; rw [take_snocA (d := u0) h, List.flatMap_append, List.flatMap_singleton, suI, smlI_append, smlI_append, ← List.append_assoc, ← List.append_assoc, ← List.append_assoc]
theorem nwI_succ {N : Nt} {k : Nat} (h : k < N.weds.length) : nwI N (k + 1) = nwI N k ++ smlI [(N.weds.getD k d0).a, (N.weds.getD k d0).b, (N.weds.getD k d0).votes, ((N.weds.getD k d0).offsets.length : Int)] ++ smlI (N.weds.getD k d0).offsets := by
  unfold nwI; rw [take_snocA (d := d0) h, List.flatMap_append, List.flatMap_singleton, weI, smlI_append, ← List.append_assoc, ← List.append_assoc]
theorem nsI_lt (N : Nt) (k : Nat) : ∀ x ∈ nsI N k, x < 256 := fun x hx => by
  unfold nsI at hx
  rcases List.mem_append.1 hx with hx | hx
  · exact smlI_lt _ x hx
  · obtain ⟨S, _, hx⟩ := List.mem_flatMap.1 hx
    rcases List.mem_append.1 hx with hx | hx
    · exact smlI_lt _ x hx
    · exact writeL_lt S x hx
theorem netL_lt (N : Nt) : ∀ x ∈ netL N, x < 256 := fun x hx => by
  unfold netL nwI nuI at hx
  simp only [List.mem_append, List.mem_flatMap] at hx
  rcases hx with ((((hx | hx) | ⟨U, _, hx⟩) | hx) | ⟨U, _, hx⟩)
  · exact nsI_lt N _ x hx
  · exact smlI_lt _ x hx
  · exact smlI_lt _ x hx
  · exact smlI_lt _ x hx
  · exact smlI_lt _ x hx
/-- What a region that may be tells. -/
structure NPos (N : Nt) : Prop where
  ns : 1 ≤ N.sites.length ∧ N.sites.length ≤ 12
  nu : 1 ≤ N.subs.length ∧ N.subs.length ≤ 6
  nw : N.weds.length ≤ 8
  st : ∀ i, i < N.sites.length → siteB (N.sites.getD i s0) = true
  su : ∀ i, i < N.subs.length → (N.subs.getD i u0).sites.length ≤ 12 ∧ (∀ x ∈ (N.subs.getD i u0).sites, 0 ≤ x ∧ x ≤ 11) ∧ 0 ≤ (N.subs.getD i u0).critical ∧ (N.subs.getD i u0).critical ≤ 11
  cy : (1 ≤ N.low ∧ N.low ≤ 1048576) ∧ (1 ≤ N.high ∧ N.high ≤ 1048576) ∧ (1 ≤ N.step ∧ N.step ≤ 1048576)
  we : ∀ i, i < N.weds.length → (0 ≤ (N.weds.getD i d0).a ∧ (N.weds.getD i d0).a ≤ 5) ∧ (0 ≤ (N.weds.getD i d0).b ∧ (N.weds.getD i d0).b ≤ 5) ∧ (1 ≤ (N.weds.getD i d0).votes ∧ (N.weds.getD i d0).votes ≤ 1048576) ∧ (N.weds.getD i d0).offsets.length ≤ 8 ∧ ∀ x ∈ (N.weds.getD i d0).offsets, 0 ≤ x ∧ x ≤ 1048576
theorem off_next {w : World} {v v' : Value} {B : Nat} (h : some B ≠ v.ownBlock) (hB : B < w.heap.size) (m : Moved w v v') : some B ≠ v'.ownBlock := by
  rcases m with m | ⟨g, m, hg⟩
  · rw [m]; exact h
  · rw [m]; intro e; injection e with e; omega
/-- Append, whatever is put behind. -/
theorem wapp {w0 wr w1 : World} {a : Option Addr} {n c : Nat} {L : List Nat} {b : Option Addr} {m d : Nat} {l : List Int} (hk : Kept w0 wr none) (hM : Mine wr w0.heap.size a n c L) (hk1 : Kept wr w1 none) (hI : Ints w1 b m d l) (hne : 0 < m → ∀ x, b = some x → x.block < w0.heap.size ∨ wr.heap.size ≤ x.block) (hpos : ∀ x ∈ l, 0 ≤ x) (hlen : n + 10 * m ≤ 1099511627776) :
    Calls Tryd.prog 68 #[.slice a n c, .slice b m d] w1 fun e w' => ∃ a' c', e = .returned (.slice a' (n + (smlI l).length) c') ∧ Mine w' w0.heap.size a' (n + (smlI l).length) c' (L ++ smlI l) ∧ Kept w0 w' none ∧ Kept w1 w' (Value.slice a n c).ownBlock ∧ Moved w1 (.slice a n c) (.slice a' (n + (smlI l).length) c') := by
  have hs := hk.size
  have hs1 := hk1.size
  exact (wsmall_any w0.heap.size (hM.kept hk1) (by omega) hI (fun hp x hx => ne_own hM (hne hp x hx)) hpos hlen).mono fun e w' ⟨a', c', he, hm, hkk, hv⟩ => ⟨a', c', he, hm, (hk.tr hk1).newRow hkk (fun i e => (hM.lt i e).1), hkk, hv⟩
/-- The list so far. -/
structure Lsb (w0 wr : World) (a : Option Addr) (n c : Nat) (P : List Nat) (bd : Nat) : Prop where
  mine : Mine wr w0.heap.size a n c P
  size : n = P.length
  le : n ≤ bd
  kept : Kept w0 wr none
theorem Lsb.grow {w0 wr w' : World} {a a' : Option Addr} {n m c c' : Nat} {P M Q : List Nat} {bd bd' : Nat} (h : Lsb w0 wr a n c P bd) (hm : Mine w' w0.heap.size a' (n + m) c' (P ++ M)) (hk : Kept w0 w' none) (hM : M.length = m) (hQ : Q = P ++ M) (hb : bd + m ≤ bd') : Lsb w0 w' a' (n + m) c' Q bd' := by
  subst hQ
  exact ⟨hm, by rw [List.length_append, h.size, hM], by have := h.le; omega, hk⟩
theorem Lsb.at0 {w0 wr : World} {a : Option Addr} {n n' c : Nat} {P Q : List Nat} {bd bd' : Nat} (h : Lsb w0 wr a n c P bd) (e : Q = P) (hn : n' = n) (hb : bd ≤ bd') : Lsb w0 wr a n' c Q bd' := by
  subst e hn
  exact ⟨h.mine, h.size, by have := h.le; omega, h.kept⟩
set_option maxRecDepth 100000 in
set_option maxHeartbeats 16000000 in
theorem netBytes_any {w : World} {Y : Na} {N : Nt} (h : NetAt w Y N) (hP : NPos N) (hT : Tabb w) (hTb : Table w) : Calls Tryd.prog 44 #[netV Y N] w fun e w' => ∃ a' c', e = .returned (.slice a' (netL N).length c') ∧ Mine w' w.heap.size a' (netL N).length c' (netL N) ∧ Kept w w' none ∧ (netL N).length ≤ 70000 := by
  obtain ⟨ys, ysc, yu, yuc, yd, ydc, X, r, t⟩ := Y
  have hk : Kept w (w.alloc (.cells #[.slice ys N.sites.length ysc, .slice yu N.subs.length yuc, .slice yd N.weds.length ydc, .int .i64 N.low, .int .i64 N.high, .int .i64 N.step] 26)) none := Kept.alloc _ _ _ _ _
  have HK0 := Hid.mk' hk
  have HN := Hid.mk' (h.kept hk)
  have HT := Hid.mk' (hT.kept hk)
  have HTB := Hid.mk' (hTb.kept hk)
  have HPO := Hid.mk' hP
  have hns := hP.ns
  have hnu := hP.nu
  have hnw := hP.nw
  have hcy := hP.cy
  have hs0 : (w.alloc (.cells #[.slice ys N.sites.length ysc, .slice yu N.subs.length yuc, .slice yd N.weds.length ydc, .int .i64 N.low, .int .i64 N.high, .int .i64 N.step] 26)).heap.size = w.heap.size + 1 := World.size_alloc _ _
  have hcs : ∀ j v, #[.slice ys N.sites.length ysc, .slice yu N.subs.length yuc, .slice yd N.weds.length ydc, .int .i64 N.low, .int .i64 N.high, .int .i64 N.step][j]? = some v → ∀ w', Kept (w.alloc (.cells #[.slice ys N.sites.length ysc, .slice yu N.subs.length yuc, .slice yd N.weds.length ydc, .int .i64 N.low, .int .i64 N.high, .int .i64 N.step] 26)) w' none → w'.cell? ⟨w.heap.size, j, none⟩ = some v := fun j v hv w' q => cell_kept0 (by simp only [World.cell?_alloc_mark]; exact hv) q
  have HC : Hid (∀ w', Kept (w.alloc (.cells #[.slice ys N.sites.length ysc, .slice yu N.subs.length yuc, .slice yd N.weds.length ydc, .int .i64 N.low, .int .i64 N.high, .int .i64 N.step] 26)) w' none → w'.cell? ⟨w.heap.size, 0, none⟩ = some (.slice ys N.sites.length ysc) ∧ w'.cell? ⟨w.heap.size, 1, none⟩ = some (.slice yu N.subs.length yuc) ∧ w'.cell? ⟨w.heap.size, 2, none⟩ = some (.slice yd N.weds.length ydc) ∧ w'.cell? ⟨w.heap.size, 3, none⟩ = some (.int .i64 N.low) ∧ w'.cell? ⟨w.heap.size, 4, none⟩ = some (.int .i64 N.high) ∧ w'.cell? ⟨w.heap.size, 5, none⟩ = some (.int .i64 N.step)) := fun w' q => ⟨hcs 0 _ rfl w' q, hcs 1 _ rfl w' q, hcs 2 _ rfl w' q, hcs 3 _ rfl w' q, hcs 4 _ rfl w' q, hcs 5 _ rfl w' q⟩
  have hI0 : Ints ((w.alloc (.cells #[.slice ys N.sites.length ysc, .slice yu N.subs.length yuc, .slice yd N.weds.length ydc, .int .i64 N.low, .int .i64 N.high, .int .i64 N.step] 26)).alloc (.cells #[.int .i64 ((N.sites.length : Int))] 3)) (some ⟨(w.alloc (.cells #[.slice ys N.sites.length ysc, .slice yu N.subs.length yuc, .slice yd N.weds.length ydc, .int .i64 N.low, .int .i64 N.high, .int .i64 N.step] 26)).heap.size, 0, none⟩) 1 1 ([(N.sites.length : Int)] : List Int) := ints_of (w.alloc (.cells #[.slice ys N.sites.length ysc, .slice yu N.subs.length yuc, .slice yd N.weds.length ydc, .int .i64 N.low, .int .i64 N.high, .int .i64 N.step] 26)) ([(N.sites.length : Int)] : List Int) 3 (fun x hx => (by
    simp only [List.mem_cons, List.mem_nil_iff, or_false] at hx
    subst hx; omega)) (by simp)
  have hpI0 : ∀ x ∈ ([(N.sites.length : Int)] : List Int), 0 ≤ x := fun x hx => by
    simp only [List.mem_cons, List.mem_nil_iff, or_false] at hx
    subst hx; omega
  have hsI0 : (smlI ([(N.sites.length : Int)] : List Int)).length ≤ 10 := smlI_le (m := 1) (fun x hx => (hI0.rng x hx).2) (by simp)
  rw [World.size_alloc] at hI0
  have HC0 := Hid.mk' (wapp (Kept.refl (w.alloc (.cells #[.slice ys N.sites.length ysc, .slice yu N.subs.length yuc, .slice yd N.weds.length ydc, .int .i64 N.low, .int .i64 N.high, .int .i64 N.step] 26)) none) (Mine.empty _ _) (Kept.alloc _ _ _ _ _) hI0 (fun _ x hx => .inr (by injection hx with hx; subst hx; exact Nat.le_of_eq hs0)) hpI0 (by omega))
  have HS0 := Hid.mk' hs0
  clear h hT hTb hP hk hcs hI0 hpI0 hs0
  go_enter Tryd.func44, Tryd.ntmps44
  go_wp2_with (go_at_call 68; refine HC0.out.mono ?_; rintro e w1 ⟨a1, c1, rfl, hm1, hk1, _, _⟩; obtain ⟨n0, n1, n2, n3, n4, n5⟩ := HC.out _ hk1)
  generalize hW0 : (w.alloc (.cells #[.slice ys N.sites.length ysc, .slice yu N.subs.length yuc, .slice yd N.weds.length ydc, .int .i64 N.low, .int .i64 N.high, .int .i64 N.step] 26)) = W0 at *
  have HL : Hid (Lsb W0 w1 a1 (0 + (smlI [(N.sites.length : Int)]).length) c1 (nsI N 0) 10) := ⟨by simpa [nsI] using hm1, by rw [Nat.zero_add]; simp [nsI], by omega, hk1⟩
  have hw0 : W0.heap.size = w.heap.size + 1 := HS0.out
  clear hW0 hm1 hk1 HC0 HS0 n0 n1 n2 n3 n4 n5
  go_loopw [3, 20] (fun s i wr => ∃ k : Nat, k ≤ N.sites.length ∧ i = .int .i64 k ∧ ∃ a1 n1 c1, s = .slice a1 n1 c1 ∧ Lsb W0 wr a1 n1 c1 (nsI N k) (10 + 5560 * k)) (fun _ i _ => N.sites.length - (intOf i).toNat)
  case atStart => exact ⟨0, Nat.zero_le _, rfl, _, _, _, rfl, HL.out.at0 rfl (by omega) (by omega)⟩
  case round =>
    clear HL
    obtain ⟨k, hk, rfl, a1, n1, c1, rfl, hL⟩ := hrel
    have hle := hL.le
    have hkw := hL.kept
    have HL := Hid.mk' hL
    clear hL
    by_cases hlt : k < N.sites.length
    · obtain ⟨sb, so, es, _, hc⟩ := (HN.out.kept hkw).s1.at_ (by omega)
      dsimp only at es
      subst es
      have hXk := (HN.out.kept hkw).s2 k hlt
      have e0 := hc k hlt 0 (by omega)
      have e1 := hc k hlt 1 (by omega)
      have e2 := hc k hlt 2 (by omega)
      have e3 := hc k hlt 3 (by omega)
      have e4 := hc k hlt 4 (by omega)
      have e5 := hc k hlt 5 (by omega)
      have e6 := hc k hlt 6 (by omega)
      have e7 := hc k hlt 7 (by omega)
      have e8 := hc k hlt 8 (by omega)
      have e9 := hc k hlt 9 (by omega)
      have e10 := hc k hlt 10 (by omega)
      have e11 := hc k hlt 11 (by omega)
      have hsk := HPO.out.st k hlt
      have HST := Hid.mk' (nsI_succ hlt)
      generalize N.sites.getD k s0 = S at *
      dsimp only at e0 e1 e2 e3 e4 e5 e6 e7 e8 e9 e10 e11 hXk
      generalize X k = Xk at *
      obtain ⟨xg, xgc, xa, xac, xb, xbc, xp, xpc, xe, xec, xl, xlc⟩ := Xk
      dsimp only [stV, Nat.add_zero] at e0 e1 e2 e3 e4 e5 e6 e7 e8 e9 e10 e11
      have hwl : (writeL S).length ≤ 5544 := by
        have := siteL_len hXk hsk
        unfold writeL
        rw [if_pos hsk, List.length_append, sum4_len]
        omega
      have hkA : Kept wr (wr.alloc (.cells #[.int .i64 S.id, .slice xg S.groups.length xgc, .slice xa S.apart.length xac, .slice xb S.between.length xbc, .slice xp S.phases.length xpc, .slice xe S.eyes.length xec, .int .i64 S.watch, .int .i64 S.feed, .int .i64 S.heal, .int .i64 S.low, .int .i64 S.high, .slice xl S.plans.length xlc] 48)) none := Kept.alloc _ _ _ _ _
      have HCW := Hid.mk' (write_any (hXk.kept hkA) (HT.out.kept (hkw.tr hkA)) (HTB.out.kept (hkw.tr hkA)))
      have HKA := Hid.mk' hkA
      have hwz : (wr.alloc (.cells #[.int .i64 S.id, .slice xg S.groups.length xgc, .slice xa S.apart.length xac, .slice xb S.between.length xbc, .slice xp S.phases.length xpc, .slice xe S.eyes.length xec, .int .i64 S.watch, .int .i64 S.feed, .int .i64 S.heal, .int .i64 S.low, .int .i64 S.high, .slice xl S.plans.length xlc] 48)).heap.size = wr.heap.size + 1 := World.size_alloc _ _
      have hwk := hkw.size
      clear hc hXk hkA
      have HI1 : Hid (∀ W9 : World, Ints (W9.alloc (.cells #[.int .i64 (((writeL S).length : Int))] 3)) (some ⟨W9.heap.size, 0, none⟩) 1 1 ([((writeL S).length : Int)] : List Int)) := fun W9 => ints_of W9 ([((writeL S).length : Int)] : List Int) 3 (fun x hx => (by
        simp only [List.mem_cons, List.mem_nil_iff, or_false] at hx
        subst hx; omega)) (by simp)
      have hpI1 : ∀ x ∈ ([((writeL S).length : Int)] : List Int), 0 ≤ x := fun x hx => by
        simp only [List.mem_cons, List.mem_nil_iff, or_false] at hx
        subst hx; omega
      have hsI1 : (smlI ([((writeL S).length : Int)] : List Int)).length ≤ 10 := smlI_le (m := 1) (fun x hx => ((HI1.out W0).rng x hx).2) (by simp)
      go_wp2_with (first
        | (have hgo := hm4; clear hgo; at_builtin; refine wpList_joinA (by rfl) _ _ (by rfl) W0.heap.size (.slice a4 (n1 + (smlI ([((writeL S).length : Int)] : List Int)).length) c4) (n1 + (smlI ([((writeL S).length : Int)] : List Int)).length) _ (by rfl) hm4.own _ (writeL S).length _ (writeL S) (by rfl) ((hm3.kept (Kept.alloc _ _ _ _ _)).keptR hkk4 (fun i hi => (fun e => by have h1 := (hm3.lt i hi).1; have h2 := (HL.out.mine.lt i e.symm).2; omega)) |>.by (writeL_lt S)) (fun e => (hm3.nil e).2) (by omega) (by have := hk4.size; omega) ?_; intro a5 c5 w5 hm5 hg5 hat5)
        | (have hgo := hm3; clear hgo; go_at_call 68; have hc9 := wapp HL.out.kept HL.out.mine ((HKA.out.tr hk3).tr (Kept.alloc _ _ _ _ _)) (HI1.out w3) (fun _ x hx => .inr (by injection hx with hx; subst hx; have := hk3.size; show wr.heap.size ≤ w3.heap.size; omega)) hpI1 (by omega); refine hc9.mono ?_; rintro e w4 ⟨a4, c4, rfl, hm4, hk4, hkk4, hmv4⟩)
        | (go_at_call 69; refine HCW.out.mono ?_; rintro e w3 ⟨a3, c3, rfl, hm3, hk3⟩))
      go_roundw
      case rel => exact ⟨k + 1, by omega, by go_num, a5, _, c5, rfl, by rw [HST.out]; exact hm5, by rw [HST.out, List.length_append, List.length_append, ← HL.out.size], by omega, hk4.newRow hg5 (fun i e => (hm4.lt i e).1)⟩
      case measure => simp [intOf]; omega
    · have hkk : k = N.sites.length := by omega
      subst hkk
      obtain ⟨n0, n1', n2, n3, n4, n5⟩ := HC.out _ hkw
      have hwk := hkw.size
      have HI2 : Hid (∀ W9 : World, Ints (W9.alloc (.cells #[.int .i64 ((N.subs.length : Int))] 3)) (some ⟨W9.heap.size, 0, none⟩) 1 1 ([(N.subs.length : Int)] : List Int)) := fun W9 => ints_of W9 ([(N.subs.length : Int)] : List Int) 3 (fun x hx => (by
        simp only [List.mem_cons, List.mem_nil_iff, or_false] at hx
        subst hx; omega)) (by simp)
      have hpI2 : ∀ x ∈ ([(N.subs.length : Int)] : List Int), 0 ≤ x := fun x hx => by
        simp only [List.mem_cons, List.mem_nil_iff, or_false] at hx
        subst hx; omega
      have hsI2 : (smlI ([(N.subs.length : Int)] : List Int)).length ≤ 10 := smlI_le (m := 1) (fun x hx => ((HI2.out W0).rng x hx).2) (by simp)
      go_wp2_with (go_at_call 68; have hc9 := wapp HL.out.kept HL.out.mine (Kept.alloc _ _ _ _ _) (HI2.out wr) (fun _ x hx => .inr (by injection hx with hx; subst hx; exact Nat.le_refl _)) hpI2 (by omega); refine hc9.mono ?_; rintro e w3 ⟨a3, c3, rfl, hm3, hk3, _, _⟩; clear n0 n1' n2 n3 n4 n5; obtain ⟨n0, n1', n2, n3, n4, n5⟩ := HC.out _ hk3)
      have HL2 : Hid (Lsb W0 w3 a3 (n1 + (smlI ([(N.subs.length : Int)] : List Int)).length) c3 (nuI N 0) 66750) := HL.out.grow hm3 hk3 rfl (by simp [nuI]) (by omega)
      clear HL hm3 hk3 hle hkw n0 n1' n2 n3 n4 n5 hwk HI2 hpI2
      have HL := HL2
      clear HL2
      go_loopw [3, 46] (fun s i wr => ∃ k : Nat, k ≤ N.subs.length ∧ i = .int .i64 k ∧ ∃ a1 n1 c1, s = .slice a1 n1 c1 ∧ Lsb W0 wr a1 n1 c1 (nuI N k) (66750 + 150 * k)) (fun _ i _ => N.subs.length - (intOf i).toNat)
      case atStart => exact ⟨0, Nat.zero_le _, rfl, _, _, _, rfl, HL.out.at0 rfl (by omega) (by omega)⟩
      case round =>
        clear HL hsI2
        obtain ⟨k, hk, rfl, a1, n1, c1, rfl, hL⟩ := hrel
        have hle := hL.le
        have hkw := hL.kept
        have HL := Hid.mk' hL
        clear hL
        by_cases hlt : k < N.subs.length
        · obtain ⟨ub, uo, eu, _, hc⟩ := (HN.out.kept hkw).u1.at_ (by omega)
          dsimp only at eu
          subst eu
          have e0 : wr.cell? ⟨ub, uo + k * 2, none⟩ = some (.slice (r k).1 (N.subs.getD k u0).sites.length (r k).2) := hc k hlt 0 (by omega)
          have e1 : wr.cell? ⟨ub, uo + k * 2 + 1, none⟩ = some (.int .i64 (N.subs.getD k u0).critical) := hc k hlt 1 (by omega)
          have HI := Hid.mk' (HN.out.u2 k hlt)
          obtain ⟨hu1, hu2, hu3, hu4⟩ := HPO.out.su k hlt
          have HST := Hid.mk' (nuI_succ hlt)
          dsimp only at HI
          generalize N.subs.getD k u0 = U at *
          generalize r k = rp at *
          obtain ⟨ra, rc⟩ := rp
          dsimp only at *
          have hkA : Kept wr (wr.alloc (.cells #[.slice ra U.sites.length rc, .int .i64 U.critical] 38)) none := Kept.alloc _ _ _ _ _
          have HKA := Hid.mk' hkA
          have hwz : (wr.alloc (.cells #[.slice ra U.sites.length rc, .int .i64 U.critical] 38)).heap.size = wr.heap.size + 1 := World.size_alloc _ _
          have hb0 : (wr.alloc (.cells #[.slice ra U.sites.length rc, .int .i64 U.critical] 38)).cell? ⟨wr.heap.size, 0, none⟩ = some (.slice ra U.sites.length rc) := by simp [World.cell?_alloc_mark]
          have hb1 : (wr.alloc (.cells #[.slice ra U.sites.length rc, .int .i64 U.critical] 38)).cell? ⟨wr.heap.size, 1, none⟩ = some (.int .i64 U.critical) := by simp [World.cell?_alloc_mark]
          have HB0 := Hid.mk' hb0
          have HB1 := Hid.mk' hb1
          have HOFF : Hid (some wr.heap.size ≠ (Value.slice a1 n1 c1).ownBlock) := ne_own HL.out.mine (.inr (Nat.le_refl _))
          have hwk := hkw.size
          have hss := smlI_le (m := 12) (fun x hx => (HI.out.rng x hx).2) hu1
          have HPS : Hid (∀ x ∈ U.sites, 0 ≤ x) := fun x hx => (hu2 x hx).1
          have HLT : Hid (0 < U.sites.length → ∀ x, ra = some x → x.block < W0.heap.size) := fun hp x hx => HI.out.lt hp x hx
          clear hc hkA hb0 hb1 hu2
          have HI3 : Hid (∀ W9 : World, Ints (W9.alloc (.cells #[.int .i64 ((U.sites.length : Int))] 3)) (some ⟨W9.heap.size, 0, none⟩) 1 1 ([(U.sites.length : Int)] : List Int)) := fun W9 => ints_of W9 ([(U.sites.length : Int)] : List Int) 3 (fun x hx => (by
            simp only [List.mem_cons, List.mem_nil_iff, or_false] at hx
            subst hx; omega)) (by simp)
          have hpI3 : ∀ x ∈ ([(U.sites.length : Int)] : List Int), 0 ≤ x := fun x hx => by
            simp only [List.mem_cons, List.mem_nil_iff, or_false] at hx
            subst hx; omega
          have hsI3 : (smlI ([(U.sites.length : Int)] : List Int)).length ≤ 10 := smlI_le (m := 1) (fun x hx => ((HI3.out W0).rng x hx).2) (by simp)
          have HI4 : Hid (∀ W9 : World, Ints (W9.alloc (.cells #[.int .i64 (U.critical)] 3)) (some ⟨W9.heap.size, 0, none⟩) 1 1 ([U.critical] : List Int)) := fun W9 => ints_of W9 ([U.critical] : List Int) 3 (fun x hx => (by
            simp only [List.mem_cons, List.mem_nil_iff, or_false] at hx
            subst hx; omega)) (by simp)
          have hpI4 : ∀ x ∈ ([U.critical] : List Int), 0 ≤ x := fun x hx => by
            simp only [List.mem_cons, List.mem_nil_iff, or_false] at hx
            subst hx; omega
          have hsI4 : (smlI ([U.critical] : List Int)).length ≤ 10 := smlI_le (m := 1) (fun x hx => ((HI4.out W0).rng x hx).2) (by simp)
          go_wp2_with (first
            | (have hgo := hm4; clear hgo; go_at_call 68; have hc9 := wapp hk4 hm4 (Kept.alloc _ _ _ _ _) (HI4.out w4) (fun _ x hx => .inr (by injection hx with hx; subst hx; exact Nat.le_refl _)) hpI4 (by omega); refine hc9.mono ?_; rintro e w5 ⟨a5, c5, rfl, hm5, hk5, _, _⟩)
            | (have hgo := hm3; clear hgo; go_at_call 68; have hc9 := wapp hk3 hm3 (Kept.refl _ _) (HI.out.kept hk3) (fun hp x hx => .inl (HLT.out hp x hx)) HPS.out (by omega); refine hc9.mono ?_; rintro e w4 ⟨a4, c4, rfl, hm4, hk4, hkk4, hmv4⟩; have b1 := cell_keptR b1 hkk4 off3)
            | (go_at_call 68; have hc9 := wapp HL.out.kept HL.out.mine (HKA.out.tr (Kept.alloc _ _ _ _ _)) (HI3.out (wr.alloc (.cells #[.slice ra U.sites.length rc, .int .i64 U.critical] 38))) (fun _ x hx => .inr (by injection hx with hx; subst hx; show wr.heap.size ≤ (wr.alloc (.cells #[.slice ra U.sites.length rc, .int .i64 U.critical] 38)).heap.size; omega)) hpI3 (by omega); rw [hwz] at hc9; refine hc9.mono ?_; rintro e w3 ⟨a3, c3, rfl, hm3, hk3, hkk3, hmv3⟩; have b0 := cell_keptR (cell_kept0 HB0.out (Kept.alloc _ _ _ _ _)) hkk3 HOFF.out; have b1 := cell_keptR (cell_kept0 HB1.out (Kept.alloc _ _ _ _ _)) hkk3 HOFF.out; have off3 := off_next HOFF.out (by rw [World.size_alloc]; omega) hmv3))
          go_roundw
          case rel => exact ⟨k + 1, by omega, by go_num, a5, _, c5, rfl, by rw [HST.out]; exact hm5, by rw [HST.out, List.length_append, List.length_append, List.length_append, ← HL.out.size], by omega, hk5⟩
          case measure => simp [intOf]; omega
        · have hkk : k = N.subs.length := by omega
          subst hkk
          obtain ⟨n0, n1', n2, n3, n4, n5⟩ := HC.out _ hkw
          have hwk := hkw.size
          have HI5 : Hid (∀ W9 : World, Ints (W9.alloc (.cells #[.int .i64 (N.low), .int .i64 (N.high), .int .i64 (N.step), .int .i64 ((N.weds.length : Int))] 3)) (some ⟨W9.heap.size, 0, none⟩) 4 4 ([N.low, N.high, N.step, (N.weds.length : Int)] : List Int)) := fun W9 => ints_of W9 ([N.low, N.high, N.step, (N.weds.length : Int)] : List Int) 3 (fun x hx => (by
            simp only [List.mem_cons, List.mem_nil_iff, or_false] at hx
            rcases hx with rfl | rfl | rfl | rfl <;> omega)) (by simp)
          have hpI5 : ∀ x ∈ ([N.low, N.high, N.step, (N.weds.length : Int)] : List Int), 0 ≤ x := fun x hx => by
            simp only [List.mem_cons, List.mem_nil_iff, or_false] at hx
            rcases hx with rfl | rfl | rfl | rfl <;> omega
          have hsI5 : (smlI ([N.low, N.high, N.step, (N.weds.length : Int)] : List Int)).length ≤ 40 := smlI_le (m := 4) (fun x hx => ((HI5.out W0).rng x hx).2) (by simp)
          go_wp2_with (go_at_call 68; have hc9 := wapp HL.out.kept HL.out.mine (Kept.alloc _ _ _ _ _) (HI5.out wr) (fun _ x hx => .inr (by injection hx with hx; subst hx; exact Nat.le_refl _)) hpI5 (by omega); refine hc9.mono ?_; rintro e w3 ⟨a3, c3, rfl, hm3, hk3, _, _⟩; clear n0 n1' n2 n3 n4 n5; obtain ⟨n0, n1', n2, n3, n4, n5⟩ := HC.out _ hk3)
          have HL2 : Hid (Lsb W0 w3 a3 (n1 + (smlI ([N.low, N.high, N.step, (N.weds.length : Int)] : List Int)).length) c3 (nwI N 0) 67800) := HL.out.grow hm3 hk3 rfl (by simp [nwI]) (by omega)
          clear HL hm3 hk3 hle hkw n0 n1' n2 n3 n4 n5 hwk HI5 hpI5
          have HL := HL2
          clear HL2
          go_loopw [3, 81] (fun s i wr => ∃ k : Nat, k ≤ N.weds.length ∧ i = .int .i64 k ∧ ∃ a1 n1 c1, s = .slice a1 n1 c1 ∧ Lsb W0 wr a1 n1 c1 (nwI N k) (67800 + 120 * k)) (fun _ i _ => N.weds.length - (intOf i).toNat)
          case atStart => exact ⟨0, Nat.zero_le _, rfl, _, _, _, rfl, HL.out.at0 rfl (by omega) (by omega)⟩
          case round =>
            clear HL hsI5
            obtain ⟨k, hk, rfl, a1, n1, c1, rfl, hL⟩ := hrel
            have hle := hL.le
            have hkw := hL.kept
            have HL := Hid.mk' hL
            clear hL
            by_cases hlt : k < N.weds.length
            · obtain ⟨db, do_, ed, _, hc⟩ := (HN.out.kept hkw).d1.at_ (by omega)
              dsimp only at ed
              subst ed
              have e0 : wr.cell? ⟨db, do_ + k * 4, none⟩ = some (.int .i64 (N.weds.getD k d0).a) := hc k hlt 0 (by omega)
              have e1 : wr.cell? ⟨db, do_ + k * 4 + 1, none⟩ = some (.int .i64 (N.weds.getD k d0).b) := hc k hlt 1 (by omega)
              have e2 : wr.cell? ⟨db, do_ + k * 4 + 2, none⟩ = some (.int .i64 (N.weds.getD k d0).votes) := hc k hlt 2 (by omega)
              have e3 : wr.cell? ⟨db, do_ + k * 4 + 3, none⟩ = some (.slice (t k).1 (N.weds.getD k d0).offsets.length (t k).2) := hc k hlt 3 (by omega)
              have HI := Hid.mk' (HN.out.d2 k hlt)
              obtain ⟨hd1, hd2, hd3, hd4, hd5⟩ := HPO.out.we k hlt
              have HST := Hid.mk' (nwI_succ hlt)
              dsimp only at HI
              generalize N.weds.getD k d0 = D at *
              generalize t k = tp at *
              obtain ⟨ta, tc⟩ := tp
              dsimp only at *
              have hkA : Kept wr (wr.alloc (.cells #[.int .i64 D.a, .int .i64 D.b, .int .i64 D.votes, .slice ta D.offsets.length tc] 40)) none := Kept.alloc _ _ _ _ _
              have HKA := Hid.mk' hkA
              have hwz : (wr.alloc (.cells #[.int .i64 D.a, .int .i64 D.b, .int .i64 D.votes, .slice ta D.offsets.length tc] 40)).heap.size = wr.heap.size + 1 := World.size_alloc _ _
              have hb3 : (wr.alloc (.cells #[.int .i64 D.a, .int .i64 D.b, .int .i64 D.votes, .slice ta D.offsets.length tc] 40)).cell? ⟨wr.heap.size, 3, none⟩ = some (.slice ta D.offsets.length tc) := by simp [World.cell?_alloc_mark]
              have HB3 := Hid.mk' hb3
              have HOFF : Hid (some wr.heap.size ≠ (Value.slice a1 n1 c1).ownBlock) := ne_own HL.out.mine (.inr (Nat.le_refl _))
              have hwk := hkw.size
              have hss := smlI_le (m := 8) (fun x hx => (HI.out.rng x hx).2) hd4
              have HPS : Hid (∀ x ∈ D.offsets, 0 ≤ x) := fun x hx => (hd5 x hx).1
              have HLT : Hid (0 < D.offsets.length → ∀ x, ta = some x → x.block < W0.heap.size) := fun hp x hx => HI.out.lt hp x hx
              clear hc hkA hb3 hd5
              have HI6 : Hid (∀ W9 : World, Ints (W9.alloc (.cells #[.int .i64 (D.a), .int .i64 (D.b), .int .i64 (D.votes), .int .i64 ((D.offsets.length : Int))] 3)) (some ⟨W9.heap.size, 0, none⟩) 4 4 ([D.a, D.b, D.votes, (D.offsets.length : Int)] : List Int)) := fun W9 => ints_of W9 ([D.a, D.b, D.votes, (D.offsets.length : Int)] : List Int) 3 (fun x hx => (by
                simp only [List.mem_cons, List.mem_nil_iff, or_false] at hx
                rcases hx with rfl | rfl | rfl | rfl <;> omega)) (by simp)
              have hpI6 : ∀ x ∈ ([D.a, D.b, D.votes, (D.offsets.length : Int)] : List Int), 0 ≤ x := fun x hx => by
                simp only [List.mem_cons, List.mem_nil_iff, or_false] at hx
                rcases hx with rfl | rfl | rfl | rfl <;> omega
              have hsI6 : (smlI ([D.a, D.b, D.votes, (D.offsets.length : Int)] : List Int)).length ≤ 40 := smlI_le (m := 4) (fun x hx => ((HI6.out W0).rng x hx).2) (by simp)
              go_wp2_with (first
                | (have hgo := hm3; clear hgo; go_at_call 68; have hc9 := wapp hk3 hm3 (Kept.refl _ _) (HI.out.kept hk3) (fun hp x hx => .inl (HLT.out hp x hx)) HPS.out (by omega); refine hc9.mono ?_; rintro e w4 ⟨a4, c4, rfl, hm4, hk4, hkk4, hmv4⟩)
                | (go_at_call 68; have hc9 := wapp HL.out.kept HL.out.mine (HKA.out.tr (Kept.alloc _ _ _ _ _)) (HI6.out (wr.alloc (.cells #[.int .i64 D.a, .int .i64 D.b, .int .i64 D.votes, .slice ta D.offsets.length tc] 40))) (fun _ x hx => .inr (by injection hx with hx; subst hx; show wr.heap.size ≤ (wr.alloc (.cells #[.int .i64 D.a, .int .i64 D.b, .int .i64 D.votes, .slice ta D.offsets.length tc] 40)).heap.size; omega)) hpI6 (by omega); rw [hwz] at hc9; refine hc9.mono ?_; rintro e w3 ⟨a3, c3, rfl, hm3, hk3, hkk3, hmv3⟩; have b3 := cell_keptR (cell_kept0 HB3.out (Kept.alloc _ _ _ _ _)) hkk3 HOFF.out))
              go_roundw
              case rel => exact ⟨k + 1, by omega, by go_num, a4, _, c4, rfl, by rw [HST.out]; exact hm4, by rw [HST.out, List.length_append, List.length_append, ← HL.out.size], by omega, hk4⟩
              case measure => simp [intOf]; omega
            · have hkk : k = N.weds.length := by omega
              subst hkk
              have HLs := Hid.mk' HL.out.size
              have HQ : Hid (n1 = (netL N).length) := HL.out.size
              go_wp2
              go_ret
              exact ⟨a1, c1, by rw [HQ.out]; rfl, by rw [← HQ.out]; exact HL.out.mine.lower (by omega), HK0.out.tr hkw, by rw [← HQ.out]; omega⟩
def nwriteL (N : Nt) : List Nat := if netB N = true then netL N ++ sum4 (netL N) else []
theorem nwriteL_lt (N : Nt) : ∀ x ∈ nwriteL N, x < 256 := by
  unfold nwriteL
  split
  · intro x hx
    rcases List.mem_append.1 hx with hx | hx
    · exact netL_lt N x hx
    · exact sum4_lt _ x hx
  · simp
theorem netE_yes {N : Nt} (h : netB N = true) : netE N = 0 := by unfold netE; rw [if_pos h]
theorem netE_no {N : Nt} (h : netB N = false) : netE N = 60 := by unfold netE; rw [if_neg (by rw [h]; decide)]
set_option maxRecDepth 100000 in
set_option maxHeartbeats 4000000 in
theorem nwrite_any {w : World} {Y : Na} {N : Nt} (h : NetAt w Y N) (hP : netB N = true → NPos N) (hT : Tabb w) (hTb : Table w) : Calls Tryd.prog 23 #[netV Y N] w fun e w' => ∃ a' c', e = .returned (.tuple #[.slice a' (nwriteL N).length c', .int .i64 (netE N)]) ∧ Mine w' w.heap.size a' (nwriteL N).length c' (nwriteL N) ∧ Kept w w' none := by
  obtain ⟨ys, ysc, yu, yuc, yd, ydc, X, r, t⟩ := Y
  have hk : Kept w (w.alloc (.cells #[.slice ys N.sites.length ysc, .slice yu N.subs.length yuc, .slice yd N.weds.length ydc, .int .i64 N.low, .int .i64 N.high, .int .i64 N.step] 26)) none := Kept.alloc _ _ _ _ _
  have HK := Hid.mk' hk
  have HN := Hid.mk' (h.kept hk)
  have HT := Hid.mk' (hT.kept hk)
  have HTb := Hid.mk' (hTb.kept hk)
  have hcs : ∀ j v, #[.slice ys N.sites.length ysc, .slice yu N.subs.length yuc, .slice yd N.weds.length ydc, .int .i64 N.low, .int .i64 N.high, .int .i64 N.step][j]? = some v → ∀ w', Kept (w.alloc (.cells #[.slice ys N.sites.length ysc, .slice yu N.subs.length yuc, .slice yd N.weds.length ydc, .int .i64 N.low, .int .i64 N.high, .int .i64 N.step] 26)) w' none → w'.cell? ⟨w.heap.size, j, none⟩ = some v := fun j v hv w' q => cell_kept0 (by simp only [World.cell?_alloc_mark]; exact hv) q
  have HC : Hid (∀ w', Kept (w.alloc (.cells #[.slice ys N.sites.length ysc, .slice yu N.subs.length yuc, .slice yd N.weds.length ydc, .int .i64 N.low, .int .i64 N.high, .int .i64 N.step] 26)) w' none → w'.cell? ⟨w.heap.size, 0, none⟩ = some (.slice ys N.sites.length ysc) ∧ w'.cell? ⟨w.heap.size, 1, none⟩ = some (.slice yu N.subs.length yuc) ∧ w'.cell? ⟨w.heap.size, 2, none⟩ = some (.slice yd N.weds.length ydc) ∧ w'.cell? ⟨w.heap.size, 3, none⟩ = some (.int .i64 N.low) ∧ w'.cell? ⟨w.heap.size, 4, none⟩ = some (.int .i64 N.high) ∧ w'.cell? ⟨w.heap.size, 5, none⟩ = some (.int .i64 N.step)) := fun w' q => ⟨hcs 0 _ rfl w' q, hcs 1 _ rfl w' q, hcs 2 _ rfl w' q, hcs 3 _ rfl w' q, hcs 4 _ rfl w' q, hcs 5 _ rfl w' q⟩
  cases hs : netB N with
  | false =>
    have hce := netE_no hs
    have hL : nwriteL N = [] := by unfold nwriteL; rw [if_neg (by rw [hs]; decide)]
    rw [hL, hce]
    clear h hT hTb hk hL hcs hP
    go_enter Tryd.func23, Tryd.ntmps23
    go_wp2_with (go_at_call 13; refine (ncheck_any HN.out HT.out).mono ?_; rintro e w2 ⟨rfl, hk2⟩; rw [hce])
    go_ret2
    exact ⟨none, 0, rfl, Mine.empty _ _, HK.out.tr hk2⟩
  | true =>
    have hce := netE_yes hs
    have hL : nwriteL N = netL N ++ sum4 (netL N) := by unfold nwriteL; rw [if_pos hs]
    have HPo := Hid.mk' (hP hs)
    have hlen2 : (nwriteL N).length = (netL N).length + 4 := by rw [hL, List.length_append, sum4_len]
    rw [hlen2, hL, hce]
    clear h hT hTb hk hL hlen2 hcs hP
    go_enter Tryd.func23, Tryd.ntmps23
    go_wp2_with (first
      | (have hgo := M3; clear hgo; go_at_call 43; refine (withSum_any w.heap.size M3.out (by have := HK.out.size; have := hk2.size; have := hk3.size; omega) (netL_lt N) (HTb.out.kept (hk2.tr hk3)) (by omega)).mono ?_; rintro e w5 ⟨a5, c5, rfl, hm5, hg5⟩)
      | (go_at_call 44; refine (netBytes_any (HN.out.kept hk2) HPo.out (HT.out.kept hk2) (HTb.out.kept hk2)).mono ?_; rintro e w3 ⟨a3, c3, rfl, hm3, hk3, hlen⟩; have M3 := Hid.mk' (hm3.lower (Nat.le_trans HK.out.size hk2.size)); clear hm3)
      | (go_at_call 13; refine (ncheck_any HN.out HT.out).mono ?_; rintro e w2 ⟨rfl, hk2⟩; rw [hce]; obtain ⟨n0, n1, n2, n3, n4, n5⟩ := HC.out _ hk2))
    go_ret2
    exact ⟨a5, c5, rfl, hm5, ((HK.out.tr hk2).tr hk3).newRow hg5 (fun i e => (M3.out.lt i e).1)⟩

end Go.Proofs.YtoahbpdgbiachaaDoor

/-
  THE READER OF A REGION: a reader of numbers whose further cells stay as they are.
-/
namespace Go.Proofs.YtoahbpdgbiachaaDoor
open Go.RowKit Go.Lib Go.Deep
set_option linter.unusedVariables false
set_option linter.unusedSimpArgs false

/-- A reader in block b, whose further cells are T. -/
structure Rt (T : Array Value) (w : World) (H b : Nat) (s : Rd) : Prop extends Rdr w H b s where
  tl : ∀ j v, T[j]? = some v → w.cell? ⟨b, j + 2, none⟩ = some v
  fz : ∀ j, w.frozen? ⟨b, j, none⟩ = false
theorem Rt.blt {T : Array Value} {w : World} {H b : Nat} {s : Rd} (h : Rt T w H b s) : b < w.heap.size := by
  obtain ⟨a, n, c, h1, _, _⟩ := h.ex
  exact block_lt h1
theorem Rt.kept {T : Array Value} {w w' : World} {H b : Nat} {s : Rd} {r : Option Nat} (h : Rt T w H b s) (q : Kept w w' r) (hr : ∀ i, r = some i → H ≤ i) : Rt T w' H b s := by
  have hb : some b ≠ r := fun e => by have := hr b e.symm; have := h.lt; omega
  exact ⟨h.toRdr.kept q hr, fun j v hv => cell_keptR (h.tl j v hv) q hb, fun j => (frozen_block (q.block b h.blt hb)).trans (h.fz j)⟩
theorem Rt.bad {T : Array Value} {w : World} {H b : Nat} {s : Rd} (h : Rt T w H b s) : Rt T (w.setCell ⟨b, 1, none⟩ (.bool true)) H b (s.1, true) :=
  ⟨h.toRdr.bad, fun j v hv => (World.cell?_setCell_other _ _ _ _ (by simp)).trans (h.tl j v hv), fun j => (frozen_set _ _ _ _).trans (h.fz j)⟩
theorem Rt.set {T : Array Value} {w : World} {H b : Nat} {L L' : List Nat} {bd : Bool} {a : Option Addr} {n c : Nat} (h : Rt T w H b (L, bd)) (hC : Come w a n c L') (hx : 0 < n → ∀ x, a = some x → x.block < H ∧ x.block ≠ b) : Rt T (w.setCell ⟨b, 0, none⟩ (.slice a n c)) H b (L', bd) :=
  ⟨h.toRdr.set hC hx, fun j v hv => (World.cell?_setCell_other _ _ _ _ (by simp)).trans (h.tl j v hv), fun j => (frozen_set _ _ _ _).trans (h.fz j)⟩
theorem Rt.setNew {T : Array Value} {w : World} {H b : Nat} {s : Rd} (h : Rt T w H b s) {g : Nat} (hg : H ≤ g) (j : Nat) (v : Value) : Rt T (w.setCell ⟨g, j, none⟩ v) H b s := h.kept (kept_set _ _ _ _) (fun i e => by cases e; exact hg)
theorem Rt.drew {T : Array Value} {w : World} {H b : Nat} {s : Rd} (h : Rt T w H b s) : Rt T w.drew H b s := h.kept (Kept.drew _ none) (fun i e => by cases e)
theorem Rt.alloc {T : Array Value} {w : World} {H b : Nat} {s : Rd} (h : Rt T w H b s) (c : Array Value) (t : TypeId) : Rt T (w.alloc (.cells c t)) H b s := h.kept (Kept.alloc _ _ _ (0, 0) none) (fun i e => by cases e)
theorem Rt.put {T : Array Value} {w : World} {H b : Nat} {s : Rd} (h : Rt T w H b s) (j : Nat) (hj : j < T.size) (v : Value) : Rt (T.setIfInBounds j v) (w.setCell ⟨b, j + 2, none⟩ v) H b s := by
  obtain ⟨a, n, c, h1, h2, h3⟩ := h.ex
  obtain ⟨u, hu⟩ := h.c2
  have ho : w.cell? ⟨b, j + 2, none⟩ = some T[j] := h.tl j _ (by simp [hj])
  refine ⟨⟨⟨a, n, c, (World.cell?_setCell_other _ _ _ _ (by simp)).trans h1, h2.keptR (kept_set _ _ _ _) (fun hp x hx e => (h3 hp x hx).2 (by injection e)), h3⟩, (World.cell?_setCell_other _ _ _ _ (by simp)).trans h.c1, (frozen_set _ _ _ _).trans h.f0, (frozen_set _ _ _ _).trans h.f1, ?_, (frozen_set _ _ _ _).trans h.f2, h.lt⟩, fun i x hx => ?_, fun i => (frozen_set _ _ _ _).trans (h.fz i)⟩
  · by_cases e : j = 0
    · subst e; exact ⟨v, World.cell?_setCell_same' _ _ _ (by rw [hu]; rfl)⟩
    · exact ⟨u, (World.cell?_setCell_other _ _ _ _ (by simp [e])).trans hu⟩
  · rw [Array.getElem?_setIfInBounds] at hx
    by_cases e : j = i
    · subst e
      rw [if_pos rfl] at hx
      simp [hj] at hx
      subst hx
      exact World.cell?_setCell_same' _ _ _ (by rw [ho]; rfl)
    · rw [if_neg e] at hx
      exact (World.cell?_setCell_other _ _ _ _ (by simp [e])).trans (h.tl i x hx)
set_option maxRecDepth 100000 in
set_option maxHeartbeats 1000000 in
theorem upTo_t {T : Array Value} {w : World} {H b : Nat} {s : Rd} (h : Rt T w H b s) (most : Nat) (hm : most < 18446744073709551616) : Calls Tryd.prog 82 #[.pointer (some ⟨b, 0, none⟩), .int .u64 most] w fun e w' => e = .returned (.int .u64 ((upM most s).1 : Int)) ∧ Rt T w' H b (upM most s).2 ∧ Kept w w' (some b) := by
  have HR := Hid.mk' h
  obtain ⟨a, n, c, h1, h2, h3⟩ := h.ex
  have c1 := h.c1
  have f0 := h.f0
  have f1 := h.f1
  have HC := Hid.mk' h2
  have HX := Hid.mk' h3
  have hnN := rdN_lt s.1
  have hroom := h2.room
  have hcap := h2.max
  obtain ⟨L, bd⟩ := s
  dsimp only at *
  clear h h2 h3
  cases bd with
  | true =>
    have hE : upM most (L, true) = (0, (L, true)) := upM_no rfl
    rw [hE]
    go_enter Tryd.func82, Tryd.ntmps82
    go_wp2_with (go_at_call 107; refine (read_any HC.out.by_ HC.out.nil hroom hcap).mono ?_; rintro e w2 ⟨rfl, m, rfl⟩)
    go_ret
    exact ⟨rfl, (HR.out.kept (Kept.drewN _ _ none) (fun i e => by cases e)).bad, (Kept.drewN _ _ _).tr (kept_set _ _ _ _)⟩
  | false =>
    cases hok : okR L with
    | false =>
      have hE : upM most (L, false) = (0, (L, true)) := upM_no (by rw [hok]; rfl)
      rw [hE]
      obtain ⟨d1, d2, d3⟩ := rd_none (L := L) (by rw [hok]; decide)
      go_enter Tryd.func82, Tryd.ntmps82
      go_wp2_with (go_at_call 107; refine (read_any HC.out.by_ HC.out.nil hroom hcap).mono ?_; rintro e w2 ⟨rfl, m, rfl⟩; rw [d1, d2, d3])
      go_ret
      exact ⟨rfl, (HR.out.kept (Kept.drewN _ _ none) (fun i e => by cases e)).bad, (Kept.drewN _ _ _).tr (kept_set _ _ _ _)⟩
    | true =>
      obtain ⟨d1, d2, d3⟩ := rd_some (L := L) hok
      have hro := read_only L HC.out.by_.lt hok
      have hsz := HC.out.by_.size
      have hkn : rdK L ≤ n := by have := hro.2.2.1; omega
      have hk1 := hro.2.1
      have d3' : ((rdE L : Nat) : Int) = 0 := by rw [d3]; rfl
      have HSZ := Hid.mk' hsz
      clear d1 d2 d3 hro hsz
      by_cases hle : rdN L ≤ most
      · have hE : upM most (L, false) = (rdN L, (L.drop (rdK L), false)) := upM_yes (by rw [hok]; simp [hle])
        rw [hE]
        clear hE
        obtain ⟨bb, off, rfl, hbb, _⟩ := HC.out.by_.at_ (by omega)
        generalize hK : rdK L = K at *
        have HK := Hid.mk' hK
        clear hK
        generalize hNN : rdN L = N at *
        have HN := Hid.mk' hNN
        clear hNN
        have hdrop : ∀ m, Rt T (w.drewN m) H b (L, false) := fun m => HR.out.kept (Kept.drewN _ _ none) (fun i e => by cases e)
        have HD := Hid.mk' hdrop
        have hCm : ∀ m, Come (w.drewN m) (some ⟨bb, off + K, none⟩) (n - K) (c - K) (L.drop K) := fun m => ⟨(HC.out.by_.drop K hkn).drewN m, fun e => (nomatch e), by omega, by omega⟩
        have HCm := Hid.mk' hCm
        have hXm : 0 < n - K → ∀ x, some (⟨bb, off + K, none⟩ : Addr) = some x → x.block < H ∧ x.block ≠ b := fun hp x hx => by
          injection hx with hx
          subst hx
          exact HX.out (by omega) ⟨bb, off, none⟩ rfl
        have HXm := Hid.mk' hXm
        clear hdrop hCm hXm
        by_cases hcK : K = c
        · have hnK : n = K := by omega
          have hL0 : L.drop K = [] := by rw [List.drop_eq_nil_iff]; have := HSZ.out; omega
          subst hnK
          subst hcK
          rw [hL0]
          clear hL0 HCm HXm
          go_enter Tryd.func82, Tryd.ntmps82
          go_wp2_with (go_at_call 107; refine (read_any HC.out.by_ HC.out.nil hroom hcap).mono ?_; rintro e w2 ⟨rfl, m, rfl⟩; rw [HK.out, HN.out, d3'])
          all_goals
            go_ret
            exact ⟨rfl, (HD.out _).set ⟨By.nil _ _, fun e => (by first | rfl | cases e), Nat.le_refl _, by omega⟩ (fun hp => absurd hp (by omega)), (Kept.drewN _ _ _).tr (kept_set _ _ _ _)⟩
        · have hcK2 : ¬ c = K := fun e => hcK e.symm
          have hcK3 : K < c := by omega
          go_enter Tryd.func82, Tryd.ntmps82
          go_wp2_with (go_at_call 107; refine (read_any HC.out.by_ HC.out.nil hroom hcap).mono ?_; rintro e w2 ⟨rfl, m, rfl⟩; rw [HK.out, HN.out, d3'])
          go_ret
          exact ⟨rfl, (HD.out _).set (HCm.out _) HXm.out, (Kept.drewN _ _ _).tr (kept_set _ _ _ _)⟩
      · have hE : upM most (L, false) = (0, (L, true)) := upM_no (by rw [hok]; simp [hle])
        rw [hE]
        have hgt : most < rdN L := by omega
        go_enter Tryd.func82, Tryd.ntmps82
        go_wp2_with (go_at_call 107; refine (read_any HC.out.by_ HC.out.nil hroom hcap).mono ?_; rintro e w2 ⟨rfl, m, rfl⟩; rw [d3'])
        go_ret
        exact ⟨rfl, (HR.out.kept (Kept.drewN _ _ none) (fun i e => by cases e)).bad, (Kept.drewN _ _ _).tr (kept_set _ _ _ _)⟩

theorem number_t {T : Array Value} {w : World} {H b : Nat} {s : Rd} (h : Rt T w H b s) : Calls Tryd.prog 53 #[.pointer (some ⟨b, 0, none⟩)] w fun e w' => e = .returned (.int .i64 (numM s).1) ∧ Rt T w' H b (numM s).2 ∧ Kept w w' (some b) := by
  have HR := Hid.mk' h
  have hle : (upM 1048576 s).1 ≤ 1048576 := by
    unfold upM
    split
    · rename_i hc
      simp only [Bool.and_eq_true, decide_eq_true_eq] at hc
      exact hc.2.2
    · omega
  have HE : Hid ((numM s).1 = ((upM 1048576 s).1 : Int) ∧ (numM s).2 = (upM 1048576 s).2) := ⟨rfl, rfl⟩
  have hU := upTo_t h 1048576 (by omega)
  have HU := Hid.mk' hU
  clear h hU
  generalize upM 1048576 s = u at *
  go_enter Tryd.func53, Tryd.ntmps53
  go_wp2_with (go_at_call 82; refine HU.out.mono ?_; rintro e w2 ⟨rfl, hr2, hk2⟩)
  go_ret
  exact ⟨by rw [HE.out.1]; rfl, by rw [HE.out.2]; exact hr2, hk2⟩
theorem many_t {T : Array Value} {w : World} {H b : Nat} {s : Rd} (h : Rt T w H b s) (most : Nat) (hm : most ≤ 1000) : Calls Tryd.prog 49 #[.pointer (some ⟨b, 0, none⟩), .int .i64 most] w fun e w' => e = .returned (.int .i64 ((upM most s).1 : Int)) ∧ Rt T w' H b (upM most s).2 ∧ Kept w w' (some b) := by
  have hle := upM_le most s
  have hU := upTo_t h most (by omega)
  have HU := Hid.mk' hU
  clear h hU
  generalize upM most s = u at *
  go_enter Tryd.func49, Tryd.ntmps49
  go_wp2_with (go_at_call 82; refine HU.out.mono ?_; rintro e w2 ⟨rfl, hr2, hk2⟩)
  go_ret
  exact ⟨rfl, hr2, hk2⟩
set_option maxRecDepth 100000 in
set_option maxHeartbeats 1000000 in
theorem list_int_t {T : Array Value} {w : World} {H b : Nat} {s : Rd} (h : Rt T w H b s) (hH : H ≤ w.heap.size) (n : Nat) (hn : n ≤ 24) : Calls Tryd.prog 85 #[.int .i64 n, .func (.func 53) #[.pointer (some ⟨b, 0, none⟩)] #[]] w fun e w' => e = .returned (.slice (some ⟨w.heap.size, 0, none⟩) n n) ∧ Lie w' (some ⟨w.heap.size, 0, none⟩) n 1 (fun i j => .int .i64 ((listM numM n s).1.getD i 0)) ∧ Rt T w' H b (listM numM n s).2 ∧ Kept w w' (some b) := by
  obtain ⟨i0, hi0, hz0, hz1, hz2⟩ := info_parts (show (Tryd.prog.info? 3).map (fun i => (i.zero, i.size, i.bytes)) = some (some (.int .i64 0), 1, 8) from by kernel_rfl)
  have hmk := run_make (P := Tryd.prog) w 31 3 i0 _ (by kernel_rfl) hi0 hz0 .i64 .i64 n n (by omega) (Int.le_refl _) (by rw [hz2]; omega) (by omega)
  rw [hz1, Int.toNat_natCast] at hmk
  have hrow0 := madeRow w (Value.cells (.int .i64 0)) (n * 1) 3
  have hr0 := h.kept (Kept.alloc w (madeCells (Value.cells (.int .i64 0)) (n * 1)) 3 (0, 0) none) (fun i e => by cases e)
  have hk0 : Kept w (w.alloc (.cells (madeCells (Value.cells (.int .i64 0)) (n * 1)) 3)) (some b) := Kept.alloc _ _ _ _ _
  have hbl := h.lt
  have hbs : some w.heap.size ≠ some b := fun e => by injection e; omega
  generalize hW0 : w.alloc (.cells (madeCells (Value.cells (.int .i64 0)) (n * 1)) 3) = W0 at *
  have HR0 := Hid.mk' hr0
  have HRow0 := Hid.mk' hrow0
  clear h hr0 hrow0 hW0
  go_enter Tryd.func85, Tryd.ntmps85
  go_wp2
  clear hmk
  go_loopw [11] (fun i wr => ∃ k : Nat, k ≤ n ∧ i = .int .i64 k ∧ (∃ f, wr.rowIs w.heap.size 3 (n * 1) f ∧ ∀ i, i < k → ∀ j, j < 1 → f (i * 1 + j) = (fun i j => .int .i64 ((listM numM k s).1.getD i 0)) i j) ∧ Rt T wr H b (listM numM k s).2 ∧ Kept w wr (some b)) (fun i _ => n - (intOf i).toNat)
  case atStart => exact ⟨0, Nat.zero_le _, rfl, ⟨_, HRow0.out, fun i hi => by omega⟩, HR0.out, hk0⟩
  case round =>
    obtain ⟨k, hk, rfl, ⟨f, hrow, hf⟩, hr, hkw⟩ := hrel
    by_cases hlt : k < n
    · have hcall := number_t hr
      have hsn := listM_snoc numM k s
      have hlen := listM_len numM k s
      have HF := Hid.mk' hf
      have HROW := Hid.mk' hrow
      have HSN := Hid.mk' hsn
      have HLEN := Hid.mk' hlen
      have HCALL := Hid.mk' hcall
      clear hf hrow hsn hlen hcall hr
      generalize hx : (numM (listM numM k s).2).1 = x at *
      clear hx
      go_wp2_with (refine HCALL.out.mono ?_; rintro e w2 ⟨rfl, hr2, hk2⟩; have hrow2 := row_kept HROW.out hk2 hbs; have k0 := hrow2.cell (i := k) (by have := idx_lt (j := 0) hlt (show 0 < 1 by omega); omega); have z0 := hrow2.frozen (k))
      go_roundw
      case rel =>
        refine ⟨k + 1, by omega, by go_num, ⟨_, (World.rowIs.set hrow2 (k) (.int .i64 x)), fun i hi j hj => ?_⟩, by rw [HSN.out]; exact (hr2.setNew hH (k) _), (kept_new (hkw.tr hk2) (Nat.le_refl _) (k) _)⟩
        rw [HSN.out]
        by_cases hik : i = k
        · subst hik
          have : j = 0 := by omega
          try dsimp only
          rw [getD_snoc_eq HLEN.out.symm]
          subst this; simp
        · have hne := fun q => idx_ne (q := q) (show i < k by omega) hj
          try dsimp only
          rw [getD_snoc_lt (by rw [HLEN.out]; omega)]
          have h0 := HF.out i (by omega) j hj
          try dsimp only at h0
          rw [← h0]
          rw [if_neg (by have := hne 0; omega)]
      case measure => simp [intOf]; omega
    · have hkk : k = n := by omega
      subst hkk
      have HL := Hid.mk' (lie_row hrow hf)
      clear hf hrow
      go_wp2
      go_ret
      exact ⟨rfl, HL.out, hr, hkw⟩
/-- So many of the bytes as the next number tells. -/
def pieceM (s : Rd) : List Nat × Rd := if (upM 18446744073709551615 s).1 ≤ (upM 18446744073709551615 s).2.1.length then ((upM 18446744073709551615 s).2.1.take (upM 18446744073709551615 s).1, ((upM 18446744073709551615 s).2.1.drop (upM 18446744073709551615 s).1, (upM 18446744073709551615 s).2.2)) else ([], ((upM 18446744073709551615 s).2.1, true))
theorem come_take {w : World} {a : Option Addr} {n c K : Nat} {L : List Nat} (h : Come w a n c L) (hK : K ≤ n) : Come w a K c (L.take K) := ⟨h.by_.take K hK, h.nil, by have := h.room; omega, h.max⟩
set_option maxRecDepth 100000 in
set_option maxHeartbeats 2000000 in
theorem piece_t {T : Array Value} {w : World} {H b : Nat} {s : Rd} (h : Rt T w H b s) : Calls Tryd.prog 84 #[.pointer (some ⟨b, 0, none⟩)] w fun e w' => ∃ a n c, e = .returned (.slice a n c) ∧ Come w' a n c (pieceM s).1 ∧ Rt T w' H b (pieceM s).2 ∧ Kept w w' (some b) := by
  have hU := upTo_t h 18446744073709551615 (by omega)
  have HU := Hid.mk' hU
  have HE : Hid (pieceM s = if (upM 18446744073709551615 s).1 ≤ (upM 18446744073709551615 s).2.1.length then ((upM 18446744073709551615 s).2.1.take (upM 18446744073709551615 s).1, ((upM 18446744073709551615 s).2.1.drop (upM 18446744073709551615 s).1, (upM 18446744073709551615 s).2.2)) else ([], ((upM 18446744073709551615 s).2.1, true))) := rfl
  have hle := upM_le 18446744073709551615 s
  clear hU h
  generalize upM 18446744073709551615 s = u at *
  obtain ⟨K, L, bd⟩ := u
  dsimp only at *
  go_enter Tryd.func84, Tryd.ntmps84
  by_cases hKL : K ≤ L.length
  case neg =>
    rw [HE.out, if_neg hKL]
    clear HE
    go_wp2_with (go_at_call 82; refine HU.out.mono ?_; rintro e w2 ⟨rfl, hr2, hk2⟩; obtain ⟨a, n, c, h1, h2, h3⟩ := hr2.ex; have f1 := hr2.f1; have c1 := hr2.c1; have hsz := h2.by_.size; have hrm := h2.room; have hmx := h2.max; dsimp only at hsz; have R2 := Hid.mk' hr2; clear hr2 h2 h3)
    all_goals first
      | omega
      | skip
    go_ret
    exact ⟨none, 0, 0, rfl, ⟨By.nil _ _, fun _ => rfl, Nat.le_refl _, by omega⟩, R2.out.bad, hk2.tr (kept_set _ _ _ _)⟩
  case pos =>
    rw [HE.out, if_pos hKL]
    clear HE
    go_wp2_with (go_at_call 82; refine HU.out.mono ?_; rintro e w2 ⟨rfl, hr2, hk2⟩; obtain ⟨a, n, c, h1, h2, h3⟩ := hr2.ex; have f0 := hr2.f0; have hsz := h2.by_.size; have hrm := h2.room; have hmx := h2.max; dsimp only at hsz; have hKn : K ≤ n := (by omega); have HH2 := Hid.mk' h2; have HH3 := Hid.mk' h3; have R2 := Hid.mk' hr2; clear hr2 h2 h3; obtain _ | ⟨bb, off, pth⟩ := a)
    · have hc0 := HH2.out.nil rfl
      have hK0 : K = 0 := by omega
      have hn0 : n = 0 := by omega
      subst hK0 hn0 hc0
      go_ret
      exact ⟨none, 0, 0, rfl, (come_take HH2.out (Nat.le_refl _)).keptR (kept_set _ _ _ _) (fun hp => absurd hp (by omega)), R2.out.set HH2.out HH3.out, hk2.tr (kept_set _ _ _ _)⟩
    · have hcK : c = K := by assumption
      have hn0 : n = K := by omega
      have hd : L.drop K = [] := by rw [List.drop_eq_nil_iff]; omega
      subst hcK hn0
      rw [hd, Nat.sub_self]
      go_ret
      exact ⟨_, n, n, rfl, (come_take HH2.out (Nat.le_refl _)).keptR (kept_set _ _ _ _) (fun hp x hx e => (HH3.out hp x hx).2 (by injection e)), R2.out.set ⟨By.nil _ _, fun e => (nomatch e), Nat.le_refl _, by omega⟩ (fun hp => absurd hp (by omega)), hk2.tr (kept_set _ _ _ _)⟩
    · have hcK : ¬ c = K := by assumption
      have hC : Come w2 (some ((⟨bb, off, pth⟩ : Addr).add K)) (n - K) (c - K) (L.drop K) := by
        by_cases hn0 : n = K
        · have hd : L.drop K = [] := by rw [List.drop_eq_nil_iff]; omega
          rw [hd, hn0, Nat.sub_self]
          exact ⟨By.nil _ _, fun e => (nomatch e), by omega, by omega⟩
        · obtain ⟨b', off', e, _, _⟩ := HH2.out.by_.at_ (by omega)
          injection e with e
          injection e with e1 e2 e3
          subst e1 e2 e3
          have hbd := HH2.out.by_.drop K hKn
          refine ⟨?_, fun e => (nomatch e), by omega, by omega⟩
          by_cases hK0 : K = 0
          · subst hK0; simpa [Addr.add] using hbd
          · simpa [Addr.add, hK0] using hbd
      go_ret
      exact ⟨_, K, c, rfl, (come_take HH2.out hKn).keptR (kept_set _ _ _ _) (fun hp x hx e => (HH3.out (by omega) x hx).2 (by injection e)), R2.out.set hC (fun hp x hx => by
        injection hx with hx
        subst hx
        have h9 := HH3.out (by omega) ⟨bb, off, pth⟩ rfl
        have h8 : ((⟨bb, off, pth⟩ : Addr).add K).block = bb := by
          unfold Addr.add
          split <;> first | rfl | (split <;> rfl)
        rw [h8]
        exact h9), hk2.tr (kept_set _ _ _ _)⟩

end Go.Proofs.YtoahbpdgbiachaaDoor

/-
  THE CONTRACTS of what reads a site, a sub, a wed of a region.
-/
namespace Go.Proofs.YtoahbpdgbiachaaDoor
open Go.RowKit Go.Lib Go.Deep
set_option linter.unusedVariables false
set_option linter.unusedSimpArgs false

/-- What is told of a site's bytes. -/
def rdS (L : List Nat) : St := if readB L = true then readS L else S0
theorem sat_zero (w : World) : Sat w X0 S0 := by
  have hc : Cap none 0 0 := ⟨fun _ => ⟨rfl, rfl⟩, Nat.le_refl _, by omega⟩
  have hl : ∀ k f, Lie w none 0 k f := fun k f => ⟨fun h => absurd h (by omega)⟩
  have h0 : i64B 0 := by unfold i64B; omega
  exact ⟨hl _ _, hl _ _, ⟨⟨fun _ => (none, 0), hl _ _, fun i hi => absurd hi (by simp [S0])⟩, rfl, hc⟩, hl _ _, hl _ _, ⟨⟨fun _ => (none, 0), hl _ _, fun i hi => absurd hi (by simp [S0])⟩, rfl, hc, fun p hp => (nomatch hp)⟩, hc, hc, hc, hc, fun p hp => (nomatch hp), fun p hp => (nomatch hp), fun p hp => (nomatch hp), fun p hp => (nomatch hp), ⟨h0, h0, h0, h0, h0, h0⟩⟩
theorem read_site2 {w : World} {a : Option Addr} {n c : Nat} {L : List Nat} (h : Come w a n c L) (hT : Tabb w) (hTb : Table w) : Calls Tryd.prog 83 #[.slice a n c] w fun e w' => ∃ X ec, e = .returned (.tuple #[siteV X (rdS L), .int .i64 ec]) ∧ (∀ w'', Ltr (w.heap.size + 1) w' w'' → Sat w'' X (rdS L)) ∧ Kept w w' none := by
  refine (read_site h hT hTb).mono ?_
  rintro e w' ⟨hk, ⟨hB, X, rfl, hS⟩ | ⟨hB, rfl⟩⟩
  · refine ⟨X, 0, ?_, ?_, hk⟩
    · unfold rdS; rw [if_pos hB]
    · unfold rdS; rw [if_pos hB]; exact hS
  · have e : rdS L = S0 := by unfold rdS; rw [if_neg (by rw [hB]; decide)]
    rw [e]
    exact ⟨X0, 8, rfl, fun w'' _ => sat_zero w'', hk⟩
/-- The tables stay, whatever becomes of block b. -/
def Tabs (w : World) (b : Nat) : Prop := ∀ w', Kept w w' (some b) → Tabb w' ∧ Table w'
theorem Tabs.kept {w w' : World} {b : Nat} (h : Tabs w b) (q : Kept w w' (some b)) : Tabs w' b := fun w'' k => h w'' (q.tr k)
def nsiteM (s : Rd) : St × Rd := mapM' rdS pieceM s
def subM : Rd → Sb × Rd := mapM' (fun z : List Int × Int => (⟨z.1, z.2⟩ : Sb)) (bindM (countM 12 numM) (fun _ => numM))
def wedM : Rd → Wd × Rd := mapM' (fun z : Int × (Int × (Int × List Int)) => (⟨z.1, z.2.1, z.2.2.1, z.2.2.2⟩ : Wd)) (bindM numM (fun _ => bindM numM (fun _ => bindM numM (fun _ => countM 8 numM))))
set_option maxRecDepth 100000 in
set_option maxHeartbeats 2000000 in
theorem nsite_rd {T : Array Value} {w : World} {H b : Nat} {s : Rd} (h : Rt T w H b s) (hH : H ≤ w.heap.size) (hT : Tabs w b) : Calls Tryd.prog 50 #[.pointer (some ⟨b, 0, none⟩)] w fun e w' => ∃ X : Sa, e = .returned (siteV X (nsiteM s).1) ∧ (∀ w'', Ltr (w.heap.size + 1) w' w'' → Sat w'' X (nsiteM s).1) ∧ Rt T w' H b (nsiteM s).2 ∧ Kept w w' (some b) := by
  have hbl := h.lt
  have hkZ : Kept w (w.alloc (.cells zS 48)) (some b) := Kept.alloc w _ _ (0, 0) _
  have HKZ := Hid.mk' hkZ
  have HR0 := Hid.mk' (piece_t (h.alloc zS 48))
  have HROW := Hid.mk' (zrow w)
  have HTA := Hid.mk' (hT.kept hkZ)
  have HE : Hid (nsiteM s = (rdS (pieceM s).1, (pieceM s).2)) := rfl
  have hbs : some w.heap.size ≠ some b := fun e => by injection e; omega
  rw [HE.out]
  clear h hT hkZ HE
  generalize pieceM s = u at *
  obtain ⟨P, s1⟩ := u
  dsimp only at *
  generalize hS : rdS P = S at *
  have HS := Hid.mk' hS
  clear hS
  go_enter Tryd.func50, Tryd.ntmps50
  go_wp2_with (first
    | (have hgo := HC2; clear hgo; go_at_call 83; have hn := read_site2 HC2.out (HTA.out _ hk2).1 (HTA.out _ hk2).2; rw [HS.out] at hn; refine hn.mono ?_; rintro e w3 ⟨X, ec, rfl, hs3, hk3⟩; have HR3 := Hid.mk' (HR2.out.kept hk3 (fun i e => by cases e)); have HK3 := Hid.mk' ((HKZ.out.tr hk2).tr (kept_any hk3)); have R3 := row_kept (row_kept HROW.out hk2 hbs) hk3 (by simp); have R4 := Hid.mk' (World.rowIs.alloc R3 (.cells #[.int .i64 S.id, .slice X.g S.groups.length X.gc, .slice X.a S.apart.length X.ac, .slice X.b S.between.length X.bc, .slice X.p S.phases.length X.pc, .slice X.e S.eyes.length X.ec, .int .i64 S.watch, .int .i64 S.feed, .int .i64 S.heal, .int .i64 S.low, .int .i64 S.high, .slice X.l S.plans.length X.lc] 48)); clear R3; have hlt3 := R4.out.lt; obtain ⟨r0, r1, r2, r3, r4, r5, r6, r7, r8, r9, r10, r11, y0, y1, y2, y3, y4, y5, y6, y7, y8, y9, y10, y11⟩ := zcells R4.out; have HS3 := Hid.mk' hs3; clear hs3)
    | (go_at_call 84; refine HR0.out.mono ?_; rintro e w2 ⟨a2, n2, c2, rfl, hc2, hr2, hk2⟩; have HC2 := Hid.mk' hc2; have HR2 := Hid.mk' hr2; clear hc2 hr2))
  obtain ⟨_, hlW, q0, q1, q2, q3, q4, q5, q6, q7, q8, q9, q10, q11⟩ := row12 (w0 := { (w3.alloc (.cells #[.int .i64 S.id, .slice X.g S.groups.length X.gc, .slice X.a S.apart.length X.ac, .slice X.b S.between.length X.bc, .slice X.p S.phases.length X.pc, .slice X.e S.eyes.length X.ec, .int .i64 S.watch, .int .i64 S.feed, .int .i64 S.heal, .int .i64 S.low, .int .i64 S.high, .slice X.l S.plans.length X.lc] 48)) with heap := #[] }) (lo := w.heap.size + 1) R4.out ⟨rfl, rfl, rfl, Nat.zero_le _, fun k hk => absurd hk (Nat.not_lt_zero _)⟩ (Nat.zero_le _) (Nat.lt_succ_self _) (.int .i64 S.id) (.slice X.g S.groups.length X.gc) (.slice X.a S.apart.length X.ac) (.slice X.b S.between.length X.bc) (.slice X.p S.phases.length X.pc) (.slice X.e S.eyes.length X.ec) (.int .i64 S.watch) (.int .i64 S.feed) (.int .i64 S.heal) (.int .i64 S.low) (.int .i64 S.high) (.slice X.l S.plans.length X.lc)
  have HKW := Hid.mk' (kept_new (kept_new (kept_new (kept_new (kept_new (kept_new (kept_new (kept_new (kept_new (kept_new (kept_new (kept_new (HK3.out.tr (Kept.alloc w3 #[.int .i64 S.id, .slice X.g S.groups.length X.gc, .slice X.a S.apart.length X.ac, .slice X.b S.between.length X.bc, .slice X.p S.phases.length X.pc, .slice X.e S.eyes.length X.ec, .int .i64 S.watch, .int .i64 S.feed, .int .i64 S.heal, .int .i64 S.low, .int .i64 S.high, .slice X.l S.plans.length X.lc] 48 (0, 0) _)) (Nat.le_refl _) 0 (.int .i64 S.id)) (Nat.le_refl _) 1 (.slice X.g S.groups.length X.gc)) (Nat.le_refl _) 2 (.slice X.a S.apart.length X.ac)) (Nat.le_refl _) 3 (.slice X.b S.between.length X.bc)) (Nat.le_refl _) 4 (.slice X.p S.phases.length X.pc)) (Nat.le_refl _) 5 (.slice X.e S.eyes.length X.ec)) (Nat.le_refl _) 6 (.int .i64 S.watch)) (Nat.le_refl _) 7 (.int .i64 S.feed)) (Nat.le_refl _) 8 (.int .i64 S.heal)) (Nat.le_refl _) 9 (.int .i64 S.low)) (Nat.le_refl _) 10 (.int .i64 S.high)) (Nat.le_refl _) 11 (.slice X.l S.plans.length X.lc))
  have HRW := Hid.mk' (((((((((((((HR3.out.alloc #[.int .i64 S.id, .slice X.g S.groups.length X.gc, .slice X.a S.apart.length X.ac, .slice X.b S.between.length X.bc, .slice X.p S.phases.length X.pc, .slice X.e S.eyes.length X.ec, .int .i64 S.watch, .int .i64 S.feed, .int .i64 S.heal, .int .i64 S.low, .int .i64 S.high, .slice X.l S.plans.length X.lc] 48).setNew hH 0 (.int .i64 S.id)).setNew hH 1 (.slice X.g S.groups.length X.gc)).setNew hH 2 (.slice X.a S.apart.length X.ac)).setNew hH 3 (.slice X.b S.between.length X.bc)).setNew hH 4 (.slice X.p S.phases.length X.pc)).setNew hH 5 (.slice X.e S.eyes.length X.ec)).setNew hH 6 (.int .i64 S.watch)).setNew hH 7 (.int .i64 S.feed)).setNew hH 8 (.int .i64 S.heal)).setNew hH 9 (.int .i64 S.low)).setNew hH 10 (.int .i64 S.high)).setNew hH 11 (.slice X.l S.plans.length X.lc))
  have HLW := Hid.mk' hlW
  have hz2 : w.heap.size + 1 ≤ w2.heap.size + 1 := by have := hk2.size; have := HKZ.out.size; omega
  have HK3' := Hid.mk' hk3
  clear hlW r0 r1 r2 r3 r4 r5 r6 r7 r8 r9 r10 r11 y0 y1 y2 y3 y4 y5 y6 y7 y8 y9 y10 y11
  refine bodyPost_ret (v := siteV X S) (by simp [results, Tryd.results50, go_sem, q0, q1, q2, q3, q4, q5, q6, q7, q8, q9, q10, q11]) rfl ?_
  exact ⟨X, rfl, fun w'' q => HS3.out w'' (Ltr.up ((Ltr.of_none (Kept.alloc _ _ _ (0, 0) _)).tr (HLW.out.tr q)) hz2), HRW.out, HKW.out⟩
theorem ints_list {w w'' : World} {g n lo : Nat} {l : List Int} (h : Lie w (some ⟨g, 0, none⟩) n 1 (fun i j => .int .i64 (l.getD i 0))) (hl : l.length = n) (hn : n ≤ 1000) (hr : ∀ x ∈ l, 0 ≤ x ∧ x ≤ 1048576) (q : Ltr lo w w'') (hg : lo ≤ g) : Ints w'' (some ⟨g, 0, none⟩) l.length n l :=
  ⟨by rw [hl]; exact h.ltr q hg, rfl, by rw [hl]; exact cap_some hn, fun x hx => by have := hr x hx; omega⟩
set_option maxRecDepth 100000 in
set_option maxHeartbeats 2000000 in
theorem nsub_rd {T : Array Value} {w : World} {H b : Nat} {s : Rd} (h : Rt T w H b s) (hH : H ≤ w.heap.size) : Calls Tryd.prog 52 #[.pointer (some ⟨b, 0, none⟩)] w fun e w' => ∃ p : Option Addr × Nat, e = .returned (.agg #[.slice p.1 (subM s).1.sites.length p.2, .int .i64 (subM s).1.critical]) ∧ (∀ w'', Ltr (w.heap.size + 1) w' w'' → Ints w'' p.1 (subM s).1.sites.length p.2 (subM s).1.sites) ∧ Rt T w' H b (subM s).2 ∧ Kept w w' (some b) := by
  have hbl := h.lt
  have HE : Hid (subM s = (⟨(listM numM (upM 12 s).1 (upM 12 s).2).1, (numM (listM numM (upM 12 s).1 (upM 12 s).2).2).1⟩, (numM (listM numM (upM 12 s).1 (upM 12 s).2).2).2)) := rfl
  have h0 := h.kept ((Kept.alloc w #[.slice none 0 0, .int .i64 0] 38 (0, 0) none).tr (Kept.drew _ none)) (fun i e => by cases e)
  have H0 := Hid.mk' h0
  have hrw0 : (w.alloc (.cells #[.slice none 0 0, .int .i64 0] 38)).rowIs w.heap.size 38 2 (fun i => #[.slice none 0 0, .int .i64 0][i]?.getD undef) := World.rowIs_alloc w #[.slice none 0 0, .int .i64 0] 38 _ (fun i hi => by simp at hi; simp [hi])
  have HRW := Hid.mk' hrw0
  clear h h0 hrw0
  have hle := upM_le 12 s
  have HLEN := Hid.mk' (listM_len numM (upM 12 s).1 (upM 12 s).2)
  have HRNG : Hid (∀ x ∈ (listM numM (upM 12 s).1 (upM 12 s).2).1, 0 ≤ x ∧ x ≤ 1048576) := listM_all numM_le _ _
  generalize hu0 : upM 12 s = u0 at *
  have HU0 := Hid.mk' hu0
  clear hu0
  obtain ⟨v0, s0⟩ := u0
  dsimp only at *
  generalize hu1 : listM numM v0 s0 = u1 at *
  have HU1 := Hid.mk' hu1
  clear hu1
  obtain ⟨v1, s1⟩ := u1
  dsimp only at *
  generalize hu2 : numM s1 = u2 at *
  have HU2 := Hid.mk' hu2
  clear hu2
  obtain ⟨v2, s2⟩ := u2
  dsimp only at *
  rw [HE.out]
  clear HE
  dsimp only
  have hbs : some w.heap.size ≠ some b := fun e => by injection e; omega
  go_enter Tryd.func52, Tryd.ntmps52
  go_wp2
  refine wp_region_held_drew (S := fun _ => True) (by kernel_rfl) trivial (fun _ => ?_)
  refine held_take (i := 0) (v := ?vp1x0) rfl rfl (by kernel_rfl) (by kernel_rfl) (by kernel_rfl) (fun _ _ _ h => h) (Or.inl ⟨by rfl, ?hyp1x0⟩) trivial ?restp1x0
  case hyp1x0 => first | (intro w hSw; go_simp; done) | (intro w hSw; go_simp; with_reducible rfl)
  try simp only [List.setIfInBounds_toArray, List.set_cons_zero, List.set_cons_succ]
  refine held_take (i := 1) (v := ?vp1x1) rfl rfl (by kernel_rfl) (by kernel_rfl) (by kernel_rfl) (fun _ _ _ h => h) (Or.inl ⟨by rfl, ?hyp1x1⟩) trivial ?restp1x1
  case hyp1x1 => first | (intro w hSw; go_simp; done) | (intro w hSw; go_simp; with_reducible rfl)
  try simp only [List.setIfInBounds_toArray, List.set_cons_zero, List.set_cons_succ]
  refine held_take (i := 2) (v := ?vp1x2) rfl rfl (by kernel_rfl) (by kernel_rfl) (by kernel_rfl) (fun _ _ _ h => h) (Or.inl ⟨by rfl, ?hyp1x2⟩) trivial ?restp1x2
  case hyp1x2 => first | (intro w hSw; go_simp; done) | (intro w hSw; go_simp; with_reducible rfl)
  try simp only [List.setIfInBounds_toArray, List.set_cons_zero, List.set_cons_succ]
  refine held_take (i := 4) (v := ?vp1x4) rfl rfl (by kernel_rfl) (by kernel_rfl) (by kernel_rfl) (fun _ _ _ h => h) (Or.inl ⟨by rfl, ?hyp1x4⟩) trivial ?restp1x4
  case hyp1x4 => first | (intro w hSw; go_simp; done) | (intro w hSw; go_simp; with_reducible rfl)
  try simp only [List.setIfInBounds_toArray, List.set_cons_zero, List.set_cons_succ]
  refine held_take (i := 5) (v := ?vp1x5) rfl rfl (by kernel_rfl) (by kernel_rfl) (by kernel_rfl) (fun _ _ _ h => h) (Or.inl ⟨by rfl, ?hyp1x5⟩) trivial ?restp1x5
  case hyp1x5 => first | (intro w hSw; go_simp; done) | (intro w hSw; go_simp; with_reducible rfl)
  try simp only [List.setIfInBounds_toArray, List.set_cons_zero, List.set_cons_succ]
  refine held_take (i := 6) (v := ?vp1x6) rfl rfl (by kernel_rfl) (by kernel_rfl) (by kernel_rfl) (fun _ _ _ h => h) (Or.inl ⟨by rfl, ?hyp1x6⟩) trivial ?restp1x6
  case hyp1x6 => first | (intro w hSw; go_simp; done) | (intro w hSw; go_simp; with_reducible rfl)
  try simp only [List.setIfInBounds_toArray, List.set_cons_zero, List.set_cons_succ]
  refine held_take (i := 7) (v := ?vp1x7) rfl rfl (by kernel_rfl) (by kernel_rfl) (by kernel_rfl) (fun _ _ _ h => h) (Or.inl ⟨by rfl, ?hyp1x7⟩) trivial ?restp1x7
  case hyp1x7 => first | (intro w hSw; go_simp; done) | (intro w hSw; go_simp; with_reducible rfl)
  try simp only [List.setIfInBounds_toArray, List.set_cons_zero, List.set_cons_succ]
  refine held_take (i := 9) (v := ?vp1x9) rfl rfl (by kernel_rfl) (by kernel_rfl) (by kernel_rfl) (fun _ _ _ h => h) (Or.inl ⟨by rfl, ?hyp1x9⟩) trivial ?restp1x9
  case hyp1x9 => first | (intro w hSw; go_simp; done) | (intro w hSw; go_simp; with_reducible rfl)
  try simp only [List.setIfInBounds_toArray, List.set_cons_zero, List.set_cons_succ]
  refine held_take (i := 10) (v := ?vp1x10) rfl rfl (by kernel_rfl) (by kernel_rfl) (by kernel_rfl) (fun _ _ _ h => h) (Or.inl ⟨by rfl, ?hyp1x10⟩) trivial ?restp1x10
  case hyp1x10 => first | (intro w hSw; go_simp; done) | (intro w hSw; go_simp; with_reducible rfl)
  try simp only [List.setIfInBounds_toArray, List.set_cons_zero, List.set_cons_succ]
  refine held_take (i := 11) (v := ?vp1x11) rfl rfl (by kernel_rfl) (by kernel_rfl) (by kernel_rfl) (fun _ _ _ h => h) (Or.inl ⟨by rfl, ?hyp1x11⟩) trivial ?restp1x11
  case hyp1x11 => first | (intro w hSw; go_simp; done) | (intro w hSw; go_simp; with_reducible rfl)
  try simp only [List.setIfInBounds_toArray, List.set_cons_zero, List.set_cons_succ]
  refine wpAnyH_ready (rs := [3]) (by kernel_rfl) (by simp) ?_
  refine AllReadyH.cons rfl (fun K hK => ?_) AllReadyH.nil
  go_simp
  go_wp2_with (go_at_call 49; have hn := many_t H0.out 12 (by omega); rw [HU0.out] at hn; refine hn.mono ?_; rintro e w0 ⟨rfl, hr0, hk0⟩)
  refine hK.out _ _ trivial (fun _ => ?_)
  clear hK K
  have Q0 := Hid.mk' (row_kept (HRW.out.drew) hk0 hbs)
  refine wpAnyH_ready (rs := [8]) (by kernel_rfl) (by simp) ?_
  refine AllReadyH.cons rfl (fun K hK => ?_) AllReadyH.nil
  go_simp
  go_wp2_with (go_at_call 85; have hn := list_int_t hr0 (by have h1 := hk0.size; simp at h1; omega) v0 (by omega); rw [HU1.out] at hn; refine hn.mono ?_; rintro e w1 ⟨rfl, hl1, hr1, hk1⟩)
  refine hK.out _ _ trivial (fun _ => ?_)
  clear hK K
  have Q1 := Hid.mk' (row_kept (Q0.out) hk1 hbs)
  refine wpAnyH_ready (rs := [12]) (by kernel_rfl) (by simp) ?_
  refine AllReadyH.cons rfl (fun K hK => ?_) AllReadyH.nil
  go_simp
  go_wp2_with (go_at_call 53; have hn := number_t hr1; rw [HU2.out] at hn; refine hn.mono ?_; rintro e w2 ⟨rfl, hr2, hk2⟩)
  refine hK.out _ _ trivial (fun _ => ?_)
  clear hK K
  have Q2 := Hid.mk' (row_kept (Q1.out) hk2 hbs)
  have HINT : Hid (∀ w'', Ltr (w.heap.size + 1) w2 w'' → Ints w'' (some ⟨w0.heap.size, 0, none⟩) v1.length v0 v1) := fun w'' q => ints_list hl1 HLEN.out (by omega) HRNG.out ((hk2.ltr (by have := hk0.size; omega)).tr q) (by have h1 := hk0.size; simp at h1; omega)
  refine held_take (i := 13) (v := ?vp2x13) rfl rfl (by kernel_rfl) (by kernel_rfl) (by kernel_rfl) (fun _ _ _ h => h) (Or.inl ⟨by rfl, ?hyp2x13⟩) trivial ?restp2x13
  case hyp2x13 => first | (intro w hSw; go_simp; done) | (intro w hSw; go_simp; with_reducible rfl)
  try simp only [List.setIfInBounds_toArray, List.set_cons_zero, List.set_cons_succ]
  have k0 := Q2.out.cell (i := 0) (by omega)
  have z0 := Q2.out.frozen 0
  have k1 := Q2.out.cell (i := 1) (by omega)
  have z1 := Q2.out.frozen 1
  refine wpAnyH_ready (rs := [14]) (by kernel_rfl) (by simp) ?_
  refine AllReadyH.cons rfl (fun K hK => ?_) AllReadyH.nil
  go_simp
  refine hK.out _ _ trivial (fun _ => ?_)
  clear hK K
  refine wpAnyH_done (by kernel_rfl) ?_ _
  go_wp2
  have hrw := (World.rowIs.set (World.rowIs.set Q2.out 0 (.slice (some ⟨w0.heap.size, 0, none⟩) v0 v0)) 1 (.int .i64 v2))
  have q0 := hrw.cell (i := 0) (by omega)
  have q1 := hrw.cell (i := 1) (by omega)
  exact bodyPost_ret (v := .agg #[.slice (some ⟨w0.heap.size, 0, none⟩) v0 v0, .int .i64 v2]) (by simp [results, Tryd.results52, go_sem, q0, q1]) rfl ⟨(some ⟨w0.heap.size, 0, none⟩, v0), by rw [HLEN.out], fun w'' q => HINT.out w'' (((Ltr.set _ (Nat.lt_succ_self _) 0 _).tr (Ltr.set _ (Nat.lt_succ_self _) 1 _)).tr q), ((hr2.setNew hH 0 _).setNew hH 1 _), (kept_new (kept_new (((((Kept.alloc w _ _ _ _ : Kept w _ (some b)).tr (Kept.drew _ _)).tr hk0).tr hk1).tr hk2) (Nat.le_refl _) 0 _) (Nat.le_refl _) 1 _)⟩
set_option maxRecDepth 100000 in
set_option maxHeartbeats 2000000 in
theorem nwed_rd {T : Array Value} {w : World} {H b : Nat} {s : Rd} (h : Rt T w H b s) (hH : H ≤ w.heap.size) : Calls Tryd.prog 55 #[.pointer (some ⟨b, 0, none⟩)] w fun e w' => ∃ p : Option Addr × Nat, e = .returned (.agg #[.int .i64 (wedM s).1.a, .int .i64 (wedM s).1.b, .int .i64 (wedM s).1.votes, .slice p.1 (wedM s).1.offsets.length p.2]) ∧ (∀ w'', Ltr (w.heap.size + 1) w' w'' → Ints w'' p.1 (wedM s).1.offsets.length p.2 (wedM s).1.offsets) ∧ Rt T w' H b (wedM s).2 ∧ Kept w w' (some b) := by
  have hbl := h.lt
  have HE : Hid (wedM s = (⟨(numM s).1, (numM (numM s).2).1, (numM (numM (numM s).2).2).1, (listM numM (upM 8 (numM (numM (numM s).2).2).2).1 (upM 8 (numM (numM (numM s).2).2).2).2).1⟩, (listM numM (upM 8 (numM (numM (numM s).2).2).2).1 (upM 8 (numM (numM (numM s).2).2).2).2).2)) := rfl
  have h0 := h.kept ((Kept.alloc w #[.int .i64 0, .int .i64 0, .int .i64 0, .slice none 0 0] 40 (0, 0) none).tr (Kept.drew _ none)) (fun i e => by cases e)
  have H0 := Hid.mk' h0
  have hrw0 : (w.alloc (.cells #[.int .i64 0, .int .i64 0, .int .i64 0, .slice none 0 0] 40)).rowIs w.heap.size 40 4 (fun i => #[.int .i64 0, .int .i64 0, .int .i64 0, .slice none 0 0][i]?.getD undef) := World.rowIs_alloc w #[.int .i64 0, .int .i64 0, .int .i64 0, .slice none 0 0] 40 _ (fun i hi => by simp at hi; simp [hi])
  have HRW := Hid.mk' hrw0
  clear h h0 hrw0
  have hle := upM_le 8 (numM (numM (numM s).2).2).2
  have HLEN := Hid.mk' (listM_len numM (upM 8 (numM (numM (numM s).2).2).2).1 (upM 8 (numM (numM (numM s).2).2).2).2)
  have HRNG : Hid (∀ x ∈ (listM numM (upM 8 (numM (numM (numM s).2).2).2).1 (upM 8 (numM (numM (numM s).2).2).2).2).1, 0 ≤ x ∧ x ≤ 1048576) := listM_all numM_le _ _
  generalize hu0 : numM s = u0 at *
  have HU0 := Hid.mk' hu0
  clear hu0
  obtain ⟨v0, s0⟩ := u0
  dsimp only at *
  generalize hu1 : numM s0 = u1 at *
  have HU1 := Hid.mk' hu1
  clear hu1
  obtain ⟨v1, s1⟩ := u1
  dsimp only at *
  generalize hu2 : numM s1 = u2 at *
  have HU2 := Hid.mk' hu2
  clear hu2
  obtain ⟨v2, s2⟩ := u2
  dsimp only at *
  generalize hu3 : upM 8 s2 = u3 at *
  have HU3 := Hid.mk' hu3
  clear hu3
  obtain ⟨v3, s3⟩ := u3
  dsimp only at *
  generalize hu4 : listM numM v3 s3 = u4 at *
  have HU4 := Hid.mk' hu4
  clear hu4
  obtain ⟨v4, s4⟩ := u4
  dsimp only at *
  rw [HE.out]
  clear HE
  dsimp only
  have hbs : some w.heap.size ≠ some b := fun e => by injection e; omega
  go_enter Tryd.func55, Tryd.ntmps55
  go_wp2
  refine wp_region_held_drew (S := fun _ => True) (by kernel_rfl) trivial (fun _ => ?_)
  refine held_take (i := 0) (v := ?vp3x0) rfl rfl (by kernel_rfl) (by kernel_rfl) (by kernel_rfl) (fun _ _ _ h => h) (Or.inl ⟨by rfl, ?hyp3x0⟩) trivial ?restp3x0
  case hyp3x0 => first | (intro w hSw; go_simp; done) | (intro w hSw; go_simp; with_reducible rfl)
  try simp only [List.setIfInBounds_toArray, List.set_cons_zero, List.set_cons_succ]
  refine held_take (i := 1) (v := ?vp3x1) rfl rfl (by kernel_rfl) (by kernel_rfl) (by kernel_rfl) (fun _ _ _ h => h) (Or.inl ⟨by rfl, ?hyp3x1⟩) trivial ?restp3x1
  case hyp3x1 => first | (intro w hSw; go_simp; done) | (intro w hSw; go_simp; with_reducible rfl)
  try simp only [List.setIfInBounds_toArray, List.set_cons_zero, List.set_cons_succ]
  refine held_take (i := 2) (v := ?vp3x2) rfl rfl (by kernel_rfl) (by kernel_rfl) (by kernel_rfl) (fun _ _ _ h => h) (Or.inl ⟨by rfl, ?hyp3x2⟩) trivial ?restp3x2
  case hyp3x2 => first | (intro w hSw; go_simp; done) | (intro w hSw; go_simp; with_reducible rfl)
  try simp only [List.setIfInBounds_toArray, List.set_cons_zero, List.set_cons_succ]
  refine held_take (i := 4) (v := ?vp3x4) rfl rfl (by kernel_rfl) (by kernel_rfl) (by kernel_rfl) (fun _ _ _ h => h) (Or.inl ⟨by rfl, ?hyp3x4⟩) trivial ?restp3x4
  case hyp3x4 => first | (intro w hSw; go_simp; done) | (intro w hSw; go_simp; with_reducible rfl)
  try simp only [List.setIfInBounds_toArray, List.set_cons_zero, List.set_cons_succ]
  refine held_take (i := 5) (v := ?vp3x5) rfl rfl (by kernel_rfl) (by kernel_rfl) (by kernel_rfl) (fun _ _ _ h => h) (Or.inl ⟨by rfl, ?hyp3x5⟩) trivial ?restp3x5
  case hyp3x5 => first | (intro w hSw; go_simp; done) | (intro w hSw; go_simp; with_reducible rfl)
  try simp only [List.setIfInBounds_toArray, List.set_cons_zero, List.set_cons_succ]
  refine held_take (i := 6) (v := ?vp3x6) rfl rfl (by kernel_rfl) (by kernel_rfl) (by kernel_rfl) (fun _ _ _ h => h) (Or.inl ⟨by rfl, ?hyp3x6⟩) trivial ?restp3x6
  case hyp3x6 => first | (intro w hSw; go_simp; done) | (intro w hSw; go_simp; with_reducible rfl)
  try simp only [List.setIfInBounds_toArray, List.set_cons_zero, List.set_cons_succ]
  refine held_take (i := 8) (v := ?vp3x8) rfl rfl (by kernel_rfl) (by kernel_rfl) (by kernel_rfl) (fun _ _ _ h => h) (Or.inl ⟨by rfl, ?hyp3x8⟩) trivial ?restp3x8
  case hyp3x8 => first | (intro w hSw; go_simp; done) | (intro w hSw; go_simp; with_reducible rfl)
  try simp only [List.setIfInBounds_toArray, List.set_cons_zero, List.set_cons_succ]
  refine held_take (i := 9) (v := ?vp3x9) rfl rfl (by kernel_rfl) (by kernel_rfl) (by kernel_rfl) (fun _ _ _ h => h) (Or.inl ⟨by rfl, ?hyp3x9⟩) trivial ?restp3x9
  case hyp3x9 => first | (intro w hSw; go_simp; done) | (intro w hSw; go_simp; with_reducible rfl)
  try simp only [List.setIfInBounds_toArray, List.set_cons_zero, List.set_cons_succ]
  refine held_take (i := 10) (v := ?vp3x10) rfl rfl (by kernel_rfl) (by kernel_rfl) (by kernel_rfl) (fun _ _ _ h => h) (Or.inl ⟨by rfl, ?hyp3x10⟩) trivial ?restp3x10
  case hyp3x10 => first | (intro w hSw; go_simp; done) | (intro w hSw; go_simp; with_reducible rfl)
  try simp only [List.setIfInBounds_toArray, List.set_cons_zero, List.set_cons_succ]
  refine held_take (i := 12) (v := ?vp3x12) rfl rfl (by kernel_rfl) (by kernel_rfl) (by kernel_rfl) (fun _ _ _ h => h) (Or.inl ⟨by rfl, ?hyp3x12⟩) trivial ?restp3x12
  case hyp3x12 => first | (intro w hSw; go_simp; done) | (intro w hSw; go_simp; with_reducible rfl)
  try simp only [List.setIfInBounds_toArray, List.set_cons_zero, List.set_cons_succ]
  refine held_take (i := 13) (v := ?vp3x13) rfl rfl (by kernel_rfl) (by kernel_rfl) (by kernel_rfl) (fun _ _ _ h => h) (Or.inl ⟨by rfl, ?hyp3x13⟩) trivial ?restp3x13
  case hyp3x13 => first | (intro w hSw; go_simp; done) | (intro w hSw; go_simp; with_reducible rfl)
  try simp only [List.setIfInBounds_toArray, List.set_cons_zero, List.set_cons_succ]
  refine held_take (i := 14) (v := ?vp3x14) rfl rfl (by kernel_rfl) (by kernel_rfl) (by kernel_rfl) (fun _ _ _ h => h) (Or.inl ⟨by rfl, ?hyp3x14⟩) trivial ?restp3x14
  case hyp3x14 => first | (intro w hSw; go_simp; done) | (intro w hSw; go_simp; with_reducible rfl)
  try simp only [List.setIfInBounds_toArray, List.set_cons_zero, List.set_cons_succ]
  refine held_take (i := 16) (v := ?vp3x16) rfl rfl (by kernel_rfl) (by kernel_rfl) (by kernel_rfl) (fun _ _ _ h => h) (Or.inl ⟨by rfl, ?hyp3x16⟩) trivial ?restp3x16
  case hyp3x16 => first | (intro w hSw; go_simp; done) | (intro w hSw; go_simp; with_reducible rfl)
  try simp only [List.setIfInBounds_toArray, List.set_cons_zero, List.set_cons_succ]
  refine held_take (i := 17) (v := ?vp3x17) rfl rfl (by kernel_rfl) (by kernel_rfl) (by kernel_rfl) (fun _ _ _ h => h) (Or.inl ⟨by rfl, ?hyp3x17⟩) trivial ?restp3x17
  case hyp3x17 => first | (intro w hSw; go_simp; done) | (intro w hSw; go_simp; with_reducible rfl)
  try simp only [List.setIfInBounds_toArray, List.set_cons_zero, List.set_cons_succ]
  refine held_take (i := 18) (v := ?vp3x18) rfl rfl (by kernel_rfl) (by kernel_rfl) (by kernel_rfl) (fun _ _ _ h => h) (Or.inl ⟨by rfl, ?hyp3x18⟩) trivial ?restp3x18
  case hyp3x18 => first | (intro w hSw; go_simp; done) | (intro w hSw; go_simp; with_reducible rfl)
  try simp only [List.setIfInBounds_toArray, List.set_cons_zero, List.set_cons_succ]
  refine held_take (i := 19) (v := ?vp3x19) rfl rfl (by kernel_rfl) (by kernel_rfl) (by kernel_rfl) (fun _ _ _ h => h) (Or.inl ⟨by rfl, ?hyp3x19⟩) trivial ?restp3x19
  case hyp3x19 => first | (intro w hSw; go_simp; done) | (intro w hSw; go_simp; with_reducible rfl)
  try simp only [List.setIfInBounds_toArray, List.set_cons_zero, List.set_cons_succ]
  refine wpAnyH_ready (rs := [3]) (by kernel_rfl) (by simp) ?_
  refine AllReadyH.cons rfl (fun K hK => ?_) AllReadyH.nil
  go_simp
  go_wp2_with (go_at_call 53; have hn := number_t H0.out; rw [HU0.out] at hn; refine hn.mono ?_; rintro e w0 ⟨rfl, hr0, hk0⟩)
  refine hK.out _ _ trivial (fun _ => ?_)
  clear hK K
  have Q0 := Hid.mk' (row_kept (HRW.out.drew) hk0 hbs)
  refine wpAnyH_ready (rs := [7]) (by kernel_rfl) (by simp) ?_
  refine AllReadyH.cons rfl (fun K hK => ?_) AllReadyH.nil
  go_simp
  go_wp2_with (go_at_call 53; have hn := number_t hr0; rw [HU1.out] at hn; refine hn.mono ?_; rintro e w1 ⟨rfl, hr1, hk1⟩)
  refine hK.out _ _ trivial (fun _ => ?_)
  clear hK K
  have Q1 := Hid.mk' (row_kept (Q0.out) hk1 hbs)
  refine wpAnyH_ready (rs := [11]) (by kernel_rfl) (by simp) ?_
  refine AllReadyH.cons rfl (fun K hK => ?_) AllReadyH.nil
  go_simp
  go_wp2_with (go_at_call 53; have hn := number_t hr1; rw [HU2.out] at hn; refine hn.mono ?_; rintro e w2 ⟨rfl, hr2, hk2⟩)
  refine hK.out _ _ trivial (fun _ => ?_)
  clear hK K
  have Q2 := Hid.mk' (row_kept (Q1.out) hk2 hbs)
  refine wpAnyH_ready (rs := [15]) (by kernel_rfl) (by simp) ?_
  refine AllReadyH.cons rfl (fun K hK => ?_) AllReadyH.nil
  go_simp
  go_wp2_with (go_at_call 49; have hn := many_t hr2 8 (by omega); rw [HU3.out] at hn; refine hn.mono ?_; rintro e w3 ⟨rfl, hr3, hk3⟩)
  refine hK.out _ _ trivial (fun _ => ?_)
  clear hK K
  have Q3 := Hid.mk' (row_kept (Q2.out) hk3 hbs)
  refine wpAnyH_ready (rs := [20]) (by kernel_rfl) (by simp) ?_
  refine AllReadyH.cons rfl (fun K hK => ?_) AllReadyH.nil
  go_simp
  go_wp2_with (go_at_call 85; have hn := list_int_t hr3 (by have h1 := hk0.size; have h2 := hk1.size; have h3 := hk2.size; have h4 := hk3.size; simp at h1; omega) v3 (by omega); rw [HU4.out] at hn; refine hn.mono ?_; rintro e w4 ⟨rfl, hl4, hr4, hk4⟩)
  refine hK.out _ _ trivial (fun _ => ?_)
  clear hK K
  have Q4 := Hid.mk' (row_kept (Q3.out) hk4 hbs)
  have HINT : Hid (∀ w'', Ltr (w.heap.size + 1) w4 w'' → Ints w'' (some ⟨w3.heap.size, 0, none⟩) v4.length v3 v4) := fun w'' q => ints_list hl4 HLEN.out (by omega) HRNG.out q (by have h1 := hk0.size; have h2 := hk1.size; have h3 := hk2.size; have h4 := hk3.size; simp at h1; omega)
  refine held_take (i := 21) (v := ?vp4x21) rfl rfl (by kernel_rfl) (by kernel_rfl) (by kernel_rfl) (fun _ _ _ h => h) (Or.inl ⟨by rfl, ?hyp4x21⟩) trivial ?restp4x21
  case hyp4x21 => first | (intro w hSw; go_simp; done) | (intro w hSw; go_simp; with_reducible rfl)
  try simp only [List.setIfInBounds_toArray, List.set_cons_zero, List.set_cons_succ]
  have k0 := Q4.out.cell (i := 0) (by omega)
  have z0 := Q4.out.frozen 0
  have k1 := Q4.out.cell (i := 1) (by omega)
  have z1 := Q4.out.frozen 1
  have k2 := Q4.out.cell (i := 2) (by omega)
  have z2 := Q4.out.frozen 2
  have k3 := Q4.out.cell (i := 3) (by omega)
  have z3 := Q4.out.frozen 3
  refine wpAnyH_ready (rs := [22]) (by kernel_rfl) (by simp) ?_
  refine AllReadyH.cons rfl (fun K hK => ?_) AllReadyH.nil
  go_simp
  refine hK.out _ _ trivial (fun _ => ?_)
  clear hK K
  refine wpAnyH_done (by kernel_rfl) ?_ _
  go_wp2
  have hrw := (World.rowIs.set (World.rowIs.set (World.rowIs.set (World.rowIs.set Q4.out 0 (.int .i64 v0)) 1 (.int .i64 v1)) 2 (.int .i64 v2)) 3 (.slice (some ⟨w3.heap.size, 0, none⟩) v3 v3))
  have q0 := hrw.cell (i := 0) (by omega)
  have q1 := hrw.cell (i := 1) (by omega)
  have q2 := hrw.cell (i := 2) (by omega)
  have q3 := hrw.cell (i := 3) (by omega)
  exact bodyPost_ret (v := .agg #[.int .i64 v0, .int .i64 v1, .int .i64 v2, .slice (some ⟨w3.heap.size, 0, none⟩) v3 v3]) (by simp [results, Tryd.results55, go_sem, q0, q1, q2, q3]) rfl ⟨(some ⟨w3.heap.size, 0, none⟩, v3), by rw [HLEN.out], fun w'' q => HINT.out w'' (((((Ltr.set _ (Nat.lt_succ_self _) 0 _).tr (Ltr.set _ (Nat.lt_succ_self _) 1 _)).tr (Ltr.set _ (Nat.lt_succ_self _) 2 _)).tr (Ltr.set _ (Nat.lt_succ_self _) 3 _)).tr q), ((((hr4.setNew hH 0 _).setNew hH 1 _).setNew hH 2 _).setNew hH 3 _), (kept_new (kept_new (kept_new (kept_new (((((((Kept.alloc w _ _ _ _ : Kept w _ (some b)).tr (Kept.drew _ _)).tr hk0).tr hk1).tr hk2).tr hk3).tr hk4) (Nat.le_refl _) 0 _) (Nat.le_refl _) 1 _) (Nat.le_refl _) 2 _) (Nat.le_refl _) 3 _)⟩

end Go.Proofs.YtoahbpdgbiachaaDoor

/-
  THE CONTRACTS of List over a region's sites, subs, weds.
-/
namespace Go.Proofs.YtoahbpdgbiachaaDoor
open Go.RowKit Go.Lib Go.Deep
set_option linter.unusedVariables false
set_option linter.unusedSimpArgs false

set_option maxRecDepth 100000 in
set_option maxHeartbeats 4000000 in
theorem list_nsite {T : Array Value} {w : World} {H b : Nat} {s : Rd} (h : Rt T w H b s) (hH : H ≤ w.heap.size) (hT : Tabs w b) (n : Nat) (hn : n ≤ 24) : Calls Tryd.prog 48 #[.int .i64 n, .func (.func 50) #[.pointer (some ⟨b, 0, none⟩)] #[]] w fun e w' => e = .returned (.slice (some ⟨w.heap.size, 0, none⟩) n n) ∧ (∃ A : Nat → Sa, Lie w' (some ⟨w.heap.size, 0, none⟩) n 12 (fun i j => stV (A i) ((listM nsiteM n s).1.getD i s0) j) ∧ ∀ i, i < n → ∀ w'', Ltr (w.heap.size + 1) w' w'' → Sat w'' (A i) ((listM nsiteM n s).1.getD i s0)) ∧ Rt T w' H b (listM nsiteM n s).2 ∧ Kept w w' (some b) := by
  obtain ⟨i0, hi0, hz0, hz1, hz2⟩ := info_parts (show (Tryd.prog.info? 48).map (fun i => (i.zero, i.size, i.bytes)) = some (some (.agg #[.int .i64 0, .slice none 0 0, .slice none 0 0, .slice none 0 0, .slice none 0 0, .slice none 0 0, .int .i64 0, .int .i64 0, .int .i64 0, .int .i64 0, .int .i64 0, .slice none 0 0]), 12, 192) from by kernel_rfl)
  have hmk := run_make (P := Tryd.prog) w 22 48 i0 _ (by kernel_rfl) hi0 hz0 .i64 .i64 n n (by omega) (Int.le_refl _) (by rw [hz2]; omega) (by omega)
  rw [hz1, Int.toNat_natCast] at hmk
  have hrow0 := madeRow w (Value.cells (.agg #[.int .i64 0, .slice none 0 0, .slice none 0 0, .slice none 0 0, .slice none 0 0, .slice none 0 0, .int .i64 0, .int .i64 0, .int .i64 0, .int .i64 0, .int .i64 0, .slice none 0 0])) (n * 12) 48
  have hr0 := h.kept (Kept.alloc w (madeCells (Value.cells (.agg #[.int .i64 0, .slice none 0 0, .slice none 0 0, .slice none 0 0, .slice none 0 0, .slice none 0 0, .int .i64 0, .int .i64 0, .int .i64 0, .int .i64 0, .int .i64 0, .slice none 0 0])) (n * 12)) 48 (0, 0) none) (fun i e => by cases e)
  have hk0 : Kept w (w.alloc (.cells (madeCells (Value.cells (.agg #[.int .i64 0, .slice none 0 0, .slice none 0 0, .slice none 0 0, .slice none 0 0, .slice none 0 0, .int .i64 0, .int .i64 0, .int .i64 0, .int .i64 0, .int .i64 0, .slice none 0 0])) (n * 12)) 48)) (some b) := Kept.alloc _ _ _ _ _
  have hbl := h.lt
  have hbs : some w.heap.size ≠ some b := fun e => by injection e; omega
  generalize hW0 : w.alloc (.cells (madeCells (Value.cells (.agg #[.int .i64 0, .slice none 0 0, .slice none 0 0, .slice none 0 0, .slice none 0 0, .slice none 0 0, .int .i64 0, .int .i64 0, .int .i64 0, .int .i64 0, .int .i64 0, .slice none 0 0])) (n * 12)) 48) = W0 at *
  have HR0 := Hid.mk' hr0
  have HRow0 := Hid.mk' hrow0
  have HT := Hid.mk' hT
  clear hT
  clear h hr0 hrow0 hW0
  go_enter Tryd.func48, Tryd.ntmps48
  go_wp2
  clear hmk
  go_loopw [11] (fun i wr => ∃ k : Nat, k ≤ n ∧ i = .int .i64 k ∧ (∃ f, ∃ A : Nat → Sa, wr.rowIs w.heap.size 48 (n * 12) f ∧ (∀ i, i < k → ∀ j, j < 12 → f (i * 12 + j) = stV (A i) ((listM nsiteM k s).1.getD i s0) j) ∧ ∀ i, i < k → ∀ w'', Ltr (w.heap.size + 1) wr w'' → Sat w'' (A i) ((listM nsiteM k s).1.getD i s0)) ∧ Rt T wr H b (listM nsiteM k s).2 ∧ Kept w wr (some b)) (fun i _ => n - (intOf i).toNat)
  case atStart => exact ⟨0, Nat.zero_le _, rfl, ⟨_, fun _ => X0, HRow0.out, fun i hi => by omega, fun i hi => by omega⟩, HR0.out, hk0⟩
  case round =>
    obtain ⟨k, hk, rfl, ⟨f, A, hrow, hf, hL⟩, hr, hkw⟩ := hrel
    by_cases hlt : k < n
    · have hgw := hrow.lt
      have hcall := nsite_rd hr (by omega) (HT.out.kept hkw)
      have hsn := listM_snoc nsiteM k s
      have hlen := listM_len nsiteM k s
      have HF := Hid.mk' hf
      have HL := Hid.mk' hL
      have HROW := Hid.mk' hrow
      have HSN := Hid.mk' hsn
      have HLEN := Hid.mk' hlen
      have HCALL := Hid.mk' hcall
      clear hf hL hrow hsn hlen hcall hr
      generalize hx : (nsiteM (listM nsiteM k s).2).1 = x at *
      clear hx
      go_wp2_with (refine HCALL.out.mono ?_; rintro e w2 ⟨p2, rfl, hl2, hr2, hk2⟩; have hrow2 := row_kept HROW.out hk2 hbs; have k0 := hrow2.cell (i := k * 12) (by have := idx_lt (j := 0) hlt (show 0 < 12 by omega); omega); have z0 := hrow2.frozen (k * 12); have k1 := hrow2.cell (i := k * 12 + 1) (by have := idx_lt (j := 1) hlt (show 1 < 12 by omega); omega); have z1 := hrow2.frozen (k * 12 + 1); have k2 := hrow2.cell (i := k * 12 + 2) (by have := idx_lt (j := 2) hlt (show 2 < 12 by omega); omega); have z2 := hrow2.frozen (k * 12 + 2); have k3 := hrow2.cell (i := k * 12 + 3) (by have := idx_lt (j := 3) hlt (show 3 < 12 by omega); omega); have z3 := hrow2.frozen (k * 12 + 3); have k4 := hrow2.cell (i := k * 12 + 4) (by have := idx_lt (j := 4) hlt (show 4 < 12 by omega); omega); have z4 := hrow2.frozen (k * 12 + 4); have k5 := hrow2.cell (i := k * 12 + 5) (by have := idx_lt (j := 5) hlt (show 5 < 12 by omega); omega); have z5 := hrow2.frozen (k * 12 + 5); have k6 := hrow2.cell (i := k * 12 + 6) (by have := idx_lt (j := 6) hlt (show 6 < 12 by omega); omega); have z6 := hrow2.frozen (k * 12 + 6); have k7 := hrow2.cell (i := k * 12 + 7) (by have := idx_lt (j := 7) hlt (show 7 < 12 by omega); omega); have z7 := hrow2.frozen (k * 12 + 7); have k8 := hrow2.cell (i := k * 12 + 8) (by have := idx_lt (j := 8) hlt (show 8 < 12 by omega); omega); have z8 := hrow2.frozen (k * 12 + 8); have k9 := hrow2.cell (i := k * 12 + 9) (by have := idx_lt (j := 9) hlt (show 9 < 12 by omega); omega); have z9 := hrow2.frozen (k * 12 + 9); have k10 := hrow2.cell (i := k * 12 + 10) (by have := idx_lt (j := 10) hlt (show 10 < 12 by omega); omega); have z10 := hrow2.frozen (k * 12 + 10); have k11 := hrow2.cell (i := k * 12 + 11) (by have := idx_lt (j := 11) hlt (show 11 < 12 by omega); omega); have z11 := hrow2.frozen (k * 12 + 11); have HL2 := Hid.mk' hl2; clear hl2)
      go_roundw
      case rel =>
        refine ⟨k + 1, by omega, by go_num, ⟨_, fun i => if i = k then p2 else A i, (World.rowIs.set (World.rowIs.set (World.rowIs.set (World.rowIs.set (World.rowIs.set (World.rowIs.set (World.rowIs.set (World.rowIs.set (World.rowIs.set (World.rowIs.set (World.rowIs.set (World.rowIs.set hrow2 (k * 12) (.int .i64 x.id)) (k * 12 + 1) (.slice p2.g x.groups.length p2.gc)) (k * 12 + 2) (.slice p2.a x.apart.length p2.ac)) (k * 12 + 3) (.slice p2.b x.between.length p2.bc)) (k * 12 + 4) (.slice p2.p x.phases.length p2.pc)) (k * 12 + 5) (.slice p2.e x.eyes.length p2.ec)) (k * 12 + 6) (.int .i64 x.watch)) (k * 12 + 7) (.int .i64 x.feed)) (k * 12 + 8) (.int .i64 x.heal)) (k * 12 + 9) (.int .i64 x.low)) (k * 12 + 10) (.int .i64 x.high)) (k * 12 + 11) (.slice p2.l x.plans.length p2.lc)), fun i hi j hj => ?_, fun i hi w'' q => ?_⟩, by rw [HSN.out]; exact ((((((((((((hr2.setNew hH (k * 12) _).setNew hH (k * 12 + 1) _).setNew hH (k * 12 + 2) _).setNew hH (k * 12 + 3) _).setNew hH (k * 12 + 4) _).setNew hH (k * 12 + 5) _).setNew hH (k * 12 + 6) _).setNew hH (k * 12 + 7) _).setNew hH (k * 12 + 8) _).setNew hH (k * 12 + 9) _).setNew hH (k * 12 + 10) _).setNew hH (k * 12 + 11) _), (kept_new (kept_new (kept_new (kept_new (kept_new (kept_new (kept_new (kept_new (kept_new (kept_new (kept_new (kept_new (hkw.tr hk2) (Nat.le_refl _) (k * 12) _) (Nat.le_refl _) (k * 12 + 1) _) (Nat.le_refl _) (k * 12 + 2) _) (Nat.le_refl _) (k * 12 + 3) _) (Nat.le_refl _) (k * 12 + 4) _) (Nat.le_refl _) (k * 12 + 5) _) (Nat.le_refl _) (k * 12 + 6) _) (Nat.le_refl _) (k * 12 + 7) _) (Nat.le_refl _) (k * 12 + 8) _) (Nat.le_refl _) (k * 12 + 9) _) (Nat.le_refl _) (k * 12 + 10) _) (Nat.le_refl _) (k * 12 + 11) _)⟩
        · rw [HSN.out]
          by_cases hik : i = k
          · subst hik
            have : j = 0 ∨ j = 1 ∨ j = 2 ∨ j = 3 ∨ j = 4 ∨ j = 5 ∨ j = 6 ∨ j = 7 ∨ j = 8 ∨ j = 9 ∨ j = 10 ∨ j = 11 := by omega
            dsimp only
            rw [getD_snoc_eq HLEN.out.symm]
            rcases this with rfl | rfl | rfl | rfl | rfl | rfl | rfl | rfl | rfl | rfl | rfl | rfl <;> simp [stV]
          · have hne := fun q => idx_ne (q := q) (show i < k by omega) hj
            dsimp only
            rw [getD_snoc_lt (by rw [HLEN.out]; omega), if_neg hik]
            have h0 := HF.out i (by omega) j hj
            rw [← h0]
            rw [if_neg (by have := hne 11; omega), if_neg (by have := hne 10; omega), if_neg (by have := hne 9; omega), if_neg (by have := hne 8; omega), if_neg (by have := hne 7; omega), if_neg (by have := hne 6; omega), if_neg (by have := hne 5; omega), if_neg (by have := hne 4; omega), if_neg (by have := hne 3; omega), if_neg (by have := hne 2; omega), if_neg (by have := hne 1; omega), if_neg (by have := hne 0; omega)]
        · have hq := ((((((((((((Ltr.set _ (Nat.lt_succ_self _) (k * 12) (.int .i64 x.id)).tr (Ltr.set _ (Nat.lt_succ_self _) (k * 12 + 1) (.slice p2.g x.groups.length p2.gc))).tr (Ltr.set _ (Nat.lt_succ_self _) (k * 12 + 2) (.slice p2.a x.apart.length p2.ac))).tr (Ltr.set _ (Nat.lt_succ_self _) (k * 12 + 3) (.slice p2.b x.between.length p2.bc))).tr (Ltr.set _ (Nat.lt_succ_self _) (k * 12 + 4) (.slice p2.p x.phases.length p2.pc))).tr (Ltr.set _ (Nat.lt_succ_self _) (k * 12 + 5) (.slice p2.e x.eyes.length p2.ec))).tr (Ltr.set _ (Nat.lt_succ_self _) (k * 12 + 6) (.int .i64 x.watch))).tr (Ltr.set _ (Nat.lt_succ_self _) (k * 12 + 7) (.int .i64 x.feed))).tr (Ltr.set _ (Nat.lt_succ_self _) (k * 12 + 8) (.int .i64 x.heal))).tr (Ltr.set _ (Nat.lt_succ_self _) (k * 12 + 9) (.int .i64 x.low))).tr (Ltr.set _ (Nat.lt_succ_self _) (k * 12 + 10) (.int .i64 x.high))).tr (Ltr.set _ (Nat.lt_succ_self _) (k * 12 + 11) (.slice p2.l x.plans.length p2.lc))).tr q
          rw [HSN.out]
          by_cases hik : i = k
          · subst hik
            dsimp only
            rw [getD_snoc_eq HLEN.out.symm, if_pos rfl]
            exact HL2.out w'' (hq.up (by omega))
          · dsimp only
            rw [getD_snoc_lt (by rw [HLEN.out]; omega), if_neg hik]
            exact HL.out i (by omega) w'' ((hk2.ltr (by omega)).tr hq)
      case measure => simp [intOf]; omega
    · have hkk : k = n := by omega
      subst hkk
      have HL := Hid.mk' (show ∃ A : Nat → Sa, Lie wr (some ⟨w.heap.size, 0, none⟩) k 12 (fun i j => stV (A i) ((listM nsiteM k s).1.getD i s0) j) ∧ ∀ i, i < k → ∀ w'', Ltr (w.heap.size + 1) wr w'' → Sat w'' (A i) ((listM nsiteM k s).1.getD i s0) from ⟨A, lie_row hrow hf, hL⟩)
      clear hf hrow hL
      go_wp2
      go_ret
      exact ⟨rfl, HL.out, hr, hkw⟩
set_option maxRecDepth 100000 in
set_option maxHeartbeats 4000000 in
theorem list_nsub {T : Array Value} {w : World} {H b : Nat} {s : Rd} (h : Rt T w H b s) (hH : H ≤ w.heap.size) (n : Nat) (hn : n ≤ 24) : Calls Tryd.prog 51 #[.int .i64 n, .func (.func 52) #[.pointer (some ⟨b, 0, none⟩)] #[]] w fun e w' => e = .returned (.slice (some ⟨w.heap.size, 0, none⟩) n n) ∧ (∃ A : Nat → (Option Addr × Nat), Lie w' (some ⟨w.heap.size, 0, none⟩) n 2 (fun i j => sbV ((listM subM n s).1.getD i u0) (A i).1 (A i).2 j) ∧ ∀ i, i < n → ∀ w'', Ltr (w.heap.size + 1) w' w'' → Ints w'' (A i).1 ((listM subM n s).1.getD i u0).sites.length (A i).2 ((listM subM n s).1.getD i u0).sites) ∧ Rt T w' H b (listM subM n s).2 ∧ Kept w w' (some b) := by
  obtain ⟨i0, hi0, hz0, hz1, hz2⟩ := info_parts (show (Tryd.prog.info? 38).map (fun i => (i.zero, i.size, i.bytes)) = some (some (.agg #[.slice none 0 0, .int .i64 0]), 2, 32) from by kernel_rfl)
  have hmk := run_make (P := Tryd.prog) w 23 38 i0 _ (by kernel_rfl) hi0 hz0 .i64 .i64 n n (by omega) (Int.le_refl _) (by rw [hz2]; omega) (by omega)
  rw [hz1, Int.toNat_natCast] at hmk
  have hrow0 := madeRow w (Value.cells (.agg #[.slice none 0 0, .int .i64 0])) (n * 2) 38
  have hr0 := h.kept (Kept.alloc w (madeCells (Value.cells (.agg #[.slice none 0 0, .int .i64 0])) (n * 2)) 38 (0, 0) none) (fun i e => by cases e)
  have hk0 : Kept w (w.alloc (.cells (madeCells (Value.cells (.agg #[.slice none 0 0, .int .i64 0])) (n * 2)) 38)) (some b) := Kept.alloc _ _ _ _ _
  have hbl := h.lt
  have hbs : some w.heap.size ≠ some b := fun e => by injection e; omega
  generalize hW0 : w.alloc (.cells (madeCells (Value.cells (.agg #[.slice none 0 0, .int .i64 0])) (n * 2)) 38) = W0 at *
  have HR0 := Hid.mk' hr0
  have HRow0 := Hid.mk' hrow0
  clear h hr0 hrow0 hW0
  go_enter Tryd.func51, Tryd.ntmps51
  go_wp2
  clear hmk
  go_loopw [11] (fun i wr => ∃ k : Nat, k ≤ n ∧ i = .int .i64 k ∧ (∃ f, ∃ A : Nat → (Option Addr × Nat), wr.rowIs w.heap.size 38 (n * 2) f ∧ (∀ i, i < k → ∀ j, j < 2 → f (i * 2 + j) = sbV ((listM subM k s).1.getD i u0) (A i).1 (A i).2 j) ∧ ∀ i, i < k → ∀ w'', Ltr (w.heap.size + 1) wr w'' → Ints w'' (A i).1 ((listM subM k s).1.getD i u0).sites.length (A i).2 ((listM subM k s).1.getD i u0).sites) ∧ Rt T wr H b (listM subM k s).2 ∧ Kept w wr (some b)) (fun i _ => n - (intOf i).toNat)
  case atStart => exact ⟨0, Nat.zero_le _, rfl, ⟨_, fun _ => (none, 0), HRow0.out, fun i hi => by omega, fun i hi => by omega⟩, HR0.out, hk0⟩
  case round =>
    obtain ⟨k, hk, rfl, ⟨f, A, hrow, hf, hL⟩, hr, hkw⟩ := hrel
    by_cases hlt : k < n
    · have hgw := hrow.lt
      have hcall := nsub_rd hr (by omega)
      have hsn := listM_snoc subM k s
      have hlen := listM_len subM k s
      have HF := Hid.mk' hf
      have HL := Hid.mk' hL
      have HROW := Hid.mk' hrow
      have HSN := Hid.mk' hsn
      have HLEN := Hid.mk' hlen
      have HCALL := Hid.mk' hcall
      clear hf hL hrow hsn hlen hcall hr
      generalize hx : (subM (listM subM k s).2).1 = x at *
      clear hx
      go_wp2_with (refine HCALL.out.mono ?_; rintro e w2 ⟨p2, rfl, hl2, hr2, hk2⟩; have hrow2 := row_kept HROW.out hk2 hbs; have k0 := hrow2.cell (i := k * 2) (by have := idx_lt (j := 0) hlt (show 0 < 2 by omega); omega); have z0 := hrow2.frozen (k * 2); have k1 := hrow2.cell (i := k * 2 + 1) (by have := idx_lt (j := 1) hlt (show 1 < 2 by omega); omega); have z1 := hrow2.frozen (k * 2 + 1); have HL2 := Hid.mk' hl2; clear hl2)
      go_roundw
      case rel =>
        refine ⟨k + 1, by omega, by go_num, ⟨_, fun i => if i = k then p2 else A i, (World.rowIs.set (World.rowIs.set hrow2 (k * 2) (.slice p2.1 x.sites.length p2.2)) (k * 2 + 1) (.int .i64 x.critical)), fun i hi j hj => ?_, fun i hi w'' q => ?_⟩, by rw [HSN.out]; exact ((hr2.setNew hH (k * 2) _).setNew hH (k * 2 + 1) _), (kept_new (kept_new (hkw.tr hk2) (Nat.le_refl _) (k * 2) _) (Nat.le_refl _) (k * 2 + 1) _)⟩
        · rw [HSN.out]
          by_cases hik : i = k
          · subst hik
            have : j = 0 ∨ j = 1 := by omega
            dsimp only
            rw [getD_snoc_eq HLEN.out.symm]
            rcases this with rfl | rfl <;> simp [sbV]
          · have hne := fun q => idx_ne (q := q) (show i < k by omega) hj
            dsimp only
            rw [getD_snoc_lt (by rw [HLEN.out]; omega), if_neg hik]
            have h0 := HF.out i (by omega) j hj
            rw [← h0]
            rw [if_neg (by have := hne 1; omega), if_neg (by have := hne 0; omega)]
        · have hq := ((Ltr.set _ (Nat.lt_succ_self _) (k * 2) (.slice p2.1 x.sites.length p2.2)).tr (Ltr.set _ (Nat.lt_succ_self _) (k * 2 + 1) (.int .i64 x.critical))).tr q
          rw [HSN.out]
          by_cases hik : i = k
          · subst hik
            dsimp only
            rw [getD_snoc_eq HLEN.out.symm, if_pos rfl]
            exact HL2.out w'' (hq.up (by omega))
          · dsimp only
            rw [getD_snoc_lt (by rw [HLEN.out]; omega), if_neg hik]
            exact HL.out i (by omega) w'' ((hk2.ltr (by omega)).tr hq)
      case measure => simp [intOf]; omega
    · have hkk : k = n := by omega
      subst hkk
      have HL := Hid.mk' (show ∃ A : Nat → (Option Addr × Nat), Lie wr (some ⟨w.heap.size, 0, none⟩) k 2 (fun i j => sbV ((listM subM k s).1.getD i u0) (A i).1 (A i).2 j) ∧ ∀ i, i < k → ∀ w'', Ltr (w.heap.size + 1) wr w'' → Ints w'' (A i).1 ((listM subM k s).1.getD i u0).sites.length (A i).2 ((listM subM k s).1.getD i u0).sites from ⟨A, lie_row hrow hf, hL⟩)
      clear hf hrow hL
      go_wp2
      go_ret
      exact ⟨rfl, HL.out, hr, hkw⟩
set_option maxRecDepth 100000 in
set_option maxHeartbeats 4000000 in
theorem list_nwed {T : Array Value} {w : World} {H b : Nat} {s : Rd} (h : Rt T w H b s) (hH : H ≤ w.heap.size) (n : Nat) (hn : n ≤ 24) : Calls Tryd.prog 54 #[.int .i64 n, .func (.func 55) #[.pointer (some ⟨b, 0, none⟩)] #[]] w fun e w' => e = .returned (.slice (some ⟨w.heap.size, 0, none⟩) n n) ∧ (∃ A : Nat → (Option Addr × Nat), Lie w' (some ⟨w.heap.size, 0, none⟩) n 4 (fun i j => wdV ((listM wedM n s).1.getD i d0) (A i).1 (A i).2 j) ∧ ∀ i, i < n → ∀ w'', Ltr (w.heap.size + 1) w' w'' → Ints w'' (A i).1 ((listM wedM n s).1.getD i d0).offsets.length (A i).2 ((listM wedM n s).1.getD i d0).offsets) ∧ Rt T w' H b (listM wedM n s).2 ∧ Kept w w' (some b) := by
  obtain ⟨i0, hi0, hz0, hz1, hz2⟩ := info_parts (show (Tryd.prog.info? 40).map (fun i => (i.zero, i.size, i.bytes)) = some (some (.agg #[.int .i64 0, .int .i64 0, .int .i64 0, .slice none 0 0]), 4, 48) from by kernel_rfl)
  have hmk := run_make (P := Tryd.prog) w 24 40 i0 _ (by kernel_rfl) hi0 hz0 .i64 .i64 n n (by omega) (Int.le_refl _) (by rw [hz2]; omega) (by omega)
  rw [hz1, Int.toNat_natCast] at hmk
  have hrow0 := madeRow w (Value.cells (.agg #[.int .i64 0, .int .i64 0, .int .i64 0, .slice none 0 0])) (n * 4) 40
  have hr0 := h.kept (Kept.alloc w (madeCells (Value.cells (.agg #[.int .i64 0, .int .i64 0, .int .i64 0, .slice none 0 0])) (n * 4)) 40 (0, 0) none) (fun i e => by cases e)
  have hk0 : Kept w (w.alloc (.cells (madeCells (Value.cells (.agg #[.int .i64 0, .int .i64 0, .int .i64 0, .slice none 0 0])) (n * 4)) 40)) (some b) := Kept.alloc _ _ _ _ _
  have hbl := h.lt
  have hbs : some w.heap.size ≠ some b := fun e => by injection e; omega
  generalize hW0 : w.alloc (.cells (madeCells (Value.cells (.agg #[.int .i64 0, .int .i64 0, .int .i64 0, .slice none 0 0])) (n * 4)) 40) = W0 at *
  have HR0 := Hid.mk' hr0
  have HRow0 := Hid.mk' hrow0
  clear h hr0 hrow0 hW0
  go_enter Tryd.func54, Tryd.ntmps54
  go_wp2
  clear hmk
  go_loopw [11] (fun i wr => ∃ k : Nat, k ≤ n ∧ i = .int .i64 k ∧ (∃ f, ∃ A : Nat → (Option Addr × Nat), wr.rowIs w.heap.size 40 (n * 4) f ∧ (∀ i, i < k → ∀ j, j < 4 → f (i * 4 + j) = wdV ((listM wedM k s).1.getD i d0) (A i).1 (A i).2 j) ∧ ∀ i, i < k → ∀ w'', Ltr (w.heap.size + 1) wr w'' → Ints w'' (A i).1 ((listM wedM k s).1.getD i d0).offsets.length (A i).2 ((listM wedM k s).1.getD i d0).offsets) ∧ Rt T wr H b (listM wedM k s).2 ∧ Kept w wr (some b)) (fun i _ => n - (intOf i).toNat)
  case atStart => exact ⟨0, Nat.zero_le _, rfl, ⟨_, fun _ => (none, 0), HRow0.out, fun i hi => by omega, fun i hi => by omega⟩, HR0.out, hk0⟩
  case round =>
    obtain ⟨k, hk, rfl, ⟨f, A, hrow, hf, hL⟩, hr, hkw⟩ := hrel
    by_cases hlt : k < n
    · have hgw := hrow.lt
      have hcall := nwed_rd hr (by omega)
      have hsn := listM_snoc wedM k s
      have hlen := listM_len wedM k s
      have HF := Hid.mk' hf
      have HL := Hid.mk' hL
      have HROW := Hid.mk' hrow
      have HSN := Hid.mk' hsn
      have HLEN := Hid.mk' hlen
      have HCALL := Hid.mk' hcall
      clear hf hL hrow hsn hlen hcall hr
      generalize hx : (wedM (listM wedM k s).2).1 = x at *
      clear hx
      go_wp2_with (refine HCALL.out.mono ?_; rintro e w2 ⟨p2, rfl, hl2, hr2, hk2⟩; have hrow2 := row_kept HROW.out hk2 hbs; have k0 := hrow2.cell (i := k * 4) (by have := idx_lt (j := 0) hlt (show 0 < 4 by omega); omega); have z0 := hrow2.frozen (k * 4); have k1 := hrow2.cell (i := k * 4 + 1) (by have := idx_lt (j := 1) hlt (show 1 < 4 by omega); omega); have z1 := hrow2.frozen (k * 4 + 1); have k2 := hrow2.cell (i := k * 4 + 2) (by have := idx_lt (j := 2) hlt (show 2 < 4 by omega); omega); have z2 := hrow2.frozen (k * 4 + 2); have k3 := hrow2.cell (i := k * 4 + 3) (by have := idx_lt (j := 3) hlt (show 3 < 4 by omega); omega); have z3 := hrow2.frozen (k * 4 + 3); have HL2 := Hid.mk' hl2; clear hl2)
      go_roundw
      case rel =>
        refine ⟨k + 1, by omega, by go_num, ⟨_, fun i => if i = k then p2 else A i, (World.rowIs.set (World.rowIs.set (World.rowIs.set (World.rowIs.set hrow2 (k * 4) (.int .i64 x.a)) (k * 4 + 1) (.int .i64 x.b)) (k * 4 + 2) (.int .i64 x.votes)) (k * 4 + 3) (.slice p2.1 x.offsets.length p2.2)), fun i hi j hj => ?_, fun i hi w'' q => ?_⟩, by rw [HSN.out]; exact ((((hr2.setNew hH (k * 4) _).setNew hH (k * 4 + 1) _).setNew hH (k * 4 + 2) _).setNew hH (k * 4 + 3) _), (kept_new (kept_new (kept_new (kept_new (hkw.tr hk2) (Nat.le_refl _) (k * 4) _) (Nat.le_refl _) (k * 4 + 1) _) (Nat.le_refl _) (k * 4 + 2) _) (Nat.le_refl _) (k * 4 + 3) _)⟩
        · rw [HSN.out]
          by_cases hik : i = k
          · subst hik
            have : j = 0 ∨ j = 1 ∨ j = 2 ∨ j = 3 := by omega
            dsimp only
            rw [getD_snoc_eq HLEN.out.symm]
            rcases this with rfl | rfl | rfl | rfl <;> simp [wdV]
          · have hne := fun q => idx_ne (q := q) (show i < k by omega) hj
            dsimp only
            rw [getD_snoc_lt (by rw [HLEN.out]; omega), if_neg hik]
            have h0 := HF.out i (by omega) j hj
            rw [← h0]
            rw [if_neg (by have := hne 3; omega), if_neg (by have := hne 2; omega), if_neg (by have := hne 1; omega), if_neg (by have := hne 0; omega)]
        · have hq := ((((Ltr.set _ (Nat.lt_succ_self _) (k * 4) (.int .i64 x.a)).tr (Ltr.set _ (Nat.lt_succ_self _) (k * 4 + 1) (.int .i64 x.b))).tr (Ltr.set _ (Nat.lt_succ_self _) (k * 4 + 2) (.int .i64 x.votes))).tr (Ltr.set _ (Nat.lt_succ_self _) (k * 4 + 3) (.slice p2.1 x.offsets.length p2.2))).tr q
          rw [HSN.out]
          by_cases hik : i = k
          · subst hik
            dsimp only
            rw [getD_snoc_eq HLEN.out.symm, if_pos rfl]
            exact HL2.out w'' (hq.up (by omega))
          · dsimp only
            rw [getD_snoc_lt (by rw [HLEN.out]; omega), if_neg hik]
            exact HL.out i (by omega) w'' ((hk2.ltr (by omega)).tr hq)
      case measure => simp [intOf]; omega
    · have hkk : k = n := by omega
      subst hkk
      have HL := Hid.mk' (show ∃ A : Nat → (Option Addr × Nat), Lie wr (some ⟨w.heap.size, 0, none⟩) k 4 (fun i j => wdV ((listM wedM k s).1.getD i d0) (A i).1 (A i).2 j) ∧ ∀ i, i < k → ∀ w'', Ltr (w.heap.size + 1) wr w'' → Ints w'' (A i).1 ((listM wedM k s).1.getD i d0).offsets.length (A i).2 ((listM wedM k s).1.getD i d0).offsets from ⟨A, lie_row hrow hf, hL⟩)
      clear hf hrow hL
      go_wp2
      go_ret
      exact ⟨rfl, HL.out, hr, hkw⟩

end Go.Proofs.YtoahbpdgbiachaaDoor

