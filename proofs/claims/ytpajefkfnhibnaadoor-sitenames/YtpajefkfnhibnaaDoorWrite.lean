/-
  THE CONTRACTS of sumOf and Write.
-/
import Derived.Test.YtpajefkfnhibnaaDoorSiteB2
namespace Go.Proofs.YtpajefkfnhibnaaDoor
open Go.RowKit Go.Lib Go.Deep
set_option linter.unusedVariables false
set_option linter.unusedSimpArgs false

def sum4 (L : List Nat) : List Nat := leb 4 (sumB L)
theorem sum4_len (L : List Nat) : (sum4 L).length = 4 := leb_length _ _
theorem sum4_lt (L : List Nat) : ∀ x ∈ sum4 L, x < 256 := leb_lt _ _
set_option maxRecDepth 100000 in
set_option maxHeartbeats 1000000 in
theorem sumOf_any {a : Option Addr} {n c : Nat} {L : List Nat} {w : World} (hB : By w a n L) (ht : Table w) : Calls Tryd.prog 86 #[.slice a n c] w fun e w' => ∃ g, e = .returned (.slice (some ⟨g, 0, none⟩) 4 4) ∧ By w' (some ⟨g, 0, none⟩) 4 (sum4 L) ∧ Kept w w' none := by
  have HB := Hid.mk' hB
  have HT := Hid.mk' ht
  have hs := sumB_lt L hB.lt
  have hd : sumB L / 256 ^ 4 = 0 := Nat.div_eq_of_lt (by simpa using hs)
  have HD := Hid.mk' hd
  clear hB ht hd
  go_enter Tryd.func86, Tryd.ntmps86
  go_wp2_with (first
    | (have hgo := hdone; clear hgo; go_at_call 111; refine (put_yes (sumB L) 4 _ (by omega) (by omega) (by omega) HD.out).mono ?_; rintro e w3 ⟨rfl, hb3, hk3, hz3⟩; have B3 := Hid.mk' hb3; clear hb3)
    | (go_at_call 112; refine (sum_any HB.out HT.out).mono ?_; rintro e w2 ⟨rfl, m, rfl⟩; have hdone := trivial))
  go_ret
  exact ⟨_, rfl, B3.out, (Kept.drewN _ _ _).tr hk3⟩

set_option maxRecDepth 100000 in
set_option maxHeartbeats 1000000 in
theorem withSum_any {w : World} {a : Option Addr} {n c : Nat} {L : List Nat} (base : Nat) (hM : Mine w base a n c L) (hbase : base ≤ w.heap.size) (hlt : ∀ x ∈ L, x < 256) (hTb : Table w) (hlen : n ≤ 1000000) : Calls Tryd.prog 55 #[.slice a n c] w fun e w' => ∃ a' c', e = .returned (.slice a' (n + 4) c') ∧ Mine w' base a' (n + 4) c' (L ++ sum4 L) ∧ Kept w w' (Value.slice a n c).ownBlock := by
  have M3 := Hid.mk' hM
  have BY := Hid.mk' (hM.by hlt)
  have HTb := Hid.mk' hTb
  clear hM hTb hlt
  go_enter Tryd.func55, Tryd.ntmps55
  go_wp2_with (first
      | (have hgo := B4; clear hgo; at_builtin; refine wpList_joinA (by rfl) _ _ (by rfl) base _ n L (by rfl) (own_keptR M3.out.own hk4 (fun i _ => by simp)) _ 4 4 (sum4 L) (by rfl) B4.out (fun e => by cases e) (by omega) (by have := hk4.size; omega) ?_; intro a5 c5 w5 hm5 hg5 hat5)
      | (go_at_call 86; refine (sumOf_any BY.out HTb.out).mono ?_; rintro e w4 ⟨g4, rfl, hb4, hk4⟩; have B4 := Hid.mk' hb4; clear hb4))
  go_ret
  exact ⟨a5, c5, rfl, hm5, (hk4.weak _).tr hg5⟩

def writeL (S : St) : List Nat := if siteB S = true then siteL S ++ sum4 (siteL S) else []
theorem siteL_lt (S : St) : ∀ x ∈ siteL S, x < 256 := smlI_lt _
theorem writeL_lt (S : St) : ∀ x ∈ writeL S, x < 256 := by
  unfold writeL
  split
  · intro x hx
    rcases List.mem_append.1 hx with hx | hx
    · exact siteL_lt S x hx
    · exact sum4_lt _ x hx
  · simp

theorem siteL_len {X : Sa} {S : St} {w : World} (h : Sat w X S) (hs : siteB S = true) : (siteL S).length ≤ 5540 := by
  have hP := pos_may hs
  have h1 := hP.ok.ng
  have h2 := hP.ok.na
  have h3 := hP.ok.nb
  have h4 := hP.ok.np
  have h5 := hP.ok.ne
  have hpl := plans_len h.l hP.plans
  have e : siteL S = smlI (I7 S) ++ smlI (plansI S.plans) := by unfold siteL siteI; rw [smlI_append]
  rw [e, List.length_append]
  have key : ∀ {α : Type} (f : α → List Int) (m : Nat) (l : List α), (∀ x ∈ l, (f x).length ≤ m) → (l.flatMap f).length ≤ m * l.length := by
    intro α f m l
    induction l with
    | nil => intro _; simp
    | cons x l ih =>
      intro hh
      have a1 := ih (fun y hy => hh y (List.mem_cons_of_mem _ hy))
      have a2 := hh x (List.mem_cons_self ..)
      rw [List.flatMap_cons, List.length_append, List.length_cons, Nat.mul_add]
      omega
  have hlen : (I7 S).length ≤ 465 := by
    unfold I7 I6 I5 I4 I3 I2 I1
    simp only [List.take_length, List.length_append, List.length_cons, List.length_nil]
    have b1 := key grI 3 S.groups (fun x _ => by simp [grI])
    have b2 := key apI 1 S.apart (fun x _ => by simp [apI])
    have b3 := key phI 5 S.phases (fun x _ => by simp [phI])
    have b4 := key eyI 4 S.eyes (fun x _ => by simp [eyI])
    have b5 : S.between.flatten.length ≤ 16 * S.between.length := by
      have := key (fun l : List Int => l) 16 S.between (fun x hx => by
        obtain ⟨i, hi, rfl⟩ := List.getElem_of_mem hx
        have := hP.row i hi
        simpa [hi] using this)
      simpa [List.flatMap_id'] using this
    omega
  have hle : ∀ x ∈ I7 S, x ≤ 9223372036854775807 := by
    intro x hx
    have hn := h.nr
    unfold i64B at hn
    unfold I7 I6 I5 I4 I3 I2 I1 at hx
    simp only [List.take_length, List.mem_append, List.mem_cons, List.mem_nil_iff, or_false, List.mem_flatMap, List.mem_flatten] at hx
    rcases hx with (((((((((rfl | rfl) | ⟨g, hg, hx⟩) | ⟨y, hy, hx⟩) | ⟨l, hl, hx⟩) | rfl) | ⟨p, hp, hx⟩) | rfl) | ⟨q, hq, hx⟩) | (rfl | rfl | rfl | rfl | rfl))
    · omega
    · omega
    · have := h.gr g hg
      unfold i64B at this
      simp only [grI, List.mem_cons, List.mem_nil_iff, or_false] at hx
      rcases hx with rfl | rfl | rfl <;> omega
    · have := h.ar y hy
      simp only [apI, List.mem_cons, List.mem_nil_iff, or_false] at hx
      subst hx
      omega
    · obtain ⟨i, hi, rfl⟩ := List.getElem_of_mem hl
      obtain ⟨_, _, _, _, _, _, hI⟩ := h.b.at_ hi
      have e : S.between.getD i [] = S.between[i] := by simp [hi]
      rw [e] at hI
      exact (hI.rng x hx).2
    · omega
    · have := h.pr p hp
      unfold i64B at this
      simp only [phI, List.mem_cons, List.mem_nil_iff, or_false] at hx
      rcases hx with rfl | rfl | rfl | rfl | rfl
      · omega
      · omega
      · omega
      · omega
      · split <;> omega
    · omega
    · have := h.er q hq
      unfold i64B at this
      simp only [eyI, List.mem_cons, List.mem_nil_iff, or_false] at hx
      rcases hx with rfl | rfl | rfl | rfl <;> omega
    · omega
    · omega
    · omega
    · omega
    · omega
  have := smlI_le hle hlen
  omega
set_option maxRecDepth 100000 in
set_option maxHeartbeats 1000000 in
theorem write_any {X : Sa} {S : St} {w : World} (h : Sat w X S) (hT : Tabb w) (hTb : Table w) : Calls Tryd.prog 28 #[siteV X S] w fun e w' => ∃ a' c', e = .returned (.tuple #[.slice a' (writeL S).length c', .int .i64 (checkE S)]) ∧ Mine w' w.heap.size a' (writeL S).length c' (writeL S) ∧ Kept w w' none := by
  have hkA : Kept w (w.alloc (.cells #[.int .i64 S.id, .slice X.g S.groups.length X.gc, .slice X.a S.apart.length X.ac, .slice X.b S.between.length X.bc, .slice X.p S.phases.length X.pc, .slice X.e S.eyes.length X.ec, .int .i64 S.watch, .int .i64 S.feed, .int .i64 S.heal, .int .i64 S.low, .int .i64 S.high, .slice X.l S.plans.length X.lc] 29)) none := Kept.alloc _ _ _ _ _
  have HK := Hid.mk' hkA
  have HS := Hid.mk' (h.kept hkA)
  have HSB := Hid.mk' (sbox_alloc h 29)
  have HT := Hid.mk' (hT.kept hkA)
  have HTb := Hid.mk' (hTb.kept hkA)
  cases hs : siteB S with
  | false =>
    have hce := checkE_no hs
    have hL : writeL S = [] := by unfold writeL; rw [if_neg (by rw [hs]; decide)]
    rw [hL, hce]
    clear h hT hTb hkA hL
    go_enter Tryd.func28, Tryd.ntmps28
    go_wp2_with (go_at_call 16; refine (check_any HS.out HT.out).mono ?_; rintro e w2 ⟨rfl, hk2⟩; rw [hce])
    go_ret2
    exact ⟨none, 0, rfl, Mine.empty _ _, HK.out.tr hk2⟩
  | true =>
    have hce := checkE_yes hs
    have hL : writeL S = siteL S ++ sum4 (siteL S) := by unfold writeL; rw [if_pos hs]
    have HPo := Hid.mk' (pos_may hs)
    have hlen := siteL_len h hs
    have hlen2 : (writeL S).length = (siteL S).length + 4 := by rw [hL, List.length_append, sum4_len]
    rw [hlen2, hL, hce]
    clear h hT hTb hkA hL hlen2
    go_enter Tryd.func28, Tryd.ntmps28
    go_wp2_with (first
      | (have hgo := M3; clear hgo; go_at_call 55; refine (withSum_any w.heap.size M3.out (by have := HK.out.size; have := hk2.size; have := hk3.size; omega) (siteL_lt S) (HTb.out.kept (hk2.tr hk3)) (by omega)).mono ?_; rintro e w5 ⟨a5, c5, rfl, hm5, hg5⟩)
      | (go_at_call 56; refine (siteBytes_any (HS.out.kept hk2) HPo.out).mono ?_; rintro e w3 ⟨a3, c3, rfl, hm3, hk3⟩; have M3 := Hid.mk' (hm3.lower (Nat.le_trans HK.out.size hk2.size)); clear hm3)
      | (go_at_call 16; refine (check_any HS.out HT.out).mono ?_; rintro e w2 ⟨rfl, hk2⟩; rw [hce]; have c0 := (HSB.out.kept hk2).c0; have c1 := (HSB.out.kept hk2).c1; have c2 := (HSB.out.kept hk2).c2; have c3 := (HSB.out.kept hk2).c3; have c4 := (HSB.out.kept hk2).c4; have c5 := (HSB.out.kept hk2).c5; have c6 := (HSB.out.kept hk2).c6; have c7 := (HSB.out.kept hk2).c7; have c8 := (HSB.out.kept hk2).c8; have c9 := (HSB.out.kept hk2).c9; have c10 := (HSB.out.kept hk2).c10; have c11 := (HSB.out.kept hk2).c11))
    go_ret2
    exact ⟨a5, c5, rfl, hm5, ((HK.out.tr hk2).tr hk3).newRow hg5 (fun i e => (M3.out.lt i e).1)⟩

end Go.Proofs.YtpajefkfnhibnaaDoor
