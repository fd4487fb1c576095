import Derived.Test.YtakilpnbjihibaaGreatDoorP5
namespace Go.Proofs.YtakilpnbjihibaaGreatDoor
set_option linter.unusedVariables false
set_option linter.unusedSimpArgs false
set_option maxHeartbeats 4000000
set_option maxRecDepth 100000
section
open Go.RowKit Go.Lib Go.Deep
def plI (p : Pl) : List Int := p.cycle :: p.offset :: (p.splits.length : Int) :: p.splits
def plansI (l : List Pl) : List Int := (l.length : Int) :: l.flatMap plI
structure Wok (l : List Pl) : Prop where
 many : l.length <= 8
 one : ∀ p ∈ l, 0 <= p.cycle /\ 0 <= p.offset /\ p.splits.length <= 8 /\ ∀ x ∈ p.splits, 0 <= x
theorem plI_len (p : Pl) (h : p.splits.length <= 8) : (plI p).length <= 11 := by simp [plI]; omega
theorem plansI_take {l : List Pl} (h : ∀ p ∈ l, p.splits.length <= 8) : ((l.flatMap plI)).length <= 11 * l.length := by
 induction l with
 | nil => simp
 | cons p l ih =>
  have h1 := ih (fun q hq => h q (List.mem_cons_of_mem _ hq)); have h2 := plI_len p (h p (List.mem_cons_self ..)); rw [List.flatMap_cons, List.length_append, List.length_cons]; omega
theorem pl_take {l : List Pl} {k : Nat} (h : k < l.length) : l.take (k + 1) = l.take k ++ [l.getD k q0] := by
 rw [List.take_succ_eq_append_getElem h]; simp [h]
theorem planBytes_any {w : World} {a : Option Addr} {n c : Nat} {l : List Pl} (hP : Plans w a n c l) (hW : Wok l) :
 Calls Tryz.prog 88 #[.slice a n c] w fun e w' => ∃ a' c', e = .returned (.slice a' (smlI (plansI l)).length c') /\ Mine w' w.heap.size a' (smlI (plansI l)).length c' (smlI (plansI l)) /\ Kept w w' none := by
 have HP := Hid.mk' hP; have HW := Hid.mk' hW; have HSZ := Hid.mk' hP.size; have hn8 : n <= 8 := by have := hW.many; have := hP.size; omega
 have hI1 : Ints (w.alloc (.cells #[.int .i64 (n : Int)] 3)) (some ⟨w.heap.size, 0, none⟩) 1 1 [(n : Int)] := ints_of w [(n : Int)] 3 (fun x hx => by simp at hx; omega) (by simp); have HI1 := Hid.mk' hI1; have hs1 : (smlI [(n : Int)]).length <= 10 := smlI_len [(n : Int)] (fun x hx => by simp at hx; omega); clear hP hW hI1; go_enter Tryz.func88, Tryz.ntmps88; go_wp2_with (go_at_call 34; refine (wsmall_any w.heap.size (Mine.empty _ _) (by simp) HI1.out (fun _ x hx => by simp [Value.ownBlock]) (by simp) (by omega)).mono ?_; rintro e w1 ⟨a1, c1, rfl, hm1, hk1, hv1⟩); have hk1' : Kept w w1 none := (Kept.alloc w _ _ _ _).newRow hk1 (fun i e => by simp [Value.ownBlock] at e); have HK1 := Hid.mk' hk1'; have HM1 := Hid.mk' hm1; rw [Nat.zero_add] at *; clear hk1 hm1 hk1' hv1; go_loopw [3, 12] (fun s i wr => ∃ k : Nat, k <= n /\ i = .int .i64 k /\ ∃ a1 n1 c1, s = .slice a1 n1 c1 /\ n1 = (smlI [(n : Int)] ++ smlI ((l.take k).flatMap plI)).length /\ n1 <= 10 + 110 * k /\ Mine wr w.heap.size a1 n1 c1 (smlI [(n : Int)] ++ smlI ((l.take k).flatMap plI)) /\ Kept w wr none) (fun _ i _ => n - (intOf i).toNat)
 case atStart => exact ⟨0, Nat.zero_le _, rfl, a1, _, c1, rfl, by simp [smlI], by omega, by simpa [smlI] using HM1.out, HK1.out⟩
 case round =>
  obtain ⟨k, hk, rfl, a2, n2, c2, rfl, hn2, hle, hMi, hkw⟩ := hrel; have HMI := Hid.mk' hMi; have HN2 := Hid.mk' hn2; have HKW := Hid.mk' hkw; clear hMi hn2; by_cases hlt : k < n
  . obtain ⟨b, off, a', c', rfl, k0, k1, k2, hI⟩ := (HP.out.kept hkw).at_ hlt; have hkl : k < l.length := by have := HSZ.out; omega
    have hin : l.getD k q0 ∈ l := getD_mem hkl; obtain ⟨p0', p1', p2', p3'⟩ := HW.out.one _ hin; have hrg := HP.out.rng _ hin
    have hst : smlI [(n : Int)] ++ smlI ((l.take (k + 1)).flatMap plI) = smlI [(n : Int)] ++ smlI ((l.take k).flatMap plI) ++ smlI [(l.getD k q0).cycle, (l.getD k q0).offset, ((l.getD k q0).splits.length : Int)] ++ smlI (l.getD k q0).splits := by
     rw [pl_take hkl, List.flatMap_append, smlI_append, List.flatMap_singleton]; have : plI (l.getD k q0) = [(l.getD k q0).cycle, (l.getD k q0).offset, ((l.getD k q0).splits.length : Int)] ++ (l.getD k q0).splits := rfl; rw [this, smlI_append, List.append_assoc, List.append_assoc]
    have HST := Hid.mk' hst
    have hIw : 0 < (l.getD k q0).splits.length -> ∀ x, a' = some x -> x.block < w.heap.size := fun hp x hx => by
     obtain ⟨b2, off2, a2', c2', e2, _, _, k2', hI'⟩ := HP.out.at_ hlt; injection e2 with e2; injection e2 with e3 e4; subst e3 e4; have h1 := cell_kept0 k2' hkw; rw [h1] at k2; injection k2 with k2; injection k2 with e5 e6 e7; subst e5 e7; exact hI'.lt hp x hx
    have HIW := Hid.mk' hIw; have HI := Hid.mk' hI; clear hst hI hIw hkw; generalize l.getD k q0 = p at *
    have hs3 := smlI_len [p.cycle, p.offset, (p.splits.length : Int)] (fun x hx => by
     simp only [List.mem_cons, List.mem_nil_iff, or_false] at hx; have := hrg.1; have := hrg.2; unfold i64B at *; rcases hx with rfl | rfl | rfl <;> omega)
    have hs4 := smlI_len p.splits (fun x hx => by have := (HI.out.rng x hx).2; omega)
    have hI3 : Ints ((wr.alloc (.cells #[.int .i64 p.cycle, .int .i64 p.offset, .slice a' p.splits.length c'] 79)).alloc (.cells #[.int .i64 p.cycle, .int .i64 p.offset, .int .i64 (p.splits.length : Int)] 3)) (some ⟨(wr.alloc (.cells #[.int .i64 p.cycle, .int .i64 p.offset, .slice a' p.splits.length c'] 79)).heap.size, 0, none⟩) 3 3 [p.cycle, p.offset, (p.splits.length : Int)] := ints_of _ [p.cycle, p.offset, (p.splits.length : Int)] 3 (fun x hx => by
     simp only [List.mem_cons, List.mem_nil_iff, or_false] at hx; have h1 := hrg.1; have h2 := hrg.2; unfold i64B at h1 h2; rcases hx with rfl | rfl | rfl
     . exact h1
     . exact h2
     . omega) (by simp)
    rw [World.size_alloc] at hI3; have HI3 := Hid.mk' hI3; have hkA : Kept wr ((wr.alloc (.cells #[.int .i64 p.cycle, .int .i64 p.offset, .slice a' p.splits.length c'] 79)).alloc (.cells #[.int .i64 p.cycle, .int .i64 p.offset, .int .i64 (p.splits.length : Int)] 3)) none := (Kept.alloc _ _ _ _ _).tr (Kept.alloc _ _ _ _ _); have HKA := Hid.mk' hkA; have c2b : ((wr.alloc (.cells #[.int .i64 p.cycle, .int .i64 p.offset, .slice a' p.splits.length c'] 79)).alloc (.cells #[.int .i64 p.cycle, .int .i64 p.offset, .int .i64 (p.splits.length : Int)] 3)).cell? ⟨wr.heap.size, 2, none⟩ = some (.slice a' p.splits.length c') := cell_kept0 (box3 wr _ _ _ _).2.2 (Kept.alloc _ _ _ _ _); have HC2 := Hid.mk' c2b
    have hpos3 : ∀ x ∈ [p.cycle, p.offset, (p.splits.length : Int)], 0 <= x := fun x hx => by
     simp only [List.mem_cons, List.mem_nil_iff, or_false] at hx; rcases hx with rfl | rfl | rfl <;> omega
    have HP3 := Hid.mk' hpos3; have HP4 := Hid.mk' p3'; have hs3' : (smlI [p.cycle, p.offset, (p.splits.length : Int)]).length <= 30 := hs3; clear hI3 hkA c2b hpos3 p3' hs3
    have hne3 : 0 < 3 -> ∀ x, some (⟨wr.heap.size + 1, 0, none⟩ : Addr) = some x -> some x.block ≠ (Value.slice a2 n2 c2).ownBlock := fun _ x hx => by
     injection hx with hx; subst hx; exact ne_own HMI.out (.inr (by show wr.heap.size <= wr.heap.size + 1; omega))
    have hcall := wsmall_any w.heap.size (HMI.out.kept HKA.out) (by have := HKW.out.size; have := HKA.out.size; omega) HI3.out hne3 HP3.out (by omega); have HCALL := Hid.mk' hcall; have hwr : w.heap.size <= wr.heap.size := HKW.out.size; have hwa : wr.heap.size <= ((wr.alloc (.cells #[.int .i64 p.cycle, .int .i64 p.offset, .slice a' p.splits.length c'] 79)).alloc (.cells #[.int .i64 p.cycle, .int .i64 p.offset, .int .i64 (p.splits.length : Int)] 3)).heap.size := HKA.out.size; clear hcall hne3; have hown2 := fun i => HMI.out.lt i
    have HOWN2 := Hid.mk' hown2; clear hown2
    go_wp2_with (first
     | (go_at_call 34; refine (wsmall_any w.heap.size M3.out (by have := K3.out.size; omega) ((HI.out.kept HKA.out).keptR K3.out (fun hp x hx => ne_own (HMI.out.kept HKA.out) (.inl (HIW.out hp x hx)))) (fun hp x hx => ne_own M3.out (.inl (HIW.out hp x hx))) HP4.out (by omega)).mono ?_; rintro e w4 ⟨a4, c4, rfl, hm4, hk4, hv4⟩)
     | (go_at_call 34; refine HCALL.out.mono ?_; rintro e w3 ⟨a3, c3, rfl, hm3, hk3, hv3⟩; have M3 := Hid.mk' hm3; have K3 := Hid.mk' hk3; have V3 := Hid.mk' hv3; have cc := cell_keptR HC2.out hk3 (fun e => (by have := HOWN2.out _ e.symm; omega)); clear hm3 hk3 hv3))
    go_roundw
    case rel =>
     refine ⟨k + 1, by omega, by go_num, a4, _, c4, rfl, ?_, ?_, ?_, ?_⟩
     . rw [HST.out, List.length_append, List.length_append, HN2.out]
     . have hs4' : (smlI p.splits).length <= 80 := by omega
       omega
     . rw [HST.out]; exact hm4
     . refine ((HKW.out.tr HKA.out).newRow K3.out (fun i e => (HOWN2.out i e).1)).newRow hk4 (fun i e => (M3.out.lt i e).1)
    case measure => simp [intOf]; omega
  . have hkk : l.take k = l := List.take_of_length_le (by have := HSZ.out; omega); rw [hkk] at HMI HN2
    have e2 : smlI [(n : Int)] ++ smlI (l.flatMap plI) = smlI (plansI l) := by
     rw [<- smlI_append, <- HSZ.out]; rfl
    rw [e2] at HMI HN2; have e := HN2.out; subst e; go_wp2; go_ret; exact ⟨a2, c2, rfl, HMI.out, HKW.out⟩
theorem splits_all {l : List Int} : l.all (fun x => inB x 0 1048576) = allB l.length (fun k => inB (l.getD k 0) 0 1048576) := by
 rw [Bool.eq_iff_iff, List.all_eq_true, allB_iff]; constructor
 . intro h i hi; exact h _ (getD_mem hi)
 . intro h x hx; obtain ⟨i, hi, rfl⟩ := List.getElem_of_mem hx; have := h i hi; simpa [hi] using this
def mayL (l : List Pl) : Bool := allB l.length (fun k => mayB (l.getD k q0))
theorem mayL_iff {l : List Pl} : mayL l = true ↔ ∀ p ∈ l, mayB p = true := by
 unfold mayL; rw [allB_iff]; constructor
 . intro h p hp; obtain ⟨i, hi, rfl⟩ := List.getElem_of_mem hp; have := h i hi; simpa [hi] using this
 . intro h i hi; exact h _ (getD_mem hi)
def wholeE (l : List Pl) : Int := if 8 < l.length then 4 else if mayL l = true then 0 else 170
def wholeL (l : List Pl) : List Nat := if wholeE l = 0 then smlI (plansI l) else []
def grI (g : Gr) : List Int := [(g.kind : Int), g.min, g.yellow]
def phI (p : Ph) : List Int := [(p.groups : Int), p.min, p.max, p.gap, if p.always = true then 1 else 0]
def eyI (e : Ey) : List Int := [e.phase, e.on, e.off, e.turns]
def apI (x : Nat) : List Int := [(x : Int)]
def I1 (S : St) : List Int := [S.id, (S.groups.length : Int)]
def I2 (S : St) (k : Nat) : List Int := I1 S ++ (S.groups.take k).flatMap grI
def I3 (S : St) (k : Nat) : List Int := I2 S S.groups.length ++ (S.apart.take k).flatMap apI
def I4 (S : St) (k : Nat) : List Int := I3 S S.apart.length ++ (S.between.take k).flatten
def I5 (S : St) (k : Nat) : List Int := I4 S S.between.length ++ [(S.phases.length : Int)] ++ (S.phases.take k).flatMap phI
def I6 (S : St) (k : Nat) : List Int := I5 S S.phases.length ++ [(S.eyes.length : Int)] ++ (S.eyes.take k).flatMap eyI
def I7 (S : St) : List Int := I6 S S.eyes.length ++ [S.watch, S.feed, S.heal, S.low, S.high]
def siteI (S : St) : List Int := I7 S ++ plansI S.plans
def siteL (S : St) : List Nat := smlI (siteI S)
theorem wlit {w0 wr w1 : World} {a : Option Addr} {n c : Nat} {L : List Nat} {g m d : Nat} {l : List Int} (hk : Kept w0 wr none) (hM : Mine wr w0.heap.size a n c L) (hk1 : Kept wr w1 none) (hI : Ints w1 (some ⟨g, 0, none⟩) m d l) (hg : wr.heap.size <= g) (hpos : ∀ x ∈ l, 0 <= x) (hlen : n + 10 * m <= 1099511627776) :
 Calls Tryz.prog 34 #[.slice a n c, .slice (some ⟨g, 0, none⟩) m d] w1 fun e w' => ∃ a' c', e = .returned (.slice a' (n + (smlI l).length) c') /\ Mine w' w0.heap.size a' (n + (smlI l).length) c' (L ++ smlI l) /\ Kept w0 w' none := by
 have hs := hk.size; have hs1 := hk1.size; refine (wsmall_any w0.heap.size (hM.kept hk1) (by omega) hI (fun _ x hx => ?_) hpos hlen).mono fun e w' ⟨a', c', he, hm, hkk, hv⟩ => ⟨a', c', he, hm, (hk.tr hk1).newRow hkk (fun i e => (hM.lt i e).1)⟩
 injection hx with hx; subst hx; exact ne_own hM (.inr hg)
theorem wrow {w0 wr : World} {a : Option Addr} {n c : Nat} {L : List Nat} {b : Option Addr} {m d : Nat} {l : List Int} (hk : Kept w0 wr none) (hM : Mine wr w0.heap.size a n c L) (hI : Ints w0 b m d l) (hpos : ∀ x ∈ l, 0 <= x) (hlen : n + 10 * m <= 1099511627776) :
 Calls Tryz.prog 34 #[.slice a n c, .slice b m d] wr fun e w' => ∃ a' c', e = .returned (.slice a' (n + (smlI l).length) c') /\ Mine w' w0.heap.size a' (n + (smlI l).length) c' (L ++ smlI l) /\ Kept w0 w' none :=
 (wsmall_any w0.heap.size hM hk.size (hI.kept hk) (fun hp x hx => ne_own hM (.inl (hI.lt hp x hx))) hpos hlen).mono fun e w' ⟨a', c', he, hm, hkk, hv⟩ => ⟨a', c', he, hm, hk.newRow hkk (fun i e => (hM.lt i e).1)⟩
structure Lst (w0 wr : World) (a : Option Addr) (n c : Nat) (P : List Int) (bd : Nat) : Prop where
 mine : Mine wr w0.heap.size a n c (smlI P)
 size : n = (smlI P).length
 le : n <= bd
 kept : Kept w0 wr none
theorem take_snocA {α : Type} {l : List α} {d : α} {k : Nat} (h : k < l.length) : l.take (k + 1) = l.take k ++ [l.getD k d] := by
 rw [List.take_succ_eq_append_getElem h]; simp [h]
theorem I2_succ {S : St} {k : Nat} (h : k < S.groups.length) : I2 S (k + 1) = I2 S k ++ grI (S.gr k) := by
 unfold I2; rw [take_snocA (d := g0) h, List.flatMap_append, List.flatMap_singleton, <- List.append_assoc]; rfl
theorem I3_succ {S : St} {k : Nat} (h : k < S.apart.length) : I3 S (k + 1) = I3 S k ++ [(S.ap k : Int)] := by
 unfold I3; rw [take_snocA (d := 0) h, List.flatMap_append, List.flatMap_singleton, <- List.append_assoc]; rfl
theorem I4_succ {S : St} {k : Nat} (h : k < S.between.length) : I4 S (k + 1) = I4 S k ++ S.between.getD k [] := by
 unfold I4; rw [take_snocA (d := []) h, List.flatten_append, <- List.append_assoc]; simp
theorem I5_succ {S : St} {k : Nat} (h : k < S.phases.length) : I5 S (k + 1) = I5 S k ++ phI (S.ph k) := by
 unfold I5; rw [take_snocA (d := p0) h, List.flatMap_append, List.flatMap_singleton, <- List.append_assoc]; rfl
theorem I6_succ {S : St} {k : Nat} (h : k < S.eyes.length) : I6 S (k + 1) = I6 S k ++ eyI (S.ey k) := by
 unfold I6; rw [take_snocA (d := e0) h, List.flatMap_append, List.flatMap_singleton, <- List.append_assoc]; rfl
theorem Lst.grow {w0 wr w' : World} {a a' : Option Addr} {n c c' : Nat} {P l Q : List Int} {bd bd' : Nat} (h : Lst w0 wr a n c P bd) (hm : Mine w' w0.heap.size a' (n + (smlI l).length) c' (smlI P ++ smlI l)) (hk : Kept w0 w' none) (hQ : Q = P ++ l) (hb : bd + (smlI l).length <= bd') : Lst w0 w' a' (n + (smlI l).length) c' Q bd' := by
 subst hQ; refine ⟨by rw [smlI_append]; exact hm, by rw [smlI_append, List.length_append, h.size], by have := h.le; omega, hk⟩
theorem Lst.at0 {w0 wr : World} {a : Option Addr} {n n' c : Nat} {P Q : List Int} {bd bd' : Nat} (h : Lst w0 wr a n c P bd) (e : Q = P) (hn : n' = n) (hb : bd <= bd') : Lst w0 wr a n' c Q bd' := by
 subst e hn; exact ⟨h.mine, h.size, by have := h.le; omega, h.kept⟩
theorem smlI_le {l : List Int} {m : Nat} (h : ∀ x ∈ l, x <= 9223372036854775807) (hl : l.length <= m) : (smlI l).length <= 10 * m := by
 have := smlI_len l (fun x hx => by have := h x hx; omega); omega
theorem plans_len {w : World} {a : Option Addr} {n c : Nat} {l : List Pl} (hP : Plans w a n c l) (hW : Wok l) : (smlI (plansI l)).length <= 890 := by
 have h1 := plansI_take (l := l) (fun p hp => (hW.one p hp).2.2.1); have h2 := hW.many; refine smlI_le (m := 89) (fun x hx => ?_) (by unfold plansI; rw [List.length_cons]; omega); unfold plansI at hx; rcases List.mem_cons.1 hx with rfl | hx
 . omega
 . simp only [List.mem_flatMap, plI] at hx; obtain ⟨p, hp, hx⟩ := hx; have hr := hP.rng p hp; have h3 := hW.one p hp; unfold i64B at hr; rcases List.mem_cons.1 hx with rfl | hx
   . omega
   . rcases List.mem_cons.1 hx with rfl | hx
     . omega
     . rcases List.mem_cons.1 hx with rfl | hx
       . omega
       . obtain ⟨j, hj, rfl⟩ := List.getElem_of_mem hp; obtain ⟨_, _, _, _, _, _, _, _, hI⟩ := hP.at_ (i := j) (by have := hP.size; omega); have e : l.getD j q0 = l[j] := by simp [hj]
         rw [e] at hI; exact (hI.rng x hx).2
structure Pos (S : St) : Prop where
 ok : Okay S
 id : 0 <= S.id
 row : ∀ a, a < S.between.length -> (S.between.getD a []).length <= 16
 gr : ∀ i, i < S.groups.length -> 0 <= (S.gr i).min /\ 0 <= (S.gr i).yellow
 bt : ∀ a, a < S.between.length -> ∀ x ∈ S.between.getD a [], 0 <= x
 ph : ∀ i, i < S.phases.length -> 0 <= (S.ph i).min /\ 0 <= (S.ph i).max /\ 0 <= (S.ph i).gap
 ey : ∀ i, i < S.eyes.length -> 0 <= (S.ey i).phase /\ 0 <= (S.ey i).on /\ 0 <= (S.ey i).off /\ 0 <= (S.ey i).turns
 own : 0 <= S.watch /\ 0 <= S.feed /\ 0 <= S.heal /\ 0 <= S.low /\ 0 <= S.high
 plans : Wok S.plans
theorem pos_may {S : St} (h : siteB S = true) : Pos S := by
 have hA := all_of h; have hSp := span_may h; have hO := hSp.base.sh.ok; have h1 : ownB S = true := hA 1 (by omega) 0 Nat.zero_lt_one; have h8 : cyclesB S = true := hA 8 (by omega) 0 Nat.zero_lt_one; unfold ownB timeB at h1; unfold cyclesB at h8; simp only [Bool.and_eq_true, inB_iff] at h1 h8; have hlow := hSp.low; refine ⟨hO, h1.1.1.1.1, fun a ha => ?_, fun i hi => ?_, fun a ha x hx => ?_, fun i hi => ?_, fun i hi => ?_, by omega, hO.nl, fun p hp => ?_⟩
 . have := hSp.base.sh.row a (by have := hO.nb; omega); have := hO.ng; omega
 . have h2 : groupB S i = true := hA 2 (by omega) i hi; unfold groupB timeB at h2; simp only [Bool.and_eq_true, inB_iff] at h2; omega
 . have hb := hO.nb; have h4 : betweenB S a = true := hA 4 (by omega) a (show a < S.groups.length by omega); have h2 : groupB S a = true := hA 2 (by omega) a (show a < S.groups.length by omega); unfold groupB timeB at h2; unfold betweenB at h4; simp only [Bool.and_eq_true, decide_eq_true_eq, inB_iff] at h2 h4; obtain ⟨j, hj, rfl⟩ := List.getElem_of_mem hx; have h6 := allB_iff.1 h4.2 j (by omega)
   have e : S.bt a j = (S.between.getD a [])[j] := by
    unfold St.bt; rw [List.getD_eq_getElem?_getD, List.getElem?_eq_getElem hj]; rfl
   unfold betB at h6; rw [e] at h6; split at h6
   . have := (inB_iff.1 h6).1; omega
   . have := of_decide_eq_true h6; omega
 . have h5 : phaseB S i = true := hA 5 (by omega) i hi; unfold phaseB timeB at h5; simp only [Bool.and_eq_true, decide_eq_true_eq, inB_iff] at h5; omega
 . have h7 : eyeB S i = true := hA 7 (by omega) i hi; unfold eyeB timeB at h7; simp only [Bool.and_eq_true, inB_iff] at h7; omega
 . obtain ⟨i, hi, rfl⟩ := List.getElem_of_mem hp; have h9 : planB S (S.pl i) = true := hA 9 (by omega) i hi; have e : S.pl i = S.plans[i] := by unfold St.pl; simp [hi]
   rw [e] at h9; unfold planB at h9; simp only [Bool.and_eq_true, decide_eq_true_eq, inB_iff] at h9
   have key : ∀ (l : List Int) (j : Nat) (left : Int), j + l.length <= S.phases.length -> splitsB S j l left = true -> ∀ x ∈ l, 0 <= x := by
    intro l
    induction l with
    | nil => intro j left _ _ x hx; cases hx
    | cons y l ih =>
     intro j left hl hs x hx; rw [splitsB, Bool.and_eq_true, inB_iff] at hs; rw [List.length_cons] at hl; have := hSp.base.part (i := j) (by omega); rcases List.mem_cons.1 hx with rfl | hx
     . omega
     . exact ih (j + 1) _ (by omega) hs.2 x hx
   have hp8 := hO.np; exact ⟨by omega, by omega, by omega, key _ 0 _ (by omega) h9.2⟩
theorem siteBytes_any {X : Sa} {S : St} {w : World} (h : Sat w X S) (hP : Pos S) : Calls Tryz.prog 65 #[siteV X S] w fun e w' => ∃ a' c', e = .returned (.slice a' (siteL S).length c') /\ Mine w' w.heap.size a' (siteL S).length c' (siteL S) /\ Kept w w' none := by
 have hsb := sbox_alloc h 49; have hk0 : Kept w (w.alloc (.cells (cs9 X S) 49)) none := Kept.alloc _ _ _ _ _; have h12 := hsb; have HPO := Hid.mk' hP; have hg16 := hP.ok.ng; have hp8 := hP.ok.np; have he24 := hP.ok.ne; have ha16 : S.apart.length <= 16 := by have := hP.ok.na; omega
 have hb16 : S.between.length <= 16 := by have := hP.ok.nb; omega
 have hid := hP.id; have hnr := h.nr; unfold i64B at hnr; have hs0 : (w.alloc (.cells (cs9 X S) 49)).heap.size = w.heap.size + 1 := World.size_alloc _ _
 have hI0 : Ints ((w.alloc (.cells (cs9 X S) 49)).alloc (.cells #[.int .i64 S.id, .int .i64 (S.groups.length : Int)] 3)) (some ⟨w.heap.size + 1, 0, none⟩) 2 2 [S.id, (S.groups.length : Int)] := by
  have h0 := ints_of (w.alloc (.cells (cs9 X S) 49)) [S.id, (S.groups.length : Int)] 3 (fun x hx => (by
   simp only [List.mem_cons, List.mem_nil_iff, or_false] at hx; rcases hx with rfl | rfl <;> omega)) (by simp)
  rw [hs0] at h0; exact h0
 have hsl0 : (smlI [S.id, (S.groups.length : Int)]).length <= 20 := smlI_le (m := 2) (fun x hx => (hI0.rng x hx).2) (by simp)
 have hpos0 : ∀ x ∈ [S.id, (S.groups.length : Int)], 0 <= x := fun x hx => by
  simp only [List.mem_cons, List.mem_nil_iff, or_false] at hx; rcases hx with rfl | rfl <;> omega
 have hcall0 := wlit (Kept.refl (w.alloc (.cells (cs9 X S) 49)) none) (Mine.empty _ _) (Kept.alloc _ _ _ _ _) hI0 (by omega) hpos0 (by omega); have HC0 := Hid.mk' hcall0; have HSB := Hid.mk' hsb; have HK0 := Hid.mk' hk0; have HS0 := Hid.mk' hs0; clear h hP hsb hk0 h12 hcall0 hI0 hpos0 hs0; go_enter Tryz.func65, Tryz.ntmps65; go_wp2_with (go_at_call 34; refine HC0.out.mono ?_; rintro e w1 ⟨a1, c1, rfl, hm1, hk1⟩; have c1' := (HSB.out.kept hk1).c1); have HL : Hid (Lst (w.alloc (.cells (cs9 X S) 49)) w1 a1 (0 + (smlI [S.id, (S.groups.length : Int)]).length) c1 (I1 S) 20) := ⟨hm1, by rw [Nat.zero_add]; rfl, by omega, hk1⟩; clear hm1 hk1 HC0; generalize hW0 : w.alloc (.cells (cs9 X S) 49) = W0 at *; have hw0 : W0.heap.size = w.heap.size + 1 := HS0.out; clear hW0 c1' HS0; go_loopw [3, 25] (fun s i wr => ∃ k : Nat, k <= S.groups.length /\ i = .int .i64 k /\ ∃ a1 n1 c1, s = .slice a1 n1 c1 /\ Lst W0 wr a1 n1 c1 (I2 S k) (20 + 30 * k)) (fun _ i _ => S.groups.length - (intOf i).toNat)
 case atStart => exact ⟨0, Nat.zero_le _, rfl, _, _, _, rfl, HL.out.at0 (by simp [I2]) (by omega) (by omega)⟩
 case round =>
  clear HL; obtain ⟨k, hk, rfl, a1, n1, c1, rfl, hL⟩ := hrel; have hle := hL.le; have hkw := hL.kept; have HL := Hid.mk' hL; clear hL; by_cases hlt : k < S.groups.length
  . obtain ⟨bg, og, eg, g0', g1', g2'⟩ := (HSB.out.kept hkw).sat.grAt hlt; have hgr := HSB.out.sat.gr _ (getD_mem (d := g0) hlt); have hgp := HPO.out.gr k hlt; have hk256 : (S.gr k).kind < 256 := hgr.1; have hr1 := hgr.2.1; have hr2 := hgr.2.2; unfold i64B at hr1 hr2; change -9223372036854775808 <= (S.gr k).min /\ (S.gr k).min <= 9223372036854775807 at hr1; change -9223372036854775808 <= (S.gr k).yellow /\ (S.gr k).yellow <= 9223372036854775807 at hr2; rw [eg] at *; clear eg hgr
    have hI : Ints ((wr.alloc (.cells #[.int .u8 ((S.gr k).kind : Int), .int .i64 (S.gr k).min, .int .i64 (S.gr k).yellow] 108)).alloc (.cells #[.int .i64 (((S.gr k).kind : Int)), .int .i64 ((S.gr k).min), .int .i64 ((S.gr k).yellow)] 3)) (some ⟨wr.heap.size + 1, 0, none⟩) 3 3 [((S.gr k).kind : Int), (S.gr k).min, (S.gr k).yellow] := by
     have h0 := ints_of (wr.alloc (.cells #[.int .u8 ((S.gr k).kind : Int), .int .i64 (S.gr k).min, .int .i64 (S.gr k).yellow] 108)) [((S.gr k).kind : Int), (S.gr k).min, (S.gr k).yellow] 3 (fun x hx => (by
      simp only [List.mem_cons, List.mem_nil_iff, or_false] at hx; rcases hx with rfl | rfl | rfl <;> omega)) (by simp)
     rw [World.size_alloc] at h0; exact h0
    have hpos : ∀ x ∈ ([((S.gr k).kind : Int), (S.gr k).min, (S.gr k).yellow] : List Int), 0 <= x := fun x hx => by
     simp only [List.mem_cons, List.mem_nil_iff, or_false] at hx; rcases hx with rfl | rfl | rfl <;> omega
    have hcall := wlit hkw HL.out.mine ((Kept.alloc wr _ _ _ _).tr (Kept.alloc _ _ _ _ _) : Kept wr ((wr.alloc (.cells #[.int .u8 ((S.gr k).kind : Int), .int .i64 (S.gr k).min, .int .i64 (S.gr k).yellow] 108)).alloc (.cells #[.int .i64 (((S.gr k).kind : Int)), .int .i64 ((S.gr k).min), .int .i64 ((S.gr k).yellow)] 3)) none) hI (by omega) hpos (by omega)
    have hsl : (smlI ([((S.gr k).kind : Int), (S.gr k).min, (S.gr k).yellow] : List Int)).length <= 30 := smlI_le (m := 3) (fun x hx => (by
     have := hI.rng x hx; omega)) (by simp)
    have HCALL := Hid.mk' hcall; have HST := Hid.mk' (I2_succ hlt); clear hcall hI hpos; go_wp2_with (go_at_call 34; refine HCALL.out.mono ?_; rintro e w3 ⟨a3, c3, rfl, hm3, hk3⟩); go_roundw
    case rel => exact ⟨k + 1, by omega, by go_num, a3, _, c3, rfl, HL.out.grow hm3 hk3 HST.out (by omega)⟩
    case measure => simp [intOf]; omega
  . have hkk : k = S.groups.length := by omega
    subst hkk; have c2' := (HSB.out.kept hkw).c2; go_wp2; go_loopw [3, 43] (fun s i wr => ∃ k : Nat, k <= S.apart.length /\ i = .int .i64 k /\ ∃ a1 n1 c1, s = .slice a1 n1 c1 /\ Lst W0 wr a1 n1 c1 (I3 S k) (500 + 10 * k)) (fun _ i _ => S.apart.length - (intOf i).toNat)
    case atStart => exact ⟨0, Nat.zero_le _, rfl, _, _, _, rfl, HL.out.at0 (by simp [I3]) (by omega) (by omega)⟩
    case round =>
     clear HL; obtain ⟨k, hk, rfl, a1, n1, c1, rfl, hL⟩ := hrel; have hle := hL.le; have hkw := hL.kept; have HL := Hid.mk' hL; clear hL; by_cases hlt : k < S.apart.length
     . obtain ⟨ba, oa, ea, hca⟩ := (HSB.out.kept hkw).sat.apAt (n := S.apart.length) (by omega) (by omega); have ka := hca k hlt; have har := HSB.out.sat.apr k; rw [ea] at *; clear ea hca
       have hI : Ints (wr.alloc (.cells #[.int .i64 (((S.ap k : Nat) : Int))] 3)) (some ⟨wr.heap.size, 0, none⟩) 1 1 [((S.ap k : Nat) : Int)] := by
        have h0 := ints_of wr [((S.ap k : Nat) : Int)] 3 (fun x hx => (by
         simp only [List.mem_cons, List.mem_nil_iff, or_false] at hx; subst hx; omega)) (by simp)
        skip
        exact h0
       have hpos : ∀ x ∈ ([((S.ap k : Nat) : Int)] : List Int), 0 <= x := fun x hx => by
        simp only [List.mem_cons, List.mem_nil_iff, or_false] at hx; subst hx; omega
       have hcall := wlit hkw HL.out.mine (Kept.alloc wr _ _ _ _ : Kept wr (wr.alloc (.cells #[.int .i64 (((S.ap k : Nat) : Int))] 3)) none) hI (by omega) hpos (by omega)
       have hsl : (smlI ([((S.ap k : Nat) : Int)] : List Int)).length <= 10 := smlI_le (m := 1) (fun x hx => (by
        have := hI.rng x hx; omega)) (by simp)
       have HCALL := Hid.mk' hcall; have HST := Hid.mk' (I3_succ hlt); clear hcall hI hpos; go_wp2_with (go_at_call 34; refine HCALL.out.mono ?_; rintro e w3 ⟨a3, c3, rfl, hm3, hk3⟩); go_roundw
       case rel => exact ⟨k + 1, by omega, by go_num, a3, _, c3, rfl, HL.out.grow hm3 hk3 HST.out (by omega)⟩
       case measure => simp [intOf]; omega
     . have hkk : k = S.apart.length := by omega
       subst hkk; have c3' := (HSB.out.kept hkw).c3; go_wp2; go_loopw [3, 56] (fun s i wr => ∃ k : Nat, k <= S.between.length /\ i = .int .i64 k /\ ∃ a1 n1 c1, s = .slice a1 n1 c1 /\ Lst W0 wr a1 n1 c1 (I4 S k) (660 + 160 * k)) (fun _ i _ => S.between.length - (intOf i).toNat)
       case atStart => exact ⟨0, Nat.zero_le _, rfl, _, _, _, rfl, HL.out.at0 (by simp [I4]) (by omega) (by omega)⟩
       case round =>
        clear HL; obtain ⟨k, hk, rfl, a1, n1, c1, rfl, hL⟩ := hrel; have hle := hL.le; have hkw := hL.kept; have HL := Hid.mk' hL; clear hL; by_cases hlt : k < S.between.length
        . obtain ⟨bb, ob, ar, cr, eb, kb0, hI⟩ := HSB.out.sat.b.at_ hlt; have kb := cell_kept0 kb0 hkw; have hrl := HPO.out.row k hlt; have hbp := HPO.out.bt k hlt; have hcall := wrow hkw HL.out.mine hI hbp (by omega); have hsl := smlI_le (m := 16) (fun x hx => (hI.rng x hx).2) hrl; have HCALL := Hid.mk' hcall; have HST := Hid.mk' (I4_succ hlt); rw [eb] at *; clear hcall hI hbp kb0 eb; generalize S.between.getD k [] = R at *; go_wp2_with (go_at_call 34; refine HCALL.out.mono ?_; rintro e w3 ⟨a3, c3, rfl, hm3, hk3⟩); go_roundw
          case rel => exact ⟨k + 1, by omega, by go_num, a3, _, c3, rfl, HL.out.grow hm3 hk3 HST.out (by omega)⟩
          case measure => simp [intOf]; omega
        . have hkk : k = S.between.length := by omega
          subst hkk; have c4' := (HSB.out.kept hkw).c4
          have hI : Ints (wr.alloc (.cells #[.int .i64 (((S.phases.length : Nat) : Int))] 3)) (some ⟨wr.heap.size, 0, none⟩) 1 1 [((S.phases.length : Nat) : Int)] := ints_of wr [((S.phases.length : Nat) : Int)] 3 (fun x hx => (by
           simp only [List.mem_cons, List.mem_nil_iff, or_false] at hx; subst hx; omega)) (by simp)
          have hpos : ∀ x ∈ ([((S.phases.length : Nat) : Int)] : List Int), 0 <= x := fun x hx => by
           simp only [List.mem_cons, List.mem_nil_iff, or_false] at hx; subst hx; omega
          have hcall := wlit hkw HL.out.mine (Kept.alloc wr _ _ _ _ : Kept wr (wr.alloc (.cells #[.int .i64 (((S.phases.length : Nat) : Int))] 3)) none) hI (by omega) hpos (by omega); have hsl : (smlI ([((S.phases.length : Nat) : Int)] : List Int)).length <= 10 := smlI_le (m := 1) (fun x hx => (hI.rng x hx).2) (by simp); have HCALL := Hid.mk' hcall; clear hcall hI hpos; go_wp2_with (go_at_call 34; refine HCALL.out.mono ?_; rintro e w3 ⟨a3, c3, rfl, hm3, hk3⟩; have c4x := (HSB.out.kept hk3).c4); have HL2 := Hid.mk' (HL.out.grow (bd' := 3230) hm3 hk3 rfl (by omega)); clear HL hm3 hle hkw HCALL hsl c4' c4x; have HL := HL2; clear HL2; go_loopw [3, 73] (fun s i wr => ∃ k : Nat, k <= S.phases.length /\ i = .int .i64 k /\ ∃ a1 n1 c1, s = .slice a1 n1 c1 /\ Lst W0 wr a1 n1 c1 (I5 S k) (3230 + 50 * k)) (fun _ i _ => S.phases.length - (intOf i).toNat)
          case atStart => exact ⟨0, Nat.zero_le _, rfl, _, _, _, rfl, HL.out.at0 (by simp [I5]) (by omega) (by omega)⟩
          case round =>
           clear HL; obtain ⟨k, hk, rfl, a1, n1, c1, rfl, hL⟩ := hrel; have hle := hL.le; have hkw := hL.kept; have HL := Hid.mk' hL; clear hL; by_cases hlt : k < S.phases.length
           . obtain ⟨bp, op, ep, q0', q1', q2', q3', q4'⟩ := (HSB.out.kept hkw).sat.phAt hlt; have hgr := HSB.out.sat.pr _ (getD_mem (d := p0) hlt); have hgp := HPO.out.ph k hlt; have hk256 : (S.ph k).groups < 4294967296 := hgr.1; have hr1 := hgr.2.1; have hr2 := hgr.2.2.1; have hr3 := hgr.2.2.2; unfold i64B at hr1 hr2 hr3; change -9223372036854775808 <= (S.ph k).min /\ (S.ph k).min <= 9223372036854775807 at hr1; change -9223372036854775808 <= (S.ph k).max /\ (S.ph k).max <= 9223372036854775807 at hr2; change -9223372036854775808 <= (S.ph k).gap /\ (S.ph k).gap <= 9223372036854775807 at hr3; rw [ep] at *; clear ep hgr
             cases hal : (S.ph k).always with
             | true =>
              rw [hal] at q4'
              have hI : Ints ((wr.alloc (.cells #[.int .u32 ((S.ph k).groups : Int), .int .i64 (S.ph k).min, .int .i64 (S.ph k).max, .int .i64 (S.ph k).gap, .bool true] 110)).alloc (.cells #[.int .i64 (((S.ph k).groups : Int)), .int .i64 ((S.ph k).min), .int .i64 ((S.ph k).max), .int .i64 ((S.ph k).gap), .int .i64 (1)] 3)) (some ⟨wr.heap.size + 1, 0, none⟩) 5 5 [((S.ph k).groups : Int), (S.ph k).min, (S.ph k).max, (S.ph k).gap, 1] := by
               have h0 := ints_of (wr.alloc (.cells #[.int .u32 ((S.ph k).groups : Int), .int .i64 (S.ph k).min, .int .i64 (S.ph k).max, .int .i64 (S.ph k).gap, .bool true] 110)) [((S.ph k).groups : Int), (S.ph k).min, (S.ph k).max, (S.ph k).gap, 1] 3 (fun x hx => (by
                simp only [List.mem_cons, List.mem_nil_iff, or_false] at hx; rcases hx with rfl | rfl | rfl | rfl | rfl <;> omega)) (by simp)
               rw [World.size_alloc] at h0; exact h0
              have hpos : ∀ x ∈ ([((S.ph k).groups : Int), (S.ph k).min, (S.ph k).max, (S.ph k).gap, 1] : List Int), 0 <= x := fun x hx => by
               simp only [List.mem_cons, List.mem_nil_iff, or_false] at hx; rcases hx with rfl | rfl | rfl | rfl | rfl <;> omega
              have hcall := wlit hkw HL.out.mine ((Kept.alloc wr _ _ _ _).tr (Kept.alloc _ _ _ _ _) : Kept wr ((wr.alloc (.cells #[.int .u32 ((S.ph k).groups : Int), .int .i64 (S.ph k).min, .int .i64 (S.ph k).max, .int .i64 (S.ph k).gap, .bool true] 110)).alloc (.cells #[.int .i64 (((S.ph k).groups : Int)), .int .i64 ((S.ph k).min), .int .i64 ((S.ph k).max), .int .i64 ((S.ph k).gap), .int .i64 (1)] 3)) none) hI (by omega) hpos (by omega)
              have hsl : (smlI ([((S.ph k).groups : Int), (S.ph k).min, (S.ph k).max, (S.ph k).gap, 1] : List Int)).length <= 50 := smlI_le (m := 5) (fun x hx => (by
               have := hI.rng x hx; omega)) (by simp)
              have HCALL := Hid.mk' hcall; have HST := Hid.mk' (I5_succ hlt); clear hcall hI hpos; go_wp2_with (go_at_call 34; refine HCALL.out.mono ?_; rintro e w3 ⟨a3, c3, rfl, hm3, hk3⟩); go_roundw
              case rel => exact ⟨k + 1, by omega, by go_num, a3, _, c3, rfl, HL.out.grow hm3 hk3 (HST.out.trans (by unfold phI; rw [hal]; rfl)) (by omega)⟩
              case measure => simp [intOf]; omega
             | false =>
              rw [hal] at q4'
              have hI : Ints ((wr.alloc (.cells #[.int .u32 ((S.ph k).groups : Int), .int .i64 (S.ph k).min, .int .i64 (S.ph k).max, .int .i64 (S.ph k).gap, .bool false] 110)).alloc (.cells #[.int .i64 (((S.ph k).groups : Int)), .int .i64 ((S.ph k).min), .int .i64 ((S.ph k).max), .int .i64 ((S.ph k).gap), .int .i64 (0)] 3)) (some ⟨wr.heap.size + 1, 0, none⟩) 5 5 [((S.ph k).groups : Int), (S.ph k).min, (S.ph k).max, (S.ph k).gap, 0] := by
               have h0 := ints_of (wr.alloc (.cells #[.int .u32 ((S.ph k).groups : Int), .int .i64 (S.ph k).min, .int .i64 (S.ph k).max, .int .i64 (S.ph k).gap, .bool false] 110)) [((S.ph k).groups : Int), (S.ph k).min, (S.ph k).max, (S.ph k).gap, 0] 3 (fun x hx => (by
                simp only [List.mem_cons, List.mem_nil_iff, or_false] at hx; rcases hx with rfl | rfl | rfl | rfl | rfl <;> omega)) (by simp)
               rw [World.size_alloc] at h0; exact h0
              have hpos : ∀ x ∈ ([((S.ph k).groups : Int), (S.ph k).min, (S.ph k).max, (S.ph k).gap, 0] : List Int), 0 <= x := fun x hx => by
               simp only [List.mem_cons, List.mem_nil_iff, or_false] at hx; rcases hx with rfl | rfl | rfl | rfl | rfl <;> omega
              have hcall := wlit hkw HL.out.mine ((Kept.alloc wr _ _ _ _).tr (Kept.alloc _ _ _ _ _) : Kept wr ((wr.alloc (.cells #[.int .u32 ((S.ph k).groups : Int), .int .i64 (S.ph k).min, .int .i64 (S.ph k).max, .int .i64 (S.ph k).gap, .bool false] 110)).alloc (.cells #[.int .i64 (((S.ph k).groups : Int)), .int .i64 ((S.ph k).min), .int .i64 ((S.ph k).max), .int .i64 ((S.ph k).gap), .int .i64 (0)] 3)) none) hI (by omega) hpos (by omega)
              have hsl : (smlI ([((S.ph k).groups : Int), (S.ph k).min, (S.ph k).max, (S.ph k).gap, 0] : List Int)).length <= 50 := smlI_le (m := 5) (fun x hx => (by
               have := hI.rng x hx; omega)) (by simp)
              have HCALL := Hid.mk' hcall; have HST := Hid.mk' (I5_succ hlt); clear hcall hI hpos; go_wp2_with (go_at_call 34; refine HCALL.out.mono ?_; rintro e w3 ⟨a3, c3, rfl, hm3, hk3⟩); go_roundw
              case rel => exact ⟨k + 1, by omega, by go_num, a3, _, c3, rfl, HL.out.grow hm3 hk3 (HST.out.trans (by unfold phI; rw [hal]; rfl)) (by omega)⟩
              case measure => simp [intOf]; omega
           . have hkk : k = S.phases.length := by omega
             subst hkk; have c5' := (HSB.out.kept hkw).c5
             have hI : Ints (wr.alloc (.cells #[.int .i64 (((S.eyes.length : Nat) : Int))] 3)) (some ⟨wr.heap.size, 0, none⟩) 1 1 [((S.eyes.length : Nat) : Int)] := ints_of wr [((S.eyes.length : Nat) : Int)] 3 (fun x hx => (by
              simp only [List.mem_cons, List.mem_nil_iff, or_false] at hx; subst hx; omega)) (by simp)
             have hpos : ∀ x ∈ ([((S.eyes.length : Nat) : Int)] : List Int), 0 <= x := fun x hx => by
              simp only [List.mem_cons, List.mem_nil_iff, or_false] at hx; subst hx; omega
             have hcall := wlit hkw HL.out.mine (Kept.alloc wr _ _ _ _ : Kept wr (wr.alloc (.cells #[.int .i64 (((S.eyes.length : Nat) : Int))] 3)) none) hI (by omega) hpos (by omega); have hsl : (smlI ([((S.eyes.length : Nat) : Int)] : List Int)).length <= 10 := smlI_le (m := 1) (fun x hx => (hI.rng x hx).2) (by simp); have HCALL := Hid.mk' hcall; clear hcall hI hpos; go_wp2_with (go_at_call 34; refine HCALL.out.mono ?_; rintro e w3 ⟨a3, c3, rfl, hm3, hk3⟩; have c5x := (HSB.out.kept hk3).c5); have HL2 := Hid.mk' (HL.out.grow (bd' := 3640) hm3 hk3 rfl (by omega)); clear HL hm3 hle hkw HCALL hsl c5' c5x; have HL := HL2; clear HL2; go_loopw [3, 102] (fun s i wr => ∃ k : Nat, k <= S.eyes.length /\ i = .int .i64 k /\ ∃ a1 n1 c1, s = .slice a1 n1 c1 /\ Lst W0 wr a1 n1 c1 (I6 S k) (3640 + 40 * k)) (fun _ i _ => S.eyes.length - (intOf i).toNat)
             case atStart => exact ⟨0, Nat.zero_le _, rfl, _, _, _, rfl, HL.out.at0 (by simp [I6]) (by omega) (by omega)⟩
             case round =>
              clear HL; obtain ⟨k, hk, rfl, a1, n1, c1, rfl, hL⟩ := hrel; have hle := hL.le; have hkw := hL.kept; have HL := Hid.mk' hL; clear hL; by_cases hlt : k < S.eyes.length
              . obtain ⟨bp, op, ep, q0', q1', q2', q3'⟩ := (HSB.out.kept hkw).sat.eyAt hlt; have hgr := HSB.out.sat.er _ (getD_mem (d := e0) hlt); have hgp := HPO.out.ey k hlt; have hr0 := hgr.1; have hr1 := hgr.2.1; have hr2 := hgr.2.2.1; have hr3 := hgr.2.2.2; unfold i64B at hr0 hr1 hr2 hr3; change -9223372036854775808 <= (S.ey k).phase /\ (S.ey k).phase <= 9223372036854775807 at hr0; change -9223372036854775808 <= (S.ey k).on /\ (S.ey k).on <= 9223372036854775807 at hr1; change -9223372036854775808 <= (S.ey k).off /\ (S.ey k).off <= 9223372036854775807 at hr2; change -9223372036854775808 <= (S.ey k).turns /\ (S.ey k).turns <= 9223372036854775807 at hr3; rw [ep] at *; clear ep hgr
                have hI : Ints ((wr.alloc (.cells #[.int .i64 (S.ey k).phase, .int .i64 (S.ey k).on, .int .i64 (S.ey k).off, .int .i64 (S.ey k).turns] 112)).alloc (.cells #[.int .i64 ((S.ey k).phase), .int .i64 ((S.ey k).on), .int .i64 ((S.ey k).off), .int .i64 ((S.ey k).turns)] 3)) (some ⟨wr.heap.size + 1, 0, none⟩) 4 4 [(S.ey k).phase, (S.ey k).on, (S.ey k).off, (S.ey k).turns] := by
                 have h0 := ints_of (wr.alloc (.cells #[.int .i64 (S.ey k).phase, .int .i64 (S.ey k).on, .int .i64 (S.ey k).off, .int .i64 (S.ey k).turns] 112)) [(S.ey k).phase, (S.ey k).on, (S.ey k).off, (S.ey k).turns] 3 (fun x hx => (by
                  simp only [List.mem_cons, List.mem_nil_iff, or_false] at hx; rcases hx with rfl | rfl | rfl | rfl <;> omega)) (by simp)
                 rw [World.size_alloc] at h0; exact h0
                have hpos : ∀ x ∈ ([(S.ey k).phase, (S.ey k).on, (S.ey k).off, (S.ey k).turns] : List Int), 0 <= x := fun x hx => by
                 simp only [List.mem_cons, List.mem_nil_iff, or_false] at hx; rcases hx with rfl | rfl | rfl | rfl <;> omega
                have hcall := wlit hkw HL.out.mine ((Kept.alloc wr _ _ _ _).tr (Kept.alloc _ _ _ _ _) : Kept wr ((wr.alloc (.cells #[.int .i64 (S.ey k).phase, .int .i64 (S.ey k).on, .int .i64 (S.ey k).off, .int .i64 (S.ey k).turns] 112)).alloc (.cells #[.int .i64 ((S.ey k).phase), .int .i64 ((S.ey k).on), .int .i64 ((S.ey k).off), .int .i64 ((S.ey k).turns)] 3)) none) hI (by omega) hpos (by omega)
                have hsl : (smlI ([(S.ey k).phase, (S.ey k).on, (S.ey k).off, (S.ey k).turns] : List Int)).length <= 40 := smlI_le (m := 4) (fun x hx => (by
                 have := hI.rng x hx; omega)) (by simp)
                have HCALL := Hid.mk' hcall; have HST := Hid.mk' (I6_succ hlt); clear hcall hI hpos; go_wp2_with (go_at_call 34; refine HCALL.out.mono ?_; rintro e w3 ⟨a3, c3, rfl, hm3, hk3⟩); go_roundw
                case rel => exact ⟨k + 1, by omega, by go_num, a3, _, c3, rfl, HL.out.grow hm3 hk3 HST.out (by omega)⟩
                case measure => simp [intOf]; omega
              . have hkk : k = S.eyes.length := by omega
                subst hkk; have c6' := (HSB.out.kept hkw).c6; have c7' := (HSB.out.kept hkw).c7; have c8' := (HSB.out.kept hkw).c8; have c9' := (HSB.out.kept hkw).c9; have c10' := (HSB.out.kept hkw).c10; have hoo := HPO.out.own
                have hI : Ints (wr.alloc (.cells #[.int .i64 (S.watch), .int .i64 (S.feed), .int .i64 (S.heal), .int .i64 (S.low), .int .i64 (S.high)] 3)) (some ⟨wr.heap.size, 0, none⟩) 5 5 [S.watch, S.feed, S.heal, S.low, S.high] := ints_of wr [S.watch, S.feed, S.heal, S.low, S.high] 3 (fun x hx => (by
                 simp only [List.mem_cons, List.mem_nil_iff, or_false] at hx; rcases hx with rfl | rfl | rfl | rfl | rfl <;> omega)) (by simp)
                have hpos : ∀ x ∈ ([S.watch, S.feed, S.heal, S.low, S.high] : List Int), 0 <= x := fun x hx => by
                 simp only [List.mem_cons, List.mem_nil_iff, or_false] at hx; rcases hx with rfl | rfl | rfl | rfl | rfl <;> omega
                have hcall := wlit hkw HL.out.mine (Kept.alloc wr _ _ _ _ : Kept wr (wr.alloc (.cells #[.int .i64 (S.watch), .int .i64 (S.feed), .int .i64 (S.heal), .int .i64 (S.low), .int .i64 (S.high)] 3)) none) hI (by omega) hpos (by omega); have hsl : (smlI ([S.watch, S.feed, S.heal, S.low, S.high] : List Int)).length <= 50 := smlI_le (m := 5) (fun x hx => (hI.rng x hx).2) (by simp); have HCALL := Hid.mk' hcall; clear hcall hI hpos; have HPL := Hid.mk' HSB.out.sat.l; have HWk := Hid.mk' HPO.out.plans; have hpl := plans_len HPL.out HWk.out
                go_wp2_with (first
                 | (have hgo := M5; clear hgo; at_builtin; refine wpList_joinA (by rfl) _ _ (by rfl) W0.heap.size _ _ _ (by rfl) (own_keptR HL3.out.mine.own hk5 (fun i _ => by simp)) a5 (smlI (plansI S.plans)).length c5x (smlI (plansI S.plans)) (by rfl) (M5.out.by (smlI_lt _)) (fun e => (M5.out.nil e).2) (by have := HL3.out.le; omega) (by have := HL3.out.kept.size; have := hk5.size; omega) ?_; intro a6 c6 w6 hm6 hg6 hat6)
                 | (have hgo := HL3; clear hgo; go_at_call 88; refine (planBytes_any (HPL.out.kept hk3) HWk.out).mono ?_; rintro e w5 ⟨a5, c5x, rfl, hm5, hk5⟩; have M5 := Hid.mk' hm5; clear hm5)
                 | (go_at_call 34; refine HCALL.out.mono ?_; rintro e w3 ⟨a3, c3, rfl, hm3, hk3⟩; have c11' := (HSB.out.kept hk3).c11; have HL3 := Hid.mk' (HL.out.grow (bd' := 4650) hm3 hk3 rfl (by omega)); clear hm3))
                go_ret; have e : smlI (I7 S) ++ smlI (plansI S.plans) = siteL S := by rw [<- smlI_append]; rfl
                have hz := HL3.out.size; have hsize : n1 + (smlI [S.watch, S.feed, S.heal, S.low, S.high]).length + (smlI (plansI S.plans)).length = (siteL S).length := by rw [<- e, List.length_append, hz]; rfl
                refine ⟨a6, c6, ?_, ?_, ?_⟩
                . rw [<- hsize]; rfl
                . rw [<- hsize, <- e]; exact hm6.lower (by omega)
                . exact (HK0.out.tr ((HL3.out.kept.tr hk5))).newRow hg6 (fun i e => by have := HL3.out.mine.lt i e; omega)
def sum4 (L : List Nat) : List Nat := leb 4 (sumB L)
theorem sum4_len (L : List Nat) : (sum4 L).length = 4 := leb_length _ _
theorem sum4_lt (L : List Nat) : ∀ x ∈ sum4 L, x < 256 := leb_lt _ _
theorem sumOf_any {a : Option Addr} {n c : Nat} {L : List Nat} {w : World} (hB : By w a n L) (ht : Table w) : Calls Tryz.prog 33 #[.slice a n c] w fun e w' => ∃ g, e = .returned (.slice (some ⟨g, 0, none⟩) 4 4) /\ By w' (some ⟨g, 0, none⟩) 4 (sum4 L) /\ Kept w w' none := by
 have HB := Hid.mk' hB; have HT := Hid.mk' ht; have hs := sumB_lt L hB.lt; have hd : sumB L / 256 ^ 4 = 0 := Nat.div_eq_of_lt (by simpa using hs); have HD := Hid.mk' hd; clear hB ht hd; go_enter Tryz.func33, Tryz.ntmps33
 go_wp2_with (first
  | (have hgo := hdone; clear hgo; go_at_call 61; refine (put_yes (sumB L) 4 _ (by omega) (by omega) (by omega) HD.out).mono ?_; rintro e w3 ⟨rfl, hb3, hk3, hz3⟩; have B3 := Hid.mk' hb3; clear hb3)
  | (go_at_call 62; refine (sum_any HB.out HT.out).mono ?_; rintro e w2 ⟨rfl, m, rfl⟩; have hdone := trivial))
 go_ret; exact ⟨_, rfl, B3.out, (Kept.drewN _ _ _).tr hk3⟩
theorem withSum_any {w : World} {a : Option Addr} {n c : Nat} {L : List Nat} (base : Nat) (hM : Mine w base a n c L) (hbase : base <= w.heap.size) (hlt : ∀ x ∈ L, x < 256) (hTb : Table w) (hlen : n <= 1000000) : Calls Tryz.prog 14 #[.slice a n c] w fun e w' => ∃ a' c', e = .returned (.slice a' (n + 4) c') /\ Mine w' base a' (n + 4) c' (L ++ sum4 L) /\ Kept w w' (Value.slice a n c).ownBlock := by
 have M3 := Hid.mk' hM; have BY := Hid.mk' (hM.by hlt); have HTb := Hid.mk' hTb; clear hM hTb hlt; go_enter Tryz.func14, Tryz.ntmps14
 go_wp2_with (first
  | (have hgo := B4; clear hgo; at_builtin; refine wpList_joinA (by rfl) _ _ (by rfl) base _ n L (by rfl) (own_keptR M3.out.own hk4 (fun i _ => by simp)) _ 4 4 (sum4 L) (by rfl) B4.out (fun e => by cases e) (by omega) (by have := hk4.size; omega) ?_; intro a5 c5 w5 hm5 hg5 hat5)
  | (go_at_call 33; refine (sumOf_any BY.out HTb.out).mono ?_; rintro e w4 ⟨g4, rfl, hb4, hk4⟩; have B4 := Hid.mk' hb4; clear hb4))
 go_ret; exact ⟨a5, c5, rfl, hm5, (hk4.weak _).tr hg5⟩
def writeL (S : St) : List Nat := if siteB S = true then siteL S ++ sum4 (siteL S) else []
theorem siteL_lt (S : St) : ∀ x ∈ siteL S, x < 256 := smlI_lt _
theorem writeL_lt (S : St) : ∀ x ∈ writeL S, x < 256 := by
 unfold writeL; split
 . intro x hx; rcases List.mem_append.1 hx with hx | hx
   . exact siteL_lt S x hx
   . exact sum4_lt _ x hx
 . simp
theorem siteL_len {X : Sa} {S : St} {w : World} (h : Sat w X S) (hs : siteB S = true) : (siteL S).length <= 5540 := by
 have hP := pos_may hs; have h1 := hP.ok.ng; have h2 := hP.ok.na; have h3 := hP.ok.nb; have h4 := hP.ok.np; have h5 := hP.ok.ne; have hpl := plans_len h.l hP.plans; have e : siteL S = smlI (I7 S) ++ smlI (plansI S.plans) := by unfold siteL siteI; rw [smlI_append]
 rw [e, List.length_append]
 have key : ∀ {α : Type} (f : α -> List Int) (m : Nat) (l : List α), (∀ x ∈ l, (f x).length <= m) -> (l.flatMap f).length <= m * l.length := by
  intro α f m l
  induction l with
  | nil => intro _; simp
  | cons x l ih =>
   intro hh; have a1 := ih (fun y hy => hh y (List.mem_cons_of_mem _ hy)); have a2 := hh x (List.mem_cons_self ..); rw [List.flatMap_cons, List.length_append, List.length_cons, Nat.mul_add]; omega
 have hlen : (I7 S).length <= 465 := by
  unfold I7 I6 I5 I4 I3 I2 I1; simp only [List.take_length, List.length_append, List.length_cons, List.length_nil]; have b1 := key grI 3 S.groups (fun x _ => by simp [grI]); have b2 := key apI 1 S.apart (fun x _ => by simp [apI]); have b3 := key phI 5 S.phases (fun x _ => by simp [phI]); have b4 := key eyI 4 S.eyes (fun x _ => by simp [eyI])
  have b5 : S.between.flatten.length <= 16 * S.between.length := by
   have := key (fun l : List Int => l) 16 S.between (fun x hx => by
    obtain ⟨i, hi, rfl⟩ := List.getElem_of_mem hx; have := hP.row i hi; simpa [hi] using this)
   simpa [List.flatMap_id'] using this
  omega
 have hle : ∀ x ∈ I7 S, x <= 9223372036854775807 := by
  intro x hx; have hn := h.nr; unfold i64B at hn; unfold I7 I6 I5 I4 I3 I2 I1 at hx; simp only [List.take_length, List.mem_append, List.mem_cons, List.mem_nil_iff, or_false, List.mem_flatMap, List.mem_flatten] at hx; rcases hx with (((((((((rfl | rfl) | ⟨g, hg, hx⟩) | ⟨y, hy, hx⟩) | ⟨l, hl, hx⟩) | rfl) | ⟨p, hp, hx⟩) | rfl) | ⟨q, hq, hx⟩) | (rfl | rfl | rfl | rfl | rfl))
  . omega
  . omega
  . have := h.gr g hg; unfold i64B at this; simp only [grI, List.mem_cons, List.mem_nil_iff, or_false] at hx; rcases hx with rfl | rfl | rfl <;> omega
  . have := h.ar y hy; simp only [apI, List.mem_cons, List.mem_nil_iff, or_false] at hx; subst hx; omega
  . obtain ⟨i, hi, rfl⟩ := List.getElem_of_mem hl; obtain ⟨_, _, _, _, _, _, hI⟩ := h.b.at_ hi; have e : S.between.getD i [] = S.between[i] := by simp [hi]
    rw [e] at hI; exact (hI.rng x hx).2
  . omega
  . have := h.pr p hp; unfold i64B at this; simp only [phI, List.mem_cons, List.mem_nil_iff, or_false] at hx; rcases hx with rfl | rfl | rfl | rfl | rfl
    . omega
    . omega
    . omega
    . omega
    . split <;> omega
  . omega
  . have := h.er q hq; unfold i64B at this; simp only [eyI, List.mem_cons, List.mem_nil_iff, or_false] at hx; rcases hx with rfl | rfl | rfl | rfl <;> omega
  . omega
  . omega
  . omega
  . omega
  . omega
 have := smlI_le hle hlen; omega
theorem write_any {X : Sa} {S : St} {w : World} (h : Sat w X S) (hT : Tabb w) (hTb : Table w) : Calls Tryz.prog 35 #[siteV X S] w fun e w' => ∃ a' c', e = .returned (.tuple #[.slice a' (writeL S).length c', .int .i64 (checkE S)]) /\ Mine w' w.heap.size a' (writeL S).length c' (writeL S) /\ Kept w w' none := by
 have hkA : Kept w (w.alloc (.cells (cs9 X S) 49)) none := Kept.alloc _ _ _ _ _; have HK := Hid.mk' hkA; have HS := Hid.mk' (h.kept hkA); have HSB := Hid.mk' (sbox_alloc h 49); have HT := Hid.mk' (hT.kept hkA); have HTb := Hid.mk' (hTb.kept hkA)
 cases hs : siteB S with
 | false =>
  have hce := checkE_no hs; have hL : writeL S = [] := by unfold writeL; rw [if_neg (by rw [hs]; decide)]
  rw [hL, hce]; clear h hT hTb hkA hL; go_enter Tryz.func35, Tryz.ntmps35; go_wp2_with (go_at_call 64; refine (check_any HS.out HT.out).mono ?_; rintro e w2 ⟨rfl, hk2⟩; rw [hce]); go_ret2; exact ⟨none, 0, rfl, Mine.empty _ _, HK.out.tr hk2⟩
 | true =>
  have hce := checkE_yes hs; have hL : writeL S = siteL S ++ sum4 (siteL S) := by unfold writeL; rw [if_pos hs]
  have HPo := Hid.mk' (pos_may hs); have hlen := siteL_len h hs; have hlen2 : (writeL S).length = (siteL S).length + 4 := by rw [hL, List.length_append, sum4_len]
  rw [hlen2, hL, hce]; clear h hT hTb hkA hL hlen2; go_enter Tryz.func35, Tryz.ntmps35
  go_wp2_with (first
   | (go_at_call 14; refine (withSum_any w.heap.size M3.out (by have := HK.out.size; have := hk2.size; have := hk3.size; omega) (siteL_lt S) (HTb.out.kept (hk2.tr hk3)) (by omega)).mono ?_; rintro e w5 ⟨a5, c5, rfl, hm5, hg5⟩)
   | (go_at_call 65; refine (siteBytes_any (HS.out.kept hk2) HPo.out).mono ?_; rintro e w3 ⟨a3, c3, rfl, hm3, hk3⟩; have M3 := Hid.mk' (hm3.lower (Nat.le_trans HK.out.size hk2.size)); clear hm3)
   | (go_at_call 64; refine (check_any HS.out HT.out).mono ?_; rintro e w2 ⟨rfl, hk2⟩; rw [hce]; have c0 := (HSB.out.kept hk2).c0; have c1 := (HSB.out.kept hk2).c1; have c2 := (HSB.out.kept hk2).c2; have c3 := (HSB.out.kept hk2).c3; have c4 := (HSB.out.kept hk2).c4; have c5 := (HSB.out.kept hk2).c5; have c6 := (HSB.out.kept hk2).c6; have c7 := (HSB.out.kept hk2).c7; have c8 := (HSB.out.kept hk2).c8; have c9 := (HSB.out.kept hk2).c9; have c10 := (HSB.out.kept hk2).c10; have c11 := (HSB.out.kept hk2).c11))
  go_ret2; exact ⟨a5, c5, rfl, hm5, ((HK.out.tr hk2).tr hk3).newRow hg5 (fun i e => (M3.out.lt i e).1)⟩
end
section

abbrev Rd := List Nat × Bool
def upM (most : Nat) (s : Rd) : Nat × Rd := if (!s.2 && (okR s.1 && decide (rdN s.1 <= most))) = true then (rdN s.1, (s.1.drop (rdK s.1), false)) else (0, (s.1, true))
def numM (s : Rd) : Int × Rd := (((upM 1048576 s).1 : Int), (upM 1048576 s).2)
def listM {α : Type} (f : Rd -> α × Rd) : Nat -> Rd -> List α × Rd
 | 0, s => ([], s)
 | n + 1, s => ((f s).1 :: (listM f n (f s).2).1, (listM f n (f s).2).2)
theorem listM_len {α : Type} (f : Rd -> α × Rd) : ∀ n s, (listM f n s).1.length = n
 | 0, s => rfl
 | n + 1, s => by rw [listM, List.length_cons, listM_len f n]
theorem listM_snoc {α : Type} (f : Rd -> α × Rd) : ∀ n s, listM f (n + 1) s = ((listM f n s).1 ++ [(f (listM f n s).2).1], (f (listM f n s).2).2)
 | 0, s => rfl
 | n + 1, s => by
  have h := listM_snoc f n (f s).2; rw [listM, h]; rfl
def bindM {α β : Type} (p : Rd -> α × Rd) (q : α -> Rd -> β × Rd) (s : Rd) : (α × β) × Rd := (((p s).1, (q (p s).1 (p s).2).1), (q (p s).1 (p s).2).2)
def mapM' {α β : Type} (f : α -> β) (p : Rd -> α × Rd) (s : Rd) : β × Rd := (f (p s).1, (p s).2)
structure Cod {α : Type} (p : Rd -> α × Rd) (enc : α -> List Nat) (ok : α -> Prop) : Prop where
 fwd : ∀ x T, ok x -> p (enc x ++ T, false) = (x, (T, false))
 bwd : ∀ L, (∀ y ∈ L, y < 256) -> (p (L, false)).2.2 = false -> L = enc (p (L, false)).1 ++ (p (L, false)).2.1 /\ ok (p (L, false)).1
 bad : ∀ L, (p (L, true)).2.2 = true
theorem Cod.bind {α β : Type} {p : Rd -> α × Rd} {q : α -> Rd -> β × Rd} {ea : α -> List Nat} {eb : α -> β -> List Nat} {oa : α -> Prop} {ob : α -> β -> Prop} (hp : Cod p ea oa) (hq : ∀ x, Cod (q x) (eb x) (ob x)) : Cod (bindM p q) (fun z => ea z.1 ++ eb z.1 z.2) (fun z => oa z.1 /\ ob z.1 z.2) := by
 refine ⟨fun z T h => ?_, fun L hL h => ?_, fun L => ?_⟩
 . unfold bindM; rw [List.append_assoc, hp.fwd z.1 _ h.1]; show (((z.1, (q z.1 (eb z.1 z.2 ++ T, false)).1), (q z.1 (eb z.1 z.2 ++ T, false)).2)) = _
   rw [(hq z.1).fwd z.2 T h.2]
 . unfold bindM at h ⊢
   have h1 : (p (L, false)).2.2 = false := by
    cases e : (p (L, false)).2.2 with
    | false => rfl
    | true =>
     have e2 : (p (L, false)).2 = ((p (L, false)).2.1, true) := Prod.ext rfl e; have := (hq (p (L, false)).1).bad (p (L, false)).2.1; rw [<- e2] at this
     exact absurd (h.symm.trans this) (by simp)
   obtain ⟨g1, g2⟩ := hp.bwd L hL h1; have e2 : (p (L, false)).2 = ((p (L, false)).2.1, false) := Prod.ext rfl h1; have hL2 : ∀ y ∈ (p (L, false)).2.1, y < 256 := fun y hy => hL y (by rw [g1]; exact List.mem_append.2 (.inr hy))
   have h' : (q (p (L, false)).1 ((p (L, false)).2.1, false)).2.2 = false := by rw [<- e2]; exact h
   obtain ⟨g3, g4⟩ := (hq (p (L, false)).1).bwd _ hL2 h'; rw [<- e2] at g3 g4; refine ⟨?_, g2, g4⟩; show L = ea (p (L, false)).1 ++ eb _ _ ++ _
   rw [List.append_assoc, <- g3]; exact g1
 . unfold bindM; have e2 : (p (L, true)).2 = ((p (L, true)).2.1, true) := Prod.ext rfl (hp.bad L); rw [e2]; exact (hq _).bad _
theorem Cod.map {α β : Type} {p : Rd -> α × Rd} {ea : α -> List Nat} {oa : α -> Prop} {eb : β -> List Nat} {ob : β -> Prop} (hp : Cod p ea oa) (f : α -> β) (g : β -> α) (h1 : ∀ y, ob y -> f (g y) = y /\ oa (g y) /\ eb y = ea (g y)) (h2 : ∀ x, oa x -> ob (f x) /\ eb (f x) = ea x) : Cod (mapM' f p) eb ob := by
 refine ⟨fun y T h => ?_, fun L hL h => ?_, fun L => hp.bad L⟩
 . obtain ⟨a1, a2, a3⟩ := h1 y h; unfold mapM'; rw [a3, hp.fwd _ T a2, a1]
 . obtain ⟨g1, g2⟩ := hp.bwd L hL h; obtain ⟨b1, b2⟩ := h2 _ g2; refine ⟨?_, b1⟩; show L = eb (f (p (L, false)).1) ++ _
   rw [b2]; exact g1
theorem Cod.list {α : Type} {p : Rd -> α × Rd} {ea : α -> List Nat} {oa : α -> Prop} (hp : Cod p ea oa) : ∀ n, Cod (listM p n) (fun l => l.flatMap ea) (fun l => l.length = n /\ ∀ x ∈ l, oa x)
 | 0 => ⟨fun l T h => by
  have : l = [] := List.length_eq_zero_iff.1 h.1; subst this; rfl, fun L hL h => ⟨rfl, rfl, fun x hx => (nomatch hx)⟩, fun L => rfl⟩
 | n + 1 => by
  have ih := Cod.list hp n; refine ⟨fun l T h => ?_, fun L hL h => ?_, fun L => ?_⟩
  . cases l with
    | nil => simp at h
    | cons x l =>
     rw [listM, List.flatMap_cons, List.append_assoc, hp.fwd x _ (h.2 x (List.mem_cons_self ..))]; show ((x :: (listM p n (l.flatMap ea ++ T, false)).1, (listM p n (l.flatMap ea ++ T, false)).2)) = _
     rw [ih.fwd l T ⟨by simpa using h.1, fun y hy => h.2 y (List.mem_cons_of_mem _ hy)⟩]
  . rw [listM] at h ⊢
    have h1 : (p (L, false)).2.2 = false := by
     cases e : (p (L, false)).2.2 with
     | false => rfl
     | true =>
      have e2 : (p (L, false)).2 = ((p (L, false)).2.1, true) := Prod.ext rfl e; have := ih.bad (p (L, false)).2.1; rw [<- e2] at this
      exact absurd (h.symm.trans this) (by simp)
    obtain ⟨g1, g2⟩ := hp.bwd L hL h1; have e2 : (p (L, false)).2 = ((p (L, false)).2.1, false) := Prod.ext rfl h1; have hL2 : ∀ y ∈ (p (L, false)).2.1, y < 256 := fun y hy => hL y (by rw [g1]; exact List.mem_append.2 (.inr hy))
    have h' : (listM p n ((p (L, false)).2.1, false)).2.2 = false := by rw [<- e2]; exact h
    obtain ⟨g3, g4⟩ := ih.bwd _ hL2 h'; rw [<- e2] at g3 g4; refine ⟨?_, by simp [g4.1], fun x hx => ?_⟩
    . show L = ((p (L, false)).1 :: (listM p n (p (L, false)).2).1).flatMap ea ++ _
      rw [List.flatMap_cons, List.append_assoc, <- g3]; exact g1
    . rcases List.mem_cons.1 hx with rfl | hx
      . exact g2
      . exact g4.2 x hx
  . rw [listM]; have e2 : (p (L, true)).2 = ((p (L, true)).2.1, true) := Prod.ext rfl (hp.bad L); show (listM p n (p (L, true)).2).2.2 = true
    rw [e2]; exact ih.bad _
theorem upC {most : Nat} (hm : most < 18446744073709551616) : Cod (upM most) sml (fun n => n <= most) := by
 refine ⟨fun n T h => ?_, fun L hL h => ?_, fun L => rfl⟩
 . obtain ⟨h1, h2, h3⟩ := read_sml n T (by omega)
   have h4 : okR (sml n ++ T) = true := by
    cases e : okR (sml n ++ T) with
    | true => rfl
    | false => unfold rdE at h1; rw [e] at h1; cases h1
   unfold upM; rw [if_pos (by simp [h4, h2, h]), h2, h3]; simp
 . unfold upM at h ⊢; split at h
   . rename_i hc; rw [if_pos hc]; simp only [Bool.not_false, Bool.true_and, Bool.and_eq_true, decide_eq_true_eq] at hc; obtain ⟨g1, _, _, _⟩ := read_only L hL hc.1; exact ⟨by rw [g1, List.take_append_drop], hc.2⟩
   . cases h
theorem numC : Cod numM (fun x : Int => sml x.toNat) (fun x => 0 <= x /\ x <= 1048576) :=
 (upC (most := 1048576) (by omega)).map (fun n : Nat => (n : Int)) Int.toNat (fun y hy => ⟨by omega, by omega, rfl⟩) (fun x hx => ⟨⟨by omega, by omega⟩, rfl⟩)
def countM {α : Type} (most : Nat) (f : Rd -> α × Rd) (s : Rd) : List α × Rd := listM f (upM most s).1 (upM most s).2
theorem countC {α : Type} {p : Rd -> α × Rd} {ea : α -> List Nat} {oa : α -> Prop} (hp : Cod p ea oa) {most : Nat} (hm : most < 18446744073709551616) : Cod (countM most p) (fun l => sml l.length ++ l.flatMap ea) (fun l => l.length <= most /\ ∀ x ∈ l, oa x) :=
 ((upC hm).bind (fun n => hp.list n)).map (fun z => z.2) (fun l => (l.length, l)) (fun y hy => ⟨rfl, ⟨hy.1, rfl, hy.2⟩, rfl⟩) (fun x hx => ⟨⟨by rw [hx.2.1]; exact hx.1, hx.2.2⟩, by
   show sml x.2.length ++ _ = sml x.1 ++ _
   rw [hx.2.1]⟩)
def grM : Rd -> Gr × Rd := mapM' (fun z : Nat × (Int × Int) => (⟨z.1, z.2.1, z.2.2⟩ : Gr)) (bindM (upM 255) (fun _ => bindM numM (fun _ => numM)))
theorem grC : Cod grM (fun g => smlI (grI g)) (fun g => g.kind <= 255 /\ (0 <= g.min /\ g.min <= 1048576) /\ (0 <= g.yellow /\ g.yellow <= 1048576)) := by
 unfold grM; exact ((upC (most := 255) (by omega)).bind (fun _ => numC.bind (fun _ => numC))).map _ (fun g : Gr => (g.kind, (g.min, g.yellow))) (fun y hy => ⟨rfl, hy, by simp [smlI, grI]⟩) (fun x hx => ⟨hx, by simp [smlI, grI]⟩)
def phM : Rd -> Ph × Rd := mapM' (fun z : Nat × (Int × (Int × (Int × Nat))) => (⟨z.1, z.2.1, z.2.2.1, z.2.2.2.1, decide (z.2.2.2.2 = 1)⟩ : Ph)) (bindM (upM 4294967295) (fun _ => bindM numM (fun _ => bindM numM (fun _ => bindM numM (fun _ => upM 1)))))
theorem phC : Cod phM (fun p => smlI (phI p)) (fun p => p.groups <= 4294967295 /\ (0 <= p.min /\ p.min <= 1048576) /\ (0 <= p.max /\ p.max <= 1048576) /\ (0 <= p.gap /\ p.gap <= 1048576)) := by
 unfold phM
 exact ((upC (most := 4294967295) (by omega)).bind (fun _ => numC.bind (fun _ => numC.bind (fun _ => numC.bind (fun _ => upC (most := 1) (by omega)))))).map _ (fun p : Ph => (p.groups, (p.min, (p.max, (p.gap, if p.always = true then 1 else 0)))))
  (fun y hy => ⟨by
   obtain ⟨a, b, c, d, e⟩ := y
   cases e <;> rfl, ⟨hy.1, hy.2.1, hy.2.2.1, hy.2.2.2, by show (if y.always = true then 1 else 0) <= 1; split <;> omega⟩, by
   obtain ⟨a, b, c, d, e⟩ := y
   cases e <;> simp [smlI, phI]⟩)
  (fun x hx => ⟨⟨hx.1, hx.2.1, hx.2.2.1, hx.2.2.2.1⟩, by
   obtain ⟨a, b, c, d, e⟩ := x; have he : e <= 1 := hx.2.2.2.2; have : e = 0 \/ e = 1 := by omega
   rcases this with rfl | rfl <;> simp [smlI, phI]⟩)
def eyM : Rd -> Ey × Rd := mapM' (fun z : Int × (Int × (Int × Int)) => (⟨z.1, z.2.1, z.2.2.1, z.2.2.2⟩ : Ey)) (bindM numM (fun _ => bindM numM (fun _ => bindM numM (fun _ => numM))))
theorem eyC : Cod eyM (fun e => smlI (eyI e)) (fun e => (0 <= e.phase /\ e.phase <= 1048576) /\ (0 <= e.on /\ e.on <= 1048576) /\ (0 <= e.off /\ e.off <= 1048576) /\ (0 <= e.turns /\ e.turns <= 1048576)) := by
 unfold eyM; exact (numC.bind (fun _ => numC.bind (fun _ => numC.bind (fun _ => numC)))).map _ (fun e : Ey => (e.phase, (e.on, (e.off, e.turns)))) (fun y hy => ⟨rfl, hy, by simp [smlI, eyI]⟩) (fun x hx => ⟨hx, by simp [smlI, eyI]⟩)
def plM : Rd -> Pl × Rd := mapM' (fun z : Int × (Int × List Int) => (⟨z.1, z.2.1, z.2.2⟩ : Pl)) (bindM numM (fun _ => bindM numM (fun _ => countM 8 numM)))
theorem plC : Cod plM (fun p => smlI (plI p)) (fun p => (0 <= p.cycle /\ p.cycle <= 1048576) /\ (0 <= p.offset /\ p.offset <= 1048576) /\ p.splits.length <= 8 /\ ∀ x ∈ p.splits, 0 <= x /\ x <= 1048576) := by
 unfold plM; exact (numC.bind (fun _ => numC.bind (fun _ => countC numC (most := 8) (by omega)))).map _ (fun p : Pl => (p.cycle, (p.offset, p.splits))) (fun y hy => ⟨rfl, hy, by simp [smlI, plI]⟩) (fun x hx => ⟨hx, by simp [smlI, plI]⟩)
def plansM : Rd -> List Pl × Rd := countM 8 plM
theorem smlI_flatMap {α : Type} (f : α -> List Int) (l : List α) : l.flatMap (fun x => smlI (f x)) = smlI (l.flatMap f) := by
 induction l with
 | nil => rfl
 | cons x l ih => rw [List.flatMap_cons, List.flatMap_cons, smlI_append, ih]
theorem plansC : Cod plansM (fun l => smlI (plansI l)) (fun l => l.length <= 8 /\ ∀ p ∈ l, (0 <= p.cycle /\ p.cycle <= 1048576) /\ (0 <= p.offset /\ p.offset <= 1048576) /\ p.splits.length <= 8 /\ ∀ x ∈ p.splits, 0 <= x /\ x <= 1048576) := by
 have h := countC plC (most := 8) (by omega)
 have e : ∀ l : List Pl, smlI (plansI l) = sml l.length ++ l.flatMap (fun p => smlI (plI p)) := fun l => by
  rw [smlI_flatMap]; simp [plansI, smlI]
 exact ⟨fun x T hx => by rw [e]; exact h.fwd x T hx, fun L hL hh => by rw [e]; exact h.bwd L hL hh, h.bad⟩
abbrev Tup := Int × (List Gr × (List Nat × (List (List Int) × (List Ph × (List Ey × (Int × (Int × (Int × (Int × (Int × List Pl))))))))))
def mkS (z : Tup) : St := ⟨z.1, z.2.1, z.2.2.1, z.2.2.2.1, z.2.2.2.2.1, z.2.2.2.2.2.1, z.2.2.2.2.2.2.1, z.2.2.2.2.2.2.2.1, z.2.2.2.2.2.2.2.2.1, z.2.2.2.2.2.2.2.2.2.1, z.2.2.2.2.2.2.2.2.2.2.1, z.2.2.2.2.2.2.2.2.2.2.2⟩
def unS (S : St) : Tup := (S.id, (S.groups, (S.apart, (S.between, (S.phases, (S.eyes, (S.watch, (S.feed, (S.heal, (S.low, (S.high, S.plans)))))))))))
def siteM : Rd -> St × Rd := mapM' mkS (bindM numM (fun _ => bindM (countM 16 grM) (fun g => bindM (listM (upM 4294967295) g.length) (fun _ => bindM (listM (listM numM g.length) g.length) (fun _ => bindM (countM 8 phM) (fun _ => bindM (countM 24 eyM) (fun _ => bindM numM (fun _ => bindM numM (fun _ => bindM numM (fun _ => bindM numM (fun _ => bindM numM (fun _ => plansM)))))))))))) 
def tickP (x : Int) : Prop := 0 <= x /\ x <= 1048576
structure Rok (S : St) : Prop where
 id : tickP S.id
 gn : S.groups.length <= 16
 gr : ∀ g ∈ S.groups, g.kind <= 255 /\ tickP g.min /\ tickP g.yellow
 an : S.apart.length = S.groups.length
 ap : ∀ x ∈ S.apart, x <= 4294967295
 bn : S.between.length = S.groups.length
 bt : ∀ l ∈ S.between, l.length = S.groups.length /\ ∀ x ∈ l, tickP x
 pn : S.phases.length <= 8
 ph : ∀ p ∈ S.phases, p.groups <= 4294967295 /\ tickP p.min /\ tickP p.max /\ tickP p.gap
 en : S.eyes.length <= 24
 ey : ∀ e ∈ S.eyes, tickP e.phase /\ tickP e.on /\ tickP e.off /\ tickP e.turns
 own : tickP S.watch /\ tickP S.feed /\ tickP S.heal /\ tickP S.low /\ tickP S.high
 ln : S.plans.length <= 8
 pl : ∀ p ∈ S.plans, tickP p.cycle /\ tickP p.offset /\ p.splits.length <= 8 /\ ∀ x ∈ p.splits, tickP x
theorem siteL_eq (S : St) : siteL S = sml S.id.toNat ++ ((sml S.groups.length ++ S.groups.flatMap fun g => smlI (grI g)) ++ (S.apart.flatMap sml ++ (S.between.flatMap (fun l => l.flatMap fun x : Int => sml x.toNat) ++ ((sml S.phases.length ++ S.phases.flatMap fun p => smlI (phI p)) ++ ((sml S.eyes.length ++ S.eyes.flatMap fun e => smlI (eyI e)) ++ (sml S.watch.toNat ++ (sml S.feed.toNat ++ (sml S.heal.toNat ++ (sml S.low.toNat ++ (sml S.high.toNat ++ smlI (plansI S.plans))))))))))) := by
 unfold siteL siteI I7 I6 I5 I4 I3 I2 I1; simp only [List.take_length]
 have ea : smlI (S.apart.flatMap apI) = S.apart.flatMap sml := by
  rw [<- smlI_flatMap]
  congr 1
  funext x
  simp [smlI, apI]
 have eb : smlI S.between.flatten = S.between.flatMap (fun l => l.flatMap fun x : Int => sml x.toNat) := by
  have := smlI_flatMap (fun l : List Int => l) S.between; rw [List.flatMap_id'] at this; rw [<- this]; rfl
 simp only [smlI_append, smlI_flatMap, ea, eb]; simp [smlI, List.append_assoc]
theorem siteC : Cod siteM siteL Rok := by
 unfold siteM; have h := numC.bind (fun _ => (countC grC (most := 16) (by omega)).bind (fun g => ((upC (most := 4294967295) (by omega)).list g.length).bind (fun _ => ((numC.list g.length).list g.length).bind (fun _ => (countC phC (most := 8) (by omega)).bind (fun _ => (countC eyC (most := 24) (by omega)).bind (fun _ => numC.bind (fun _ => numC.bind (fun _ => numC.bind (fun _ => numC.bind (fun _ => numC.bind (fun _ => plansC))))))))))) ; refine h.map mkS unS (fun S hS => ⟨rfl, ?_, ?_⟩) (fun z hz => ⟨?_, ?_⟩)
 . exact ⟨hS.id, ⟨hS.gn, hS.gr⟩, ⟨hS.an, hS.ap⟩, ⟨hS.bn, hS.bt⟩, ⟨hS.pn, hS.ph⟩, ⟨hS.en, hS.ey⟩, hS.own.1, hS.own.2.1, hS.own.2.2.1, hS.own.2.2.2.1, hS.own.2.2.2.2, hS.ln, hS.pl⟩
 . exact siteL_eq S
 . obtain ⟨h1, ⟨h2, h3⟩, ⟨h4, h5⟩, ⟨h6, h7⟩, ⟨h8, h9⟩, ⟨h10, h11⟩, h12, h13, h14, h15, h16, h17, h18⟩ := hz; exact ⟨h1, h2, h3, h4, h5, h6, h7, h8, h9, h10, h11, ⟨h12, h13, h14, h15, h16⟩, h17, h18⟩
 . exact siteL_eq (mkS z)
theorem rok_may {X : Sa} {S : St} {w : Go.World} (h : Sat w X S) (hs : siteB S = true) : Rok S := by
 have hA := all_of hs; have hP := pos_may hs; have hSp := span_may hs; have hO := hP.ok; have h1 : ownB S = true := hA 1 (by omega) 0 Nat.zero_lt_one; have h8 : cyclesB S = true := hA 8 (by omega) 0 Nat.zero_lt_one; unfold ownB timeB at h1; unfold cyclesB at h8; simp only [Bool.and_eq_true, inB_iff] at h1 h8; have hlow := hSp.low; have hhi := hSp.high; refine ⟨⟨by omega, by omega⟩, hO.ng.2, fun g hg => ?_, hO.na, fun x hx => ?_, hO.nb, fun l hl => ?_, hO.np.2, fun p hp => ?_, hO.ne, fun e he => ?_, ⟨⟨by omega, by omega⟩, ⟨by omega, by omega⟩, ⟨by omega, by omega⟩, ⟨by omega, by omega⟩, ⟨by omega, by omega⟩⟩, hO.nl, fun p hp => ?_⟩
 . obtain ⟨i, hi, rfl⟩ := List.getElem_of_mem hg; have h2 : groupB S i = true := hA 2 (by omega) i hi; have h3 := h.gr _ hg; have e : S.gr i = S.groups[i] := by unfold St.gr; simp [hi]
   unfold groupB timeB at h2; rw [e] at h2; simp only [Bool.and_eq_true, inB_iff] at h2; exact ⟨by omega, ⟨by omega, by omega⟩, ⟨by omega, by omega⟩⟩
 . have := h.ar x hx; omega
 . obtain ⟨i, hi, rfl⟩ := List.getElem_of_mem hl; have e : S.between.getD i [] = S.between[i] := by simp [hi]
   have hb := hO.nb; have h4 := hSp.base.sh.row i (by omega); rw [e] at h4; refine ⟨h4, fun x hx => ?_⟩; have h5 := hP.bt i hi x (by rw [e]; exact hx); obtain ⟨j, hj, rfl⟩ := List.getElem_of_mem hx; have h6 := hSp.base.bt i j (by omega) (by omega); have e2 : S.bt i j = S.between[i][j] := by unfold St.bt; rw [e]; simp [hj]
   rw [e2] at h6; exact ⟨h5, h6⟩
 . obtain ⟨i, hi, rfl⟩ := List.getElem_of_mem hp; have h5 : phaseB S i = true := hA 5 (by omega) i hi; have h6 := h.pr _ hp; have e : S.ph i = S.phases[i] := by unfold St.ph; simp [hi]
   unfold phaseB timeB at h5; rw [e] at h5; simp only [Bool.and_eq_true, decide_eq_true_eq, inB_iff] at h5; exact ⟨by omega, ⟨by omega, by omega⟩, ⟨by omega, by omega⟩, ⟨by omega, by omega⟩⟩
 . obtain ⟨i, hi, rfl⟩ := List.getElem_of_mem he; have h7 : eyeB S i = true := hA 7 (by omega) i hi; have e : S.ey i = S.eyes[i] := by unfold St.ey; simp [hi]
   have := hO.np; unfold eyeB timeB at h7; rw [e] at h7; simp only [Bool.and_eq_true, inB_iff] at h7; exact ⟨⟨by omega, by omega⟩, ⟨by omega, by omega⟩, ⟨by omega, by omega⟩, ⟨by omega, by omega⟩⟩
 . obtain ⟨h2, h3, h4, h5⟩ := hP.plans.one p hp; obtain ⟨i, hi, rfl⟩ := List.getElem_of_mem hp; have h9 : planB S (S.pl i) = true := hA 9 (by omega) i hi; have e : S.pl i = S.plans[i] := by unfold St.pl; simp [hi]
   rw [e] at h9; unfold planB at h9; simp only [Bool.and_eq_true, decide_eq_true_eq, inB_iff] at h9
   have key : ∀ (l : List Int) (j : Nat) (left : Int), (∀ x ∈ l, 0 <= x) -> left <= 1048576 -> splitsB S j l left = true -> ∀ x ∈ l, x <= 1048576 := by
    intro l
    induction l with
    | nil => intro j left _ _ _ x hx; cases hx
    | cons y l ih =>
     intro j left hp hl hs x hx; rw [splitsB, Bool.and_eq_true, inB_iff] at hs; rcases List.mem_cons.1 hx with rfl | hx
     . omega
     . have := hp y (List.mem_cons_self ..); exact ih (j + 1) _ (fun z hz => hp z (List.mem_cons_of_mem _ hz)) (by omega) hs.2 x hx
   exact ⟨⟨by omega, by omega⟩, ⟨by omega, by omega⟩, h4, fun x hx => ⟨h5 x hx, key _ 0 _ h5 (by omega) h9.2 x hx⟩⟩
end
end Go.Proofs.YtakilpnbjihibaaGreatDoor
