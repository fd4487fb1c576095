/-
  THE CONTRACT of siteBytes: all bytes of a site ahead of its sum.
-/
import Derived.Test.YtpajefkfnhibnaaDoorWhole2
namespace Go.Proofs.YtpajefkfnhibnaaDoor
open Go.RowKit Go.Lib Go.Deep
set_option linter.unusedVariables false
set_option linter.unusedSimpArgs false

def grI (g : Gr) : List Int := [(g.kind : Int), g.min, g.yellow]
def phI (p : Ph) : List Int := [(p.groups : Int), p.min, p.max, p.gap, if p.always = true then 1 else 0]
def eyI (e : Ey) : List Int := [e.phase, e.on, e.off, e.turns]
def apI (x : Nat) : List Int := [(x : Int)]
/-- A site's numbers, part by part. -/
def I1 (S : St) : List Int := [S.id, (S.groups.length : Int)]
def I2 (S : St) (k : Nat) : List Int := I1 S ++ (S.groups.take k).flatMap grI
def I3 (S : St) (k : Nat) : List Int := I2 S S.groups.length ++ (S.apart.take k).flatMap apI
def I4 (S : St) (k : Nat) : List Int := I3 S S.apart.length ++ (S.between.take k).flatten
def I5 (S : St) (k : Nat) : List Int := I4 S S.between.length ++ [(S.phases.length : Int)] ++ (S.phases.take k).flatMap phI
def I6 (S : St) (k : Nat) : List Int := I5 S S.phases.length ++ [(S.eyes.length : Int)] ++ (S.eyes.take k).flatMap eyI
def I7 (S : St) : List Int := I6 S S.eyes.length ++ [S.watch, S.feed, S.heal, S.low, S.high]
def siteI (S : St) : List Int := I7 S ++ plansI S.plans
def siteL (S : St) : List Nat := smlI (siteI S)

theorem wlit {w0 wr w1 : World} {a : Option Addr} {n c : Nat} {L : List Nat} {g m d : Nat} {l : List Int} (hk : Kept w0 wr none) (hM : Mine wr w0.heap.size a n c L) (hk1 : Kept wr w1 none) (hI : Ints w1 (some ⟨g, 0, none⟩) m d l) (hg : wr.heap.size ≤ g) (hpos : ∀ x ∈ l, 0 ≤ x) (hlen : n + 10 * m ≤ 1099511627776) :
    Calls Tryd.prog 70 #[.slice a n c, .slice (some ⟨g, 0, none⟩) m d] w1 fun e w' => ∃ a' c', e = .returned (.slice a' (n + (smlI l).length) c') ∧ Mine w' w0.heap.size a' (n + (smlI l).length) c' (L ++ smlI l) ∧ Kept w0 w' none := by
  have hs := hk.size
  have hs1 := hk1.size
  refine (wsmall_any w0.heap.size (hM.kept hk1) (by omega) hI (fun _ x hx => ?_) hpos hlen).mono fun e w' ⟨a', c', he, hm, hkk, hv⟩ => ⟨a', c', he, hm, (hk.tr hk1).newRow hkk (fun i e => (hM.lt i e).1)⟩
  injection hx with hx
  subst hx
  exact ne_own hM (.inr hg)
theorem wrow {w0 wr : World} {a : Option Addr} {n c : Nat} {L : List Nat} {b : Option Addr} {m d : Nat} {l : List Int} (hk : Kept w0 wr none) (hM : Mine wr w0.heap.size a n c L) (hI : Ints w0 b m d l) (hpos : ∀ x ∈ l, 0 ≤ x) (hlen : n + 10 * m ≤ 1099511627776) :
    Calls Tryd.prog 70 #[.slice a n c, .slice b m d] wr fun e w' => ∃ a' c', e = .returned (.slice a' (n + (smlI l).length) c') ∧ Mine w' w0.heap.size a' (n + (smlI l).length) c' (L ++ smlI l) ∧ Kept w0 w' none :=
  (wsmall_any w0.heap.size hM hk.size (hI.kept hk) (fun hp x hx => ne_own hM (.inl (hI.lt hp x hx))) hpos hlen).mono fun e w' ⟨a', c', he, hm, hkk, hv⟩ => ⟨a', c', he, hm, hk.newRow hkk (fun i e => (hM.lt i e).1)⟩
/-- The list so far. -/
structure Lst (w0 wr : World) (a : Option Addr) (n c : Nat) (P : List Int) (bd : Nat) : Prop where
  mine : Mine wr w0.heap.size a n c (smlI P)
  size : n = (smlI P).length
  le : n ≤ bd
  kept : Kept w0 wr none
theorem take_snocA {α : Type} {l : List α} {d : α} {k : Nat} (h : k < l.length) : l.take (k + 1) = l.take k ++ [l.getD k d] := by
  rw [List.take_succ_eq_append_getElem h]; simp [h]
theorem I2_succ {S : St} {k : Nat} (h : k < S.groups.length) : I2 S (k + 1) = I2 S k ++ grI (S.gr k) := by
  unfold I2; rw [take_snocA (d := g0) h, List.flatMap_append, List.flatMap_singleton, ← List.append_assoc]; rfl
theorem I3_succ {S : St} {k : Nat} (h : k < S.apart.length) : I3 S (k + 1) = I3 S k ++ [(S.ap k : Int)] := by
  unfold I3; rw [take_snocA (d := 0) h, List.flatMap_append, List.flatMap_singleton, ← List.append_assoc]; rfl
theorem I4_succ {S : St} {k : Nat} (h : k < S.between.length) : I4 S (k + 1) = I4 S k ++ S.between.getD k [] := by
  unfold I4; rw [take_snocA (d := []) h, List.flatten_append, ← List.append_assoc]; simp
theorem I5_succ {S : St} {k : Nat} (h : k < S.phases.length) : I5 S (k + 1) = I5 S k ++ phI (S.ph k) := by
  unfold I5; rw [take_snocA (d := p0) h, List.flatMap_append, List.flatMap_singleton, ← List.append_assoc]; rfl
theorem I6_succ {S : St} {k : Nat} (h : k < S.eyes.length) : I6 S (k + 1) = I6 S k ++ eyI (S.ey k) := by
  unfold I6; rw [take_snocA (d := e0) h, List.flatMap_append, List.flatMap_singleton, ← List.append_assoc]; rfl
theorem Lst.grow {w0 wr w' : World} {a a' : Option Addr} {n c c' : Nat} {P l Q : List Int} {bd bd' : Nat} (h : Lst w0 wr a n c P bd) (hm : Mine w' w0.heap.size a' (n + (smlI l).length) c' (smlI P ++ smlI l)) (hk : Kept w0 w' none) (hQ : Q = P ++ l) (hb : bd + (smlI l).length ≤ bd') : Lst w0 w' a' (n + (smlI l).length) c' Q bd' := by
  subst hQ
  refine ⟨by rw [smlI_append]; exact hm, by rw [smlI_append, List.length_append, h.size], by have := h.le; omega, hk⟩
theorem Lst.at0 {w0 wr : World} {a : Option Addr} {n n' c : Nat} {P Q : List Int} {bd bd' : Nat} (h : Lst w0 wr a n c P bd) (e : Q = P) (hn : n' = n) (hb : bd ≤ bd') : Lst w0 wr a n' c Q bd' := by
  subst e hn
  exact ⟨h.mine, h.size, by have := h.le; omega, h.kept⟩
theorem smlI_le {l : List Int} {m : Nat} (h : ∀ x ∈ l, x ≤ 9223372036854775807) (hl : l.length ≤ m) : (smlI l).length ≤ 10 * m := by
  have := smlI_len l (fun x hx => by have := h x hx; omega)
  omega
theorem plans_len {w : World} {a : Option Addr} {n c : Nat} {l : List Pl} (hP : Plans w a n c l) (hW : Wok l) : (smlI (plansI l)).length ≤ 890 := by
  have h1 := plansI_take (l := l) (fun p hp => (hW.one p hp).2.2.1)
  have h2 := hW.many
  refine smlI_le (m := 89) (fun x hx => ?_) (by unfold plansI; rw [List.length_cons]; omega)
  unfold plansI at hx
  rcases List.mem_cons.1 hx with rfl | hx
  · omega
  · simp only [List.mem_flatMap, plI] at hx
    obtain ⟨p, hp, hx⟩ := hx
    have hr := hP.rng p hp
    have h3 := hW.one p hp
    unfold i64B at hr
    rcases List.mem_cons.1 hx with rfl | hx
    · omega
    · rcases List.mem_cons.1 hx with rfl | hx
      · omega
      · rcases List.mem_cons.1 hx with rfl | hx
        · omega
        · obtain ⟨j, hj, rfl⟩ := List.getElem_of_mem hp
          obtain ⟨_, _, _, _, _, _, _, _, hI⟩ := hP.at_ (i := j) (by have := hP.size; omega)
          have e : l.getD j q0 = l[j] := by simp [hj]
          rw [e] at hI
          exact (hI.rng x hx).2
/-- Numbers that can be written. -/
structure Pos (S : St) : Prop where
  ok : Okay S
  id : 0 ≤ S.id
  row : ∀ a, a < S.between.length → (S.between.getD a []).length ≤ 16
  gr : ∀ i, i < S.groups.length → 0 ≤ (S.gr i).min ∧ 0 ≤ (S.gr i).yellow
  bt : ∀ a, a < S.between.length → ∀ x ∈ S.between.getD a [], 0 ≤ x
  ph : ∀ i, i < S.phases.length → 0 ≤ (S.ph i).min ∧ 0 ≤ (S.ph i).max ∧ 0 ≤ (S.ph i).gap
  ey : ∀ i, i < S.eyes.length → 0 ≤ (S.ey i).phase ∧ 0 ≤ (S.ey i).on ∧ 0 ≤ (S.ey i).off ∧ 0 ≤ (S.ey i).turns
  own : 0 ≤ S.watch ∧ 0 ≤ S.feed ∧ 0 ≤ S.heal ∧ 0 ≤ S.low ∧ 0 ≤ S.high
  plans : Wok S.plans
theorem pos_may {S : St} (h : siteB S = true) : Pos S := by
  have hA := all_of h
  have hSp := span_may h
  have hO := hSp.base.sh.ok
  have h1 : ownB S = true := hA 1 (by omega) 0 Nat.zero_lt_one
  have h8 : cyclesB S = true := hA 8 (by omega) 0 Nat.zero_lt_one
  unfold ownB timeB at h1
  unfold cyclesB at h8
  simp only [Bool.and_eq_true, inB_iff] at h1 h8
  have hlow := hSp.low
  refine ⟨hO, h1.1.1.1.1, fun a ha => ?_, fun i hi => ?_, fun a ha x hx => ?_, fun i hi => ?_, fun i hi => ?_, by omega, hO.nl, fun p hp => ?_⟩
  · have := hSp.base.sh.row a (by have := hO.nb; omega)
    have := hO.ng
    omega
  · have h2 : groupB S i = true := hA 2 (by omega) i hi
    unfold groupB timeB at h2
    simp only [Bool.and_eq_true, inB_iff] at h2
    omega
  · have hb := hO.nb
    have h4 : betweenB S a = true := hA 4 (by omega) a (show a < S.groups.length by omega)
    have h2 : groupB S a = true := hA 2 (by omega) a (show a < S.groups.length by omega)
    unfold groupB timeB at h2
    unfold betweenB at h4
    simp only [Bool.and_eq_true, decide_eq_true_eq, inB_iff] at h2 h4
    obtain ⟨j, hj, rfl⟩ := List.getElem_of_mem hx
    have h6 := allB_iff.1 h4.2 j (by omega)
    have e : S.bt a j = (S.between.getD a [])[j] := by
      unfold St.bt
      rw [List.getD_eq_getElem?_getD, List.getElem?_eq_getElem hj]
      rfl
    unfold betB at h6
    rw [e] at h6
    split at h6
    · have := (inB_iff.1 h6).1
      omega
    · have := of_decide_eq_true h6
      omega
  · have h5 : phaseB S i = true := hA 5 (by omega) i hi
    unfold phaseB timeB at h5
    simp only [Bool.and_eq_true, decide_eq_true_eq, inB_iff] at h5
    omega
  · have h7 : eyeB S i = true := hA 7 (by omega) i hi
    unfold eyeB timeB at h7
    simp only [Bool.and_eq_true, inB_iff] at h7
    omega
  · obtain ⟨i, hi, rfl⟩ := List.getElem_of_mem hp
    have h9 : planB S (S.pl i) = true := hA 9 (by omega) i hi
    have e : S.pl i = S.plans[i] := by unfold St.pl; simp [hi]
    rw [e] at h9
    unfold planB at h9
    simp only [Bool.and_eq_true, decide_eq_true_eq, inB_iff] at h9
    have key : ∀ (l : List Int) (j : Nat) (left : Int), j + l.length ≤ S.phases.length → splitsB S j l left = true → ∀ x ∈ l, 0 ≤ x := by
      intro l
      induction l with
      | nil => intro j left _ _ x hx; cases hx
      | cons y l ih =>
        intro j left hl hs x hx
        rw [splitsB, Bool.and_eq_true, inB_iff] at hs
        rw [List.length_cons] at hl
        have := hSp.base.part (i := j) (by omega)
        rcases List.mem_cons.1 hx with rfl | hx
        · omega
        · exact ih (j + 1) _ (by omega) hs.2 x hx
    have hp8 := hO.np
    exact ⟨by omega, by omega, by omega, key _ 0 _ (by omega) h9.2⟩

end Go.Proofs.YtpajefkfnhibnaaDoor
