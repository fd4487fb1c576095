/-
  Texts joined: some of those that the proofs of this seat stand on.
-/
import Derived.Test.YtlabjamkaebnjaaMathsJ
import Derived.Test.YtlabjamkaebnjaaSmallJ
import Derived.Test.YtlabjamkaebnjaaRefNumJ
import Derived.Test.YtlabjamkaebnjaaSSiteBJ
import Derived.Test.YtlabjamkaebnjaaSFitsJ
import Derived.Deep.RegionHeldLaw
import Derived.Test.YtlabjamkaebnjaaSStMJ
/-
  Of the text RefW: what this stage needs (culled by a program).
-/
namespace Go.Proofs.Ytlabjamkaebnjaa
open Go.RowKit Go.Lib Go.Deep
set_option linter.unusedVariables false
set_option linter.unusedSimpArgs false

theorem By.some_of {w : World} {a : Option Addr} {n : Nat} {L : List Nat} (h : By w a n L) (hp : 0 < L.length) : ∃ x, a = some x ∧ n = L.length := by
  have hs := h.size
  obtain ⟨b, off, e, _⟩ := h.at_ (by omega)
  exact ⟨_, e, by omega⟩

set_option maxRecDepth 100000 in
set_option maxHeartbeats 1000000 in
theorem rsmalls_any {w : World} {b : Option Addr} {m d : Nat} {l : List Int} (hI : Ints w b m d l) (hpos : ∀ x ∈ l, 0 ≤ x) (hlen : m ≤ 1099511627776) :
    Calls Try.prog 66 #[.slice b m d] w fun e w' => ∃ a' c', e = .returned (.slice a' (smlI l).length c') ∧ Mine w' w.heap.size a' (smlI l).length c' (smlI l) ∧ Kept w w' none := by
  have HI := Hid.mk' hI
  have HPOS := Hid.mk' hpos
  have hsz := hI.size
  have HSZ := Hid.mk' hsz
  have hrng := hI.rng
  have HR := Hid.mk' hrng
  clear hI hpos hsz hrng
  go_enter Try.func66, Try.ntmps66
  go_wp2
  go_loopw [3, 4] (fun s i wr => ∃ k : Nat, k ≤ m ∧ i = .int .i64 k ∧ ∃ a1 n1 c1, s = .slice a1 n1 c1 ∧ n1 = (smlI (l.take k)).length ∧ n1 ≤ 10 * k ∧ Mine wr w.heap.size a1 n1 c1 (smlI (l.take k)) ∧ Kept w wr none) (fun _ i _ => m - (intOf i).toNat)
  case atStart => exact ⟨0, Nat.zero_le _, rfl, none, 0, 0, rfl, by simp [smlI], by omega, by simpa [smlI] using Mine.empty _ _, Kept.refl _ _⟩
  case round =>
    obtain ⟨k, hk, rfl, a1, n1, c1, rfl, hn1, hle, hMi, hkw⟩ := hrel
    have HMI := Hid.mk' hMi
    have HN1 := Hid.mk' hn1
    have HKW := Hid.mk' hkw
    clear hMi hn1
    by_cases hlt : k < m
    · obtain ⟨bi, oi, rfl, hbi, hci⟩ := (HI.out.kept hkw).at_ (by omega)
      have kc := hci k hlt
      have hkl : k < l.length := by have := HSZ.out; omega
      have hv0 := HPOS.out (l.getD k 0) (getD_mem hkl)
      have hv1 := (HR.out (l.getD k 0) (getD_mem hkl)).2
      have hst : smlI (l.take (k + 1)) = smlI (l.take k) ++ sml (l.getD k 0).toNat := by rw [take_snocI hkl, smlI_snoc]
      have HST := Hid.mk' hst
      have hs10 := sml_len10 (l.getD k 0).toNat (by omega)
      have hsp := sml_pos (l.getD k 0).toNat
      clear hci hst hkw
      generalize hv : l.getD k 0 = v at *
      clear hv
      obtain ⟨q, rfl⟩ : ∃ q : Nat, v = (q : Int) := ⟨v.toNat, by omega⟩
      rw [Int.toNat_natCast] at *
      have hwr := HKW.out.size
      go_wp2_with (first
        | (have hgo := O2; clear hgo; at_builtin; refine wpList_join (by rfl) _ _ (by rfl) w.heap.size (.slice a1 n1 c1) n1 (smlI (l.take k)) (by rfl) (own_keptR HMI.out.own K2.out (fun i _ => by simp)) _ _ _ (sml q) (by rfl) O2.out (fun e => by cases e) (by omega) (by have := K2.out.size; omega) ?_; intro a3 c3 w3 hm3 hg3)
        | (go_at_call 49; refine (rsmall_any q _ (by omega)).mono ?_; rintro e w2 ⟨a2, k2, c2, rfl, ho2, hk2⟩; obtain ⟨x2, rfl, rfl⟩ := ho2.some_of hsp; have O2 := Hid.mk' ho2; have K2 := Hid.mk' hk2; clear ho2 hk2))
      go_roundw
      case rel =>
        refine ⟨k + 1, by omega, by go_num, a3, _, c3, rfl, ?_, by omega, ?_, ?_⟩
        · rw [HST.out, List.length_append, HN1.out]
        · rw [HST.out]; exact hm3
        · exact (HKW.out.tr K2.out).newRow hg3 HMI.out.new
      case measure => simp [intOf]; omega
    · have hkk : l.take k = l := List.take_of_length_le (by have := HSZ.out; omega)
      rw [hkk] at HMI HN1
      have e := HN1.out
      subst e
      go_wp2
      go_ret
      exact ⟨a1, c1, rfl, HMI.out, HKW.out⟩

end Go.Proofs.Ytlabjamkaebnjaa

/-
  Of the text RefG: what this stage needs (culled by a program).
-/
namespace Go.Proofs.Ytlabjamkaebnjaa
open Go.RowKit Go.Lib Go.Deep
set_option linter.unusedVariables false
set_option linter.unusedSimpArgs false

theorem rin_any (n lo hi : Int) (w : World) : Calls Try.prog 67 #[.int .i64 n, .int .i64 lo, .int .i64 hi] w fun e w' => e = .returned (.bool (inB n lo hi)) ∧ w' = w := by
  go_enter Try.func67, Try.ntmps67
  go_wp2
  all_goals
    go_ret
    refine ⟨?_, rfl⟩
    simp [inB, *] <;> (first | omega | (intros; omega))
theorem rin_is {n lo hi : Int} {b : Bool} {w : World} (h : inB n lo hi = b) : Calls Try.prog 67 #[.int .i64 n, .int .i64 lo, .int .i64 hi] w fun e w' => e = .returned (.bool b) ∧ w' = w := by
  rw [← h]; exact rin_any n lo hi w
/-- No list of it is long. -/
structure Few (S : St) : Prop where
  g : S.groups.length ≤ 40
  a : S.apart.length ≤ 40
  b : S.between.length ≤ 40
  p : S.phases.length ≤ 40
  e : S.eyes.length ≤ 60
  l : S.plans.length ≤ 40
  br : ∀ i, i < S.between.length → (S.between.getD i []).length ≤ 40
  lr : ∀ i, i < S.plans.length → (S.plans.getD i q0).splits.length ≤ 40
def GreatP (S : St) (w : World) (e : Ending) (w' : World) : Prop := ∃ g, e = .returned (.bool g) ∧ (g = false → Few S) ∧ Kept w w' none
theorem GreatP.of {S : St} {w w' : World} (g : Bool) (h : g = false → Few S) (k : Kept w w' none) : GreatP S w (.returned (.bool g)) w' := ⟨g, rfl, h, k⟩
set_option maxRecDepth 100000 in
set_option maxHeartbeats 2000000 in
theorem rgreat_any {X : Sa} {S : St} {w : World} (h : Sat w X S) : Calls Try.prog 18 #[siteV X S] w fun e w' => GreatP S w e w' := by
  have hkA : Kept w (w.alloc (.cells #[.int .i64 S.id, .slice X.g S.groups.length X.gc, .slice X.a S.apart.length X.ac, .slice X.b S.between.length X.bc, .slice X.p S.phases.length X.pc, .slice X.e S.eyes.length X.ec, .int .i64 S.watch, .int .i64 S.feed, .int .i64 S.heal, .int .i64 S.low, .int .i64 S.high, .slice X.l S.plans.length X.lc] 60)) none := Kept.alloc _ _ _ _ _
  have HSB := Hid.mk' (sbox_alloc h 60)
  have HK := Hid.mk' hkA
  have hg9 : S.groups.length ≤ 9223372036854775807 := by have := h.gk.room; have := h.gk.max; omega
  have ha9 : S.apart.length ≤ 9223372036854775807 := by have := h.ak.room; have := h.ak.max; omega
  have hb9 : S.between.length ≤ 9223372036854775807 := by have := h.b.cap.room; have := h.b.cap.max; omega
  have hp9 : S.phases.length ≤ 9223372036854775807 := by have := h.pk.room; have := h.pk.max; omega
  have he9 : S.eyes.length ≤ 9223372036854775807 := by have := h.ek.room; have := h.ek.max; omega
  have hl9 : S.plans.length ≤ 9223372036854775807 := by have := h.l.cap.room; have := h.l.cap.max; omega
  clear h hkA
  go_enter Try.func18, Try.ntmps18
  by_cases h1 : 40 < S.groups.length
  case pos => go_wp2; go_ret; exact GreatP.of true (fun e => (nomatch e)) HK.out
  by_cases h2 : 40 < S.apart.length
  case pos => go_wp2; go_ret; exact GreatP.of true (fun e => (nomatch e)) HK.out
  by_cases h3 : 40 < S.between.length
  case pos => go_wp2; go_ret; exact GreatP.of true (fun e => (nomatch e)) HK.out
  by_cases h4 : 40 < S.phases.length
  case pos => go_wp2; go_ret; exact GreatP.of true (fun e => (nomatch e)) HK.out
  by_cases h5 : 60 < S.eyes.length
  case pos => go_wp2; go_ret; exact GreatP.of true (fun e => (nomatch e)) HK.out
  by_cases h6 : 40 < S.plans.length
  case pos => go_wp2; go_ret; exact GreatP.of true (fun e => (nomatch e)) HK.out
  go_wp2
  generalize hW : (w.alloc (.cells #[.int .i64 S.id, .slice X.g S.groups.length X.gc, .slice X.a S.apart.length X.ac, .slice X.b S.between.length X.bc, .slice X.p S.phases.length X.pc, .slice X.e S.eyes.length X.ec, .int .i64 S.watch, .int .i64 S.feed, .int .i64 S.heal, .int .i64 S.low, .int .i64 S.high, .slice X.l S.plans.length X.lc] 60)) = W at *
  clear hW
  go_loopw [3] (fun i wr => ∃ k : Nat, k ≤ S.between.length ∧ i = .int .i64 k ∧ Hid (∀ j, j < k → (S.between.getD j []).length ≤ 40) ∧ wr = W) (fun i _ => S.between.length - (intOf i).toNat)
  case atStart => exact ⟨0, Nat.zero_le _, rfl, (fun j hj => by omega), rfl⟩
  case round =>
    obtain ⟨k, hk, rfl, HJ, rfl⟩ := hrel
    by_cases hlt : k < S.between.length
    · have c3 := HSB.out.c3
      obtain ⟨ba, oa, ar, cr, ea, kb, hI⟩ := HSB.out.sat.b.at_ hlt
      have hI1 := hI.cap.room
      have hI2 := hI.cap.max
      clear hI
      rw [ea] at c3
      generalize hm : (S.between.getD k []).length = m at *
      have HM := Hid.mk' hm
      clear hm
      by_cases hx : 40 < m
      case pos => go_wp2; go_ret; exact GreatP.of true (fun e => (nomatch e)) HK.out
      go_wp2
      go_roundw
      case rel => exact ⟨k + 1, by omega, by go_num, (fun j hj => (by
        by_cases e : j = k
        · subst e; rw [HM.out]; omega
        · exact HJ.out j (by omega))), trivial⟩
      case measure => simp [intOf]; omega
    · have e : k = S.between.length := by omega
      subst e
      have c3 := HSB.out.c3
      go_wp2
      go_loopw [4] (fun i wx => ∃ k : Nat, k ≤ S.plans.length ∧ i = .int .i64 k ∧ Hid (∀ j, j < k → (S.plans.getD j q0).splits.length ≤ 40) ∧ wx = wr) (fun i _ => S.plans.length - (intOf i).toNat)
      case atStart => exact ⟨0, Nat.zero_le _, rfl, (fun j hj => by omega), rfl⟩
      case round =>
        obtain ⟨k, hk, rfl, HL, rfl⟩ := hrel
        clear c3
        have c11 := HSB.out.c11
        by_cases hlt : k < S.plans.length
        · obtain ⟨pb, off, a', c', ea, p0, p1, p2, hI⟩ := HSB.out.sat.l.at_ hlt
          have hI1 := hI.cap.room
          have hI2 := hI.cap.max
          clear hI p0 p1
          rw [ea] at c11
          generalize hm : (S.plans.getD k q0).splits.length = m at *
          have HM := Hid.mk' hm
          clear hm
          by_cases hx : 40 < m
          case pos => go_wp2; go_ret; exact GreatP.of true (fun e => (nomatch e)) HK.out
          go_wp2
          go_roundw
          case rel => exact ⟨k + 1, by omega, by go_num, (fun j hj => (by
            by_cases e : j = k
            · subst e; rw [HM.out]; omega
            · exact HL.out j (by omega))), trivial⟩
          case measure => simp [intOf]; omega
        · have e : k = S.plans.length := by omega
          subst e
          go_wp2
          go_ret
          exact GreatP.of false (fun _ => ⟨by omega, by omega, by omega, by omega, by omega, by omega, HJ.out, HL.out⟩) HK.out

end Go.Proofs.Ytlabjamkaebnjaa

/-
  Of the text RefW2: what this stage needs (culled by a program).
-/
namespace Go.Proofs.Ytlabjamkaebnjaa
open Go.RowKit Go.Lib Go.Deep
set_option linter.unusedVariables false
set_option linter.unusedSimpArgs false

/-- A list of bytes beside a box. -/
structure Rowb (w wr : World) (B : Nat) (a : Option Addr) (n c : Nat) (L : List Nat) : Prop where
  mine : Mine wr w.heap.size a n c L
  kept : Kept w wr none
  far : some B ≠ (Value.slice a n c).ownBlock
  lt : B < wr.heap.size
theorem Rowb.step {w wr w4 w3 : World} {B : Nat} {a a3 : Option Addr} {n c n3 c3 : Nat} {L M : List Nat} (h : Rowb w wr B a n c L) (k : Kept wr w4 none) (hm : Mine w3 w.heap.size a3 n3 c3 M) (hg : w4.grownBy w3 (Value.slice a n c).ownBlock) (ht : (Value.slice a3 n3 c3).ownBlock = (Value.slice a n c).ownBlock ∨ (Value.slice a3 n3 c3).ownBlock = some w4.heap.size) : Rowb w w3 B a3 n3 c3 M ∧ ∀ j v, wr.cell? ⟨B, j, none⟩ = some v → w3.cell? ⟨B, j, none⟩ = some v := by
  have hs := k.size
  have hl := h.lt
  refine ⟨⟨hm, (h.kept.tr k).newRow hg (fun i e => (h.mine.lt i e).1), ?_, Nat.lt_of_lt_of_le (Nat.lt_of_lt_of_le h.lt k.size) hg.size⟩, fun j v hv => cell_keptR (cell_kept0 hv k) hg h.far⟩
  rcases ht with e | e
  · rw [e]; exact h.far
  · rw [e]
    intro e2
    injection e2 with e2
    omega

set_option maxRecDepth 100000 in
set_option maxHeartbeats 4000000 in
theorem rwhole_any {w : World} {a : Option Addr} {n c : Nat} {l : List Pl} (hP : Plans w a n c l) : Calls Try.prog 50 #[.slice a n c] w fun e w' => ∃ a' c', e = .returned (.tuple #[.slice a' (wholeL l).length c', .int .i64 (wholeE l)]) ∧ Mine w' w.heap.size a' (wholeL l).length c' (wholeL l) ∧ Kept w w' none := by
  have HP := Hid.mk' hP
  have hsz := hP.size
  have hml : n ≤ 9223372036854775807 := by have := hP.cap.room; have := hP.cap.max; omega
  by_cases h8 : 8 < n
  · have hE : wholeE l = 4 := by unfold wholeE; rw [if_pos (by omega)]
    have hL : wholeL l = [] := by unfold wholeL; rw [hE]; rfl
    rw [hE, hL]
    clear hP hE hL hsz
    go_enter Try.func50, Try.ntmps50
    go_wp2
    go_ret2
    exact ⟨none, 0, rfl, Mine.empty _ _, Kept.refl _ _⟩
  have HBAD : Hid (∀ j, j < n → mayB (l.getD j q0) = false → wholeE l = 170 ∧ wholeL l = []) := fun j hj hb => by
    have hm : mayL l = false := by
      unfold mayL
      exact allB_no (by omega) hb
    have hE : wholeE l = 170 := by unfold wholeE; rw [if_neg (by omega), if_neg (by rw [hm]; decide)]
    exact ⟨hE, by unfold wholeL; rw [hE]; rfl⟩
  have HGOOD : Hid ((∀ j, j < n → mayB (l.getD j q0) = true) → wholeE l = 0 ∧ wholeL l = smlI (plansI l)) := fun h => by
    have hm : mayL l = true := by
      unfold mayL
      exact allB_iff.2 (fun j hj => h j (by omega))
    have hE : wholeE l = 0 := by unfold wholeE; rw [if_neg (by omega), if_pos hm]
    exact ⟨hE, by unfold wholeL; rw [hE]; rfl⟩
  have HSZ := Hid.mk' hsz
  have hI1 : Ints (w.alloc (.cells #[.int .i64 (n : Int)] 3)) (some ⟨w.heap.size, 0, none⟩) 1 1 [(n : Int)] := ints_of w [(n : Int)] 3 (fun x hx => by simp at hx; omega) (by simp)
  have HC1 := Hid.mk' (rsmalls_any hI1 (fun x hx => by simp at hx; omega) (by omega))
  have hs1 : (smlI [(n : Int)]).length ≤ 10 := smlI_len [(n : Int)] (fun x hx => by simp at hx; omega)
  clear hP hI1 hsz
  go_enter Try.func50, Try.ntmps50
  go_wp2_with (go_at_call 66; refine HC1.out.mono ?_; rintro e w1 ⟨a1, c1, rfl, hm1, hk1⟩)
  have HK1 : Hid (Kept w w1 none) := (Kept.alloc w _ _ _ _).tr hk1
  have HM1 := Hid.mk' (hm1.lower (b2 := w.heap.size) (by simp))
  clear hk1 hm1 HC1
  go_loopw [4, 5] (fun s i wr => ∃ k : Nat, k ≤ n ∧ i = .int .i64 k ∧ ∃ a1 n1 c1, s = .slice a1 n1 c1 ∧ n1 = (smlI [(n : Int)] ++ smlI ((l.take k).flatMap plI)).length ∧ n1 ≤ 10 + 110 * k ∧ Mine wr w.heap.size a1 n1 c1 (smlI [(n : Int)] ++ smlI ((l.take k).flatMap plI)) ∧ Kept w wr none ∧ Hid (∀ j, j < k → mayB (l.getD j q0) = true)) (fun _ i _ => n - (intOf i).toNat)
  case atStart => exact ⟨0, Nat.zero_le _, rfl, a1, _, c1, rfl, by simp [smlI], by omega, by simpa [smlI] using HM1.out, HK1.out, fun j hj => by omega⟩
  case round =>
    clear HM1 HK1
    obtain ⟨k, hk, rfl, a2, n2, c2, rfl, hn2, hle, hMi, hkw, HALL⟩ := hrel
    have HMI := Hid.mk' hMi
    have HN2 := Hid.mk' hn2
    have HKW := Hid.mk' hkw
    clear hMi hn2
    by_cases hlt : k < n
    · obtain ⟨b, off, a', c', rfl, k0, k1, k2, hI⟩ := (HP.out.kept hkw).at_ hlt
      have hkl : k < l.length := by have := HSZ.out; omega
      have hin : l.getD k q0 ∈ l := getD_mem hkl
      have hrg := HP.out.rng _ hin
      have hst : smlI [(n : Int)] ++ smlI ((l.take (k + 1)).flatMap plI) = smlI [(n : Int)] ++ smlI ((l.take k).flatMap plI) ++ smlI [(l.getD k q0).cycle, (l.getD k q0).offset, ((l.getD k q0).splits.length : Int)] ++ smlI (l.getD k q0).splits := by
        rw [pl_take hkl, List.flatMap_append, smlI_append, List.flatMap_singleton]
        have : plI (l.getD k q0) = [(l.getD k q0).cycle, (l.getD k q0).offset, ((l.getD k q0).splits.length : Int)] ++ (l.getD k q0).splits := rfl
        rw [this, smlI_append, List.append_assoc, List.append_assoc]
      have HST := Hid.mk' hst
      have hIw : ∀ wx, Kept w wx none → Ints wx a' (l.getD k q0).splits.length c' (l.getD k q0).splits := by
        obtain ⟨b2, off2, a2', c2', e2, _, _, k2', hI'⟩ := HP.out.at_ hlt
        injection e2 with e2
        injection e2 with e3 e4
        subst e3 e4
        have h1 := cell_kept0 k2' hkw
        rw [h1] at k2
        injection k2 with k2
        injection k2 with e5 e6 e7
        subst e5 e7
        exact fun wx q => hI'.kept q
      have HIW := Hid.mk' hIw
      have HB := Hid.mk' (HBAD.out k hlt)
      have HA2 : Hid (mayB (l.getD k q0) = true → ∀ j, j < k + 1 → mayB (l.getD j q0) = true) := fun h4 j hj => by
        by_cases e : j = k
        · subst e; exact h4
        · exact HALL.out j (by omega)
      have hlm : (l.getD k q0).splits.length ≤ 9223372036854775807 := by have := hI.cap.room; have := hI.cap.max; omega
      clear hst hI hIw hin
      generalize l.getD k q0 = p at *
      have hr1 := hrg.1
      have hr2 := hrg.2
      unfold i64B at hr1 hr2
      have HKA : Hid (Kept w (wr.alloc (.cells #[.int .i64 p.cycle, .int .i64 p.offset, .slice a' p.splits.length c'] 63)) none) := HKW.out.tr (Kept.alloc _ _ _ _ _)
      cases h1 : inB p.cycle 1 1048576 with
      | false =>
        have HF := Hid.mk' (HB.out (by simp [mayB, timeB, h1]))
        go_wp2_with (go_at_call 67; refine (rin_is (by assumption)).mono ?_; rintro e w9 ⟨rfl, rfl⟩)
        go_ret2
        rw [HF.out.1, HF.out.2]
        exact ⟨none, 0, rfl, Mine.empty _ _, HKA.out⟩
      | true =>
        have hcy := inB_iff.1 h1
        cases h2 : inB p.offset 0 (p.cycle - 1) with
        | false =>
          have HF := Hid.mk' (HB.out (by simp [mayB, timeB, h1, h2]))
          go_wp2_with (go_at_call 67; refine (rin_is (by assumption)).mono ?_; rintro e w9 ⟨rfl, rfl⟩)
          go_ret2
          rw [HF.out.1, HF.out.2]
          exact ⟨none, 0, rfl, Mine.empty _ _, HKA.out⟩
        | true =>
          have hof := inB_iff.1 h2
          cases h3 : inB (p.splits.length : Int) 1 8 with
          | false =>
            have HF := Hid.mk' (HB.out (by simp [mayB, timeB, h1, h2, h3]))
            go_wp2_with (go_at_call 67; refine (rin_is (by assumption)).mono ?_; rintro e w9 ⟨rfl, rfl⟩)
            go_ret2
            rw [HF.out.1, HF.out.2]
            exact ⟨none, 0, rfl, Mine.empty _ _, HKA.out⟩
          | true =>
            have hsp := inB_iff.1 h3
            have hrg3 : ∀ x ∈ [p.cycle, p.offset, (p.splits.length : Int)], 0 ≤ x ∧ x ≤ 1048576 := fun x hx => by
              simp only [List.mem_cons, List.mem_nil_iff, or_false] at hx
              rcases hx with rfl | rfl | rfl <;> omega
            have hI3 : Ints ((wr.alloc (.cells #[.int .i64 p.cycle, .int .i64 p.offset, .slice a' p.splits.length c'] 63)).alloc (.cells #[.int .i64 p.cycle, .int .i64 p.offset, .int .i64 (p.splits.length : Int)] 3)) (some ⟨wr.heap.size + 1, 0, none⟩) 3 3 [p.cycle, p.offset, (p.splits.length : Int)] := by
              have h0 := ints_of (wr.alloc (.cells #[.int .i64 p.cycle, .int .i64 p.offset, .slice a' p.splits.length c'] 63)) [p.cycle, p.offset, (p.splits.length : Int)] 3 (fun x hx => by have := hrg3 x hx; omega) (by simp)
              rw [World.size_alloc] at h0
              exact h0
            have HC3 := Hid.mk' (rsmalls_any hI3 (fun x hx => (hrg3 x hx).1) (by omega))
            have hs3 : (smlI [p.cycle, p.offset, (p.splits.length : Int)]).length ≤ 30 := smlI_len [p.cycle, p.offset, (p.splits.length : Int)] (fun x hx => by have := hrg3 x hx; omega)
            have HR0 : Hid (Rowb w (wr.alloc (.cells #[.int .i64 p.cycle, .int .i64 p.offset, .slice a' p.splits.length c'] 63)) wr.heap.size a2 n2 c2 (smlI [(n : Int)] ++ smlI ((l.take k).flatMap plI))) := ⟨HMI.out.kept (Kept.alloc _ _ _ _ _), HKA.out, ne_own HMI.out (.inr (Nat.le_refl _)), by simp⟩
            have HX := Hid.mk' (box3 wr (.int .i64 p.cycle) (.int .i64 p.offset) (.slice a' p.splits.length c') 63).2.2
            clear hI3 hrg3
            have hwr := HKW.out.size
            go_wp2_with (first
              | (have hgo := B4; clear hgo; at_builtin; refine wpList_joinA (by rfl) _ _ (by rfl) w.heap.size _ _ _ (by rfl) (HR0.out.mine.kept ((Kept.alloc _ _ _ _ _).tr K4.out)).own a4 _ c4 _ (by rfl) B4.out (fun e => (M4.out.nil e).2) (by omega) (by have := K4.out.size; simp at this; omega) ?_; intro a5 c5 w5 hm5 hg5 hat5; have hRX := HR0.out.step ((Kept.alloc _ _ _ _ _).tr K4.out) hm5 hg5 hat5; have HR5 := Hid.mk' hRX.1; have HX5 := Hid.mk' (hRX.2 _ _ HX.out); clear hRX hm5 hg5 hat5)
              | (go_at_call 66; refine HC3.out.mono ?_; rintro e w4 ⟨a4, c4, rfl, hm4, hk4⟩; have M4 := Hid.mk' hm4; have B4 := Hid.mk' (hm4.by (smlI_lt _)); have K4 := Hid.mk' hk4; clear hm4 hk4)
              | (go_at_call 67; refine (rin_is (by assumption)).mono ?_; rintro e w9 ⟨rfl, rfl⟩))
            go_loopw [4, 7] (fun s i wx => ∃ m : Nat, m ≤ p.splits.length ∧ i = .int .i64 m ∧ ∃ a6 n6 c6, s = .slice a6 n6 c6 ∧ n6 = n2 + (smlI [p.cycle, p.offset, (p.splits.length : Int)]).length + (smlI (p.splits.take m)).length ∧ n6 ≤ 40 + 110 * k + 10 * m ∧ Rowb w wx wr.heap.size a6 n6 c6 (smlI [(n : Int)] ++ smlI ((l.take k).flatMap plI) ++ smlI [p.cycle, p.offset, (p.splits.length : Int)] ++ smlI (p.splits.take m)) ∧ wx.cell? ⟨wr.heap.size, 2, none⟩ = some (.slice a' p.splits.length c') ∧ Hid (∀ j, j < m → inB (p.splits.getD j 0) 0 1048576 = true)) (fun _ i _ => p.splits.length - (intOf i).toNat)
            case atStart => exact ⟨0, Nat.zero_le _, rfl, a5, _, c5, rfl, by simp [smlI], by omega, by simpa [smlI] using HR5.out, HX5.out, fun j hj => by omega⟩
            case round =>
              clear HR5 HX5
              obtain ⟨m, hm, rfl, a6, n6, c6, rfl, hn6, hle6, hR6, cx, HJ⟩ := hrel
              have HR6 := Hid.mk' hR6
              have HN6 := Hid.mk' hn6
              clear hR6 hn6
              by_cases hmt : m < p.splits.length
              · obtain ⟨bi, oi, ei, hbi, hci⟩ := (HIW.out _ HR6.out.kept).at_ (by omega)
                subst ei
                have kc := hci m hmt
                clear hci
                cases h4 : inB (p.splits.getD m 0) 0 1048576 with
                | false =>
                  have HF := Hid.mk' (HB.out (by unfold mayB; rw [splits_all, allB_no hmt h4]; simp))
                  generalize p.splits.getD m 0 = v at *
                  go_wp2_with (go_at_call 67; refine (rin_is (by assumption)).mono ?_; rintro e w9 ⟨rfl, rfl⟩)
                  go_ret2
                  rw [HF.out.1, HF.out.2]
                  exact ⟨none, 0, rfl, Mine.empty _ _, HR6.out.kept⟩
                | true =>
                  have HJ2 : Hid (∀ j, j < m + 1 → inB (p.splits.getD j 0) 0 1048576 = true) := fun j hj => by
                    by_cases e : j = m
                    · subst e; exact h4
                    · exact HJ.out j (by omega)
                  have hst2 : smlI (p.splits.take (m + 1)) = smlI (p.splits.take m) ++ smlI [p.splits.getD m 0] := by rw [take_snocI hmt, smlI_append]
                  have HST2 := Hid.mk' hst2
                  clear hst2
                  generalize p.splits.getD m 0 = v at *
                  have hv := inB_iff.1 h4
                  have hI7 : Ints (wr.alloc (.cells #[.int .i64 v] 3)) (some ⟨wr.heap.size, 0, none⟩) 1 1 [v] := ints_of wr [v] 3 (fun x hx => by simp at hx; omega) (by simp)
                  have HC7 := Hid.mk' (rsmalls_any hI7 (fun x hx => by simp at hx; omega) (by omega))
                  clear hI7
                  have hs7 : (smlI [v]).length ≤ 10 := smlI_len [v] (fun x hx => by simp at hx; omega)
                  have hwx := HR6.out.kept.size
                  go_wp2_with (first
                    | (have hgo := B7; clear hgo; at_builtin; refine wpList_joinA (by rfl) _ _ (by rfl) w.heap.size _ _ _ (by rfl) (HR6.out.mine.kept ((Kept.alloc _ _ _ _ _).tr K7.out)).own a7 _ c7 _ (by rfl) B7.out (fun e => (M7.out.nil e).2) (by omega) (by have := K7.out.size; simp at this; omega) ?_; intro a8 c8 w8 hm8 hg8 hat8; have hRX := HR6.out.step ((Kept.alloc _ _ _ _ _).tr K7.out) hm8 hg8 hat8; have HR8 := Hid.mk' hRX.1; have HX8 := Hid.mk' (hRX.2 _ _ cx); clear hRX hm8 hg8 hat8)
                    | (go_at_call 66; refine HC7.out.mono ?_; rintro e w7 ⟨a7, c7, rfl, hm7, hk7⟩; have M7 := Hid.mk' hm7; have B7 := Hid.mk' (hm7.by (smlI_lt _)); have K7 := Hid.mk' hk7; clear hm7 hk7)
                    | (go_at_call 67; refine (rin_is (by assumption)).mono ?_; rintro e w9 ⟨rfl, rfl⟩))
                  go_roundw
                  case rel => exact ⟨m + 1, by omega, by go_num, a8, _, c8, rfl, by rw [HST2.out, List.length_append, HN6.out]; omega, by omega, by rw [HST2.out, ← List.append_assoc]; exact HR8.out, HX8.out, HJ2⟩
                  case measure => simp [intOf]; omega
              · have hmm : m = p.splits.length := by omega
                have hmk : p.splits.take m = p.splits := List.take_of_length_le (by omega)
                rw [hmk] at HR6 HN6
                have HMY : Hid (mayB p = true) := by
                  show mayB p = true
                  unfold mayB timeB
                  rw [h1, h2, h3, splits_all, allB_iff.2 (fun j hj => HJ.out j (by omega))]
                  rfl
                have HA3 := Hid.mk' (HA2.out HMY.out)
                go_wp2
                go_roundw
                case rel => exact ⟨k + 1, by omega, by go_num, a6, n6, c6, rfl, by rw [HST.out, List.length_append, List.length_append, ← HN2.out]; exact HN6.out, by omega, by rw [HST.out]; exact HR6.out.mine, HR6.out.kept, HA3⟩
                case measure => simp [intOf]; omega
    · have hkk : l.take k = l := List.take_of_length_le (by have := HSZ.out; omega)
      rw [hkk] at HMI HN2
      have e2 : smlI [(n : Int)] ++ smlI (l.flatMap plI) = smlI (plansI l) := by
        rw [← smlI_append, ← HSZ.out]; rfl
      rw [e2] at HMI HN2
      have e := HN2.out
      subst e
      have HG := Hid.mk' (HGOOD.out (fun j hj => HALL.out j (by omega)))
      go_wp2
      go_ret2
      rw [HG.out.1, HG.out.2]
      exact ⟨a2, c2, rfl, HMI.out, HKW.out⟩

end Go.Proofs.Ytlabjamkaebnjaa

