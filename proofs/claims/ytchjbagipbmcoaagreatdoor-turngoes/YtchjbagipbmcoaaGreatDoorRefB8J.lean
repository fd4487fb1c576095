/-
  Texts joined: some of those that the proofs of this seat stand on.
-/
import Derived.Test.YtchjbagipbmcoaaGreatDoorGateAJ
import Derived.Test.YtchjbagipbmcoaaGreatDoorOwn8J
import Derived.Test.YtchjbagipbmcoaaGreatDoorLampC
/-
  THE DOCUMENT'S Start of layer 8; standings' groups of one's own (made by a program).
-/
namespace Go.Proofs.YtchjbagipbmcoaaGreatDoor
open Go.RowKit Go.Lib Go.Deep
set_option linter.unusedVariables false
set_option linter.unusedSimpArgs false

/-- Groups' standings of one's own. -/
abbrev SnS (w : World) (base : Nat) (v : Value) (l : List Sn) : Prop := Ow8 72 3 snV n0 w base v l
theorem SnS.shape {w : World} {base : Nat} {v : Value} {l : List Sn} (h : SnS w base v l) : ∃ a c, v = .slice a l.length c := by
  obtain ⟨a, c, e, _⟩ := Ow8.lie h (by omega)
  exact ⟨a, c, e⟩
theorem SnS.safe {w : World} {base : Nat} {a : Option Addr} {n c : Nat} {l : List Sn} (h : SnS w base (.slice a n c) l) {F : Sf} (hF : F.groups = l) (hr : ∀ s ∈ l, s.asp < 256 ∧ i64B s.since ∧ i64B s.ended) : n = l.length ∧ SafeAt w a c F := by
  obtain ⟨a', c', e, h1, h2, _⟩ := Ow8.lie h (by omega)
  injection e with e1 e2 e3
  subst e1 e2 e3
  refine ⟨rfl, ⟨?_, by rw [hF]; exact h2, by rw [hF]; exact hr⟩⟩
  rw [hF]
  unfold Sf.g
  rw [hF]
  exact h1
theorem SnS.own {w : World} {base : Nat} {a : Option Addr} {n c : Nat} {l : List Sn} (h : SnS w base (.slice a n c) l) (b : Addr) (e : a = some b) : base ≤ b.block := by
  obtain ⟨a', c', e0, h1, h2, h3⟩ := Ow8.lie h (by omega)
  injection e0 with e1 e2 e3
  exact (h3 b (by rw [← e1]; exact e)).1
theorem SnS.grow {w : World} {base : Nat} {v : Value} {l : List Sn} (h : SnS w base v l) (x : Sn) (hn : l.length ≤ 900) (hb : base ≤ w.heap.size) :
    ∃ a' c' w', (Builtin.append_ #[30, 30] 30 #[v, .slice (some ⟨w.heap.size, 0, none⟩) 1 1]).run Tryz.prog (w.alloc (.cells #[.int .u8 (x.asp : Int), .int .i64 x.since, .int .i64 x.ended] 72)) = .ok (.slice a' (l.length + 1) c') w' ∧ SnS w' base (.slice a' (l.length + 1) c') (l ++ [x]) ∧ Kept w w' v.ownBlock := by
  obtain ⟨i, hi, hz, hs, hby⟩ := info_parts Tryz.infoSeen
  exact Ow8.grow h x (cs := #[.int .u8 (x.asp : Int), .int .i64 x.since, .int .i64 x.ended]) (fun j hj => by
    have : j = 0 ∨ j = 1 ∨ j = 2 := by omega
    rcases this with rfl | rfl | rfl <;> rfl) Tryz.underlying30 hi hz hs hby rfl (by omega) (by omega) (fun j => by unfold snV; split <;> rfl) hn hb
theorem Box.set0 {w : World} {b : Nat} {v0 v1 v2 : Value} (h : Box w b v0 v1 v2) (v : Value) : Box (w.setCell ⟨b, 0, none⟩ v) b v v1 v2 :=
  ⟨World.cell?_setCell_same _ _ _ h.c0, (World.cell?_setCell_other _ _ _ _ (by simp)).trans h.c1, (World.cell?_setCell_other _ _ _ _ (by simp)).trans h.c2, (World.frozen?_setCell ..).trans h.f0, (World.frozen?_setCell ..).trans h.f1, (World.frozen?_setCell ..).trans h.f2, by simpa [World.setCell] using h.lt⟩
theorem Box.keptR {w w' : World} {b : Nat} {v0 v1 v2 : Value} {r : Option Nat} (h : Box w b v0 v1 v2) (k : Kept w w' r) (hr : some b ≠ r) : Box w' b v0 v1 v2 := by
  have e := k.block b h.lt hr
  exact ⟨(World.cell?_of_block (w := w) (a := ⟨b, 0, none⟩) e).trans h.c0, (World.cell?_of_block (w := w) (a := ⟨b, 1, none⟩) e).trans h.c1, (World.cell?_of_block (w := w) (a := ⟨b, 2, none⟩) e).trans h.c2, (World.frozen?_of_block (w := w) (a := ⟨b, 0, none⟩) e).trans h.f0, (World.frozen?_of_block (w := w) (a := ⟨b, 1, none⟩) e).trans h.f1, (World.frozen?_of_block (w := w) (a := ⟨b, 2, none⟩) e).trans h.f2, Nat.lt_of_lt_of_le h.lt k.size⟩
theorem SnS.setOther {w : World} {base : Nat} {v : Value} {l : List Sn} (h : SnS w base v l) {b i : Nat} (hb : b < base) (u : Value) : SnS (w.setCell ⟨b, i, none⟩ u) base v l :=
  Ow8.keptR h (r := some b) ⟨rfl, rfl, rfl, by simp [World.setCell], fun k hk hr => Below.heap_setCell _ _ _ _ (fun e => hr (by rw [e]))⟩ (fun g e => .inl (by injection e with e; omega))
end Go.Proofs.YtchjbagipbmcoaaGreatDoor

/-
  THE DOCUMENT'S OWN ANSWERS for one group of lights: the same numbers.
-/
namespace Go.Proofs.YtchjbagipbmcoaaGreatDoor
open Go.RowKit Go.Lib Go.Deep
set_option linter.unusedVariables false
set_option linter.unusedSimpArgs false

theorem rkept_any (x : Int) (w : World) : Calls Tryz.prog 86 #[.int .i64 x] w fun e w' => e = .returned (.int .i64 (stp x)) ∧ w' = w := by
  by_cases h1 : x < 0
  · rw [show stp x = 0 by unfold stp; rw [if_pos h1]]
    go_enter Tryz.func86, Tryz.ntmps86
    go_wp2
    all_goals first
      | (go_ret; exact ⟨rfl, rfl⟩; done)
      | (exfalso; simp_all; done)
      | (exfalso; simp_all; omega)
  by_cases h2 : 1048576 < x
  · rw [show stp x = 1048576 by unfold stp; rw [if_neg h1, if_pos h2]]
    go_enter Tryz.func86, Tryz.ntmps86
    go_wp2
    all_goals first
      | (go_ret; exact ⟨rfl, rfl⟩; done)
      | (exfalso; simp_all; done)
      | (exfalso; simp_all; omega)
  rw [stp_id (by omega) (by omega)]
  go_enter Tryz.func86, Tryz.ntmps86
  go_wp2
  all_goals first
    | (go_ret; exact ⟨rfl, rfl⟩; done)
    | (exfalso; simp_all; done)
    | (exfalso; simp_all; omega)
theorem rmore_any (x : Int) (w : World) : Calls Tryz.prog 85 #[.int .i64 x] w fun e w' => e = .returned (.int .i64 (more x)) ∧ w' = w := by
  have a0 := stp_ge x; have a1 := stp_le x
  by_cases h : stp x < 1048576
  · rw [show more x = stp x + 1 by unfold more; rw [if_pos h]]
    go_enter Tryz.func85, Tryz.ntmps85
    go_wp2_with (first | (go_at_call 86; refine (rkept_any _ _).mono ?_; rintro e w' ⟨rfl, rfl⟩))
    all_goals first
      | (go_ret; exact ⟨rfl, rfl⟩; done)
      | (exfalso; simp_all; done)
      | (exfalso; simp_all; omega)
  · rw [show more x = stp x by unfold more; rw [if_neg h]; omega]
    go_enter Tryz.func85, Tryz.ntmps85
    go_wp2_with (first | (go_at_call 86; refine (rkept_any _ _).mono ?_; rintro e w' ⟨rfl, rfl⟩))
    all_goals first
      | (go_ret; exact ⟨rfl, rfl⟩; done)
      | (exfalso; simp_all; done)
      | (exfalso; simp_all; omega)
def goesB (a : Int) : Bool := decide (a = 1 ∨ a = 2 ∨ a = 3)
theorem rnext_any (a s e b : Int) (w : World) : Calls Tryz.prog 51 #[seenV a s e, .int .u8 b] w fun e' w' => e' = .returned (seenV b (sinceV a s b) (endedV e b)) ∧ Kept w w' none := by
  unfold sinceV endedV
  by_cases h1 : b = a
  · subst h1
    rw [if_pos rfl]
    by_cases h2 : b = 2
    · subst h2
      rw [if_pos rfl]
      go_enter Tryz.func51, Tryz.ntmps51
      go_wp2_with (first | (go_at_call 85; refine (rmore_any _ _).mono ?_; rintro e w' ⟨rfl, rfl⟩))
      all_goals first
        | (exact bodyPost_ret (v := seenV _ _ _) (by simp [results, Tryz.results51, go_sem]; done) rfl ⟨rfl, by repeat (first | exact Kept.refl _ _ | refine Kept.tr ?_ (Kept.alloc _ _ _ _ _))⟩; done)
        | (exfalso; simp_all; done)
        | (exfalso; simp_all; omega)
    · rw [if_neg h2]
      have h2b : (b == 2) = false := by simp [h2]
      go_enter Tryz.func51, Tryz.ntmps51
      go_wp2_with (first | (go_at_call 85; refine (rmore_any _ _).mono ?_; rintro e w' ⟨rfl, rfl⟩))
      all_goals first
        | (exact bodyPost_ret (v := seenV _ _ _) (by simp [results, Tryz.results51, go_sem]; done) rfl ⟨rfl, by repeat (first | exact Kept.refl _ _ | refine Kept.tr ?_ (Kept.alloc _ _ _ _ _))⟩; done)
        | (exfalso; simp_all; done)
        | (exfalso; simp_all; omega)
  · rw [if_neg h1]
    have h1b : (b == a) = false := by simp [h1]
    have h1c : (a == b) = false := by simp; exact fun h => h1 h.symm
    by_cases h2 : b = 2
    · subst h2
      rw [if_pos rfl]
      go_enter Tryz.func51, Tryz.ntmps51
      go_wp2_with (first | (go_at_call 85; refine (rmore_any _ _).mono ?_; rintro e w' ⟨rfl, rfl⟩))
      all_goals first
        | (exact bodyPost_ret (v := seenV _ _ _) (by simp [results, Tryz.results51, go_sem]; done) rfl ⟨rfl, by repeat (first | exact Kept.refl _ _ | refine Kept.tr ?_ (Kept.alloc _ _ _ _ _))⟩; done)
        | (exfalso; simp_all; done)
        | (exfalso; simp_all; omega)
    · rw [if_neg h2]
      have h2b : (b == 2) = false := by simp [h2]
      go_enter Tryz.func51, Tryz.ntmps51
      go_wp2_with (first | (go_at_call 85; refine (rmore_any _ _).mono ?_; rintro e w' ⟨rfl, rfl⟩))
      all_goals first
        | (exact bodyPost_ret (v := seenV _ _ _) (by simp [results, Tryz.results51, go_sem]; done) rfl ⟨rfl, by repeat (first | exact Kept.refl _ _ | refine Kept.tr ?_ (Kept.alloc _ _ _ _ _))⟩; done)
        | (exfalso; simp_all; done)
        | (exfalso; simp_all; omega)
theorem rwant_any (k m y a s e q : Int) (w : World) : Calls Tryz.prog 52 #[grpV k m y, seenV a s e, .int .u8 q] w fun e' w' => e' = .returned (.int .u8 (wantV m y a s q)) ∧ Kept w w' none := by
  unfold wantV
  by_cases h1 : a = 1
  · subst h1
    rw [if_pos rfl]
    by_cases h2 : q = 2
    · subst h2
      rw [if_pos rfl]
      go_enter Tryz.func52, Tryz.ntmps52
      go_wp2_with (first | (go_at_call 86; refine (rkept_any _ _).mono ?_; rintro e w' ⟨rfl, rfl⟩))
      all_goals first
        | (go_ret; exact ⟨rfl, by repeat (first | exact Kept.refl _ _ | refine Kept.tr ?_ (Kept.alloc _ _ _ _ _))⟩; done)
        | (exfalso; simp_all; done)
        | (exfalso; simp_all; omega)
    · rw [if_neg h2]
      have h2b : (q == 2) = false := by simp [h2]
      go_enter Tryz.func52, Tryz.ntmps52
      go_wp2_with (first | (go_at_call 86; refine (rkept_any _ _).mono ?_; rintro e w' ⟨rfl, rfl⟩))
      all_goals first
        | (go_ret; exact ⟨rfl, by repeat (first | exact Kept.refl _ _ | refine Kept.tr ?_ (Kept.alloc _ _ _ _ _))⟩; done)
        | (exfalso; simp_all; done)
        | (exfalso; simp_all; omega)
  rw [if_neg h1]
  have h1b : (a == 1) = false := by simp [h1]
  by_cases h2 : a = 2
  · subst h2
    rw [if_pos rfl]
    by_cases h3 : q = 2
    · subst h3
      rw [if_pos rfl]
      go_enter Tryz.func52, Tryz.ntmps52
      go_wp2_with (first | (go_at_call 86; refine (rkept_any _ _).mono ?_; rintro e w' ⟨rfl, rfl⟩))
      all_goals first
        | (go_ret; exact ⟨rfl, by repeat (first | exact Kept.refl _ _ | refine Kept.tr ?_ (Kept.alloc _ _ _ _ _))⟩; done)
        | (exfalso; simp_all; done)
        | (exfalso; simp_all; omega)
    rw [if_neg h3]
    have h3b : (q == 2) = false := by simp [h3]
    by_cases h4 : stp s < m
    · rw [if_pos h4]
      go_enter Tryz.func52, Tryz.ntmps52
      go_wp2_with (first | (go_at_call 86; refine (rkept_any _ _).mono ?_; rintro e w' ⟨rfl, rfl⟩))
      all_goals first
        | (go_ret; exact ⟨rfl, by repeat (first | exact Kept.refl _ _ | refine Kept.tr ?_ (Kept.alloc _ _ _ _ _))⟩; done)
        | (exfalso; simp_all; done)
        | (exfalso; simp_all; omega)
    · rw [if_neg h4]
      go_enter Tryz.func52, Tryz.ntmps52
      go_wp2_with (first | (go_at_call 86; refine (rkept_any _ _).mono ?_; rintro e w' ⟨rfl, rfl⟩))
      all_goals first
        | (go_ret; exact ⟨rfl, by repeat (first | exact Kept.refl _ _ | refine Kept.tr ?_ (Kept.alloc _ _ _ _ _))⟩; done)
        | (exfalso; simp_all; done)
        | (exfalso; simp_all; omega)
  rw [if_neg h2]
  have h2b : (a == 2) = false := by simp [h2]
  by_cases h3 : a = 3
  · subst h3
    rw [if_pos rfl]
    by_cases h4 : stp s < y
    · rw [if_pos h4]
      go_enter Tryz.func52, Tryz.ntmps52
      go_wp2_with (first | (go_at_call 86; refine (rkept_any _ _).mono ?_; rintro e w' ⟨rfl, rfl⟩))
      all_goals first
        | (go_ret; exact ⟨rfl, by repeat (first | exact Kept.refl _ _ | refine Kept.tr ?_ (Kept.alloc _ _ _ _ _))⟩; done)
        | (exfalso; simp_all; done)
        | (exfalso; simp_all; omega)
    · rw [if_neg h4]
      go_enter Tryz.func52, Tryz.ntmps52
      go_wp2_with (first | (go_at_call 86; refine (rkept_any _ _).mono ?_; rintro e w' ⟨rfl, rfl⟩))
      all_goals first
        | (go_ret; exact ⟨rfl, by repeat (first | exact Kept.refl _ _ | refine Kept.tr ?_ (Kept.alloc _ _ _ _ _))⟩; done)
        | (exfalso; simp_all; done)
        | (exfalso; simp_all; omega)
  rw [if_neg h3]
  have h3b : (a == 3) = false := by simp [h3]
  go_enter Tryz.func52, Tryz.ntmps52
  go_wp2_with (first | (go_at_call 86; refine (rkept_any _ _).mono ?_; rintro e w' ⟨rfl, rfl⟩))
  all_goals first
    | (go_ret; exact ⟨rfl, by repeat (first | exact Kept.refl _ _ | refine Kept.tr ?_ (Kept.alloc _ _ _ _ _))⟩; done)
    | (exfalso; simp_all; done)
    | (exfalso; simp_all; omega)
end Go.Proofs.YtchjbagipbmcoaaGreatDoor

/-
  THE DOCUMENT'S Behind of layer 8 (made by a program).
-/
namespace Go.Proofs.YtchjbagipbmcoaaGreatDoor
open Go.RowKit Go.Lib Go.Deep
set_option linter.unusedVariables false
set_option linter.unusedSimpArgs false

/-- A drawn region's one way, two slots left open. -/
def Rv8 (A : Value → Value → Act) (P : World → Prop) (e : Exit) (a : Act) (w : World) : Prop := match e with
  | .normal => ∃ u v, a = A u v ∧ P w
  | _ => False
theorem Rv8.out {A : Value → Value → Act} {P : World → Prop} {w : World} {e : Exit} {a : Act} (h : Rv8 A P e a w) : e = .normal ∧ ∃ u v, a = A u v ∧ P w := by
  cases e with
  | normal => exact ⟨rfl, h⟩
  | _ => exact h.elim
set_option maxRecDepth 100000 in
set_option maxHeartbeats 20000000 in
theorem rbehind_any {X : Sa} {S : St} {w : World} {c : Nat} {G : List Sn} {st : Int} {fl : Bool} {bf off bl ol cl : Nat} {L : List Nat} (h : Sat w X S) (hs : siteB S = true) (hcf : ∀ i, i < S.groups.length → ∀ j, j < 3 → w.cell? ⟨bf, off + i * 3 + j, none⟩ = some (snV (Sf.g ⟨G, st, fl⟩ i) j)) (hcr : S.groups.length ≤ c) (hcm : c ≤ 9223372036854775807) (hst : 0 ≤ st ∧ st ≤ 1048576) (hcl : ∀ i, i < S.groups.length → w.cell? ⟨bl, ol + i, none⟩ = some (.int .u8 (lg L i : Int))) (hB : By w (some ⟨bl, ol, none⟩) S.groups.length L) :
    Calls Tryz.prog 30 #[siteV X S, .agg #[.slice (some ⟨bf, off, none⟩) S.groups.length c, .int .i64 st, .bool fl], .slice (some ⟨bl, ol, none⟩) S.groups.length cl] w fun e w' => ∃ a c', e = .returned (.agg #[.slice a S.groups.length c', .int .i64 (startV S ⟨G, st, fl⟩ L), .bool (allIs L 4)]) ∧ SafeAt w' a c' (behindV S ⟨G, st, fl⟩ L) ∧ (∀ b, a = some b → w.heap.size ≤ b.block) ∧ Kept w w' none := by
  have hng := (span_may hs).base.sh.ok.ng
  have hwr := worst_rng hs
  have k1 : Kept w (w.alloc (.cells #[.int .i64 S.id, .slice X.g S.groups.length X.gc, .slice X.a S.apart.length X.ac, .slice X.b S.between.length X.bc, .slice X.p S.phases.length X.pc, .slice X.e S.eyes.length X.ec, .int .i64 S.watch, .int .i64 S.feed, .int .i64 S.heal, .int .i64 S.low, .int .i64 S.high, .slice X.l S.plans.length X.lc] 29)) none := Kept.alloc _ _ _ _ _
  have k2 : Kept (w.alloc (.cells #[.int .i64 S.id, .slice X.g S.groups.length X.gc, .slice X.a S.apart.length X.ac, .slice X.b S.between.length X.bc, .slice X.p S.phases.length X.pc, .slice X.e S.eyes.length X.ec, .int .i64 S.watch, .int .i64 S.feed, .int .i64 S.heal, .int .i64 S.low, .int .i64 S.high, .slice X.l S.plans.length X.lc] 29)) ((w.alloc (.cells #[.int .i64 S.id, .slice X.g S.groups.length X.gc, .slice X.a S.apart.length X.ac, .slice X.b S.between.length X.bc, .slice X.p S.phases.length X.pc, .slice X.e S.eyes.length X.ec, .int .i64 S.watch, .int .i64 S.feed, .int .i64 S.heal, .int .i64 S.low, .int .i64 S.high, .slice X.l S.plans.length X.lc] 29)).alloc (.cells #[.slice (some ⟨bf, off, none⟩) S.groups.length c, .int .i64 st, .bool fl] 32)) none := Kept.alloc _ _ _ _ _
  have k3 : Kept ((w.alloc (.cells #[.int .i64 S.id, .slice X.g S.groups.length X.gc, .slice X.a S.apart.length X.ac, .slice X.b S.between.length X.bc, .slice X.p S.phases.length X.pc, .slice X.e S.eyes.length X.ec, .int .i64 S.watch, .int .i64 S.feed, .int .i64 S.heal, .int .i64 S.low, .int .i64 S.high, .slice X.l S.plans.length X.lc] 29)).alloc (.cells #[.slice (some ⟨bf, off, none⟩) S.groups.length c, .int .i64 st, .bool fl] 32)) (((w.alloc (.cells #[.int .i64 S.id, .slice X.g S.groups.length X.gc, .slice X.a S.apart.length X.ac, .slice X.b S.between.length X.bc, .slice X.p S.phases.length X.pc, .slice X.e S.eyes.length X.ec, .int .i64 S.watch, .int .i64 S.feed, .int .i64 S.heal, .int .i64 S.low, .int .i64 S.high, .slice X.l S.plans.length X.lc] 29)).alloc (.cells #[.slice (some ⟨bf, off, none⟩) S.groups.length c, .int .i64 st, .bool fl] 32)).alloc (.cells #[.slice none 0 0, .int .i64 0, .bool false] 32)) none := Kept.alloc _ _ _ _ _
  have hsb := (sbox_alloc h 29).kept (k2.tr k3)
  have bn := (box_alloc (w.alloc (.cells #[.int .i64 S.id, .slice X.g S.groups.length X.gc, .slice X.a S.apart.length X.ac, .slice X.b S.between.length X.bc, .slice X.p S.phases.length X.pc, .slice X.e S.eyes.length X.ec, .int .i64 S.watch, .int .i64 S.feed, .int .i64 S.heal, .int .i64 S.low, .int .i64 S.high, .slice X.l S.plans.length X.lc] 29)) (.slice (some ⟨bf, off, none⟩) S.groups.length c) (.int .i64 st) (.bool fl) 32).kept k3
  have br := box_alloc ((w.alloc (.cells #[.int .i64 S.id, .slice X.g S.groups.length X.gc, .slice X.a S.apart.length X.ac, .slice X.b S.between.length X.bc, .slice X.p S.phases.length X.pc, .slice X.e S.eyes.length X.ec, .int .i64 S.watch, .int .i64 S.feed, .int .i64 S.heal, .int .i64 S.low, .int .i64 S.high, .slice X.l S.plans.length X.lc] 29)).alloc (.cells #[.slice (some ⟨bf, off, none⟩) S.groups.length c, .int .i64 st, .bool fl] 32)) (.slice none 0 0) (.int .i64 0) (.bool false) 32
  have hsz : (((w.alloc (.cells #[.int .i64 S.id, .slice X.g S.groups.length X.gc, .slice X.a S.apart.length X.ac, .slice X.b S.between.length X.bc, .slice X.p S.phases.length X.pc, .slice X.e S.eyes.length X.ec, .int .i64 S.watch, .int .i64 S.feed, .int .i64 S.heal, .int .i64 S.low, .int .i64 S.high, .slice X.l S.plans.length X.lc] 29)).alloc (.cells #[.slice (some ⟨bf, off, none⟩) S.groups.length c, .int .i64 st, .bool fl] 32)).alloc (.cells #[.slice none 0 0, .int .i64 0, .bool false] 32)).heap.size = w.heap.size + 1 + 1 + 1 := by simp
  rw [World.size_alloc] at bn br
  rw [World.size_alloc] at br
  have hkA := (k1.tr k2).tr k3
  have hBA := hB.kept hkA
  obtain ⟨W2, hW2⟩ : ∃ W2, (((w.alloc (.cells #[.int .i64 S.id, .slice X.g S.groups.length X.gc, .slice X.a S.apart.length X.ac, .slice X.b S.between.length X.bc, .slice X.p S.phases.length X.pc, .slice X.e S.eyes.length X.ec, .int .i64 S.watch, .int .i64 S.feed, .int .i64 S.heal, .int .i64 S.low, .int .i64 S.high, .slice X.l S.plans.length X.lc] 29)).alloc (.cells #[.slice (some ⟨bf, off, none⟩) S.groups.length c, .int .i64 st, .bool fl] 32)).alloc (.cells #[.slice none 0 0, .int .i64 0, .bool false] 32)) = W2 := ⟨_, rfl⟩
  rw [hW2] at hsb bn br hkA hBA hsz
  have HSB := Hid.mk' hsb
  have HBN := Hid.mk' bn
  have HBR := Hid.mk' br
  have HK := Hid.mk' hkA
  have HB := Hid.mk' hBA
  have HSZ := Hid.mk' hsz
  have HLT := Hid.mk' hB.lt
  have HSL := Hid.mk' hB.size
  have hK0 := Kept.refl W2 none
  have s0_ : ∀ w', Kept W2 w' none → w'.cell? ⟨w.heap.size, 0, none⟩ = some (.int .i64 S.id) := fun w' q => (HSB.out.kept q).c0
  have s1_ : ∀ w', Kept W2 w' none → w'.cell? ⟨w.heap.size, 1, none⟩ = some (.slice X.g S.groups.length X.gc) := fun w' q => (HSB.out.kept q).c1
  have s2_ : ∀ w', Kept W2 w' none → w'.cell? ⟨w.heap.size, 2, none⟩ = some (.slice X.a S.apart.length X.ac) := fun w' q => (HSB.out.kept q).c2
  have s3_ : ∀ w', Kept W2 w' none → w'.cell? ⟨w.heap.size, 3, none⟩ = some (.slice X.b S.between.length X.bc) := fun w' q => (HSB.out.kept q).c3
  have s4_ : ∀ w', Kept W2 w' none → w'.cell? ⟨w.heap.size, 4, none⟩ = some (.slice X.p S.phases.length X.pc) := fun w' q => (HSB.out.kept q).c4
  have s5_ : ∀ w', Kept W2 w' none → w'.cell? ⟨w.heap.size, 5, none⟩ = some (.slice X.e S.eyes.length X.ec) := fun w' q => (HSB.out.kept q).c5
  have s6_ : ∀ w', Kept W2 w' none → w'.cell? ⟨w.heap.size, 6, none⟩ = some (.int .i64 S.watch) := fun w' q => (HSB.out.kept q).c6
  have s7_ : ∀ w', Kept W2 w' none → w'.cell? ⟨w.heap.size, 7, none⟩ = some (.int .i64 S.feed) := fun w' q => (HSB.out.kept q).c7
  have s8_ : ∀ w', Kept W2 w' none → w'.cell? ⟨w.heap.size, 8, none⟩ = some (.int .i64 S.heal) := fun w' q => (HSB.out.kept q).c8
  have s9_ : ∀ w', Kept W2 w' none → w'.cell? ⟨w.heap.size, 9, none⟩ = some (.int .i64 S.low) := fun w' q => (HSB.out.kept q).c9
  have s10_ : ∀ w', Kept W2 w' none → w'.cell? ⟨w.heap.size, 10, none⟩ = some (.int .i64 S.high) := fun w' q => (HSB.out.kept q).c10
  have s11_ : ∀ w', Kept W2 w' none → w'.cell? ⟨w.heap.size, 11, none⟩ = some (.slice X.l S.plans.length X.lc) := fun w' q => (HSB.out.kept q).c11
  have n0_ : ∀ w', Kept W2 w' none → w'.cell? ⟨w.heap.size + 1, 0, none⟩ = some (.slice (some ⟨bf, off, none⟩) S.groups.length c) := fun w' q => (HBN.out.kept q).c0
  have n1_ : ∀ w', Kept W2 w' none → w'.cell? ⟨w.heap.size + 1, 1, none⟩ = some (.int .i64 st) := fun w' q => (HBN.out.kept q).c1
  have n2_ : ∀ w', Kept W2 w' none → w'.cell? ⟨w.heap.size + 1, 2, none⟩ = some (.bool fl) := fun w' q => (HBN.out.kept q).c2
  have HCF : Hid (∀ i, i < S.groups.length → ∀ j, j < 3 → ∀ w', Kept W2 w' none → w'.cell? ⟨bf, off + i * 3 + j, none⟩ = some (snV (Sf.g ⟨G, st, fl⟩ i) j)) := fun i hi j hj w' q => cell_kept0 (cell_kept0 (hcf i hi j hj) HK.out) q
  have HCL : Hid (∀ i, i < S.groups.length → ∀ w', Kept W2 w' none → w'.cell? ⟨bl, ol + i, none⟩ = some (.int .u8 (lg L i : Int))) := fun i hi w' q => cell_kept0 (cell_kept0 (hcl i hi) HK.out) q
  obtain ⟨al, hal⟩ : ∃ al, allIs L 4 = al := ⟨_, rfl⟩
  have HAL := Hid.mk' hal
  have hcb : (((cntN L 4 : Nat) : Int) == (S.groups.length : Int)) = al := by
    rw [← hal, Bool.eq_iff_iff, ← cnt_all, hB.size]
    simp
    omega
  clear h hB k1 k2 k3 hsb bn br hkA hBA hcf hcl hsz hal
  have HBH : Hid (behindV S ⟨G, st, fl⟩ L = ⟨(List.range S.groups.length).map (fun i => sndV (Sf.g ⟨G, st, fl⟩ i) (lg L i)), startV S ⟨G, st, fl⟩ L, al⟩) := by show _ = _; unfold behindV; rw [HSL.out, HAL.out]
  have HRNG : Hid (∀ s ∈ (List.range S.groups.length).map (fun i => sndV (Sf.g ⟨G, st, fl⟩ i) (lg L i)), s.asp < 256 ∧ i64B s.since ∧ i64B s.ended) := fun s hs => by
    simp only [List.mem_map, List.mem_range] at hs
    obtain ⟨i, hi, rfl⟩ := hs
    exact sndV_rng _ _ (HLT.out _ (lg_mem (by have := HSL.out; omega)))
  go_enter Tryz.func30, Tryz.ntmps30
  go_wp2_with (first | rw [hW2] | (go_at_call 50; refine (rflash_any (c := cl) (HB.out.kept (by assumption))).mono ?_; rintro e wq ⟨rfl, hwq⟩; have hwq := hwq.symm; subst hwq))
  have kN : Kept W2 (W2.alloc (.cells #[.slice none 0 0, .int .i64 0, .bool al] 32)) none := Kept.alloc _ _ _ _ _
  have bN := box_alloc W2 (.slice none 0 0) (.int .i64 0) (.bool al) 32
  have hzN : (W2.alloc (.cells #[.slice none 0 0, .int .i64 0, .bool al] 32)).heap.size = W2.heap.size + 1 := by simp
  rw [HSZ.out] at bN hzN
  obtain ⟨W3, hW3⟩ : ∃ W3, W2.alloc (.cells #[.slice none 0 0, .int .i64 0, .bool al] 32) = W3 := ⟨_, rfl⟩
  rw [hW3] at kN bN hzN ⊢
  have BN := Hid.mk' bN
  have HZN := Hid.mk' hzN
  have KN := Hid.mk' kN
  clear hW3 kN bN hzN hcb
  rw [HSZ.out]
  go_loopw [8] (fun i wr => ∃ k : Nat, k ≤ S.groups.length ∧ i = .int .i64 k ∧ Kept W2 wr none ∧ ∃ a c, Box wr (w.heap.size + 1 + 1 + 1) (.slice a k c) (.int .i64 0) (.bool al) ∧ SnS wr (w.heap.size + 1 + 1 + 1 + 1) (.slice a k c) ((List.range k).map (fun i => sndV (Sf.g ⟨G, st, fl⟩ i) (lg L i))) ∧ w.heap.size + 1 + 1 + 1 + 1 ≤ wr.heap.size) (fun i _ => S.groups.length - (intOf i).toNat)
  case atStart => exact ⟨0, by omega, rfl, KN.out, none, 0, BN.out, Ow8.nil .., by rw [HZN.out]; exact Nat.le_refl _⟩
  case round =>
    obtain ⟨k, hk, rfl, hKr, a, c5, hbx, hsn, hszw⟩ := hrel
    have HBX := Hid.mk' hbx
    have HSN := Hid.mk' hsn
    by_cases hlt : k < S.groups.length
    · have t0 : ∀ w', Kept W2 w' none → w'.cell? ⟨bf, off + k * 3, none⟩ = some (.int .u8 ((Sf.g ⟨G, st, fl⟩ k).asp : Int)) := fun w' q => HCF.out k hlt 0 (by omega) w' q
      have t1 : ∀ w', Kept W2 w' none → w'.cell? ⟨bf, off + k * 3 + 1, none⟩ = some (.int .i64 (Sf.g ⟨G, st, fl⟩ k).since) := fun w' q => HCF.out k hlt 1 (by omega) w' q
      have t2 : ∀ w', Kept W2 w' none → w'.cell? ⟨bf, off + k * 3 + 2, none⟩ = some (.int .i64 (Sf.g ⟨G, st, fl⟩ k).ended) := fun w' q => HCF.out k hlt 2 (by omega) w' q
      have m0 := HCL.out k hlt
      have c0 := hbx.c0
      obtain ⟨N, hN0⟩ : ∃ N, Sf.g ⟨G, st, fl⟩ k = N := ⟨_, rfl⟩
      obtain ⟨y, hY0⟩ : ∃ y, lg L k = y := ⟨_, rfl⟩
      have HN0 := Hid.mk' hN0
      have HY0 := Hid.mk' hY0
      rw [hN0] at t0 t1 t2
      rw [hY0] at m0
      clear hN0 hY0 hbx hsn
      go_wp2
      refine Code.wp_mono (Q := Rv8 ?A (fun w' => Kept W2 w' none ∧ ∃ a c, Box w' (w.heap.size + 1 + 1 + 1) (.slice a (k + 1) c) (.int .i64 0) (.bool al) ∧ SnS w' (w.heap.size + 1 + 1 + 1 + 1) (.slice a (k + 1) c) ((List.range (k + 1)).map (fun i => sndV (Sf.g ⟨G, st, fl⟩ i) (lg L i))) ∧ w.heap.size + 1 + 1 + 1 + 1 ≤ w'.heap.size)) ?cont ?reg
      case reg =>
        repeat (rename_i hh; clear hh)
        refine wp_region_held_drew (S := fun w' => Kept W2 w' none) (by kernel_rfl) (Kept.tr hKr (Kept.drew _ _)) (fun hHeld => ?_)
        refine held_take (i := 0) (v := ?v1) rfl rfl (by kernel_rfl) (by kernel_rfl) (by kernel_rfl) (fun _ _ _ h => h) (Or.inl ⟨by rfl, ?hy1⟩) hHeld ?rest1
        case hy1 => first | (intro w hSw; (try dsimp only at hSw); go_simp; done) | (intro w hSw; (try dsimp only at hSw); go_simp; with_reducible rfl)
        try simp only [List.setIfInBounds_toArray, List.set_cons_zero, List.set_cons_succ]
        refine held_take (i := 2) (v := ?v2) rfl rfl (by kernel_rfl) (by kernel_rfl) (by kernel_rfl) (fun _ _ _ h => h) (Or.inl ⟨by rfl, ?hy2⟩) hHeld ?rest2
        case hy2 => first | (intro w hSw; (try dsimp only at hSw); go_simp; done) | (intro w hSw; (try dsimp only at hSw); go_simp; with_reducible rfl)
        try simp only [List.setIfInBounds_toArray, List.set_cons_zero, List.set_cons_succ]
        refine held_take (i := 3) (v := ?v3) rfl rfl (by kernel_rfl) (by kernel_rfl) (by kernel_rfl) (fun _ _ _ h => h) (Or.inl ⟨by rfl, ?hy3⟩) hHeld ?rest3
        case hy3 => first | (intro w hSw; (try dsimp only at hSw); go_simp; done) | (intro w hSw; (try dsimp only at hSw); go_simp; with_reducible rfl)
        try simp only [List.setIfInBounds_toArray, List.set_cons_zero, List.set_cons_succ]
        refine held_take (i := 4) (v := ?v4) rfl rfl (by kernel_rfl) (by kernel_rfl) (by kernel_rfl) (fun _ _ _ h => h) (Or.inl ⟨by rfl, ?hy4⟩) hHeld ?rest4
        case hy4 => first | (intro w hSw; (try dsimp only at hSw); go_simp; done) | (intro w hSw; (try dsimp only at hSw); go_simp; with_reducible rfl)
        try simp only [List.setIfInBounds_toArray, List.set_cons_zero, List.set_cons_succ]
        refine held_take (i := 5) (v := ?v5) rfl rfl (by kernel_rfl) (by kernel_rfl) (by kernel_rfl) (fun _ _ _ h => h) (Or.inl ⟨by rfl, ?hy5⟩) hHeld ?rest5
        case hy5 => first | (intro w hSw; (try dsimp only at hSw); go_simp; done) | (intro w hSw; (try dsimp only at hSw); go_simp; with_reducible rfl)
        try simp only [List.setIfInBounds_toArray, List.set_cons_zero, List.set_cons_succ]
        refine held_take (i := 6) (v := ?v6) rfl rfl (by kernel_rfl) (by kernel_rfl) (by kernel_rfl) (fun _ _ _ h => h) (Or.inl ⟨by rfl, ?hy6⟩) hHeld ?rest6
        case hy6 => first | (intro w hSw; (try dsimp only at hSw); go_simp; done) | (intro w hSw; (try dsimp only at hSw); go_simp; with_reducible rfl)
        try simp only [List.setIfInBounds_toArray, List.set_cons_zero, List.set_cons_succ]
        refine held_take (i := 7) (v := ?v7) rfl rfl (by kernel_rfl) (by kernel_rfl) (by kernel_rfl) (fun _ _ _ h => h) (Or.inl ⟨by rfl, ?hy7⟩) hHeld ?rest7
        case hy7 => first | (intro w hSw; (try dsimp only at hSw); go_simp; done) | (intro w hSw; (try dsimp only at hSw); go_simp; with_reducible rfl)
        try simp only [List.setIfInBounds_toArray, List.set_cons_zero, List.set_cons_succ]
        refine held_take (i := 8) (v := ?v8) rfl rfl (by kernel_rfl) (by kernel_rfl) (by kernel_rfl) (fun _ _ _ h => h) (Or.inl ⟨by rfl, ?hy8⟩) hHeld ?rest8
        case hy8 => first | (intro w hSw; (try dsimp only at hSw); go_simp; done) | (intro w hSw; (try dsimp only at hSw); go_simp; with_reducible rfl)
        try simp only [List.setIfInBounds_toArray, List.set_cons_zero, List.set_cons_succ]
        refine held_take (i := 9) (v := ?v9) rfl rfl (by kernel_rfl) (by kernel_rfl) (by kernel_rfl) (fun _ _ _ h => h) (Or.inl ⟨by rfl, ?hy9⟩) hHeld ?rest9
        case hy9 => first | (intro w hSw; (try dsimp only at hSw); go_simp; done) | (intro w hSw; (try dsimp only at hSw); go_simp; with_reducible rfl)
        try simp only [List.setIfInBounds_toArray, List.set_cons_zero, List.set_cons_succ]
        refine held_take (i := 10) (v := ?v10) rfl rfl (by kernel_rfl) (by kernel_rfl) (by kernel_rfl) (fun _ _ _ h => h) (Or.inl ⟨by rfl, ?hy10⟩) hHeld ?rest10
        case hy10 => first | (intro w hSw; (try dsimp only at hSw); go_simp; done) | (intro w hSw; (try dsimp only at hSw); go_simp; with_reducible rfl)
        try simp only [List.setIfInBounds_toArray, List.set_cons_zero, List.set_cons_succ]
        refine wpAnyH_ready (rs := [1, 11]) (by kernel_rfl) (by simp) ?_
        refine AllReadyH.cons rfl (fun K hK => ?w1) (AllReadyH.cons rfl (fun K hK => ?w2) AllReadyH.nil)
        case w1 =>
          go_simp
          refine hK.out _ _ hHeld (fun hHeld => ?_)
          clear hK K
          refine wpAnyH_ready (rs := [11]) (by kernel_rfl) (by simp) ?_
          refine AllReadyH.cons rfl (fun K hK => ?_) AllReadyH.nil
          go_simp
          go_wp2_with (go_at_call 51; refine (rnext_any _ _ _ _ _).mono ?_; rintro e wS ⟨rfl, hkS⟩)
          have hk1 : Kept wr wS none := Kept.tr (Kept.drew _ _) hkS
          refine hK.out _ _ (hHeld.tr hkS) (fun hHeld => ?_)
          clear hK K
          have hsnS : SnS wS (w.heap.size + 1 + 1 + 1 + 1) (.slice a k c5) ((List.range k).map (fun i => sndV (Sf.g ⟨G, st, fl⟩ i) (lg L i))) := Ow8.keptR HSN.out hk1 (fun g e => (nomatch e))
          obtain ⟨a6, c6, w6, hr6, hL6, hk6⟩ := SnS.grow hsnS (sndV N y) (by simp; omega) (by have := hk1.size; omega)
          have hown := Ow8.lt hsnS
          rw [List.length_map, List.length_range] at hr6 hL6
          have HR6 := Hid.mk' hr6
          have hne : ∀ i, (Value.slice a k c5).ownBlock = some i → i ≠ w.heap.size + 1 + 1 + 1 := fun i e => by have := (hown i e).1; omega
          have bx6 := (HBX.out.kept hk1).keptR hk6 (fun e => hne _ e.symm rfl)
          have hK6 : Kept W2 w6 none := (hKr.tr hk1).newRow hk6 (fun i e => by have := (hown i e).1; have := HSZ.out; omega)
          have c60 := bx6.c0
          have z60 := bx6.f0
          clear hr6
          refine wpAnyH_ready (rs := [12]) (by kernel_rfl) (by simp) ?_
          refine AllReadyH.cons rfl (fun K hK => ?_) AllReadyH.nil
          go_simp
          refine hK.out _ _ (hHeld.tr (Kept.alloc _ _ _ _ _)) (fun hHeld => ?_)
          clear hK K
          refine wpAnyH_ready (rs := [13]) (by kernel_rfl) (by simp) ?_
          refine AllReadyH.cons rfl (fun K hK => ?_) AllReadyH.nil
          rw [if_pos (by rfl)]
          refine wp_app8 _ _ _ (by rfl) (by rfl) (by rfl) HR6.out ?_
          try simp only [Act.put, List.setIfInBounds_toArray, List.set_cons_zero, List.set_cons_succ]
          refine hK.out _ _ hK6 (fun hHeld => ?_)
          clear hK K
          refine held_take (i := 14) (v := ?v11) rfl rfl (by kernel_rfl) (by kernel_rfl) (by kernel_rfl) (fun _ _ _ h => h) (Or.inl ⟨by rfl, ?hy11⟩) hHeld ?rest11
          case hy11 => first | (intro w hSw; (try dsimp only at hSw); go_simp; done) | (intro w hSw; (try dsimp only at hSw); go_simp; with_reducible rfl)
          try simp only [List.setIfInBounds_toArray, List.set_cons_zero, List.set_cons_succ]
          refine wpAnyH_ready (rs := [15]) (by kernel_rfl) (by simp) ?_
          refine AllReadyH.cons rfl (fun K hK => ?_) AllReadyH.nil
          go_simp
          refine hK.out _ _ (hK6.setNew (p := ⟨w.heap.size + 1 + 1 + 1, 0, none⟩) (by rw [HSZ.out]; exact Nat.le_refl _) _) (fun hHeld => ?_)
          clear hK K
          refine wpAnyH_done (by kernel_rfl) ?_ _
          refine ⟨.slice (some ⟨wS.heap.size, 0, none⟩) 1 1, .slice a6 (k + 1) c6, ?eqA, hHeld, a6, c6, bx6.set0 _, ?_, by have h1 := hk1.size; have h2 := hk6.size; simp [World.setCell]; omega⟩
          case eqA =>
            generalize Value.slice (some ⟨wS.heap.size, 0, none⟩) 1 1 = u1
            generalize Value.slice a6 (k + 1) c6 = u2
            with_reducible rfl
          rw [List.range_succ, List.map_append]
          refine SnS.setOther ?_ (by omega) _
          rw [List.map_singleton, HN0.out, HY0.out]
          exact hL6
        case w2 =>
          go_simp
          go_wp2_with (go_at_call 51; refine (rnext_any _ _ _ _ _).mono ?_; rintro e wS ⟨rfl, hkS⟩)
          have hk1 : Kept wr wS none := Kept.tr (Kept.drew _ _) hkS
          refine hK.out _ _ (hHeld.tr hkS) (fun hHeld => ?_)
          clear hK K
          have bxS := HBX.out.kept hk1
          have cS := bxS.c0
          have hsnS : SnS wS (w.heap.size + 1 + 1 + 1 + 1) (.slice a k c5) ((List.range k).map (fun i => sndV (Sf.g ⟨G, st, fl⟩ i) (lg L i))) := Ow8.keptR HSN.out hk1 (fun g e => (nomatch e))
          obtain ⟨a6, c6, w6, hr6, hL6, hk6⟩ := SnS.grow hsnS (sndV N y) (by simp; omega) (by have := hk1.size; omega)
          have hown := Ow8.lt hsnS
          rw [List.length_map, List.length_range] at hr6 hL6
          have HR6 := Hid.mk' hr6
          have hne : ∀ i, (Value.slice a k c5).ownBlock = some i → i ≠ w.heap.size + 1 + 1 + 1 := fun i e => by have := (hown i e).1; omega
          have bx6 := (HBX.out.kept hk1).keptR hk6 (fun e => hne _ e.symm rfl)
          have hK6 : Kept W2 w6 none := (hKr.tr hk1).newRow hk6 (fun i e => by have := (hown i e).1; have := HSZ.out; omega)
          have c60 := bx6.c0
          have z60 := bx6.f0
          clear hr6
          refine wpAnyH_ready (rs := [1, 12]) (by kernel_rfl) (by simp) ?_
          refine AllReadyH.cons rfl (fun K hK => ?zzA) (AllReadyH.cons rfl (fun K hK => ?zzB) AllReadyH.nil)
          case zzA =>
            go_simp
            refine hK.out _ _ hHeld (fun hHeld => ?_)
            clear hK K
            refine wpAnyH_ready (rs := [12]) (by kernel_rfl) (by simp) ?_
            refine AllReadyH.cons rfl (fun K hK => ?_) AllReadyH.nil
            go_simp
            refine hK.out _ _ (hHeld.tr (Kept.alloc _ _ _ _ _)) (fun hHeld => ?_)
            clear hK K
            refine wpAnyH_ready (rs := [13]) (by kernel_rfl) (by simp) ?_
            refine AllReadyH.cons rfl (fun K hK => ?_) AllReadyH.nil
            rw [if_pos (by rfl)]
            refine wp_app8 _ _ _ (by rfl) (by rfl) (by rfl) HR6.out ?_
            try simp only [Act.put, List.setIfInBounds_toArray, List.set_cons_zero, List.set_cons_succ]
            refine hK.out _ _ hK6 (fun hHeld => ?_)
            clear hK K
            refine held_take (i := 14) (v := ?v12) rfl rfl (by kernel_rfl) (by kernel_rfl) (by kernel_rfl) (fun _ _ _ h => h) (Or.inl ⟨by rfl, ?hy12⟩) hHeld ?rest12
            case hy12 => first | (intro w hSw; (try dsimp only at hSw); go_simp; done) | (intro w hSw; (try dsimp only at hSw); go_simp; with_reducible rfl)
            try simp only [List.setIfInBounds_toArray, List.set_cons_zero, List.set_cons_succ]
            refine wpAnyH_ready (rs := [15]) (by kernel_rfl) (by simp) ?_
            refine AllReadyH.cons rfl (fun K hK => ?_) AllReadyH.nil
            go_simp
            refine hK.out _ _ (hK6.setNew (p := ⟨w.heap.size + 1 + 1 + 1, 0, none⟩) (by rw [HSZ.out]; exact Nat.le_refl _) _) (fun hHeld => ?_)
            clear hK K
            refine wpAnyH_done (by kernel_rfl) ?_ _
            refine ⟨.slice (some ⟨wS.heap.size, 0, none⟩) 1 1, .slice a6 (k + 1) c6, ?eqB, hHeld, a6, c6, bx6.set0 _, ?_, by have h1 := hk1.size; have h2 := hk6.size; simp [World.setCell]; omega⟩
            case eqB =>
              generalize Value.slice (some ⟨wS.heap.size, 0, none⟩) 1 1 = u1
              generalize Value.slice a6 (k + 1) c6 = u2
              with_reducible rfl
            rw [List.range_succ, List.map_append]
            refine SnS.setOther ?_ (by omega) _
            rw [List.map_singleton, HN0.out, HY0.out]
            exact hL6
          case zzB =>
            have cS2 : (wS.alloc (.cells #[.int .u8 (y : Int), .int .i64 (sinceV (N.asp : Int) N.since (y : Int)), .int .i64 (endedV N.ended (y : Int))] 72)).cell? ⟨w.heap.size + 1 + 1 + 1, 0, none⟩ = some (.slice a k c5) := cell_kept0 cS (Kept.alloc _ _ _ _ _)
            go_simp
            refine hK.out _ _ (hHeld.tr (Kept.alloc _ _ _ _ _)) (fun hHeld => ?_)
            clear hK K
            refine wpAnyH_ready (rs := [1]) (by kernel_rfl) (by simp) ?_
            refine AllReadyH.cons rfl (fun K hK => ?_) AllReadyH.nil
            go_simp
            refine hK.out _ _ hHeld (fun hHeld => ?_)
            clear hK K
            refine wpAnyH_ready (rs := [13]) (by kernel_rfl) (by simp) ?_
            refine AllReadyH.cons rfl (fun K hK => ?_) AllReadyH.nil
            rw [if_pos (by rfl)]
            refine wp_app8 _ _ _ (by rfl) (by rfl) (by rfl) HR6.out ?_
            try simp only [Act.put, List.setIfInBounds_toArray, List.set_cons_zero, List.set_cons_succ]
            refine hK.out _ _ hK6 (fun hHeld => ?_)
            clear hK K
            refine held_take (i := 14) (v := ?v13) rfl rfl (by kernel_rfl) (by kernel_rfl) (by kernel_rfl) (fun _ _ _ h => h) (Or.inl ⟨by rfl, ?hy13⟩) hHeld ?rest13
            case hy13 => first | (intro w hSw; (try dsimp only at hSw); go_simp; done) | (intro w hSw; (try dsimp only at hSw); go_simp; with_reducible rfl)
            try simp only [List.setIfInBounds_toArray, List.set_cons_zero, List.set_cons_succ]
            refine wpAnyH_ready (rs := [15]) (by kernel_rfl) (by simp) ?_
            refine AllReadyH.cons rfl (fun K hK => ?_) AllReadyH.nil
            go_simp
            refine hK.out _ _ (hK6.setNew (p := ⟨w.heap.size + 1 + 1 + 1, 0, none⟩) (by rw [HSZ.out]; exact Nat.le_refl _) _) (fun hHeld => ?_)
            clear hK K
            refine wpAnyH_done (by kernel_rfl) ?_ _
            refine ⟨.slice (some ⟨wS.heap.size, 0, none⟩) 1 1, .slice a6 (k + 1) c6, ?eqC, hHeld, a6, c6, bx6.set0 _, ?_, by have h1 := hk1.size; have h2 := hk6.size; simp [World.setCell]; omega⟩
            case eqC =>
              generalize Value.slice (some ⟨wS.heap.size, 0, none⟩) 1 1 = u1
              generalize Value.slice a6 (k + 1) c6 = u2
              with_reducible rfl
            rw [List.range_succ, List.map_append]
            refine SnS.setOther ?_ (by omega) _
            rw [List.map_singleton, HN0.out, HY0.out]
            exact hL6
      case cont =>
      intro e a' w' hq'
      obtain ⟨rfl, u1, u2, rfl, hkq, a7, c7, hb7, hs7, hz7⟩ := hq'.out
      go_wp2
      go_roundw
      case rel => exact ⟨k + 1, by omega, by go_num, hkq, a7, c7, hb7, hs7, hz7⟩
      case measure => simp [intOf]; omega
    · have e : k = S.groups.length := by omega
      subst e
      have hbr := HBR.out.kept hKr
      have HBRr := Hid.mk' hbr
      have HKR := Hid.mk' hKr
      have hSV : startV S ⟨G, st, fl⟩ L = if al = true then worstM S else max ((if fl = true then worstM S else st) - 1) 0 := by unfold startV; rw [HAL.out]
      have HSV := Hid.mk' hSV
      have hoe : w.heap.size + 1 + 1 ≠ w.heap.size + 1 + 1 + 1 := by omega
      clear hbr hSV
      cases fl with
      | true =>
        cases al with
        | true =>
          by_cases hp : 0 < worstM S
          · have hp1 : 0 ≤ worstM S - 1 := by omega
            have HV : Hid (startV S ⟨G, st, true⟩ L = worstM S) := by
              show _ = _
              rw [HSV.out]
              simp
            go_wp2_with (first | (have hgo := hk1; clear hgo; go_at_call 37; have hkc : Kept W2 (wG1.setCell ⟨w.heap.size + 1 + 1 + 1, 1, none⟩ (.int .i64 (worstM S - 1))) none := (hk1.setNew (p := ⟨w.heap.size + 1 + 1 + 1, 1, none⟩) (by rw [HSZ.out]; exact Nat.le_refl _) (.int .i64 (worstM S - 1))); refine (rgr8_any (HSB.out.sat.kept hkc) hs).mono ?_; rintro e wG2 ⟨rfl, hq2⟩; have hk2 : Kept W2 wG2 none := hkc.tr hq2; have c0z := (((HBX.out.kept hq1).set1 (.int .i64 (worstM S - 1))).kept hq2).c0; have c1z := (((HBX.out.kept hq1).set1 (.int .i64 (worstM S - 1))).kept hq2).c1; have c2z := (((HBX.out.kept hq1).set1 (.int .i64 (worstM S - 1))).kept hq2).c2; have f1z := (((HBX.out.kept hq1).set1 (.int .i64 (worstM S - 1))).kept hq2).f1; have r0z := (((HBRr.out.kept hq1).other (p := ⟨w.heap.size + 1 + 1 + 1, 1, none⟩) (by show w.heap.size + 1 + 1 + 1 ≠ w.heap.size + 1 + 1; omega) (.int .i64 (worstM S - 1))).kept hq2).c0; have r1z := (((HBRr.out.kept hq1).other (p := ⟨w.heap.size + 1 + 1 + 1, 1, none⟩) (by show w.heap.size + 1 + 1 + 1 ≠ w.heap.size + 1 + 1; omega) (.int .i64 (worstM S - 1))).kept hq2).c1; have r2z := (((HBRr.out.kept hq1).other (p := ⟨w.heap.size + 1 + 1 + 1, 1, none⟩) (by show w.heap.size + 1 + 1 + 1 ≠ w.heap.size + 1 + 1; omega) (.int .i64 (worstM S - 1))).kept hq2).c2; have y0z := (((HBRr.out.kept hq1).other (p := ⟨w.heap.size + 1 + 1 + 1, 1, none⟩) (by show w.heap.size + 1 + 1 + 1 ≠ w.heap.size + 1 + 1; omega) (.int .i64 (worstM S - 1))).kept hq2).f0; have y1z := (((HBRr.out.kept hq1).other (p := ⟨w.heap.size + 1 + 1 + 1, 1, none⟩) (by show w.heap.size + 1 + 1 + 1 ≠ w.heap.size + 1 + 1; omega) (.int .i64 (worstM S - 1))).kept hq2).f1; have y2z := (((HBRr.out.kept hq1).other (p := ⟨w.heap.size + 1 + 1 + 1, 1, none⟩) (by show w.heap.size + 1 + 1 + 1 ≠ w.heap.size + 1 + 1; omega) (.int .i64 (worstM S - 1))).kept hq2).f2) | (go_at_call 37; refine (rgr8_any (HSB.out.sat.kept hKr) hs).mono ?_; rintro e wG1 ⟨rfl, hq1⟩; have hk1 : Kept W2 wG1 none := hKr.tr hq1; have c0x := (HBX.out.kept hq1).c0; have c1x := (HBX.out.kept hq1).c1; have c2x := (HBX.out.kept hq1).c2; have f1x := (HBX.out.kept hq1).f1; have r0x := (HBRr.out.kept hq1).c0; have r1x := (HBRr.out.kept hq1).c1; have r2x := (HBRr.out.kept hq1).c2; have y0x := (HBRr.out.kept hq1).f0; have y1x := (HBRr.out.kept hq1).f1; have y2x := (HBRr.out.kept hq1).f2))
            have hfin := ((((HBX.out.kept hq1).set1 (.int .i64 (worstM S - 1))).kept hq2).set1 (.int .i64 (worstM S)))
            have q0 := hfin.c0
            have q1 := hfin.c1
            have q2 := hfin.c2
            have hres := ((((HBRr.out.kept hq1).other (p := ⟨w.heap.size + 1 + 1 + 1, 1, none⟩) (by show w.heap.size + 1 + 1 + 1 ≠ w.heap.size + 1 + 1; omega) (.int .i64 (worstM S - 1))).kept hq2).other (p := ⟨w.heap.size + 1 + 1 + 1, 1, none⟩) (by show w.heap.size + 1 + 1 + 1 ≠ w.heap.size + 1 + 1; omega) (.int .i64 (worstM S)))
            have p0 := hres.c0
            have p1 := hres.c1
            have p2 := hres.c2
            have hsafe := SnS.safe (F := behindV S ⟨G, st, true⟩ L) (SnS.setOther (SnS.setOther (SnS.setOther (SnS.setOther (Ow8.keptR (SnS.setOther (Ow8.keptR HSN.out hq1 (fun g e => (nomatch e))) (b := w.heap.size + 1 + 1 + 1) (i := 1) (by omega) (.int .i64 (worstM S - 1))) hq2 (fun g e => (nomatch e))) (b := w.heap.size + 1 + 1 + 1) (i := 1) (by omega) (.int .i64 (worstM S))) (b := w.heap.size + 1 + 1) (i := 0) (by omega) (.slice a S.groups.length c5)) (b := w.heap.size + 1 + 1) (i := 1) (by omega) (.int .i64 (worstM S))) (b := w.heap.size + 1 + 1) (i := 2) (by omega) (.bool true)) (by rw [HBH.out]) HRNG.out
            refine bodyPost_ret (v := .agg #[.slice a S.groups.length c5, .int .i64 (worstM S), .bool true]) (by simp [results, Tryz.results30, go_sem, p0, p1, p2]) rfl ⟨a, c5, by rw [HV.out, HAL.out], hsafe.2, (fun b e => by have := SnS.own HSN.out b e; omega), ?_⟩
            have hb : Kept w _ none := HK.out.tr (hk2.setNew (p := ⟨w.heap.size + 1 + 1 + 1, 1, none⟩) (by rw [HSZ.out]; exact Nat.le_refl _) (.int .i64 (worstM S)))
            exact ((hb.setNew (by show w.heap.size ≤ w.heap.size + 1 + 1; omega) _).setNew (by show w.heap.size ≤ w.heap.size + 1 + 1; omega) _).setNew (by show w.heap.size ≤ w.heap.size + 1 + 1; omega) _
          · skip
            have HV : Hid (startV S ⟨G, st, true⟩ L = worstM S) := by
              show _ = _
              rw [HSV.out]
              simp
            go_wp2_with (first | (have hgo := hk1; clear hgo; go_at_call 37; have hkc : Kept W2 wG1 none := hk1; refine (rgr8_any (HSB.out.sat.kept hkc) hs).mono ?_; rintro e wG2 ⟨rfl, hq2⟩; have hk2 : Kept W2 wG2 none := hkc.tr hq2; have c0z := ((HBX.out.kept hq1).kept hq2).c0; have c1z := ((HBX.out.kept hq1).kept hq2).c1; have c2z := ((HBX.out.kept hq1).kept hq2).c2; have f1z := ((HBX.out.kept hq1).kept hq2).f1; have r0z := ((HBRr.out.kept hq1).kept hq2).c0; have r1z := ((HBRr.out.kept hq1).kept hq2).c1; have r2z := ((HBRr.out.kept hq1).kept hq2).c2; have y0z := ((HBRr.out.kept hq1).kept hq2).f0; have y1z := ((HBRr.out.kept hq1).kept hq2).f1; have y2z := ((HBRr.out.kept hq1).kept hq2).f2) | (go_at_call 37; refine (rgr8_any (HSB.out.sat.kept hKr) hs).mono ?_; rintro e wG1 ⟨rfl, hq1⟩; have hk1 : Kept W2 wG1 none := hKr.tr hq1; have c0x := (HBX.out.kept hq1).c0; have c1x := (HBX.out.kept hq1).c1; have c2x := (HBX.out.kept hq1).c2; have f1x := (HBX.out.kept hq1).f1; have r0x := (HBRr.out.kept hq1).c0; have r1x := (HBRr.out.kept hq1).c1; have r2x := (HBRr.out.kept hq1).c2; have y0x := (HBRr.out.kept hq1).f0; have y1x := (HBRr.out.kept hq1).f1; have y2x := (HBRr.out.kept hq1).f2))
            have hfin := (((HBX.out.kept hq1).kept hq2).set1 (.int .i64 (worstM S)))
            have q0 := hfin.c0
            have q1 := hfin.c1
            have q2 := hfin.c2
            have hres := (((HBRr.out.kept hq1).kept hq2).other (p := ⟨w.heap.size + 1 + 1 + 1, 1, none⟩) (by show w.heap.size + 1 + 1 + 1 ≠ w.heap.size + 1 + 1; omega) (.int .i64 (worstM S)))
            have p0 := hres.c0
            have p1 := hres.c1
            have p2 := hres.c2
            have hsafe := SnS.safe (F := behindV S ⟨G, st, true⟩ L) (SnS.setOther (SnS.setOther (SnS.setOther (SnS.setOther (Ow8.keptR (Ow8.keptR HSN.out hq1 (fun g e => (nomatch e))) hq2 (fun g e => (nomatch e))) (b := w.heap.size + 1 + 1 + 1) (i := 1) (by omega) (.int .i64 (worstM S))) (b := w.heap.size + 1 + 1) (i := 0) (by omega) (.slice a S.groups.length c5)) (b := w.heap.size + 1 + 1) (i := 1) (by omega) (.int .i64 (worstM S))) (b := w.heap.size + 1 + 1) (i := 2) (by omega) (.bool true)) (by rw [HBH.out]) HRNG.out
            refine bodyPost_ret (v := .agg #[.slice a S.groups.length c5, .int .i64 (worstM S), .bool true]) (by simp [results, Tryz.results30, go_sem, p0, p1, p2]) rfl ⟨a, c5, by rw [HV.out, HAL.out], hsafe.2, (fun b e => by have := SnS.own HSN.out b e; omega), ?_⟩
            have hb : Kept w _ none := HK.out.tr (hk2.setNew (p := ⟨w.heap.size + 1 + 1 + 1, 1, none⟩) (by rw [HSZ.out]; exact Nat.le_refl _) (.int .i64 (worstM S)))
            exact ((hb.setNew (by show w.heap.size ≤ w.heap.size + 1 + 1; omega) _).setNew (by show w.heap.size ≤ w.heap.size + 1 + 1; omega) _).setNew (by show w.heap.size ≤ w.heap.size + 1 + 1; omega) _
        | false =>
          by_cases hp : 0 < worstM S
          · have hp1 : 0 ≤ worstM S - 1 := by omega
            have HV : Hid (startV S ⟨G, st, true⟩ L = worstM S - 1) := by
              show _ = _
              rw [HSV.out]
              rw [if_neg (by simp), if_pos rfl]; omega
            go_wp2_with (first | (go_at_call 37; refine (rgr8_any (HSB.out.sat.kept hKr) hs).mono ?_; rintro e wG1 ⟨rfl, hq1⟩; have hk1 : Kept W2 wG1 none := hKr.tr hq1; have c0x := (HBX.out.kept hq1).c0; have c1x := (HBX.out.kept hq1).c1; have c2x := (HBX.out.kept hq1).c2; have f1x := (HBX.out.kept hq1).f1; have r0x := (HBRr.out.kept hq1).c0; have r1x := (HBRr.out.kept hq1).c1; have r2x := (HBRr.out.kept hq1).c2; have y0x := (HBRr.out.kept hq1).f0; have y1x := (HBRr.out.kept hq1).f1; have y2x := (HBRr.out.kept hq1).f2))
            have hfin := ((HBX.out.kept hq1).set1 (.int .i64 (worstM S - 1)))
            have q0 := hfin.c0
            have q1 := hfin.c1
            have q2 := hfin.c2
            have hres := ((HBRr.out.kept hq1).other (p := ⟨w.heap.size + 1 + 1 + 1, 1, none⟩) (by show w.heap.size + 1 + 1 + 1 ≠ w.heap.size + 1 + 1; omega) (.int .i64 (worstM S - 1)))
            have p0 := hres.c0
            have p1 := hres.c1
            have p2 := hres.c2
            have hsafe := SnS.safe (F := behindV S ⟨G, st, true⟩ L) (SnS.setOther (SnS.setOther (SnS.setOther (SnS.setOther (Ow8.keptR HSN.out hq1 (fun g e => (nomatch e))) (b := w.heap.size + 1 + 1 + 1) (i := 1) (by omega) (.int .i64 (worstM S - 1))) (b := w.heap.size + 1 + 1) (i := 0) (by omega) (.slice a S.groups.length c5)) (b := w.heap.size + 1 + 1) (i := 1) (by omega) (.int .i64 (worstM S - 1))) (b := w.heap.size + 1 + 1) (i := 2) (by omega) (.bool false)) (by rw [HBH.out]) HRNG.out
            refine bodyPost_ret (v := .agg #[.slice a S.groups.length c5, .int .i64 (worstM S - 1), .bool false]) (by simp [results, Tryz.results30, go_sem, p0, p1, p2]) rfl ⟨a, c5, by rw [HV.out, HAL.out], hsafe.2, (fun b e => by have := SnS.own HSN.out b e; omega), ?_⟩
            have hb : Kept w _ none := HK.out.tr (hk1.setNew (p := ⟨w.heap.size + 1 + 1 + 1, 1, none⟩) (by rw [HSZ.out]; exact Nat.le_refl _) (.int .i64 (worstM S - 1)))
            exact ((hb.setNew (by show w.heap.size ≤ w.heap.size + 1 + 1; omega) _).setNew (by show w.heap.size ≤ w.heap.size + 1 + 1; omega) _).setNew (by show w.heap.size ≤ w.heap.size + 1 + 1; omega) _
          · skip
            have HV : Hid (startV S ⟨G, st, true⟩ L = 0) := by
              show _ = _
              rw [HSV.out]
              rw [if_neg (by simp), if_pos rfl]; omega
            go_wp2_with (first | (go_at_call 37; refine (rgr8_any (HSB.out.sat.kept hKr) hs).mono ?_; rintro e wG1 ⟨rfl, hq1⟩; have hk1 : Kept W2 wG1 none := hKr.tr hq1; have c0x := (HBX.out.kept hq1).c0; have c1x := (HBX.out.kept hq1).c1; have c2x := (HBX.out.kept hq1).c2; have f1x := (HBX.out.kept hq1).f1; have r0x := (HBRr.out.kept hq1).c0; have r1x := (HBRr.out.kept hq1).c1; have r2x := (HBRr.out.kept hq1).c2; have y0x := (HBRr.out.kept hq1).f0; have y1x := (HBRr.out.kept hq1).f1; have y2x := (HBRr.out.kept hq1).f2))
            have hfin := (HBX.out.kept hq1)
            have q0 := hfin.c0
            have q1 := hfin.c1
            have q2 := hfin.c2
            have hres := (HBRr.out.kept hq1)
            have p0 := hres.c0
            have p1 := hres.c1
            have p2 := hres.c2
            have hsafe := SnS.safe (F := behindV S ⟨G, st, true⟩ L) (SnS.setOther (SnS.setOther (SnS.setOther (Ow8.keptR HSN.out hq1 (fun g e => (nomatch e))) (b := w.heap.size + 1 + 1) (i := 0) (by omega) (.slice a S.groups.length c5)) (b := w.heap.size + 1 + 1) (i := 1) (by omega) (.int .i64 (0))) (b := w.heap.size + 1 + 1) (i := 2) (by omega) (.bool false)) (by rw [HBH.out]) HRNG.out
            refine bodyPost_ret (v := .agg #[.slice a S.groups.length c5, .int .i64 (0), .bool false]) (by simp [results, Tryz.results30, go_sem, p0, p1, p2]) rfl ⟨a, c5, by rw [HV.out, HAL.out], hsafe.2, (fun b e => by have := SnS.own HSN.out b e; omega), ?_⟩
            have hb : Kept w _ none := HK.out.tr hk1
            exact ((hb.setNew (by show w.heap.size ≤ w.heap.size + 1 + 1; omega) _).setNew (by show w.heap.size ≤ w.heap.size + 1 + 1; omega) _).setNew (by show w.heap.size ≤ w.heap.size + 1 + 1; omega) _
      | false =>
        cases al with
        | true =>
          by_cases hp : 0 < st
          · have hp1 : 0 ≤ st - 1 := by omega
            have c0x := HBX.out.c0
            have c1x := HBX.out.c1
            have c2x := HBX.out.c2
            have f1x := HBX.out.f1
            have r0x := HBRr.out.c0
            have r1x := HBRr.out.c1
            have r2x := HBRr.out.c2
            have y0x := HBRr.out.f0
            have y1x := HBRr.out.f1
            have y2x := HBRr.out.f2
            have HV : Hid (startV S ⟨G, st, false⟩ L = worstM S) := by
              show _ = _
              rw [HSV.out]
              simp
            go_wp2_with (first | (go_at_call 37; have hkc : Kept W2 (wr.setCell ⟨w.heap.size + 1 + 1 + 1, 1, none⟩ (.int .i64 (st - 1))) none := (hKr.setNew (p := ⟨w.heap.size + 1 + 1 + 1, 1, none⟩) (by rw [HSZ.out]; exact Nat.le_refl _) (.int .i64 (st - 1))); refine (rgr8_any (HSB.out.sat.kept hkc) hs).mono ?_; rintro e wG2 ⟨rfl, hq2⟩; have hk2 : Kept W2 wG2 none := hkc.tr hq2; have c0z := ((HBX.out.set1 (.int .i64 (st - 1))).kept hq2).c0; have c1z := ((HBX.out.set1 (.int .i64 (st - 1))).kept hq2).c1; have c2z := ((HBX.out.set1 (.int .i64 (st - 1))).kept hq2).c2; have f1z := ((HBX.out.set1 (.int .i64 (st - 1))).kept hq2).f1; have r0z := ((HBRr.out.other (p := ⟨w.heap.size + 1 + 1 + 1, 1, none⟩) (by show w.heap.size + 1 + 1 + 1 ≠ w.heap.size + 1 + 1; omega) (.int .i64 (st - 1))).kept hq2).c0; have r1z := ((HBRr.out.other (p := ⟨w.heap.size + 1 + 1 + 1, 1, none⟩) (by show w.heap.size + 1 + 1 + 1 ≠ w.heap.size + 1 + 1; omega) (.int .i64 (st - 1))).kept hq2).c1; have r2z := ((HBRr.out.other (p := ⟨w.heap.size + 1 + 1 + 1, 1, none⟩) (by show w.heap.size + 1 + 1 + 1 ≠ w.heap.size + 1 + 1; omega) (.int .i64 (st - 1))).kept hq2).c2; have y0z := ((HBRr.out.other (p := ⟨w.heap.size + 1 + 1 + 1, 1, none⟩) (by show w.heap.size + 1 + 1 + 1 ≠ w.heap.size + 1 + 1; omega) (.int .i64 (st - 1))).kept hq2).f0; have y1z := ((HBRr.out.other (p := ⟨w.heap.size + 1 + 1 + 1, 1, none⟩) (by show w.heap.size + 1 + 1 + 1 ≠ w.heap.size + 1 + 1; omega) (.int .i64 (st - 1))).kept hq2).f1; have y2z := ((HBRr.out.other (p := ⟨w.heap.size + 1 + 1 + 1, 1, none⟩) (by show w.heap.size + 1 + 1 + 1 ≠ w.heap.size + 1 + 1; omega) (.int .i64 (st - 1))).kept hq2).f2))
            have hfin := (((HBX.out.set1 (.int .i64 (st - 1))).kept hq2).set1 (.int .i64 (worstM S)))
            have q0 := hfin.c0
            have q1 := hfin.c1
            have q2 := hfin.c2
            have hres := (((HBRr.out.other (p := ⟨w.heap.size + 1 + 1 + 1, 1, none⟩) (by show w.heap.size + 1 + 1 + 1 ≠ w.heap.size + 1 + 1; omega) (.int .i64 (st - 1))).kept hq2).other (p := ⟨w.heap.size + 1 + 1 + 1, 1, none⟩) (by show w.heap.size + 1 + 1 + 1 ≠ w.heap.size + 1 + 1; omega) (.int .i64 (worstM S)))
            have p0 := hres.c0
            have p1 := hres.c1
            have p2 := hres.c2
            have hsafe := SnS.safe (F := behindV S ⟨G, st, false⟩ L) (SnS.setOther (SnS.setOther (SnS.setOther (SnS.setOther (Ow8.keptR (SnS.setOther HSN.out (b := w.heap.size + 1 + 1 + 1) (i := 1) (by omega) (.int .i64 (st - 1))) hq2 (fun g e => (nomatch e))) (b := w.heap.size + 1 + 1 + 1) (i := 1) (by omega) (.int .i64 (worstM S))) (b := w.heap.size + 1 + 1) (i := 0) (by omega) (.slice a S.groups.length c5)) (b := w.heap.size + 1 + 1) (i := 1) (by omega) (.int .i64 (worstM S))) (b := w.heap.size + 1 + 1) (i := 2) (by omega) (.bool true)) (by rw [HBH.out]) HRNG.out
            refine bodyPost_ret (v := .agg #[.slice a S.groups.length c5, .int .i64 (worstM S), .bool true]) (by simp [results, Tryz.results30, go_sem, p0, p1, p2]) rfl ⟨a, c5, by rw [HV.out, HAL.out], hsafe.2, (fun b e => by have := SnS.own HSN.out b e; omega), ?_⟩
            have hb : Kept w _ none := HK.out.tr (hk2.setNew (p := ⟨w.heap.size + 1 + 1 + 1, 1, none⟩) (by rw [HSZ.out]; exact Nat.le_refl _) (.int .i64 (worstM S)))
            exact ((hb.setNew (by show w.heap.size ≤ w.heap.size + 1 + 1; omega) _).setNew (by show w.heap.size ≤ w.heap.size + 1 + 1; omega) _).setNew (by show w.heap.size ≤ w.heap.size + 1 + 1; omega) _
          · skip
            have c0x := HBX.out.c0
            have c1x := HBX.out.c1
            have c2x := HBX.out.c2
            have f1x := HBX.out.f1
            have r0x := HBRr.out.c0
            have r1x := HBRr.out.c1
            have r2x := HBRr.out.c2
            have y0x := HBRr.out.f0
            have y1x := HBRr.out.f1
            have y2x := HBRr.out.f2
            have HV : Hid (startV S ⟨G, st, false⟩ L = worstM S) := by
              show _ = _
              rw [HSV.out]
              simp
            go_wp2_with (first | (go_at_call 37; have hkc : Kept W2 wr none := hKr; refine (rgr8_any (HSB.out.sat.kept hkc) hs).mono ?_; rintro e wG2 ⟨rfl, hq2⟩; have hk2 : Kept W2 wG2 none := hkc.tr hq2; have c0z := (HBX.out.kept hq2).c0; have c1z := (HBX.out.kept hq2).c1; have c2z := (HBX.out.kept hq2).c2; have f1z := (HBX.out.kept hq2).f1; have r0z := (HBRr.out.kept hq2).c0; have r1z := (HBRr.out.kept hq2).c1; have r2z := (HBRr.out.kept hq2).c2; have y0z := (HBRr.out.kept hq2).f0; have y1z := (HBRr.out.kept hq2).f1; have y2z := (HBRr.out.kept hq2).f2))
            have hfin := ((HBX.out.kept hq2).set1 (.int .i64 (worstM S)))
            have q0 := hfin.c0
            have q1 := hfin.c1
            have q2 := hfin.c2
            have hres := ((HBRr.out.kept hq2).other (p := ⟨w.heap.size + 1 + 1 + 1, 1, none⟩) (by show w.heap.size + 1 + 1 + 1 ≠ w.heap.size + 1 + 1; omega) (.int .i64 (worstM S)))
            have p0 := hres.c0
            have p1 := hres.c1
            have p2 := hres.c2
            have hsafe := SnS.safe (F := behindV S ⟨G, st, false⟩ L) (SnS.setOther (SnS.setOther (SnS.setOther (SnS.setOther (Ow8.keptR HSN.out hq2 (fun g e => (nomatch e))) (b := w.heap.size + 1 + 1 + 1) (i := 1) (by omega) (.int .i64 (worstM S))) (b := w.heap.size + 1 + 1) (i := 0) (by omega) (.slice a S.groups.length c5)) (b := w.heap.size + 1 + 1) (i := 1) (by omega) (.int .i64 (worstM S))) (b := w.heap.size + 1 + 1) (i := 2) (by omega) (.bool true)) (by rw [HBH.out]) HRNG.out
            refine bodyPost_ret (v := .agg #[.slice a S.groups.length c5, .int .i64 (worstM S), .bool true]) (by simp [results, Tryz.results30, go_sem, p0, p1, p2]) rfl ⟨a, c5, by rw [HV.out, HAL.out], hsafe.2, (fun b e => by have := SnS.own HSN.out b e; omega), ?_⟩
            have hb : Kept w _ none := HK.out.tr (hk2.setNew (p := ⟨w.heap.size + 1 + 1 + 1, 1, none⟩) (by rw [HSZ.out]; exact Nat.le_refl _) (.int .i64 (worstM S)))
            exact ((hb.setNew (by show w.heap.size ≤ w.heap.size + 1 + 1; omega) _).setNew (by show w.heap.size ≤ w.heap.size + 1 + 1; omega) _).setNew (by show w.heap.size ≤ w.heap.size + 1 + 1; omega) _
        | false =>
          by_cases hp : 0 < st
          · have hp1 : 0 ≤ st - 1 := by omega
            have c0x := HBX.out.c0
            have c1x := HBX.out.c1
            have c2x := HBX.out.c2
            have f1x := HBX.out.f1
            have r0x := HBRr.out.c0
            have r1x := HBRr.out.c1
            have r2x := HBRr.out.c2
            have y0x := HBRr.out.f0
            have y1x := HBRr.out.f1
            have y2x := HBRr.out.f2
            have HV : Hid (startV S ⟨G, st, false⟩ L = st - 1) := by
              show _ = _
              rw [HSV.out]
              rw [if_neg (by simp), if_neg (by simp)]; omega
            go_wp2_with (fail)
            have hfin := (HBX.out.set1 (.int .i64 (st - 1)))
            have q0 := hfin.c0
            have q1 := hfin.c1
            have q2 := hfin.c2
            have hres := (HBRr.out.other (p := ⟨w.heap.size + 1 + 1 + 1, 1, none⟩) (by show w.heap.size + 1 + 1 + 1 ≠ w.heap.size + 1 + 1; omega) (.int .i64 (st - 1)))
            have p0 := hres.c0
            have p1 := hres.c1
            have p2 := hres.c2
            have hsafe := SnS.safe (F := behindV S ⟨G, st, false⟩ L) (SnS.setOther (SnS.setOther (SnS.setOther (SnS.setOther HSN.out (b := w.heap.size + 1 + 1 + 1) (i := 1) (by omega) (.int .i64 (st - 1))) (b := w.heap.size + 1 + 1) (i := 0) (by omega) (.slice a S.groups.length c5)) (b := w.heap.size + 1 + 1) (i := 1) (by omega) (.int .i64 (st - 1))) (b := w.heap.size + 1 + 1) (i := 2) (by omega) (.bool false)) (by rw [HBH.out]) HRNG.out
            refine bodyPost_ret (v := .agg #[.slice a S.groups.length c5, .int .i64 (st - 1), .bool false]) (by simp [results, Tryz.results30, go_sem, p0, p1, p2]) rfl ⟨a, c5, by rw [HV.out, HAL.out], hsafe.2, (fun b e => by have := SnS.own HSN.out b e; omega), ?_⟩
            have hb : Kept w _ none := HK.out.tr (hKr.setNew (p := ⟨w.heap.size + 1 + 1 + 1, 1, none⟩) (by rw [HSZ.out]; exact Nat.le_refl _) (.int .i64 (st - 1)))
            exact ((hb.setNew (by show w.heap.size ≤ w.heap.size + 1 + 1; omega) _).setNew (by show w.heap.size ≤ w.heap.size + 1 + 1; omega) _).setNew (by show w.heap.size ≤ w.heap.size + 1 + 1; omega) _
          · skip
            have c0x := HBX.out.c0
            have c1x := HBX.out.c1
            have c2x := HBX.out.c2
            have f1x := HBX.out.f1
            have r0x := HBRr.out.c0
            have r1x := HBRr.out.c1
            have r2x := HBRr.out.c2
            have y0x := HBRr.out.f0
            have y1x := HBRr.out.f1
            have y2x := HBRr.out.f2
            have HV : Hid (startV S ⟨G, st, false⟩ L = 0) := by
              show _ = _
              rw [HSV.out]
              rw [if_neg (by simp), if_neg (by simp)]; omega
            go_wp2_with (fail)
            have hfin := HBX.out
            have q0 := hfin.c0
            have q1 := hfin.c1
            have q2 := hfin.c2
            have hres := HBRr.out
            have p0 := hres.c0
            have p1 := hres.c1
            have p2 := hres.c2
            have hsafe := SnS.safe (F := behindV S ⟨G, st, false⟩ L) (SnS.setOther (SnS.setOther (SnS.setOther HSN.out (b := w.heap.size + 1 + 1) (i := 0) (by omega) (.slice a S.groups.length c5)) (b := w.heap.size + 1 + 1) (i := 1) (by omega) (.int .i64 (0))) (b := w.heap.size + 1 + 1) (i := 2) (by omega) (.bool false)) (by rw [HBH.out]) HRNG.out
            refine bodyPost_ret (v := .agg #[.slice a S.groups.length c5, .int .i64 (0), .bool false]) (by simp [results, Tryz.results30, go_sem, p0, p1, p2]) rfl ⟨a, c5, by rw [HV.out, HAL.out], hsafe.2, (fun b e => by have := SnS.own HSN.out b e; omega), ?_⟩
            have hb : Kept w _ none := HK.out.tr hKr
            exact ((hb.setNew (by show w.heap.size ≤ w.heap.size + 1 + 1; omega) _).setNew (by show w.heap.size ≤ w.heap.size + 1 + 1; omega) _).setNew (by show w.heap.size ≤ w.heap.size + 1 + 1; omega) _

end Go.Proofs.YtchjbagipbmcoaaGreatDoor

