/-
  LISTS OF DETECTORS in memory; THE CONTRACTS of eye.checkAll and eye.Well (made by a program).
-/
import Derived.Test.YtjfajdmifjbblaaDoorEyeN
import Derived.Test.YtjfajdmifjbblaaDoorEyeU
import Derived.Test.YtjfajdmifjbblaaDoorOwnL
namespace Go.Proofs.YtjfajdmifjbblaaDoor
open Go.RowKit Go.Lib Go.Deep
set_option linter.unusedVariables false
set_option linter.unusedSimpArgs false

def lk (L : List Lk) (i : Nat) : Lk := L.getD i Lk.zero
structure Lks (w : World) (a : Option Addr) (n : Nat) (L : List Lk) : Prop where
  size : L.length = n
  lie : Lie w a n 5 (fun i j => lkF (lk L i) j)
  typ : ∀ i, i < n → Typ (lk L i)
theorem Lks.kept {w w' : World} {a : Option Addr} {n : Nat} {L : List Lk} (h : Lks w a n L) (q : Kept w w' none) : Lks w' a n L := ⟨h.size, h.lie.kept q, h.typ⟩
theorem Lks.nil (w : World) (a : Option Addr) : Lks w a 0 [] := ⟨rfl, ⟨fun h => absurd h (by omega)⟩, fun i hi => absurd hi (by omega)⟩
/-- The cells of one of them. -/
theorem Lks.at_ {w : World} {a : Option Addr} {n : Nat} {L : List Lk} (h : Lks w a n L) {k : Nat} (hk : k < n) : ∃ b off, a = some ⟨b, off, none⟩ ∧ b < w.heap.size ∧ w.cell? ⟨b, off + k * 5, none⟩ = some (.bool (lk L k).up) ∧ w.cell? ⟨b, off + k * 5 + 1, none⟩ = some (.int .i64 (lk L k).same) ∧ w.cell? ⟨b, off + k * 5 + 2, none⟩ = some (.int .u64 (lk L k).turns) ∧ w.cell? ⟨b, off + k * 5 + 3, none⟩ = some (.bool (lk L k).bad) ∧ w.cell? ⟨b, off + k * 5 + 4, none⟩ = some (.int .i64 (lk L k).well) := by
  obtain ⟨b, off, e, hb, hc⟩ := h.lie.at_ (by omega)
  exact ⟨b, off, e, hb, hc k hk 0 (by omega), hc k hk 1 (by omega), hc k hk 2 (by omega), hc k hk 3 (by omega), hc k hk 4 (by omega)⟩
theorem Sat.eye {w : World} {X : Sa} {S : St} (h : Sat w X S) {k : Nat} (hk : k < S.eyes.length) : ∃ b off, X.e = some ⟨b, off, none⟩ ∧ b < w.heap.size ∧ w.cell? ⟨b, off + k * 4, none⟩ = some (.int .i64 (S.ey k).phase) ∧ w.cell? ⟨b, off + k * 4 + 1, none⟩ = some (.int .i64 (S.ey k).on) ∧ w.cell? ⟨b, off + k * 4 + 2, none⟩ = some (.int .i64 (S.ey k).off) ∧ w.cell? ⟨b, off + k * 4 + 3, none⟩ = some (.int .i64 (S.ey k).turns) := by
  obtain ⟨b, off, e, hb, hc⟩ := h.e.at_ (by omega)
  exact ⟨b, off, e, hb, hc k hk 0 (by omega), hc k hk 1 (by omega), hc k hk 2 (by omega), hc k hk 3 (by omega)⟩
def maysB (L : List Lk) : Bool := allB L.length (fun i => mayK (lk L i))
def allE (S : St) (L : List Lk) : Int := if siteB S = true then (if L.length = S.eyes.length then (if maysB L = true then 0 else 8) else 4) else 50
def allL (S : St) (L : List Lk) (U : Nat) : List Lk := (List.range L.length).map (fun i => stepK (S.ey i) S.heal (lk L i) (hasB U (i : Int)))
def welS (S : St) (L : List Lk) : Bool := welB (fun i => (S.ey i).phase) (fun i => !(lk L i).bad) L.length
theorem allE_zero {S : St} {L : List Lk} (h : allE S L = 0) : siteB S = true ∧ L.length = S.eyes.length ∧ maysB L = true := by
  unfold allE at h
  split at h
  · split at h
    · split at h
      · rename_i a b c; exact ⟨a, b, c⟩
      · omega
    · omega
  · omega
theorem allE_ok {S : St} {L : List Lk} (h1 : siteB S = true) (h2 : L.length = S.eyes.length) (h3 : maysB L = true) : allE S L = 0 := by unfold allE; rw [h1, if_pos rfl, if_pos h2, h3]; rfl
theorem allE_bad {S : St} {L : List Lk} (h1 : siteB S = true) (h2 : L.length = S.eyes.length) (h3 : maysB L = false) : allE S L = 8 := by unfold allE; rw [h1, if_pos rfl, if_pos h2, h3]; rfl
theorem allE_many {S : St} {L : List Lk} (h1 : siteB S = true) (h2 : ¬ L.length = S.eyes.length) : allE S L = 4 := by unfold allE; rw [h1, if_pos rfl, if_neg h2]
theorem allE_site {S : St} {L : List Lk} (h1 : siteB S = false) : allE S L = 50 := by unfold allE; rw [h1]; rfl
theorem phase_bd {S : St} (hf : EyeF S) : ∀ i, 0 ≤ (S.ey i).phase ∧ (S.ey i).phase < 32 := fun i => by
  by_cases hi : i < S.eyes.length
  · have := hf.ey i hi; have := hf.p; omega
  · have : S.ey i = e0 := by unfold St.ey; rw [List.getD_eq_getElem?_getD, List.getElem?_eq_none (by omega)]; rfl
    rw [this]
    exact ⟨by decide, by decide⟩
set_option maxRecDepth 100000 in
set_option maxHeartbeats 2000000 in
theorem echk_site {X : Sa} {S : St} {w : World} (h : Sat w X S) (hT : Tabb w) {a : Option Addr} {n c : Nat} {L : List Lk} (hA : Lks w a n L) (hc : Cap a n c) (hs : siteB S = false) : Calls Tryd.prog 32 #[siteV X S, .slice a n c] w fun e w' => e = .returned (.int .i64 50) ∧ Kept w w' none := by
  have hce : checkE S = 50 := by unfold checkE; rw [hs]; rfl
  have hkA : Kept w (w.alloc (.cells #[.int .i64 S.id, .slice X.g S.groups.length X.gc, .slice X.a S.apart.length X.ac, .slice X.b S.between.length X.bc, .slice X.p S.phases.length X.pc, .slice X.e S.eyes.length X.ec, .int .i64 S.watch, .int .i64 S.feed, .int .i64 S.heal, .int .i64 S.low, .int .i64 S.high, .slice X.l S.plans.length X.lc] 29)) none := Kept.alloc _ _ _ _ _
  have hsb := sbox_alloc h 29
  have HS := Hid.mk' (h.kept hkA)
  have HT := Hid.mk' (hT.kept hkA)
  have HA := Hid.mk' (hA.kept hkA)
  have hE9 : S.eyes.length ≤ 9223372036854775807 := by have := h.ek.room; have := h.ek.max; omega
  have hn9 : n ≤ 9223372036854775807 := by have := hc.room; have := hc.max; omega
  have HSZ := Hid.mk' hA.size
  obtain ⟨WA, hWA⟩ : ∃ WA, (w.alloc (.cells #[.int .i64 S.id, .slice X.g S.groups.length X.gc, .slice X.a S.apart.length X.ac, .slice X.b S.between.length X.bc, .slice X.p S.phases.length X.pc, .slice X.e S.eyes.length X.ec, .int .i64 S.watch, .int .i64 S.feed, .int .i64 S.heal, .int .i64 S.low, .int .i64 S.high, .slice X.l S.plans.length X.lc] 29)) = WA := ⟨_, rfl⟩
  rw [hWA] at hkA hsb HS HT HA
  have hlA : w.heap.size < WA.heap.size := hsb.lt
  have HK := Hid.mk' hkA
  have HSB := Hid.mk' hsb
  have hK0 := Kept.refl WA none
  clear h hT hkA hsb hA
  have s0_ : ∀ w', Kept WA w' none → w'.cell? ⟨w.heap.size, 0, none⟩ = some (.int .i64 S.id) := fun w' q => (HSB.out.kept q).c0
  have s1_ : ∀ w', Kept WA w' none → w'.cell? ⟨w.heap.size, 1, none⟩ = some (.slice X.g S.groups.length X.gc) := fun w' q => (HSB.out.kept q).c1
  have s2_ : ∀ w', Kept WA w' none → w'.cell? ⟨w.heap.size, 2, none⟩ = some (.slice X.a S.apart.length X.ac) := fun w' q => (HSB.out.kept q).c2
  have s3_ : ∀ w', Kept WA w' none → w'.cell? ⟨w.heap.size, 3, none⟩ = some (.slice X.b S.between.length X.bc) := fun w' q => (HSB.out.kept q).c3
  have s4_ : ∀ w', Kept WA w' none → w'.cell? ⟨w.heap.size, 4, none⟩ = some (.slice X.p S.phases.length X.pc) := fun w' q => (HSB.out.kept q).c4
  have s5_ : ∀ w', Kept WA w' none → w'.cell? ⟨w.heap.size, 5, none⟩ = some (.slice X.e S.eyes.length X.ec) := fun w' q => (HSB.out.kept q).c5
  have s6_ : ∀ w', Kept WA w' none → w'.cell? ⟨w.heap.size, 6, none⟩ = some (.int .i64 S.watch) := fun w' q => (HSB.out.kept q).c6
  have s7_ : ∀ w', Kept WA w' none → w'.cell? ⟨w.heap.size, 7, none⟩ = some (.int .i64 S.feed) := fun w' q => (HSB.out.kept q).c7
  have s8_ : ∀ w', Kept WA w' none → w'.cell? ⟨w.heap.size, 8, none⟩ = some (.int .i64 S.heal) := fun w' q => (HSB.out.kept q).c8
  have s9_ : ∀ w', Kept WA w' none → w'.cell? ⟨w.heap.size, 9, none⟩ = some (.int .i64 S.low) := fun w' q => (HSB.out.kept q).c9
  have s10_ : ∀ w', Kept WA w' none → w'.cell? ⟨w.heap.size, 10, none⟩ = some (.int .i64 S.high) := fun w' q => (HSB.out.kept q).c10
  have s11_ : ∀ w', Kept WA w' none → w'.cell? ⟨w.heap.size, 11, none⟩ = some (.slice X.l S.plans.length X.lc) := fun w' q => (HSB.out.kept q).c11
  go_enter Tryd.func32, Tryd.ntmps32
  go_wp2_with (first | rw [hWA] | (go_at_call 19; have hx := check_any HS.out HT.out; rw [hce] at hx; refine hx.mono ?_; rintro e wC ⟨rfl, hkC⟩; have hKC : Kept WA wC none := hkC; clear hx))
  go_ret
  exact ⟨rfl, HK.out.tr hKC⟩
set_option maxRecDepth 100000 in
set_option maxHeartbeats 2000000 in
theorem echk_many {X : Sa} {S : St} {w : World} (h : Sat w X S) (hT : Tabb w) {a : Option Addr} {n c : Nat} {L : List Lk} (hA : Lks w a n L) (hc : Cap a n c) (hs : siteB S = true) (hl : ¬ n = S.eyes.length) : Calls Tryd.prog 32 #[siteV X S, .slice a n c] w fun e w' => e = .returned (.int .i64 4) ∧ Kept w w' none := by
  have hce : checkE S = 0 := by unfold checkE; rw [hs]; rfl
  have hnb : ((n : Int) != (S.eyes.length : Int)) = true := by simp; omega
  clear hl
  have hkA : Kept w (w.alloc (.cells #[.int .i64 S.id, .slice X.g S.groups.length X.gc, .slice X.a S.apart.length X.ac, .slice X.b S.between.length X.bc, .slice X.p S.phases.length X.pc, .slice X.e S.eyes.length X.ec, .int .i64 S.watch, .int .i64 S.feed, .int .i64 S.heal, .int .i64 S.low, .int .i64 S.high, .slice X.l S.plans.length X.lc] 29)) none := Kept.alloc _ _ _ _ _
  have hsb := sbox_alloc h 29
  have HS := Hid.mk' (h.kept hkA)
  have HT := Hid.mk' (hT.kept hkA)
  have HA := Hid.mk' (hA.kept hkA)
  have hE9 : S.eyes.length ≤ 9223372036854775807 := by have := h.ek.room; have := h.ek.max; omega
  have hn9 : n ≤ 9223372036854775807 := by have := hc.room; have := hc.max; omega
  have HSZ := Hid.mk' hA.size
  obtain ⟨WA, hWA⟩ : ∃ WA, (w.alloc (.cells #[.int .i64 S.id, .slice X.g S.groups.length X.gc, .slice X.a S.apart.length X.ac, .slice X.b S.between.length X.bc, .slice X.p S.phases.length X.pc, .slice X.e S.eyes.length X.ec, .int .i64 S.watch, .int .i64 S.feed, .int .i64 S.heal, .int .i64 S.low, .int .i64 S.high, .slice X.l S.plans.length X.lc] 29)) = WA := ⟨_, rfl⟩
  rw [hWA] at hkA hsb HS HT HA
  have hlA : w.heap.size < WA.heap.size := hsb.lt
  have HK := Hid.mk' hkA
  have HSB := Hid.mk' hsb
  have hK0 := Kept.refl WA none
  clear h hT hkA hsb hA
  have s0_ : ∀ w', Kept WA w' none → w'.cell? ⟨w.heap.size, 0, none⟩ = some (.int .i64 S.id) := fun w' q => (HSB.out.kept q).c0
  have s1_ : ∀ w', Kept WA w' none → w'.cell? ⟨w.heap.size, 1, none⟩ = some (.slice X.g S.groups.length X.gc) := fun w' q => (HSB.out.kept q).c1
  have s2_ : ∀ w', Kept WA w' none → w'.cell? ⟨w.heap.size, 2, none⟩ = some (.slice X.a S.apart.length X.ac) := fun w' q => (HSB.out.kept q).c2
  have s3_ : ∀ w', Kept WA w' none → w'.cell? ⟨w.heap.size, 3, none⟩ = some (.slice X.b S.between.length X.bc) := fun w' q => (HSB.out.kept q).c3
  have s4_ : ∀ w', Kept WA w' none → w'.cell? ⟨w.heap.size, 4, none⟩ = some (.slice X.p S.phases.length X.pc) := fun w' q => (HSB.out.kept q).c4
  have s5_ : ∀ w', Kept WA w' none → w'.cell? ⟨w.heap.size, 5, none⟩ = some (.slice X.e S.eyes.length X.ec) := fun w' q => (HSB.out.kept q).c5
  have s6_ : ∀ w', Kept WA w' none → w'.cell? ⟨w.heap.size, 6, none⟩ = some (.int .i64 S.watch) := fun w' q => (HSB.out.kept q).c6
  have s7_ : ∀ w', Kept WA w' none → w'.cell? ⟨w.heap.size, 7, none⟩ = some (.int .i64 S.feed) := fun w' q => (HSB.out.kept q).c7
  have s8_ : ∀ w', Kept WA w' none → w'.cell? ⟨w.heap.size, 8, none⟩ = some (.int .i64 S.heal) := fun w' q => (HSB.out.kept q).c8
  have s9_ : ∀ w', Kept WA w' none → w'.cell? ⟨w.heap.size, 9, none⟩ = some (.int .i64 S.low) := fun w' q => (HSB.out.kept q).c9
  have s10_ : ∀ w', Kept WA w' none → w'.cell? ⟨w.heap.size, 10, none⟩ = some (.int .i64 S.high) := fun w' q => (HSB.out.kept q).c10
  have s11_ : ∀ w', Kept WA w' none → w'.cell? ⟨w.heap.size, 11, none⟩ = some (.slice X.l S.plans.length X.lc) := fun w' q => (HSB.out.kept q).c11
  go_enter Tryd.func32, Tryd.ntmps32
  go_wp2_with (first | rw [hWA] | (go_at_call 19; have hx := check_any HS.out HT.out; rw [hce] at hx; refine hx.mono ?_; rintro e wC ⟨rfl, hkC⟩; have hKC : Kept WA wC none := hkC; clear hx))
  go_ret
  exact ⟨rfl, HK.out.tr hKC⟩
set_option maxRecDepth 100000 in
set_option maxHeartbeats 2000000 in
theorem echk_go {X : Sa} {S : St} {w : World} (h : Sat w X S) (hT : Tabb w) {a : Option Addr} {n c : Nat} {L : List Lk} (hA : Lks w a n L) (hc : Cap a n c) (hs : siteB S = true) (hl : n = S.eyes.length) (V : Int) (hV : V = if maysB L = true then 0 else 8) : Calls Tryd.prog 32 #[siteV X S, .slice a n c] w fun e w' => e = .returned (.int .i64 V) ∧ Kept w w' none := by
  have HV := Hid.mk' hV
  clear hV
  have hce : checkE S = 0 := by unfold checkE; rw [hs]; rfl
  have hnb : ((n : Int) != (S.eyes.length : Int)) = false := by simp; omega
  clear hl
  have hkA : Kept w (w.alloc (.cells #[.int .i64 S.id, .slice X.g S.groups.length X.gc, .slice X.a S.apart.length X.ac, .slice X.b S.between.length X.bc, .slice X.p S.phases.length X.pc, .slice X.e S.eyes.length X.ec, .int .i64 S.watch, .int .i64 S.feed, .int .i64 S.heal, .int .i64 S.low, .int .i64 S.high, .slice X.l S.plans.length X.lc] 29)) none := Kept.alloc _ _ _ _ _
  have hsb := sbox_alloc h 29
  have HS := Hid.mk' (h.kept hkA)
  have HT := Hid.mk' (hT.kept hkA)
  have HA := Hid.mk' (hA.kept hkA)
  have hE9 : S.eyes.length ≤ 9223372036854775807 := by have := h.ek.room; have := h.ek.max; omega
  have hn9 : n ≤ 9223372036854775807 := by have := hc.room; have := hc.max; omega
  have HSZ := Hid.mk' hA.size
  obtain ⟨WA, hWA⟩ : ∃ WA, (w.alloc (.cells #[.int .i64 S.id, .slice X.g S.groups.length X.gc, .slice X.a S.apart.length X.ac, .slice X.b S.between.length X.bc, .slice X.p S.phases.length X.pc, .slice X.e S.eyes.length X.ec, .int .i64 S.watch, .int .i64 S.feed, .int .i64 S.heal, .int .i64 S.low, .int .i64 S.high, .slice X.l S.plans.length X.lc] 29)) = WA := ⟨_, rfl⟩
  rw [hWA] at hkA hsb HS HT HA
  have hlA : w.heap.size < WA.heap.size := hsb.lt
  have HK := Hid.mk' hkA
  have HSB := Hid.mk' hsb
  have hK0 := Kept.refl WA none
  clear h hT hkA hsb hA
  have s0_ : ∀ w', Kept WA w' none → w'.cell? ⟨w.heap.size, 0, none⟩ = some (.int .i64 S.id) := fun w' q => (HSB.out.kept q).c0
  have s1_ : ∀ w', Kept WA w' none → w'.cell? ⟨w.heap.size, 1, none⟩ = some (.slice X.g S.groups.length X.gc) := fun w' q => (HSB.out.kept q).c1
  have s2_ : ∀ w', Kept WA w' none → w'.cell? ⟨w.heap.size, 2, none⟩ = some (.slice X.a S.apart.length X.ac) := fun w' q => (HSB.out.kept q).c2
  have s3_ : ∀ w', Kept WA w' none → w'.cell? ⟨w.heap.size, 3, none⟩ = some (.slice X.b S.between.length X.bc) := fun w' q => (HSB.out.kept q).c3
  have s4_ : ∀ w', Kept WA w' none → w'.cell? ⟨w.heap.size, 4, none⟩ = some (.slice X.p S.phases.length X.pc) := fun w' q => (HSB.out.kept q).c4
  have s5_ : ∀ w', Kept WA w' none → w'.cell? ⟨w.heap.size, 5, none⟩ = some (.slice X.e S.eyes.length X.ec) := fun w' q => (HSB.out.kept q).c5
  have s6_ : ∀ w', Kept WA w' none → w'.cell? ⟨w.heap.size, 6, none⟩ = some (.int .i64 S.watch) := fun w' q => (HSB.out.kept q).c6
  have s7_ : ∀ w', Kept WA w' none → w'.cell? ⟨w.heap.size, 7, none⟩ = some (.int .i64 S.feed) := fun w' q => (HSB.out.kept q).c7
  have s8_ : ∀ w', Kept WA w' none → w'.cell? ⟨w.heap.size, 8, none⟩ = some (.int .i64 S.heal) := fun w' q => (HSB.out.kept q).c8
  have s9_ : ∀ w', Kept WA w' none → w'.cell? ⟨w.heap.size, 9, none⟩ = some (.int .i64 S.low) := fun w' q => (HSB.out.kept q).c9
  have s10_ : ∀ w', Kept WA w' none → w'.cell? ⟨w.heap.size, 10, none⟩ = some (.int .i64 S.high) := fun w' q => (HSB.out.kept q).c10
  have s11_ : ∀ w', Kept WA w' none → w'.cell? ⟨w.heap.size, 11, none⟩ = some (.slice X.l S.plans.length X.lc) := fun w' q => (HSB.out.kept q).c11
  go_enter Tryd.func32, Tryd.ntmps32
  go_wp2_with (first | rw [hWA] | (go_at_call 19; have hx := check_any HS.out HT.out; rw [hce] at hx; refine hx.mono ?_; rintro e wC ⟨rfl, hkC⟩; have hKC : Kept WA wC none := hkC; clear hx))
  go_loopw [7, 21] (fun _ iv wr => ∃ k : Nat, k ≤ n ∧ iv = .int .i64 k ∧ Kept WA wr none ∧ ∀ j, j < k → mayK (lk L j) = true) (fun _ iv _ => n - (intOf iv).toNat)
  case atStart => exact ⟨0, by omega, rfl, hKC, fun j hj => by omega⟩
  case round =>
    obtain ⟨k, hk, rfl, hkr, hno⟩ := hrel
    have HNO := Hid.mk' hno
    clear hno
    by_cases hlt : k < n
    · obtain ⟨b, off, ea, hb, c0, c1, c2, c3, c4⟩ := (HA.out.kept hkr).at_ hlt
      subst ea
      cases hm : mayK (lk L k)
      · have HF : Hid (maysB L = false) := by show maysB L = false; exact allB_no (by rw [HSZ.out]; exact hlt) hm
        have HM := Hid.mk' hm
        clear hm
        generalize lk L k = x at *
        go_wp2_with (go_at_call 53; refine (emay_any x _).mono ?_; rw [HM.out]; rintro e wM ⟨rfl, hkM⟩)
        go_ret
        exact ⟨by rw [HV.out, HF.out]; rfl, (HK.out.tr (hkr.tr (by exact (by (repeat (first | exact Kept.refl _ _ | assumption | (refine Kept.setNew ?_ (by first | omega | (simp <;> omega)) _) | (refine Kept.tr ?_ (Kept.alloc _ _ _ _ _)) | (refine Kept.tr ?_ (Kept.drew _ _)))))))).tr hkM⟩
      · have HN2 : Hid (∀ j, j < k + 1 → mayK (lk L j) = true) := fun j hj => by
          by_cases ej : j = k
          · rw [ej]; exact hm
          · exact HNO.out j (by omega)
        have HM := Hid.mk' hm
        clear hm
        generalize lk L k = x at *
        go_wp2_with (go_at_call 53; refine (emay_any x _).mono ?_; rw [HM.out]; rintro e wM ⟨rfl, hkM⟩)
        go_roundw
        case rel => exact ⟨k + 1, by omega, by go_num, (hkr.tr (by exact (by (repeat (first | exact Kept.refl _ _ | assumption | (refine Kept.setNew ?_ (by first | omega | (simp <;> omega)) _) | (refine Kept.tr ?_ (Kept.alloc _ _ _ _ _)) | (refine Kept.tr ?_ (Kept.drew _ _))))))).tr hkM, HN2.out⟩
        case measure => simp [intOf]; omega
    · have HF : Hid (maysB L = true) := by show maysB L = true; exact allB_iff.2 (fun j hj => HNO.out j (by have := HSZ.out; omega))
      go_wp2
      go_ret
      exact ⟨by rw [HV.out, HF.out]; rfl, HK.out.tr hkr⟩
theorem echk_any {X : Sa} {S : St} {w : World} (h : Sat w X S) (hT : Tabb w) {a : Option Addr} {n c : Nat} {L : List Lk} (hA : Lks w a n L) (hc : Cap a n c) : Calls Tryd.prog 32 #[siteV X S, .slice a n c] w fun e w' => e = .returned (.int .i64 (allE S L)) ∧ Kept w w' none := by
  cases hs : siteB S
  · rw [allE_site hs]; exact echk_site h hT hA hc hs
  by_cases hl : n = S.eyes.length
  · have e : allE S L = if maysB L = true then 0 else 8 := by unfold allE; rw [hs, if_pos rfl, if_pos (by rw [hA.size]; exact hl)]
    rw [e]
    exact echk_go h hT hA hc hs hl _ rfl
  · rw [allE_many hs (by rw [hA.size]; exact hl)]
    exact echk_many h hT hA hc hs hl
set_option maxRecDepth 100000 in
set_option maxHeartbeats 2000000 in
theorem ewell_no {X : Sa} {S : St} {w : World} (h : Sat w X S) (hT : Tabb w) {a : Option Addr} {n c : Nat} {L : List Lk} (hA : Lks w a n L) (hc : Cap a n c) (E : Int) (he : allE S L = E) (h0 : E ≠ 0) : Calls Tryd.prog 20 #[siteV X S, .slice a n c] w fun e w' => e = .returned (.tuple #[.bool false, .int .i64 E]) ∧ Kept w w' none := by
  have HE := Hid.mk' he
  have hEb : (E != 0) = true := by simpa using h0
  clear he
  have hkA : Kept w (w.alloc (.cells #[.int .i64 S.id, .slice X.g S.groups.length X.gc, .slice X.a S.apart.length X.ac, .slice X.b S.between.length X.bc, .slice X.p S.phases.length X.pc, .slice X.e S.eyes.length X.ec, .int .i64 S.watch, .int .i64 S.feed, .int .i64 S.heal, .int .i64 S.low, .int .i64 S.high, .slice X.l S.plans.length X.lc] 29)) none := Kept.alloc _ _ _ _ _
  have hsb := sbox_alloc h 29
  have HS := Hid.mk' (h.kept hkA)
  have HT := Hid.mk' (hT.kept hkA)
  have HA := Hid.mk' (hA.kept hkA)
  have hE9 : S.eyes.length ≤ 9223372036854775807 := by have := h.ek.room; have := h.ek.max; omega
  have hn9 : n ≤ 9223372036854775807 := by have := hc.room; have := hc.max; omega
  have HSZ := Hid.mk' hA.size
  obtain ⟨WA, hWA⟩ : ∃ WA, (w.alloc (.cells #[.int .i64 S.id, .slice X.g S.groups.length X.gc, .slice X.a S.apart.length X.ac, .slice X.b S.between.length X.bc, .slice X.p S.phases.length X.pc, .slice X.e S.eyes.length X.ec, .int .i64 S.watch, .int .i64 S.feed, .int .i64 S.heal, .int .i64 S.low, .int .i64 S.high, .slice X.l S.plans.length X.lc] 29)) = WA := ⟨_, rfl⟩
  rw [hWA] at hkA hsb HS HT HA
  have hlA : w.heap.size < WA.heap.size := hsb.lt
  have HK := Hid.mk' hkA
  have HSB := Hid.mk' hsb
  have hK0 := Kept.refl WA none
  clear h hT hkA hsb hA
  have s0_ : ∀ w', Kept WA w' none → w'.cell? ⟨w.heap.size, 0, none⟩ = some (.int .i64 S.id) := fun w' q => (HSB.out.kept q).c0
  have s1_ : ∀ w', Kept WA w' none → w'.cell? ⟨w.heap.size, 1, none⟩ = some (.slice X.g S.groups.length X.gc) := fun w' q => (HSB.out.kept q).c1
  have s2_ : ∀ w', Kept WA w' none → w'.cell? ⟨w.heap.size, 2, none⟩ = some (.slice X.a S.apart.length X.ac) := fun w' q => (HSB.out.kept q).c2
  have s3_ : ∀ w', Kept WA w' none → w'.cell? ⟨w.heap.size, 3, none⟩ = some (.slice X.b S.between.length X.bc) := fun w' q => (HSB.out.kept q).c3
  have s4_ : ∀ w', Kept WA w' none → w'.cell? ⟨w.heap.size, 4, none⟩ = some (.slice X.p S.phases.length X.pc) := fun w' q => (HSB.out.kept q).c4
  have s5_ : ∀ w', Kept WA w' none → w'.cell? ⟨w.heap.size, 5, none⟩ = some (.slice X.e S.eyes.length X.ec) := fun w' q => (HSB.out.kept q).c5
  have s6_ : ∀ w', Kept WA w' none → w'.cell? ⟨w.heap.size, 6, none⟩ = some (.int .i64 S.watch) := fun w' q => (HSB.out.kept q).c6
  have s7_ : ∀ w', Kept WA w' none → w'.cell? ⟨w.heap.size, 7, none⟩ = some (.int .i64 S.feed) := fun w' q => (HSB.out.kept q).c7
  have s8_ : ∀ w', Kept WA w' none → w'.cell? ⟨w.heap.size, 8, none⟩ = some (.int .i64 S.heal) := fun w' q => (HSB.out.kept q).c8
  have s9_ : ∀ w', Kept WA w' none → w'.cell? ⟨w.heap.size, 9, none⟩ = some (.int .i64 S.low) := fun w' q => (HSB.out.kept q).c9
  have s10_ : ∀ w', Kept WA w' none → w'.cell? ⟨w.heap.size, 10, none⟩ = some (.int .i64 S.high) := fun w' q => (HSB.out.kept q).c10
  have s11_ : ∀ w', Kept WA w' none → w'.cell? ⟨w.heap.size, 11, none⟩ = some (.slice X.l S.plans.length X.lc) := fun w' q => (HSB.out.kept q).c11
  go_enter Tryd.func20, Tryd.ntmps20
  go_wp2_with (first | rw [hWA] | (go_at_call 32; have hx := echk_any (HS.out) (HT.out) HA.out hc; rw [HE.out] at hx; refine hx.mono ?_; rintro e wC ⟨rfl, hkC⟩; have hKC : Kept WA wC none := hkC; clear hx))
  go_ret2
  exact ⟨rfl, HK.out.tr hKC⟩

end Go.Proofs.YtjfajdmifjbblaaDoor
