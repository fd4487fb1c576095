/-
  Texts joined: some of those that the proofs of this seat stand on.
-/
import Derived.Test.YtchjbagipbmcoaaGreatDoorRefB8J
import Derived.Test.YtchjbagipbmcoaaGreatDoorRefK2
/-
  THE DOCUMENT'S Shown, May of layer 8 (made by a program).
-/
namespace Go.Proofs.YtchjbagipbmcoaaGreatDoor
open Go.RowKit Go.Lib Go.Deep
set_option linter.unusedVariables false
set_option linter.unusedSimpArgs false

/-- Bytes of one's own. -/
abbrev BtS (w : World) (base : Nat) (v : Value) (l : List Nat) : Prop := Ow8 5 1 (fun (x : Nat) (_ : Nat) => Value.int .u8 (x : Int)) 0 w base v l
theorem BtS.grow {w : World} {base : Nat} {v : Value} {l : List Nat} (h : BtS w base v l) (x : Nat) (hn : l.length ≤ 900) (hb : base ≤ w.heap.size) :
    ∃ a' c' w', (Builtin.append_ #[36, 36] 36 #[v, .slice (some ⟨w.heap.size, 0, none⟩) 1 1]).run Tryz.prog (w.alloc (.cells #[.int .u8 (x : Int)] 5)) = .ok (.slice a' (l.length + 1) c') w' ∧ BtS w' base (.slice a' (l.length + 1) c') (l ++ [x]) ∧ Kept w w' v.ownBlock := by
  obtain ⟨i, hi, hz, hs, hby⟩ := info_parts Tryz.infoByte
  exact Ow8.grow h x (cs := #[.int .u8 (x : Int)]) (fun j hj => by
    have : j = 0 := by omega
    subst this
    rfl) Tryz.underlying36 hi hz hs hby rfl (by omega) (by omega) (fun j => rfl) hn hb
theorem BtS.by {w : World} {base : Nat} {a : Option Addr} {n c : Nat} {l : List Nat} (h : BtS w base (.slice a n c) l) (hl : l.length ≤ 1000) (h8 : ∀ x ∈ l, x < 256) : By w a n l := by
  obtain ⟨a', c', e, h1, h2, _⟩ := Ow8.lie h (by omega)
  injection e with e1 e2 e3
  subst e1 e2 e3
  exact ⟨rfl, by omega, h8, fun hp => h1.one hp⟩
set_option maxRecDepth 100000 in
set_option maxHeartbeats 4000000 in
theorem rshown_any {w : World} {a : Option Addr} {c : Nat} {F : Sf} (hF : SafeAt w a c F) (hl : F.groups.length ≤ 900) : Calls Tryz.prog 83 #[.agg #[.slice a F.groups.length c, .int .i64 F.start, .bool F.flashed]] w fun e w' => ∃ a' c', e = .returned (.slice a' F.groups.length c') ∧ By w' a' F.groups.length (shown F) ∧ Kept w w' none := by
  have hcr := hF.cap.room
  have hcm := hF.cap.max
  have k1 : Kept w (w.alloc (.cells #[.slice a F.groups.length c, .int .i64 F.start, .bool F.flashed] 32)) none := Kept.alloc _ _ _ _ _
  have b1 := box_alloc w (.slice a F.groups.length c) (.int .i64 F.start) (.bool F.flashed) 32
  have hsz : (w.alloc (.cells #[.slice a F.groups.length c, .int .i64 F.start, .bool F.flashed] 32)).heap.size = w.heap.size + 1 := by simp
  obtain ⟨W1, hW1⟩ : ∃ W1, w.alloc (.cells #[.slice a F.groups.length c, .int .i64 F.start, .bool F.flashed] 32) = W1 := ⟨_, rfl⟩
  rw [hW1] at k1 b1 hsz
  have x0_ : ∀ w', Kept W1 w' none → w'.cell? ⟨w.heap.size, 0, none⟩ = some (.slice a F.groups.length c) := fun w' q => cell_kept0 b1.c0 q
  have H1 := Hid.mk' (hF.kept k1)
  have HR := Hid.mk' hF.rng
  have HK := Hid.mk' k1
  have HSZ := Hid.mk' hsz
  clear hF k1 b1 hsz
  go_enter Tryz.func83, Tryz.ntmps83
  go_wp2_with (first | rw [hW1])
  go_loopw [3, 4] (fun v i wr => ∃ k : Nat, k ≤ F.groups.length ∧ i = .int .i64 k ∧ Kept W1 wr none ∧ ∃ a' c', v = .slice a' k c' ∧ BtS wr (w.heap.size + 1) (.slice a' k c') ((shown F).take k) ∧ w.heap.size + 1 ≤ wr.heap.size) (fun _ i _ => F.groups.length - (intOf i).toNat)
  case atStart => exact ⟨0, by omega, rfl, Kept.refl _ _, none, 0, rfl, Ow8.nil .., by rw [HSZ.out]; exact Nat.le_refl _⟩
  case round =>
    obtain ⟨k, hk, rfl, hkw, a5, c5, rfl, hbt, hszw⟩ := hrel
    have x0 := x0_ _ hkw
    by_cases hlt : k < F.groups.length
    · obtain ⟨bf, off, rfl, _, g0, _, _⟩ := (H1.out.kept hkw).at_ hlt
      have htl : ((shown F).take k).length = k := by rw [List.length_take, shown_len]; omega
      obtain ⟨a6, c6, w6, hr6, hL6, hk6⟩ := BtS.grow hbt (F.g k).asp (by omega) hszw
      rw [htl] at hr6 hL6
      have htk : (shown F).take (k + 1) = (shown F).take k ++ [(F.g k).asp] := by
        rw [← shown_lg hlt]
        have h2 : k < (shown F).length := by rw [shown_len]; exact hlt
        rw [List.take_succ_eq_append_getElem h2]
        simp [lg, h2]
      have hown := Ow8.lt hbt
      have HR6 := Hid.mk' hr6
      have HL6 := Hid.mk' hL6
      have HTK := Hid.mk' htk
      have HK6 : Hid (Kept W1 w6 none) := hkw.newRow hk6 (fun i e => by have := (hown i e).1; rw [HSZ.out]; omega)
      have hs6 := hk6.size
      have hs7 : w.heap.size + 1 ≤ w6.heap.size := by omega
      clear hr6 hL6 htk hown hk6 hs6 hbt htl
      generalize (F.g k).asp = y at *
      go_wp2_with (at_builtin; refine wpList_app8 (by rfl) _ _ _ (by rfl) (by rfl) (by rfl) HR6.out ?_)
      go_roundw
      case rel => exact ⟨k + 1, by omega, by go_num, HK6.out, a6, c6, rfl, by rw [HTK.out]; exact HL6.out, hs7⟩
      case measure => simp [intOf]; omega
    · have e : k = F.groups.length := by omega
      have htk : (shown F).take k = shown F := List.take_of_length_le (by rw [shown_len]; omega)
      rw [htk] at hbt
      have hby := BtS.by hbt (by rw [shown_len]; omega) (fun x hx => by
        unfold shown at hx
        obtain ⟨s, hs, rfl⟩ := List.mem_map.1 hx
        exact (HR.out s hs).1)
      have HBY := Hid.mk' hby
      clear hbt hby htk
      subst e
      go_wp2
      go_ret
      exact ⟨a5, c5, rfl, HBY.out, HK.out.tr hkw⟩
set_option maxRecDepth 100000 in
set_option maxHeartbeats 1000000 in
theorem rmay8_len {w : World} {X : Sa} {S : St} {a : Option Addr} {c : Nat} {F : Sf} (h : Sat w X S) (hF : SafeAt w a c F) (hl : F.groups.length ≤ 900) (hb : F.groups.length ≠ S.groups.length) : Calls Tryz.prog 49 #[siteV X S, .agg #[.slice a F.groups.length c, .int .i64 F.start, .bool F.flashed]] w fun e w' => e = .returned (.bool false) ∧ Kept w w' none := by
  have hbb : ((F.groups.length : Int) != (S.groups.length : Int)) = true := by simp; omega
  have k1 : Kept w (w.alloc (.cells #[.int .i64 S.id, .slice X.g S.groups.length X.gc, .slice X.a S.apart.length X.ac, .slice X.b S.between.length X.bc, .slice X.p S.phases.length X.pc, .slice X.e S.eyes.length X.ec, .int .i64 S.watch, .int .i64 S.feed, .int .i64 S.heal, .int .i64 S.low, .int .i64 S.high, .slice X.l S.plans.length X.lc] 29)) none := Kept.alloc _ _ _ _ _
  have hsb := sbox_alloc h 29
  have hsz : (w.alloc (.cells #[.int .i64 S.id, .slice X.g S.groups.length X.gc, .slice X.a S.apart.length X.ac, .slice X.b S.between.length X.bc, .slice X.p S.phases.length X.pc, .slice X.e S.eyes.length X.ec, .int .i64 S.watch, .int .i64 S.feed, .int .i64 S.heal, .int .i64 S.low, .int .i64 S.high, .slice X.l S.plans.length X.lc] 29)).heap.size = w.heap.size + 1 := by simp
  obtain ⟨W1, hW1⟩ : ∃ W1, w.alloc (.cells #[.int .i64 S.id, .slice X.g S.groups.length X.gc, .slice X.a S.apart.length X.ac, .slice X.b S.between.length X.bc, .slice X.p S.phases.length X.pc, .slice X.e S.eyes.length X.ec, .int .i64 S.watch, .int .i64 S.feed, .int .i64 S.heal, .int .i64 S.low, .int .i64 S.high, .slice X.l S.plans.length X.lc] 29) = W1 := ⟨_, rfl⟩
  rw [hW1] at k1 hsb hsz
  have k2 : Kept W1 (W1.alloc (.cells #[.slice a F.groups.length c, .int .i64 F.start, .bool F.flashed] 32)) none := Kept.alloc _ _ _ _ _
  have bR := box_alloc W1 (.slice a F.groups.length c) (.int .i64 F.start) (.bool F.flashed) 32
  obtain ⟨W2, hW2⟩ : ∃ W2, W1.alloc (.cells #[.slice a F.groups.length c, .int .i64 F.start, .bool F.flashed] 32) = W2 := ⟨_, rfl⟩
  rw [hW2] at k2 bR
  rw [hsz] at bR
  have HSB := Hid.mk' (hsb.kept k2)
  have HBR := Hid.mk' bR
  have HK := Hid.mk' (k1.tr k2)
  have HF := Hid.mk' (hF.kept (k1.tr k2))
  have x0 := bR.c0
  have x1 := bR.c1
  have x2 := bR.c2
  have hK0 := Kept.refl W2 none
  have s0_ : ∀ w', Kept W2 w' none → w'.cell? ⟨w.heap.size, 0, none⟩ = some (.int .i64 S.id) := fun w' q => (HSB.out.kept q).c0
  have s1_ : ∀ w', Kept W2 w' none → w'.cell? ⟨w.heap.size, 1, none⟩ = some (.slice X.g S.groups.length X.gc) := fun w' q => (HSB.out.kept q).c1
  have s2_ : ∀ w', Kept W2 w' none → w'.cell? ⟨w.heap.size, 2, none⟩ = some (.slice X.a S.apart.length X.ac) := fun w' q => (HSB.out.kept q).c2
  have s3_ : ∀ w', Kept W2 w' none → w'.cell? ⟨w.heap.size, 3, none⟩ = some (.slice X.b S.between.length X.bc) := fun w' q => (HSB.out.kept q).c3
  have s4_ : ∀ w', Kept W2 w' none → w'.cell? ⟨w.heap.size, 4, none⟩ = some (.slice X.p S.phases.length X.pc) := fun w' q => (HSB.out.kept q).c4
  have s5_ : ∀ w', Kept W2 w' none → w'.cell? ⟨w.heap.size, 5, none⟩ = some (.slice X.e S.eyes.length X.ec) := fun w' q => (HSB.out.kept q).c5
  have s6_ : ∀ w', Kept W2 w' none → w'.cell? ⟨w.heap.size, 6, none⟩ = some (.int .i64 S.watch) := fun w' q => (HSB.out.kept q).c6
  have s7_ : ∀ w', Kept W2 w' none → w'.cell? ⟨w.heap.size, 7, none⟩ = some (.int .i64 S.feed) := fun w' q => (HSB.out.kept q).c7
  have s8_ : ∀ w', Kept W2 w' none → w'.cell? ⟨w.heap.size, 8, none⟩ = some (.int .i64 S.heal) := fun w' q => (HSB.out.kept q).c8
  have s9_ : ∀ w', Kept W2 w' none → w'.cell? ⟨w.heap.size, 9, none⟩ = some (.int .i64 S.low) := fun w' q => (HSB.out.kept q).c9
  have s10_ : ∀ w', Kept W2 w' none → w'.cell? ⟨w.heap.size, 10, none⟩ = some (.int .i64 S.high) := fun w' q => (HSB.out.kept q).c10
  have s11_ : ∀ w', Kept W2 w' none → w'.cell? ⟨w.heap.size, 11, none⟩ = some (.slice X.l S.plans.length X.lc) := fun w' q => (HSB.out.kept q).c11
  clear h k1 k2 hsb bR hF
  go_enter Tryz.func49, Tryz.ntmps49
  go_wp2_with (first | rw [hW1] | rw [hW2] | (go_at_call 83; refine (rshown_any HF.out hl).mono ?_; rintro e wS ⟨a5, c5, rfl, hb5, hkS⟩; have bxS := HBR.out.kept hkS; have d0 := bxS.c0; have d1 := bxS.c1; have d2 := bxS.c2; have HB5 := Hid.mk' hb5; clear bxS hb5 x0 x1 x2))
  go_ret
  exact ⟨rfl, HK.out.tr hkS⟩
set_option maxRecDepth 100000 in
set_option maxHeartbeats 1000000 in
theorem rmay8_lo {w : World} {X : Sa} {S : St} {a : Option Addr} {c : Nat} {F : Sf} (h : Sat w X S) (hF : SafeAt w a c F) (hl : F.groups.length ≤ 900) (hb : F.groups.length = S.groups.length) (h0 : F.start < 0) : Calls Tryz.prog 49 #[siteV X S, .agg #[.slice a F.groups.length c, .int .i64 F.start, .bool F.flashed]] w fun e w' => e = .returned (.bool false) ∧ Kept w w' none := by
  have hbb : ((F.groups.length : Int) != (S.groups.length : Int)) = false := by simp; omega
  have h0b : decide (F.start < 0) = true := by simp; omega
  clear hb h0
  have k1 : Kept w (w.alloc (.cells #[.int .i64 S.id, .slice X.g S.groups.length X.gc, .slice X.a S.apart.length X.ac, .slice X.b S.between.length X.bc, .slice X.p S.phases.length X.pc, .slice X.e S.eyes.length X.ec, .int .i64 S.watch, .int .i64 S.feed, .int .i64 S.heal, .int .i64 S.low, .int .i64 S.high, .slice X.l S.plans.length X.lc] 29)) none := Kept.alloc _ _ _ _ _
  have hsb := sbox_alloc h 29
  have hsz : (w.alloc (.cells #[.int .i64 S.id, .slice X.g S.groups.length X.gc, .slice X.a S.apart.length X.ac, .slice X.b S.between.length X.bc, .slice X.p S.phases.length X.pc, .slice X.e S.eyes.length X.ec, .int .i64 S.watch, .int .i64 S.feed, .int .i64 S.heal, .int .i64 S.low, .int .i64 S.high, .slice X.l S.plans.length X.lc] 29)).heap.size = w.heap.size + 1 := by simp
  obtain ⟨W1, hW1⟩ : ∃ W1, w.alloc (.cells #[.int .i64 S.id, .slice X.g S.groups.length X.gc, .slice X.a S.apart.length X.ac, .slice X.b S.between.length X.bc, .slice X.p S.phases.length X.pc, .slice X.e S.eyes.length X.ec, .int .i64 S.watch, .int .i64 S.feed, .int .i64 S.heal, .int .i64 S.low, .int .i64 S.high, .slice X.l S.plans.length X.lc] 29) = W1 := ⟨_, rfl⟩
  rw [hW1] at k1 hsb hsz
  have k2 : Kept W1 (W1.alloc (.cells #[.slice a F.groups.length c, .int .i64 F.start, .bool F.flashed] 32)) none := Kept.alloc _ _ _ _ _
  have bR := box_alloc W1 (.slice a F.groups.length c) (.int .i64 F.start) (.bool F.flashed) 32
  obtain ⟨W2, hW2⟩ : ∃ W2, W1.alloc (.cells #[.slice a F.groups.length c, .int .i64 F.start, .bool F.flashed] 32) = W2 := ⟨_, rfl⟩
  rw [hW2] at k2 bR
  rw [hsz] at bR
  have HSB := Hid.mk' (hsb.kept k2)
  have HBR := Hid.mk' bR
  have HK := Hid.mk' (k1.tr k2)
  have HF := Hid.mk' (hF.kept (k1.tr k2))
  have x0 := bR.c0
  have x1 := bR.c1
  have x2 := bR.c2
  have hK0 := Kept.refl W2 none
  have s0_ : ∀ w', Kept W2 w' none → w'.cell? ⟨w.heap.size, 0, none⟩ = some (.int .i64 S.id) := fun w' q => (HSB.out.kept q).c0
  have s1_ : ∀ w', Kept W2 w' none → w'.cell? ⟨w.heap.size, 1, none⟩ = some (.slice X.g S.groups.length X.gc) := fun w' q => (HSB.out.kept q).c1
  have s2_ : ∀ w', Kept W2 w' none → w'.cell? ⟨w.heap.size, 2, none⟩ = some (.slice X.a S.apart.length X.ac) := fun w' q => (HSB.out.kept q).c2
  have s3_ : ∀ w', Kept W2 w' none → w'.cell? ⟨w.heap.size, 3, none⟩ = some (.slice X.b S.between.length X.bc) := fun w' q => (HSB.out.kept q).c3
  have s4_ : ∀ w', Kept W2 w' none → w'.cell? ⟨w.heap.size, 4, none⟩ = some (.slice X.p S.phases.length X.pc) := fun w' q => (HSB.out.kept q).c4
  have s5_ : ∀ w', Kept W2 w' none → w'.cell? ⟨w.heap.size, 5, none⟩ = some (.slice X.e S.eyes.length X.ec) := fun w' q => (HSB.out.kept q).c5
  have s6_ : ∀ w', Kept W2 w' none → w'.cell? ⟨w.heap.size, 6, none⟩ = some (.int .i64 S.watch) := fun w' q => (HSB.out.kept q).c6
  have s7_ : ∀ w', Kept W2 w' none → w'.cell? ⟨w.heap.size, 7, none⟩ = some (.int .i64 S.feed) := fun w' q => (HSB.out.kept q).c7
  have s8_ : ∀ w', Kept W2 w' none → w'.cell? ⟨w.heap.size, 8, none⟩ = some (.int .i64 S.heal) := fun w' q => (HSB.out.kept q).c8
  have s9_ : ∀ w', Kept W2 w' none → w'.cell? ⟨w.heap.size, 9, none⟩ = some (.int .i64 S.low) := fun w' q => (HSB.out.kept q).c9
  have s10_ : ∀ w', Kept W2 w' none → w'.cell? ⟨w.heap.size, 10, none⟩ = some (.int .i64 S.high) := fun w' q => (HSB.out.kept q).c10
  have s11_ : ∀ w', Kept W2 w' none → w'.cell? ⟨w.heap.size, 11, none⟩ = some (.slice X.l S.plans.length X.lc) := fun w' q => (HSB.out.kept q).c11
  clear h k1 k2 hsb bR hF
  go_enter Tryz.func49, Tryz.ntmps49
  go_wp2_with (first | rw [hW1] | rw [hW2] | (go_at_call 83; refine (rshown_any HF.out hl).mono ?_; rintro e wS ⟨a5, c5, rfl, hb5, hkS⟩; have bxS := HBR.out.kept hkS; have d0 := bxS.c0; have d1 := bxS.c1; have d2 := bxS.c2; have HB5 := Hid.mk' hb5; clear bxS hb5 x0 x1 x2))
  go_ret
  exact ⟨rfl, HK.out.tr hkS⟩
set_option maxRecDepth 100000 in
set_option maxHeartbeats 1000000 in
theorem rmay8_hi {w : World} {X : Sa} {S : St} {a : Option Addr} {c : Nat} {F : Sf} (h : Sat w X S) (hF : SafeAt w a c F) (hl : F.groups.length ≤ 900) (hb : F.groups.length = S.groups.length) (h0 : 1048576 < F.start) : Calls Tryz.prog 49 #[siteV X S, .agg #[.slice a F.groups.length c, .int .i64 F.start, .bool F.flashed]] w fun e w' => e = .returned (.bool false) ∧ Kept w w' none := by
  have hbb : ((F.groups.length : Int) != (S.groups.length : Int)) = false := by simp; omega
  have h0b : decide (F.start < 0) = false := by simp; omega
  have h1b : decide (1048576 < F.start) = true := by simp; omega
  clear hb h0
  have k1 : Kept w (w.alloc (.cells #[.int .i64 S.id, .slice X.g S.groups.length X.gc, .slice X.a S.apart.length X.ac, .slice X.b S.between.length X.bc, .slice X.p S.phases.length X.pc, .slice X.e S.eyes.length X.ec, .int .i64 S.watch, .int .i64 S.feed, .int .i64 S.heal, .int .i64 S.low, .int .i64 S.high, .slice X.l S.plans.length X.lc] 29)) none := Kept.alloc _ _ _ _ _
  have hsb := sbox_alloc h 29
  have hsz : (w.alloc (.cells #[.int .i64 S.id, .slice X.g S.groups.length X.gc, .slice X.a S.apart.length X.ac, .slice X.b S.between.length X.bc, .slice X.p S.phases.length X.pc, .slice X.e S.eyes.length X.ec, .int .i64 S.watch, .int .i64 S.feed, .int .i64 S.heal, .int .i64 S.low, .int .i64 S.high, .slice X.l S.plans.length X.lc] 29)).heap.size = w.heap.size + 1 := by simp
  obtain ⟨W1, hW1⟩ : ∃ W1, w.alloc (.cells #[.int .i64 S.id, .slice X.g S.groups.length X.gc, .slice X.a S.apart.length X.ac, .slice X.b S.between.length X.bc, .slice X.p S.phases.length X.pc, .slice X.e S.eyes.length X.ec, .int .i64 S.watch, .int .i64 S.feed, .int .i64 S.heal, .int .i64 S.low, .int .i64 S.high, .slice X.l S.plans.length X.lc] 29) = W1 := ⟨_, rfl⟩
  rw [hW1] at k1 hsb hsz
  have k2 : Kept W1 (W1.alloc (.cells #[.slice a F.groups.length c, .int .i64 F.start, .bool F.flashed] 32)) none := Kept.alloc _ _ _ _ _
  have bR := box_alloc W1 (.slice a F.groups.length c) (.int .i64 F.start) (.bool F.flashed) 32
  obtain ⟨W2, hW2⟩ : ∃ W2, W1.alloc (.cells #[.slice a F.groups.length c, .int .i64 F.start, .bool F.flashed] 32) = W2 := ⟨_, rfl⟩
  rw [hW2] at k2 bR
  rw [hsz] at bR
  have HSB := Hid.mk' (hsb.kept k2)
  have HBR := Hid.mk' bR
  have HK := Hid.mk' (k1.tr k2)
  have HF := Hid.mk' (hF.kept (k1.tr k2))
  have x0 := bR.c0
  have x1 := bR.c1
  have x2 := bR.c2
  have hK0 := Kept.refl W2 none
  have s0_ : ∀ w', Kept W2 w' none → w'.cell? ⟨w.heap.size, 0, none⟩ = some (.int .i64 S.id) := fun w' q => (HSB.out.kept q).c0
  have s1_ : ∀ w', Kept W2 w' none → w'.cell? ⟨w.heap.size, 1, none⟩ = some (.slice X.g S.groups.length X.gc) := fun w' q => (HSB.out.kept q).c1
  have s2_ : ∀ w', Kept W2 w' none → w'.cell? ⟨w.heap.size, 2, none⟩ = some (.slice X.a S.apart.length X.ac) := fun w' q => (HSB.out.kept q).c2
  have s3_ : ∀ w', Kept W2 w' none → w'.cell? ⟨w.heap.size, 3, none⟩ = some (.slice X.b S.between.length X.bc) := fun w' q => (HSB.out.kept q).c3
  have s4_ : ∀ w', Kept W2 w' none → w'.cell? ⟨w.heap.size, 4, none⟩ = some (.slice X.p S.phases.length X.pc) := fun w' q => (HSB.out.kept q).c4
  have s5_ : ∀ w', Kept W2 w' none → w'.cell? ⟨w.heap.size, 5, none⟩ = some (.slice X.e S.eyes.length X.ec) := fun w' q => (HSB.out.kept q).c5
  have s6_ : ∀ w', Kept W2 w' none → w'.cell? ⟨w.heap.size, 6, none⟩ = some (.int .i64 S.watch) := fun w' q => (HSB.out.kept q).c6
  have s7_ : ∀ w', Kept W2 w' none → w'.cell? ⟨w.heap.size, 7, none⟩ = some (.int .i64 S.feed) := fun w' q => (HSB.out.kept q).c7
  have s8_ : ∀ w', Kept W2 w' none → w'.cell? ⟨w.heap.size, 8, none⟩ = some (.int .i64 S.heal) := fun w' q => (HSB.out.kept q).c8
  have s9_ : ∀ w', Kept W2 w' none → w'.cell? ⟨w.heap.size, 9, none⟩ = some (.int .i64 S.low) := fun w' q => (HSB.out.kept q).c9
  have s10_ : ∀ w', Kept W2 w' none → w'.cell? ⟨w.heap.size, 10, none⟩ = some (.int .i64 S.high) := fun w' q => (HSB.out.kept q).c10
  have s11_ : ∀ w', Kept W2 w' none → w'.cell? ⟨w.heap.size, 11, none⟩ = some (.slice X.l S.plans.length X.lc) := fun w' q => (HSB.out.kept q).c11
  clear h k1 k2 hsb bR hF
  go_enter Tryz.func49, Tryz.ntmps49
  go_wp2_with (first | rw [hW1] | rw [hW2] | (go_at_call 83; refine (rshown_any HF.out hl).mono ?_; rintro e wS ⟨a5, c5, rfl, hb5, hkS⟩; have bxS := HBR.out.kept hkS; have d0 := bxS.c0; have d1 := bxS.c1; have d2 := bxS.c2; have HB5 := Hid.mk' hb5; clear bxS hb5 x0 x1 x2))
  go_ret
  exact ⟨rfl, HK.out.tr hkS⟩
set_option maxRecDepth 100000 in
set_option maxHeartbeats 1000000 in
theorem rmay8_yes {w : World} {X : Sa} {S : St} {a : Option Addr} {c : Nat} {F : Sf} (h : Sat w X S) (hF : SafeAt w a c F) (hl : F.groups.length ≤ 900) (hO : Okay S) (hb : F.groups.length = S.groups.length) (h0 : 0 ≤ F.start) (h1 : F.start ≤ 1048576) : Calls Tryz.prog 49 #[siteV X S, .agg #[.slice a F.groups.length c, .int .i64 F.start, .bool F.flashed]] w fun e w' => e = .returned (.bool (!mtB S (shown F) || allIs (shown F) 4)) ∧ Kept w w' none := by
  have h0b : decide (F.start < 0) = false := by simp; omega
  have hbb : ((F.groups.length : Int) != (S.groups.length : Int)) = false := by simp; omega
  have h1b : decide (1048576 < F.start) = false := by simp; omega
  have HO := Hid.mk' hO
  have HBE := Hid.mk' hb
  clear hb h0 h1 hO
  have hsl := shown_len F
  have k1 : Kept w (w.alloc (.cells #[.int .i64 S.id, .slice X.g S.groups.length X.gc, .slice X.a S.apart.length X.ac, .slice X.b S.between.length X.bc, .slice X.p S.phases.length X.pc, .slice X.e S.eyes.length X.ec, .int .i64 S.watch, .int .i64 S.feed, .int .i64 S.heal, .int .i64 S.low, .int .i64 S.high, .slice X.l S.plans.length X.lc] 29)) none := Kept.alloc _ _ _ _ _
  have hsb := sbox_alloc h 29
  have hsz : (w.alloc (.cells #[.int .i64 S.id, .slice X.g S.groups.length X.gc, .slice X.a S.apart.length X.ac, .slice X.b S.between.length X.bc, .slice X.p S.phases.length X.pc, .slice X.e S.eyes.length X.ec, .int .i64 S.watch, .int .i64 S.feed, .int .i64 S.heal, .int .i64 S.low, .int .i64 S.high, .slice X.l S.plans.length X.lc] 29)).heap.size = w.heap.size + 1 := by simp
  obtain ⟨W1, hW1⟩ : ∃ W1, w.alloc (.cells #[.int .i64 S.id, .slice X.g S.groups.length X.gc, .slice X.a S.apart.length X.ac, .slice X.b S.between.length X.bc, .slice X.p S.phases.length X.pc, .slice X.e S.eyes.length X.ec, .int .i64 S.watch, .int .i64 S.feed, .int .i64 S.heal, .int .i64 S.low, .int .i64 S.high, .slice X.l S.plans.length X.lc] 29) = W1 := ⟨_, rfl⟩
  rw [hW1] at k1 hsb hsz
  have k2 : Kept W1 (W1.alloc (.cells #[.slice a F.groups.length c, .int .i64 F.start, .bool F.flashed] 32)) none := Kept.alloc _ _ _ _ _
  have bR := box_alloc W1 (.slice a F.groups.length c) (.int .i64 F.start) (.bool F.flashed) 32
  obtain ⟨W2, hW2⟩ : ∃ W2, W1.alloc (.cells #[.slice a F.groups.length c, .int .i64 F.start, .bool F.flashed] 32) = W2 := ⟨_, rfl⟩
  rw [hW2] at k2 bR
  rw [hsz] at bR
  have HSB := Hid.mk' (hsb.kept k2)
  have HBR := Hid.mk' bR
  have HK := Hid.mk' (k1.tr k2)
  have HF := Hid.mk' (hF.kept (k1.tr k2))
  have x0 := bR.c0
  have x1 := bR.c1
  have x2 := bR.c2
  have hK0 := Kept.refl W2 none
  have s0_ : ∀ w', Kept W2 w' none → w'.cell? ⟨w.heap.size, 0, none⟩ = some (.int .i64 S.id) := fun w' q => (HSB.out.kept q).c0
  have s1_ : ∀ w', Kept W2 w' none → w'.cell? ⟨w.heap.size, 1, none⟩ = some (.slice X.g S.groups.length X.gc) := fun w' q => (HSB.out.kept q).c1
  have s2_ : ∀ w', Kept W2 w' none → w'.cell? ⟨w.heap.size, 2, none⟩ = some (.slice X.a S.apart.length X.ac) := fun w' q => (HSB.out.kept q).c2
  have s3_ : ∀ w', Kept W2 w' none → w'.cell? ⟨w.heap.size, 3, none⟩ = some (.slice X.b S.between.length X.bc) := fun w' q => (HSB.out.kept q).c3
  have s4_ : ∀ w', Kept W2 w' none → w'.cell? ⟨w.heap.size, 4, none⟩ = some (.slice X.p S.phases.length X.pc) := fun w' q => (HSB.out.kept q).c4
  have s5_ : ∀ w', Kept W2 w' none → w'.cell? ⟨w.heap.size, 5, none⟩ = some (.slice X.e S.eyes.length X.ec) := fun w' q => (HSB.out.kept q).c5
  have s6_ : ∀ w', Kept W2 w' none → w'.cell? ⟨w.heap.size, 6, none⟩ = some (.int .i64 S.watch) := fun w' q => (HSB.out.kept q).c6
  have s7_ : ∀ w', Kept W2 w' none → w'.cell? ⟨w.heap.size, 7, none⟩ = some (.int .i64 S.feed) := fun w' q => (HSB.out.kept q).c7
  have s8_ : ∀ w', Kept W2 w' none → w'.cell? ⟨w.heap.size, 8, none⟩ = some (.int .i64 S.heal) := fun w' q => (HSB.out.kept q).c8
  have s9_ : ∀ w', Kept W2 w' none → w'.cell? ⟨w.heap.size, 9, none⟩ = some (.int .i64 S.low) := fun w' q => (HSB.out.kept q).c9
  have s10_ : ∀ w', Kept W2 w' none → w'.cell? ⟨w.heap.size, 10, none⟩ = some (.int .i64 S.high) := fun w' q => (HSB.out.kept q).c10
  have s11_ : ∀ w', Kept W2 w' none → w'.cell? ⟨w.heap.size, 11, none⟩ = some (.slice X.l S.plans.length X.lc) := fun w' q => (HSB.out.kept q).c11
  clear h k1 k2 hsb bR hF
  go_enter Tryz.func49, Tryz.ntmps49
  cases h4 : allIs (shown F) 4 with
  | true =>
    have HC : Hid (cntN (shown F) 4 = F.groups.length) := (cnt_all.2 h4).trans hsl
    clear hsl h4
    go_wp2_with (first | rw [hW1] | rw [hW2] | (go_at_call 83; refine (rshown_any HF.out hl).mono ?_; rintro e wS ⟨a5, c5, rfl, hb5, hkS⟩; have bxS := HBR.out.kept hkS; have d0 := bxS.c0; have d1 := bxS.c1; have d2 := bxS.c2; have HB5 := Hid.mk' hb5; clear bxS hb5 x0 x1 x2) | (go_at_call 50; refine (rflash_any HB5.out).mono ?_; rintro e wq ⟨rfl, hwq⟩; have hwq := hwq.symm; subst hwq; rw [HC.out]))
    go_ret
    exact ⟨by simp, HK.out.tr hkS⟩
  | false =>
    have hc2 : cntN (shown F) 4 ≠ F.groups.length := fun e => by
      rw [← hsl] at e
      rw [cnt_all.1 e] at h4
      cases h4
    have hc3 : (((cntN (shown F) 4 : Nat) : Int) == (F.groups.length : Int)) = false := by simp; omega
    clear hsl h4 hc2
    generalize hcn : cntN (shown F) 4 = cn at *
    have HCN := Hid.mk' hcn
    clear hcn
    go_wp2_with (first | rw [hW1] | rw [hW2] | (go_at_call 83; refine (rshown_any HF.out hl).mono ?_; rintro e wS ⟨a5, c5, rfl, hb5, hkS⟩; have bxS := HBR.out.kept hkS; have d0 := bxS.c0; have d1 := bxS.c1; have d2 := bxS.c2; have HB5 := Hid.mk' hb5; clear bxS hb5 x0 x1 x2) | (go_at_call 50; refine (rflash_any HB5.out).mono ?_; rintro e wq ⟨rfl, hwq⟩; have hwq := hwq.symm; subst hwq; rw [HCN.out]) | (go_at_call 84; refine (rmeet8_any (HSB.out.sat.kept hkS) HO.out HB5.out HBE.out).mono ?_; rintro e wM ⟨rfl, hkM⟩))
    go_ret
    exact ⟨by simp, (HK.out.tr hkS).tr hkM⟩
theorem rmay8_any {w : World} {X : Sa} {S : St} {a : Option Addr} {c : Nat} {F : Sf} (h : Sat w X S) (hF : SafeAt w a c F) (hl : F.groups.length ≤ 900) (hO : Okay S) : Calls Tryz.prog 49 #[siteV X S, .agg #[.slice a F.groups.length c, .int .i64 F.start, .bool F.flashed]] w fun e w' => e = .returned (.bool (mayS S F)) ∧ Kept w w' none := by
  unfold mayS
  by_cases h1 : F.groups.length = S.groups.length
  · by_cases h2 : inB F.start 0 1048576 = true
    · rw [h2, decide_eq_true h1, Bool.true_and, Bool.true_and]
      have := inB_iff.1 h2
      exact rmay8_yes h hF hl hO h1 this.1 this.2
    · have h2 : inB F.start 0 1048576 = false := by simpa using h2
      rw [h2, Bool.false_and, Bool.and_false]
      rcases inB_no.1 h2 with h3 | h3
      · exact rmay8_lo h hF hl h1 h3
      · exact rmay8_hi h hF hl h1 h3
  · rw [decide_eq_false h1, Bool.false_and]
    exact rmay8_len h hF hl h1

end Go.Proofs.YtchjbagipbmcoaaGreatDoor

