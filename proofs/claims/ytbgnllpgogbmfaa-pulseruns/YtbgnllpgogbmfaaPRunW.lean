/-
  PulseRuns' walk: the program's answers and the document's are the same.
-/
import Derived.Test.YtbgnllpgogbmfaaPulJ
import Derived.Laws.StructEq
namespace Go.Proofs.Ytbgnllpgogbmfaa
open Go.RowKit Go.Lib Go.Deep
set_option linter.unusedVariables false
set_option linter.unusedSimpArgs false

theorem pruns_long (p : Pu) (one : Bool) (h : Int) {a : Option Addr} {n c : Nat} {L : List Bool} {w : World} (hA : Bo w a n L) (hl : 5000 < n) : Calls Try.prog 4 #[puV p, .slice a n c, .bool one, .int .i64 h] w fun e w' => e = .returned (.bool true) ∧ Kept w w' none := by
  have hmx := hA.max
  clear hA
  go_enter Try.func4, Try.ntmps4
  go_wp2
  go_ret
  exact ⟨rfl, Kept.alloc _ _ _ _ _⟩
set_option maxRecDepth 100000 in
set_option maxHeartbeats 2000000 in
theorem pruns_main (p : Pu) (one : Bool) (h : Int) {a : Option Addr} {n c : Nat} {L : List Bool} {w : World} (hA : Bo w a n L) (hnil : a = none → c = 0) (hl : n ≤ 5000) : Calls Try.prog 4 #[puV p, .slice a n c, .bool one, .int .i64 h] w fun e w' => e = .returned (.bool true) ∧ Kept w w' none := by
  have hmx := hA.max
  have HA := Hid.mk' hA
  have hrl := rn_len p L h
  rw [hA.size] at hrl
  have hrb : (rnL p L h).length ≤ 9223372036854775807 := by omega
  clear hA
  have HNx := fun w => next_any p one h w
  have HRx := fun w => rnext_any p one h w
  have HNr := Hid.mk' HNx
  have HRr := Hid.mk' HRx
  have HRun := Hid.mk' (fun (w' : World) (a' : Option Addr) (c' : Nat) (hb : Bo w' a' n L) => run_any (c := c') p h hb)
  have HRrn := Hid.mk' (fun (w' : World) (a' : Option Addr) (c' : Nat) (hb : Bo w' a' n L) => rrun_any (c := c') p h hb)
  clear HNx HRx
  unfold RunA at HRun HRrn
  generalize nexV p one h = N at *
  generalize nexE p h = E at *
  generalize rnV p L h = R at *
  generalize rnL p L h = M at *
  generalize runE p L.length h = F at *
  obtain ⟨u, q, s⟩ := p
  obtain ⟨Nu, Nq, Ns⟩ := N
  obtain ⟨Ru, Rq, Rs⟩ := R
  go_enter Try.func4, Try.ntmps4
  go_wp2_with (first
    | (go_at_call 13; have hgo := hk6; clear hgo; refine (rsame_any (L := L) (M := L) (HI6.out) (HA6.out)).mono ?_; rintro e w7 ⟨rfl, hk7⟩)
    | (go_at_call 13; refine (rsame_any (L := M) (M := M) (HM5.out.kept (Kept.alloc _ _ _ _ _)) (HD5.out.kept (Kept.alloc _ _ _ _ _))).mono ?_; rintro e w6 ⟨rfl, hk6⟩; have HI6 := Hid.mk' ((HI5.out.kept (Kept.alloc _ _ _ _ _)).kept hk6); have HA6 := Hid.mk' ((HA5.out.kept (Kept.alloc _ _ _ _ _)).kept hk6))
    | (go_at_call 12; refine (HRrn.out _ a c (HA4.out.kept (Kept.alloc _ _ _ _ _))).mono ?_; rintro e w5 ⟨a5, c5, rfl, hb5, hk5⟩; have hk5' := (Kept.alloc w4 #[.bool Ru, .bool Rq, .int .i64 Rs] 23 (0, 0) none).tr hk5; have HD5 := Hid.mk' hb5.bo; have HM5 := Hid.mk' (HM4.out.kept hk5'); have HI5 := Hid.mk' (HI4.out.kept hk5'); have HA5 := Hid.mk' (HA4.out.kept hk5'); have BA5 := BA4.kept hk5'; have BB5 := BB4.kept hk5'; have BC5 := (box_alloc w4 (.bool Ru) (.bool Rq) (.int .i64 Rs) 23).kept hk5; have a50 := BA5.c0; have a51 := BA5.c1; have a52 := BA5.c2; have b50 := BB5.c0; have b51 := BB5.c1; have b52 := BB5.c2; have c50 := BC5.c0; have c51 := BC5.c1; have c52 := BC5.c2; have la5 := BA5.lt; have lb5 := BB5.lt; have lc5 := BC5.lt; clear hb5 BA5 BB5 BC5 BA4 BB4 p40 p41 p42)
    | (go_at_call 9; refine (HRun.out _ ai ci (HI3.out.kept (Kept.alloc _ _ _ _ _))).mono ?_; rintro e w4 ⟨a4, c4, rfl, hb4, hk4⟩; have hk4' := (Kept.alloc w3 #[.bool Nu, .bool Nq, .int .i64 Ns] 23 (0, 0) none).tr hk4; have HM4 := Hid.mk' hb4.bo; have HI4 := Hid.mk' (HI3.out.kept hk4'); have HA4 := Hid.mk' (HA3.out.kept hk4'); have BA4 := BA3.kept hk4'; have BB4 := (box_alloc w3 (.bool Nu) (.bool Nq) (.int .i64 Ns) 23).kept hk4; have BP4 := BP3.kept hk4'; have p40 := BP4.c0; have p41 := BP4.c1; have p42 := BP4.c2; have lp4 := BP4.lt; clear hb4 BP4 BP3 BA3 p30 p31 p32)
    | (go_at_call 11; refine (HRr.out _).mono ?_; rintro e w3 ⟨rfl, hk3⟩; have hk3' := (Kept.alloc w2 #[.bool Nu, .bool Nq, .int .i64 Ns] 23 (0, 0) none).tr hk3; have HI3 := Hid.mk' (HI2.out.kept hk3'); have HA3 := Hid.mk' (HA2.out.kept hk3'); have BA3 := (box_alloc w2 (.bool Nu) (.bool Nq) (.int .i64 Ns) 23).kept hk3; have BP3 := BP2.kept hk3'; have p30 := BP3.c0; have p31 := BP3.c1; have p32 := BP3.c2; have lp3 := BP3.lt; clear BP2 p20 p21 p22)
    | (go_at_call 8; refine (HNr.out w1).mono ?_; rintro e w2 ⟨rfl, hk2⟩; have HI2 := Hid.mk' (HI1.out.kept hk2); have HA2 := Hid.mk' (HA1.out.kept hk2); have BP2 := BP1.kept hk2; have p20 := BP2.c0; have p21 := BP2.c1; have p22 := BP2.c2; have lp2 := BP2.lt; clear BP1 p10 p11 p12)
    | (at_builtin; refine wpList_bjoin0 rfl _ _ rfl w.heap.size rfl a n c L rfl (HA.out.kept (Kept.alloc _ _ _ _ _)) hnil (by omega) (by simp) ?_; intro ai ci w1 hbw hk1; have HI1 := Hid.mk' hbw.bo; have HA1 := Hid.mk' ((HA.out.kept (Kept.alloc _ _ _ _ _)).kept hk1); have BP1 := (box_alloc w (.bool u) (.bool q) (.int .i64 s) 23).kept hk1; have p10 := BP1.c0; have p11 := BP1.c1; have p12 := BP1.c2; clear hbw))
  go_ret
  exact ⟨rfl, (((((((Kept.alloc _ _ _ _ _).tr hk1).tr hk2).tr hk3').tr hk4').tr hk5').tr ((Kept.alloc _ _ _ _ _).tr hk6)).tr hk7⟩

end Go.Proofs.Ytbgnllpgogbmfaa
