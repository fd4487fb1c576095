import Derived.Deep.RegionHeldLaw
import Derived.Test.YtakilpnbjihibaaGreatDoorP7
namespace Go.Proofs.YtakilpnbjihibaaGreatDoor
set_option linter.unusedVariables false
set_option linter.unusedSimpArgs false
set_option maxHeartbeats 8000000
set_option maxRecDepth 100000
open Go.RowKit Go.Lib Go.Deep
def stN : Nat -> Nat -> Nat
 | 0, r => r
 | k + 1, r => st (stN k r)
theorem stN_lt (k r : Nat) (h : r < 4294967296) : stN k r < 4294967296 := by
 induction k with
 | zero => exact h
 | succ k ih => exact st_lt ih
theorem st_odd {r : Nat} (h : r % 2 = 1) : st r = (r / 2) ^^^ 3988292384 := by unfold st; rw [if_pos h]
theorem st_ev {r : Nat} (h : ¬ r % 2 = 1) : st r = r / 2 := by unfold st; rw [if_neg h]
theorem rsum_any {a : Option Addr} {len c : Nat} {L : List Nat} {w : World} (hB : By w a len L) :
 Calls Tryz.prog 41 #[.slice a len c] w fun e w' => e = .returned (.int .u32 ((sumB L : Nat) : Int)) /\ ∃ m, w' = w.drewN m := by
 have HL : Hid (L.length = len) := hB.size; have HG : Hid (∀ i, L.getD i 0 < 256) := hB.getD; have HX : Hid (∀ x ∈ L, x < 256) := hB.lt; have HA : Hid (0 < len -> ∃ b off, a = some ⟨b, off, none⟩ /\ b < w.heap.size /\ ∀ i, i < len -> w.cell? ⟨b, off + i, none⟩ = some (.int .u8 ((L.getD i 0 : Nat) : Int))) := hB.at_; have hl2 := hB.max; clear hB; go_enter Tryz.func41, Tryz.ntmps41; go_wp2; go_loopw [3, 4] (fun r i wr => ∃ k : Nat, k <= len /\ r = .int .u32 ((crc (L.take k) : Nat) : Int) /\ i = .int .i64 k /\ ∃ m, wr = w.drewN m) (fun _ i _ => len - (intOf i).toNat)
 case atStart => exact ⟨0, Nat.zero_le _, by simp [crc], rfl, 0, rfl⟩
 case round =>
  obtain ⟨k, hk, rfl, rfl, m, rfl⟩ := hrel; have hr := crc_lt (L.take k) (fun x hx => HX.out x (List.mem_of_mem_take hx)); by_cases hlt : k < len
  . obtain ⟨b, off, rfl, hb, hc⟩ := HA.out (by omega); have hcell := hc k hlt; have hx := HG.out k; have HN : Hid (crc (L.take (k + 1)) = up (crc (L.take k)) (L.getD k 0)) := crc_take L k (by rw [HL.out]; exact hlt); clear hc; generalize L.getD k 0 = x at *; generalize crc (L.take k) = r at *; have hxor := u32_xor_nat r x hr (by omega); have hA := xor32 hr (show x < 4294967296 by omega); have HU : Hid (up r x = stN 8 (r ^^^ x)) := rfl; generalize r ^^^ x = A at *; go_wp2; go_loopw [3, 5] (fun r i wr => ∃ j : Nat, j <= 8 /\ r = .int .u32 ((stN j A : Nat) : Int) /\ i = .int .i64 j /\ ∃ m, wr = w.drewN m) (fun _ i _ => 8 - (intOf i).toNat)
    case atStart => exact ⟨0, Nat.zero_le _, rfl, rfl, m, rfl⟩
    case round =>
     obtain ⟨j, hj, rfl, rfl, m2, rfl⟩ := hrel; have hsj := stN_lt j A hA; by_cases hj8 : j < 8
     . by_cases hodd : stN j A % 2 = 1
       . have HS : Hid (stN (j + 1) A = (stN j A / 2) ^^^ 3988292384) := st_odd hodd; generalize stN j A = s at *; have hx2 := u32_xor_nat (s / 2) 3988292384 (by omega) (by omega); have e1 : ((s / 2 : Nat) : Int) = (s : Int) / 2 := by omega
         rw [e1] at hx2; have he : (((s : Int) % 2) == 1) = true := by simp; omega
         go_wp2; go_roundw
         case rel => exact ⟨j + 1, by omega, by rw [HS.out]; exact congrArg (Value.int IntKind.u32) hx2, by go_num, _, rfl⟩
         case measure => simp [intOf]; omega
       . have HS : Hid (stN (j + 1) A = stN j A / 2) := st_ev hodd; generalize stN j A = s at *; have he : (((s : Int) % 2) == 1) = false := by simp; omega
         go_wp2; go_roundw
         case rel => exact ⟨j + 1, by omega, by rw [HS.out]; go_num, by go_num, _, rfl⟩
         case measure => simp [intOf]; omega
     . have hj9 : j = 8 := by omega
       subst hj9; rw [<- HU.out, <- HN.out]; go_wp2; go_roundw
       case rel => exact ⟨k + 1, by omega, rfl, by go_num, _, rfl⟩
       case measure => simp [intOf]; omega
  . have hkq : k = len := by omega
    subst hkq; rw [List.take_of_length_le (by rw [HL.out]; exact Nat.le_refl _)] at hr ⊢; have hs := turn32 (crc L) hr; have HS : Hid (4294967295 ^^^ crc L = sumB L) := rfl; rw [HS.out] at hs; go_wp2; go_ret; exact ⟨rfl, m, rfl⟩
theorem By.some_of {w : World} {a : Option Addr} {n : Nat} {L : List Nat} (h : By w a n L) (hp : 0 < L.length) : ∃ x, a = some x /\ n = L.length := by
 have hs := h.size; obtain ⟨b, off, e, _⟩ := h.at_ (by omega); exact ⟨_, e, by omega⟩
theorem step_joinM {ops : Array Oper} {o : Oper} {act : Act} {K : Act -> World -> Prop} {Q : Exit -> Act -> World -> Prop} {E : Prop} {w : World} (hgd : o.guard = none) (s x : Operand)
 (ho : o.op = .call { callee := .builtin .append, args := #[s, x], argTypes := #[27, 27] })
 (base : Nat) (v : Value) (n : Nat) (L : List Nat) (hs : act.eval s = v) (hown : w.ownsRow base 5 1 v n (L.map byteV)) (a : Option Addr) (m c : Nat) (M : List Nat) (hx : act.eval x = .slice a m c) (hB : By w a m M) (ha : a = none -> c = 0)
 (hnm : n + m <= 70368744177664) (hbase : base <= w.heap.size)
 (h : ∀ a' cap w', Mine w' base a' (n + m) cap (L ++ M) -> w.grownBy w' v.ownBlock -> K (act.put o.dst (.slice a' (n + m) cap)) w') : if Region.wanted o (yielded ops act.tmps) = true then Oper.wp Tryz.prog o act w K Q else E := by
 have hw : Region.wanted o (yielded ops act.tmps) = true := by simp [Region.wanted, hgd]
 rw [if_pos hw]; obtain ⟨i0, hi0, hz0, hz1, hz2⟩ := info_parts Tryz.info5
 have key : ∀ v' w', w'.ownsRow base 5 1 v' (n + m) ((L ++ M).map byteV) -> w.grownBy w' v.ownBlock -> K (act.put o.dst v') w' := by
  intro v' w' h1 h2; obtain ⟨a', cap, rfl, hm⟩ := mine_of h1; exact h a' cap w' hm h2
 cases a with
 | none =>
  have hm0 : m = 0 := by
   by_cases hm : 0 < m
   . obtain ⟨b, off, e, _⟩ := hB.at_ hm
     cases e
   . omega
  subst hm0; have hM : M = [] := List.length_eq_zero_iff.1 hB.size; subst hM; have hc := ha rfl; subst hc; have hrun := run_append_owned_none (P := Tryz.prog) (w := w) base 27 o.type 5 i0 1 Tryz.uB hi0 v n (L.map byteV) hown; unfold Oper.wp; simp [execOp, ho, resolve, invoke, builtin, hs, hx, hrun, Result.andThen]; exact key _ w (by simpa using hown) (World.grownBy.refl w _)
 | some ad =>
  by_cases hp : 0 < m
  . obtain ⟨b, off, e, hb, hc⟩ := hB.at_ hp; injection e with e; subst e; refine wp_append_own w s x 27 ho base 5 i0 _ 1 1 Tryz.uB hi0 hz0 hz1 hz2 rfl (by omega) v n (L.map byteV) hs hown ⟨b, off, none⟩ m c (M.map byteV) hx (by simp [hB.size]) (bytes_news hB.size hc) (bytes_one M) (by unfold maxLen; omega) (by omega) hbase ?_; intro v' w' h1 h2 _; exact key v' w' (by rw [List.map_append]; exact h1) h2
  . have hm0 : m = 0 := by omega
    subst hm0; have hM : M = [] := List.length_eq_zero_iff.1 hB.size; subst hM; refine wp_append_own w s x 27 ho base 5 i0 _ 1 1 Tryz.uB hi0 hz0 hz1 hz2 rfl (by omega) v n (L.map byteV) hs hown ad 0 c [] hx (by simp) (fun j u hu => by simp at hu) (fun u hu => by cases hu) (by unfold maxLen; omega) (by omega) hbase ?_; intro v' w' h1 h2 _; exact key v' w' (by simpa using h1) h2
theorem rsmalls_any {w : World} {b : Option Addr} {m d : Nat} {l : List Int} (hI : Ints w b m d l) (hpos : ∀ x ∈ l, 0 <= x) (hlen : m <= 1099511627776) :
 Calls Tryz.prog 94 #[.slice b m d] w fun e w' => ∃ a' c', e = .returned (.slice a' (smlI l).length c') /\ Mine w' w.heap.size a' (smlI l).length c' (smlI l) /\ Kept w w' none := by
 have HI := Hid.mk' hI; have HPOS := Hid.mk' hpos; have hsz := hI.size; have HSZ := Hid.mk' hsz; have hrng := hI.rng; have HR := Hid.mk' hrng; clear hI hpos hsz hrng; go_enter Tryz.func94, Tryz.ntmps94; go_wp2; go_loopw [3, 4] (fun s i wr => ∃ k : Nat, k <= m /\ i = .int .i64 k /\ ∃ a1 n1 c1, s = .slice a1 n1 c1 /\ n1 = (smlI (l.take k)).length /\ n1 <= 10 * k /\ Mine wr w.heap.size a1 n1 c1 (smlI (l.take k)) /\ Kept w wr none) (fun _ i _ => m - (intOf i).toNat)
 case atStart => exact ⟨0, Nat.zero_le _, rfl, none, 0, 0, rfl, by simp [smlI], by omega, by simpa [smlI] using Mine.empty _ _, Kept.refl _ _⟩
 case round =>
  obtain ⟨k, hk, rfl, a1, n1, c1, rfl, hn1, hle, hMi, hkw⟩ := hrel; have HMI := Hid.mk' hMi; have HN1 := Hid.mk' hn1; have HKW := Hid.mk' hkw; clear hMi hn1; by_cases hlt : k < m
  . obtain ⟨bi, oi, rfl, hbi, hci⟩ := (HI.out.kept hkw).at_ (by omega); have kc := hci k hlt; have hkl : k < l.length := by have := HSZ.out; omega
    have hv0 := HPOS.out (l.getD k 0) (getD_mem hkl); have hv1 := (HR.out (l.getD k 0) (getD_mem hkl)).2; have hst : smlI (l.take (k + 1)) = smlI (l.take k) ++ sml (l.getD k 0).toNat := by rw [take_snocI hkl, smlI_snoc]
    have HST := Hid.mk' hst; have hs10 := sml_len10 (l.getD k 0).toNat (by omega); have hsp := sml_pos (l.getD k 0).toNat; clear hci hst hkw; generalize hv : l.getD k 0 = v at *; clear hv; obtain ⟨q, rfl⟩ : ∃ q : Nat, v = (q : Int) := ⟨v.toNat, by omega⟩
    rw [Int.toNat_natCast] at *; have hwr := HKW.out.size
    go_wp2_with (first
     | (have hgo := O2; clear hgo; at_builtin; refine wpList_join (by rfl) _ _ (by rfl) w.heap.size (.slice a1 n1 c1) n1 (smlI (l.take k)) (by rfl) (own_keptR HMI.out.own K2.out (fun i _ => by simp)) _ _ _ (sml q) (by rfl) O2.out (fun e => by cases e) (by omega) (by have := K2.out.size; omega) ?_; intro a3 c3 w3 hm3 hg3)
     | (go_at_call 72; refine (rsmall_any q _ (by omega)).mono ?_; rintro e w2 ⟨a2, k2, c2, rfl, ho2, hk2⟩; obtain ⟨x2, rfl, rfl⟩ := ho2.some_of hsp; have O2 := Hid.mk' ho2; have K2 := Hid.mk' hk2; clear ho2 hk2))
    go_roundw
    case rel =>
     refine ⟨k + 1, by omega, by go_num, a3, _, c3, rfl, ?_, by omega, ?_, ?_⟩
     . rw [HST.out, List.length_append, HN1.out]
     . rw [HST.out]; exact hm3
     . exact (HKW.out.tr K2.out).newRow hg3 HMI.out.new
    case measure => simp [intOf]; omega
  . have hkk : l.take k = l := List.take_of_length_le (by have := HSZ.out; omega); rw [hkk] at HMI HN1; have e := HN1.out; subst e; go_wp2; go_ret; exact ⟨a1, c1, rfl, HMI.out, HKW.out⟩
theorem putE_sum (L : List Nat) (h : ∀ x ∈ L, x < 256) : putE (sumB L) ((4 : Nat) : Int) = 0 /\ putL (sumB L) ((4 : Nat) : Int) = sum4 L := by
 have hs := sumB_lt L h; have ho : putOk (sumB L) ((4 : Nat) : Int) := (putOk_iff _ _).2 ⟨by omega, by omega, Nat.div_eq_of_lt (by simpa using hs)⟩; unfold putE putL; rw [if_pos ho, if_pos ho]; exact ⟨rfl, by simp [sum4]⟩
theorem rsummed_any {w : World} {a : Option Addr} {n c : Nat} {L : List Nat} (base : Nat) (hM : Mine w base a n c L) (hbase : base <= w.heap.size) (hlt : ∀ x ∈ L, x < 256) (hlen : n <= 1000000) : Calls Tryz.prog 17 #[.slice a n c] w fun e w' => ∃ a' c', e = .returned (.slice a' (n + 4) c') /\ Mine w' base a' (n + 4) c' (L ++ sum4 L) /\ Kept w w' (Value.slice a n c).ownBlock := by
 have M3 := Hid.mk' hM; have BY := Hid.mk' (hM.by hlt); have hs := sumB_lt L hlt; have hp := rput_all (sumB L) ((4 : Nat) : Int); rw [(putE_sum L hlt).1, (putE_sum L hlt).2] at hp; have HP := Hid.mk' hp; have h4 : 0 < (sum4 L).length := by rw [sum4_len]; omega
 have h44 := sum4_len L; clear hM hlt hp; go_enter Tryz.func17, Tryz.ntmps17
 go_wp2_with (first
  | (have hgo := B4; clear hgo; at_builtin; refine wpList_joinA (by rfl) _ _ (by rfl) base _ n L (by rfl) (own_keptR M3.out.own K4.out (fun i _ => by simp)) _ 4 _ (sum4 L) (by rfl) B4.out (fun e => by cases e) (by omega) (by have := K4.out.size; omega) ?_; intro a5 c5 w5 hm5 hg5 hat5)
  | (have hgo := hdone; clear hgo; go_at_call 40; refine (HP.out _ (by omega)).mono ?_; rintro e w4 ⟨a4, k4, c4, rfl, hb4, hk4⟩; obtain ⟨x4, rfl, e4⟩ := hb4.some_of h4; rw [h44] at e4; subst e4; have B4 := Hid.mk' hb4; have K4 := Hid.mk' ((Kept.drewN _ _ _).tr hk4); clear hb4 hk4)
  | (go_at_call 41; refine (rsum_any BY.out).mono ?_; rintro e w2 ⟨rfl, m, rfl⟩; have hdone := trivial))
 go_ret; exact ⟨a5, c5, rfl, hm5, (K4.out.weak _).tr hg5⟩
theorem rsmalls6_any {w : World} {b : Option Addr} {m d : Nat} {l : List Int} (hI : Ints w b m d l) (hpos : ∀ x ∈ l, 0 <= x) (hlen : m <= 1099511627776) :
 Calls Tryz.prog 42 #[.slice b m d] w fun e w' => ∃ a' c', e = .returned (.slice a' (smlI l).length c') /\ Mine w' w.heap.size a' (smlI l).length c' (smlI l) /\ Kept w w' none := by
 have HI := Hid.mk' hI; have HPOS := Hid.mk' hpos; have hsz := hI.size; have HSZ := Hid.mk' hsz; have hrng := hI.rng; have HR := Hid.mk' hrng; clear hI hpos hsz hrng; go_enter Tryz.func42, Tryz.ntmps42; go_wp2; go_loopw [3, 4] (fun s i wr => ∃ k : Nat, k <= m /\ i = .int .i64 k /\ ∃ a1 n1 c1, s = .slice a1 n1 c1 /\ n1 = (smlI (l.take k)).length /\ n1 <= 10 * k /\ Mine wr w.heap.size a1 n1 c1 (smlI (l.take k)) /\ Kept w wr none) (fun _ i _ => m - (intOf i).toNat)
 case atStart => exact ⟨0, Nat.zero_le _, rfl, none, 0, 0, rfl, by simp [smlI], by omega, by simpa [smlI] using Mine.empty _ _, Kept.refl _ _⟩
 case round =>
  obtain ⟨k, hk, rfl, a1, n1, c1, rfl, hn1, hle, hMi, hkw⟩ := hrel; have HMI := Hid.mk' hMi; have HN1 := Hid.mk' hn1; have HKW := Hid.mk' hkw; clear hMi hn1; by_cases hlt : k < m
  . obtain ⟨bi, oi, rfl, hbi, hci⟩ := (HI.out.kept hkw).at_ (by omega); have kc := hci k hlt; have hkl : k < l.length := by have := HSZ.out; omega
    have hv0 := HPOS.out (l.getD k 0) (getD_mem hkl); have hv1 := (HR.out (l.getD k 0) (getD_mem hkl)).2; have hst : smlI (l.take (k + 1)) = smlI (l.take k) ++ sml (l.getD k 0).toNat := by rw [take_snocI hkl, smlI_snoc]
    have HST := Hid.mk' hst; have hs10 := sml_len10 (l.getD k 0).toNat (by omega); have hsp := sml_pos (l.getD k 0).toNat; clear hci hst hkw; generalize hv : l.getD k 0 = v at *; clear hv; obtain ⟨q, rfl⟩ : ∃ q : Nat, v = (q : Int) := ⟨v.toNat, by omega⟩
    rw [Int.toNat_natCast] at *; have hwr := HKW.out.size
    go_wp2_with (first
     | (have hgo := O2; clear hgo; at_builtin; refine wpList_join (by rfl) _ _ (by rfl) w.heap.size (.slice a1 n1 c1) n1 (smlI (l.take k)) (by rfl) (own_keptR HMI.out.own K2.out (fun i _ => by simp)) _ _ _ (sml q) (by rfl) O2.out (fun e => by cases e) (by omega) (by have := K2.out.size; omega) ?_; intro a3 c3 w3 hm3 hg3)
     | (go_at_call 72; refine (rsmall_any q _ (by omega)).mono ?_; rintro e w2 ⟨a2, k2, c2, rfl, ho2, hk2⟩; obtain ⟨x2, rfl, rfl⟩ := ho2.some_of hsp; have O2 := Hid.mk' ho2; have K2 := Hid.mk' hk2; clear ho2 hk2))
    go_roundw
    case rel =>
     refine ⟨k + 1, by omega, by go_num, a3, _, c3, rfl, ?_, by omega, ?_, ?_⟩
     . rw [HST.out, List.length_append, HN1.out]
     . rw [HST.out]; exact hm3
     . exact (HKW.out.tr K2.out).newRow hg3 HMI.out.new
    case measure => simp [intOf]; omega
  . have hkk : l.take k = l := List.take_of_length_le (by have := HSZ.out; omega); rw [hkk] at HMI HN1; have e := HN1.out; subst e; go_wp2; go_ret; exact ⟨a1, c1, rfl, HMI.out, HKW.out⟩
theorem rin_any (n lo hi : Int) (w : World) : Calls Tryz.prog 68 #[.int .i64 n, .int .i64 lo, .int .i64 hi] w fun e w' => e = .returned (.bool (inB n lo hi)) /\ w' = w := by
 go_enter Tryz.func68, Tryz.ntmps68; go_wp2
 all_goals
  go_ret; refine ⟨?_, rfl⟩; simp [inB, *] <;> (first | omega | (intros; omega))
theorem rin_is {n lo hi : Int} {b : Bool} {w : World} (h : inB n lo hi = b) : Calls Tryz.prog 68 #[.int .i64 n, .int .i64 lo, .int .i64 hi] w fun e w' => e = .returned (.bool b) /\ w' = w := by
 rw [<- h]; exact rin_any n lo hi w
theorem rin_isM {n lo hi : Int} {b : Bool} {w : World} {Q : Ending -> World -> Prop} (h : inB n lo hi = b) (hQ : Q (.returned (.bool b)) w) : Calls Tryz.prog 68 #[.int .i64 n, .int .i64 lo, .int .i64 hi] w Q := (rin_is h).mono (by rintro e w9 ⟨rfl, rfl⟩; exact hQ)
theorem rapart_yes {X : Sa} {S : St} {w : World} (h : Sat w X S) (a b : Nat) (ha : a < S.apart.length) (hb : b < 32) : Calls Tryz.prog 89 #[siteV X S, .int .i64 a, .int .i64 b] w fun e w' => e = .returned (.bool ((S.ap a).testBit b)) /\ Kept w w' none := by
 have hkA : Kept w (w.alloc (.cells (cs9 X S) 49)) none := Kept.alloc _ _ _ _ _; have HK := Hid.mk' hkA; obtain ⟨xg, xgc, xa, xac, xb, xbc, xp, xpc, xe, xec, xl, xlc⟩ := X; obtain ⟨ba, oa, ea, hca⟩ := h.apAt (n := S.apart.length) (by omega) (by omega); dsimp only at ea; subst ea; have ka := hca a ha; have hba := block_lt ka; have har := h.apr a; have hak := h.ak.max; have hal := h.ak.room; have HB := Hid.mk' (has_in (S := S.ap a) hb); clear h hkA hca; go_enter Tryz.func89, Tryz.ntmps89; go_wp2_with (go_at_call 90; refine (rhas_any _ _ _ har).mono ?_; rintro e w3 ⟨rfl, rfl⟩; rw [HB.out]); go_ret; exact ⟨rfl, HK.out⟩
structure Few (S : St) : Prop where
 g : S.groups.length <= 40
 a : S.apart.length <= 40
 b : S.between.length <= 40
 p : S.phases.length <= 40
 e : S.eyes.length <= 60
 l : S.plans.length <= 40
 br : ∀ i, i < S.between.length -> (S.between.getD i []).length <= 40
 lr : ∀ i, i < S.plans.length -> (S.plans.getD i q0).splits.length <= 40
def GreatP (S : St) (w : World) (e : Ending) (w' : World) : Prop := ∃ g, e = .returned (.bool g) /\ (g = false -> Few S) /\ Kept w w' none
theorem GreatP.of {S : St} {w w' : World} (g : Bool) (h : g = false -> Few S) (k : Kept w w' none) : GreatP S w (.returned (.bool g)) w' := ⟨g, rfl, h, k⟩
theorem rgreat_any {X : Sa} {S : St} {w : World} (h : Sat w X S) : Calls Tryz.prog 11 #[siteV X S] w fun e w' => GreatP S w e w' := by
 have hkA : Kept w (w.alloc (.cells (cs9 X S) 49)) none := Kept.alloc _ _ _ _ _; have HSB := Hid.mk' (sbox_alloc h 49); have HK := Hid.mk' hkA; have hg9 : S.groups.length <= 9223372036854775807 := by have := h.gk.room; have := h.gk.max; omega
 have ha9 : S.apart.length <= 9223372036854775807 := by have := h.ak.room; have := h.ak.max; omega
 have hb9 : S.between.length <= 9223372036854775807 := by have := h.b.cap.room; have := h.b.cap.max; omega
 have hp9 : S.phases.length <= 9223372036854775807 := by have := h.pk.room; have := h.pk.max; omega
 have he9 : S.eyes.length <= 9223372036854775807 := by have := h.ek.room; have := h.ek.max; omega
 have hl9 : S.plans.length <= 9223372036854775807 := by have := h.l.cap.room; have := h.l.cap.max; omega
 clear h hkA; go_enter Tryz.func11, Tryz.ntmps11; by_cases h1 : 40 < S.groups.length
 case pos => go_wp2; go_ret; exact GreatP.of true (fun e => (nomatch e)) HK.out
 by_cases h2 : 40 < S.apart.length
 case pos => go_wp2; go_ret; exact GreatP.of true (fun e => (nomatch e)) HK.out
 by_cases h3 : 40 < S.between.length
 case pos => go_wp2; go_ret; exact GreatP.of true (fun e => (nomatch e)) HK.out
 by_cases h4 : 40 < S.phases.length
 case pos => go_wp2; go_ret; exact GreatP.of true (fun e => (nomatch e)) HK.out
 by_cases h5 : 60 < S.eyes.length
 case pos => go_wp2; go_ret; exact GreatP.of true (fun e => (nomatch e)) HK.out
 by_cases h6 : 40 < S.plans.length
 case pos => go_wp2; go_ret; exact GreatP.of true (fun e => (nomatch e)) HK.out
 go_wp2; generalize hW : (w.alloc (.cells (cs9 X S) 49)) = W at *; clear hW; go_loopw [3] (fun i wr => ∃ k : Nat, k <= S.between.length /\ i = .int .i64 k /\ Hid (∀ j, j < k -> (S.between.getD j []).length <= 40) /\ wr = W) (fun i _ => S.between.length - (intOf i).toNat)
 case atStart => exact ⟨0, Nat.zero_le _, rfl, (fun j hj => by omega), rfl⟩
 case round =>
  obtain ⟨k, hk, rfl, HJ, rfl⟩ := hrel; by_cases hlt : k < S.between.length
  . have c3 := HSB.out.c3; obtain ⟨ba, oa, ar, cr, ea, kb, hI⟩ := HSB.out.sat.b.at_ hlt; have hI1 := hI.cap.room; have hI2 := hI.cap.max; clear hI; rw [ea] at c3; generalize hm : (S.between.getD k []).length = m at *; have HM := Hid.mk' hm; clear hm; by_cases hx : 40 < m
    case pos => go_wp2; go_ret; exact GreatP.of true (fun e => (nomatch e)) HK.out
    go_wp2; go_roundw
    case rel => exact ⟨k + 1, by omega, by go_num, (fun j hj => (by
     by_cases e : j = k
     . subst e; rw [HM.out]; omega
     . exact HJ.out j (by omega))), trivial⟩
    case measure => simp [intOf]; omega
  . have e : k = S.between.length := by omega
    subst e; have c3 := HSB.out.c3; go_wp2; go_loopw [4] (fun i wx => ∃ k : Nat, k <= S.plans.length /\ i = .int .i64 k /\ Hid (∀ j, j < k -> (S.plans.getD j q0).splits.length <= 40) /\ wx = wr) (fun i _ => S.plans.length - (intOf i).toNat)
    case atStart => exact ⟨0, Nat.zero_le _, rfl, (fun j hj => by omega), rfl⟩
    case round =>
     obtain ⟨k, hk, rfl, HL, rfl⟩ := hrel; clear c3; have c11 := HSB.out.c11; by_cases hlt : k < S.plans.length
     . obtain ⟨pb, off, a', c', ea, p0, p1, p2, hI⟩ := HSB.out.sat.l.at_ hlt; have hI1 := hI.cap.room; have hI2 := hI.cap.max; clear hI p0 p1; rw [ea] at c11; generalize hm : (S.plans.getD k q0).splits.length = m at *; have HM := Hid.mk' hm; clear hm; by_cases hx : 40 < m
       case pos => go_wp2; go_ret; exact GreatP.of true (fun e => (nomatch e)) HK.out
       go_wp2; go_roundw
       case rel => exact ⟨k + 1, by omega, by go_num, (fun j hj => (by
        by_cases e : j = k
        . subst e; rw [HM.out]; omega
        . exact HL.out j (by omega))), trivial⟩
       case measure => simp [intOf]; omega
     . have e : k = S.plans.length := by omega
       subst e; go_wp2; go_ret; exact GreatP.of false (fun _ => ⟨by omega, by omega, by omega, by omega, by omega, by omega, HJ.out, HL.out⟩) HK.out
structure Rowb (w wr : World) (B : Nat) (a : Option Addr) (n c : Nat) (L : List Nat) : Prop where
 mine : Mine wr w.heap.size a n c L
 kept : Kept w wr none
 far : some B ≠ (Value.slice a n c).ownBlock
 lt : B < wr.heap.size
theorem Rowb.step {w wr w4 w3 : World} {B : Nat} {a a3 : Option Addr} {n c n3 c3 : Nat} {L M : List Nat} (h : Rowb w wr B a n c L) (k : Kept wr w4 none) (hm : Mine w3 w.heap.size a3 n3 c3 M) (hg : w4.grownBy w3 (Value.slice a n c).ownBlock) (ht : (Value.slice a3 n3 c3).ownBlock = (Value.slice a n c).ownBlock \/ (Value.slice a3 n3 c3).ownBlock = some w4.heap.size) : Rowb w w3 B a3 n3 c3 M /\ ∀ j v, wr.cell? ⟨B, j, none⟩ = some v -> w3.cell? ⟨B, j, none⟩ = some v := by
 have hs := k.size; have hl := h.lt; refine ⟨⟨hm, (h.kept.tr k).newRow hg (fun i e => (h.mine.lt i e).1), ?_, Nat.lt_of_lt_of_le (Nat.lt_of_lt_of_le h.lt k.size) hg.size⟩, fun j v hv => cell_keptR (cell_kept0 hv k) hg h.far⟩; rcases ht with e | e
 . rw [e]; exact h.far
 . rw [e]; intro e2; injection e2 with e2; omega
theorem rwhole_any {w : World} {a : Option Addr} {n c : Nat} {l : List Pl} (hP : Plans w a n c l) : Calls Tryz.prog 95 #[.slice a n c] w fun e w' => ∃ a' c', e = .returned (.tuple #[.slice a' (wholeL l).length c', .int .i64 (wholeE l)]) /\ Mine w' w.heap.size a' (wholeL l).length c' (wholeL l) /\ Kept w w' none := by
 have HP := Hid.mk' hP; have hsz := hP.size; have hml : n <= 9223372036854775807 := by have := hP.cap.room; have := hP.cap.max; omega
 by_cases h8 : 8 < n
 . have hE : wholeE l = 4 := by unfold wholeE; rw [if_pos (by omega)]
   have hL : wholeL l = [] := by unfold wholeL; rw [hE]; rfl
   rw [hE, hL]; clear hP hE hL hsz; go_enter Tryz.func95, Tryz.ntmps95; go_wp2; go_ret2; exact ⟨none, 0, rfl, Mine.empty _ _, Kept.refl _ _⟩
 have HBAD : Hid (∀ j, j < n -> mayB (l.getD j q0) = false -> wholeE l = 170 /\ wholeL l = []) := fun j hj hb => by
  have hm : mayL l = false := by
   unfold mayL; exact allB_no (by omega) hb
  have hE : wholeE l = 170 := by unfold wholeE; rw [if_neg (by omega), if_neg (by rw [hm]; decide)]
  exact ⟨hE, by unfold wholeL; rw [hE]; rfl⟩
 have HGOOD : Hid ((∀ j, j < n -> mayB (l.getD j q0) = true) -> wholeE l = 0 /\ wholeL l = smlI (plansI l)) := fun h => by
  have hm : mayL l = true := by
   unfold mayL; exact allB_iff.2 (fun j hj => h j (by omega))
  have hE : wholeE l = 0 := by unfold wholeE; rw [if_neg (by omega), if_pos hm]
  exact ⟨hE, by unfold wholeL; rw [hE]; rfl⟩
 have HSZ := Hid.mk' hsz; have hI1 : Ints (w.alloc (.cells #[.int .i64 (n : Int)] 3)) (some ⟨w.heap.size, 0, none⟩) 1 1 [(n : Int)] := ints_of w [(n : Int)] 3 (fun x hx => by simp at hx; omega) (by simp); have HC1 := Hid.mk' (rsmalls_any hI1 (fun x hx => by simp at hx; omega) (by omega)); have hs1 : (smlI [(n : Int)]).length <= 10 := smlI_len [(n : Int)] (fun x hx => by simp at hx; omega); clear hP hI1 hsz; go_enter Tryz.func95, Tryz.ntmps95; go_wp2_with (go_at_call 94; refine HC1.out.mono ?_; rintro e w1 ⟨a1, c1, rfl, hm1, hk1⟩); have HK1 : Hid (Kept w w1 none) := (Kept.alloc w _ _ _ _).tr hk1; have HM1 := Hid.mk' (hm1.lower (b2 := w.heap.size) (by simp)); clear hk1 hm1 HC1; go_loopw [4, 5] (fun s i wr => ∃ k : Nat, k <= n /\ i = .int .i64 k /\ ∃ a1 n1 c1, s = .slice a1 n1 c1 /\ n1 = (smlI [(n : Int)] ++ smlI ((l.take k).flatMap plI)).length /\ n1 <= 10 + 110 * k /\ Mine wr w.heap.size a1 n1 c1 (smlI [(n : Int)] ++ smlI ((l.take k).flatMap plI)) /\ Kept w wr none /\ Hid (∀ j, j < k -> mayB (l.getD j q0) = true)) (fun _ i _ => n - (intOf i).toNat)
 case atStart => exact ⟨0, Nat.zero_le _, rfl, a1, _, c1, rfl, by simp [smlI], by omega, by simpa [smlI] using HM1.out, HK1.out, fun j hj => by omega⟩
 case round =>
  clear HM1 HK1; obtain ⟨k, hk, rfl, a2, n2, c2, rfl, hn2, hle, hMi, hkw, HALL⟩ := hrel; have HMI := Hid.mk' hMi; have HN2 := Hid.mk' hn2; have HKW := Hid.mk' hkw; clear hMi hn2; by_cases hlt : k < n
  . obtain ⟨b, off, a', c', rfl, k0, k1, k2, hI⟩ := (HP.out.kept hkw).at_ hlt; have hkl : k < l.length := by have := HSZ.out; omega
    have hin : l.getD k q0 ∈ l := getD_mem hkl; have hrg := HP.out.rng _ hin
    have hst : smlI [(n : Int)] ++ smlI ((l.take (k + 1)).flatMap plI) = smlI [(n : Int)] ++ smlI ((l.take k).flatMap plI) ++ smlI [(l.getD k q0).cycle, (l.getD k q0).offset, ((l.getD k q0).splits.length : Int)] ++ smlI (l.getD k q0).splits := by
     rw [pl_take hkl, List.flatMap_append, smlI_append, List.flatMap_singleton]; have : plI (l.getD k q0) = [(l.getD k q0).cycle, (l.getD k q0).offset, ((l.getD k q0).splits.length : Int)] ++ (l.getD k q0).splits := rfl; rw [this, smlI_append, List.append_assoc, List.append_assoc]
    have HST := Hid.mk' hst
    have hIw : ∀ wx, Kept w wx none -> Ints wx a' (l.getD k q0).splits.length c' (l.getD k q0).splits := by
     obtain ⟨b2, off2, a2', c2', e2, _, _, k2', hI'⟩ := HP.out.at_ hlt; injection e2 with e2; injection e2 with e3 e4; subst e3 e4; have h1 := cell_kept0 k2' hkw; rw [h1] at k2; injection k2 with k2; injection k2 with e5 e6 e7; subst e5 e7; exact fun wx q => hI'.kept q
    have HIW := Hid.mk' hIw; have HB := Hid.mk' (HBAD.out k hlt)
    have HA2 : Hid (mayB (l.getD k q0) = true -> ∀ j, j < k + 1 -> mayB (l.getD j q0) = true) := fun h4 j hj => by
     by_cases e : j = k
     . subst e; exact h4
     . exact HALL.out j (by omega)
    have hlm : (l.getD k q0).splits.length <= 9223372036854775807 := by have := hI.cap.room; have := hI.cap.max; omega
    clear hst hI hIw hin; generalize l.getD k q0 = p at *; have hr1 := hrg.1; have hr2 := hrg.2; unfold i64B at hr1 hr2; have HKA : Hid (Kept w (wr.alloc (.cells #[.int .i64 p.cycle, .int .i64 p.offset, .slice a' p.splits.length c'] 79)) none) := HKW.out.tr (Kept.alloc _ _ _ _ _)
    cases h1 : inB p.cycle 1 1048576 with
    | false =>
     have HF := Hid.mk' (HB.out (by simp [mayB, timeB, h1])); go_wp2_with (go_at_call 68; refine rin_isM (by assumption) ?_); go_ret2; rw [HF.out.1, HF.out.2]; exact ⟨none, 0, rfl, Mine.empty _ _, HKA.out⟩
    | true =>
     have hcy := inB_iff.1 h1
     cases h2 : inB p.offset 0 (p.cycle - 1) with
     | false =>
      have HF := Hid.mk' (HB.out (by simp [mayB, timeB, h1, h2])); go_wp2_with (go_at_call 68; refine rin_isM (by assumption) ?_); go_ret2; rw [HF.out.1, HF.out.2]; exact ⟨none, 0, rfl, Mine.empty _ _, HKA.out⟩
     | true =>
      have hof := inB_iff.1 h2
      cases h3 : inB (p.splits.length : Int) 1 8 with
      | false =>
       have HF := Hid.mk' (HB.out (by simp [mayB, timeB, h1, h2, h3])); go_wp2_with (go_at_call 68; refine rin_isM (by assumption) ?_); go_ret2; rw [HF.out.1, HF.out.2]; exact ⟨none, 0, rfl, Mine.empty _ _, HKA.out⟩
      | true =>
       have hsp := inB_iff.1 h3
       have hrg3 : ∀ x ∈ [p.cycle, p.offset, (p.splits.length : Int)], 0 <= x /\ x <= 1048576 := fun x hx => by
        simp only [List.mem_cons, List.mem_nil_iff, or_false] at hx; rcases hx with rfl | rfl | rfl <;> omega
       have hI3 : Ints ((wr.alloc (.cells #[.int .i64 p.cycle, .int .i64 p.offset, .slice a' p.splits.length c'] 79)).alloc (.cells #[.int .i64 p.cycle, .int .i64 p.offset, .int .i64 (p.splits.length : Int)] 3)) (some ⟨wr.heap.size + 1, 0, none⟩) 3 3 [p.cycle, p.offset, (p.splits.length : Int)] := by
        have h0 := ints_of (wr.alloc (.cells #[.int .i64 p.cycle, .int .i64 p.offset, .slice a' p.splits.length c'] 79)) [p.cycle, p.offset, (p.splits.length : Int)] 3 (fun x hx => by have := hrg3 x hx; omega) (by simp); rw [World.size_alloc] at h0; exact h0
       have HC3 := Hid.mk' (rsmalls_any hI3 (fun x hx => (hrg3 x hx).1) (by omega)); have hs3 : (smlI [p.cycle, p.offset, (p.splits.length : Int)]).length <= 30 := smlI_len [p.cycle, p.offset, (p.splits.length : Int)] (fun x hx => by have := hrg3 x hx; omega); have HR0 : Hid (Rowb w (wr.alloc (.cells #[.int .i64 p.cycle, .int .i64 p.offset, .slice a' p.splits.length c'] 79)) wr.heap.size a2 n2 c2 (smlI [(n : Int)] ++ smlI ((l.take k).flatMap plI))) := ⟨HMI.out.kept (Kept.alloc _ _ _ _ _), HKA.out, ne_own HMI.out (.inr (Nat.le_refl _)), by simp⟩; have HX := Hid.mk' (box3 wr (.int .i64 p.cycle) (.int .i64 p.offset) (.slice a' p.splits.length c') 79).2.2; clear hI3 hrg3; have hwr := HKW.out.size
       go_wp2_with (first
        | (have hgo := B4; clear hgo; at_builtin; refine wpList_joinA (by rfl) _ _ (by rfl) w.heap.size _ _ _ (by rfl) (HR0.out.mine.kept ((Kept.alloc _ _ _ _ _).tr K4.out)).own a4 _ c4 _ (by rfl) B4.out (fun e => (M4.out.nil e).2) (by omega) (by have := K4.out.size; simp at this; omega) ?_; intro a5 c5 w5 hm5 hg5 hat5; have hRX := HR0.out.step ((Kept.alloc _ _ _ _ _).tr K4.out) hm5 hg5 hat5; have HR5 := Hid.mk' hRX.1; have HX5 := Hid.mk' (hRX.2 _ _ HX.out); clear hRX hm5 hg5 hat5)
        | (go_at_call 94; refine HC3.out.mono ?_; rintro e w4 ⟨a4, c4, rfl, hm4, hk4⟩; have M4 := Hid.mk' hm4; have B4 := Hid.mk' (hm4.by (smlI_lt _)); have K4 := Hid.mk' hk4; clear hm4 hk4)
        | (go_at_call 68; refine rin_isM (by assumption) ?_))
       go_loopw [4, 7] (fun s i wx => ∃ m : Nat, m <= p.splits.length /\ i = .int .i64 m /\ ∃ a6 n6 c6, s = .slice a6 n6 c6 /\ n6 = n2 + (smlI [p.cycle, p.offset, (p.splits.length : Int)]).length + (smlI (p.splits.take m)).length /\ n6 <= 40 + 110 * k + 10 * m /\ Rowb w wx wr.heap.size a6 n6 c6 (smlI [(n : Int)] ++ smlI ((l.take k).flatMap plI) ++ smlI [p.cycle, p.offset, (p.splits.length : Int)] ++ smlI (p.splits.take m)) /\ wx.cell? ⟨wr.heap.size, 2, none⟩ = some (.slice a' p.splits.length c') /\ Hid (∀ j, j < m -> inB (p.splits.getD j 0) 0 1048576 = true)) (fun _ i _ => p.splits.length - (intOf i).toNat)
       case atStart => exact ⟨0, Nat.zero_le _, rfl, a5, _, c5, rfl, by simp [smlI], by omega, by simpa [smlI] using HR5.out, HX5.out, fun j hj => by omega⟩
       case round =>
        clear HR5 HX5; obtain ⟨m, hm, rfl, a6, n6, c6, rfl, hn6, hle6, hR6, cx, HJ⟩ := hrel; have HR6 := Hid.mk' hR6; have HN6 := Hid.mk' hn6; clear hR6 hn6; by_cases hmt : m < p.splits.length
        . obtain ⟨bi, oi, ei, hbi, hci⟩ := (HIW.out _ HR6.out.kept).at_ (by omega); subst ei; have kc := hci m hmt; clear hci
          cases h4 : inB (p.splits.getD m 0) 0 1048576 with
          | false =>
           have HF := Hid.mk' (HB.out (by unfold mayB; rw [splits_all, allB_no hmt h4]; simp)); generalize p.splits.getD m 0 = v at *; go_wp2_with (go_at_call 68; refine rin_isM (by assumption) ?_); go_ret2; rw [HF.out.1, HF.out.2]; exact ⟨none, 0, rfl, Mine.empty _ _, HR6.out.kept⟩
          | true =>
           have HJ2 : Hid (∀ j, j < m + 1 -> inB (p.splits.getD j 0) 0 1048576 = true) := fun j hj => by
            by_cases e : j = m
            . subst e; exact h4
            . exact HJ.out j (by omega)
           have hst2 : smlI (p.splits.take (m + 1)) = smlI (p.splits.take m) ++ smlI [p.splits.getD m 0] := by rw [take_snocI hmt, smlI_append]
           have HST2 := Hid.mk' hst2; clear hst2; generalize p.splits.getD m 0 = v at *; have hv := inB_iff.1 h4; have hI7 : Ints (wr.alloc (.cells #[.int .i64 v] 3)) (some ⟨wr.heap.size, 0, none⟩) 1 1 [v] := ints_of wr [v] 3 (fun x hx => by simp at hx; omega) (by simp); have HC7 := Hid.mk' (rsmalls_any hI7 (fun x hx => by simp at hx; omega) (by omega)); clear hI7; have hs7 : (smlI [v]).length <= 10 := smlI_len [v] (fun x hx => by simp at hx; omega); have hwx := HR6.out.kept.size
           go_wp2_with (first
            | (have hgo := B7; clear hgo; at_builtin; refine wpList_joinA (by rfl) _ _ (by rfl) w.heap.size _ _ _ (by rfl) (HR6.out.mine.kept ((Kept.alloc _ _ _ _ _).tr K7.out)).own a7 _ c7 _ (by rfl) B7.out (fun e => (M7.out.nil e).2) (by omega) (by have := K7.out.size; simp at this; omega) ?_; intro a8 c8 w8 hm8 hg8 hat8; have hRX := HR6.out.step ((Kept.alloc _ _ _ _ _).tr K7.out) hm8 hg8 hat8; have HR8 := Hid.mk' hRX.1; have HX8 := Hid.mk' (hRX.2 _ _ cx); clear hRX hm8 hg8 hat8)
            | (go_at_call 94; refine HC7.out.mono ?_; rintro e w7 ⟨a7, c7, rfl, hm7, hk7⟩; have M7 := Hid.mk' hm7; have B7 := Hid.mk' (hm7.by (smlI_lt _)); have K7 := Hid.mk' hk7; clear hm7 hk7)
            | (go_at_call 68; refine rin_isM (by assumption) ?_))
           go_roundw
           case rel => exact ⟨m + 1, by omega, by go_num, a8, _, c8, rfl, by rw [HST2.out, List.length_append, HN6.out]; omega, by omega, by rw [HST2.out, <- List.append_assoc]; exact HR8.out, HX8.out, HJ2⟩
           case measure => simp [intOf]; omega
        . have hmm : m = p.splits.length := by omega
          have hmk : p.splits.take m = p.splits := List.take_of_length_le (by omega); rw [hmk] at HR6 HN6
          have HMY : Hid (mayB p = true) := by
           show mayB p = true
           unfold mayB timeB; rw [h1, h2, h3, splits_all, allB_iff.2 (fun j hj => HJ.out j (by omega))]; rfl
          have HA3 := Hid.mk' (HA2.out HMY.out); go_wp2; go_roundw
          case rel => exact ⟨k + 1, by omega, by go_num, a6, n6, c6, rfl, by rw [HST.out, List.length_append, List.length_append, <- HN2.out]; exact HN6.out, by omega, by rw [HST.out]; exact HR6.out.mine, HR6.out.kept, HA3⟩
          case measure => simp [intOf]; omega
  . have hkk : l.take k = l := List.take_of_length_le (by have := HSZ.out; omega); rw [hkk] at HMI HN2
    have e2 : smlI [(n : Int)] ++ smlI (l.flatMap plI) = smlI (plansI l) := by
     rw [<- smlI_append, <- HSZ.out]; rfl
    rw [e2] at HMI HN2; have e := HN2.out; subst e; have HG := Hid.mk' (HGOOD.out (fun j hj => HALL.out j (by omega))); go_wp2; go_ret2; rw [HG.out.1, HG.out.2]; exact ⟨a2, c2, rfl, HMI.out, HKW.out⟩
theorem rlit {wr w1 : World} {b : Option Addr} {m d : Nat} {l : List Int} (hk1 : Kept wr w1 none) (hI : Ints w1 b m d l) (hpos : ∀ x ∈ l, 0 <= x) (hlen : m <= 1099511627776) :
 Calls Tryz.prog 94 #[.slice b m d] w1 fun e w' => ∃ a' c', e = .returned (.slice a' (smlI l).length c') /\ Mine w' wr.heap.size a' (smlI l).length c' (smlI l) /\ Kept wr w' none :=
 (rsmalls_any hI hpos hlen).mono fun e w' ⟨a', c', he, hm, hkk⟩ => ⟨a', c', he, hm.lower hk1.size, hk1.tr hkk⟩
theorem rinside_any {X : Sa} {S : St} {w : World} (h : Sat w X S) (hP : Pos S) (hWh : wholeE S.plans = 0) : Calls Tryz.prog 73 #[siteV X S] w fun e w' => ∃ a' c', e = .returned (.slice a' (siteL S).length c') /\ Mine w' w.heap.size a' (siteL S).length c' (siteL S) /\ Kept w w' none := by
 have hsb := sbox_alloc h 49; have hk0 : Kept w (w.alloc (.cells (cs9 X S) 49)) none := Kept.alloc _ _ _ _ _; have h12 := hsb; have HPO := Hid.mk' hP; have HWH := Hid.mk' hWh; clear hWh; have hg16 := hP.ok.ng; have hp8 := hP.ok.np; have he24 := hP.ok.ne; have ha16 : S.apart.length <= 16 := by have := hP.ok.na; omega
 have hb16 : S.between.length <= 16 := by have := hP.ok.nb; omega
 have hid := hP.id; have hnr := h.nr; unfold i64B at hnr; have hs0 : (w.alloc (.cells (cs9 X S) 49)).heap.size = w.heap.size + 1 := World.size_alloc _ _
 have hI0 : Ints ((w.alloc (.cells (cs9 X S) 49)).alloc (.cells #[.int .i64 S.id, .int .i64 (S.groups.length : Int)] 3)) (some ⟨w.heap.size + 1, 0, none⟩) 2 2 [S.id, (S.groups.length : Int)] := by
  have h0 := ints_of (w.alloc (.cells (cs9 X S) 49)) [S.id, (S.groups.length : Int)] 3 (fun x hx => (by
   simp only [List.mem_cons, List.mem_nil_iff, or_false] at hx; rcases hx with rfl | rfl <;> omega)) (by simp)
  rw [hs0] at h0; exact h0
 have hsl0 : (smlI [S.id, (S.groups.length : Int)]).length <= 20 := smlI_le (m := 2) (fun x hx => (hI0.rng x hx).2) (by simp)
 have hpos0 : ∀ x ∈ [S.id, (S.groups.length : Int)], 0 <= x := fun x hx => by
  simp only [List.mem_cons, List.mem_nil_iff, or_false] at hx; rcases hx with rfl | rfl <;> omega
 have hcall0 := rlit (Kept.alloc _ _ _ _ _) hI0 hpos0 (by omega); have HC0 := Hid.mk' hcall0; have HSB := Hid.mk' hsb; have HK0 := Hid.mk' hk0; have HS0 := Hid.mk' hs0; clear h hP hsb hk0 h12 hcall0 hI0 hpos0 hs0; go_enter Tryz.func73, Tryz.ntmps73; go_wp2_with (go_at_call 94; refine HC0.out.mono ?_; rintro e w1 ⟨a1, c1, rfl, hm1, hk1⟩; have c1' := (HSB.out.kept hk1).c1); have HL : Hid (Lst (w.alloc (.cells (cs9 X S) 49)) w1 a1 (smlI [S.id, (S.groups.length : Int)]).length c1 (I1 S) 20) := ⟨hm1, rfl, by omega, hk1⟩; clear hm1 hk1 HC0; generalize hW0 : w.alloc (.cells (cs9 X S) 49) = W0 at *; have hw0 : W0.heap.size = w.heap.size + 1 := HS0.out; clear hW0 c1' HS0; go_loopw [3, 4] (fun s i wr => ∃ k : Nat, k <= S.groups.length /\ i = .int .i64 k /\ ∃ a1 n1 c1, s = .slice a1 n1 c1 /\ Lst W0 wr a1 n1 c1 (I2 S k) (20 + 30 * k)) (fun _ i _ => S.groups.length - (intOf i).toNat)
 case atStart => exact ⟨0, Nat.zero_le _, rfl, _, _, _, rfl, HL.out.at0 (by simp [I2]) (by omega) (by omega)⟩
 case round =>
  clear HL; obtain ⟨k, hk, rfl, a1, n1, c1, rfl, hL⟩ := hrel; have hle := hL.le; have hkw := hL.kept; have HL := Hid.mk' hL; clear hL; have cc1 := (HSB.out.kept hkw).c1; by_cases hlt : k < S.groups.length
  . obtain ⟨bg, og, eg, g0', g1', g2'⟩ := HSB.out.sat.grAt hlt; have hgr := HSB.out.sat.gr _ (getD_mem (d := g0) hlt); have hgp := HPO.out.gr k hlt; have hk256 : (S.gr k).kind < 256 := hgr.1; have hr1 := hgr.2.1; have hr2 := hgr.2.2; unfold i64B at hr1 hr2; change -9223372036854775808 <= (S.gr k).min /\ (S.gr k).min <= 9223372036854775807 at hr1; change -9223372036854775808 <= (S.gr k).yellow /\ (S.gr k).yellow <= 9223372036854775807 at hr2; clear hgr
    have hpos : ∀ x ∈ ([((S.gr k).kind : Int), (S.gr k).min, (S.gr k).yellow] : List Int), 0 <= x := fun x hx => by
     simp only [List.mem_cons, List.mem_nil_iff, or_false] at hx; rcases hx with rfl | rfl | rfl <;> omega
    have hrg3 : ∀ x ∈ ([((S.gr k).kind : Int), (S.gr k).min, (S.gr k).yellow] : List Int), -9223372036854775808 <= x /\ x <= 9223372036854775807 := fun x hx => by
     simp only [List.mem_cons, List.mem_nil_iff, or_false] at hx; rcases hx with rfl | rfl | rfl <;> omega
    have hI3 : ∀ wx : World, Ints (wx.alloc (.cells #[.int .i64 (((S.gr k).kind : Int)), .int .i64 ((S.gr k).min), .int .i64 ((S.gr k).yellow)] 3)) (some ⟨wx.heap.size, 0, none⟩) 3 3 [((S.gr k).kind : Int), (S.gr k).min, (S.gr k).yellow] := fun wx => ints_of wx [((S.gr k).kind : Int), (S.gr k).min, (S.gr k).yellow] 3 hrg3 (by simp)
    have hcall := rlit ((Kept.alloc wr _ _ _ _).tr (Kept.drew _ _) : Kept wr (wr.alloc (.cells #[.int .i64 (((S.gr k).kind : Int)), .int .i64 ((S.gr k).min), .int .i64 ((S.gr k).yellow)] 3)).drew none) ((hI3 wr).kept (Kept.drew _ _)) hpos (by omega)
    have HWR : Hid (IntKind.i64.wrap ((S.gr k).kind : Int) = ((S.gr k).kind : Int)) := by
     show _ = _
     simp [IntKind.wrap, IntKind.bits, IntKind.signed]; omega
    have hsl : (smlI ([((S.gr k).kind : Int), (S.gr k).min, (S.gr k).yellow] : List Int)).length <= 30 := smlI_le (m := 3) (fun x hx => (hrg3 x hx).2) (by simp); have HCALL := Hid.mk' hcall; have HST := Hid.mk' (I2_succ hlt); have f1 : ∀ w', Kept W0 w' none -> w'.cell? ⟨w.heap.size, 1, none⟩ = some (.slice (some ⟨bg, og, none⟩) S.groups.length X.gc) := fun w' q => (HSB.out.kept q).c1.trans (by rw [eg])
    have G0 := fun (w' : World) (q : Kept W0 w' none) => cell_kept0 g0' q
    have G1 := fun (w' : World) (q : Kept W0 w' none) => cell_kept0 g1' q
    have G2 := fun (w' : World) (q : Kept W0 w' none) => cell_kept0 g2' q
    rw [eg] at cc1; rw [eg] at *; clear hcall hpos hrg3 hI3 g0' g1' g2' eg; go_wp2
    go_region_held_law (fun w' => Kept W0 w' none)
     ((first | assumption | exact Kept.tr hkw (Kept.drew _ _) | exact Kept.tr (Kept.tr hkw (Kept.drew _ _)) (Kept.alloc _ _ _ _ _) | exact Kept.tr hkw K4.out))
     ((first | (have hgo := B4; clear hgo; refine step_joinM (by rfl) _ _ (by rfl) W0.heap.size _ _ _ (by rfl) (own_keptR HL.out.mine.own K4.out (fun i _ => by simp)) a4 _ c4 _ (by rfl) B4.out (fun e => (M4.out.nil e).2) (by have := HL.out.le; omega) (by have := HL.out.kept.size; have := K4.out.size; omega) ?_; intro a3 c3 w3 hm3 hg3; have hk3 := (HL.out.kept.tr K4.out).newRow hg3 HL.out.mine.new) | (go_at_call 94; rw [HWR.out]; refine HCALL.out.mono ?_; rintro e w4 ⟨a4, c4, rfl, hm4, hk4⟩; have M4 := Hid.mk' hm4; have B4 := Hid.mk' (hm4.by (smlI_lt _)); have K4 := Hid.mk' hk4; clear hm4 hk4)))
    go_wp2; go_roundw
    case rel => exact ⟨k + 1, by omega, by go_num, a3, _, c3, rfl, HL.out.grow hm3 hk3 HST.out (by omega)⟩
    case measure => simp [intOf]; omega
  . have hkk : k = S.groups.length := by omega
    subst hkk; have c2' := (HSB.out.kept hkw).c2; go_wp2; go_loopw [3, 5] (fun s i wr => ∃ k : Nat, k <= S.apart.length /\ i = .int .i64 k /\ ∃ a1 n1 c1, s = .slice a1 n1 c1 /\ Lst W0 wr a1 n1 c1 (I3 S k) (500 + 10 * k)) (fun _ i _ => S.apart.length - (intOf i).toNat)
    case atStart => exact ⟨0, Nat.zero_le _, rfl, _, _, _, rfl, HL.out.at0 (by simp [I3]) (by omega) (by omega)⟩
    case round =>
     clear HL; obtain ⟨k, hk, rfl, a1, n1, c1, rfl, hL⟩ := hrel; have hle := hL.le; have hkw := hL.kept; have HL := Hid.mk' hL; clear hL; have cc2 := (HSB.out.kept hkw).c2; by_cases hlt : k < S.apart.length
     . obtain ⟨ba, oa, ea, hca⟩ := (HSB.out.kept hkw).sat.apAt (n := S.apart.length) (by omega) (by omega); have ka := hca k hlt; have har := HSB.out.sat.apr k; rw [ea] at cc2; rw [ea] at *; clear ea hca
       have hI : Ints (wr.alloc (.cells #[.int .i64 (((S.ap k : Nat) : Int))] 3)) (some ⟨wr.heap.size, 0, none⟩) 1 1 [((S.ap k : Nat) : Int)] := by
        have h0 := ints_of wr [((S.ap k : Nat) : Int)] 3 (fun x hx => (by
         simp only [List.mem_cons, List.mem_nil_iff, or_false] at hx; subst hx; omega)) (by simp)
        skip
        exact h0
       have hpos : ∀ x ∈ ([((S.ap k : Nat) : Int)] : List Int), 0 <= x := fun x hx => by
        simp only [List.mem_cons, List.mem_nil_iff, or_false] at hx; subst hx; omega
       have hcall := rlit (Kept.alloc wr _ _ _ _ : Kept wr (wr.alloc (.cells #[.int .i64 (((S.ap k : Nat) : Int))] 3)) none) hI hpos (by omega)
       have hsl : (smlI ([((S.ap k : Nat) : Int)] : List Int)).length <= 10 := smlI_le (m := 1) (fun x hx => (by
        have := hI.rng x hx; omega)) (by simp)
       have HCALL := Hid.mk' hcall; have HST := Hid.mk' (I3_succ hlt); clear hcall hI hpos; go_wp2_with (first | (have hgo := B4; clear hgo; at_builtin; refine wpList_join (by rfl) _ _ (by rfl) W0.heap.size _ _ _ (by rfl) (own_keptR HL.out.mine.own K4.out (fun i _ => by simp)) a4 _ c4 _ (by rfl) B4.out (fun e => (M4.out.nil e).2) (by have := HL.out.le; omega) (by have := HL.out.kept.size; have := K4.out.size; omega) ?_; intro a3 c3 w3 hm3 hg3; have hk3 := (HL.out.kept.tr K4.out).newRow hg3 HL.out.mine.new) | (go_at_call 94; refine HCALL.out.mono ?_; rintro e w4 ⟨a4, c4, rfl, hm4, hk4⟩; have M4 := Hid.mk' hm4; have B4 := Hid.mk' (hm4.by (smlI_lt _)); have K4 := Hid.mk' hk4; clear hm4 hk4)); go_roundw
       case rel => exact ⟨k + 1, by omega, by go_num, a3, _, c3, rfl, HL.out.grow hm3 hk3 HST.out (by omega)⟩
       case measure => simp [intOf]; omega
     . have hkk : k = S.apart.length := by omega
       subst hkk; have c3' := (HSB.out.kept hkw).c3; go_wp2; go_loopw [3, 6] (fun s i wr => ∃ k : Nat, k <= S.between.length /\ i = .int .i64 k /\ ∃ a1 n1 c1, s = .slice a1 n1 c1 /\ Lst W0 wr a1 n1 c1 (I4 S k) (660 + 160 * k)) (fun _ i _ => S.between.length - (intOf i).toNat)
       case atStart => exact ⟨0, Nat.zero_le _, rfl, _, _, _, rfl, HL.out.at0 (by simp [I4]) (by omega) (by omega)⟩
       case round =>
        clear HL; obtain ⟨k, hk, rfl, a1, n1, c1, rfl, hL⟩ := hrel; have hle := hL.le; have hkw := hL.kept; have HL := Hid.mk' hL; clear hL; have cc3 := (HSB.out.kept hkw).c3; by_cases hlt : k < S.between.length
        . obtain ⟨bb, ob, ar, cr, eb, kb0, hI⟩ := HSB.out.sat.b.at_ hlt; have kb := cell_kept0 kb0 hkw; have hrl := HPO.out.row k hlt; have hbp := HPO.out.bt k hlt; have hcall := rlit (Kept.refl wr none) (hI.kept hkw) hbp (by omega); have hsl := smlI_le (m := 16) (fun x hx => (hI.rng x hx).2) hrl; have HCALL := Hid.mk' hcall; have HST := Hid.mk' (I4_succ hlt); rw [eb] at cc3; rw [eb] at *; clear hcall hI hbp kb0 eb; generalize S.between.getD k [] = R at *; go_wp2_with (first | (have hgo := B4; clear hgo; at_builtin; refine wpList_join (by rfl) _ _ (by rfl) W0.heap.size _ _ _ (by rfl) (own_keptR HL.out.mine.own K4.out (fun i _ => by simp)) a4 _ c4 _ (by rfl) B4.out (fun e => (M4.out.nil e).2) (by have := HL.out.le; omega) (by have := HL.out.kept.size; have := K4.out.size; omega) ?_; intro a3 c3 w3 hm3 hg3; have hk3 := (HL.out.kept.tr K4.out).newRow hg3 HL.out.mine.new) | (go_at_call 94; refine HCALL.out.mono ?_; rintro e w4 ⟨a4, c4, rfl, hm4, hk4⟩; have M4 := Hid.mk' hm4; have B4 := Hid.mk' (hm4.by (smlI_lt _)); have K4 := Hid.mk' hk4; clear hm4 hk4)); go_roundw
          case rel => exact ⟨k + 1, by omega, by go_num, a3, _, c3, rfl, HL.out.grow hm3 hk3 HST.out (by omega)⟩
          case measure => simp [intOf]; omega
        . have hkk : k = S.between.length := by omega
          subst hkk; have c4' := (HSB.out.kept hkw).c4
          have hI : Ints (wr.alloc (.cells #[.int .i64 (((S.phases.length : Nat) : Int))] 3)) (some ⟨wr.heap.size, 0, none⟩) 1 1 [((S.phases.length : Nat) : Int)] := ints_of wr [((S.phases.length : Nat) : Int)] 3 (fun x hx => (by
           simp only [List.mem_cons, List.mem_nil_iff, or_false] at hx; subst hx; omega)) (by simp)
          have hpos : ∀ x ∈ ([((S.phases.length : Nat) : Int)] : List Int), 0 <= x := fun x hx => by
           simp only [List.mem_cons, List.mem_nil_iff, or_false] at hx; subst hx; omega
          have hcall := rlit (Kept.alloc wr _ _ _ _ : Kept wr (wr.alloc (.cells #[.int .i64 (((S.phases.length : Nat) : Int))] 3)) none) hI hpos (by omega); have hsl : (smlI ([((S.phases.length : Nat) : Int)] : List Int)).length <= 10 := smlI_le (m := 1) (fun x hx => (hI.rng x hx).2) (by simp); have HCALL := Hid.mk' hcall; clear hcall hI hpos; go_wp2_with (first | (have hgo := B4; clear hgo; at_builtin; refine wpList_join (by rfl) _ _ (by rfl) W0.heap.size _ _ _ (by rfl) (own_keptR HL.out.mine.own K4.out (fun i _ => by simp)) a4 _ c4 _ (by rfl) B4.out (fun e => (M4.out.nil e).2) (by have := HL.out.le; omega) (by have := HL.out.kept.size; have := K4.out.size; omega) ?_; intro a3 c3 w3 hm3 hg3; have hk3 := (HL.out.kept.tr K4.out).newRow hg3 HL.out.mine.new; have c4x := (HSB.out.kept hk3).c4) | (go_at_call 94; refine HCALL.out.mono ?_; rintro e w4 ⟨a4, c4, rfl, hm4, hk4⟩; have M4 := Hid.mk' hm4; have B4 := Hid.mk' (hm4.by (smlI_lt _)); have K4 := Hid.mk' hk4; clear hm4 hk4)); have HL2 := Hid.mk' (HL.out.grow (bd' := 3230) hm3 hk3 rfl (by omega)); clear HL hm3 hle hkw HCALL hsl c4' c4x; have HL := HL2; clear HL2; go_loopw [3, 7] (fun s i wr => ∃ k : Nat, k <= S.phases.length /\ i = .int .i64 k /\ ∃ a1 n1 c1, s = .slice a1 n1 c1 /\ Lst W0 wr a1 n1 c1 (I5 S k) (3230 + 50 * k)) (fun _ i _ => S.phases.length - (intOf i).toNat)
          case atStart => exact ⟨0, Nat.zero_le _, rfl, _, _, _, rfl, HL.out.at0 (by simp [I5]) (by omega) (by omega)⟩
          case round =>
           clear HL; obtain ⟨k, hk, rfl, a1, n1, c1, rfl, hL⟩ := hrel; have hle := hL.le; have hkw := hL.kept; have HL := Hid.mk' hL; clear hL; have cc4 := (HSB.out.kept hkw).c4; by_cases hlt : k < S.phases.length
           . obtain ⟨bp, op, ep, q0', q1', q2', q3', q4'⟩ := (HSB.out.kept hkw).sat.phAt hlt; have hgr := HSB.out.sat.pr _ (getD_mem (d := p0) hlt); have hgp := HPO.out.ph k hlt; have hk256 : (S.ph k).groups < 4294967296 := hgr.1; have hr1 := hgr.2.1; have hr2 := hgr.2.2.1; have hr3 := hgr.2.2.2; unfold i64B at hr1 hr2 hr3; change -9223372036854775808 <= (S.ph k).min /\ (S.ph k).min <= 9223372036854775807 at hr1; change -9223372036854775808 <= (S.ph k).max /\ (S.ph k).max <= 9223372036854775807 at hr2; change -9223372036854775808 <= (S.ph k).gap /\ (S.ph k).gap <= 9223372036854775807 at hr3; rw [ep] at cc4; rw [ep] at *; clear ep hgr
             cases hal : (S.ph k).always with
             | true =>
              rw [hal] at q4'
              have hI : Ints ((wr.alloc (.cells #[.int .u32 ((S.ph k).groups : Int), .int .i64 (S.ph k).min, .int .i64 (S.ph k).max, .int .i64 (S.ph k).gap, .bool true] 110)).alloc (.cells #[.int .i64 (((S.ph k).groups : Int)), .int .i64 ((S.ph k).min), .int .i64 ((S.ph k).max), .int .i64 ((S.ph k).gap), .int .i64 (1)] 3)) (some ⟨wr.heap.size + 1, 0, none⟩) 5 5 [((S.ph k).groups : Int), (S.ph k).min, (S.ph k).max, (S.ph k).gap, 1] := by
               have h0 := ints_of (wr.alloc (.cells #[.int .u32 ((S.ph k).groups : Int), .int .i64 (S.ph k).min, .int .i64 (S.ph k).max, .int .i64 (S.ph k).gap, .bool true] 110)) [((S.ph k).groups : Int), (S.ph k).min, (S.ph k).max, (S.ph k).gap, 1] 3 (fun x hx => (by
                simp only [List.mem_cons, List.mem_nil_iff, or_false] at hx; rcases hx with rfl | rfl | rfl | rfl | rfl <;> omega)) (by simp)
               rw [World.size_alloc] at h0; exact h0
              have hpos : ∀ x ∈ ([((S.ph k).groups : Int), (S.ph k).min, (S.ph k).max, (S.ph k).gap, 1] : List Int), 0 <= x := fun x hx => by
               simp only [List.mem_cons, List.mem_nil_iff, or_false] at hx; rcases hx with rfl | rfl | rfl | rfl | rfl <;> omega
              have hcall := rlit ((Kept.alloc wr _ _ _ _).tr (Kept.alloc _ _ _ _ _) : Kept wr ((wr.alloc (.cells #[.int .u32 ((S.ph k).groups : Int), .int .i64 (S.ph k).min, .int .i64 (S.ph k).max, .int .i64 (S.ph k).gap, .bool true] 110)).alloc (.cells #[.int .i64 (((S.ph k).groups : Int)), .int .i64 ((S.ph k).min), .int .i64 ((S.ph k).max), .int .i64 ((S.ph k).gap), .int .i64 (1)] 3)) none) hI hpos (by omega)
              have hsl : (smlI ([((S.ph k).groups : Int), (S.ph k).min, (S.ph k).max, (S.ph k).gap, 1] : List Int)).length <= 50 := smlI_le (m := 5) (fun x hx => (by
               have := hI.rng x hx; omega)) (by simp)
              have HCALL := Hid.mk' hcall; have HST := Hid.mk' (I5_succ hlt); clear hcall hI hpos; go_wp2_with (first | (have hgo := B4; clear hgo; at_builtin; refine wpList_join (by rfl) _ _ (by rfl) W0.heap.size _ _ _ (by rfl) (own_keptR HL.out.mine.own K4.out (fun i _ => by simp)) a4 _ c4 _ (by rfl) B4.out (fun e => (M4.out.nil e).2) (by have := HL.out.le; omega) (by have := HL.out.kept.size; have := K4.out.size; omega) ?_; intro a3 c3 w3 hm3 hg3; have hk3 := (HL.out.kept.tr K4.out).newRow hg3 HL.out.mine.new) | (go_at_call 94; refine HCALL.out.mono ?_; rintro e w4 ⟨a4, c4, rfl, hm4, hk4⟩; have M4 := Hid.mk' hm4; have B4 := Hid.mk' (hm4.by (smlI_lt _)); have K4 := Hid.mk' hk4; clear hm4 hk4)); go_roundw
              case rel => exact ⟨k + 1, by omega, by go_num, a3, _, c3, rfl, HL.out.grow hm3 hk3 (HST.out.trans (by unfold phI; rw [hal]; rfl)) (by omega)⟩
              case measure => simp [intOf]; omega
             | false =>
              rw [hal] at q4'
              have hI : Ints ((wr.alloc (.cells #[.int .u32 ((S.ph k).groups : Int), .int .i64 (S.ph k).min, .int .i64 (S.ph k).max, .int .i64 (S.ph k).gap, .bool false] 110)).alloc (.cells #[.int .i64 (((S.ph k).groups : Int)), .int .i64 ((S.ph k).min), .int .i64 ((S.ph k).max), .int .i64 ((S.ph k).gap), .int .i64 (0)] 3)) (some ⟨wr.heap.size + 1, 0, none⟩) 5 5 [((S.ph k).groups : Int), (S.ph k).min, (S.ph k).max, (S.ph k).gap, 0] := by
               have h0 := ints_of (wr.alloc (.cells #[.int .u32 ((S.ph k).groups : Int), .int .i64 (S.ph k).min, .int .i64 (S.ph k).max, .int .i64 (S.ph k).gap, .bool false] 110)) [((S.ph k).groups : Int), (S.ph k).min, (S.ph k).max, (S.ph k).gap, 0] 3 (fun x hx => (by
                simp only [List.mem_cons, List.mem_nil_iff, or_false] at hx; rcases hx with rfl | rfl | rfl | rfl | rfl <;> omega)) (by simp)
               rw [World.size_alloc] at h0; exact h0
              have hpos : ∀ x ∈ ([((S.ph k).groups : Int), (S.ph k).min, (S.ph k).max, (S.ph k).gap, 0] : List Int), 0 <= x := fun x hx => by
               simp only [List.mem_cons, List.mem_nil_iff, or_false] at hx; rcases hx with rfl | rfl | rfl | rfl | rfl <;> omega
              have hcall := rlit ((Kept.alloc wr _ _ _ _).tr (Kept.alloc _ _ _ _ _) : Kept wr ((wr.alloc (.cells #[.int .u32 ((S.ph k).groups : Int), .int .i64 (S.ph k).min, .int .i64 (S.ph k).max, .int .i64 (S.ph k).gap, .bool false] 110)).alloc (.cells #[.int .i64 (((S.ph k).groups : Int)), .int .i64 ((S.ph k).min), .int .i64 ((S.ph k).max), .int .i64 ((S.ph k).gap), .int .i64 (0)] 3)) none) hI hpos (by omega)
              have hsl : (smlI ([((S.ph k).groups : Int), (S.ph k).min, (S.ph k).max, (S.ph k).gap, 0] : List Int)).length <= 50 := smlI_le (m := 5) (fun x hx => (by
               have := hI.rng x hx; omega)) (by simp)
              have HCALL := Hid.mk' hcall; have HST := Hid.mk' (I5_succ hlt); clear hcall hI hpos; go_wp2_with (first | (have hgo := B4; clear hgo; at_builtin; refine wpList_join (by rfl) _ _ (by rfl) W0.heap.size _ _ _ (by rfl) (own_keptR HL.out.mine.own K4.out (fun i _ => by simp)) a4 _ c4 _ (by rfl) B4.out (fun e => (M4.out.nil e).2) (by have := HL.out.le; omega) (by have := HL.out.kept.size; have := K4.out.size; omega) ?_; intro a3 c3 w3 hm3 hg3; have hk3 := (HL.out.kept.tr K4.out).newRow hg3 HL.out.mine.new) | (go_at_call 94; refine HCALL.out.mono ?_; rintro e w4 ⟨a4, c4, rfl, hm4, hk4⟩; have M4 := Hid.mk' hm4; have B4 := Hid.mk' (hm4.by (smlI_lt _)); have K4 := Hid.mk' hk4; clear hm4 hk4)); go_roundw
              case rel => exact ⟨k + 1, by omega, by go_num, a3, _, c3, rfl, HL.out.grow hm3 hk3 (HST.out.trans (by unfold phI; rw [hal]; rfl)) (by omega)⟩
              case measure => simp [intOf]; omega
           . have hkk : k = S.phases.length := by omega
             subst hkk; have c5' := (HSB.out.kept hkw).c5
             have hI : Ints (wr.alloc (.cells #[.int .i64 (((S.eyes.length : Nat) : Int))] 3)) (some ⟨wr.heap.size, 0, none⟩) 1 1 [((S.eyes.length : Nat) : Int)] := ints_of wr [((S.eyes.length : Nat) : Int)] 3 (fun x hx => (by
              simp only [List.mem_cons, List.mem_nil_iff, or_false] at hx; subst hx; omega)) (by simp)
             have hpos : ∀ x ∈ ([((S.eyes.length : Nat) : Int)] : List Int), 0 <= x := fun x hx => by
              simp only [List.mem_cons, List.mem_nil_iff, or_false] at hx; subst hx; omega
             have hcall := rlit (Kept.alloc wr _ _ _ _ : Kept wr (wr.alloc (.cells #[.int .i64 (((S.eyes.length : Nat) : Int))] 3)) none) hI hpos (by omega); have hsl : (smlI ([((S.eyes.length : Nat) : Int)] : List Int)).length <= 10 := smlI_le (m := 1) (fun x hx => (hI.rng x hx).2) (by simp); have HCALL := Hid.mk' hcall; clear hcall hI hpos; go_wp2_with (first | (have hgo := B4; clear hgo; at_builtin; refine wpList_join (by rfl) _ _ (by rfl) W0.heap.size _ _ _ (by rfl) (own_keptR HL.out.mine.own K4.out (fun i _ => by simp)) a4 _ c4 _ (by rfl) B4.out (fun e => (M4.out.nil e).2) (by have := HL.out.le; omega) (by have := HL.out.kept.size; have := K4.out.size; omega) ?_; intro a3 c3 w3 hm3 hg3; have hk3 := (HL.out.kept.tr K4.out).newRow hg3 HL.out.mine.new; have c5x := (HSB.out.kept hk3).c5) | (go_at_call 94; refine HCALL.out.mono ?_; rintro e w4 ⟨a4, c4, rfl, hm4, hk4⟩; have M4 := Hid.mk' hm4; have B4 := Hid.mk' (hm4.by (smlI_lt _)); have K4 := Hid.mk' hk4; clear hm4 hk4)); have HL2 := Hid.mk' (HL.out.grow (bd' := 3640) hm3 hk3 rfl (by omega)); clear HL hm3 hle hkw HCALL hsl c5' c5x; have HL := HL2; clear HL2; go_loopw [3, 10] (fun s i wr => ∃ k : Nat, k <= S.eyes.length /\ i = .int .i64 k /\ ∃ a1 n1 c1, s = .slice a1 n1 c1 /\ Lst W0 wr a1 n1 c1 (I6 S k) (3640 + 40 * k)) (fun _ i _ => S.eyes.length - (intOf i).toNat)
             case atStart => exact ⟨0, Nat.zero_le _, rfl, _, _, _, rfl, HL.out.at0 (by simp [I6]) (by omega) (by omega)⟩
             case round =>
              clear HL; obtain ⟨k, hk, rfl, a1, n1, c1, rfl, hL⟩ := hrel; have hle := hL.le; have hkw := hL.kept; have HL := Hid.mk' hL; clear hL; have cc5 := (HSB.out.kept hkw).c5; by_cases hlt : k < S.eyes.length
              . obtain ⟨bp, op, ep, q0', q1', q2', q3'⟩ := (HSB.out.kept hkw).sat.eyAt hlt; have hgr := HSB.out.sat.er _ (getD_mem (d := e0) hlt); have hgp := HPO.out.ey k hlt; have hr0 := hgr.1; have hr1 := hgr.2.1; have hr2 := hgr.2.2.1; have hr3 := hgr.2.2.2; unfold i64B at hr0 hr1 hr2 hr3; change -9223372036854775808 <= (S.ey k).phase /\ (S.ey k).phase <= 9223372036854775807 at hr0; change -9223372036854775808 <= (S.ey k).on /\ (S.ey k).on <= 9223372036854775807 at hr1; change -9223372036854775808 <= (S.ey k).off /\ (S.ey k).off <= 9223372036854775807 at hr2; change -9223372036854775808 <= (S.ey k).turns /\ (S.ey k).turns <= 9223372036854775807 at hr3; rw [ep] at cc5; rw [ep] at *; clear ep hgr
                have hI : Ints ((wr.alloc (.cells #[.int .i64 (S.ey k).phase, .int .i64 (S.ey k).on, .int .i64 (S.ey k).off, .int .i64 (S.ey k).turns] 112)).alloc (.cells #[.int .i64 ((S.ey k).phase), .int .i64 ((S.ey k).on), .int .i64 ((S.ey k).off), .int .i64 ((S.ey k).turns)] 3)) (some ⟨wr.heap.size + 1, 0, none⟩) 4 4 [(S.ey k).phase, (S.ey k).on, (S.ey k).off, (S.ey k).turns] := by
                 have h0 := ints_of (wr.alloc (.cells #[.int .i64 (S.ey k).phase, .int .i64 (S.ey k).on, .int .i64 (S.ey k).off, .int .i64 (S.ey k).turns] 112)) [(S.ey k).phase, (S.ey k).on, (S.ey k).off, (S.ey k).turns] 3 (fun x hx => (by
                  simp only [List.mem_cons, List.mem_nil_iff, or_false] at hx; rcases hx with rfl | rfl | rfl | rfl <;> omega)) (by simp)
                 rw [World.size_alloc] at h0; exact h0
                have hpos : ∀ x ∈ ([(S.ey k).phase, (S.ey k).on, (S.ey k).off, (S.ey k).turns] : List Int), 0 <= x := fun x hx => by
                 simp only [List.mem_cons, List.mem_nil_iff, or_false] at hx; rcases hx with rfl | rfl | rfl | rfl <;> omega
                have hcall := rlit ((Kept.alloc wr _ _ _ _).tr (Kept.alloc _ _ _ _ _) : Kept wr ((wr.alloc (.cells #[.int .i64 (S.ey k).phase, .int .i64 (S.ey k).on, .int .i64 (S.ey k).off, .int .i64 (S.ey k).turns] 112)).alloc (.cells #[.int .i64 ((S.ey k).phase), .int .i64 ((S.ey k).on), .int .i64 ((S.ey k).off), .int .i64 ((S.ey k).turns)] 3)) none) hI hpos (by omega)
                have hsl : (smlI ([(S.ey k).phase, (S.ey k).on, (S.ey k).off, (S.ey k).turns] : List Int)).length <= 40 := smlI_le (m := 4) (fun x hx => (by
                 have := hI.rng x hx; omega)) (by simp)
                have HCALL := Hid.mk' hcall; have HST := Hid.mk' (I6_succ hlt); clear hcall hI hpos; go_wp2_with (first | (have hgo := B4; clear hgo; at_builtin; refine wpList_join (by rfl) _ _ (by rfl) W0.heap.size _ _ _ (by rfl) (own_keptR HL.out.mine.own K4.out (fun i _ => by simp)) a4 _ c4 _ (by rfl) B4.out (fun e => (M4.out.nil e).2) (by have := HL.out.le; omega) (by have := HL.out.kept.size; have := K4.out.size; omega) ?_; intro a3 c3 w3 hm3 hg3; have hk3 := (HL.out.kept.tr K4.out).newRow hg3 HL.out.mine.new) | (go_at_call 94; refine HCALL.out.mono ?_; rintro e w4 ⟨a4, c4, rfl, hm4, hk4⟩; have M4 := Hid.mk' hm4; have B4 := Hid.mk' (hm4.by (smlI_lt _)); have K4 := Hid.mk' hk4; clear hm4 hk4)); go_roundw
                case rel => exact ⟨k + 1, by omega, by go_num, a3, _, c3, rfl, HL.out.grow hm3 hk3 HST.out (by omega)⟩
                case measure => simp [intOf]; omega
              . have hkk : k = S.eyes.length := by omega
                subst hkk; have c6' := (HSB.out.kept hkw).c6; have c7' := (HSB.out.kept hkw).c7; have c8' := (HSB.out.kept hkw).c8; have c9' := (HSB.out.kept hkw).c9; have c10' := (HSB.out.kept hkw).c10; have hoo := HPO.out.own
                have hI : Ints (wr.alloc (.cells #[.int .i64 (S.watch), .int .i64 (S.feed), .int .i64 (S.heal), .int .i64 (S.low), .int .i64 (S.high)] 3)) (some ⟨wr.heap.size, 0, none⟩) 5 5 [S.watch, S.feed, S.heal, S.low, S.high] := ints_of wr [S.watch, S.feed, S.heal, S.low, S.high] 3 (fun x hx => (by
                 simp only [List.mem_cons, List.mem_nil_iff, or_false] at hx; rcases hx with rfl | rfl | rfl | rfl | rfl <;> omega)) (by simp)
                have hpos : ∀ x ∈ ([S.watch, S.feed, S.heal, S.low, S.high] : List Int), 0 <= x := fun x hx => by
                 simp only [List.mem_cons, List.mem_nil_iff, or_false] at hx; rcases hx with rfl | rfl | rfl | rfl | rfl <;> omega
                have hcall := rlit (Kept.alloc wr _ _ _ _ : Kept wr (wr.alloc (.cells #[.int .i64 (S.watch), .int .i64 (S.feed), .int .i64 (S.heal), .int .i64 (S.low), .int .i64 (S.high)] 3)) none) hI hpos (by omega); have hsl : (smlI ([S.watch, S.feed, S.heal, S.low, S.high] : List Int)).length <= 50 := smlI_le (m := 5) (fun x hx => (hI.rng x hx).2) (by simp); have HCALL := Hid.mk' hcall; clear hcall hI hpos; have HPL := Hid.mk' HSB.out.sat.l; have HWk := Hid.mk' HPO.out.plans; have hpl := plans_len HPL.out HWk.out; have hcw := fun (wx : World) (hkx : Kept W0 wx none) => rwhole_any (HPL.out.kept hkx)
                rw [show wholeL S.plans = smlI (plansI S.plans) by unfold wholeL; rw [HWH.out]; rfl, HWH.out] at hcw; have HCW := Hid.mk' hcw; clear hcw
                go_wp2_with (first
                 | (have hgo := M5; clear hgo; at_builtin; refine wpList_joinA (by rfl) _ _ (by rfl) W0.heap.size _ _ _ (by rfl) (own_keptR HL3.out.mine.own hk5 (fun i _ => by simp)) a5 (smlI (plansI S.plans)).length c5x (smlI (plansI S.plans)) (by rfl) (M5.out.by (smlI_lt _)) (fun e => (M5.out.nil e).2) (by have := HL3.out.le; omega) (by have := HL3.out.kept.size; have := hk5.size; omega) ?_; intro a6 c6 w6 hm6 hg6 hat6)
                 | (have hgo := HL3; clear hgo; go_at_call 95; refine (HCW.out _ hk3).mono ?_; rintro e w5 ⟨a5, c5x, rfl, hm5, hk5⟩; have M5 := Hid.mk' hm5; clear hm5)
                 | (have hgo := B4; clear hgo; at_builtin; refine wpList_join (by rfl) _ _ (by rfl) W0.heap.size _ _ _ (by rfl) (own_keptR HL.out.mine.own K4.out (fun i _ => by simp)) a4 _ c4 _ (by rfl) B4.out (fun e => (M4.out.nil e).2) (by have := HL.out.le; omega) (by have := HL.out.kept.size; have := K4.out.size; omega) ?_; intro a3 c3 w3 hm3 hg3; have hk3 := (HL.out.kept.tr K4.out).newRow hg3 HL.out.mine.new; have c11' := (HSB.out.kept hk3).c11; have HL3 := Hid.mk' (HL.out.grow (bd' := 4650) hm3 hk3 rfl (by omega)); clear hm3 hg3)
                 | (go_at_call 94; refine HCALL.out.mono ?_; rintro e w4 ⟨a4, c4, rfl, hm4, hk4⟩; have M4 := Hid.mk' hm4; have B4 := Hid.mk' (hm4.by (smlI_lt _)); have K4 := Hid.mk' hk4; clear hm4 hk4))
                go_ret; have e : smlI (I7 S) ++ smlI (plansI S.plans) = siteL S := by rw [<- smlI_append]; rfl
                have hz := HL3.out.size; have hsize : n1 + (smlI [S.watch, S.feed, S.heal, S.low, S.high]).length + (smlI (plansI S.plans)).length = (siteL S).length := by rw [<- e, List.length_append, hz]; rfl
                refine ⟨a6, c6, ?_, ?_, ?_⟩
                . rw [<- hsize]; rfl
                . rw [<- hsize, <- e]; exact hm6.lower (by omega)
                . exact (HK0.out.tr ((HL3.out.kept.tr hk5))).newRow hg6 (fun i e => by have := HL3.out.mine.lt i e; omega)
end Go.Proofs.YtakilpnbjihibaaGreatDoor
