/-
  THE CONTRACTS of Feed and Scan.
-/
import Derived.Test.YtflehhliddcfgaaDoorFeed
import Derived.Lib.Builder
namespace Go.Proofs.YtflehhliddcfgaaDoor
open Go.RowKit Go.Lib Go.Deep
set_option linter.unusedVariables false
set_option linter.unusedSimpArgs false

abbrev Pm (w : World) (v : Value) : Nat → Prop := fun q => w.heap.size ≤ q ∧ v.ownBlock ≠ some q
/-- What a feed has done so far. -/
structure Fd (w wr : World) (R : Nat) (v v' : Value) (la : Option Addr) (n lc : Nat) (s : Rs) : Prop where
  ml : Ml wr (Pm w v') la n lc s.2
  rd : Rdr wr R v' s.1
  mv : Moved w v v'
  sp : Sep w wr (PS R v)
theorem moved_tr {w wr : World} {v v' v'' : Value} (h : Moved w v v') (k : Moved wr v' v'') (hs : w.heap.size ≤ wr.heap.size) : Moved w v v'' := by
  rcases k with k | ⟨g, k, k2⟩
  · rcases h with h | ⟨g, h, h2⟩
    · exact .inl (k.trans h)
    · exact .inr ⟨g, k.trans h, h2⟩
  · exact .inr ⟨g, k, Nat.le_trans hs k2⟩
theorem ps_moved {w : World} {R : Nat} {v v' : Value} (h : Moved w v v') : ∀ i, i < w.heap.size → PS R v' i → PS R v i := by
  intro i hi hp
  rcases hp with hp | hp
  · exact .inl hp
  · rcases h with h | ⟨g, h, h2⟩
    · exact .inr (by rw [← h]; exact hp)
    · rw [h] at hp; injection hp with hp; omega
theorem Fd.take {w wr w2 : World} {R : Nat} {v v' : Value} {la : Option Addr} {n lc : Nat} {s : Rs} {s' : Pc} (h : Fd w wr R v v' la n lc s) (hR : R < w.heap.size) (ht : Rook wr w2 R v' s') : ∃ v2, Fd w w2 R v v2 la n lc (s', s.2) := by
  obtain ⟨v2, h1, h2, h3⟩ := ht
  refine ⟨v2, ?_, h1, moved_tr h.mv h2 h.sp.size, h.sp.tr h3 (ps_moved h.mv)⟩
  have hm : Ml wr (fun q => Pm w v2 q ∧ v'.ownBlock ≠ some q) la n lc s.2 := h.ml.mono (fun q hq hp => by
    refine ⟨⟨hp.1, ?_⟩, hp.2⟩
    rcases h2 with h2 | ⟨g, h2, h4⟩
    · rw [h2]; exact hp.2
    · rw [h2]; intro e; injection e with e; omega)
  refine (hm.sep h3 (fun q hq e => ?_)).mono (fun q _ hq => hq.1)
  rcases e with e | e
  · have := hq.1.1; omega
  · exact hq.2 e
/-- An end: what is under way is no message. -/
theorem Fd.cut {w wr w2 : World} {R : Nat} {v v' v2 : Value} {la : Option Addr} {n lc : Nat} {s : Rs} {s' : Pc} (h : Fd w wr R v v' la n lc s) (hR : R < w.heap.size) (hr : Rdr w2 R v2 s') (hv : v2.ownBlock = v'.ownBlock) (hs : Sep wr w2 (fun k => k = R)) : Fd w w2 R v v2 la n lc (s', s.2) := by
  refine ⟨?_, hr, moved_tr h.mv (.inl hv) h.sp.size, h.sp.tr hs (fun i _ e => .inl e)⟩
  have hm : Ml wr (Pm w v2) la n lc s.2 := h.ml.mono (fun q _ hp => ⟨hp.1, by rw [hv]; exact hp.2⟩)
  exact hm.sep hs (fun q hq e => by have := hq.1; omega)
theorem Fd.kept {w wr w2 : World} {R : Nat} {v v' : Value} {la : Option Addr} {n lc : Nat} {s : Rs} (h : Fd w wr R v v' la n lc s) (k : Kept wr w2 none) : Fd w w2 R v v' la n lc s :=
  ⟨h.ml.kept k, h.rd.kept k, h.mv, h.sp.tr (T := fun _ => False) (Sep.kept k) (fun _ _ x => x.elim)⟩
theorem Fd.found {w w4 w5 : World} {R : Nat} {v v' : Value} {la : Option Addr} {n lc : Nat} {s : Rs} {m : Msg} {a : Option Addr} {c g cap : Nat} {xs : List Value} (h : Fd w w4 R v v' la n lc s) (hR : R < w.heap.size)
    (hx : mCells w4 (fun q => Pm w v' q ∧ (Value.slice la n lc).ownBlock ≠ some q) xs s.2) (hb : Bd w4 (fun q => Pm w v' q ∧ (Value.slice la n lc).ownBlock ≠ some q) a m.2.2.length c m.2.2)
    (ho : w5.ownsRow 0 30 3 (.slice (some ⟨g, 0, none⟩) (n + 1) cap) (n + 1) (xs ++ [.int .u8 (m.1 : Int), .int .u32 (m.2.1 : Int), .slice a m.2.2.length c])) (hg : w4.grownBy w5 (Value.slice la n lc).ownBlock) (hat : (Value.slice la n lc).ownBlock = some g ∨ g = w4.heap.size) :
    Fd w w5 R v v' (some ⟨g, 0, none⟩) (n + 1) cap (s.1, s.2 ++ [m]) := by
  have hs : Sep w4 w5 (fun q => (Value.slice la n lc).ownBlock = some q) := Sep.row hg (fun i _ e => e)
  refine ⟨h.ml.grow hx (mCells.one hb) rfl ho hg hat ⟨h.sp.size, ?_⟩, h.rd.sep hs ?_ ?_, h.mv, h.sp.tr hs ?_⟩
  · intro e; have := h.rd.vlt _ e; omega
  · intro e; have := (h.ml.at_ _ e).1; omega
  · intro i hi e; exact (h.ml.at_ _ e).2 hi
  · intro i hi e; have := (h.ml.at_ _ e).1; omega

theorem Hid.mk' {p : Prop} (h : p) : Hid p := h
theorem Bd.kept {w w' : World} {P : Nat → Prop} {a : Option Addr} {n c : Nat} {L : List Nat} (h : Bd w P a n c L) (k : Kept w w' none) : Bd w' P a n c L := h.sep (S := fun _ => False) (Sep.kept k) (fun _ _ x => x)
theorem bd_found {w wr w2 w4 : World} {R : Nat} {v v' v2 : Value} {la : Option Addr} {n lc : Nat} {s : Rs} {a : Option Addr} {m c : Nat} {B : List Nat} (h : Fd w wr R v v' la n lc s) (hm : Mine w2 wr.heap.size a m c B) (hb : ∀ x ∈ B, x < 256) (hv : v2.ownBlock = v'.ownBlock) (hk : Kept w2 w4 none) :
    Bd w4 (fun q => Pm w v2 q ∧ (Value.slice la n lc).ownBlock ≠ some q) a m c B := by
  refine ((hm.bd hb).kept hk).mono (fun q _ hq => ⟨⟨Nat.le_trans h.sp.size hq, fun e => ?_⟩, fun e => ?_⟩)
  · rw [hv] at e; have := h.rd.vlt q e; omega
  · have := h.ml.lt q e; omega
theorem news3 (w : World) (v0 v1 v2 : Value) : ∀ j u, [v0, v1, v2][j]? = some u → ((w.alloc (.cells #[v0, v1, v2] 30)).alloc (.cells #[v0, v1, v2] 30)).cell? ((⟨w.heap.size + 1, 0, none⟩ : Addr).add j) = some u :=
  World.news_of_block (cs := #[v0, v1, v2]) (t := 30) (fr := (0, 0)) (by have := heap_alloc_new (w.alloc (.cells #[v0, v1, v2] 30)) (.cells #[v0, v1, v2] 30); rw [World.size_alloc] at this; exact this)
theorem Tryd.uRP : Tryd.prog.underlying 36 = some (.pointer 41) := by kernel_rfl
theorem Tryd.infoR : (Tryd.prog.info? 41).isSome = true := by kernel_rfl
theorem self_same (R : Nat) (w : World) : (binOp .neq 36 (.pointer (some ⟨R, 0, none⟩)) (.pointer (some ⟨R, 0, none⟩))).run Tryd.prog w = .ok (.bool false) w := by
  obtain ⟨j, hj⟩ := Option.isSome_iff_exists.1 Tryd.infoR
  exact run_neq_ptr_same w ⟨R, 0, none⟩ Tryd.uRP hj
set_option maxRecDepth 100000 in
set_option maxHeartbeats 1000000 in
theorem feed_text {w : World} {R : Nat} {v : Value} {s : Pc} {a : Option Addr} {len c : Nat} (h : Rdr w R v s) (hl : 16384 < len) (h2 : len ≤ 9223372036854775807) :
    Calls Tryd.prog 13 #[.pointer (some ⟨R, 0, none⟩), .slice a len c] w fun e w' => e = .returned (.tuple #[.slice none 0 0, .int .i64 3]) ∧ w' = w := by
  obtain ⟨f, hp, h0⟩ := h.ex
  have hc0 := hp.row.cell (i := 0) (by omega)
  rw [h0] at hc0
  have hself := self_same R w
  clear hp h0 h
  go_enter Tryd.func13, Tryd.ntmps13
  go_wp2
  go_ret2
  exact ⟨rfl, rfl⟩
set_option maxRecDepth 100000 in
set_option maxHeartbeats 2000000 in
theorem feed_yes {w : World} {R : Nat} {v : Value} {s : Pc} {a : Option Addr} {len c : Nat} {L : List Nat} (h : Rdr w R v s) (hP : Pok s) (hB : By w a len L) (hS : 0 < len → ∀ x, a = some x → ¬ PS R v x.block) (hl : len ≤ 16384) (ht : Table w) (h0t : ¬ PS R v 0) :
    Calls Tryd.prog 13 #[.pointer (some ⟨R, 0, none⟩), .slice a len c] w fun e w' => ∃ la n lc v', e = .returned (.tuple #[.slice la n lc, .int .i64 0]) ∧ Fd w w' R v v' la n lc (feedR s L) := by
  obtain ⟨f, hp, h0⟩ := h.ex
  have hc0 := hp.row.cell (i := 0) (by omega)
  rw [h0] at hc0
  have hself := self_same R w
  have hR := h.lt
  have HR : Hid (Rdr w R v s) := h
  have HA : Hid (By w a len L) := hB
  have HS : Hid (0 < len → ∀ x, a = some x → ¬ PS R v x.block) := hS
  have HT : Hid (Table w) := ht
  have HG : Hid (∀ i, L.getD i 0 < 256) := hB.getD
  have HX : Hid (∀ x ∈ L, x < 256) := hB.lt
  have HL : Hid (L.length = len) := hB.size
  have HP : Hid (Pok s) := hP
  have H0 : Hid (¬ PS R v 0) := h0t
  obtain ⟨i0, hi0, hz0, hz1, hz2⟩ := info_parts Tryd.infoM
  clear hp h0 h hB hS ht hP h0t
  go_enter Tryd.func13, Tryd.ntmps13
  go_wp2
  go_loopw [6, 26] (fun l i wr => ∃ k : Nat, k ≤ len ∧ i = .int .i64 k ∧ ∃ la n lc v', l = .slice la n lc ∧ Fd w wr R v v' la n lc (feedR s (L.take k))) (fun _ i _ => len - (intOf i).toNat)
  case atStart => exact ⟨0, Nat.zero_le _, rfl, none, 0, 0, v, rfl, Ml.nil _ _, HR.out, .inl rfl, Sep.refl _ _⟩
  case round =>
    obtain ⟨k, hk, rfl, la, n, lc, v', rfl, hF⟩ := hrel
    by_cases hlt : k < len
    · have hBr := HA.out.sep hF.sp (HS.out (by omega))
      obtain ⟨b, off, rfl, hb, hc⟩ := hBr.at_ (by omega)
      have hcell := hc k hlt
      have hx := HG.out k
      have HE : Hid (feedR s (L.take (k + 1)) = rst (feedR s (L.take k)) (L.getD k 0)) := feedR_take s L k (by rw [HL.out]; exact hlt)
      have HPk : Hid (Pok (feedR s (L.take k)).1) := pok_feed HP.out (fun y hy => HX.out y (List.mem_of_mem_take hy))
      have hcnt := feedR_count s (L.take k)
      have hlk : (L.take k).length ≤ k := List.length_take_le _ _
      have hn : n ≤ 16384 := by have := hF.ml.size; omega
      have HF : Hid (Fd w wr R v v' la n lc (feedR s (L.take k))) := hF
      clear hc hcnt hlk hBr hF
      generalize L.getD k 0 = x at *
      by_cases h1 : x = 126
      · subst h1
        have HE2 : Hid (feedR s (L.take (k + 1)) = (([], false, false), (feedR s (L.take k)).2 ++ cutM (feedR s (L.take k)).1)) := HE.out
        rw [cutM_eq] at HE2
        have HTr : Hid (Table wr) := HT.out.sep HF.out.sp H0.out
        rcases cutE_or (feedR s (L.take k)).1 with he | he
        · rw [if_pos he] at HE2
          have HCK : Hid (Mok (cutV (feedR s (L.take k)).1)) := cutV_ok HPk.out
          generalize hmm : cutV (feedR s (L.take k)).1 = m at *
          obtain ⟨mk, mq, mb⟩ := m
          go_wp2_with (first
            | (have hgo := hF4; clear hgo; at_builtin; refine wpList_append_lies _ (by rfl) _ _ 31 (by rfl) 0 30 i0 _ 3 32 Tryd.uML hi0 hz0 hz1 hz2 rfl (by omega) (.slice la n lc) n xs (by rfl) HOX.out ⟨w2.heap.size + 1, 0, none⟩ 1 1 [.int .u8 (mk : Int), .int .u32 (mq : Int), .slice a2 mb.length c2] (by rfl) (by rfl) HNW.out (by simp [Value.oneCell']) (by omega) (by unfold maxLen; omega) (by omega) (Nat.zero_le _) (w2.heap.size + 2) (by simp) ?_; intro g cap w5 hO5 hg5 hat5 hlt5)
            | (go_at_call 38; refine (cut_any HF.out.rd HPk.out HTr.out).mono ?_; rw [hmm]; rintro e w2 ⟨a2, c2, rfl, hm2, ⟨v2, hr2, hv2⟩, hs2⟩; rw [he]; have hF4 : Fd w ((w2.alloc (.cells #[.int .u8 (mk : Int), .int .u32 (mq : Int), .slice a2 mb.length c2] 30)).alloc (.cells #[.int .u8 (mk : Int), .int .u32 (mq : Int), .slice a2 mb.length c2] 30)) R v v2 la n lc (([], false, false), (feedR s (L.take k)).2) := (HF.out.cut hR hr2 hv2 hs2).kept ((Kept.alloc _ _ _ _ _).tr (Kept.alloc _ _ _ _ _)); have hbd := bd_found HF.out hm2 HCK.out.body hv2 (Kept.tr (Kept.alloc w2 #[.int .u8 (mk : Int), .int .u32 (mq : Int), .slice a2 mb.length c2] 30 (0, 0) none) (Kept.alloc _ #[.int .u8 (mk : Int), .int .u32 (mq : Int), .slice a2 mb.length c2] 30 (0, 0) none)); obtain ⟨xs, hox, hmx⟩ := hF4.ml.ex; have HOX := Hid.mk' hox; have HMX := Hid.mk' hmx; have HNW := Hid.mk' (news3 w2 (.int .u8 (mk : Int)) (.int .u32 (mq : Int)) (.slice a2 mb.length c2)); have HBD := Hid.mk' hbd; clear hox hmx hbd hr2 hm2 hs2))
          go_roundw
          case rel =>
            refine ⟨k + 1, by omega, by go_num, some ⟨g, 0, none⟩, n + 1, cap, v2, rfl, ?_⟩
            rw [HE2.out]
            exact hF4.found (m := (mk, mq, mb)) hR HMX.out HBD.out hO5 hg5 (hat5.imp id (fun e => by rw [e]; simp))
          case measure => simp [intOf]; omega
        · rw [if_neg (by rw [he]; omega), List.append_nil] at HE2
          go_wp2_with (go_at_call 38; refine (cut_any HF.out.rd HPk.out HTr.out).mono ?_; rintro e w2 ⟨a2, c2, rfl, hm2, ⟨v2, hr2, hv2⟩, hs2⟩; rw [he])
          go_roundw
          case rel =>
            refine ⟨k + 1, by omega, by go_num, la, n, lc, v2, rfl, ?_⟩
            rw [HE2.out]
            exact (HF.out.cut hR hr2 hv2 hs2).kept (Kept.alloc _ _ _ _ _)
          case measure => simp [intOf]; omega
      · have HE2 : Hid (feedR s (L.take (k + 1)) = (rtk (feedR s (L.take k)).1 x, (feedR s (L.take k)).2)) := by
          show feedR s (L.take (k + 1)) = _
          rw [HE.out]; unfold rst; rw [if_neg h1]
        go_wp2_with (go_at_call 37; refine (rtake_any x HF.out.rd HPk.out hx).mono ?_; rintro e w2 ⟨rfl, ht⟩)
        go_roundw
        case rel =>
          obtain ⟨v2, hF2⟩ := HF.out.take hR ht
          exact ⟨k + 1, by omega, by go_num, la, n, lc, v2, rfl, by rw [HE2.out]; exact hF2⟩
        case measure => simp [intOf]; omega
    · have hkq : k = len := by omega
      subst hkq
      rw [List.take_of_length_le (by rw [HL.out]; exact Nat.le_refl _)] at hF
      have HF : Hid (Fd w wr R v v' la n lc (feedR s L)) := hF
      clear hF
      go_wp2
      go_ret2
      exact ⟨la, n, lc, v', rfl, HF.out⟩

end Go.Proofs.YtflehhliddcfgaaDoor
