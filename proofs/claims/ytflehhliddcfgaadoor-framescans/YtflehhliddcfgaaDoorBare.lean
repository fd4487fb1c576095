/-
  THE CONTRACT of frame.Bare.
-/
import Derived.Test.YtflehhliddcfgaaDoorTake
import Derived.Test.YtflehhliddcfgaaDoorOpen
namespace Go.Proofs.YtflehhliddcfgaaDoor
open Go.RowKit Go.Lib Go.Deep
set_option linter.unusedVariables false
set_option linter.unusedSimpArgs false

theorem own_raise {w : World} {base e size n : Nat} {v : Value} {xs : List Value} (h : w.ownsRow 0 e size v n xs) (hb : ∀ k, v.ownBlock = some k → base ≤ k) : w.ownsRow base e size v n xs := by
  refine ⟨h.1, ?_⟩
  rcases h.2 with hn | ⟨g, cap, cur, rfl, hbg, rest⟩
  · exact .inl hn
  · exact .inr ⟨g, cap, cur, rfl, hb g rfl, rest⟩
theorem Kept.sep {w wr w' : World} {S : Nat → Prop} (h : Kept w wr none) (k : Sep wr w' S) (hS : ∀ i, S i → w.heap.size ≤ i) : Kept w w' none :=
  ⟨k.os.trans h.os, k.tape.trans h.tape, k.output.trans h.output, Nat.le_trans h.size k.size, fun i hi _ => (k.block i (Nat.lt_of_lt_of_le hi h.size) (fun s => by have := hS i s; omega)).trans (h.block i hi (by simp))⟩
theorem rowIs_alloc (w : World) (c : Array Value) (t : TypeId) : (w.alloc (.cells c t)).rowIs w.heap.size t c.size (fun i => c.getD i default) :=
  ⟨c, heap_alloc_new w _, rfl, fun i hi => by simp [hi]⟩
/-- What a round of Bare keeps. -/
structure Under (w wr : World) (b : Nat) (s : Pc) : Prop where
  ex : ∃ v f, Pce wr b 0 39 3 v s f ∧ ∀ i, v.ownBlock = some i → w.heap.size ≤ i
  kept : Kept w wr none
  new : w.heap.size ≤ b
theorem Under.step {w wr w' : World} {b : Nat} {s s' : Pc} {v : Value} {f : Nat → Value} (h : Under w wr b s) (hp : Pce wr b 0 39 3 v s f) (hv : ∀ i, v.ownBlock = some i → w.heap.size ≤ i) (ht : Took wr w' b 0 39 3 v f s') : Under w w' b s' := by
  obtain ⟨v', f', h1, _, h3, h4⟩ := ht
  refine ⟨⟨v', f', h1, fun i hi => ?_⟩, h.kept.sep h4 (fun i hi => ?_), h.new⟩
  · rcases h3 with h3 | ⟨g, h3, h5⟩
    · exact hv i (by rw [← h3]; exact hi)
    · rw [h3] at hi; injection hi with hi; subst hi; exact Nat.le_trans h.kept.size h5
  · rcases hi with rfl | hi
    · exact h.new
    · exact hv i hi
set_option maxRecDepth 100000 in
set_option maxHeartbeats 1000000 in
theorem bare_any {a : Option Addr} {len c : Nat} {L : List Nat} {w : World} (hB : By w a len L) (hlen : len ≤ 1000000) :
    Calls Tryd.prog 9 #[.slice a len c] w fun e w' => ∃ a' c', e = .returned (.tuple #[.slice a' (bareL L).length c', .int .i64 ((bareE L : Nat) : Int)]) ∧ Mine w' w.heap.size a' (bareL L).length c' (bareL L) ∧ Kept w w' none := by
  have HL : Hid (L.length = len) := hB.size
  have HX : Hid (∀ x ∈ L, x < 256) := hB.lt
  have HG : Hid (∀ i, L.getD i 0 < 256) := hB.getD
  have HA : Hid (By w a len L) := hB
  obtain ⟨w1, hmk, hm1, hk1⟩ := mk_roomN len (by omega) w w.heap.size (Nat.le_refl _)
  have M1 : Hid (Mine w1 w.heap.size (some ⟨w.heap.size, 0, none⟩) 0 len []) := hm1
  clear hB hm1
  go_enter Tryd.func9, Tryd.ntmps9
  go_wp2
  clear hmk
  have hU : Under w (w1.alloc (.cells #[.slice (some ⟨w.heap.size, 0, none⟩) 0 len, .int .u8 0, .bool false] 39)) w1.heap.size ([], false, false) := by
    refine ⟨⟨.slice (some ⟨w.heap.size, 0, none⟩) 0 len, _, ⟨rowIs_alloc _ _ _, by simp, rfl, rfl, rfl, (own_lower M1.out.own (Nat.zero_le _)).alloc _, ?_⟩, fun i hi => by simp [Value.ownBlock] at hi; omega⟩, hk1.tr (Kept.alloc _ _ _ _ _), hk1.size⟩
    intro e
    have : w.heap.size < w1.heap.size := (M1.out.own.lt _ rfl).2
    simp [Value.ownBlock] at e
    omega
  go_loopw [13] (fun i wr => ∃ k : Nat, k ≤ len ∧ i = .int .i64 k ∧ Under w wr w1.heap.size (bareS (L.take k))) (fun i _ => len - (intOf i).toNat)
  case atStart => exact ⟨0, Nat.zero_le _, rfl, hU⟩
  case round =>
    obtain ⟨k, hk, rfl, hu⟩ := hrel
    by_cases hlt : k < len
    · have hBr := HA.out.kept hu.kept
      obtain ⟨b, off, rfl, hb, hc⟩ := hBr.at_ (by omega)
      have hcell := hc k hlt
      have hx := HG.out k
      have HS : Hid (bareS (L.take (k + 1)) = tk (bareS (L.take k)) (L.getD k 0)) := bareS_take L k (by rw [HL.out]; exact hlt)
      have hsl := bareS_len (L.take k)
      have hlk : (L.take k).length ≤ k := List.length_take_le _ _
      have hs2 : (bareS (L.take k)).1.length ≤ 1000000 := by omega
      obtain ⟨v, f, hp, hv⟩ := id hu.ex
      have HP : Hid (Pce wr w1.heap.size 0 39 3 v (bareS (L.take k)) f) := hp
      have HU : Hid (Under w wr w1.heap.size (bareS (L.take k))) := hu
      have HV : Hid (∀ i, v.ownBlock = some i → w.heap.size ≤ i) := hv
      clear hc hsl hlk hu hp hv hU hBr
      generalize L.getD k 0 = x at *
      go_wp2_with (go_at_call 29; refine (take_any x HP.out hx hs2).mono ?_; rintro e w2 ⟨rfl, ht⟩)
      go_roundw
      case rel => exact ⟨k + 1, by omega, by go_num, by rw [HS.out]; exact HU.out.step HP.out HV.out ht⟩
      case measure => simp [intOf]; omega
    · have hkq : k = len := by omega
      subst hkq
      rw [List.take_of_length_le (by rw [HL.out]; exact Nat.le_refl _)] at hu
      obtain ⟨v, f, hp, hv⟩ := id hu.ex
      have hc0 := hp.row.cell (i := 0) (by omega)
      rw [hp.bare] at hc0
      have HP : Hid (Pce wr w1.heap.size 0 39 3 v (bareS L) f) := hp
      have HK : Hid (Kept w wr none) := hu.kept
      have HO : Hid (wr.ownsRow w.heap.size 5 1 v (bareS L).1.length ((bareS L).1.map byteV)) := own_raise hp.own hv
      clear hp hv hu hU
      by_cases hw : wholeP (bareS L) = true
      · have E1 : Hid (bareL L = (bareS L).1) := by show bareL L = _; unfold bareL; rw [if_pos hw]
        have E2 : Hid (bareE L = 0) := by show bareE L = _; unfold bareE; rw [if_pos hw]
        obtain ⟨a', c', rfl, hm⟩ := mine_of HO.out
        have HM : Hid (Mine wr w.heap.size a' (bareS L).1.length c' (bareS L).1) := hm
        clear hm
        go_wp2_with (go_at_call 30; refine (whole_any HP.out).mono ?_; rintro e wr ⟨rfl, rfl⟩; rw [hw])
        go_ret2
        rw [E1.out, E2.out]
        exact ⟨a', c', rfl, HM.out, HK.out⟩
      · have hw : wholeP (bareS L) = false := by simpa using hw
        have E1 : Hid (bareL L = []) := by show bareL L = _; unfold bareL; rw [hw]; rfl
        have E2 : Hid (bareE L = 8) := by show bareE L = _; unfold bareE; rw [hw]; rfl
        go_wp2_with (go_at_call 30; refine (whole_any HP.out).mono ?_; rintro e wr ⟨rfl, rfl⟩; rw [hw])
        go_ret2
        rw [E1.out, E2.out]
        exact ⟨none, 0, rfl, ⟨World.ownsRow_nil _ _ _ _, fun _ => ⟨rfl, rfl⟩, Nat.le_refl _, by omega⟩, HK.out⟩

end Go.Proofs.YtflehhliddcfgaaDoor
