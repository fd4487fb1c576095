import Derived.Test.YtakilpnbjihibaaGreatDoorP7
import Derived.Laws.MakeOwn
import Derived.Deep.RegionWith
import Derived.Deep.DeepCutAuto
namespace Go.Proofs.YtakilpnbjihibaaGreatDoor
set_option linter.unusedVariables false
set_option linter.unusedSimpArgs false
set_option maxHeartbeats 1000000
set_option maxRecDepth 100000
open Go.RowKit Go.Lib Go.Deep
structure Rdr (w:World) (H b:Nat) (s:Rd):Prop where
 ex:∃ a n c,w.cell? ⟨b,0,none⟩=some (.slice a n c) /\ Come w a n c s.1 /\ (0 < n -> ∀ x,a=some x -> x.block < H /\ x.block ≠ b)
 c1:w.cell? ⟨b,1,none⟩=some (.bool s.2)
 f0:w.frozen? ⟨b,0,none⟩=false
 f1:w.frozen? ⟨b,1,none⟩=false
 c2:∃ v,w.cell? ⟨b,2,none⟩=some v
 f2:w.frozen? ⟨b,2,none⟩=false
 lt:b < H
theorem Come.keptR {w w':World} {r:Option Nat} {a:Option Addr} {n c:Nat} {L:List Nat} (h:Come w a n c L) (q:Kept w w' r) (hr:0 < n -> ∀ x,a=some x -> some x.block ≠ r):Come w' a n c L:=by
 refine ⟨?_,h.nil,h.room,h.max⟩;obtain ⟨h1,h2,h3,h4⟩:=h.by_;refine ⟨h1,h2,h3,fun hp=>?_⟩;obtain ⟨b,off,rfl,hb,hc⟩:=h4 hp;exact ⟨b,off,rfl,Nat.lt_of_lt_of_le hb q.size,fun i hi=>(World.cell?_of_block (w:=w) (a:=⟨b,off + i,none⟩) (q.block b hb (hr hp _ rfl))).trans (hc i hi)⟩
theorem Rdr.kept {w w':World} {H b:Nat} {s:Rd} {r:Option Nat} (h:Rdr w H b s) (q:Kept w w' r) (hr:∀ i,r=some i -> H <= i):Rdr w' H b s:=by
 have hb:some b ≠ r:=fun e=>by have:=hr b e.symm;have:=h.lt;omega
 obtain ⟨a,n,c,h1,h2,h3⟩:=h.ex;have hbl:=block_lt h1;refine ⟨⟨a,n,c,cell_keptR h1 q hb,h2.keptR q (fun hp x hx e=>by have:=hr _ e.symm;have:=(h3 hp x hx).1;omega),h3⟩,cell_keptR h.c1 q hb,(frozen_block (q.block b hbl hb)).trans h.f0,(frozen_block (q.block b hbl hb)).trans h.f1,h.c2.imp (fun v hv=>cell_keptR hv q hb),(frozen_block (q.block b hbl hb)).trans h.f2,h.lt⟩
theorem frozen_set (w:World) (p a:Addr) (v:Value):(w.setCell p v).frozen? a=w.frozen? a:=World.frozen?_setCell _ _ _ _
theorem Rdr.bad {w:World} {H b:Nat} {s:Rd} (h:Rdr w H b s):Rdr (w.setCell ⟨b,1,none⟩ (.bool true)) H b (s.1,true):=by
 obtain ⟨a,n,c,h1,h2,h3⟩:=h.ex;refine ⟨⟨a,n,c,(World.cell?_setCell_other _ _ _ _ (by simp)).trans h1,h2.keptR (kept_set _ _ _ _) (fun hp x hx e=>(h3 hp x hx).2 (by injection e)),h3⟩,World.cell?_setCell_same' _ _ _ (by rw [h.c1];rfl),(frozen_set _ _ _ _).trans h.f0,(frozen_set _ _ _ _).trans h.f1,h.c2.imp (fun v hv=>(World.cell?_setCell_other _ _ _ _ (by simp)).trans hv),(frozen_set _ _ _ _).trans h.f2,h.lt⟩
theorem Rdr.put {w:World} {H b:Nat} {s:Rd} (h:Rdr w H b s) (v:Value):Rdr (w.setCell ⟨b,2,none⟩ v) H b s:=by
 obtain ⟨a,n,c,h1,h2,h3⟩:=h.ex;obtain ⟨u,hu⟩:=h.c2;exact ⟨⟨a,n,c,(World.cell?_setCell_other _ _ _ _ (by simp)).trans h1,h2.keptR (kept_set _ _ _ _) (fun hp x hx e=>(h3 hp x hx).2 (by injection e)),h3⟩,(World.cell?_setCell_other _ _ _ _ (by simp)).trans h.c1,(frozen_set _ _ _ _).trans h.f0,(frozen_set _ _ _ _).trans h.f1,⟨v,World.cell?_setCell_same' _ _ _ (by rw [hu];rfl)⟩,(frozen_set _ _ _ _).trans h.f2,h.lt⟩
theorem By.drop {w:World} {b off n:Nat} {L:List Nat} (h:By w (some ⟨b,off,none⟩) n L) (k:Nat) (hk:k <= n):By w (some ⟨b,off + k,none⟩) (n - k) (L.drop k):=by
 obtain ⟨h1,h2,h3,h4⟩:=h;refine ⟨by simp;omega,by omega,fun x hx=>h3 x (List.mem_of_mem_drop hx),fun hp=>?_⟩;obtain ⟨b',off',e,hb,hc⟩:=h4 (by omega);injection e with e;injection e with e1 e2;subst e1 e2;refine ⟨b,off + k,rfl,hb,fun i hi=>?_⟩;rw [Nat.add_assoc,hc (k + i) (by omega)];simp
theorem Rdr.set {w:World} {H b:Nat} {L L':List Nat} {bd:Bool} {a:Option Addr} {n c:Nat} (h:Rdr w H b (L,bd)) (hC:Come w a n c L') (hx:0 < n -> ∀ x,a=some x -> x.block < H /\ x.block ≠ b):Rdr (w.setCell ⟨b,0,none⟩ (.slice a n c)) H b (L',bd):=by
 obtain ⟨a0,n0,c0,h1,_,_⟩:=h.ex;refine ⟨⟨a,n,c,World.cell?_setCell_same' _ _ _ (by rw [h1];rfl),hC.keptR (kept_set _ _ _ _) (fun hp x hxx e=>(hx hp x hxx).2 (by injection e)),hx⟩,(World.cell?_setCell_other _ _ _ _ (by simp)).trans h.c1,(frozen_set _ _ _ _).trans h.f0,(frozen_set _ _ _ _).trans h.f1,h.c2.imp (fun v hv=>(World.cell?_setCell_other _ _ _ _ (by simp)).trans hv),(frozen_set _ _ _ _).trans h.f2,h.lt⟩
theorem upM_no {most:Nat} {s:Rd} (h:(!s.2 && (okR s.1 && decide (rdN s.1 <= most)))=false):upM most s=(0,(s.1,true)):=by unfold upM;rw [if_neg (by rw [h];decide)]
theorem upM_yes {most:Nat} {s:Rd} (h:(!s.2 && (okR s.1 && decide (rdN s.1 <= most)))=true):upM most s=(rdN s.1,(s.1.drop (rdK s.1),false)):=by unfold upM;rw [if_pos h]
theorem upTo_any {w:World} {H b:Nat} {s:Rd} (h:Rdr w H b s) (most:Nat) (hm:most < 18446744073709551616):Calls Tryz.prog 74 #[.pointer (some ⟨b,0,none⟩),.int .u64 most] w fun e w'=>e=.returned (.int .u64 ((upM most s).1:Int)) /\ Rdr w' H b (upM most s).2 /\ Kept w w' (some b):=by
 have HR:=Hid.mk' h;obtain ⟨a,n,c,h1,h2,h3⟩:=h.ex;have c1:=h.c1;have f0:=h.f0;have f1:=h.f1;have HC:=Hid.mk' h2;have HX:=Hid.mk' h3;have hnN:=rdN_lt s.1;have hroom:=h2.room;have hcap:=h2.max;obtain ⟨L,bd⟩:=s;dsimp only at *;clear h h2 h3
 cases bd with
 | true =>
  have hE:upM most (L,true)=(0,(L,true)):=upM_no rfl;rw [hE];go_enter Tryz.func74,Tryz.ntmps74;go_wp2_with (go_at_call 96;refine (read_any HC.out.by_ HC.out.nil hroom hcap).mono ?_;rintro e w2 ⟨rfl,m,rfl⟩);go_ret;exact ⟨rfl,(HR.out.kept (Kept.drewN _ _ none) (fun i e=>by cases e)).bad,(Kept.drewN _ _ _).tr (kept_set _ _ _ _)⟩
 | false =>
  cases hok:okR L with
  | false =>
   have hE:upM most (L,false)=(0,(L,true)):=upM_no (by rw [hok];rfl);rw [hE];obtain ⟨d1,d2,d3⟩:=rd_none (L:=L) (by rw [hok];decide);go_enter Tryz.func74,Tryz.ntmps74;go_wp2_with (go_at_call 96;refine (read_any HC.out.by_ HC.out.nil hroom hcap).mono ?_;rintro e w2 ⟨rfl,m,rfl⟩;rw [d1,d2,d3]);go_ret;exact ⟨rfl,(HR.out.kept (Kept.drewN _ _ none) (fun i e=>by cases e)).bad,(Kept.drewN _ _ _).tr (kept_set _ _ _ _)⟩
  | true =>
   obtain ⟨d1,d2,d3⟩:=rd_some (L:=L) hok;have hro:=read_only L HC.out.by_.lt hok;have hsz:=HC.out.by_.size;have hkn:rdK L <= n:=by have:=hro.2.2.1;omega
   have hk1:=hro.2.1;have d3':((rdE L:Nat):Int)=0:=by rw [d3];rfl
   have HSZ:=Hid.mk' hsz;clear d1 d2 d3 hro hsz;by_cases hle:rdN L <= most
   . have hE:upM most (L,false)=(rdN L,(L.drop (rdK L),false)):=upM_yes (by rw [hok];simp [hle]);rw [hE];clear hE;obtain ⟨bb,off,rfl,hbb,_⟩:=HC.out.by_.at_ (by omega);generalize hK:rdK L=K at *;have HK:=Hid.mk' hK;clear hK;generalize hNN:rdN L=N at *;have HN:=Hid.mk' hNN;clear hNN;have hdrop:∀ m,Rdr (w.drewN m) H b (L,false):=fun m=>HR.out.kept (Kept.drewN _ _ none) (fun i e=>by cases e)
     have HD:=Hid.mk' hdrop;have hCm:∀ m,Come (w.drewN m) (some ⟨bb,off + K,none⟩) (n - K) (c - K) (L.drop K):=fun m=>⟨(HC.out.by_.drop K hkn).drewN m,fun e=>(nomatch e),by omega,by omega⟩
     have HCm:=Hid.mk' hCm
     have hXm:0 < n - K -> ∀ x,some (⟨bb,off + K,none⟩:Addr)=some x -> x.block < H /\ x.block ≠ b:=fun hp x hx=>by
      injection hx with hx;subst hx;exact HX.out (by omega) ⟨bb,off,none⟩ rfl
     have HXm:=Hid.mk' hXm;clear hdrop hCm hXm;by_cases hcK:K=c
     . have hnK:n=K:=by omega
       have hL0:L.drop K=[]:=by rw [List.drop_eq_nil_iff];have:=HSZ.out;omega
       subst hnK;subst hcK;rw [hL0];clear hL0 HCm HXm;go_enter Tryz.func74,Tryz.ntmps74;go_wp2_with (go_at_call 96;refine (read_any HC.out.by_ HC.out.nil hroom hcap).mono ?_;rintro e w2 ⟨rfl,m,rfl⟩;rw [HK.out,HN.out,d3'])
       all_goals
        go_ret;exact ⟨rfl,(HD.out _).set ⟨By.nil _ _,fun e=>(by first | rfl | cases e),Nat.le_refl _,by omega⟩ (fun hp=>absurd hp (by omega)),(Kept.drewN _ _ _).tr (kept_set _ _ _ _)⟩
     . have hcK2:¬ c=K:=fun e=>hcK e.symm
       have hcK3:K < c:=by omega
       go_enter Tryz.func74,Tryz.ntmps74;go_wp2_with (go_at_call 96;refine (read_any HC.out.by_ HC.out.nil hroom hcap).mono ?_;rintro e w2 ⟨rfl,m,rfl⟩;rw [HK.out,HN.out,d3']);go_ret;exact ⟨rfl,(HD.out _).set (HCm.out _) HXm.out,(Kept.drewN _ _ _).tr (kept_set _ _ _ _)⟩
   . have hE:upM most (L,false)=(0,(L,true)):=upM_no (by rw [hok];simp [hle]);rw [hE];have hgt:most < rdN L:=by omega
     go_enter Tryz.func74,Tryz.ntmps74;go_wp2_with (go_at_call 96;refine (read_any HC.out.by_ HC.out.nil hroom hcap).mono ?_;rintro e w2 ⟨rfl,m,rfl⟩;rw [d3']);go_ret;exact ⟨rfl,(HR.out.kept (Kept.drewN _ _ none) (fun i e=>by cases e)).bad,(Kept.drewN _ _ _).tr (kept_set _ _ _ _)⟩
theorem number_any {w:World} {H b:Nat} {s:Rd} (h:Rdr w H b s):Calls Tryz.prog 50 #[.pointer (some ⟨b,0,none⟩)] w fun e w'=>e=.returned (.int .i64 (numM s).1) /\ Rdr w' H b (numM s).2 /\ Kept w w' (some b):=by
 have HR:=Hid.mk' h
 have hle:(upM 1048576 s).1 <= 1048576:=by
  unfold upM;split
  . rename_i hc;simp only [Bool.and_eq_true,decide_eq_true_eq] at hc;exact hc.2.2
  . omega
 have HE:Hid ((numM s).1=((upM 1048576 s).1:Int) /\ (numM s).2=(upM 1048576 s).2):=⟨rfl,rfl⟩;have hU:=upTo_any h 1048576 (by omega);have HU:=Hid.mk' hU;clear h hU;generalize upM 1048576 s=u at *;go_enter Tryz.func50,Tryz.ntmps50;go_wp2_with (go_at_call 74;refine HU.out.mono ?_;rintro e w2 ⟨rfl,hr2,hk2⟩);go_ret;exact ⟨by rw [HE.out.1];rfl,by rw [HE.out.2];exact hr2,hk2⟩
theorem upM_le (most:Nat) (s:Rd):(upM most s).1 <= most:=by
 unfold upM;split
 . rename_i hc;simp only [Bool.and_eq_true,decide_eq_true_eq] at hc;exact hc.2.2
 . exact Nat.zero_le _
theorem many_any {w:World} {H b:Nat} {s:Rd} (h:Rdr w H b s) (most:Nat) (hm:most <= 1000):Calls Tryz.prog 46 #[.pointer (some ⟨b,0,none⟩),.int .i64 most] w fun e w'=>e=.returned (.int .i64 ((upM most s).1:Int)) /\ Rdr w' H b (upM most s).2 /\ Kept w w' (some b):=by
 have hle:=upM_le most s;have hU:=upTo_any h most (by omega);have HU:=Hid.mk' hU;clear h hU;generalize upM most s=u at *;go_enter Tryz.func46,Tryz.ntmps46;go_wp2_with (go_at_call 74;refine HU.out.mono ?_;rintro e w2 ⟨rfl,hr2,hk2⟩);go_ret;exact ⟨rfl,hr2,hk2⟩
theorem set_any {w:World} {H b:Nat} {s:Rd} (h:Rdr w H b s):Calls Tryz.prog 113 #[.pointer (some ⟨b,0,none⟩)] w fun e w'=>e=.returned (.int .u32 ((upM 4294967295 s).1:Int)) /\ Rdr w' H b (upM 4294967295 s).2 /\ Kept w w' (some b):=by
 have hle:=upM_le 4294967295 s;have hU:=upTo_any h 4294967295 (by omega);have HU:=Hid.mk' hU;clear h hU;generalize upM 4294967295 s=u at *;go_enter Tryz.func113,Tryz.ntmps113;go_wp2_with (go_at_call 74;refine HU.out.mono ?_;rintro e w2 ⟨rfl,hr2,hk2⟩);go_ret;exact ⟨by first | rfl | exact ret_int (by omega),hr2,hk2⟩
def doneB (s:Rd):Bool:=!s.2 && decide (s.1=[])
theorem done_any {w:World} {H b:Nat} {s:Rd} (h:Rdr w H b s):Calls Tryz.prog 25 #[.pointer (some ⟨b,0,none⟩)] w fun e w'=>e=.returned (.bool (doneB s)) /\ w'=w:=by
 obtain ⟨a,n,c,h1,h2,h3⟩:=h.ex;have c1:=h.c1;have hsz:=h2.by_.size;obtain ⟨L,bd⟩:=s;dsimp only at *
 have HE:Hid (doneB (L,bd)=(!bd && decide (n=0))):=by
  show doneB (L,bd)=_
  unfold doneB;have:(L=[])=(n=0):=by rw [<- hsz];simp
  simp [this]
 clear h h2 h3 hsz
 cases bd with
 | true =>
  go_enter Tryz.func25,Tryz.ntmps25;go_wp2;go_ret;exact ⟨by rw [HE.out];rfl,rfl⟩
 | false =>
  go_enter Tryz.func25,Tryz.ntmps25;go_wp2;go_ret;refine ⟨by rw [HE.out];simp;rw [Bool.eq_iff_iff];simp;try omega,rfl⟩
theorem lie_row {w:World} {g t n K:Nat} {f:Nat -> Value} {F:Nat -> Nat -> Value} (h:w.rowIs g t (n * K) f) (hf:∀ i,i < n -> ∀ j,j < K -> f (i * K + j)=F i j):Lie w (some ⟨g,0,none⟩) n K F :=
 ⟨fun hp=>⟨g,0,rfl,h.lt,fun i hi j hj=>by
  have hlt:i * K + j < n * K:=by
   have:(i + 1) * K <= n * K:=Nat.mul_le_mul_right K hi;rw [Nat.add_mul] at this;omega
  rw [Nat.zero_add,h.cell hlt,hf i hi j hj]⟩⟩
theorem madeRow (w:World) (z:Array Value) (n:Nat) (t:TypeId):(w.alloc (.cells (madeCells z n) t)).rowIs w.heap.size t n (fun i=>(madeCells z n)[i]?.getD undef) :=
 ⟨_,blk_alloc_new _ _,size_madeCells _ _,fun i hi=>by
  have:i < (madeCells z n).size:=by rw [size_madeCells];exact hi
  simp [this]⟩
theorem idx_lt {i j n K:Nat} (hi:i < n) (hj:j < K):i * K + j < n * K:=by
 have:(i + 1) * K <= n * K:=Nat.mul_le_mul_right K hi;rw [Nat.add_mul] at this;omega
theorem idx_ne {i j k q K:Nat} (hi:i < k) (hj:j < K):i * K + j ≠ k * K + q:=by
 have:(i + 1) * K <= k * K:=Nat.mul_le_mul_right K hi;rw [Nat.add_mul] at this;omega
theorem Rdr.setNew {w:World} {H b:Nat} {s:Rd} (h:Rdr w H b s) {g:Nat} (hg:H <= g) (j:Nat) (v:Value):Rdr (w.setCell ⟨g,j,none⟩ v) H b s:=h.kept (kept_set _ _ _ _) (fun i e=>by cases e;exact hg)
theorem one_eq (n:Nat):((n:Int) == 1)=decide (n=1):=by
 rw [Bool.eq_iff_iff];simp;omega
theorem getD_snoc_lt {α:Type} {l:List α} {x d:α} {i:Nat} (h:i < l.length):(l ++ [x]).getD i d=l.getD i d:=by
 simp [List.getElem?_append,h]
theorem getD_snoc_eq {α:Type} {l:List α} {x d:α} {i:Nat} (h:i=l.length):(l ++ [x]).getD i d=x:=by
 subst h;simp
theorem group_rd {w:World} {H b:Nat} {s:Rd} (h:Rdr w H b s) (hH:H <= w.heap.size):Calls Tryz.prog 111 #[.pointer (some ⟨b,0,none⟩)] w fun e w'=>e=.returned (.agg #[.int .u8 ((grM s).1.kind:Int),.int .i64 (grM s).1.min,.int .i64 (grM s).1.yellow]) /\ Rdr w' H b (grM s).2 /\ Kept w w' (some b):=by
 have hbl:=h.lt;have HE:Hid (grM s=(⟨(upM 255 s).1,(numM (upM 255 s).2).1,(numM (numM (upM 255 s).2).2).1⟩,(numM (numM (upM 255 s).2).2).2)):=rfl;have hle:=upM_le 255 s;have h0:=h.kept ((Kept.alloc w #[.int .u8 0,.int .i64 0,.int .i64 0] 108 (0,0) none).tr (Kept.drew _ none)) (fun i e=>by cases e);have H0:=Hid.mk' h0;have hrw0:(w.alloc (.cells #[.int .u8 0,.int .i64 0,.int .i64 0] 108)).rowIs w.heap.size 108 3 (fun i=>#[.int .u8 0,.int .i64 0,.int .i64 0][i]?.getD undef):=World.rowIs_alloc w #[.int .u8 0,.int .i64 0,.int .i64 0] 108 _ (fun i hi=>by simp at hi;simp [hi]);have HRW:=Hid.mk' hrw0;clear h h0 hrw0;generalize hu0:upM 255 s=u0 at *;have HU0:=Hid.mk' hu0;clear hu0;obtain ⟨v0,s0⟩:=u0;dsimp only at *;generalize hu1:numM s0=u1 at *;have HU1:=Hid.mk' hu1;clear hu1;obtain ⟨v1,s1⟩:=u1;dsimp only at *;generalize hu2:numM s1=u2 at *;have HU2:=Hid.mk' hu2;clear hu2;obtain ⟨v2,s2⟩:=u2;dsimp only at *;rw [HE.out];clear HE;have hbs:some w.heap.size ≠ some b:=fun e=>by injection e;omega
 go_enter Tryz.func111,Tryz.ntmps111;go_wp2;refine wp_region_held_drew (S:=fun _=>True) (by kernel_rfl) trivial (fun _=>?_);refine htI 0 ?_ rfl (by kernel_rfl) id ?_ trivial <| htI 1 ?_ rfl (by kernel_rfl) id ?_ trivial <| htI 2 ?_ rfl (by kernel_rfl) id ?_ trivial <| htI 5 ?_ rfl (by kernel_rfl) id ?_ trivial <| htI 6 ?_ rfl (by kernel_rfl) id ?_ trivial <| htI 7 ?_ rfl (by kernel_rfl) id ?_ trivial <| htI 9 ?_ rfl (by kernel_rfl) id ?_ trivial <| htI 10 ?_ rfl (by kernel_rfl) id ?_ trivial <| htI 11 ?_ rfl (by kernel_rfl) id ?_ trivial ?_
 all_goals try (intro w h;(try simp only [st3] at h ⊢);go_simp <;> with_reducible rfl)
 (try simp only [st3]);refine rdy 3 (by kernel_rfl) rfl (fun K hK=>?_);go_simp;go_wp2_with (go_at_call 74;have hn:=upTo_any H0.out 255 (by omega);rw [HU0.out] at hn;refine hn.mono ?_;rintro e w0 ⟨rfl,hr0,hk0⟩);refine hK.out _ _ trivial (fun _=>?_);clear hK K;have Q0:=Hid.mk' (row_kept (HRW.out.drew) hk0 hbs);refine htI 4 ?_ rfl (by kernel_rfl) id ?_ trivial ?_
 all_goals try (intro w h;(try simp only [st3] at h ⊢);go_simp <;> with_reducible rfl)
 (try simp only [st3]);refine rdy 8 (by kernel_rfl) rfl (fun K hK=>?_);go_simp;go_wp2_with (go_at_call 50;have hn:=number_any hr0;rw [HU1.out] at hn;refine hn.mono ?_;rintro e w1 ⟨rfl,hr1,hk1⟩);refine hK.out _ _ trivial (fun _=>?_);clear hK K;have Q1:=Hid.mk' (row_kept (Q0.out) hk1 hbs);refine rdy 12 (by kernel_rfl) rfl (fun K hK=>?_);go_simp;go_wp2_with (go_at_call 50;have hn:=number_any hr1;rw [HU2.out] at hn;refine hn.mono ?_;rintro e w2 ⟨rfl,hr2,hk2⟩);refine hK.out _ _ trivial (fun _=>?_);clear hK K;have Q2:=Hid.mk' (row_kept (Q1.out) hk2 hbs);refine htI 13 ?_ rfl (by kernel_rfl) id ?_ trivial ?_
 all_goals try (intro w h;(try simp only [st3] at h ⊢);go_simp <;> with_reducible rfl)
 (try simp only [st3]);have k0:=Q2.out.cell (i:=0) (by omega);have z0:=Q2.out.frozen 0;have k1:=Q2.out.cell (i:=1) (by omega);have z1:=Q2.out.frozen 1;have k2:=Q2.out.cell (i:=2) (by omega);have z2:=Q2.out.frozen 2;refine rdy 14 (by kernel_rfl) rfl (fun K hK=>?_);go_simp;refine hK.out _ _ trivial (fun _=>?_);clear hK K;refine wpAnyH_done (by kernel_rfl) ?_ _;go_wp2
 have hw8:IntKind.u8.wrap (v0:Int)=v0:=by
  simp [IntKind.wrap,IntKind.bits,IntKind.signed];omega
 rw [hw8];have hrw:=(World.rowIs.set (World.rowIs.set (World.rowIs.set Q2.out 0 (.int .u8 (v0:Int))) 1 (.int .i64 v1)) 2 (.int .i64 v2));have q0:=hrw.cell (i:=0) (by omega);have q1:=hrw.cell (i:=1) (by omega);have q2:=hrw.cell (i:=2) (by omega);exact bodyPost_ret (v:=.agg #[.int .u8 (v0:Int),.int .i64 v1,.int .i64 v2]) (by simp [results,Tryz.results111,go_sem,q0,q1,q2]) rfl ⟨by first | rfl | rw [one_eq],(((hr2.setNew hH 0 _).setNew hH 1 _).setNew hH 2 _),(kept_new (kept_new (kept_new (((((Kept.alloc w _ _ _ _:Kept w _ (some b)).tr (Kept.drew _ _)).tr hk0).tr hk1).tr hk2) (Nat.le_refl _) 0 _) (Nat.le_refl _) 1 _) (Nat.le_refl _) 2 _)⟩
theorem phase_rd {w:World} {H b:Nat} {s:Rd} (h:Rdr w H b s) (hH:H <= w.heap.size):Calls Tryz.prog 117 #[.pointer (some ⟨b,0,none⟩)] w fun e w'=>e=.returned (.agg #[.int .u32 ((phM s).1.groups:Int),.int .i64 (phM s).1.min,.int .i64 (phM s).1.max,.int .i64 (phM s).1.gap,.bool (phM s).1.always]) /\ Rdr w' H b (phM s).2 /\ Kept w w' (some b):=by
 have hbl:=h.lt;have HE:Hid (phM s=(⟨(upM 4294967295 s).1,(numM (upM 4294967295 s).2).1,(numM (numM (upM 4294967295 s).2).2).1,(numM (numM (numM (upM 4294967295 s).2).2).2).1,decide ((upM 1 (numM (numM (numM (upM 4294967295 s).2).2).2).2).1=1)⟩,(upM 1 (numM (numM (numM (upM 4294967295 s).2).2).2).2).2)):=rfl;have h0:=h.kept ((Kept.alloc w #[.int .u32 0,.int .i64 0,.int .i64 0,.int .i64 0,.bool false] 110 (0,0) none).tr (Kept.drew _ none)) (fun i e=>by cases e);have H0:=Hid.mk' h0;have hrw0:(w.alloc (.cells #[.int .u32 0,.int .i64 0,.int .i64 0,.int .i64 0,.bool false] 110)).rowIs w.heap.size 110 5 (fun i=>#[.int .u32 0,.int .i64 0,.int .i64 0,.int .i64 0,.bool false][i]?.getD undef):=World.rowIs_alloc w #[.int .u32 0,.int .i64 0,.int .i64 0,.int .i64 0,.bool false] 110 _ (fun i hi=>by simp at hi;simp [hi]);have HRW:=Hid.mk' hrw0;clear h h0 hrw0;generalize hu0:upM 4294967295 s=u0 at *;have HU0:=Hid.mk' hu0;clear hu0;obtain ⟨v0,s0⟩:=u0;dsimp only at *;generalize hu1:numM s0=u1 at *;have HU1:=Hid.mk' hu1;clear hu1;obtain ⟨v1,s1⟩:=u1;dsimp only at *;generalize hu2:numM s1=u2 at *;have HU2:=Hid.mk' hu2;clear hu2;obtain ⟨v2,s2⟩:=u2;dsimp only at *;generalize hu3:numM s2=u3 at *;have HU3:=Hid.mk' hu3;clear hu3;obtain ⟨v3,s3⟩:=u3;dsimp only at *;generalize hu4:upM 1 s3=u4 at *;have HU4:=Hid.mk' hu4;clear hu4;obtain ⟨v4,s4⟩:=u4;dsimp only at *;rw [HE.out];clear HE;have hbs:some w.heap.size ≠ some b:=fun e=>by injection e;omega
 go_enter Tryz.func117,Tryz.ntmps117;go_wp2;refine wp_region_held_drew (S:=fun _=>True) (by kernel_rfl) trivial (fun _=>?_);refine htI 0 ?_ rfl (by kernel_rfl) id ?_ trivial <| htI 2 ?_ rfl (by kernel_rfl) id ?_ trivial <| htI 3 ?_ rfl (by kernel_rfl) id ?_ trivial <| htI 4 ?_ rfl (by kernel_rfl) id ?_ trivial <| htI 6 ?_ rfl (by kernel_rfl) id ?_ trivial <| htI 7 ?_ rfl (by kernel_rfl) id ?_ trivial <| htI 8 ?_ rfl (by kernel_rfl) id ?_ trivial <| htI 10 ?_ rfl (by kernel_rfl) id ?_ trivial <| htI 11 ?_ rfl (by kernel_rfl) id ?_ trivial <| htI 12 ?_ rfl (by kernel_rfl) id ?_ trivial <| htI 14 ?_ rfl (by kernel_rfl) id ?_ trivial <| htI 15 ?_ rfl (by kernel_rfl) id ?_ trivial <| htI 16 ?_ rfl (by kernel_rfl) id ?_ trivial ?_
 all_goals try (intro w h;(try simp only [st3] at h ⊢);go_simp <;> with_reducible rfl)
 (try simp only [st3]);refine rdy 1 (by kernel_rfl) rfl (fun K hK=>?_);go_simp;go_wp2_with (go_at_call 113;have hn:=set_any H0.out;rw [HU0.out] at hn;refine hn.mono ?_;rintro e w0 ⟨rfl,hr0,hk0⟩);refine hK.out _ _ trivial (fun _=>?_);clear hK K;have Q0:=Hid.mk' (row_kept (HRW.out.drew) hk0 hbs);refine rdy 5 (by kernel_rfl) rfl (fun K hK=>?_);go_simp;go_wp2_with (go_at_call 50;have hn:=number_any hr0;rw [HU1.out] at hn;refine hn.mono ?_;rintro e w1 ⟨rfl,hr1,hk1⟩);refine hK.out _ _ trivial (fun _=>?_);clear hK K;have Q1:=Hid.mk' (row_kept (Q0.out) hk1 hbs);refine rdy 9 (by kernel_rfl) rfl (fun K hK=>?_);go_simp;go_wp2_with (go_at_call 50;have hn:=number_any hr1;rw [HU2.out] at hn;refine hn.mono ?_;rintro e w2 ⟨rfl,hr2,hk2⟩);refine hK.out _ _ trivial (fun _=>?_);clear hK K;have Q2:=Hid.mk' (row_kept (Q1.out) hk2 hbs);refine rdy 13 (by kernel_rfl) rfl (fun K hK=>?_);go_simp;go_wp2_with (go_at_call 50;have hn:=number_any hr2;rw [HU3.out] at hn;refine hn.mono ?_;rintro e w3 ⟨rfl,hr3,hk3⟩);refine hK.out _ _ trivial (fun _=>?_);clear hK K;have Q3:=Hid.mk' (row_kept (Q2.out) hk3 hbs);refine rdy 17 (by kernel_rfl) rfl (fun K hK=>?_);go_simp;go_wp2_with (go_at_call 74;have hn:=upTo_any hr3 1 (by omega);rw [HU4.out] at hn;refine hn.mono ?_;rintro e w4 ⟨rfl,hr4,hk4⟩);refine hK.out _ _ trivial (fun _=>?_);clear hK K;have Q4:=Hid.mk' (row_kept (Q3.out) hk4 hbs);refine htI 18 ?_ rfl (by kernel_rfl) id ?_ trivial <| htI 19 ?_ rfl (by kernel_rfl) id ?_ trivial ?_
 all_goals try (intro w h;(try simp only [st3] at h ⊢);go_simp <;> with_reducible rfl)
 (try simp only [st3]);have k0:=Q4.out.cell (i:=0) (by omega);have z0:=Q4.out.frozen 0;have k1:=Q4.out.cell (i:=1) (by omega);have z1:=Q4.out.frozen 1;have k2:=Q4.out.cell (i:=2) (by omega);have z2:=Q4.out.frozen 2;have k3:=Q4.out.cell (i:=3) (by omega);have z3:=Q4.out.frozen 3;have k4:=Q4.out.cell (i:=4) (by omega);have z4:=Q4.out.frozen 4;refine rdy 20 (by kernel_rfl) rfl (fun K hK=>?_);go_simp;refine hK.out _ _ trivial (fun _=>?_);clear hK K;refine wpAnyH_done (by kernel_rfl) ?_ _;go_wp2;have hrw:=(World.rowIs.set (World.rowIs.set (World.rowIs.set (World.rowIs.set (World.rowIs.set Q4.out 0 (.int .u32 (v0:Int))) 1 (.int .i64 v1)) 2 (.int .i64 v2)) 3 (.int .i64 v3)) 4 (.bool ((v4:Int) == 1)));have q0:=hrw.cell (i:=0) (by omega);have q1:=hrw.cell (i:=1) (by omega);have q2:=hrw.cell (i:=2) (by omega);have q3:=hrw.cell (i:=3) (by omega);have q4:=hrw.cell (i:=4) (by omega);exact bodyPost_ret (v:=.agg #[.int .u32 (v0:Int),.int .i64 v1,.int .i64 v2,.int .i64 v3,.bool ((v4:Int) == 1)]) (by simp [results,Tryz.results117,go_sem,q0,q1,q2,q3,q4]) rfl ⟨by first | rfl | rw [one_eq],(((((hr4.setNew hH 0 _).setNew hH 1 _).setNew hH 2 _).setNew hH 3 _).setNew hH 4 _),(kept_new (kept_new (kept_new (kept_new (kept_new (((((((Kept.alloc w _ _ _ _:Kept w _ (some b)).tr (Kept.drew _ _)).tr hk0).tr hk1).tr hk2).tr hk3).tr hk4) (Nat.le_refl _) 0 _) (Nat.le_refl _) 1 _) (Nat.le_refl _) 2 _) (Nat.le_refl _) 3 _) (Nat.le_refl _) 4 _)⟩
theorem eye_rd {w:World} {H b:Nat} {s:Rd} (h:Rdr w H b s) (hH:H <= w.heap.size):Calls Tryz.prog 119 #[.pointer (some ⟨b,0,none⟩)] w fun e w'=>e=.returned (.agg #[.int .i64 (eyM s).1.phase,.int .i64 (eyM s).1.on,.int .i64 (eyM s).1.off,.int .i64 (eyM s).1.turns]) /\ Rdr w' H b (eyM s).2 /\ Kept w w' (some b):=by
 have hbl:=h.lt;have HE:Hid (eyM s=(⟨(numM s).1,(numM (numM s).2).1,(numM (numM (numM s).2).2).1,(numM (numM (numM (numM s).2).2).2).1⟩,(numM (numM (numM (numM s).2).2).2).2)):=rfl;have h0:=h.kept ((Kept.alloc w #[.int .i64 0,.int .i64 0,.int .i64 0,.int .i64 0] 112 (0,0) none).tr (Kept.drew _ none)) (fun i e=>by cases e);have H0:=Hid.mk' h0;have hrw0:(w.alloc (.cells #[.int .i64 0,.int .i64 0,.int .i64 0,.int .i64 0] 112)).rowIs w.heap.size 112 4 (fun i=>#[.int .i64 0,.int .i64 0,.int .i64 0,.int .i64 0][i]?.getD undef):=World.rowIs_alloc w #[.int .i64 0,.int .i64 0,.int .i64 0,.int .i64 0] 112 _ (fun i hi=>by simp at hi;simp [hi]);have HRW:=Hid.mk' hrw0;clear h h0 hrw0;generalize hu0:numM s=u0 at *;have HU0:=Hid.mk' hu0;clear hu0;obtain ⟨v0,s0⟩:=u0;dsimp only at *;generalize hu1:numM s0=u1 at *;have HU1:=Hid.mk' hu1;clear hu1;obtain ⟨v1,s1⟩:=u1;dsimp only at *;generalize hu2:numM s1=u2 at *;have HU2:=Hid.mk' hu2;clear hu2;obtain ⟨v2,s2⟩:=u2;dsimp only at *;generalize hu3:numM s2=u3 at *;have HU3:=Hid.mk' hu3;clear hu3;obtain ⟨v3,s3⟩:=u3;dsimp only at *;rw [HE.out];clear HE;have hbs:some w.heap.size ≠ some b:=fun e=>by injection e;omega
 go_enter Tryz.func119,Tryz.ntmps119;go_wp2;refine wp_region_held_drew (S:=fun _=>True) (by kernel_rfl) trivial (fun _=>?_);refine htI 0 ?_ rfl (by kernel_rfl) id ?_ trivial <| htI 1 ?_ rfl (by kernel_rfl) id ?_ trivial <| htI 2 ?_ rfl (by kernel_rfl) id ?_ trivial <| htI 4 ?_ rfl (by kernel_rfl) id ?_ trivial <| htI 5 ?_ rfl (by kernel_rfl) id ?_ trivial <| htI 6 ?_ rfl (by kernel_rfl) id ?_ trivial <| htI 8 ?_ rfl (by kernel_rfl) id ?_ trivial <| htI 9 ?_ rfl (by kernel_rfl) id ?_ trivial <| htI 10 ?_ rfl (by kernel_rfl) id ?_ trivial <| htI 12 ?_ rfl (by kernel_rfl) id ?_ trivial <| htI 13 ?_ rfl (by kernel_rfl) id ?_ trivial <| htI 14 ?_ rfl (by kernel_rfl) id ?_ trivial ?_
 all_goals try (intro w h;(try simp only [st3] at h ⊢);go_simp <;> with_reducible rfl)
 (try simp only [st3]);refine rdy 3 (by kernel_rfl) rfl (fun K hK=>?_);go_simp;go_wp2_with (go_at_call 50;have hn:=number_any H0.out;rw [HU0.out] at hn;refine hn.mono ?_;rintro e w0 ⟨rfl,hr0,hk0⟩);refine hK.out _ _ trivial (fun _=>?_);clear hK K;have Q0:=Hid.mk' (row_kept (HRW.out.drew) hk0 hbs);refine rdy 7 (by kernel_rfl) rfl (fun K hK=>?_);go_simp;go_wp2_with (go_at_call 50;have hn:=number_any hr0;rw [HU1.out] at hn;refine hn.mono ?_;rintro e w1 ⟨rfl,hr1,hk1⟩);refine hK.out _ _ trivial (fun _=>?_);clear hK K;have Q1:=Hid.mk' (row_kept (Q0.out) hk1 hbs);refine rdy 11 (by kernel_rfl) rfl (fun K hK=>?_);go_simp;go_wp2_with (go_at_call 50;have hn:=number_any hr1;rw [HU2.out] at hn;refine hn.mono ?_;rintro e w2 ⟨rfl,hr2,hk2⟩);refine hK.out _ _ trivial (fun _=>?_);clear hK K;have Q2:=Hid.mk' (row_kept (Q1.out) hk2 hbs);refine rdy 15 (by kernel_rfl) rfl (fun K hK=>?_);go_simp;go_wp2_with (go_at_call 50;have hn:=number_any hr2;rw [HU3.out] at hn;refine hn.mono ?_;rintro e w3 ⟨rfl,hr3,hk3⟩);refine hK.out _ _ trivial (fun _=>?_);clear hK K;have Q3:=Hid.mk' (row_kept (Q2.out) hk3 hbs);refine htI 16 ?_ rfl (by kernel_rfl) id ?_ trivial ?_
 all_goals try (intro w h;(try simp only [st3] at h ⊢);go_simp <;> with_reducible rfl)
 (try simp only [st3]);have k0:=Q3.out.cell (i:=0) (by omega);have z0:=Q3.out.frozen 0;have k1:=Q3.out.cell (i:=1) (by omega);have z1:=Q3.out.frozen 1;have k2:=Q3.out.cell (i:=2) (by omega);have z2:=Q3.out.frozen 2;have k3:=Q3.out.cell (i:=3) (by omega);have z3:=Q3.out.frozen 3;refine rdy 17 (by kernel_rfl) rfl (fun K hK=>?_);go_simp;refine hK.out _ _ trivial (fun _=>?_);clear hK K;refine wpAnyH_done (by kernel_rfl) ?_ _;go_wp2;have hrw:=(World.rowIs.set (World.rowIs.set (World.rowIs.set (World.rowIs.set Q3.out 0 (.int .i64 v0)) 1 (.int .i64 v1)) 2 (.int .i64 v2)) 3 (.int .i64 v3));have q0:=hrw.cell (i:=0) (by omega);have q1:=hrw.cell (i:=1) (by omega);have q2:=hrw.cell (i:=2) (by omega);have q3:=hrw.cell (i:=3) (by omega);exact bodyPost_ret (v:=.agg #[.int .i64 v0,.int .i64 v1,.int .i64 v2,.int .i64 v3]) (by simp [results,Tryz.results119,go_sem,q0,q1,q2,q3]) rfl ⟨by first | rfl | rw [one_eq],((((hr3.setNew hH 0 _).setNew hH 1 _).setNew hH 2 _).setNew hH 3 _),(kept_new (kept_new (kept_new (kept_new ((((((Kept.alloc w _ _ _ _:Kept w _ (some b)).tr (Kept.drew _ _)).tr hk0).tr hk1).tr hk2).tr hk3) (Nat.le_refl _) 0 _) (Nat.le_refl _) 1 _) (Nat.le_refl _) 2 _) (Nat.le_refl _) 3 _)⟩
theorem list_int {w:World} {H b:Nat} {s:Rd} (h:Rdr w H b s) (hH:H <= w.heap.size) (n:Nat) (hn:n <= 24):Calls Tryz.prog 77 #[.int .i64 n,.func (.func 50) #[.pointer (some ⟨b,0,none⟩)] #[]] w fun e w'=>e=.returned (.slice (some ⟨w.heap.size,0,none⟩) n n) /\ Lie w' (some ⟨w.heap.size,0,none⟩) n 1 (fun i j=>.int .i64 ((listM numM n s).1.getD i 0)) /\ Rdr w' H b (listM numM n s).2 /\ Kept w w' (some b):=by
 obtain ⟨i0,hi0,hz0,hz1,hz2⟩:=info_parts (show (Tryz.prog.info? 3).map (fun i=>(i.zero,i.size,i.bytes))=some (some (.int .i64 0),1,8) from by kernel_rfl);have hmk:=run_make (P:=Tryz.prog) w 50 3 i0 _ (by kernel_rfl) hi0 hz0 .i64 .i64 n n (by omega) (Int.le_refl _) (by rw [hz2];omega) (by omega);rw [hz1,Int.toNat_natCast] at hmk;have hrow0:=madeRow w (Value.cells (.int .i64 0)) (n * 1) 3;have hr0:=h.kept (Kept.alloc w (madeCells (Value.cells (.int .i64 0)) (n * 1)) 3 (0,0) none) (fun i e=>by cases e);have hk0:Kept w (w.alloc (.cells (madeCells (Value.cells (.int .i64 0)) (n * 1)) 3)) (some b):=Kept.alloc _ _ _ _ _;have hbl:=h.lt;have hbs:some w.heap.size ≠ some b:=fun e=>by injection e;omega
 generalize hW0:w.alloc (.cells (madeCells (Value.cells (.int .i64 0)) (n * 1)) 3)=W0 at *;have HR0:=Hid.mk' hr0;have HRow0:=Hid.mk' hrow0;clear h hr0 hrow0 hW0;go_enter Tryz.func77,Tryz.ntmps77;go_wp2;clear hmk;go_loopw [11] (fun i wr=>∃ k:Nat,k <= n /\ i=.int .i64 k /\ (∃ f,wr.rowIs w.heap.size 3 (n * 1) f /\ ∀ i,i < k -> ∀ j,j < 1 -> f (i * 1 + j)=(fun i j=>.int .i64 ((listM numM k s).1.getD i 0)) i j) /\ Rdr wr H b (listM numM k s).2 /\ Kept w wr (some b)) (fun i _=>n - (intOf i).toNat)
 case atStart=>exact ⟨0,Nat.zero_le _,rfl,⟨_,HRow0.out,fun i hi=>by omega⟩,HR0.out,hk0⟩
 case round =>
  obtain ⟨k,hk,rfl,⟨f,hrow,hf⟩,hr,hkw⟩:=hrel;by_cases hlt:k < n
  . have hcall:=number_any hr;have hsn:=listM_snoc numM k s;have hlen:=listM_len numM k s;have HF:=Hid.mk' hf;have HROW:=Hid.mk' hrow;have HSN:=Hid.mk' hsn;have HLEN:=Hid.mk' hlen;have HCALL:=Hid.mk' hcall;clear hf hrow hsn hlen hcall hr;generalize hx:(numM (listM numM k s).2).1=x at *;clear hx;go_wp2_with (refine HCALL.out.mono ?_;rintro e w2 ⟨rfl,hr2,hk2⟩;have hrow2:=row_kept HROW.out hk2 hbs;have k0:=hrow2.cell (i:=k) (by have:=idx_lt (j:=0) hlt (show 0 < 1 by omega);omega);have z0:=hrow2.frozen (k));go_roundw
    case rel =>
     refine ⟨k + 1,by omega,by go_num,⟨_,(World.rowIs.set hrow2 (k) (.int .i64 x)),fun i hi j hj=>?_⟩,by rw [HSN.out];exact (hr2.setNew hH (k) _),(kept_new (hkw.tr hk2) (Nat.le_refl _) (k) _)⟩;rw [HSN.out];by_cases hik:i=k
     . subst hik;have:j=0:=by omega
       try dsimp only
       rw [getD_snoc_eq HLEN.out.symm];subst this;simp
     . have hne:=fun q=>idx_ne (q:=q) (show i < k by omega) hj
       try dsimp only
       rw [getD_snoc_lt (by rw [HLEN.out];omega)];have h0:=HF.out i (by omega) j hj
       try dsimp only at h0
       rw [<- h0];rw [if_neg (by have:=hne 0;omega)]
    case measure=>simp [intOf];omega
  . have hkk:k=n:=by omega
    subst hkk;have HL:=Hid.mk' (lie_row hrow hf);clear hf hrow;go_wp2;go_ret;exact ⟨rfl,HL.out,hr,hkw⟩
theorem list_set {w:World} {H b:Nat} {s:Rd} (h:Rdr w H b s) (hH:H <= w.heap.size) (n:Nat) (hn:n <= 24):Calls Tryz.prog 112 #[.int .i64 n,.func (.func 113) #[.pointer (some ⟨b,0,none⟩)] #[]] w fun e w'=>e=.returned (.slice (some ⟨w.heap.size,0,none⟩) n n) /\ Lie w' (some ⟨w.heap.size,0,none⟩) n 1 (fun i j=>.int .u32 ((listM (upM 4294967295) n s).1.getD i 0:Int)) /\ Rdr w' H b (listM (upM 4294967295) n s).2 /\ Kept w w' (some b):=by
 obtain ⟨i0,hi0,hz0,hz1,hz2⟩:=info_parts (show (Tryz.prog.info? 91).map (fun i=>(i.zero,i.size,i.bytes))=some (some (.int .u32 0),1,4) from by kernel_rfl);have hmk:=run_make (P:=Tryz.prog) w 43 91 i0 _ (by kernel_rfl) hi0 hz0 .i64 .i64 n n (by omega) (Int.le_refl _) (by rw [hz2];omega) (by omega);rw [hz1,Int.toNat_natCast] at hmk;have hrow0:=madeRow w (Value.cells (.int .u32 0)) (n * 1) 91;have hr0:=h.kept (Kept.alloc w (madeCells (Value.cells (.int .u32 0)) (n * 1)) 91 (0,0) none) (fun i e=>by cases e);have hk0:Kept w (w.alloc (.cells (madeCells (Value.cells (.int .u32 0)) (n * 1)) 91)) (some b):=Kept.alloc _ _ _ _ _;have hbl:=h.lt;have hbs:some w.heap.size ≠ some b:=fun e=>by injection e;omega
 generalize hW0:w.alloc (.cells (madeCells (Value.cells (.int .u32 0)) (n * 1)) 91)=W0 at *;have HR0:=Hid.mk' hr0;have HRow0:=Hid.mk' hrow0;clear h hr0 hrow0 hW0;go_enter Tryz.func112,Tryz.ntmps112;go_wp2;clear hmk;go_loopw [11] (fun i wr=>∃ k:Nat,k <= n /\ i=.int .i64 k /\ (∃ f,wr.rowIs w.heap.size 91 (n * 1) f /\ ∀ i,i < k -> ∀ j,j < 1 -> f (i * 1 + j)=(fun i j=>.int .u32 ((listM (upM 4294967295) k s).1.getD i 0:Int)) i j) /\ Rdr wr H b (listM (upM 4294967295) k s).2 /\ Kept w wr (some b)) (fun i _=>n - (intOf i).toNat)
 case atStart=>exact ⟨0,Nat.zero_le _,rfl,⟨_,HRow0.out,fun i hi=>by omega⟩,HR0.out,hk0⟩
 case round =>
  obtain ⟨k,hk,rfl,⟨f,hrow,hf⟩,hr,hkw⟩:=hrel;by_cases hlt:k < n
  . have hcall:=set_any hr;have hsn:=listM_snoc (upM 4294967295) k s;have hlen:=listM_len (upM 4294967295) k s;have HF:=Hid.mk' hf;have HROW:=Hid.mk' hrow;have HSN:=Hid.mk' hsn;have HLEN:=Hid.mk' hlen;have HCALL:=Hid.mk' hcall;clear hf hrow hsn hlen hcall hr;generalize hx:((upM 4294967295) (listM (upM 4294967295) k s).2).1=x at *;clear hx;go_wp2_with (refine HCALL.out.mono ?_;rintro e w2 ⟨rfl,hr2,hk2⟩;have hrow2:=row_kept HROW.out hk2 hbs;have k0:=hrow2.cell (i:=k) (by have:=idx_lt (j:=0) hlt (show 0 < 1 by omega);omega);have z0:=hrow2.frozen (k));go_roundw
    case rel =>
     refine ⟨k + 1,by omega,by go_num,⟨_,(World.rowIs.set hrow2 (k) (.int .u32 (x:Int))),fun i hi j hj=>?_⟩,by rw [HSN.out];exact (hr2.setNew hH (k) _),(kept_new (hkw.tr hk2) (Nat.le_refl _) (k) _)⟩;rw [HSN.out];by_cases hik:i=k
     . subst hik;have:j=0:=by omega
       try dsimp only
       rw [getD_snoc_eq HLEN.out.symm];subst this;simp
     . have hne:=fun q=>idx_ne (q:=q) (show i < k by omega) hj
       try dsimp only
       rw [getD_snoc_lt (by rw [HLEN.out];omega)];have h0:=HF.out i (by omega) j hj
       try dsimp only at h0
       rw [<- h0];rw [if_neg (by have:=hne 0;omega)]
    case measure=>simp [intOf];omega
  . have hkk:k=n:=by omega
    subst hkk;have HL:=Hid.mk' (lie_row hrow hf);clear hf hrow;go_wp2;go_ret;exact ⟨rfl,HL.out,hr,hkw⟩
theorem list_group {w:World} {H b:Nat} {s:Rd} (h:Rdr w H b s) (hH:H <= w.heap.size) (n:Nat) (hn:n <= 24):Calls Tryz.prog 110 #[.int .i64 n,.func (.func 111) #[.pointer (some ⟨b,0,none⟩)] #[]] w fun e w'=>e=.returned (.slice (some ⟨w.heap.size,0,none⟩) n n) /\ Lie w' (some ⟨w.heap.size,0,none⟩) n 3 (fun i j=>grV ((listM grM n s).1.getD i g0) j) /\ Rdr w' H b (listM grM n s).2 /\ Kept w w' (some b):=by
 obtain ⟨i0,hi0,hz0,hz1,hz2⟩:=info_parts (show (Tryz.prog.info? 108).map (fun i=>(i.zero,i.size,i.bytes))=some (some (.agg #[.int .u8 0,.int .i64 0,.int .i64 0]),3,24) from by kernel_rfl);have hmk:=run_make (P:=Tryz.prog) w 42 108 i0 _ (by kernel_rfl) hi0 hz0 .i64 .i64 n n (by omega) (Int.le_refl _) (by rw [hz2];omega) (by omega);rw [hz1,Int.toNat_natCast] at hmk;have hrow0:=madeRow w (Value.cells (.agg #[.int .u8 0,.int .i64 0,.int .i64 0])) (n * 3) 108;have hr0:=h.kept (Kept.alloc w (madeCells (Value.cells (.agg #[.int .u8 0,.int .i64 0,.int .i64 0])) (n * 3)) 108 (0,0) none) (fun i e=>by cases e);have hk0:Kept w (w.alloc (.cells (madeCells (Value.cells (.agg #[.int .u8 0,.int .i64 0,.int .i64 0])) (n * 3)) 108)) (some b):=Kept.alloc _ _ _ _ _;have hbl:=h.lt;have hbs:some w.heap.size ≠ some b:=fun e=>by injection e;omega
 generalize hW0:w.alloc (.cells (madeCells (Value.cells (.agg #[.int .u8 0,.int .i64 0,.int .i64 0])) (n * 3)) 108)=W0 at *;have HR0:=Hid.mk' hr0;have HRow0:=Hid.mk' hrow0;clear h hr0 hrow0 hW0;go_enter Tryz.func110,Tryz.ntmps110;go_wp2;clear hmk;go_loopw [11] (fun i wr=>∃ k:Nat,k <= n /\ i=.int .i64 k /\ (∃ f,wr.rowIs w.heap.size 108 (n * 3) f /\ ∀ i,i < k -> ∀ j,j < 3 -> f (i * 3 + j)=(fun i j=>grV ((listM grM k s).1.getD i g0) j) i j) /\ Rdr wr H b (listM grM k s).2 /\ Kept w wr (some b)) (fun i _=>n - (intOf i).toNat)
 case atStart=>exact ⟨0,Nat.zero_le _,rfl,⟨_,HRow0.out,fun i hi=>by omega⟩,HR0.out,hk0⟩
 case round =>
  obtain ⟨k,hk,rfl,⟨f,hrow,hf⟩,hr,hkw⟩:=hrel;by_cases hlt:k < n
  . have hcall:=group_rd hr (by have:=hkw.size;omega);have hsn:=listM_snoc grM k s;have hlen:=listM_len grM k s;have HF:=Hid.mk' hf;have HROW:=Hid.mk' hrow;have HSN:=Hid.mk' hsn;have HLEN:=Hid.mk' hlen;have HCALL:=Hid.mk' hcall;clear hf hrow hsn hlen hcall hr;generalize hx:(grM (listM grM k s).2).1=x at *;clear hx;go_wp2_with (refine HCALL.out.mono ?_;rintro e w2 ⟨rfl,hr2,hk2⟩;have hrow2:=row_kept HROW.out hk2 hbs;have k0:=hrow2.cell (i:=k * 3) (by have:=idx_lt (j:=0) hlt (show 0 < 3 by omega);omega);have z0:=hrow2.frozen (k * 3);have k1:=hrow2.cell (i:=k * 3 + 1) (by have:=idx_lt (j:=1) hlt (show 1 < 3 by omega);omega);have z1:=hrow2.frozen (k * 3 + 1);have k2:=hrow2.cell (i:=k * 3 + 2) (by have:=idx_lt (j:=2) hlt (show 2 < 3 by omega);omega);have z2:=hrow2.frozen (k * 3 + 2));go_roundw
    case rel =>
     refine ⟨k + 1,by omega,by go_num,⟨_,(World.rowIs.set (World.rowIs.set (World.rowIs.set hrow2 (k * 3) (.int .u8 (x.kind:Int))) (k * 3 + 1) (.int .i64 x.min)) (k * 3 + 2) (.int .i64 x.yellow)),fun i hi j hj=>?_⟩,by rw [HSN.out];exact (((hr2.setNew hH (k * 3) _).setNew hH (k * 3 + 1) _).setNew hH (k * 3 + 2) _),(kept_new (kept_new (kept_new (hkw.tr hk2) (Nat.le_refl _) (k * 3) _) (Nat.le_refl _) (k * 3 + 1) _) (Nat.le_refl _) (k * 3 + 2) _)⟩;rw [HSN.out];by_cases hik:i=k
     . subst hik;have:j=0 \/ j=1 \/ j=2:=by omega
       try dsimp only
       rw [getD_snoc_eq HLEN.out.symm];rcases this with rfl | rfl | rfl <;> simp [grV]
     . have hne:=fun q=>idx_ne (q:=q) (show i < k by omega) hj
       try dsimp only
       rw [getD_snoc_lt (by rw [HLEN.out];omega)];have h0:=HF.out i (by omega) j hj
       try dsimp only at h0
       rw [<- h0];rw [if_neg (by have:=hne 2;omega)];rw [if_neg (by have:=hne 1;omega)];rw [if_neg (by have:=hne 0;omega)]
    case measure=>simp [intOf];omega
  . have hkk:k=n:=by omega
    subst hkk;have HL:=Hid.mk' (lie_row hrow hf);clear hf hrow;go_wp2;go_ret;exact ⟨rfl,HL.out,hr,hkw⟩
theorem list_phase {w:World} {H b:Nat} {s:Rd} (h:Rdr w H b s) (hH:H <= w.heap.size) (n:Nat) (hn:n <= 24):Calls Tryz.prog 116 #[.int .i64 n,.func (.func 117) #[.pointer (some ⟨b,0,none⟩)] #[]] w fun e w'=>e=.returned (.slice (some ⟨w.heap.size,0,none⟩) n n) /\ Lie w' (some ⟨w.heap.size,0,none⟩) n 5 (fun i j=>phV ((listM phM n s).1.getD i p0) j) /\ Rdr w' H b (listM phM n s).2 /\ Kept w w' (some b):=by
 obtain ⟨i0,hi0,hz0,hz1,hz2⟩:=info_parts (show (Tryz.prog.info? 110).map (fun i=>(i.zero,i.size,i.bytes))=some (some (.agg #[.int .u32 0,.int .i64 0,.int .i64 0,.int .i64 0,.bool false]),5,40) from by kernel_rfl);have hmk:=run_make (P:=Tryz.prog) w 45 110 i0 _ (by kernel_rfl) hi0 hz0 .i64 .i64 n n (by omega) (Int.le_refl _) (by rw [hz2];omega) (by omega);rw [hz1,Int.toNat_natCast] at hmk;have hrow0:=madeRow w (Value.cells (.agg #[.int .u32 0,.int .i64 0,.int .i64 0,.int .i64 0,.bool false])) (n * 5) 110;have hr0:=h.kept (Kept.alloc w (madeCells (Value.cells (.agg #[.int .u32 0,.int .i64 0,.int .i64 0,.int .i64 0,.bool false])) (n * 5)) 110 (0,0) none) (fun i e=>by cases e);have hk0:Kept w (w.alloc (.cells (madeCells (Value.cells (.agg #[.int .u32 0,.int .i64 0,.int .i64 0,.int .i64 0,.bool false])) (n * 5)) 110)) (some b):=Kept.alloc _ _ _ _ _;have hbl:=h.lt;have hbs:some w.heap.size ≠ some b:=fun e=>by injection e;omega
 generalize hW0:w.alloc (.cells (madeCells (Value.cells (.agg #[.int .u32 0,.int .i64 0,.int .i64 0,.int .i64 0,.bool false])) (n * 5)) 110)=W0 at *;have HR0:=Hid.mk' hr0;have HRow0:=Hid.mk' hrow0;clear h hr0 hrow0 hW0;go_enter Tryz.func116,Tryz.ntmps116;go_wp2;clear hmk;go_loopw [11] (fun i wr=>∃ k:Nat,k <= n /\ i=.int .i64 k /\ (∃ f,wr.rowIs w.heap.size 110 (n * 5) f /\ ∀ i,i < k -> ∀ j,j < 5 -> f (i * 5 + j)=(fun i j=>phV ((listM phM k s).1.getD i p0) j) i j) /\ Rdr wr H b (listM phM k s).2 /\ Kept w wr (some b)) (fun i _=>n - (intOf i).toNat)
 case atStart=>exact ⟨0,Nat.zero_le _,rfl,⟨_,HRow0.out,fun i hi=>by omega⟩,HR0.out,hk0⟩
 case round =>
  obtain ⟨k,hk,rfl,⟨f,hrow,hf⟩,hr,hkw⟩:=hrel;by_cases hlt:k < n
  . have hcall:=phase_rd hr (by have:=hkw.size;omega);have hsn:=listM_snoc phM k s;have hlen:=listM_len phM k s;have HF:=Hid.mk' hf;have HROW:=Hid.mk' hrow;have HSN:=Hid.mk' hsn;have HLEN:=Hid.mk' hlen;have HCALL:=Hid.mk' hcall;clear hf hrow hsn hlen hcall hr;generalize hx:(phM (listM phM k s).2).1=x at *;clear hx;go_wp2_with (refine HCALL.out.mono ?_;rintro e w2 ⟨rfl,hr2,hk2⟩;have hrow2:=row_kept HROW.out hk2 hbs;have k0:=hrow2.cell (i:=k * 5) (by have:=idx_lt (j:=0) hlt (show 0 < 5 by omega);omega);have z0:=hrow2.frozen (k * 5);have k1:=hrow2.cell (i:=k * 5 + 1) (by have:=idx_lt (j:=1) hlt (show 1 < 5 by omega);omega);have z1:=hrow2.frozen (k * 5 + 1);have k2:=hrow2.cell (i:=k * 5 + 2) (by have:=idx_lt (j:=2) hlt (show 2 < 5 by omega);omega);have z2:=hrow2.frozen (k * 5 + 2);have k3:=hrow2.cell (i:=k * 5 + 3) (by have:=idx_lt (j:=3) hlt (show 3 < 5 by omega);omega);have z3:=hrow2.frozen (k * 5 + 3);have k4:=hrow2.cell (i:=k * 5 + 4) (by have:=idx_lt (j:=4) hlt (show 4 < 5 by omega);omega);have z4:=hrow2.frozen (k * 5 + 4));go_roundw
    case rel =>
     refine ⟨k + 1,by omega,by go_num,⟨_,(World.rowIs.set (World.rowIs.set (World.rowIs.set (World.rowIs.set (World.rowIs.set hrow2 (k * 5) (.int .u32 (x.groups:Int))) (k * 5 + 1) (.int .i64 x.min)) (k * 5 + 2) (.int .i64 x.max)) (k * 5 + 3) (.int .i64 x.gap)) (k * 5 + 4) (.bool x.always)),fun i hi j hj=>?_⟩,by rw [HSN.out];exact (((((hr2.setNew hH (k * 5) _).setNew hH (k * 5 + 1) _).setNew hH (k * 5 + 2) _).setNew hH (k * 5 + 3) _).setNew hH (k * 5 + 4) _),(kept_new (kept_new (kept_new (kept_new (kept_new (hkw.tr hk2) (Nat.le_refl _) (k * 5) _) (Nat.le_refl _) (k * 5 + 1) _) (Nat.le_refl _) (k * 5 + 2) _) (Nat.le_refl _) (k * 5 + 3) _) (Nat.le_refl _) (k * 5 + 4) _)⟩;rw [HSN.out];by_cases hik:i=k
     . subst hik;have:j=0 \/ j=1 \/ j=2 \/ j=3 \/ j=4:=by omega
       try dsimp only
       rw [getD_snoc_eq HLEN.out.symm];rcases this with rfl | rfl | rfl | rfl | rfl <;> simp [phV]
     . have hne:=fun q=>idx_ne (q:=q) (show i < k by omega) hj
       try dsimp only
       rw [getD_snoc_lt (by rw [HLEN.out];omega)];have h0:=HF.out i (by omega) j hj
       try dsimp only at h0
       rw [<- h0];rw [if_neg (by have:=hne 4;omega)];rw [if_neg (by have:=hne 3;omega)];rw [if_neg (by have:=hne 2;omega)];rw [if_neg (by have:=hne 1;omega)];rw [if_neg (by have:=hne 0;omega)]
    case measure=>simp [intOf];omega
  . have hkk:k=n:=by omega
    subst hkk;have HL:=Hid.mk' (lie_row hrow hf);clear hf hrow;go_wp2;go_ret;exact ⟨rfl,HL.out,hr,hkw⟩
theorem list_eye {w:World} {H b:Nat} {s:Rd} (h:Rdr w H b s) (hH:H <= w.heap.size) (n:Nat) (hn:n <= 24):Calls Tryz.prog 118 #[.int .i64 n,.func (.func 119) #[.pointer (some ⟨b,0,none⟩)] #[]] w fun e w'=>e=.returned (.slice (some ⟨w.heap.size,0,none⟩) n n) /\ Lie w' (some ⟨w.heap.size,0,none⟩) n 4 (fun i j=>eyV ((listM eyM n s).1.getD i e0) j) /\ Rdr w' H b (listM eyM n s).2 /\ Kept w w' (some b):=by
 obtain ⟨i0,hi0,hz0,hz1,hz2⟩:=info_parts (show (Tryz.prog.info? 112).map (fun i=>(i.zero,i.size,i.bytes))=some (some (.agg #[.int .i64 0,.int .i64 0,.int .i64 0,.int .i64 0]),4,32) from by kernel_rfl);have hmk:=run_make (P:=Tryz.prog) w 46 112 i0 _ (by kernel_rfl) hi0 hz0 .i64 .i64 n n (by omega) (Int.le_refl _) (by rw [hz2];omega) (by omega);rw [hz1,Int.toNat_natCast] at hmk;have hrow0:=madeRow w (Value.cells (.agg #[.int .i64 0,.int .i64 0,.int .i64 0,.int .i64 0])) (n * 4) 112;have hr0:=h.kept (Kept.alloc w (madeCells (Value.cells (.agg #[.int .i64 0,.int .i64 0,.int .i64 0,.int .i64 0])) (n * 4)) 112 (0,0) none) (fun i e=>by cases e);have hk0:Kept w (w.alloc (.cells (madeCells (Value.cells (.agg #[.int .i64 0,.int .i64 0,.int .i64 0,.int .i64 0])) (n * 4)) 112)) (some b):=Kept.alloc _ _ _ _ _;have hbl:=h.lt;have hbs:some w.heap.size ≠ some b:=fun e=>by injection e;omega
 generalize hW0:w.alloc (.cells (madeCells (Value.cells (.agg #[.int .i64 0,.int .i64 0,.int .i64 0,.int .i64 0])) (n * 4)) 112)=W0 at *;have HR0:=Hid.mk' hr0;have HRow0:=Hid.mk' hrow0;clear h hr0 hrow0 hW0;go_enter Tryz.func118,Tryz.ntmps118;go_wp2;clear hmk;go_loopw [11] (fun i wr=>∃ k:Nat,k <= n /\ i=.int .i64 k /\ (∃ f,wr.rowIs w.heap.size 112 (n * 4) f /\ ∀ i,i < k -> ∀ j,j < 4 -> f (i * 4 + j)=(fun i j=>eyV ((listM eyM k s).1.getD i e0) j) i j) /\ Rdr wr H b (listM eyM k s).2 /\ Kept w wr (some b)) (fun i _=>n - (intOf i).toNat)
 case atStart=>exact ⟨0,Nat.zero_le _,rfl,⟨_,HRow0.out,fun i hi=>by omega⟩,HR0.out,hk0⟩
 case round =>
  obtain ⟨k,hk,rfl,⟨f,hrow,hf⟩,hr,hkw⟩:=hrel;by_cases hlt:k < n
  . have hcall:=eye_rd hr (by have:=hkw.size;omega);have hsn:=listM_snoc eyM k s;have hlen:=listM_len eyM k s;have HF:=Hid.mk' hf;have HROW:=Hid.mk' hrow;have HSN:=Hid.mk' hsn;have HLEN:=Hid.mk' hlen;have HCALL:=Hid.mk' hcall;clear hf hrow hsn hlen hcall hr;generalize hx:(eyM (listM eyM k s).2).1=x at *;clear hx;go_wp2_with (refine HCALL.out.mono ?_;rintro e w2 ⟨rfl,hr2,hk2⟩;have hrow2:=row_kept HROW.out hk2 hbs;have k0:=hrow2.cell (i:=k * 4) (by have:=idx_lt (j:=0) hlt (show 0 < 4 by omega);omega);have z0:=hrow2.frozen (k * 4);have k1:=hrow2.cell (i:=k * 4 + 1) (by have:=idx_lt (j:=1) hlt (show 1 < 4 by omega);omega);have z1:=hrow2.frozen (k * 4 + 1);have k2:=hrow2.cell (i:=k * 4 + 2) (by have:=idx_lt (j:=2) hlt (show 2 < 4 by omega);omega);have z2:=hrow2.frozen (k * 4 + 2);have k3:=hrow2.cell (i:=k * 4 + 3) (by have:=idx_lt (j:=3) hlt (show 3 < 4 by omega);omega);have z3:=hrow2.frozen (k * 4 + 3));go_roundw
    case rel =>
     refine ⟨k + 1,by omega,by go_num,⟨_,(World.rowIs.set (World.rowIs.set (World.rowIs.set (World.rowIs.set hrow2 (k * 4) (.int .i64 x.phase)) (k * 4 + 1) (.int .i64 x.on)) (k * 4 + 2) (.int .i64 x.off)) (k * 4 + 3) (.int .i64 x.turns)),fun i hi j hj=>?_⟩,by rw [HSN.out];exact ((((hr2.setNew hH (k * 4) _).setNew hH (k * 4 + 1) _).setNew hH (k * 4 + 2) _).setNew hH (k * 4 + 3) _),(kept_new (kept_new (kept_new (kept_new (hkw.tr hk2) (Nat.le_refl _) (k * 4) _) (Nat.le_refl _) (k * 4 + 1) _) (Nat.le_refl _) (k * 4 + 2) _) (Nat.le_refl _) (k * 4 + 3) _)⟩;rw [HSN.out];by_cases hik:i=k
     . subst hik;have:j=0 \/ j=1 \/ j=2 \/ j=3:=by omega
       try dsimp only
       rw [getD_snoc_eq HLEN.out.symm];rcases this with rfl | rfl | rfl | rfl <;> simp [eyV]
     . have hne:=fun q=>idx_ne (q:=q) (show i < k by omega) hj
       try dsimp only
       rw [getD_snoc_lt (by rw [HLEN.out];omega)];have h0:=HF.out i (by omega) j hj
       try dsimp only at h0
       rw [<- h0];rw [if_neg (by have:=hne 3;omega)];rw [if_neg (by have:=hne 2;omega)];rw [if_neg (by have:=hne 1;omega)];rw [if_neg (by have:=hne 0;omega)]
    case measure=>simp [intOf];omega
  . have hkk:k=n:=by omega
    subst hkk;have HL:=Hid.mk' (lie_row hrow hf);clear hf hrow;go_wp2;go_ret;exact ⟨rfl,HL.out,hr,hkw⟩
abbrev f3 (a b c:Value) (i:Nat):Value:=#[a,b,c][i]?.getD undef
theorem row3 (w:World) (a b c:Value) (t:TypeId):(w.alloc (.cells #[a,b,c] t)).rowIs w.heap.size t 3 (f3 a b c):=World.rowIs_alloc w #[a,b,c] t _ (fun i hi=>by simp at hi;simp [f3,hi])
theorem row3_set {w:World} {g:Nat} {t:TypeId} {f:Nat -> Value} (h:w.rowIs g t 3 f) (a b c:Value):(((w.setCell ⟨g,0,none⟩ a).setCell ⟨g,1,none⟩ b).setCell ⟨g,2,none⟩ c).rowIs g t 3 (f3 a b c) :=
 (((h.set 0 a).set 1 b).set 2 c).congr (fun i hi=>by
   have:i=0 \/ i=1 \/ i=2:=by omega
   rcases this with rfl | rfl | rfl <;> simp [f3])
structure Mid (w wx:World) (H b g:Nat) (s:Rd) (u v x:Value):Prop where
 rd:Rdr wx H b s
 res:wx.rowIs w.heap.size 79 3 (f3 (.int .i64 0) (.int .i64 0) (.slice none 0 0))
 box:wx.rowIs g 79 3 (f3 u v x)
 gt:w.heap.size < g
 kept:Kept w wx (some b)
theorem Rdr.drew {w:World} {H b:Nat} {s:Rd} (h:Rdr w H b s):Rdr w.drew H b s:=h.kept (Kept.drew _ none) (fun i e=>by cases e)
theorem Rdr.alloc {w:World} {H b:Nat} {s:Rd} (h:Rdr w H b s) (c:Array Value) (t:TypeId):Rdr (w.alloc (.cells c t)) H b s:=h.kept (Kept.alloc _ _ _ (0,0) none) (fun i e=>by cases e)
theorem plan_rd {w:World} {H b:Nat} {s:Rd} (h:Rdr w H b s) (hH:H <= w.heap.size):Calls Tryz.prog 129 #[.pointer (some ⟨b,0,none⟩)] w fun e w'=>∃ g,w.heap.size <= g /\ e=.returned (.agg #[.int .i64 (plM s).1.cycle,.int .i64 (plM s).1.offset,.slice (some ⟨g,0,none⟩) (plM s).1.splits.length (plM s).1.splits.length]) /\ Lie w' (some ⟨g,0,none⟩) (plM s).1.splits.length 1 (fun i _=>.int .i64 ((plM s).1.splits.getD i 0)) /\ Rdr w' H b (plM s).2 /\ Kept w w' (some b):=by
 have hbl:=h.lt;have hrw0:=row3 w (.int .i64 0) (.int .i64 0) (.slice none 0 0) 79;have h0:=h.kept (Kept.alloc w #[.int .i64 0,.int .i64 0,.slice none 0 0] 79 (0,0) none) (fun i e=>by cases e);have H0:=Hid.mk' (h0.kept (Kept.drew _ none) (fun i e=>by cases e));have HRW:=Hid.mk' hrw0;have HB0:=Hid.mk' ((h0.alloc #[.int .i64 0,.int .i64 0,.slice none 0 0] 79).drew);have HE:Hid (plM s=(⟨(numM s).1,(numM (numM s).2).1,(listM numM (upM 8 (numM (numM s).2).2).1 (upM 8 (numM (numM s).2).2).2).1⟩,(listM numM (upM 8 (numM (numM s).2).2).1 (upM 8 (numM (numM s).2).2).2).2)):=rfl;have hlen:=listM_len numM (upM 8 (numM (numM s).2).2).1 (upM 8 (numM (numM s).2).2).2;have hle:=upM_le 8 (numM (numM s).2).2;clear h h0 hrw0;generalize hu0:numM s=u0 at *;have HU0:=Hid.mk' hu0;clear hu0;obtain ⟨v0,s0⟩:=u0;dsimp only at *;generalize hu1:numM s0=u1 at *;have HU1:=Hid.mk' hu1;clear hu1;obtain ⟨v1,s1⟩:=u1;dsimp only at *;generalize hu2:upM 8 s1=u2 at *;have HU2:=Hid.mk' hu2;clear hu2;obtain ⟨v2,s2⟩:=u2;dsimp only at *;generalize hu3:listM numM v2 s2=u3 at *;have HU3:=Hid.mk' hu3;clear hu3;obtain ⟨l3,s3⟩:=u3;dsimp only at *;rw [HE.out];clear HE;dsimp only;rw [hlen];have HLEN:=Hid.mk' hlen;clear hlen;have hbs:some w.heap.size ≠ some b:=fun e=>by injection e;omega
 have HNE:Hid (∀ g,w.heap.size <= g -> some g ≠ some b):=fun g hg e=>by injection e;omega
 have HP0:Hid (∀ w',Kept ((w.alloc (.cells #[.int .i64 0,.int .i64 0,.slice none 0 0] 79)).alloc (.cells #[.int .i64 0,.int .i64 0,.slice none 0 0] 79)).drew w' (some b) -> w'.rowIs (w.heap.size + 1) 79 3 (f3 (.int .i64 0) (.int .i64 0) (.slice none 0 0))):=fun w' hk=>by
  have h1:=row3 (w.alloc (.cells #[.int .i64 0,.int .i64 0,.slice none 0 0] 79)) (.int .i64 0) (.int .i64 0) (.slice none 0 0) 79;rw [World.size_alloc] at h1;exact row_kept h1.drew hk (HNE.out _ (by omega))
 have HP1:Hid (∀ v w':World,w.heap.size <= v.heap.size -> Kept (v.alloc (.cells #[.int .i64 0,.int .i64 0,.slice none 0 0] 79)) w' (some b) -> w'.rowIs v.heap.size 79 3 (f3 (.int .i64 0) (.int .i64 0) (.slice none 0 0))):=fun v w' hv hk =>
  row_kept (row3 v (.int .i64 0) (.int .i64 0) (.slice none 0 0) 79) hk (HNE.out _ hv)
 go_enter Tryz.func129,Tryz.ntmps129;go_wp2;go_cut [3] (fun p wx=>∃ g,p=.pointer (some ⟨g,0,none⟩) /\ Mid w wx H b g s1 (.int .i64 v0) (.int .i64 v1) (.slice none 0 0))
 case first =>
  refine wp_region_held_drew (S:=fun _=>True) (by kernel_rfl) trivial (fun _=>?_);refine htI 0 ?_ rfl (by kernel_rfl) id ?_ trivial <| htI 1 ?_ rfl (by kernel_rfl) id ?_ trivial <| htI 2 ?_ rfl (by kernel_rfl) id ?_ trivial <| htI 4 ?_ rfl (by kernel_rfl) id ?_ trivial <| htI 5 ?_ rfl (by kernel_rfl) id ?_ trivial <| htI 6 ?_ rfl (by kernel_rfl) id ?_ trivial ?_
  all_goals try (intro w h;(try simp only [st3] at h ⊢);go_simp <;> with_reducible rfl)
  (try simp only [st3]);refine wpAnyH_ready (rs:=[3,9]) (by kernel_rfl) (by simp) ?_;refine AllReadyH.cons rfl (fun K hK=>?brA) (AllReadyH.cons rfl (fun K hK=>?brB) AllReadyH.nil)
  case brA =>
   go_simp;go_wp2_with (go_at_call 50;have hn:=number_any H0.out;rw [HU0.out] at hn;refine hn.mono ?_;rintro e w0 ⟨rfl,hr0,hk0⟩);refine hK.out _ _ trivial (fun _=>?_);clear hK K;refine wpAnyH_ready (rs:=[7,9]) (by kernel_rfl) (by simp) ?_;refine AllReadyH.cons rfl (fun K hK=>?brA1) (AllReadyH.cons rfl (fun K hK=>?brA2) AllReadyH.nil)
   case brA1 =>
    go_simp;go_wp2_with (go_at_call 50;have hn:=number_any hr0;rw [HU1.out] at hn;refine hn.mono ?_;rintro e w1 ⟨rfl,hr1,hk1⟩);refine hK.out _ _ trivial (fun _=>?_);clear hK K;refine htI 8 ?_ rfl (by kernel_rfl) id ?_ trivial ?_
    all_goals try (intro w h;(try simp only [st3] at h ⊢);go_simp <;> with_reducible rfl)
    (try simp only [st3]);refine rdy 9 (by kernel_rfl) rfl (fun K hK=>?_);go_simp;refine hK.out _ _ trivial (fun _=>?_);clear hK K;refine rdy 10 (by kernel_rfl) rfl (fun K hK=>?_);go_simp;refine hK.out _ _ trivial (fun _=>?_);clear hK K;refine wpAnyH_done (by kernel_rfl) ?_ _;go_wp2_with fail;go_meet;have e1:w.heap.size < w1.heap.size:=by have h1:=hk0.size;have h2:=hk1.size;simp at h1;omega
    exact ⟨_,rfl,hr1.alloc _ _,World.rowIs.alloc (row_kept (row_kept HRW.out.drew hk0 hbs) hk1 hbs) _,row3 w1 _ _ _ _,e1,((((Kept.alloc w _ _ _ _:Kept w _ (some b)).tr (Kept.drew _ _)).tr hk0).tr hk1).tr (Kept.alloc _ _ _ (0,0) _)⟩
   case brA2 =>
    go_simp;refine hK.out _ _ trivial (fun _=>?_);clear hK K;refine rdy 7 (by kernel_rfl) rfl (fun K hK=>?_);go_simp;go_wp2_with (go_at_call 50;have hn:=number_any (hr0.alloc #[.int .i64 0,.int .i64 0,.slice none 0 0] 79);rw [HU1.out] at hn;refine hn.mono ?_;rintro e w1 ⟨rfl,hr1,hk1⟩);refine hK.out _ _ trivial (fun _=>?_);clear hK K;refine htI 8 ?_ rfl (by kernel_rfl) id ?_ trivial ?_
    all_goals try (intro w h;(try simp only [st3] at h ⊢);go_simp <;> with_reducible rfl)
    (try simp only [st3]);have P1:=HP1.out w0 w1 (by have:=hk0.size;simp at this;omega) hk1;have k0:=P1.cell (i:=0) (by omega);have k1:=P1.cell (i:=1) (by omega);have k2:=P1.cell (i:=2) (by omega);have zz0:=P1.frozen 0;have zz1:=P1.frozen 1;have zz2:=P1.frozen 2;refine rdy 10 (by kernel_rfl) rfl (fun K hK=>?_);go_simp;refine hK.out _ _ trivial (fun _=>?_);clear hK K;refine wpAnyH_done (by kernel_rfl) ?_ _;go_wp2_with fail;go_meet;have e1:w.heap.size < w0.heap.size:=by have h1:=hk0.size;simp at h1;omega
    have e2:w.heap.size ≠ w0.heap.size:=by omega
    have P2:=row_kept (World.rowIs.alloc (row_kept HRW.out.drew hk0 hbs) (.cells #[.int .i64 0,.int .i64 0,.slice none 0 0] 79)) hk1 hbs;have K2:Kept w w1 (some b):=((((Kept.alloc w _ _ _ _:Kept w _ (some b)).tr (Kept.drew _ _)).tr hk0).tr (Kept.alloc _ _ _ (0,0) _)).tr hk1;exact ⟨_,rfl,((hr1.setNew (by omega) 0 _).setNew (by omega) 1 _).setNew (by omega) 2 _,((P2.setOther e2 _).setOther e2 _).setOther e2 _,row3_set P1 _ _ _,e1,kept_new (kept_new (kept_new K2 (by omega) 0 _) (by omega) 1 _) (by omega) 2 _⟩
  case brB =>
   go_simp;refine hK.out _ _ trivial (fun _=>?_);clear hK K;refine rdy 3 (by kernel_rfl) rfl (fun K hK=>?_);go_simp;go_wp2_with (go_at_call 50;have hn:=number_any HB0.out;rw [HU0.out] at hn;refine hn.mono ?_;rintro e w0 ⟨rfl,hr0,hk0⟩);refine hK.out _ _ trivial (fun _=>?_);clear hK K;refine rdy 7 (by kernel_rfl) rfl (fun K hK=>?_);go_simp;go_wp2_with (go_at_call 50;have hn:=number_any hr0;rw [HU1.out] at hn;refine hn.mono ?_;rintro e w1 ⟨rfl,hr1,hk1⟩);refine hK.out _ _ trivial (fun _=>?_);clear hK K;refine htI 8 ?_ rfl (by kernel_rfl) id ?_ trivial ?_
   all_goals try (intro w h;(try simp only [st3] at h ⊢);go_simp <;> with_reducible rfl)
   (try simp only [st3]);have P1:=row_kept (HP0.out w0 hk0) hk1 (HNE.out _ (by omega));have k0:=P1.cell (i:=0) (by omega);have k1:=P1.cell (i:=1) (by omega);have k2:=P1.cell (i:=2) (by omega);have zz0:=P1.frozen 0;have zz1:=P1.frozen 1;have zz2:=P1.frozen 2;refine rdy 10 (by kernel_rfl) rfl (fun K hK=>?_);go_simp;refine hK.out _ _ trivial (fun _=>?_);clear hK K;refine wpAnyH_done (by kernel_rfl) ?_ _;go_wp2_with fail;go_meet;have e2:w.heap.size ≠ w.heap.size + 1:=by omega
   have P2:=row_kept (row_kept (World.rowIs.drew (World.rowIs.alloc HRW.out (.cells #[.int .i64 0,.int .i64 0,.slice none 0 0] 79))) hk0 hbs) hk1 hbs;have K2:Kept w w1 (some b):=((((Kept.alloc w _ _ _ _:Kept w _ (some b)).tr (Kept.alloc _ _ _ (0,0) _)).tr (Kept.drew _ _)).tr hk0).tr hk1;exact ⟨_,rfl,((hr1.setNew (by omega) 0 _).setNew (by omega) 1 _).setNew (by omega) 2 _,((P2.setOther e2 _).setOther e2 _).setOther e2 _,row3_set P1 _ _ _,by omega,kept_new (kept_new (kept_new K2 (by omega) 0 _) (by omega) 1 _) (by omega) 2 _⟩
 case rest =>
  obtain ⟨g,rfl,hm⟩:=hcut;have HM:=Hid.mk' hm;have hgt:=hm.gt;have HSZ:=Hid.mk' hm.kept.size;have hbg:some g ≠ some b:=HNE.out _ (by omega);clear hm H0 HRW HB0 HP0 HP1;go_wp2_with fail;refine wp_region_held_drew (S:=fun _=>True) (by kernel_rfl) trivial (fun _=>?_);refine htI 0 ?_ rfl (by kernel_rfl) id ?_ trivial <| htI 1 ?_ rfl (by kernel_rfl) id ?_ trivial <| htI 2 ?_ rfl (by kernel_rfl) id ?_ trivial <| htI 4 ?_ rfl (by kernel_rfl) id ?_ trivial <| htI 5 ?_ rfl (by kernel_rfl) id ?_ trivial <| htI 6 ?_ rfl (by kernel_rfl) id ?_ trivial <| htI 7 ?_ rfl (by kernel_rfl) id ?_ trivial ?_
  all_goals try (intro w h;(try simp only [st3] at h ⊢);go_simp <;> with_reducible rfl)
  (try simp only [st3]);refine rdy 3 (by kernel_rfl) rfl (fun K hK=>?_);go_simp;go_wp2_with (go_at_call 46;have hn:=many_any HM.out.rd.drew 8 (by omega);rw [HU2.out] at hn;refine hn.mono ?_;rintro e w2 ⟨rfl,hr2,hk2⟩);have R2:=Hid.mk' hr2;have Q2:=Hid.mk' (row_kept HM.out.box.drew hk2 hbg);have T2:=Hid.mk' (row_kept HM.out.res.drew hk2 hbs);clear hr2;refine hK.out _ _ trivial (fun _=>?_);clear hK K;refine rdy 8 (by kernel_rfl) rfl (fun K hK=>?_);go_simp;go_wp2_with (go_at_call 77;have hn:=list_int R2.out (by have h1:=HSZ.out;have h2:=hk2.size;simp at h2;omega) v2 (by omega);rw [HU3.out] at hn;refine hn.mono ?_;rintro e w3 ⟨rfl,hl3,hr3,hk3⟩);have Q3:=row_kept Q2.out hk3 hbg;have T3:=row_kept T2.out hk3 hbs;have k2:=Q3.cell (i:=2) (by omega);have z2:=Q3.frozen 2;refine hK.out _ _ trivial (fun _=>?_);clear hK K;refine htI 9 ?_ rfl (by kernel_rfl) id ?_ trivial ?_
  all_goals try (intro w h;(try simp only [st3] at h ⊢);go_simp <;> with_reducible rfl)
  (try simp only [st3]);refine rdy 10 (by kernel_rfl) rfl (fun K hK=>?_);go_simp;refine hK.out _ _ trivial (fun _=>?_);clear hK K;refine wpAnyH_done (by kernel_rfl) ?_ _;clear k2 z2;have hsz2:w.heap.size <= w2.heap.size:=by have h1:=HSZ.out;have h2:=hk2.size;simp at h2;omega
  have hg2:g < w2.heap.size:=Q2.out.lt
  have Q4:=(World.rowIs.set Q3 2 (.slice (some ⟨w2.heap.size,0,none⟩) v2 v2)).congr (g:=f3 (.int .i64 v0) (.int .i64 v1) (.slice (some ⟨w2.heap.size,0,none⟩) v2 v2)) (fun i hi=>by
   have:i=0 \/ i=1 \/ i=2:=by omega
   rcases this with rfl | rfl | rfl <;> simp [f3])
  have T4:=World.rowIs.setOther T3 (show w.heap.size ≠ (⟨g,2,none⟩:Addr).block by show _ ≠ g;omega) (.slice (some ⟨w2.heap.size,0,none⟩) v2 v2);have K3:Kept w w3 (some b):=((HM.out.kept.tr (Kept.drew _ _)).tr hk2).tr hk3;have K4:=kept_new K3 (show w.heap.size <= g by omega) 2 (.slice (some ⟨w2.heap.size,0,none⟩) v2 v2);have R4:=hr3.setNew (show H <= g by omega) 2 (.slice (some ⟨w2.heap.size,0,none⟩) v2 v2);have L4:=hl3.keptR (kept_set w3 g 2 (.slice (some ⟨w2.heap.size,0,none⟩) v2 v2)) (fun _ x e f=>by cases e;have f:=Option.some.inj f;dsimp only at f;omega);clear Q3 T3 hl3 hr3 hk3 hn;generalize w3.setCell ⟨g,2,none⟩ (.slice (some ⟨w2.heap.size,0,none⟩) v2 v2)=w4 at *;have k0:=Q4.cell (i:=0) (by omega);have k1:=Q4.cell (i:=1) (by omega);have k2:=Q4.cell (i:=2) (by omega);have t0:=T4.cell (i:=0) (by omega);have t1:=T4.cell (i:=1) (by omega);have t2:=T4.cell (i:=2) (by omega);have y0:=T4.frozen 0;have y1:=T4.frozen 1;have y2:=T4.frozen 2;simp [f3] at k0 k1 k2 t0 t1 t2;go_wp2_with fail;have hrw:=row3_set T4 (.int .i64 v0) (.int .i64 v1) (.slice (some ⟨w2.heap.size,0,none⟩) v2 v2);have q0:=hrw.cell (i:=0) (by omega);have q1:=hrw.cell (i:=1) (by omega);have q2:=hrw.cell (i:=2) (by omega);simp [f3] at q0 q1 q2;have hne:w2.heap.size ≠ w.heap.size:=by omega
  refine bodyPost_ret (v:=.agg #[.int .i64 v0,.int .i64 v1,.slice (some ⟨w2.heap.size,0,none⟩) v2 v2]) (by simp [results,Tryz.results129,go_sem,q0,q1,q2]) rfl ⟨_,hsz2,rfl,?_,((R4.setNew hH 0 _).setNew hH 1 _).setNew hH 2 _,kept_new (kept_new (kept_new K4 (Nat.le_refl _) 0 _) (Nat.le_refl _) 1 _) (Nat.le_refl _) 2 _⟩;exact ((L4.keptR (kept_set _ w.heap.size 0 _) (fun _ x e f=>by cases e;have f:=Option.some.inj f;dsimp only at f;omega)).keptR (kept_set _ w.heap.size 1 _) (fun _ x e f=>by cases e;have f:=Option.some.inj f;dsimp only at f;omega)).keptR (kept_set _ w.heap.size 2 _) (fun _ x e f=>by cases e;have f:=Option.some.inj f;dsimp only at f;omega)
structure PlN (w:World) (lo a n:Nat) (l:List Pl):Prop where
 ex:∃ r:Nat -> Nat,Lie w (some ⟨a,0,none⟩) n 3 (fun i j=>plV (l.getD i q0) (some ⟨r i,0,none⟩) (l.getD i q0).splits.length j) /\ ∀ i,i < n -> lo <= r i /\ Lie w (some ⟨r i,0,none⟩) (l.getD i q0).splits.length 1 (fun q _=>.int .i64 ((l.getD i q0).splits.getD q 0))
 lo:lo <= a
theorem PlN.keptR {w w':World} {lo a n x:Nat} {l:List Pl} (h:PlN w lo a n l) (q:Kept w w' (some x)) (hx:x < lo):PlN w' lo a n l:=by
 obtain ⟨⟨r,h1,h2⟩,h3⟩:=h;exact ⟨⟨r,h1.keptR q (fun _ y e f=>by cases e;have f:=Option.some.inj f;dsimp only at f;omega),fun i hi=>⟨(h2 i hi).1,(h2 i hi).2.keptR q (fun _ y e f=>by cases e;have f:=Option.some.inj f;dsimp only at f;have:=(h2 i hi).1;omega)⟩⟩,h3⟩
theorem list_plan {w:World} {H b:Nat} {s:Rd} (h:Rdr w H b s) (hH:H <= w.heap.size) (n:Nat) (hn:n <= 24):Calls Tryz.prog 128 #[.int .i64 n,.func (.func 129) #[.pointer (some ⟨b,0,none⟩)] #[]] w fun e w'=>e=.returned (.slice (some ⟨w.heap.size,0,none⟩) n n) /\ PlN w' w.heap.size w.heap.size n (listM plM n s).1 /\ Rdr w' H b (listM plM n s).2 /\ Kept w w' (some b):=by
 obtain ⟨i0,hi0,hz0,hz1,hz2⟩:=info_parts (show (Tryz.prog.info? 79).map (fun i=>(i.zero,i.size,i.bytes))=some (some (.agg #[.int .i64 0,.int .i64 0,.slice none 0 0]),3,40) from by kernel_rfl);have hmk:=run_make (P:=Tryz.prog) w 47 79 i0 _ (by kernel_rfl) hi0 hz0 .i64 .i64 n n (by omega) (Int.le_refl _) (by rw [hz2];omega) (by omega);rw [hz1,Int.toNat_natCast] at hmk;have hrow0:=madeRow w (Value.cells (.agg #[.int .i64 0,.int .i64 0,.slice none 0 0])) (n * 3) 79;have hr0:=h.kept (Kept.alloc w (madeCells (Value.cells (.agg #[.int .i64 0,.int .i64 0,.slice none 0 0])) (n * 3)) 79 (0,0) none) (fun i e=>by cases e);have hk0:Kept w (w.alloc (.cells (madeCells (Value.cells (.agg #[.int .i64 0,.int .i64 0,.slice none 0 0])) (n * 3)) 79)) (some b):=Kept.alloc _ _ _ _ _;have hbl:=h.lt;have hbs:some w.heap.size ≠ some b:=fun e=>by injection e;omega
 generalize hW0:w.alloc (.cells (madeCells (Value.cells (.agg #[.int .i64 0,.int .i64 0,.slice none 0 0])) (n * 3)) 79)=W0 at *;have HR0:=Hid.mk' hr0;have HRow0:=Hid.mk' hrow0;clear h hr0 hrow0 hW0;go_enter Tryz.func128,Tryz.ntmps128;go_wp2;clear hmk;go_loopw [11] (fun i wr=>∃ k:Nat,k <= n /\ i=.int .i64 k /\ (∃ f,∃ r:Nat -> Nat,wr.rowIs w.heap.size 79 (n * 3) f /\ (∀ i,i < k -> ∀ j,j < 3 -> f (i * 3 + j)=plV ((listM plM k s).1.getD i q0) (some ⟨r i,0,none⟩) ((listM plM k s).1.getD i q0).splits.length j) /\ ∀ i,i < k -> w.heap.size + 1 <= r i /\ Lie wr (some ⟨r i,0,none⟩) ((listM plM k s).1.getD i q0).splits.length 1 (fun q _=>.int .i64 (((listM plM k s).1.getD i q0).splits.getD q 0))) /\ Rdr wr H b (listM plM k s).2 /\ Kept w wr (some b)) (fun i _=>n - (intOf i).toNat)
 case atStart=>exact ⟨0,Nat.zero_le _,rfl,⟨_,fun _=>0,HRow0.out,fun i hi=>by omega,fun i hi=>by omega⟩,HR0.out,hk0⟩
 case round =>
  obtain ⟨k,hk,rfl,⟨f,r,hrow,hf,hL⟩,hr,hkw⟩:=hrel;by_cases hlt:k < n
  . have hgw:=hrow.lt;have hcall:=plan_rd hr (by omega);have hsn:=listM_snoc plM k s;have hlen:=listM_len plM k s;have HF:=Hid.mk' hf;have HL:=Hid.mk' hL;have HROW:=Hid.mk' hrow;have HSN:=Hid.mk' hsn;have HLEN:=Hid.mk' hlen;have HCALL:=Hid.mk' hcall;clear hf hL hrow hsn hlen hcall hr;generalize hx:(plM (listM plM k s).2).1=x at *;clear hx;go_wp2_with (refine HCALL.out.mono ?_;rintro e w2 ⟨g2,hg2,rfl,hl2,hr2,hk2⟩;have hrow2:=row_kept HROW.out hk2 hbs;have k0:=hrow2.cell (i:=k * 3) (by have:=idx_lt (j:=0) hlt (show 0 < 3 by omega);omega);have z0:=hrow2.frozen (k * 3);have k1:=hrow2.cell (i:=k * 3 + 1) (by have:=idx_lt (j:=1) hlt (show 1 < 3 by omega);omega);have z1:=hrow2.frozen (k * 3 + 1);have k2:=hrow2.cell (i:=k * 3 + 2) (by have:=idx_lt (j:=2) hlt (show 2 < 3 by omega);omega);have z2:=hrow2.frozen (k * 3 + 2);have HL2:=Hid.mk' hl2;clear hl2);go_roundw
    case rel =>
     refine ⟨k + 1,by omega,by go_num,⟨_,fun i=>if i=k then g2 else r i,World.rowIs.set (World.rowIs.set (World.rowIs.set hrow2 (k * 3) (.int .i64 x.cycle)) (k * 3 + 1) (.int .i64 x.offset)) (k * 3 + 2) (.slice (some ⟨g2,0,none⟩) x.splits.length x.splits.length),fun i hi j hj=>?_,fun i hi=>?_⟩,by rw [HSN.out];exact ((hr2.setNew hH (k * 3) _).setNew hH (k * 3 + 1) _).setNew hH (k * 3 + 2) _,kept_new (kept_new (kept_new (hkw.tr hk2) (Nat.le_refl _) (k * 3) _) (Nat.le_refl _) (k * 3 + 1) _) (Nat.le_refl _) (k * 3 + 2) _⟩
     . rw [HSN.out];by_cases hik:i=k
       . subst hik;have:j=0 \/ j=1 \/ j=2:=by omega
         dsimp only;rw [getD_snoc_eq HLEN.out.symm];rcases this with rfl | rfl | rfl <;> simp [plV]
       . have hne:=fun q=>idx_ne (q:=q) (show i < k by omega) hj
         dsimp only;rw [getD_snoc_lt (by rw [HLEN.out];omega),if_neg hik];have h0:=HF.out i (by omega) j hj;rw [<- h0];rw [if_neg (by have:=hne 2;omega),if_neg (by have:=hne 1;omega),if_neg (by have:=hne 0;omega)]
     . rw [HSN.out];have hset:∀ (W:World) (y m q:Nat) (v:Value) (F:Nat -> Nat -> Value),w.heap.size + 1 <= y -> Lie W (some ⟨y,0,none⟩) m 1 F -> Lie (W.setCell ⟨w.heap.size,q,none⟩ v) (some ⟨y,0,none⟩) m 1 F:=fun W y m q v F hy hl=>hl.keptR (kept_set _ _ _ _) (fun _ x e f=>by cases e;have f:=Option.some.inj f;dsimp only at f;omega)
       by_cases hik:i=k
       . subst hik;dsimp only;rw [getD_snoc_eq HLEN.out.symm,if_pos rfl];exact ⟨by omega,hset _ _ _ _ _ _ (by omega) (hset _ _ _ _ _ _ (by omega) (hset _ _ _ _ _ _ (by omega) HL2.out))⟩
       . dsimp only;rw [getD_snoc_lt (by rw [HLEN.out];omega),if_neg hik];obtain ⟨hr1,hl1⟩:=HL.out i (by omega);have hl1:=hl1.keptR hk2 (fun _ x e f=>by cases e;have f:=Option.some.inj f;dsimp only at f;omega);exact ⟨hr1,hset _ _ _ _ _ _ hr1 (hset _ _ _ _ _ _ hr1 (hset _ _ _ _ _ _ hr1 hl1))⟩
    case measure=>simp [intOf];omega
  . have hkk:k=n:=by omega
    subst hkk;have HL:=Hid.mk' (PlN.mk ⟨r,lie_row hrow hf,fun i hi=>⟨by have:=(hL i hi).1;omega,(hL i hi).2⟩⟩ (Nat.le_refl w.heap.size));clear hf hrow hL;go_wp2;go_ret;exact ⟨rfl,HL.out,hr,hkw⟩
theorem readPlans_any {w:World} {H b:Nat} {s:Rd} (h:Rdr w H b s) (hH:H <= w.heap.size):Calls Tryz.prog 120 #[.pointer (some ⟨b,0,none⟩)] w fun e w'=>e=.returned (.tuple #[]) /\ ∃ a,w'.cell? ⟨b,2,none⟩=some (.slice (some ⟨a,0,none⟩) (plansM s).1.length (plansM s).1.length) /\ PlN w' w.heap.size a (plansM s).1.length (plansM s).1 /\ Rdr w' H b (plansM s).2 /\ Kept w w' (some b):=by
 have hbl:=h.lt;have HE:Hid (plansM s=listM plM (upM 8 s).1 (upM 8 s).2):=rfl;have hlen:=listM_len plM (upM 8 s).1 (upM 8 s).2;have hle:=upM_le 8 s;rw [HE.out,hlen];clear HE hlen;generalize hu2:upM 8 s=u2 at *;have HU2:=Hid.mk' hu2;clear hu2;obtain ⟨v2,s2⟩:=u2;dsimp only at *;have H0:=Hid.mk' h;clear h;go_enter Tryz.func120,Tryz.ntmps120
 go_wp2_with (first
  | (go_at_call 128;refine (list_plan R2.out (by have h2:=hk2.size;omega) v2 (by omega)).mono ?_;rintro e w3 ⟨rfl,hl3,hr3,hk3⟩;obtain ⟨vc,k2⟩:=hr3.c2;have z2:=hr3.f2;have R3:=Hid.mk' hr3;have L3:=Hid.mk' hl3;clear hr3 hl3)
  | (go_at_call 46;have hn:=many_any H0.out 8 (by omega);rw [HU2.out] at hn;refine hn.mono ?_;rintro e w2 ⟨rfl,hr2,hk2⟩;have R2:=Hid.mk' hr2;clear hr2))
 have hsz:=hk2.size;go_end0
 exact ⟨rfl,w2.heap.size,World.cell?_setCell_same' _ _ _ (by rw [k2];rfl),by
  obtain ⟨⟨r,h1,h2⟩,h3⟩:=L3.out;exact PlN.keptR ⟨⟨r,h1,fun i hi=>⟨by have:=(h2 i hi).1;omega,(h2 i hi).2⟩⟩,by omega⟩ (kept_set _ _ _ _) (by omega),R3.out.put _,(hk2.tr hk3).tr (kept_set _ _ _ _)⟩
theorem row_rd {w:World} {H b gb rb n:Nat} {s:Rd} (h:Rdr w H b s) (hH:H <= w.heap.size) (hn:n <= 24) (hg:w.cell? ⟨gb,0,none⟩=some (.int .i64 (n:Int))) (hr:w.cell? ⟨rb,0,none⟩=some (.pointer (some ⟨b,0,none⟩))) (hgb:gb ≠ b) (hrb:rb ≠ b):Calls Tryz.prog 115 #[.pointer (some ⟨gb,0,none⟩),.pointer (some ⟨rb,0,none⟩)] w fun e w'=>e=.returned (.slice (some ⟨w.heap.size,0,none⟩) n n) /\ Lie w' (some ⟨w.heap.size,0,none⟩) n 1 (fun i j=>.int .i64 ((listM numM n s).1.getD i 0)) /\ Rdr w' H b (listM numM n s).2 /\ Kept w w' (some b):=by
 have H0:=Hid.mk' h;clear h;go_enter Tryz.func115,Tryz.ntmps115;go_wp2;refine wp_region_held_drew (S:=fun w'=>w'.cell? ⟨gb,0,none⟩=some (.int .i64 (n:Int)) /\ w'.cell? ⟨rb,0,none⟩=some (.pointer (some ⟨b,0,none⟩))) (by kernel_rfl) ⟨hg,hr⟩ (fun kH=>?_);refine htI 0 ?_ rfl (by kernel_rfl) id ?_ kH <| htI 1 ?_ rfl (by kernel_rfl) id ?_ kH <| htI 2 ?_ rfl (by kernel_rfl) id ?_ kH <| htI 3 ?_ rfl (by kernel_rfl) id ?_ kH <| htI 4 ?_ rfl (by kernel_rfl) id ?_ kH ?_
 all_goals try (intro w h;(try simp only [st3] at h ⊢);go_simp <;> with_reducible rfl)
 (try simp only [st3]);refine rdy 5 (by kernel_rfl) rfl (fun K hK=>?_);go_simp;go_wp2_with (go_at_call 77;refine (list_int H0.out.drew hH n hn).mono ?_;rintro e w3 ⟨rfl,hl3,hr3,hk3⟩);refine hK.out _ _ ⟨cell_keptR kH.1 hk3 (fun e=>hgb (Option.some.inj e)),cell_keptR kH.2 hk3 (fun e=>hrb (Option.some.inj e))⟩ (fun hHeld2=>?_);clear hK K;refine rdy 6 (by kernel_rfl) rfl (fun K hK=>?_);go_simp;refine hK.out _ _ hHeld2 (fun hHeld3=>?_);clear hK K;refine wpAnyH_done (by kernel_rfl) ?_ _;go_wp2_with fail;go_ret;exact ⟨rfl,hl3,hr3,(Kept.drew _ _).tr hk3⟩
structure GrN (w:World) (lo a n:Nat) (l:List (List Int)):Prop where
 ex:∃ r:Nat -> Nat,Lie w (some ⟨a,0,none⟩) n 1 (fun i j=>.slice (some ⟨r i,0,none⟩) (l.getD i []).length (l.getD i []).length) /\ ∀ i,i < n -> lo <= r i /\ Lie w (some ⟨r i,0,none⟩) (l.getD i []).length 1 (fun q _=>.int .i64 ((l.getD i []).getD q 0))
 lo:lo <= a
theorem GrN.keptR {w w':World} {lo a n x:Nat} {l:List (List Int)} (h:GrN w lo a n l) (q:Kept w w' (some x)) (hx:x < lo):GrN w' lo a n l:=by
 obtain ⟨⟨r,h1,h2⟩,h3⟩:=h;exact ⟨⟨r,h1.keptR q (fun _ y e f=>by cases e;have f:=Option.some.inj f;dsimp only at f;omega),fun i hi=>⟨(h2 i hi).1,(h2 i hi).2.keptR q (fun _ y e f=>by cases e;have f:=Option.some.inj f;dsimp only at f;have:=(h2 i hi).1;omega)⟩⟩,h3⟩
theorem list_row {w:World} {H b gb rb:Nat} {s:Rd} (h:Rdr w H b s) (hH:H <= w.heap.size) (n:Nat) (hn:n <= 24) (hg:w.cell? ⟨gb,0,none⟩=some (.int .i64 (n:Int))) (hr:w.cell? ⟨rb,0,none⟩=some (.pointer (some ⟨b,0,none⟩))) (hgb:gb ≠ b) (hrb:rb ≠ b):Calls Tryz.prog 114 #[.int .i64 n,.func (.func 115) #[] #[.pointer (some ⟨gb,0,none⟩),.pointer (some ⟨rb,0,none⟩)]] w fun e w'=>e=.returned (.slice (some ⟨w.heap.size,0,none⟩) n n) /\ GrN w' w.heap.size w.heap.size n (listM (listM numM n) n s).1 /\ Rdr w' H b (listM (listM numM n) n s).2 /\ Kept w w' (some b):=by
 obtain ⟨i0,hi0,hz0,hz1,hz2⟩:=info_parts (show (Tryz.prog.info? 50).map (fun i=>(i.zero,i.size,i.bytes))=some (some (.slice none 0 0),1,24) from by kernel_rfl);have hmk:=run_make (P:=Tryz.prog) w 44 50 i0 _ (by kernel_rfl) hi0 hz0 .i64 .i64 n n (by omega) (Int.le_refl _) (by rw [hz2];omega) (by omega);rw [hz1,Int.toNat_natCast] at hmk;have hrow0:=madeRow w (Value.cells (.slice none 0 0)) (n * 1) 50;have hr0:=h.kept (Kept.alloc w (madeCells (Value.cells (.slice none 0 0)) (n * 1)) 50 (0,0) none) (fun i e=>by cases e);have hk0:Kept w (w.alloc (.cells (madeCells (Value.cells (.slice none 0 0)) (n * 1)) 50)) (some b):=Kept.alloc _ _ _ _ _;have hbl:=h.lt;have hbs:some w.heap.size ≠ some b:=fun e=>by injection e;omega
 have hgl:=block_lt hg;have hrl:=block_lt hr;generalize hW0:w.alloc (.cells (madeCells (Value.cells (.slice none 0 0)) (n * 1)) 50)=W0 at *;have HR0:=Hid.mk' hr0;have HRow0:=Hid.mk' hrow0;have HG:=Hid.mk' hg;have HRB:=Hid.mk' hr;clear h hr0 hrow0 hW0 hg hr;go_enter Tryz.func114,Tryz.ntmps114;go_wp2;clear hmk;go_loopw [11] (fun i wr=>∃ k:Nat,k <= n /\ i=.int .i64 k /\ (∃ f,∃ r:Nat -> Nat,wr.rowIs w.heap.size 50 (n * 1) f /\ (∀ i,i < k -> ∀ j,j < 1 -> f (i * 1 + j)=.slice (some ⟨r i,0,none⟩) ((listM (listM numM n) k s).1.getD i []).length ((listM (listM numM n) k s).1.getD i []).length) /\ ∀ i,i < k -> w.heap.size + 1 <= r i /\ Lie wr (some ⟨r i,0,none⟩) ((listM (listM numM n) k s).1.getD i []).length 1 (fun q _=>.int .i64 (((listM (listM numM n) k s).1.getD i []).getD q 0))) /\ Rdr wr H b (listM (listM numM n) k s).2 /\ Kept w wr (some b)) (fun i _=>n - (intOf i).toNat)
 case atStart=>exact ⟨0,Nat.zero_le _,rfl,⟨_,fun _=>0,HRow0.out,fun i hi=>by omega,fun i hi=>by omega⟩,HR0.out,hk0⟩
 case round =>
  obtain ⟨k,hk,rfl,⟨f,r,hrow,hf,hL⟩,hr,hkw⟩:=hrel;by_cases hlt:k < n
  . have hgw:=hrow.lt;have hcall:=row_rd hr (by omega) hn (cell_keptR HG.out hkw (fun e=>hgb (Option.some.inj e))) (cell_keptR HRB.out hkw (fun e=>hrb (Option.some.inj e))) hgb hrb;have hsn:=listM_snoc (listM numM n) k s;have hlen:=listM_len (listM numM n) k s;have hxl:=listM_len numM n (listM (listM numM n) k s).2;have HF:=Hid.mk' hf;have HL:=Hid.mk' hL;have HROW:=Hid.mk' hrow;have HSN:=Hid.mk' hsn;have HLEN:=Hid.mk' hlen;have HCALL:=Hid.mk' hcall;clear hf hL hrow hsn hlen hcall hr;generalize hx:(listM numM n (listM (listM numM n) k s).2).1=x at *;have HXL:=Hid.mk' hxl;clear hx hxl;go_wp2_with (refine HCALL.out.mono ?_;rintro e w2 ⟨rfl,hl2,hr2,hk2⟩;have hrow2:=row_kept HROW.out hk2 hbs;have k0:=hrow2.cell (i:=k) (by omega);have z0:=hrow2.frozen k;have HL2:=Hid.mk' hl2;clear hl2);go_roundw
    case rel =>
     refine ⟨k + 1,by omega,by go_num,⟨_,fun i=>if i=k then wr.heap.size else r i,World.rowIs.set hrow2 k (.slice (some ⟨wr.heap.size,0,none⟩) n n),fun i hi j hj=>?_,fun i hi=>?_⟩,by rw [HSN.out];exact hr2.setNew hH k _,kept_new (hkw.tr hk2) (Nat.le_refl _) k _⟩
     . rw [HSN.out];by_cases hik:i=k
       . subst hik;have:j=0:=by omega
         subst this;dsimp only;rw [getD_snoc_eq HLEN.out.symm];simp [HXL.out]
       . dsimp only;rw [getD_snoc_lt (by rw [HLEN.out];omega),if_neg hik];have h0:=HF.out i (by omega) j hj;rw [<- h0];rw [if_neg (by omega)]
     . rw [HSN.out];have hset:∀ (W:World) (y m q:Nat) (v:Value) (F:Nat -> Nat -> Value),w.heap.size + 1 <= y -> Lie W (some ⟨y,0,none⟩) m 1 F -> Lie (W.setCell ⟨w.heap.size,q,none⟩ v) (some ⟨y,0,none⟩) m 1 F:=fun W y m q v F hy hl=>hl.keptR (kept_set _ _ _ _) (fun _ x e f=>by cases e;have f:=Option.some.inj f;dsimp only at f;omega)
       by_cases hik:i=k
       . subst hik;dsimp only;rw [getD_snoc_eq HLEN.out.symm,if_pos rfl,HXL.out];exact ⟨by omega,hset _ _ _ _ _ _ (by omega) HL2.out⟩
       . dsimp only;rw [getD_snoc_lt (by rw [HLEN.out];omega),if_neg hik];obtain ⟨hr1,hl1⟩:=HL.out i (by omega);have hl1:=hl1.keptR hk2 (fun _ x e f=>by cases e;have f:=Option.some.inj f;dsimp only at f;omega);exact ⟨hr1,hset _ _ _ _ _ _ hr1 hl1⟩
    case measure=>simp [intOf];omega
  . have hkk:k=n:=by omega
    subst hkk;have HL:=Hid.mk' (GrN.mk ⟨r,lie_row hrow hf,fun i hi=>⟨by have:=(hL i hi).1;omega,(hL i hi).2⟩⟩ (Nat.le_refl w.heap.size));clear hf hrow hL;go_wp2;go_ret;exact ⟨rfl,HL.out,hr,hkw⟩
structure Sit (w wx:World) (H b g:Nat) (c:Array Value) (s:Rd):Prop where
 rd:Rdr wx H b s
 bx:wx.cell? ⟨w.heap.size,0,none⟩=some (.pointer (some ⟨b,0,none⟩))
 res:wx.rowIs (w.heap.size + 1) 49 12 (fS zS)
 box:wx.rowIs g 49 12 (fS c)
 gt:w.heap.size + 1 < g
 kept:Kept w wx (some b)
 hi:H <= w.heap.size
theorem Sit.lt {w wx:World} {H b g:Nat} {c:Array Value} {s:Rd} (h:Sit w wx H b g c s):b < w.heap.size:=by have:=h.rd.lt;have:=h.hi;omega
theorem Sit.up {w wx:World} {H b g:Nat} {c:Array Value} {s:Rd} (h:Sit w wx H b g c s):H <= wx.heap.size:=by have:=h.hi;have:=h.kept.size;omega
theorem Sit.call {w wx w':World} {H b g:Nat} {c:Array Value} {s s':Rd} (h:Sit w wx H b g c s) (hk:Kept wx w' (some b)) (hr:Rdr w' H b s'):Sit w w' H b g c s':=by
 have hb:=h.lt;have hg:=h.gt;exact ⟨hr,cell_keptR h.bx hk (fun e=>by have:=Option.some.inj e;omega),row_kept h.res hk (fun e=>by have:=Option.some.inj e;omega),row_kept h.box hk (fun e=>by have:=Option.some.inj e;omega),h.gt,h.kept.tr hk,h.hi⟩
theorem Sit.drew {w wx:World} {H b g:Nat} {c:Array Value} {s:Rd} (h:Sit w wx H b g c s):Sit w wx.drew H b g c s:=h.call (Kept.drew _ _) h.rd.drew
theorem Sit.alloc {w wx:World} {H b g:Nat} {c:Array Value} {s:Rd} (h:Sit w wx H b g c s) (d:Array Value) (t:TypeId):Sit w (wx.alloc (.cells d t)) H b g c s:=h.call (Kept.alloc _ _ _ (0,0) _) (h.rd.alloc _ _)
theorem Sit.put {w wx:World} {H b g:Nat} {c:Array Value} {s:Rd} (h:Sit w wx H b g c s) (j:Nat) (v:Value) (hj:j < c.size):Sit w (wx.setCell ⟨g,j,none⟩ v) H b g (c.setIfInBounds j v) s:=by
 have hg:=h.gt;have hi:=h.hi;refine ⟨h.rd.setNew (by omega) j v,(World.cell?_setCell_other _ _ _ _ (by intro e;injection e with e1;omega)).trans h.bx,h.res.setOther (by show _ ≠ g;omega) v,(h.box.set j v).congr (fun i _=>fS_set c j v hj i),h.gt,kept_new h.kept (by omega) j v,h.hi⟩
theorem Ltr.of_none {lo:Nat} {w w':World} (h:Kept w w' none):Ltr lo w w':=⟨h.size,fun k _ hl=>h.block k hl (by simp)⟩
structure LieN (w:World) (lo a n k:Nat) (f:Nat -> Nat -> Value):Prop where
 lie:Lie w (some ⟨a,0,none⟩) n k f
 lo:lo <= a
theorem Lie.ltr {lo:Nat} {w w':World} {a n k:Nat} {f:Nat -> Nat -> Value} (h:Lie w (some ⟨a,0,none⟩) n k f) (q:Ltr lo w w') (hl:lo <= a):Lie w' (some ⟨a,0,none⟩) n k f :=
 ⟨fun hp=>by
  obtain ⟨b,off,e,hb,hc⟩:=h.at_ hp;injection e with e;injection e with e1 e2;subst e1 e2;exact ⟨a,0,rfl,Nat.lt_of_lt_of_le hb q.size,fun i hi j hj=>q.cell (hc i hi j hj) hl⟩⟩
theorem LieN.ltr {lo:Nat} {w w':World} {a n k:Nat} {f:Nat -> Nat -> Value} (h:LieN w lo a n k f) (q:Ltr lo w w'):LieN w' lo a n k f:=⟨h.lie.ltr q h.lo,h.lo⟩
theorem GrN.ltr {lo:Nat} {w w':World} {a n:Nat} {l:List (List Int)} (h:GrN w lo a n l) (q:Ltr lo w w'):GrN w' lo a n l:=by
 obtain ⟨⟨r,h1,h2⟩,h3⟩:=h;exact ⟨⟨r,h1.ltr q h3,fun i hi=>⟨(h2 i hi).1,(h2 i hi).2.ltr q (h2 i hi).1⟩⟩,h3⟩
theorem PlN.ltr {lo:Nat} {w w':World} {a n:Nat} {l:List Pl} (h:PlN w lo a n l) (q:Ltr lo w w'):PlN w' lo a n l:=by
 obtain ⟨⟨r,h1,h2⟩,h3⟩:=h;exact ⟨⟨r,h1.ltr q h3,fun i hi=>⟨(h2 i hi).1,(h2 i hi).2.ltr q (h2 i hi).1⟩⟩,h3⟩
theorem GrN.down {lo lo':Nat} {w:World} {a n:Nat} {l:List (List Int)} (h:GrN w lo a n l) (q:lo' <= lo):GrN w lo' a n l:=by
 obtain ⟨⟨r,h1,h2⟩,h3⟩:=h;exact ⟨⟨r,h1,fun i hi=>⟨Nat.le_trans q (h2 i hi).1,(h2 i hi).2⟩⟩,Nat.le_trans q h3⟩
theorem PlN.down {lo lo':Nat} {w:World} {a n:Nat} {l:List Pl} (h:PlN w lo a n l) (q:lo' <= lo):PlN w lo' a n l:=by
 obtain ⟨⟨r,h1,h2⟩,h3⟩:=h;exact ⟨⟨r,h1,fun i hi=>⟨Nat.le_trans q (h2 i hi).1,(h2 i hi).2⟩⟩,Nat.le_trans q h3⟩
structure Fin12 (w wb wx:World) (H b g:Nat) (c:Array Value) (s:Rd):Prop where
 rd:Rdr wx H b s
 row:wx.rowIs (w.heap.size + 1) 49 12 (fS c)
 kept:Kept w wx (some b)
 ltr:Ltr (g + 1) wb wx
 gt:w.heap.size + 1 < g
 hi:H <= w.heap.size
theorem Sit.fin {w wx:World} {H b g:Nat} {c:Array Value} {s:Rd} (h:Sit w wx H b g c s) (j:Nat) (v:Value) (hj:j < c.size):Fin12 w wx (wx.setCell ⟨g,j,none⟩ v) H b g zS s :=
 ⟨(h.put j v hj).rd,(h.put j v hj).res,(h.put j v hj).kept,Ltr.set wx (Nat.lt_succ_self g) j v,h.gt,h.hi⟩
theorem Fin12.put {w wb wx:World} {H b g:Nat} {c:Array Value} {s:Rd} (h:Fin12 w wb wx H b g c s) (j:Nat) (v:Value) (hj:j < c.size):Fin12 w wb (wx.setCell ⟨w.heap.size + 1,j,none⟩ v) H b g (c.setIfInBounds j v) s:=by
 have hi:=h.hi;have hg:=h.gt;exact ⟨h.rd.setNew (by omega) j v,(h.row.set j v).congr (fun i _=>fS_set c j v hj i),kept_new h.kept (by omega) j v,h.ltr.tr (Ltr.set wx (by omega) j v),h.gt,h.hi⟩
theorem Sit.fin12 {w wx:World} {H b g:Nat} {c:Array Value} {s:Rd} (h:Sit w wx H b g c s) (hc:c.size=12) (p v0 v1 v2 v3 v4 v5 v6 v7 v8 v9 v10 v11:Value):Fin12 w wx (((((((((((((wx.setCell ⟨g,11,none⟩ p).setCell ⟨w.heap.size + 1,0,none⟩ v0).setCell ⟨w.heap.size + 1,1,none⟩ v1).setCell ⟨w.heap.size + 1,2,none⟩ v2).setCell ⟨w.heap.size + 1,3,none⟩ v3).setCell ⟨w.heap.size + 1,4,none⟩ v4).setCell ⟨w.heap.size + 1,5,none⟩ v5).setCell ⟨w.heap.size + 1,6,none⟩ v6).setCell ⟨w.heap.size + 1,7,none⟩ v7).setCell ⟨w.heap.size + 1,8,none⟩ v8).setCell ⟨w.heap.size + 1,9,none⟩ v9).setCell ⟨w.heap.size + 1,10,none⟩ v10).setCell ⟨w.heap.size + 1,11,none⟩ v11) H b g #[v0,v1,v2,v3,v4,v5,v6,v7,v8,v9,v10,v11] s:=by
 have e:=(((((((((((((h.fin 11 p (by omega)).put 0 v0 (by simp)).put 1 v1 (by simp)).put 2 v2 (by simp)).put 3 v3 (by simp)).put 4 v4 (by simp)).put 5 v5 (by simp)).put 6 v6 (by simp)).put 7 v7 (by simp)).put 8 v8 (by simp)).put 9 v9 (by simp)).put 10 v10 (by simp)).put 11 v11 (by simp));rw [set12] at e;exact e
theorem Fin12.cells {w wb wx:World} {H b g:Nat} {v0 v1 v2 v3 v4 v5 v6 v7 v8 v9 v10 v11:Value} {s:Rd} (h:Fin12 w wb wx H b g #[v0,v1,v2,v3,v4,v5,v6,v7,v8,v9,v10,v11] s):wx.cell? ⟨w.heap.size + 1,0,none⟩=some v0 /\ wx.cell? ⟨w.heap.size + 1,1,none⟩=some v1 /\ wx.cell? ⟨w.heap.size + 1,2,none⟩=some v2 /\ wx.cell? ⟨w.heap.size + 1,3,none⟩=some v3 /\ wx.cell? ⟨w.heap.size + 1,4,none⟩=some v4 /\ wx.cell? ⟨w.heap.size + 1,5,none⟩=some v5 /\ wx.cell? ⟨w.heap.size + 1,6,none⟩=some v6 /\ wx.cell? ⟨w.heap.size + 1,7,none⟩=some v7 /\ wx.cell? ⟨w.heap.size + 1,8,none⟩=some v8 /\ wx.cell? ⟨w.heap.size + 1,9,none⟩=some v9 /\ wx.cell? ⟨w.heap.size + 1,10,none⟩=some v10 /\ wx.cell? ⟨w.heap.size + 1,11,none⟩=some v11 :=
 ⟨h.row.cell (i:=0) (by omega),h.row.cell (i:=1) (by omega),h.row.cell (i:=2) (by omega),h.row.cell (i:=3) (by omega),h.row.cell (i:=4) (by omega),h.row.cell (i:=5) (by omega),h.row.cell (i:=6) (by omega),h.row.cell (i:=7) (by omega),h.row.cell (i:=8) (by omega),h.row.cell (i:=9) (by omega),h.row.cell (i:=10) (by omega),h.row.cell (i:=11) (by omega)⟩
theorem listM_all {α:Type} {f:Rd -> α × Rd} {P:α -> Prop} (h:∀ s,P (f s).1):∀ n s,∀ x ∈ (listM f n s).1,P x
 | 0,s,x,hx=>by simp [listM] at hx
 | n + 1,s,x,hx=>by
  rw [listM,List.mem_cons] at hx;rcases hx with rfl | hx
  . exact h s
  . exact listM_all h n _ x hx
theorem numM_le (s:Rd):0 <= (numM s).1 /\ (numM s).1 <= 1048576:=by
 have:=upM_le 1048576 s;unfold numM;dsimp only;omega
theorem numM_i64 (s:Rd):i64B (numM s).1:=by have:=numM_le s;unfold i64B;omega
theorem grM_r (s:Rd):(grM s).1.kind < 256 /\ i64B (grM s).1.min /\ i64B (grM s).1.yellow:=⟨by have:=upM_le 255 s;show (upM 255 s).1 < 256;omega,numM_i64 _,numM_i64 _⟩
theorem phM_r (s:Rd):(phM s).1.groups < 4294967296 /\ i64B (phM s).1.min /\ i64B (phM s).1.max /\ i64B (phM s).1.gap:=⟨by have:=upM_le 4294967295 s;show (upM 4294967295 s).1 < _;omega,numM_i64 _,numM_i64 _,numM_i64 _⟩
theorem eyM_r (s:Rd):i64B (eyM s).1.phase /\ i64B (eyM s).1.on /\ i64B (eyM s).1.off /\ i64B (eyM s).1.turns:=⟨numM_i64 _,numM_i64 _,numM_i64 _,numM_i64 _⟩
theorem plM_r (s:Rd):(i64B (plM s).1.cycle /\ i64B (plM s).1.offset) /\ (plM s).1.splits.length <= 8 /\ ∀ x ∈ (plM s).1.splits,i64B x :=
 ⟨⟨numM_i64 _,numM_i64 _⟩,by
   show (listM numM (upM 8 _).1 _).1.length <= 8
   rw [listM_len];exact upM_le _ _,listM_all numM_i64 _ _⟩
theorem plansM_r (s:Rd):(plansM s).1.length <= 8 /\ ∀ p ∈ (plansM s).1,(i64B p.cycle /\ i64B p.offset) /\ p.splits.length <= 8 /\ ∀ x ∈ p.splits,i64B x :=
 ⟨by show (listM plM (upM 8 s).1 _).1.length <= 8;rw [listM_len];exact upM_le _ _,listM_all (P:=fun p:Pl=>(i64B p.cycle /\ i64B p.offset) /\ p.splits.length <= 8 /\ ∀ x ∈ p.splits,i64B x) plM_r _ _⟩
theorem cap_some {a:Addr} {n:Nat} (h:n <= 1000):Cap (some a) n n:=⟨fun e=>(nomatch e),Nat.le_refl _,by omega⟩
theorem PlN.plans {lo:Nat} {w:World} {a n:Nat} {l:List Pl} (h:PlN w lo a n l) (hn:l.length=n) (h8:n <= 1000) (hr:∀ p ∈ l,(i64B p.cycle /\ i64B p.offset) /\ p.splits.length <= 8 /\ ∀ x ∈ p.splits,i64B x):Plans w (some ⟨a,0,none⟩) n n l:=by
 obtain ⟨⟨r,h1,h2⟩,h3⟩:=h;refine ⟨⟨fun i=>(some ⟨r i,0,none⟩,(l.getD i q0).splits.length),h1,fun i hi=>?_⟩,hn,cap_some h8,fun p hp=>(hr p hp).1⟩;have hm:=hr _ (getD_mem (d:=q0) (show i < l.length by omega));exact ⟨(h2 i hi).2,rfl,cap_some (by omega),hm.2.2⟩
theorem GrN.grid {lo:Nat} {w:World} {a n:Nat} {l:List (List Int)} (h:GrN w lo a n l) (hn:l.length=n) (h8:n <= 1000) (hr:∀ p ∈ l,p.length <= 1000 /\ ∀ x ∈ p,i64B x):Grid w (some ⟨a,0,none⟩) n n l:=by
 obtain ⟨⟨r,h1,h2⟩,h3⟩:=h;refine ⟨⟨fun i=>(some ⟨r i,0,none⟩,(l.getD i []).length),h1,fun i hi=>?_⟩,hn,cap_some h8⟩;have hm:=hr _ (getD_mem (d:=[]) (show i < l.length by omega));exact ⟨(h2 i hi).2,rfl,cap_some hm.1,hm.2⟩
theorem textOf_inj {L M:List Nat} (hL:∀ x ∈ L,x < 256) (hM:∀ x ∈ M,x < 256) (h:textOf L=textOf M):L=M:=by
 unfold textOf at h;have h1:L.map UInt8.ofNat=M.map UInt8.ofNat:=by injection h with h;simpa using h
 have h2:∀ N:List Nat,(∀ x ∈ N,x < 256) -> (N.map UInt8.ofNat).map UInt8.toNat=N:=by
  intro N hN;rw [List.map_map]
  conv=>rhs;rw [<- List.map_id N]
  apply List.map_congr_left;intro x hx;have:=hN x hx;simp;omega
 rw [<- h2 L hL,<- h2 M hM,h1]
theorem textOf_eq {L M:List Nat} (hL:∀ x ∈ L,x < 256) (hM:∀ x ∈ M,x < 256):((textOf L).toList == (textOf M).toList)=decide (L=M):=by
 rw [ByteArray.toList_eq,ByteArray.toList_eq];by_cases e:L=M
 . subst e;simp
 . have:¬ (textOf L).data.toList=(textOf M).data.toList:=fun e2=>e (textOf_inj hL hM (by
    have:(textOf L).data=(textOf M).data:=Array.toList_inj.1 e2;show ByteArray.mk (textOf L).data=ByteArray.mk (textOf M).data
    rw [this]))
   rw [decide_eq_false e];exact beq_eq_false_iff_ne.2 this
theorem equal_any {w:World} {a a':Option Addr} {n n' c c':Nat} {L M:List Nat} (hL:By w a n L) (hM:By w a' n' M):Calls Tryz.prog 44 #[.slice a n c,.slice a' n' c'] w fun e w'=>e=.returned (.bool (decide (L=M))) /\ w'=w:=by
 have t1:=run_text hL c;have t2:=run_text hM c';have HE:=Hid.mk' (textOf_eq hL.lt hM.lt);generalize hd:decide (L=M)=d at *;clear hd hL hM;go_enter Tryz.func44,Tryz.ntmps44;go_wp2;go_ret;exact ⟨by rw [<- HE.out];simp,rfl⟩
theorem readerOf_any {w:World} {a:Option Addr} {n c:Nat}:Calls Tryz.prog 20 #[.slice a n c] w fun e w'=>e=.returned (.agg #[.slice a n c,.bool false]) /\ Kept w w' none:=by
 go_enter Tryz.func20,Tryz.ntmps20;go_wp2;refine bodyPost_ret (v:=.agg #[.slice a n c,.bool false]) (by simp [results,Tryz.results20,go_sem]) rfl ⟨rfl,?_⟩;exact Kept.alloc _ _ _ (0,0) _
theorem rdr_new {w:World} {a:Option Addr} {n c:Nat} {L:List Nat} (h:Come w a n c L) (t:TypeId) (v:Value):Rdr (w.alloc (.cells #[.slice a n c,.bool false,v] t)) (w.heap.size + 1) w.heap.size (L,false):=by
 refine ⟨⟨a,n,c,by go_simp,h.keptR (Kept.alloc _ _ _ (0,0) none) (fun _ _ _=>by simp),fun hp x hx=>?_⟩,by go_simp,by go_simp,by go_simp,⟨v,by go_simp⟩,by go_simp,by omega⟩;obtain ⟨b,off,e,hb,_⟩:=h.by_.at_ hp;rw [hx] at e;injection e with e;subst e;dsimp only;omega
theorem kept_own {w W w':World} (h:Kept w W none) (k:Kept W w' (some w.heap.size)):Kept w w' none :=
 ⟨k.os.trans h.os,k.tape.trans h.tape,k.output.trans h.output,Nat.le_trans h.size k.size,fun i hi _=>(k.block i (Nat.lt_of_lt_of_le hi h.size) (fun e=>by have:=Option.some.inj e;omega)).trans (h.block i hi (by simp))⟩
end Go.Proofs.YtakilpnbjihibaaGreatDoor
