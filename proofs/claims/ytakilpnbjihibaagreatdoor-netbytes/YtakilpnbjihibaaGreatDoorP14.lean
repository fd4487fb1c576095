import Derived.Test.YtakilpnbjihibaaGreatDoorP8
import Derived.Deep.RegionHeld
import Derived.Test.YtakilpnbjihibaaGreatDoorP13
namespace Go.Proofs.YtakilpnbjihibaaGreatDoor
set_option linter.unusedVariables false
set_option linter.unusedSimpArgs false
set_option maxHeartbeats 8000000
set_option maxRecDepth 100000
open Go.RowKit Go.Lib Go.Deep
structure Nbx (w:World) (f:Nat) (Y:Na) (N:Nt):Prop where
 c0:w.cell? ⟨f,0,none⟩=some (.slice Y.s N.sites.length Y.sc)
 c1:w.cell? ⟨f,1,none⟩=some (.slice Y.u N.subs.length Y.uc)
 c2:w.cell? ⟨f,2,none⟩=some (.slice Y.d N.weds.length Y.dc)
 c3:w.cell? ⟨f,3,none⟩=some (.int .i64 N.low)
 c4:w.cell? ⟨f,4,none⟩=some (.int .i64 N.high)
 c5:w.cell? ⟨f,5,none⟩=some (.int .i64 N.step)
 net:NetAt w Y N
theorem Nbx.kept {w w':World} {f:Nat} {Y:Na} {N:Nt} (h:Nbx w f Y N) (q:Kept w w' none):Nbx w' f Y N :=
 ⟨cell_kept0 h.c0 q,cell_kept0 h.c1 q,cell_kept0 h.c2 q,cell_kept0 h.c3 q,cell_kept0 h.c4 q,cell_kept0 h.c5 q,h.net.kept q⟩
theorem nbx_alloc {w:World} {Y:Na} {N:Nt} (h:NetAt w Y N) (t:TypeId):Nbx (w.alloc (.cells (cn9 Y N) t)) w.heap.size Y N :=
 ⟨by simp [World.cell?_alloc_mark],by simp [World.cell?_alloc_mark],by simp [World.cell?_alloc_mark],by simp [World.cell?_alloc_mark],by simp [World.cell?_alloc_mark],by simp [World.cell?_alloc_mark],h.kept (Kept.alloc _ _ _ _ _)⟩
structure NFew (N:Nt):Prop where
 s:N.sites.length <= 20
 u:N.subs.length <= 30
 d:N.weds.length <= 30
 st:∀ i,i < N.sites.length -> Few (N.sites.getD i s0)
 ur:∀ i,i < N.subs.length -> (N.subs.getD i u0).sites.length <= 60
 dr:∀ i,i < N.weds.length -> (N.weds.getD i d0).offsets.length <= 60
def NGreatP (N:Nt) (w:World) (e:Ending) (w':World):Prop:=∃ g,e=.returned (.bool g) /\ (g=false -> NFew N) /\ Kept w w' none
theorem NGreatP.of {N:Nt} {w w':World} (g:Bool) (h:g=false -> NFew N) (k:Kept w w' none):NGreatP N w (.returned (.bool g)) w':=⟨g,rfl,h,k⟩
theorem NGreatP.yes {N:Nt} {w w':World} (k:Kept w w' none):NGreatP N w (.returned (.bool true)) w':=⟨true,rfl,fun h=>(nomatch h),k⟩
theorem ngreat_any {Y:Na} {N:Nt} {w:World} (h:NetAt w Y N):Calls Tryz.prog 4 #[netV Y N] w fun e w'=>NGreatP N w e w':=by
 have hkA:Kept w (w.alloc (.cells (cn9 Y N) 26)) none:=Kept.alloc _ _ _ _ _;have HNB:=Hid.mk' (nbx_alloc h 26);have HK:=Hid.mk' hkA;have hs9:N.sites.length <= 9223372036854775807:=by have:=h.sk.room;have:=h.sk.max;omega
 have hu9:N.subs.length <= 9223372036854775807:=by have:=h.uk.room;have:=h.uk.max;omega
 have hd9:N.weds.length <= 9223372036854775807:=by have:=h.dk.room;have:=h.dk.max;omega
 clear h hkA;go_enter Tryz.func4,Tryz.ntmps4;by_cases h1:20 < N.sites.length
 case pos=>go_wp2;go_ret;exact NGreatP.yes HK.out
 by_cases h2:30 < N.subs.length
 case pos=>go_wp2;go_ret;exact NGreatP.yes HK.out
 by_cases h3:30 < N.weds.length
 case pos=>go_wp2;go_ret;exact NGreatP.yes HK.out
 go_wp2;generalize hW:(w.alloc (.cells (cn9 Y N) 26))=W at *;clear hW;go_loopw [3] (fun i wr=>∃ k:Nat,k <= N.sites.length /\ i=.int .i64 k /\ Hid (∀ j,j < k -> Few (N.sites.getD j s0)) /\ Kept W wr none) (fun i _=>N.sites.length - (intOf i).toNat)
 case atStart=>exact ⟨0,Nat.zero_le _,rfl,(fun j hj=>by omega),Kept.refl _ _⟩
 case round =>
  obtain ⟨k,hk,rfl,HJ,hkr⟩:=hrel;have c0:=(HNB.out.kept hkr).c0;by_cases hlt:k < N.sites.length
  . obtain ⟨sb,so,es,_,hc⟩:=(HNB.out.kept hkr).net.s1.at_ (by omega);rw [es] at c0;have e0:=hc k hlt 0 (by omega);have e1:=hc k hlt 1 (by omega);have e2:=hc k hlt 2 (by omega);have e3:=hc k hlt 3 (by omega);have e4:=hc k hlt 4 (by omega);have e5:=hc k hlt 5 (by omega);have e6:=hc k hlt 6 (by omega);have e7:=hc k hlt 7 (by omega);have e8:=hc k hlt 8 (by omega);have e9:=hc k hlt 9 (by omega);have e10:=hc k hlt 10 (by omega);have e11:=hc k hlt 11 (by omega);have HSAT:=Hid.mk' ((HNB.out.kept hkr).net.s2 k hlt);obtain ⟨S,hS⟩:∃ S,N.sites.getD k s0=S:=⟨_,rfl⟩
    rw [hS] at e0 e1 e2 e3 e4 e5 e6 e7 e8 e9 e10 e11 HSAT;have HSE:=Hid.mk' hS;clear hS hc es;generalize Y.X k=Xk at *;obtain ⟨xg,xgc,xa,xac,xb,xbc,xp,xpc,xe,xec,xl,xlc⟩:=Xk;dsimp only [stV,Nat.add_zero] at e0 e1 e2 e3 e4 e5 e6 e7 e8 e9 e10 e11;go_wp2_with (go_at_call 11;refine (rgreat_any HSAT.out).mono ?_;rintro e w3 ⟨g,rfl,hg,hk3⟩;clear c0 e0 e1 e2 e3 e4 e5 e6 e7 e8 e9 e10 e11;have HG:=Hid.mk' hg;clear hg;cases g)
    . go_roundw
      case rel=>exact ⟨k + 1,by omega,by go_num,(fun j hj=>(by
       by_cases e:j=k
       . rw [e,HSE.out];first | exact HG.out rfl | exact HG.out trivial
       . exact HJ.out j (by omega))),hkr.tr hk3⟩
      case measure=>simp [intOf];omega
    . go_ret;exact NGreatP.yes (HK.out.tr (hkr.tr hk3))
  . have e:k=N.sites.length:=by omega
    subst e;go_wp2;go_loopw [4] (fun i wx=>∃ k:Nat,k <= N.subs.length /\ i=.int .i64 k /\ Hid (∀ j,j < k -> (N.subs.getD j u0).sites.length <= 60) /\ wx=wr) (fun i _=>N.subs.length - (intOf i).toNat)
    case atStart=>exact ⟨0,Nat.zero_le _,rfl,(fun j hj=>by omega),rfl⟩
    case round =>
     obtain ⟨k,hk,rfl,HL,rfl⟩:=hrel;clear c0;have c1:=(HNB.out.kept hkr).c1;by_cases hlt:k < N.subs.length
     . obtain ⟨sb,so,es,_,hc⟩:=(HNB.out.kept hkr).net.u1.at_ (by omega);rw [es] at c1;have e0:=hc k hlt 0 (by omega);have hI:=(HNB.out.kept hkr).net.u2 k hlt;have hI1:=hI.cap.room;have hI2:=hI.cap.max;clear hI hc es;dsimp only [sbV,Nat.add_zero] at e0;generalize hm:(N.subs.getD k u0).sites.length=m at *;have HM:=Hid.mk' hm;clear hm;by_cases hx:60 < m
       case pos=>go_wp2;go_ret;exact NGreatP.yes (HK.out.tr hkr)
       go_wp2;go_roundw
       case rel=>exact ⟨k + 1,by omega,by go_num,(fun j hj=>(by
        by_cases e:j=k
        . subst e;rw [HM.out];omega
        . exact HL.out j (by omega))),trivial⟩
       case measure=>simp [intOf];omega
     . have e:k=N.subs.length:=by omega
       subst e;go_wp2;go_loopw [5] (fun i wy=>∃ k:Nat,k <= N.weds.length /\ i=.int .i64 k /\ Hid (∀ j,j < k -> (N.weds.getD j d0).offsets.length <= 60) /\ wy=wr) (fun i _=>N.weds.length - (intOf i).toNat)
       case atStart=>exact ⟨0,Nat.zero_le _,rfl,(fun j hj=>by omega),rfl⟩
       case round =>
        obtain ⟨k,hk,rfl,HD,rfl⟩:=hrel;clear c1;have c2:=(HNB.out.kept hkr).c2;by_cases hlt:k < N.weds.length
        . obtain ⟨sb,so,es,_,hc⟩:=(HNB.out.kept hkr).net.d1.at_ (by omega);rw [es] at c2;have e3:=hc k hlt 3 (by omega);have hI:=(HNB.out.kept hkr).net.d2 k hlt;have hI1:=hI.cap.room;have hI2:=hI.cap.max;clear hI hc es;dsimp only [wdV,Nat.add_zero] at e3;generalize hm:(N.weds.getD k d0).offsets.length=m at *;have HM:=Hid.mk' hm;clear hm;by_cases hx:60 < m
          case pos=>go_wp2;go_ret;exact NGreatP.yes (HK.out.tr hkr)
          go_wp2;go_roundw
          case rel=>exact ⟨k + 1,by omega,by go_num,(fun j hj=>(by
           by_cases e:j=k
           . subst e;rw [HM.out];omega
           . exact HD.out j (by omega))),trivial⟩
          case measure=>simp [intOf];omega
        . have e:k=N.weds.length:=by omega
          subst e;go_wp2;go_ret;exact NGreatP.of false (fun _=>⟨by omega,by omega,by omega,HJ.out,HL.out,HD.out⟩) (HK.out.tr hkr)
def Rg6 (A:Act) (W:World) (e:Exit) (a:Act) (w:World):Prop:=match e with
 | .normal=>a=A /\ Kept W w none
 | _=>False
theorem Rg6.out {A:Act} {W w:World} {e:Exit} {a:Act} (h:Rg6 A W e a w):e=.normal /\ a=A /\ Kept W w none:=by
 cases e with
 | normal=>exact ⟨rfl,h.1,h.2⟩
 | _=>exact h.elim
theorem rin6_any (n lo hi:Int) (w:World):Calls Tryz.prog 36 #[.int .i64 n,.int .i64 lo,.int .i64 hi] w fun e w'=>e=.returned (.bool (inB n lo hi)) /\ w'=w:=by
 go_enter Tryz.func36,Tryz.ntmps36;go_wp2
 all_goals
  go_ret;refine ⟨?_,rfl⟩;simp [inB, *] <;> (first | omega | (intros;omega))
theorem rin6_is {n lo hi:Int} {b:Bool} {w:World} (h:inB n lo hi=b):Calls Tryz.prog 36 #[.int .i64 n,.int .i64 lo,.int .i64 hi] w fun e w'=>e=.returned (.bool b) /\ w'=w:=by
 rw [<- h];exact rin6_any n lo hi w
theorem rin6_isM {n lo hi:Int} {b:Bool} {w:World} {Q:Ending -> World -> Prop} (h:inB n lo hi=b) (hQ:Q (.returned (.bool b)) w):Calls Tryz.prog 36 #[.int .i64 n,.int .i64 lo,.int .i64 hi] w Q:=(rin6_is h).mono (by rintro e w9 ⟨rfl,rfl⟩;exact hQ)
theorem rhas6_any {w:World} {a:Option Addr} {n c:Nat} {l:List Int} (h:Ints w a n c l) (x:Int):Calls Tryz.prog 71 #[.slice a n c,.int .i64 x] w fun e w'=>e=.returned (.bool (decide (x ∈ l))) /\ w'=w:=by
 have HI:=Hid.mk' h;have hn9:n <= 9223372036854775807:=by have:=h.cap.room;have:=h.cap.max;omega
 have hsz:=h.size;have HSZ:=Hid.mk' hsz;clear h hsz;go_enter Tryz.func71,Tryz.ntmps71;go_wp2;go_loopw [5] (fun i wr=>∃ k:Nat,k <= n /\ i=.int .i64 k /\ Hid (∀ j,j < k -> l.getD j 0 ≠ x) /\ wr=w) (fun i _=>n - (intOf i).toNat)
 case atStart=>exact ⟨0,Nat.zero_le _,rfl,(fun j hj=>by omega),rfl⟩
 case round =>
  obtain ⟨k,hk,rfl,HJ,rfl⟩:=hrel;by_cases hlt:k < n
  . obtain ⟨b,off,ea,_,hc⟩:=HI.out.at_ (by omega);subst ea;have hx:=hc k hlt;clear hc;obtain ⟨y,hy⟩:∃ y,l.getD k 0=y:=⟨_,rfl⟩
    rw [hy] at hx;have HYE:=Hid.mk' hy;clear hy;by_cases hxy:y=x
    . subst hxy;go_wp2;go_ret
      have hm:y ∈ l:=by
       have e:=HYE.out;have hl:=HSZ.out;have hkl:k < l.length:=by omega
       rw [<- e];simp [hkl]
      exact ⟨by rw [decide_eq_true hm];rfl,rfl⟩
    . go_wp2;go_roundw
      case rel=>exact ⟨k + 1,by omega,by go_num,(fun j hj=>(by
       by_cases e:j=k
       . rw [e,HYE.out];exact hxy
       . exact HJ.out j (by omega))),trivial⟩
      case measure=>simp [intOf];omega
  . have e:k=n:=by omega
    subst e;go_wp2;go_ret
    have hm:¬ x ∈ l:=fun hm=>by
     obtain ⟨i,hi,he⟩:=List.getElem_of_mem hm;have hl:=HSZ.out;exact HJ.out i (by omega) (by simp [hi,he])
    exact ⟨by rw [decide_eq_false hm];rfl,rfl⟩
theorem rhas6_is {w:World} {a:Option Addr} {n c:Nat} {l:List Int} {x:Int} {b:Bool} (h:Ints w a n c l) (hb:decide (x ∈ l)=b):Calls Tryz.prog 71 #[.slice a n c,.int .i64 x] w fun e w'=>e=.returned (.bool b) /\ w'=w:=by
 rw [<- hb];exact rhas6_any h x
theorem rsubsF_none {N:Nt} {k:Nat} (h:rsubsF N k=none):∀ n,k <= n -> rsubsF N n=none
 | 0, hk => by have : k = 0 := by omega
               subst this;exact h
 | n + 1,hk=>by
  by_cases e:k=n + 1
  . subst e;exact h
  . rw [rsubsF,rsubsF_none h n (by omega)]
theorem rtakeF_none {N:Nt} {l s:List Int} {k:Nat} (h:rtakeF N l s k=none):∀ n,k <= n -> rtakeF N l s n=none
 | 0, hk => by have : k = 0 := by omega
               subst this;exact h
 | n + 1,hk=>by
  by_cases e:k=n + 1
  . subst e;exact h
  . rw [rtakeF,rtakeF_none h n (by omega)]
theorem rsubsB_no {N:Nt} {k:Nat} (h:rsubsF N k=none) (hk:k <= N.subs.length):rsubsB N=false:=by
 unfold rsubsB;rw [rsubsF_none h _ hk];simp
structure Sl (w:World) (base:Nat) (a:Option Addr) (c:Nat) (s:List Int):Prop where
 own:OwI w base (.slice a s.length c) s
 rng:∀ x ∈ s,-9223372036854775808 <= x /\ x <= 9223372036854775807
theorem Sl.ints {w:World} {base:Nat} {a:Option Addr} {c:Nat} {s:List Int} (h:Sl w base a c s):Ints w a s.length c s:=by
 obtain ⟨a',c',e,hI,_⟩:=h.own.ints h.rng;injection e with e1 e2 e3;subst e1 e3;exact hI
theorem Sl.kept {w w':World} {base:Nat} {a:Option Addr} {c:Nat} {s:List Int} (h:Sl w base a c s) (q:Kept w w' none):Sl w' base a c s:=⟨h.own.kept q,h.rng⟩
theorem Sl.nil (w:World) (base:Nat):Sl w base none 0 []:=⟨OwI.nil w base,by simp⟩
theorem Sl.grow {w:World} {base:Nat} {a:Option Addr} {c:Nat} {s:List Int} (h:Sl w base a c s) (x:Int) (hx:i64B x) (hn:s.length <= 1000) (hb:base <= w.heap.size) :
 ∃ a' c' w',(Builtin.append_ #[50,50] 50 #[.slice a s.length c,.slice (some ⟨w.heap.size,0,none⟩) 1 1]).run Tryz.prog (w.alloc (.cells #[.int .i64 x] 3))=.ok (.slice a' (s.length + 1:Nat) c') w' /\ Sl w' base a' c' (s ++ [x]) /\ Kept w w' (Value.slice a s.length c).ownBlock /\ ((Value.slice a' (s.length + 1:Nat) c').ownBlock=(Value.slice a s.length c).ownBlock \/ (Value.slice a' (s.length + 1:Nat) c').ownBlock=some (w.heap.size + 1)):=by
 obtain ⟨v',w',h1,h2,h3,h4⟩:=h.own.grow x hn hb
 have hr:∀ y ∈ s ++ [x],-9223372036854775808 <= y /\ y <= 9223372036854775807:=fun y hy=>by
  rcases List.mem_append.1 hy with q | q
  . exact h.rng y q
  . simp at q;subst q;exact hx
 obtain ⟨a',c',e,_,_⟩:=h2.ints hr;have el:(s ++ [x]).length=s.length + 1:=by simp
 rw [el] at e;subst e;exact ⟨a',c',w',h1,⟨by rw [el];exact h2,hr⟩,h3,h4⟩
theorem rsubs6_any {Y:Na} {N:Nt} {w:World} (h:NetAt w Y N) (hF:NFew N) (hn1:1 <= N.sites.length):Calls Tryz.prog 38 #[netV Y N] w fun e w'=>e=.returned (.bool (rsubsB N)) /\ Kept w w' none:=by
 have hkA:Kept w (w.alloc (.cells (cn9 Y N) 26)) none:=Kept.alloc _ _ _ _ _;have HNB:=Hid.mk' (nbx_alloc h 26);have HK:=Hid.mk' hkA;have hns:=hF.s;have HF:=Hid.mk' hF;clear h hkA hF;go_enter Tryz.func38,Tryz.ntmps38
 cases b1:inB N.subs.length 1 6 with
 | false =>
  have HE:Hid (rsubsB N=false):=by show rsubsB N=false;unfold rsubsB;rw [b1];rfl
  go_wp2_with (go_at_call 36;refine rin6_isM (by assumption) ?_);go_ret;exact ⟨by rw [HE.out];rfl,HK.out⟩
 | true =>
 have hu:=inB_iff.1 b1;have HB1:=Hid.mk' b1;go_wp2_with (go_at_call 36;refine rin6_isM (by assumption) ?_);clear b1;generalize hW:(w.alloc (.cells (cn9 Y N) 26))=W at *;clear hW;go_loopw [3,4] (fun v i wr=>∃ (k:Nat) (a:Option Addr) (c:Nat) (s:List Int),k <= N.subs.length /\ i=.int .i64 k /\ v=.slice a s.length c /\ Hid (rsubsF N k=some s) /\ Hid (Sl wr W.heap.size a c s) /\ s.length <= 60 * k /\ Kept W wr none) (fun _ i _=>N.subs.length - (intOf i).toNat)
 case atStart=>exact ⟨0,none,0,[],Nat.zero_le _,rfl,rfl,rfl,Sl.nil _ _,by simp,Kept.refl _ _⟩
 case round =>
  obtain ⟨wo,hwo⟩:∃ wo,wo=wr:=⟨wr,rfl⟩
  subst hwo;obtain ⟨k,sa,sc,s,hk,rfl,rfl,HS,HV,hsl,hkr⟩:=hrel;obtain ⟨c0,c1,c2,c3,c4,c5,_⟩:=HNB.out.kept hkr;by_cases hlt:k < N.subs.length
  . obtain ⟨ub,uo,eu,_,hc⟩:=(HNB.out.kept hkr).net.u1.at_ (by omega);rw [eu] at c1;have e0:=hc k hlt 0 (by omega);have e1:=hc k hlt 1 (by omega);have HI:=Hid.mk' (HNB.out.net.u2 k hlt);have hm60:=HF.out.ur k hlt
    have HRec:Hid (rsubsF N (k + 1)=match rtakeF N (N.subs.getD k u0).sites s (N.subs.getD k u0).sites.length with
     | none=>none
     | some s'=>if (N.subs.getD k u0).critical ∈ (N.subs.getD k u0).sites then some s' else none):=by
     show rsubsF N (k + 1)=_
     rw [rsubsF,HS.out]
     try rfl
    generalize N.subs.getD k u0=U at *;generalize Y.r k=rk at *;obtain ⟨ra,rc⟩:=rk;dsimp only [sbV,Nat.add_zero] at e0 e1 HI;obtain ⟨l,cr⟩:=U;dsimp only at e0 e1 HI HRec hm60;have hwl:w.heap.size < wo.heap.size:=block_lt c0;have hWs:W.heap.size <= wo.heap.size:=hkr.size;have hkb:Kept wo (wo.alloc (.cells #[.slice ra l.length rc,.int .i64 cr] 52)) none:=Kept.alloc _ _ _ _ _;have HKB:=Hid.mk' (hkr.tr hkb);have HV2:=Hid.mk' (HV.out.kept hkb);have HOB:Hid ((Value.slice sa s.length sc).ownBlock ≠ some wo.heap.size):=fun e=>by have:=(HV.out.own.lt _ e).2;omega
    have HB0:Hid ((wo.alloc (.cells #[.slice ra l.length rc,.int .i64 cr] 52)).cell? ⟨wo.heap.size,0,none⟩=some (.slice ra l.length rc) /\ (wo.alloc (.cells #[.slice ra l.length rc,.int .i64 cr] 52)).cell? ⟨wo.heap.size,1,none⟩=some (.int .i64 cr)):=⟨by simp [World.cell?_alloc_mark],by simp [World.cell?_alloc_mark]⟩;clear hc eu hkb HV;go_wp2;clear c0 c1 c2 c3 c4 c5 e0 e1;generalize hW1:(wo.alloc (.cells #[.slice ra l.length rc,.int .i64 cr] 52))=W1 at *;clear hW1;go_loopw [3,6] (fun v i wx=>∃ (j:Nat) (a:Option Addr) (c:Nat) (s':List Int),j <= l.length /\ i=.int .i64 j /\ v=.slice a s'.length c /\ Hid (rtakeF N l s j=some s') /\ Hid (Sl wx W.heap.size a c s') /\ Hid ((Value.slice a s'.length c).ownBlock ≠ some wo.heap.size) /\ Hid (wx.cell? ⟨wo.heap.size,0,none⟩=some (.slice ra l.length rc) /\ wx.cell? ⟨wo.heap.size,1,none⟩=some (.int .i64 cr)) /\ s'.length <= 60 * k + j /\ Kept W wx none) (fun _ i _=>l.length - (intOf i).toNat)
    case atStart=>exact ⟨0,sa,sc,s,Nat.zero_le _,rfl,rfl,rfl,HV2,HOB,HB0,by omega,HKB.out⟩
    case round =>
     clear HV2 HOB HB0 HKB;obtain ⟨j,va,vc,s',hj,rfl,rfl,HT,HV,HOB,HB0,hs',hkx⟩:=hrel;have HIx:=Hid.mk' (HI.out.kept hkx);obtain ⟨q0,q1⟩:=HB0.out;obtain ⟨c0,c1,c2,c3,c4,c5,_⟩:=HNB.out.kept hkx;have hwx:wo.heap.size < wr.heap.size:=block_lt q0;have hWx:W.heap.size <= wr.heap.size:=hkx.size;have hl9:l.length <= 9223372036854775807:=by omega
     by_cases hjl:j < l.length
     . obtain ⟨lb,lo,el,_,hlc⟩:=HIx.out.at_ (by omega);subst el;have hxr:=HIx.out.rng (l.getD j 0) (by simp [hjl]);have HX:Hid (∀ w',Kept wr w' none -> w'.cell? ⟨lb,lo + j,none⟩=some (.int .i64 (l.getD j 0))):=fun w' q=>cell_kept0 (hlc j hjl) q
       have HTR:Hid (rtakeF N l s (j + 1)=if inB (l.getD j 0) 0 ((N.sites.length:Int) - 1)=true /\ l.getD j 0 ∉ s' then some (s' ++ [l.getD j 0]) else none):=by
        show rtakeF N l s (j + 1)=_
        rw [rtakeF,HT.out]
        try rfl
       have HNO:Hid (rtakeF N l s (j + 1)=none -> rsubsB N=false):=fun q=>rsubsB_no (by rw [HRec.out,rtakeF_none q _ (by omega)]) hlt
       generalize l.getD j 0=x at *;have hwr:IntKind.i64.wrap ((N.sites.length:Int) - 1)=(N.sites.length:Int) - 1:=wrap_in (by omega) (by omega);have HIV:=Hid.mk' HV.out.ints;have g0:∀ w',Kept wr w' none -> w'.cell? ⟨wo.heap.size,0,none⟩=some (.slice (some ⟨lb,lo,none⟩) l.length rc):=fun w' q=>cell_kept0 q0 q
       have g1:∀ w',Kept wr w' none -> w'.cell? ⟨w.heap.size,0,none⟩=some (.slice Y.s N.sites.length Y.sc):=fun w' q=>cell_kept0 c0 q
       have g2:∀ w',Kept wr w' none -> w'.cell? ⟨lb,lo + j,none⟩=some (.int .i64 x):=HX.out
       cases hin:inB x 0 ((N.sites.length:Int) - 1) with
       | false =>
        have HE:=Hid.mk' (HNO.out (by rw [HTR.out,hin];simp));clear hlc HX;go_wp2;refine Code.wp_mono (Q:=Rg6 ?A1 wr) ?cont1 ?reg1
        case reg1 =>
         repeat (rename_i hh;clear hh)
         refine wp_region_held_drew (S:=fun w'=>Kept wr w' none) (by kernel_rfl) (Kept.tr (Kept.refl _ _) (Kept.drew _ _)) (fun kH=>?_);refine htI 0 ?_ rfl (by kernel_rfl) id ?_ kH <| htI 1 ?_ rfl (by kernel_rfl) id ?_ kH <| htI 2 ?_ rfl (by kernel_rfl) id ?_ kH <| htI 3 ?_ rfl (by kernel_rfl) id ?_ kH <| htI 4 ?_ rfl (by kernel_rfl) id ?_ kH <| htI 5 ?_ rfl (by kernel_rfl) id ?_ kH <| htI 6 ?_ rfl (by kernel_rfl) id ?_ kH <| htI 7 ?_ rfl (by kernel_rfl) id ?_ kH <| htI 8 ?_ rfl (by kernel_rfl) id ?_ kH ?_
         all_goals try (intro w h;(try simp only [st3] at h ⊢);go_simp <;> with_reducible rfl)
         (try simp only [st3]);refine rdy 9 (by kernel_rfl) rfl (fun K hK=>?_);go_simp;go_wp2_with (go_at_call 36;refine rin6_isM (by assumption) ?_;have hKS:=kH);replace hK:=hK.out;refine hK _ _ hKS (fun kH=>?_);clear hK K;refine htI 10 ?_ rfl (by kernel_rfl) id ?_ kH <| htI 11 ?_ rfl (by kernel_rfl) id ?_ kH <| htU 12 rfl (by kernel_rfl) id kH <| htU 13 rfl (by kernel_rfl) id kH <| htU 14 rfl (by kernel_rfl) id kH <| htU 15 rfl (by kernel_rfl) id kH <| htU 16 rfl (by kernel_rfl) id kH <| htU 17 rfl (by kernel_rfl) id kH <| htU 18 rfl (by kernel_rfl) id kH <| htI 19 ?_ rfl (by kernel_rfl) id ?_ kH ?_
         all_goals try (intro w h;(try simp only [st3] at h ⊢);go_simp <;> with_reducible rfl)
         (try simp only [st3]);refine wpAnyH_done (by kernel_rfl) ?_ _;refine And.intro ?_ kH;with_reducible rfl
        case cont1 =>
        intro e a' w' hq;obtain ⟨rfl,rfl,hkq⟩:=hq.out;go_wp2;go_ret;exact ⟨by rw [HE.out];rfl,HK.out.tr (hkx.tr hkq)⟩
       | true =>
       cases hmm:decide (x ∈ s') with
       | true =>
        have HE:=Hid.mk' (HNO.out (by rw [HTR.out];simp [of_decide_eq_true hmm]));clear hlc HX;go_wp2;refine Code.wp_mono (Q:=Rg6 ?A14 wr) ?cont14 ?reg14
        case reg14 =>
         repeat (rename_i hh;clear hh)
         refine wp_region_held_drew (S:=fun w'=>Kept wr w' none) (by kernel_rfl) (Kept.tr (Kept.refl _ _) (Kept.drew _ _)) (fun kH=>?_);refine htI 0 ?_ rfl (by kernel_rfl) id ?_ kH <| htI 1 ?_ rfl (by kernel_rfl) id ?_ kH <| htI 2 ?_ rfl (by kernel_rfl) id ?_ kH <| htI 3 ?_ rfl (by kernel_rfl) id ?_ kH <| htI 4 ?_ rfl (by kernel_rfl) id ?_ kH <| htI 5 ?_ rfl (by kernel_rfl) id ?_ kH <| htI 6 ?_ rfl (by kernel_rfl) id ?_ kH <| htI 7 ?_ rfl (by kernel_rfl) id ?_ kH <| htI 8 ?_ rfl (by kernel_rfl) id ?_ kH ?_
         all_goals try (intro w h;(try simp only [st3] at h ⊢);go_simp <;> with_reducible rfl)
         (try simp only [st3]);refine rdy 9 (by kernel_rfl) rfl (fun K hK=>?_);go_simp;go_wp2_with (go_at_call 36;refine rin6_isM (by assumption) ?_;have hKS:=kH);replace hK:=hK.out;refine hK _ _ hKS (fun kH=>?_);clear hK K;refine htI 10 ?_ rfl (by kernel_rfl) id ?_ kH <| htI 11 ?_ rfl (by kernel_rfl) id ?_ kH <| htI 12 ?_ rfl (by kernel_rfl) id ?_ kH <| htI 13 ?_ rfl (by kernel_rfl) id ?_ kH <| htI 14 ?_ rfl (by kernel_rfl) id ?_ kH <| htI 15 ?_ rfl (by kernel_rfl) id ?_ kH <| htI 16 ?_ rfl (by kernel_rfl) id ?_ kH <| htI 17 ?_ rfl (by kernel_rfl) id ?_ kH ?_
         all_goals try (intro w h;(try simp only [st3] at h ⊢);go_simp <;> with_reducible rfl)
         (try simp only [st3]);refine rdy 18 (by kernel_rfl) rfl (fun K hK=>?_);go_simp;go_wp2_with (go_at_call 71;refine (rhas6_is (HIV.out.kept kH) (by assumption)).mono ?_;rintro e w9 ⟨rfl,rfl⟩;have hKS:=kH);replace hK:=hK.out;refine hK _ _ hKS (fun kH=>?_);clear hK K;refine htI 19 ?_ rfl (by kernel_rfl) id ?_ kH ?_
         all_goals try (intro w h;(try simp only [st3] at h ⊢);go_simp <;> with_reducible rfl)
         (try simp only [st3]);refine wpAnyH_done (by kernel_rfl) ?_ _;refine And.intro ?_ kH;with_reducible rfl
        case cont14 =>
        intro e a' w' hq;obtain ⟨rfl,rfl,hkq⟩:=hq.out;go_wp2;go_ret;exact ⟨by rw [HE.out];rfl,HK.out.tr (hkx.tr hkq)⟩
       | false =>
        have HE:Hid (rtakeF N l s (j + 1)=some (s' ++ [x])):=by
         show rtakeF N l s (j + 1)=_
         rw [HTR.out,hin,if_pos ⟨rfl,of_decide_eq_false hmm⟩]
        clear hlc HX;go_wp2;refine Code.wp_mono (Q:=Rg6 ?A33 wr) ?cont33 ?reg33
        case reg33 =>
         repeat (rename_i hh;clear hh)
         refine wp_region_held_drew (S:=fun w'=>Kept wr w' none) (by kernel_rfl) (Kept.tr (Kept.refl _ _) (Kept.drew _ _)) (fun kH=>?_);refine htI 0 ?_ rfl (by kernel_rfl) id ?_ kH <| htI 1 ?_ rfl (by kernel_rfl) id ?_ kH <| htI 2 ?_ rfl (by kernel_rfl) id ?_ kH <| htI 3 ?_ rfl (by kernel_rfl) id ?_ kH <| htI 4 ?_ rfl (by kernel_rfl) id ?_ kH <| htI 5 ?_ rfl (by kernel_rfl) id ?_ kH <| htI 6 ?_ rfl (by kernel_rfl) id ?_ kH <| htI 7 ?_ rfl (by kernel_rfl) id ?_ kH <| htI 8 ?_ rfl (by kernel_rfl) id ?_ kH ?_
         all_goals try (intro w h;(try simp only [st3] at h ⊢);go_simp <;> with_reducible rfl)
         (try simp only [st3]);refine rdy 9 (by kernel_rfl) rfl (fun K hK=>?_);go_simp;go_wp2_with (go_at_call 36;refine rin6_isM (by assumption) ?_;have hKS:=kH);replace hK:=hK.out;refine hK _ _ hKS (fun kH=>?_);clear hK K;refine htI 10 ?_ rfl (by kernel_rfl) id ?_ kH <| htI 11 ?_ rfl (by kernel_rfl) id ?_ kH <| htI 12 ?_ rfl (by kernel_rfl) id ?_ kH <| htI 13 ?_ rfl (by kernel_rfl) id ?_ kH <| htI 14 ?_ rfl (by kernel_rfl) id ?_ kH <| htI 15 ?_ rfl (by kernel_rfl) id ?_ kH <| htI 16 ?_ rfl (by kernel_rfl) id ?_ kH <| htI 17 ?_ rfl (by kernel_rfl) id ?_ kH ?_
         all_goals try (intro w h;(try simp only [st3] at h ⊢);go_simp <;> with_reducible rfl)
         (try simp only [st3]);refine rdy 18 (by kernel_rfl) rfl (fun K hK=>?_);go_simp;go_wp2_with (go_at_call 71;refine (rhas6_is (HIV.out.kept kH) (by assumption)).mono ?_;rintro e w9 ⟨rfl,rfl⟩;have hKS:=kH);replace hK:=hK.out;refine hK _ _ hKS (fun kH=>?_);clear hK K;refine htI 19 ?_ rfl (by kernel_rfl) id ?_ kH ?_
         all_goals try (intro w h;(try simp only [st3] at h ⊢);go_simp <;> with_reducible rfl)
         (try simp only [st3]);refine wpAnyH_done (by kernel_rfl) ?_ _;refine And.intro ?_ kH;with_reducible rfl
        case cont33 =>
        intro e a' w' hq;obtain ⟨rfl,rfl,hkq⟩:=hq.out
        skip
        obtain ⟨va',vc',w6,hrun,hS6,hk6,hob6⟩:=(HV.out.kept hkq).grow x ⟨hxr.1,hxr.2⟩ (by omega) (Nat.le_trans hWx hkq.size);have HR:=Hid.mk' hrun;have hq0:=g0 w' hkq;have hq2:=g2 w' hkq;have hw':=hkq.size;have HKF:Hid (Kept W w6 none):=(HV.out.kept hkq).own.far hk6 (hkx.tr hkq) (Nat.le_refl _);have HB6:Hid (w6.cell? ⟨wo.heap.size,0,none⟩=some (.slice (some ⟨lb,lo,none⟩) l.length rc) /\ w6.cell? ⟨wo.heap.size,1,none⟩=some (.int .i64 cr)):=⟨cell_keptR hq0 hk6 (Ne.symm HOB.out),cell_keptR (cell_kept0 q1 hkq) hk6 (Ne.symm HOB.out)⟩
        have HO6:Hid ((Value.slice va' (s'.length + 1:Nat) vc').ownBlock ≠ some wo.heap.size):=fun e=>by
         rcases hob6 with q | q
         . exact HOB.out (q.symm.trans e)
         . rw [q] at e;injection e with e;omega
        have HS6:=Hid.mk' hS6;clear hrun hS6 hk6 hob6 c0 c1 c2 c3 c4 c5 q0 q1 g0 g1 g2 HB0;go_wp2_with (at_builtin;refine wpList_app (by rfl) _ _ _ (by rfl) (by rfl) (by rfl) HR.out ?_);go_roundw
        case rel=>exact ⟨j + 1,va',vc',s' ++ [x],by omega,by go_num,by simp,HE,HS6,by simpa using HO6,HB6,by simp;omega,HKF.out⟩
        case measure=>simp [intOf];omega
     . have e:j=l.length:=by omega
       subst e;have HRE:=HRec.out;rw [HT.out] at HRE;have HRE2:=Hid.mk' HRE;clear HRE
       cases hcr:decide (cr ∈ l) with
       | false =>
        have HE:Hid (rsubsB N=false):=rsubsB_no (k:=k + 1) (by rw [HRE2.out];simp [of_decide_eq_false hcr]) hlt;go_wp2_with (go_at_call 71;refine (rhas6_is HIx.out (by assumption)).mono ?_;rintro e w9 ⟨rfl,rfl⟩);go_ret;exact ⟨by rw [HE.out];rfl,HK.out.tr hkx⟩
       | true =>
        have HE:Hid (rsubsF N (k + 1)=some s'):=by show rsubsF N (k + 1)=_;rw [HRE2.out];simp [of_decide_eq_true hcr]
        go_wp2_with (go_at_call 71;refine (rhas6_is HIx.out (by assumption)).mono ?_;rintro e w9 ⟨rfl,rfl⟩);go_roundw
        case rel=>exact ⟨k + 1,va,vc,s',by omega,by go_num,rfl,HE,HV,by omega,hkx⟩
        case measure=>simp [intOf];omega
  . have e:k=N.subs.length:=by omega
    subst e
    have HE:Hid (rsubsB N=decide ((s.length:Int)=(N.sites.length:Int))):=by
     show rsubsB N=_
     unfold rsubsB;rw [HB1.out,HS.out];simp;omega
    have hs9:s.length <= 9223372036854775807:=by omega
    go_wp2
    all_goals
     go_ret;exact ⟨by rw [HE.out];first | rfl | simp,HK.out.tr hkr⟩
theorem rwedsB_no {N:Nt} {k:Nat} (hk:k < N.weds.length) (h:rwedB N k=false):rwedsB N=false:=by
 unfold rwedsB;rw [allB_no hk h];simp
theorem rweds6_any {Y:Na} {N:Nt} {w:World} (h:NetAt w Y N) (hlo:1 <= N.low /\ N.low <= 1048576) (hu6:N.subs.length <= 6):Calls Tryz.prog 39 #[netV Y N] w fun e w'=>e=.returned (.bool (rwedsB N)) /\ Kept w w' none:=by
 have hkA:Kept w (w.alloc (.cells (cn9 Y N) 26)) none:=Kept.alloc _ _ _ _ _;have HNB:=Hid.mk' (nbx_alloc h 26);have HK:=Hid.mk' hkA;have hd9:N.weds.length <= 9223372036854775807:=by have:=h.dk.room;have:=h.dk.max;omega
 have hwl:IntKind.i64.wrap (N.low - 1)=N.low - 1:=wrap_in (by omega) (by omega);clear h hkA;go_enter Tryz.func39,Tryz.ntmps39;by_cases h8:8 < N.weds.length
 case pos =>
  have HE:Hid (rwedsB N=false):=by show rwedsB N=false;unfold rwedsB;rw [decide_eq_false (by omega)];rfl
  go_wp2;go_ret;exact ⟨by rw [HE.out];rfl,HK.out⟩
 go_wp2;generalize hW:(w.alloc (.cells (cn9 Y N) 26))=W at *;clear hW;go_loopw [3] (fun i wr=>∃ k:Nat,k <= N.weds.length /\ i=.int .i64 k /\ Hid (∀ j,j < k -> rwedB N j=true) /\ Kept W wr none) (fun i _=>N.weds.length - (intOf i).toNat)
 case atStart=>exact ⟨0,Nat.zero_le _,rfl,(fun j hj=>by omega),Kept.refl _ _⟩
 case round =>
  obtain ⟨wo,hwo⟩:∃ wo,wo=wr:=⟨wr,rfl⟩
  subst hwo;obtain ⟨k,hk,rfl,HJ,hkr⟩:=hrel;obtain ⟨c0,c1,c2,c3,c4,c5,_⟩:=HNB.out.kept hkr;by_cases hlt:k < N.weds.length
  . obtain ⟨db,do_,ed,_,hc⟩:=(HNB.out.kept hkr).net.d1.at_ (by omega);rw [ed] at c2;have e0:=hc k hlt 0 (by omega);have e1:=hc k hlt 1 (by omega);have e2:=hc k hlt 2 (by omega);have e3:=hc k hlt 3 (by omega);have HI:=Hid.mk' (HNB.out.net.d2 k hlt);have HED:=Hid.mk' ed;have HNO:Hid (rwedB N k=false -> rwedsB N=false):=rwedsB_no hlt;have HRB:Hid (rwedB N k=(decide (0 <= (N.weds.getD k d0).a) && (decide ((N.weds.getD k d0).a < (N.weds.getD k d0).b) && (decide ((N.weds.getD k d0).b < (N.subs.length:Int)) && (timeB (N.weds.getD k d0).votes && (offsetsB N (N.weds.getD k d0).offsets && allB k (fun j=>!(decide ((N.weds.getD j d0).a=(N.weds.getD k d0).a) && decide ((N.weds.getD j d0).b=(N.weds.getD k d0).b))))))))):=rfl;have HOB:Hid (offsetsB N (N.weds.getD k d0).offsets=(inB (N.weds.getD k d0).offsets.length 1 8 && allB (N.weds.getD k d0).offsets.length (fun i=>inB ((N.weds.getD k d0).offsets.getD i 0) 0 (N.low - 1)))):=rfl
    have HGD:Hid (∀ w',Kept W w' none -> ∀ j,j < N.weds.length -> w'.cell? ⟨db,do_ + j * 4,none⟩=some (.int .i64 (N.weds.getD j d0).a) /\ w'.cell? ⟨db,do_ + j * 4 + 1,none⟩=some (.int .i64 (N.weds.getD j d0).b)):=fun w' q j hj=>by
     obtain ⟨db',do',ed',_,hc'⟩:=(HNB.out.kept q).net.d1.at_ (by omega);rw [HED.out] at ed';injection ed' with ed';injection ed' with ed1 ed2;subst ed1 ed2;exact ⟨hc' j hj 0 (by omega),hc' j hj 1 (by omega)⟩
    clear hc ed;generalize hD:N.weds.getD k d0=D at *;have HDE:=Hid.mk' hD;clear hD;generalize Y.t k=tk at *;obtain ⟨ra,rc⟩:=tk;dsimp only [wdV,Nat.add_zero] at e0 e1 e2 e3 HI;have HKB:Hid (Kept wo (wo.alloc (.cells #[.int .i64 D.a,.int .i64 D.b,.int .i64 D.votes,.slice ra D.offsets.length rc] 54)) none):=Kept.alloc _ _ _ _ _;have hol:D.offsets.length <= 9223372036854775807:=by have:=HI.out.cap.room;have:=HI.out.cap.max;omega
    have hwl2:w.heap.size < wo.heap.size:=block_lt c0;by_cases a1:0 <= D.a
    case neg =>
     have a1':D.a < 0:=by omega
     have HE:=Hid.mk' (HNO.out (by rw [HRB.out,decide_eq_false a1];simp));go_wp2_with (go_at_call 36;refine rin6_isM (by assumption) ?_);go_ret;exact ⟨by rw [HE.out];rfl,HK.out.tr (hkr.tr HKB.out)⟩
    have a1':¬ D.a < 0:=by omega
    by_cases a2:D.a < D.b
    case neg =>
     have a2':D.b <= D.a:=by omega
     have HE:=Hid.mk' (HNO.out (by rw [HRB.out,decide_eq_false a2];simp));go_wp2_with (go_at_call 36;refine rin6_isM (by assumption) ?_);go_ret;exact ⟨by rw [HE.out];rfl,HK.out.tr (hkr.tr HKB.out)⟩
    have a2':¬ D.b <= D.a:=by omega
    by_cases a3:D.b < (N.subs.length:Int)
    case neg =>
     have a3':(N.subs.length:Int) <= D.b:=by omega
     have HE:=Hid.mk' (HNO.out (by rw [HRB.out,decide_eq_false a3];simp));go_wp2_with (go_at_call 36;refine rin6_isM (by assumption) ?_);go_ret;exact ⟨by rw [HE.out];rfl,HK.out.tr (hkr.tr HKB.out)⟩
    have a3':¬ (N.subs.length:Int) <= D.b:=by omega
    cases a4:inB D.votes 1 1048576 with
    | false =>
     have HE:=Hid.mk' (HNO.out (by rw [HRB.out,show timeB D.votes=false from a4];simp));go_wp2_with (go_at_call 36;refine rin6_isM (by assumption) ?_);go_ret;exact ⟨by rw [HE.out];rfl,HK.out.tr (hkr.tr HKB.out)⟩
    | true =>
    cases a5:inB D.offsets.length 1 8 with
    | false =>
     have HE:=Hid.mk' (HNO.out (by rw [HRB.out,HOB.out,a5];simp));go_wp2_with (go_at_call 36;refine rin6_isM (by assumption) ?_);go_ret;exact ⟨by rw [HE.out];rfl,HK.out.tr (hkr.tr HKB.out)⟩
    | true =>
    have h58:=inB_iff.1 a5;have HA:Hid ((0 <= D.a /\ D.a < D.b /\ D.b < (N.subs.length:Int)) /\ timeB D.votes=true /\ inB D.offsets.length 1 8=true):=⟨⟨a1,a2,a3⟩,a4,a5⟩;have HBX:Hid (∀ w',Kept (wo.alloc (.cells #[.int .i64 D.a,.int .i64 D.b,.int .i64 D.votes,.slice ra D.offsets.length rc] 54)) w' none -> w'.cell? ⟨wo.heap.size,0,none⟩=some (.int .i64 D.a) /\ w'.cell? ⟨wo.heap.size,1,none⟩=some (.int .i64 D.b) /\ w'.cell? ⟨wo.heap.size,3,none⟩=some (.slice ra D.offsets.length rc)):=fun w' q=>⟨cell_kept0 (by simp [World.cell?_alloc_mark]) q,cell_kept0 (by simp [World.cell?_alloc_mark]) q,cell_kept0 (by simp [World.cell?_alloc_mark]) q⟩
    go_wp2_with (go_at_call 36;refine rin6_isM (by assumption) ?_);clear c0 c1 c2 c3 c4 c5 e0 e1 e2 e3 a1' a2' a3' a4 a5;have KB:=Hid.mk' (hkr.tr HKB.out);generalize hW1:(wo.alloc (.cells #[.int .i64 D.a,.int .i64 D.b,.int .i64 D.votes,.slice ra D.offsets.length rc] 54))=W1 at *;clear hW1;go_loopw [5] (fun q wr=>∃ j:Nat,j <= D.offsets.length /\ q=.int .i64 j /\ Hid (∀ t,t < j -> inB (D.offsets.getD t 0) 0 (N.low - 1)=true) /\ Kept W1 wr none) (fun q _=>D.offsets.length - (intOf q).toNat)
    case atStart=>exact ⟨0,Nat.zero_le _,rfl,(fun j hj=>by omega),Kept.refl _ _⟩
    case round =>
     obtain ⟨j,hj,rfl,HT,hkx⟩:=hrel;obtain ⟨q0,q1,q3⟩:=HBX.out _ hkx;obtain ⟨c0,c1,c2,c3,c4,c5,_⟩:=HNB.out.kept (KB.out.tr hkx);by_cases hjl:j < D.offsets.length
     . obtain ⟨lb,lo,el,_,hlc⟩:=(HI.out.kept (KB.out.tr hkx)).at_ (by omega);subst el;have HX:Hid (∀ w',Kept wr w' none -> w'.cell? ⟨lb,lo + j,none⟩=some (.int .i64 (D.offsets.getD j 0))):=fun w' q=>cell_kept0 (hlc j hjl) q
       have HNX:Hid (inB (D.offsets.getD j 0) 0 (N.low - 1)=false -> rwedsB N=false):=fun q=>HNO.out (by rw [HRB.out,HOB.out,allB_no hjl q];simp)
       have HTS:Hid (∀ t,t < j + 1 -> t ≠ j -> inB (D.offsets.getD t 0) 0 (N.low - 1)=true):=fun t ht hne=>HT.out t (by omega)
       obtain ⟨x,hxe⟩:∃ x,D.offsets.getD j 0=x:=⟨_,rfl⟩
       rw [hxe] at HX HNX;have HXE:=Hid.mk' hxe;clear hxe hlc;have g0:∀ w',Kept wr w' none -> w'.cell? ⟨wo.heap.size,3,none⟩=some (.slice (some ⟨lb,lo,none⟩) D.offsets.length rc):=fun w' q=>cell_kept0 q3 q
       have g1:∀ w',Kept wr w' none -> w'.cell? ⟨w.heap.size,3,none⟩=some (.int .i64 N.low):=fun w' q=>cell_kept0 c3 q
       have g2:∀ w',Kept wr w' none -> w'.cell? ⟨lb,lo + j,none⟩=some (.int .i64 x):=HX.out
       cases hin:inB x 0 (N.low - 1) with
       | false =>
        have HE:=Hid.mk' (HNX.out hin);go_wp2;refine Code.wp_mono (Q:=Rg6 ?A1 wr) ?cont1 ?reg1
        case reg1 =>
         repeat (rename_i hh;clear hh)
         refine wp_region_held_drew (S:=fun w'=>Kept wr w' none) (by kernel_rfl) (Kept.tr (Kept.refl _ _) (Kept.drew _ _)) (fun kH=>?_);refine htI 0 ?_ rfl (by kernel_rfl) id ?_ kH <| htI 1 ?_ rfl (by kernel_rfl) id ?_ kH <| htI 2 ?_ rfl (by kernel_rfl) id ?_ kH <| htI 3 ?_ rfl (by kernel_rfl) id ?_ kH <| htI 4 ?_ rfl (by kernel_rfl) id ?_ kH <| htI 5 ?_ rfl (by kernel_rfl) id ?_ kH <| htI 6 ?_ rfl (by kernel_rfl) id ?_ kH <| htI 7 ?_ rfl (by kernel_rfl) id ?_ kH ?_
         all_goals try (intro w h;(try simp only [st3] at h ⊢);go_simp <;> with_reducible rfl)
         (try simp only [st3]);refine rdy 8 (by kernel_rfl) rfl (fun K hK=>?_);go_simp;go_wp2_with (go_at_call 36;refine rin6_isM (by assumption) ?_;have hKS:=kH);replace hK:=hK.out;refine hK _ _ hKS (fun kH=>?_);clear hK K;refine htI 9 ?_ rfl (by kernel_rfl) id ?_ kH ?_
         all_goals try (intro w h;(try simp only [st3] at h ⊢);go_simp <;> with_reducible rfl)
         (try simp only [st3]);refine wpAnyH_done (by kernel_rfl) ?_ _;refine And.intro ?_ kH;with_reducible rfl
        case cont1 =>
        intro e a' w' hq;obtain ⟨rfl,rfl,hkq⟩:=hq.out;go_wp2;go_ret;exact ⟨by rw [HE.out];rfl,HK.out.tr (KB.out.tr (hkx.tr hkq))⟩
       | true =>
        go_wp2;refine Code.wp_mono (Q:=Rg6 ?A11 wr) ?cont11 ?reg11
        case reg11 =>
         repeat (rename_i hh;clear hh)
         refine wp_region_held_drew (S:=fun w'=>Kept wr w' none) (by kernel_rfl) (Kept.tr (Kept.refl _ _) (Kept.drew _ _)) (fun kH=>?_);refine htI 0 ?_ rfl (by kernel_rfl) id ?_ kH <| htI 1 ?_ rfl (by kernel_rfl) id ?_ kH <| htI 2 ?_ rfl (by kernel_rfl) id ?_ kH <| htI 3 ?_ rfl (by kernel_rfl) id ?_ kH <| htI 4 ?_ rfl (by kernel_rfl) id ?_ kH <| htI 5 ?_ rfl (by kernel_rfl) id ?_ kH <| htI 6 ?_ rfl (by kernel_rfl) id ?_ kH <| htI 7 ?_ rfl (by kernel_rfl) id ?_ kH ?_
         all_goals try (intro w h;(try simp only [st3] at h ⊢);go_simp <;> with_reducible rfl)
         (try simp only [st3]);refine rdy 8 (by kernel_rfl) rfl (fun K hK=>?_);go_simp;go_wp2_with (go_at_call 36;refine rin6_isM (by assumption) ?_;have hKS:=kH);replace hK:=hK.out;refine hK _ _ hKS (fun kH=>?_);clear hK K;refine htI 9 ?_ rfl (by kernel_rfl) id ?_ kH ?_
         all_goals try (intro w h;(try simp only [st3] at h ⊢);go_simp <;> with_reducible rfl)
         (try simp only [st3]);refine wpAnyH_done (by kernel_rfl) ?_ _;refine And.intro ?_ kH;with_reducible rfl
        case cont11 =>
        intro e a' w' hq;obtain ⟨rfl,rfl,hkq⟩:=hq.out;go_wp2;go_roundw
        case rel=>exact ⟨j + 1,by omega,by go_num,(fun t ht=>(by
         by_cases e:t=j
         . rw [e,HXE.out];exact hin
         . exact HTS.out t ht e)),hkx.tr hkq⟩
        case measure=>simp [intOf];omega
     . have e:j=D.offsets.length:=by omega
       subst e;have HOY:Hid (offsetsB N D.offsets=true):=by show offsetsB N D.offsets=true;rw [HOB.out,HA.out.2.2,allB_iff.2 HT.out];rfl
       go_wp2;have KX:=Hid.mk' (KB.out.tr hkx);have HBY:=Hid.mk' (fun w' (q:Kept wr w' none)=>HBX.out w' (hkx.tr q));clear q0 q1 q3 c0 c1 c2 c3 c4 c5 HT hkx KB;obtain ⟨wp,hwp⟩:∃ wp,wp=wr:=⟨wr,rfl⟩
       subst hwp;go_loopw [6] (fun q wr=>∃ j:Nat,j <= k /\ q=.int .i64 j /\ Hid (∀ t,t < j -> (!(decide ((N.weds.getD t d0).a=D.a) && decide ((N.weds.getD t d0).b=D.b)))=true) /\ Kept wp wr none) (fun q _=>k - (intOf q).toNat)
       case atStart=>exact ⟨0,Nat.zero_le _,rfl,(fun j hj=>by omega),Kept.refl _ _⟩
       case round =>
        obtain ⟨j,hj,rfl,HT,hkx⟩:=hrel;obtain ⟨c0,c1,c2,c3,c4,c5,_⟩:=HNB.out.kept (KX.out.tr hkx);rw [HED.out] at c2;by_cases hjl:j < k
        . have HNX:Hid ((!(decide ((N.weds.getD j d0).a=D.a) && decide ((N.weds.getD j d0).b=D.b)))=false -> rwedsB N=false):=fun q=>HNO.out (by rw [HRB.out,allB_no hjl q];simp)
          have HTS:Hid (∀ t,t < j + 1 -> t ≠ j -> (!(decide ((N.weds.getD t d0).a=D.a) && decide ((N.weds.getD t d0).b=D.b)))=true):=fun t ht hne=>HT.out t (by omega)
          have g0:∀ w',Kept wr w' none -> w'.cell? ⟨wo.heap.size,0,none⟩=some (.int .i64 D.a):=fun w' q=>(HBY.out w' (hkx.tr q)).1
          have g1:∀ w',Kept wr w' none -> w'.cell? ⟨wo.heap.size,1,none⟩=some (.int .i64 D.b):=fun w' q=>(HBY.out w' (hkx.tr q)).2.1
          have g2:∀ w',Kept wr w' none -> w'.cell? ⟨w.heap.size,2,none⟩=some (.slice (some ⟨db,do_,none⟩) N.weds.length Y.dc):=fun w' q=>cell_kept0 c2 q
          have g3:∀ w',Kept wr w' none -> w'.cell? ⟨db,do_ + j * 4,none⟩=some (.int .i64 (N.weds.getD j d0).a):=fun w' q=>(HGD.out w' ((KX.out.tr hkx).tr q) j (by omega)).1
          have g4:∀ w',Kept wr w' none -> w'.cell? ⟨db,do_ + j * 4 + 1,none⟩=some (.int .i64 (N.weds.getD j d0).b):=fun w' q=>(HGD.out w' ((KX.out.tr hkx).tr q) j (by omega)).2
          have hjN:j < N.weds.length:=by omega
          generalize hE:N.weds.getD j d0=E at *;have HEE:=Hid.mk' hE;clear hE;clear c0 c1 c2 c3 c4 c5;by_cases ea:E.a=D.a
          . by_cases eb:E.b=D.b
            . have HE:=Hid.mk' (HNX.out (by rw [decide_eq_true ea,decide_eq_true eb];rfl));rw [ea] at g3;rw [eb] at g4;go_wp2;refine Code.wp_mono (Q:=Rg6 ?A21 wr) ?cont21 ?reg21
              case reg21 =>
               repeat (rename_i hh;clear hh)
               refine wp_region_held_drew (S:=fun w'=>Kept wr w' none) (by kernel_rfl) (Kept.tr (Kept.refl _ _) (Kept.drew _ _)) (fun kH=>?_);refine htI 0 ?_ rfl (by kernel_rfl) id ?_ kH <| htI 1 ?_ rfl (by kernel_rfl) id ?_ kH <| htI 2 ?_ rfl (by kernel_rfl) id ?_ kH <| htI 3 ?_ rfl (by kernel_rfl) id ?_ kH <| htI 4 ?_ rfl (by kernel_rfl) id ?_ kH <| htI 5 ?_ rfl (by kernel_rfl) id ?_ kH <| htI 6 ?_ rfl (by kernel_rfl) id ?_ kH <| htI 7 ?_ rfl (by kernel_rfl) id ?_ kH <| htI 8 ?_ rfl (by kernel_rfl) id ?_ kH <| htI 9 ?_ rfl (by kernel_rfl) id ?_ kH <| htI 10 ?_ rfl (by kernel_rfl) id ?_ kH <| htI 11 ?_ rfl (by kernel_rfl) id ?_ kH <| htI 12 ?_ rfl (by kernel_rfl) id ?_ kH <| htI 13 ?_ rfl (by kernel_rfl) id ?_ kH <| htI 14 ?_ rfl (by kernel_rfl) id ?_ kH <| htI 15 ?_ rfl (by kernel_rfl) id ?_ kH <| htI 16 ?_ rfl (by kernel_rfl) id ?_ kH <| htI 17 ?_ rfl (by kernel_rfl) id ?_ kH <| htI 18 ?_ rfl (by kernel_rfl) id ?_ kH <| htI 19 ?_ rfl (by kernel_rfl) id ?_ kH ?_
               all_goals try (intro w h;(try simp only [st3] at h ⊢);go_simp <;> with_reducible rfl)
               (try simp only [st3]);refine wpAnyH_done (by kernel_rfl) ?_ _;refine And.intro ?_ kH;with_reducible rfl
              case cont21 =>
              intro e a' w' hq;obtain ⟨rfl,rfl,hkq⟩:=hq.out;go_wp2;go_ret;exact ⟨by rw [HE.out];rfl,HK.out.tr (KX.out.tr (hkx.tr hkq))⟩
            . rw [ea] at g3;have eb2:(E.b == D.b)=false:=beq_eq_false_iff_ne.2 eb;have HQ:Hid ((!(decide (E.a=D.a) && decide (E.b=D.b)))=true):=by show (!(decide (E.a=D.a) && decide (E.b=D.b)))=true;rw [decide_eq_false eb];simp
              clear ea;go_wp2;refine Code.wp_mono (Q:=Rg6 ?A42 wr) ?cont42 ?reg42
              case reg42 =>
               repeat (rename_i hh;clear hh)
               refine wp_region_held_drew (S:=fun w'=>Kept wr w' none) (by kernel_rfl) (Kept.tr (Kept.refl _ _) (Kept.drew _ _)) (fun kH=>?_);refine htI 0 ?_ rfl (by kernel_rfl) id ?_ kH <| htI 1 ?_ rfl (by kernel_rfl) id ?_ kH <| htI 2 ?_ rfl (by kernel_rfl) id ?_ kH <| htI 3 ?_ rfl (by kernel_rfl) id ?_ kH <| htI 4 ?_ rfl (by kernel_rfl) id ?_ kH <| htI 5 ?_ rfl (by kernel_rfl) id ?_ kH <| htI 6 ?_ rfl (by kernel_rfl) id ?_ kH <| htI 7 ?_ rfl (by kernel_rfl) id ?_ kH <| htI 8 ?_ rfl (by kernel_rfl) id ?_ kH <| htI 9 ?_ rfl (by kernel_rfl) id ?_ kH <| htI 10 ?_ rfl (by kernel_rfl) id ?_ kH <| htI 11 ?_ rfl (by kernel_rfl) id ?_ kH <| htI 12 ?_ rfl (by kernel_rfl) id ?_ kH <| htI 13 ?_ rfl (by kernel_rfl) id ?_ kH <| htI 14 ?_ rfl (by kernel_rfl) id ?_ kH <| htI 15 ?_ rfl (by kernel_rfl) id ?_ kH <| htI 16 ?_ rfl (by kernel_rfl) id ?_ kH <| htI 17 ?_ rfl (by kernel_rfl) id ?_ kH <| htI 18 ?_ rfl (by kernel_rfl) id ?_ kH <| htI 19 ?_ rfl (by kernel_rfl) id ?_ kH ?_
               all_goals try (intro w h;(try simp only [st3] at h ⊢);go_simp <;> with_reducible rfl)
               (try simp only [st3]);refine wpAnyH_done (by kernel_rfl) ?_ _;refine And.intro ?_ kH;with_reducible rfl
              case cont42 =>
              intro e a' w' hq;obtain ⟨rfl,rfl,hkq⟩:=hq.out;go_wp2;go_roundw
              case rel=>exact ⟨j + 1,by omega,by go_num,(fun t ht=>(by
               by_cases e:t=j
               . rw [e,HEE.out];exact HQ.out
               . exact HTS.out t ht e)),hkx.tr hkq⟩
              case measure=>simp [intOf];omega
          . have HQ:Hid ((!(decide (E.a=D.a) && decide (E.b=D.b)))=true):=by show (!(decide (E.a=D.a) && decide (E.b=D.b)))=true;rw [decide_eq_false ea];simp
            have ea2:(E.a == D.a)=false:=beq_eq_false_iff_ne.2 ea;go_wp2;refine Code.wp_mono (Q:=Rg6 ?A63 wr) ?cont63 ?reg63
            case reg63 =>
             repeat (rename_i hh;clear hh)
             refine wp_region_held_drew (S:=fun w'=>Kept wr w' none) (by kernel_rfl) (Kept.tr (Kept.refl _ _) (Kept.drew _ _)) (fun kH=>?_);refine htI 0 ?_ rfl (by kernel_rfl) id ?_ kH <| htI 1 ?_ rfl (by kernel_rfl) id ?_ kH <| htI 2 ?_ rfl (by kernel_rfl) id ?_ kH <| htI 3 ?_ rfl (by kernel_rfl) id ?_ kH <| htI 4 ?_ rfl (by kernel_rfl) id ?_ kH <| htI 5 ?_ rfl (by kernel_rfl) id ?_ kH <| htI 6 ?_ rfl (by kernel_rfl) id ?_ kH <| htI 7 ?_ rfl (by kernel_rfl) id ?_ kH <| htI 8 ?_ rfl (by kernel_rfl) id ?_ kH <| htI 9 ?_ rfl (by kernel_rfl) id ?_ kH <| htU 10 rfl (by kernel_rfl) id kH <| htU 11 rfl (by kernel_rfl) id kH <| htU 12 rfl (by kernel_rfl) id kH <| htU 13 rfl (by kernel_rfl) id kH <| htU 14 rfl (by kernel_rfl) id kH <| htU 15 rfl (by kernel_rfl) id kH <| htU 16 rfl (by kernel_rfl) id kH <| htU 17 rfl (by kernel_rfl) id kH <| htU 18 rfl (by kernel_rfl) id kH <| htI 19 ?_ rfl (by kernel_rfl) id ?_ kH ?_
             all_goals try (intro w h;(try simp only [st3] at h ⊢);go_simp <;> with_reducible rfl)
             (try simp only [st3]);refine wpAnyH_done (by kernel_rfl) ?_ _;refine And.intro ?_ kH;with_reducible rfl
            case cont63 =>
            intro e a' w' hq;obtain ⟨rfl,rfl,hkq⟩:=hq.out;go_wp2;go_roundw
            case rel=>exact ⟨j + 1,by omega,by go_num,(fun t ht=>(by
             by_cases e:t=j
             . rw [e,HEE.out];exact HQ.out
             . exact HTS.out t ht e)),hkx.tr hkq⟩
            case measure=>simp [intOf];omega
        . have e:j=k:=by omega
          subst e
          have HY:Hid (rwedB N j=true):=by
           show rwedB N j=true
           rw [HRB.out,decide_eq_true HA.out.1.1,decide_eq_true HA.out.1.2.1,decide_eq_true HA.out.1.2.2,HA.out.2.1,HOY.out,allB_iff.2 HT.out];rfl
          go_wp2;go_roundw
          case rel=>exact ⟨j + 1,by omega,by go_num,(fun t ht=>(by
           by_cases e:t=j
           . rw [e];exact HY.out
           . exact HJ.out t (by omega))),KX.out.tr hkx⟩
          case measure=>simp [intOf];omega
  . have e:k=N.weds.length:=by omega
    subst e;have HE:Hid (rwedsB N=true):=by show rwedsB N=true;unfold rwedsB;rw [decide_eq_true (by omega),allB_iff.2 HJ.out];rfl
    go_wp2;go_ret;exact ⟨by rw [HE.out];rfl,HK.out.tr hkr⟩
def TwL (w:World) (S:St) (e:Ending) (w':World):Prop:=∃ X:Sa,e=.returned (siteV X S) /\ (∀ w'',Ltr (w.heap.size + 1 + 1 + 1) w' w'' -> Sat w'' X S) /\ Kept w w' none
theorem crow (w:World) (c:Array Value) (hc:c.size=12):(w.alloc (.cells c 49)).rowIs w.heap.size 49 12 (fS c):=by
 have:=World.rowIs_alloc w c 49 (fS c) (fun i hi=>by unfold fS;rw [Array.getElem?_eq_getElem hi];rfl);rw [hc] at this;exact this
theorem tst_start (w:World) (c:Array Value) (hc:c.size=12):Tst w (((w.alloc (.cells c 49)).alloc (.cells zS 49)).alloc (.cells c 49)) c c:=by
 have k1:Kept w (w.alloc (.cells c 49)) none:=Kept.alloc _ _ _ (0,0) _;have k2:Kept (w.alloc (.cells c 49)) ((w.alloc (.cells c 49)).alloc (.cells zS 49)) none:=Kept.alloc _ _ _ (0,0) _;have k3:Kept ((w.alloc (.cells c 49)).alloc (.cells zS 49)) (((w.alloc (.cells c 49)).alloc (.cells zS 49)).alloc (.cells c 49)) none:=Kept.alloc _ _ _ (0,0) _;have r1:=crow w c hc;have r2:=crow (w.alloc (.cells c 49)) zS rfl;have r3:=crow ((w.alloc (.cells c 49)).alloc (.cells zS 49)) c hc;rw [show (w.alloc (.cells c 49)).heap.size=w.heap.size + 1 by simp] at r2;rw [show ((w.alloc (.cells c 49)).alloc (.cells zS 49)).heap.size=w.heap.size + 1 + 1 by simp] at r3;exact ⟨(k1.tr k2).tr k3,row_kept (row_kept r1 k2 (by simp)) k3 (by simp),row_kept r2 k3 (by simp),r3⟩
theorem twin_new {X:Sa} {S:St} {w:World} (h:Sat w X S) (hg:S.groups.length <= 60) (ha:S.apart.length <= 60) (hb:S.between.length <= 40) (hp:S.phases.length <= 60) (he:S.eyes.length <= 60) (hl:S.plans.length <= 40) (hbr:∀ i,i < S.between.length -> (S.between.getD i []).length <= 60) (hlr:∀ i,i < S.plans.length -> (S.plans.getD i q0).splits.length <= 40):Calls Tryz.prog 12 #[siteV X S] w fun e w'=>TwL w S e w':=by
 obtain ⟨xg,xgc,xa,xac,xb,xbc,xp,xpc,xe,xec,xl,xlc⟩:=X;have T0:Hid (Tst w (((w.alloc (.cells (cx9 xg xgc xa xac xb xbc xp xpc xe xec xl xlc S) 49)).alloc (.cells zS 49)).alloc (.cells (cx9 xg xgc xa xac xb xbc xp xpc xe xec xl xlc S) 49)) (cx9 xg xgc xa xac xb xbc xp xpc xe xec xl xlc S) (cx9 xg xgc xa xac xb xbc xp xpc xe xec xl xlc S)):=tst_start w (cx9 xg xgc xa xac xb xbc xp xpc xe xec xl xlc S) rfl;have HS:=Hid.mk' h;have HBR:=Hid.mk' hbr;have HLR:=Hid.mk' hlr;clear h hbr hlr;have c1:((((w.alloc (.cells (cx9 xg xgc xa xac xb xbc xp xpc xe xec xl xlc S) 49)).alloc (.cells zS 49)).alloc (.cells (cx9 xg xgc xa xac xb xbc xp xpc xe xec xl xlc S) 49))).cell? ⟨w.heap.size,1,none⟩=some (.slice xg S.groups.length xgc):=T0.out.sb.cell (i:=1) (by omega);obtain ⟨i0,hi0,hz0,hz1,hz2⟩:=info_parts Tryz.infoGr;obtain ⟨ng,ngc,y0,hrun,g1,g2,g3,g4⟩:=twin_run (w:=(((w.alloc (.cells (cx9 xg xgc xa xac xb xbc xp xpc xe xec xl xlc S) 49)).alloc (.cells zS 49)).alloc (.cells (cx9 xg xgc xa xac xb xbc xp xpc xe xec xl xlc S) 49))) (ty:=42) Tryz.uGrs hi0 hz0 hz1 hz2 rfl (by omega) (by omega) ((HS.out.kept T0.out.kept).g) (HS.out.gk) (by omega) (fun i j=>(by unfold grV;split <;> rfl));have HR0:=Hid.mk' hrun;have U0:=Hid.mk' (T0.out.call g4);have k0:y0.cell? ⟨w.heap.size + 1 + 1,1,none⟩=some (.slice xg S.groups.length xgc):=U0.out.tb.cell (i:=1) (by omega);have z0:y0.frozen? ⟨w.heap.size + 1 + 1,1,none⟩=false:=U0.out.tb.frozen 1;have Lg:Hid (Nl w y0 ng _ 3 _):=⟨g1,fun b e=>⟨(by have:=(g3 b e).1;have:=T0.out.tb.lt;omega),(g3 b e).2⟩⟩;have Gg:=Hid.mk' g2;clear hrun g1 g2 g3 g4 hi0 hz0 hz1 hz2 i0;go_enter Tryz.func12,Tryz.ntmps12
 go_wp2_with (first
  | (have hgo:=HR1;clear hgo;at_builtin;refine wpList_app (by rfl) _ _ _ (by rfl) (by rfl) (by rfl) HR1.out ?_;clear HR1;have T2:Hid (Tst w (y1.setCell ⟨w.heap.size + 1 + 1,2,none⟩ (.slice na S.apart.length nac)) (cx9 xg xgc xa xac xb xbc xp xpc xe xec xl xlc S) (cx9 ng ngc na nac xb xbc xp xpc xe xec xl xlc S)):=U1.out.put 2 _ (by simp);have Lg:=Hid.mk' (Lg.out.put 2 (.slice na S.apart.length nac));have La:=Hid.mk' (La.out.put 2 (.slice na S.apart.length nac));clear U1;have k3:(y1.setCell ⟨w.heap.size + 1 + 1,2,none⟩ (.slice na S.apart.length nac)).cell? ⟨w.heap.size + 1 + 1,3,none⟩=some (.slice xb S.between.length xbc):=T2.out.tb.cell (i:=3) (by omega);have z3:(y1.setCell ⟨w.heap.size + 1 + 1,2,none⟩ (.slice na S.apart.length nac)).frozen? ⟨w.heap.size + 1 + 1,3,none⟩=false:=T2.out.tb.frozen 3)
  | (have hgo:=HR0;clear hgo;at_builtin;refine wpList_app (by rfl) _ _ _ (by rfl) (by rfl) (by rfl) HR0.out ?_;clear HR0;have T1:Hid (Tst w (y0.setCell ⟨w.heap.size + 1 + 1,1,none⟩ (.slice ng S.groups.length ngc)) (cx9 xg xgc xa xac xb xbc xp xpc xe xec xl xlc S) (cx9 ng ngc xa xac xb xbc xp xpc xe xec xl xlc S)):=U0.out.put 1 _ (by simp);have Lg:=Hid.mk' (Lg.out.put 1 (.slice ng S.groups.length ngc));clear U0;have c2:(y0.setCell ⟨w.heap.size + 1 + 1,1,none⟩ (.slice ng S.groups.length ngc)).cell? ⟨w.heap.size,2,none⟩=some (.slice xa S.apart.length xac):=T1.out.sb.cell (i:=2) (by omega);obtain ⟨i0,hi0,hz0,hz1,hz2⟩:=info_parts Tryz.infoU3;obtain ⟨na,nac,y1,hrun,g1,g2,g3,g4⟩:=twin_run (w:=y0.setCell ⟨w.heap.size + 1 + 1,1,none⟩ (.slice ng S.groups.length ngc)) (ty:=43) Tryz.uU3s hi0 hz0 hz1 hz2 rfl (by omega) (by omega) ((HS.out.kept T1.out.kept).a) (HS.out.ak) (by omega) (fun i j=>rfl);have HR1:=Hid.mk' hrun;have U1:=Hid.mk' (T1.out.call g4);have k1:y1.cell? ⟨w.heap.size + 1 + 1,2,none⟩=some (.slice xa S.apart.length xac):=U1.out.tb.cell (i:=2) (by omega);have z1:y1.frozen? ⟨w.heap.size + 1 + 1,2,none⟩=false:=U1.out.tb.frozen 2;have La:Hid (Nl w y1 na _ 1 _):=⟨g1,fun b e=>⟨(by have:=(g3 b e).1;have:=T1.out.tb.lt;omega),(g3 b e).2⟩⟩;have Ga:=Hid.mk' g2;have Lg:=Hid.mk' (Lg.out.kept0 g4);clear hrun g1 g2 g3 g4 hi0 hz0 hz1 hz2 i0))
 have T3:Hid (Tst w ((y1.setCell ⟨w.heap.size + 1 + 1,2,none⟩ (.slice na S.apart.length nac)).setCell ⟨w.heap.size + 1 + 1,3,none⟩ (.slice none 0 0)) (cx9 xg xgc xa xac xb xbc xp xpc xe xec xl xlc S) #[.int .i64 S.id,.slice ng S.groups.length ngc,.slice na S.apart.length nac,.slice none 0 0,.slice xp S.phases.length xpc,.slice xe S.eyes.length xec,.int .i64 S.watch,.int .i64 S.feed,.int .i64 S.heal,.int .i64 S.low,.int .i64 S.high,.slice xl S.plans.length xlc]):=T2.out.put 3 _ (by simp);have Lg:Hid (Nl w ((y1.setCell ⟨w.heap.size + 1 + 1,2,none⟩ (.slice na S.apart.length nac)).setCell ⟨w.heap.size + 1 + 1,3,none⟩ (.slice none 0 0)) ng S.groups.length 3 (fun i j=>grV (S.gr i) j)):=Lg.out.put 3 (.slice none 0 0);have La:Hid (Nl w ((y1.setCell ⟨w.heap.size + 1 + 1,2,none⟩ (.slice na S.apart.length nac)).setCell ⟨w.heap.size + 1 + 1,3,none⟩ (.slice none 0 0)) na S.apart.length 1 (fun i _=>.int .u32 (S.ap i:Int))):=La.out.put 3 (.slice none 0 0);clear k3 z3 T2 T1 T0;generalize ((y1.setCell ⟨w.heap.size + 1 + 1,2,none⟩ (.slice na S.apart.length nac)).setCell ⟨w.heap.size + 1 + 1,3,none⟩ (.slice none 0 0))=x3 at *;go_loopw [4] (fun i wr=>∃ (k:Nat) (v:Value),k <= S.between.length /\ i=.int .i64 k /\ Hid (Tst w wr (cx9 xg xgc xa xac xb xbc xp xpc xe xec xl xlc S) #[.int .i64 S.id,.slice ng S.groups.length ngc,.slice na S.apart.length nac,v,.slice xp S.phases.length xpc,.slice xe S.eyes.length xec,.int .i64 S.watch,.int .i64 S.feed,.int .i64 S.heal,.int .i64 S.low,.int .i64 S.high,.slice xl S.plans.length xlc]) /\ Hid (Tg w wr S.between k v) /\ Hid (Nl w wr ng S.groups.length 3 (fun i j=>grV (S.gr i) j)) /\ Hid (Nl w wr na S.apart.length 1 (fun i _=>.int .u32 (S.ap i:Int))) /\ Hid (∀ b,(ng=some b \/ na=some b) -> v.ownBlock ≠ some b.block)) (fun i _=>S.between.length - (intOf i).toNat)
 case atStart=>exact ⟨0,.slice none 0 0,Nat.zero_le _,rfl,T3,Tg.start _ _ _,Lg,La,(fun b _ e=>nomatch e)⟩
 case round =>
  clear Lg La T3;obtain ⟨k,v,hk,rfl,T3,HG,Lg,La,HD⟩:=hrel;have c3:wr.cell? ⟨w.heap.size,3,none⟩=some (.slice xb S.between.length xbc):=T3.out.sb.cell (i:=3) (by omega);by_cases hlt:k < S.between.length
  . obtain ⟨bb,ob,ar,cr,eb,kb,hI⟩:=(HS.out.kept T3.out.kept).b.at_ hlt;dsimp only at eb;subst eb;have hm:=HBR.out k hlt;have Td:=Hid.mk' T3.out.drew;obtain ⟨i0,hi0,hz0,hz1,hz2⟩:=info_parts Tryz.infoIn;obtain ⟨a',cap,y,hrun,h1,h2,h3,h4⟩:=twin_run (w:=wr.drew) (ty:=50) Tryz.uIns hi0 hz0 hz1 hz2 rfl (by omega) (by omega) (hI.kept (Kept.drew wr none)).lie hI.cap (by omega) (fun i j=>rfl);have hJ:Ints y a' (S.between.getD k []).length cap (S.between.getD k []):=⟨h1,rfl,h2,hI.rng⟩;have hlw:w.heap.size + 1 + 1 < wr.drew.heap.size:=Td.out.tb.lt;obtain ⟨v',W5,hrun2,hG5,hk5,hv5⟩:=(HG.out.kept0 (Kept.drew wr none)).step (by omega) hlw h4 hJ h3;obtain ⟨a5,c5,rfl⟩:=hG5.shape;have hk4:Kept y (y.alloc (slB a' (S.between.getD k []).length cap)) none:=Kept.alloc _ _ _ (0,0) _;obtain ⟨rr,hown,_⟩:=HG.out.ex;have hol:∀ g,v.ownBlock=some g -> w.heap.size + 1 + 1 < g:=fun g e=>by have:=(own_lt hown g e).1;omega
    have Ty:=Hid.mk' (Td.out.call h4);have Tz:=Hid.mk' (Ty.out.call hk4);have T5:=Hid.mk' (Tz.out.grow hk5 hol);have hs4:=h4.size
    have hLb:∀ b,(ng=some b \/ na=some b) -> b.block < wr.drew.heap.size:=fun b e=>by
     rcases e with e | e
     . exact (Lg.out.new b e).2
     . exact (La.out.new b e).2
    have hNg:∀ b,ng=some b -> ∀ g,v.ownBlock=some g -> b.block ≠ g:=fun b e g eg eb=>HD.out b (.inl e) (by rw [eg,eb])
    have hNa:∀ b,na=some b -> ∀ g,v.ownBlock=some g -> b.block ≠ g:=fun b e g eg eb=>HD.out b (.inr e) (by rw [eg,eb])
    have Lg5:Hid (Nl w W5 ng S.groups.length 3 (fun i j=>grV (S.gr i) j)):=(((Lg.out.kept0 (Kept.drew wr none)).kept0 h4).kept0 hk4).kept hk5 (fun g e=>.inr (fun b eb=>hNg b eb g e));have La5:Hid (Nl w W5 na S.apart.length 1 (fun i _=>.int .u32 (S.ap i:Int))):=(((La.out.kept0 (Kept.drew wr none)).kept0 h4).kept0 hk4).kept hk5 (fun g e=>.inr (fun b eb=>hNa b eb g e))
    have HD5:Hid (∀ b,(ng=some b \/ na=some b) -> (Value.slice a5 (k + 1) c5).ownBlock ≠ some b.block):=fun b e ec=>by
     rcases hv5 with q | q
     . exact HD.out b e (q ▸ ec)
     . rw [q] at ec;injection ec with ec;have:=hLb b e;omega
    have HG5:=Hid.mk' hG5;have HR1:=Hid.mk' hrun;have HR2:=Hid.mk' hrun2;have d3:wr.drew.cell? ⟨w.heap.size,3,none⟩=some (.slice (some ⟨bb,ob,none⟩) S.between.length xbc):=Td.out.sb.cell (i:=3) (by omega);have e3:y.cell? ⟨w.heap.size,3,none⟩=some (.slice (some ⟨bb,ob,none⟩) S.between.length xbc):=Ty.out.sb.cell (i:=3) (by omega);have f3:(y.alloc (slB a' (S.between.getD k []).length cap)).cell? ⟨w.heap.size,3,none⟩=some (.slice (some ⟨bb,ob,none⟩) S.between.length xbc):=Tz.out.sb.cell (i:=3) (by omega);have g3:W5.cell? ⟨w.heap.size,3,none⟩=some (.slice (some ⟨bb,ob,none⟩) S.between.length xbc):=T5.out.sb.cell (i:=3) (by omega);have kd:wr.drew.cell? ⟨bb,ob + k,none⟩=some (.slice ar (S.between.getD k []).length cr):=cell_kept0 kb (Kept.drew wr none);have ky:=cell_kept0 kd h4;have kz:=cell_kept0 ky hk4
    have hbs:bb < w.heap.size:=by
     obtain ⟨b1,o1,_,_,e1,kb1,_⟩:=HS.out.b.at_ hlt;dsimp only at e1;injection e1 with e1;injection e1 with e1 e2
     subst e1;exact block_lt kb1
    have k5:W5.cell? ⟨bb,ob + k,none⟩=some (.slice ar (S.between.getD k []).length cr):=cell_keptR kz hk5 (fun e=>by have:=hol _ e.symm;omega);have t0:wr.drew.cell? ⟨w.heap.size + 1 + 1,3,none⟩=some v:=Td.out.tb.cell (i:=3) (by omega);have t1:y.cell? ⟨w.heap.size + 1 + 1,3,none⟩=some v:=Ty.out.tb.cell (i:=3) (by omega);have t2:(y.alloc (slB a' (S.between.getD k []).length cap)).cell? ⟨w.heap.size + 1 + 1,3,none⟩=some v:=Tz.out.tb.cell (i:=3) (by omega);have t5:W5.cell? ⟨w.heap.size + 1 + 1,3,none⟩=some v:=T5.out.tb.cell (i:=3) (by omega);have z5:W5.frozen? ⟨w.heap.size + 1 + 1,3,none⟩=false:=T5.out.tb.frozen 3;have T6:Hid (Tst w (W5.setCell ⟨w.heap.size + 1 + 1,3,none⟩ (.slice a5 (k + 1) c5)) (cx9 xg xgc xa xac (some ⟨bb,ob,none⟩) xbc xp xpc xe xec xl xlc S) #[.int .i64 S.id,.slice ng S.groups.length ngc,.slice na S.apart.length nac,.slice a5 (k + 1) c5,.slice xp S.phases.length xpc,.slice xe S.eyes.length xec,.int .i64 S.watch,.int .i64 S.feed,.int .i64 S.heal,.int .i64 S.low,.int .i64 S.high,.slice xl S.plans.length xlc]):=T5.out.put 3 _ (by simp);have HG6:Hid (Tg w (W5.setCell ⟨w.heap.size + 1 + 1,3,none⟩ (.slice a5 (k + 1) c5)) S.between (k + 1) (.slice a5 (k + 1) c5)):=HG5.out.kept (kept_set _ _ _ _) (fun g e=>by injection e with e;exact e.symm);have Lg6:=Hid.mk' (Lg5.out.put 3 (.slice a5 (k + 1) c5));have La6:=Hid.mk' (La5.out.put 3 (.slice a5 (k + 1) c5));clear hI h1 h2 h3 hJ hrun hrun2 hG5 hk5 hv5 hown hol hLb hNg hNa hi0 hz0 hz1 hz2 i0 Td Ty Tz T5 h4 hk4;generalize S.between.getD k []=row at *;go_wp2;refine Code.wp_mono (Q:=Rw ?A1 (W5.setCell ⟨w.heap.size + 1 + 1,3,none⟩ (.slice a5 (k + 1) c5))) ?cont1 ?reg1
    case reg1 =>
     repeat (rename_i hh;clear hh)
     refine wp_region_held_drew (S:=fun w'=>w'.cell? ⟨w.heap.size,3,none⟩=some (.slice (some ⟨bb,ob,none⟩) S.between.length xbc) /\ w'.cell? ⟨bb,ob + k,none⟩=some (.slice ar row.length cr)) (by kernel_rfl) ⟨d3,kd⟩ (fun kH=>?_);refine htI 0 ?_ rfl (by kernel_rfl) id ?_ kH <| htI 2 ?_ rfl (by kernel_rfl) id ?_ kH <| htI 3 ?_ rfl (by kernel_rfl) id ?_ kH <| htI 4 ?_ rfl (by kernel_rfl) id ?_ kH <| htI 5 ?_ rfl (by kernel_rfl) id ?_ kH <| htI 6 ?_ rfl (by kernel_rfl) id ?_ kH ?_
     all_goals try (intro w h;(try simp only [st3] at h ⊢);go_simp <;> with_reducible rfl)
     (try simp only [st3]);refine wpAnyH_ready (rs:=[1,7]) (by kernel_rfl) (by simp) ?_;refine AllReadyH.cons rfl (fun K hK=>?b1) (AllReadyH.cons rfl (fun K hK=>?b7) AllReadyH.nil)
     case b1 =>
      go_simp;refine hK.out _ _ ⟨d3,kd⟩ (fun kH=>?_);clear hK K;refine rdy 7 (by kernel_rfl) rfl (fun K hK=>?_);rw [if_pos (by rfl)];refine wp_app _ _ _ (by rfl) (by rfl) (by rfl) HR1.out ?_;try simp only [Act.put,st3]
      refine hK.out _ _ ⟨e3,ky⟩ (fun kH=>?_);clear hK K;refine rdy 8 (by kernel_rfl) rfl (fun K hK=>?_);go_simp;refine hK.out _ _ ⟨f3,kz⟩ (fun kH=>?_);clear hK K;refine rdy 9 (by kernel_rfl) rfl (fun K hK=>?_);rw [if_pos (by rfl)];refine wp_app _ _ _ (by rfl) (by rfl) (by rfl) HR2.out ?_;try simp only [Act.put,st3]
      refine hK.out _ _ ⟨g3,k5⟩ (fun kH=>?_);clear hK K;refine htI 10 ?_ rfl (by kernel_rfl) id ?_ kH ?_
      all_goals try (intro w h;(try simp only [st3] at h ⊢);go_simp <;> with_reducible rfl)
      (try simp only [st3]);refine rdy 11 (by kernel_rfl) rfl (fun K hK=>?_);go_simp;refine hK.out _ _ ⟨T6.out.sb.cell (i:=3) (by omega),cell_keptR k5 (kept_set _ _ _ _) (fun e=>by injection e with e;omega)⟩ (fun kH=>?_);clear hK K;refine wpAnyH_done (by kernel_rfl) ?_ _;refine And.intro ?_ rfl;with_reducible rfl
     case b7 =>
      rw [if_pos (by rfl)];refine wp_app _ _ _ (by rfl) (by rfl) (by rfl) HR1.out ?_;try simp only [Act.put,st3]
      refine hK.out _ _ ⟨e3,ky⟩ (fun kH=>?_);clear hK K;refine wpAnyH_ready (rs:=[1,8]) (by kernel_rfl) (by simp) ?_;refine AllReadyH.cons rfl (fun K hK=>?c1) (AllReadyH.cons rfl (fun K hK=>?c8) AllReadyH.nil)
      case c1 =>
       go_simp;refine hK.out _ _ ⟨e3,ky⟩ (fun kH=>?_);clear hK K;refine rdy 8 (by kernel_rfl) rfl (fun K hK=>?_);go_simp;refine hK.out _ _ ⟨f3,kz⟩ (fun kH=>?_);clear hK K;refine rdy 9 (by kernel_rfl) rfl (fun K hK=>?_);rw [if_pos (by rfl)];refine wp_app _ _ _ (by rfl) (by rfl) (by rfl) HR2.out ?_;try simp only [Act.put,st3]
       refine hK.out _ _ ⟨g3,k5⟩ (fun kH=>?_);clear hK K;refine htI 10 ?_ rfl (by kernel_rfl) id ?_ kH ?_
       all_goals try (intro w h;(try simp only [st3] at h ⊢);go_simp <;> with_reducible rfl)
       (try simp only [st3]);refine rdy 11 (by kernel_rfl) rfl (fun K hK=>?_);go_simp;refine hK.out _ _ ⟨T6.out.sb.cell (i:=3) (by omega),cell_keptR k5 (kept_set _ _ _ _) (fun e=>by injection e with e;omega)⟩ (fun kH=>?_);clear hK K;refine wpAnyH_done (by kernel_rfl) ?_ _;refine And.intro ?_ rfl;with_reducible rfl
      case c8 =>
       go_simp;refine hK.out _ _ ⟨f3,kz⟩ (fun kH=>?_);clear hK K;refine rdy 1 (by kernel_rfl) rfl (fun K hK=>?_);go_simp;refine hK.out _ _ ⟨f3,kz⟩ (fun kH=>?_);clear hK K;refine rdy 9 (by kernel_rfl) rfl (fun K hK=>?_);rw [if_pos (by rfl)];refine wp_app _ _ _ (by rfl) (by rfl) (by rfl) HR2.out ?_;try simp only [Act.put,st3]
       refine hK.out _ _ ⟨g3,k5⟩ (fun kH=>?_);clear hK K;refine htI 10 ?_ rfl (by kernel_rfl) id ?_ kH ?_
       all_goals try (intro w h;(try simp only [st3] at h ⊢);go_simp <;> with_reducible rfl)
       (try simp only [st3]);refine rdy 11 (by kernel_rfl) rfl (fun K hK=>?_);go_simp;refine hK.out _ _ ⟨T6.out.sb.cell (i:=3) (by omega),cell_keptR k5 (kept_set _ _ _ _) (fun e=>by injection e with e;omega)⟩ (fun kH=>?_);clear hK K;refine wpAnyH_done (by kernel_rfl) ?_ _;refine And.intro ?_ rfl;with_reducible rfl
    case cont1 =>
    intro e a'' w' hq;obtain ⟨rfl,rfl,rfl⟩:=hq.out;clear hq;clear d3 e3 f3 g3 kd ky kz k5 t0 t1 t2 t5 z5;go_wp2;go_roundw
    case rel=>exact ⟨k + 1,.slice a5 (k + 1) c5,by omega,by go_num,T6,HG6,Lg6,La6,HD5⟩
    case measure=>simp [intOf];omega
  . have e:k=S.between.length:=by omega
    subst e;obtain ⟨nb,nbc,rfl⟩:=HG.out.shape;clear HD;have c4:(wr).cell? ⟨w.heap.size,4,none⟩=some (.slice xp S.phases.length xpc):=T3.out.sb.cell (i:=4) (by omega);obtain ⟨i0,hi0,hz0,hz1,hz2⟩:=info_parts Tryz.infoPh;obtain ⟨np,npc,y3,hrun,g1,g2,g3,g4⟩:=twin_run (w:=wr) (ty:=45) Tryz.uPhs hi0 hz0 hz1 hz2 rfl (by omega) (by omega) ((HS.out.kept T3.out.kept).p) (HS.out.pk) (by omega) (fun i j=>(by unfold phV;split <;> rfl));have HR3:=Hid.mk' hrun;have U3:=Hid.mk' (T3.out.call g4);have k3:y3.cell? ⟨w.heap.size + 1 + 1,4,none⟩=some (.slice xp S.phases.length xpc):=U3.out.tb.cell (i:=4) (by omega);have z3:y3.frozen? ⟨w.heap.size + 1 + 1,4,none⟩=false:=U3.out.tb.frozen 4;have Lp:Hid (Nl w y3 np _ 5 _):=⟨g1,fun b e=>⟨(by have:=(g3 b e).1;have:=T3.out.tb.lt;omega),(g3 b e).2⟩⟩;have Gp:=Hid.mk' g2;have Lg:=Hid.mk' (Lg.out.kept0 g4);have La:=Hid.mk' (La.out.kept0 g4);have HG:=Hid.mk' (HG.out.kept0 g4);clear hrun g1 g2 g3 g4 hi0 hz0 hz1 hz2 i0
    go_wp2_with (first
     | (have hgo:=HC11;clear hgo;go_at_call 31;refine (twinPlans_any (w:=y4.setCell ⟨w.heap.size + 1 + 1,5,none⟩ (.slice ne S.eyes.length nec)) (HS.out.kept T5.out.kept).l hl HLR.out).mono ?_;rintro e y5 ⟨nl,nlc,rfl,hPl,hkl⟩;have HPL:=Hid.mk' hPl;have U5:=Hid.mk' (T5.out.call hkl);have Lg:=Hid.mk' (Lg.out.kept0 hkl);have La:=Hid.mk' (La.out.kept0 hkl);have HG:=Hid.mk' (HG.out.kept0 hkl);have Lp:=Hid.mk' (Lp.out.kept0 hkl);have Le:=Hid.mk' (Le.out.kept0 hkl);clear hPl;have k0:y5.cell? ⟨w.heap.size + 1 + 1,0,none⟩=some (.int .i64 S.id):=U5.out.tb.cell (i:=0) (by omega);have s0:y5.cell? ⟨w.heap.size + 1,0,none⟩=some (.int .i64 0):=U5.out.rb.cell (i:=0) (by omega);have u0:y5.frozen? ⟨w.heap.size + 1,0,none⟩=false:=U5.out.rb.frozen 0;have k1:y5.cell? ⟨w.heap.size + 1 + 1,1,none⟩=some (.slice ng S.groups.length ngc):=U5.out.tb.cell (i:=1) (by omega);have s1:y5.cell? ⟨w.heap.size + 1,1,none⟩=some (.slice none 0 0):=U5.out.rb.cell (i:=1) (by omega);have u1:y5.frozen? ⟨w.heap.size + 1,1,none⟩=false:=U5.out.rb.frozen 1;have k2:y5.cell? ⟨w.heap.size + 1 + 1,2,none⟩=some (.slice na S.apart.length nac):=U5.out.tb.cell (i:=2) (by omega);have s2:y5.cell? ⟨w.heap.size + 1,2,none⟩=some (.slice none 0 0):=U5.out.rb.cell (i:=2) (by omega);have u2:y5.frozen? ⟨w.heap.size + 1,2,none⟩=false:=U5.out.rb.frozen 2;have k3:y5.cell? ⟨w.heap.size + 1 + 1,3,none⟩=some (.slice nb S.between.length nbc):=U5.out.tb.cell (i:=3) (by omega);have s3:y5.cell? ⟨w.heap.size + 1,3,none⟩=some (.slice none 0 0):=U5.out.rb.cell (i:=3) (by omega);have u3:y5.frozen? ⟨w.heap.size + 1,3,none⟩=false:=U5.out.rb.frozen 3;have k4:y5.cell? ⟨w.heap.size + 1 + 1,4,none⟩=some (.slice np S.phases.length npc):=U5.out.tb.cell (i:=4) (by omega);have s4:y5.cell? ⟨w.heap.size + 1,4,none⟩=some (.slice none 0 0):=U5.out.rb.cell (i:=4) (by omega);have u4:y5.frozen? ⟨w.heap.size + 1,4,none⟩=false:=U5.out.rb.frozen 4;have k5:y5.cell? ⟨w.heap.size + 1 + 1,5,none⟩=some (.slice ne S.eyes.length nec):=U5.out.tb.cell (i:=5) (by omega);have s5:y5.cell? ⟨w.heap.size + 1,5,none⟩=some (.slice none 0 0):=U5.out.rb.cell (i:=5) (by omega);have u5:y5.frozen? ⟨w.heap.size + 1,5,none⟩=false:=U5.out.rb.frozen 5;have k6:y5.cell? ⟨w.heap.size + 1 + 1,6,none⟩=some (.int .i64 S.watch):=U5.out.tb.cell (i:=6) (by omega);have s6:y5.cell? ⟨w.heap.size + 1,6,none⟩=some (.int .i64 0):=U5.out.rb.cell (i:=6) (by omega);have u6:y5.frozen? ⟨w.heap.size + 1,6,none⟩=false:=U5.out.rb.frozen 6;have k7:y5.cell? ⟨w.heap.size + 1 + 1,7,none⟩=some (.int .i64 S.feed):=U5.out.tb.cell (i:=7) (by omega);have s7:y5.cell? ⟨w.heap.size + 1,7,none⟩=some (.int .i64 0):=U5.out.rb.cell (i:=7) (by omega);have u7:y5.frozen? ⟨w.heap.size + 1,7,none⟩=false:=U5.out.rb.frozen 7;have k8:y5.cell? ⟨w.heap.size + 1 + 1,8,none⟩=some (.int .i64 S.heal):=U5.out.tb.cell (i:=8) (by omega);have s8:y5.cell? ⟨w.heap.size + 1,8,none⟩=some (.int .i64 0):=U5.out.rb.cell (i:=8) (by omega);have u8:y5.frozen? ⟨w.heap.size + 1,8,none⟩=false:=U5.out.rb.frozen 8;have k9:y5.cell? ⟨w.heap.size + 1 + 1,9,none⟩=some (.int .i64 S.low):=U5.out.tb.cell (i:=9) (by omega);have s9:y5.cell? ⟨w.heap.size + 1,9,none⟩=some (.int .i64 0):=U5.out.rb.cell (i:=9) (by omega);have u9:y5.frozen? ⟨w.heap.size + 1,9,none⟩=false:=U5.out.rb.frozen 9;have k10:y5.cell? ⟨w.heap.size + 1 + 1,10,none⟩=some (.int .i64 S.high):=U5.out.tb.cell (i:=10) (by omega);have s10:y5.cell? ⟨w.heap.size + 1,10,none⟩=some (.int .i64 0):=U5.out.rb.cell (i:=10) (by omega);have u10:y5.frozen? ⟨w.heap.size + 1,10,none⟩=false:=U5.out.rb.frozen 10;have k11:y5.cell? ⟨w.heap.size + 1 + 1,11,none⟩=some (.slice xl S.plans.length xlc):=U5.out.tb.cell (i:=11) (by omega);have s11:y5.cell? ⟨w.heap.size + 1,11,none⟩=some (.slice none 0 0):=U5.out.rb.cell (i:=11) (by omega);have u11:y5.frozen? ⟨w.heap.size + 1,11,none⟩=false:=U5.out.rb.frozen 11;have zz:y5.frozen? ⟨w.heap.size + 1 + 1,11,none⟩=false:=U5.out.tb.frozen 11)
     | (have hgo:=HR4;clear hgo;at_builtin;refine wpList_app (by rfl) _ _ _ (by rfl) (by rfl) (by rfl) HR4.out ?_;clear HR4;have T5:Hid (Tst w (y4.setCell ⟨w.heap.size + 1 + 1,5,none⟩ (.slice ne S.eyes.length nec)) (cx9 xg xgc xa xac xb xbc xp xpc xe xec xl xlc S) (cx9 ng ngc na nac nb nbc np npc ne nec xl xlc S)):=U4.out.put 5 _ (by simp);have Lg:=Hid.mk' (Lg.out.put 5 (.slice ne S.eyes.length nec));have La:=Hid.mk' (La.out.put 5 (.slice ne S.eyes.length nec));have HG:=Hid.mk' (HG.out.put 5 (.slice ne S.eyes.length nec));have Lp:=Hid.mk' (Lp.out.put 5 (.slice ne S.eyes.length nec));have Le:=Hid.mk' (Le.out.put 5 (.slice ne S.eyes.length nec));clear U4;have c11:(y4.setCell ⟨w.heap.size + 1 + 1,5,none⟩ (.slice ne S.eyes.length nec)).cell? ⟨w.heap.size,11,none⟩=some (.slice xl S.plans.length xlc):=T5.out.sb.cell (i:=11) (by omega);have HC11:=trivial)
     | (have hgo:=HR3;clear hgo;at_builtin;refine wpList_app (by rfl) _ _ _ (by rfl) (by rfl) (by rfl) HR3.out ?_;clear HR3;have T4:Hid (Tst w (y3.setCell ⟨w.heap.size + 1 + 1,4,none⟩ (.slice np S.phases.length npc)) (cx9 xg xgc xa xac xb xbc xp xpc xe xec xl xlc S) (cx9 ng ngc na nac nb nbc np npc xe xec xl xlc S)):=U3.out.put 4 _ (by simp);have Lg:=Hid.mk' (Lg.out.put 4 (.slice np S.phases.length npc));have La:=Hid.mk' (La.out.put 4 (.slice np S.phases.length npc));have HG:=Hid.mk' (HG.out.put 4 (.slice np S.phases.length npc));have Lp:=Hid.mk' (Lp.out.put 4 (.slice np S.phases.length npc));clear U3;have c5:(y3.setCell ⟨w.heap.size + 1 + 1,4,none⟩ (.slice np S.phases.length npc)).cell? ⟨w.heap.size,5,none⟩=some (.slice xe S.eyes.length xec):=T4.out.sb.cell (i:=5) (by omega);obtain ⟨i0,hi0,hz0,hz1,hz2⟩:=info_parts Tryz.infoEy;obtain ⟨ne,nec,y4,hrun,g1,g2,g3,g4⟩:=twin_run (w:=y3.setCell ⟨w.heap.size + 1 + 1,4,none⟩ (.slice np S.phases.length npc)) (ty:=46) Tryz.uEys hi0 hz0 hz1 hz2 rfl (by omega) (by omega) ((HS.out.kept T4.out.kept).e) (HS.out.ek) (by omega) (fun i j=>(by unfold eyV;split <;> rfl));have HR4:=Hid.mk' hrun;have U4:=Hid.mk' (T4.out.call g4);have k4:y4.cell? ⟨w.heap.size + 1 + 1,5,none⟩=some (.slice xe S.eyes.length xec):=U4.out.tb.cell (i:=5) (by omega);have z4:y4.frozen? ⟨w.heap.size + 1 + 1,5,none⟩=false:=U4.out.tb.frozen 5;have Le:Hid (Nl w y4 ne _ 4 _):=⟨g1,fun b e=>⟨(by have:=(g3 b e).1;have:=T4.out.tb.lt;omega),(g3 b e).2⟩⟩;have Ge:=Hid.mk' g2;have Lg:=Hid.mk' (Lg.out.kept0 g4);have La:=Hid.mk' (La.out.kept0 g4);have HG:=Hid.mk' (HG.out.kept0 g4);have Lp:=Hid.mk' (Lp.out.kept0 g4);clear hrun g1 g2 g3 g4 hi0 hz0 hz1 hz2 i0))
    have T6:Hid (Tst w (y5.setCell ⟨w.heap.size + 1 + 1,11,none⟩ (.slice nl S.plans.length nlc)) (cx9 xg xgc xa xac xb xbc xp xpc xe xec xl xlc S) (cx9 ng ngc na nac nb nbc np npc ne nec nl nlc S)):=U5.out.put 11 _ (by simp);have Lg:=Hid.mk' (Lg.out.put 11 (.slice nl S.plans.length nlc));have La:=Hid.mk' (La.out.put 11 (.slice nl S.plans.length nlc));have HG:=Hid.mk' (HG.out.put 11 (.slice nl S.plans.length nlc));have Lp:=Hid.mk' (Lp.out.put 11 (.slice nl S.plans.length nlc));have Le:=Hid.mk' (Le.out.put 11 (.slice nl S.plans.length nlc));have HQ:=Hid.mk' (row12 (lo:=w.heap.size + 1 + 1) T6.out.rb T6.out.kept (by omega) (by omega) (.int .i64 S.id) (.slice ng S.groups.length ngc) (.slice na S.apart.length nac) (.slice nb S.between.length nbc) (.slice np S.phases.length npc) (.slice ne S.eyes.length nec) (.int .i64 S.watch) (.int .i64 S.feed) (.int .i64 S.heal) (.int .i64 S.low) (.int .i64 S.high) (.slice nl S.plans.length nlc) _ rfl);have hz5:w.heap.size + 1 + 1 < (y4.setCell ⟨w.heap.size + 1 + 1,5,none⟩ (.slice ne S.eyes.length nec)).heap.size:=T5.out.tb.lt;have HL5:Hid (Ltr (y4.setCell ⟨w.heap.size + 1 + 1,5,none⟩ (.slice ne S.eyes.length nec)).heap.size y5 (y5.setCell ⟨w.heap.size + 1 + 1,11,none⟩ (.slice nl S.plans.length nlc))):=Ltr.set y5 (by omega) 11 _;have hz6:w.heap.size + 1 + 1 <= (y4.setCell ⟨w.heap.size + 1 + 1,5,none⟩ (.slice ne S.eyes.length nec)).heap.size:=by omega
    clear k0 s0 u0 k1 s1 u1 k2 s2 u2 k3 s3 u3 k4 s4 u4 k5 s5 u5 k6 s6 u6 k7 s7 u7 k8 s8 u8 k9 s9 u9 k10 s10 u10 k11 s11 u11 zz c11 c5 c4;generalize (((((((((((((y5.setCell ⟨w.heap.size + 1 + 1,11,none⟩ (.slice nl S.plans.length nlc)).setCell ⟨w.heap.size + 1,0,none⟩ (.int .i64 S.id)).setCell ⟨w.heap.size + 1,1,none⟩ (.slice ng S.groups.length ngc)).setCell ⟨w.heap.size + 1,2,none⟩ (.slice na S.apart.length nac)).setCell ⟨w.heap.size + 1,3,none⟩ (.slice nb S.between.length nbc)).setCell ⟨w.heap.size + 1,4,none⟩ (.slice np S.phases.length npc)).setCell ⟨w.heap.size + 1,5,none⟩ (.slice ne S.eyes.length nec)).setCell ⟨w.heap.size + 1,6,none⟩ (.int .i64 S.watch)).setCell ⟨w.heap.size + 1,7,none⟩ (.int .i64 S.feed)).setCell ⟨w.heap.size + 1,8,none⟩ (.int .i64 S.heal)).setCell ⟨w.heap.size + 1,9,none⟩ (.int .i64 S.low)).setCell ⟨w.heap.size + 1,10,none⟩ (.int .i64 S.high)).setCell ⟨w.heap.size + 1,11,none⟩ (.slice nl S.plans.length nlc))=WF at *;generalize (y5.setCell ⟨w.heap.size + 1 + 1,11,none⟩ (.slice nl S.plans.length nlc))=x6 at *;obtain ⟨hkF,hqF,q0,q1,q2,q3,q4,q5,q6,q7,q8,q9,q10,q11⟩:=HQ.out;refine bodyPost_ret (v:=.agg (cx9 ng ngc na nac nb nbc np npc ne nec nl nlc S)) (by simp [results,Tryz.results12,go_sem,q0,q1,q2,q3,q4,q5,q6,q7,q8,q9,q10,q11]) rfl ?_;clear q0 q1 q2 q3 q4 q5 q6 q7 q8 q9 q10 q11;have hqG:Ltr (w.heap.size + 1 + 1 + 1) x6 WF:=hqF.up (by omega);refine ⟨⟨ng,ngc,na,nac,nb,nbc,np,npc,ne,nec,nl,nlc⟩,rfl,fun w'' qq=>⟨Lg.out.ltr (hqG.tr qq),La.out.ltr (hqG.tr qq),HG.out.done rfl (hqG.tr qq),Lp.out.ltr (hqG.tr qq),Le.out.ltr (hqG.tr qq),HPL.out w'' (HL5.out.tr ((hqF.up hz6).tr (qq.up (by omega)))),Gg.out,Ga.out,Gp.out,Ge.out,HS.out.gr,HS.out.ar,HS.out.pr,HS.out.er,HS.out.nr⟩,hkF⟩
structure Far2 (w w':World) (B:Nat) (r:Option Nat):Prop where
 size:w.heap.size <= w'.heap.size
 block:∀ i,i < w.heap.size -> B < i -> some i ≠ r -> w'.heap[i]? = w.heap[i]?
theorem Far2.refl (w:World) (B:Nat) (r:Option Nat):Far2 w w B r:=⟨Nat.le_refl _,fun _ _ _ _=>rfl⟩
theorem Far2.kept {w w':World} (k:Kept w w' none) (B:Nat) (r:Option Nat):Far2 w w' B r:=⟨k.size,fun i hi _ _=>k.block i hi (by simp)⟩
theorem Far2.box {w w':World} {B R:Nat} (k:Kept w w' (some R)) (hR:R <= B) (r:Option Nat):Far2 w w' B r:=⟨k.size,fun i hi hb _=>k.block i hi (fun e=>by have:=Option.some.inj e;omega)⟩
theorem Far2.row {w w':World} {r:Option Nat} (k:Kept w w' r) (B:Nat):Far2 w w' B r:=⟨k.size,fun i hi _ hr=>k.block i hi hr⟩
theorem Far2.tr {a b c:World} {B:Nat} {r:Option Nat} (h:Far2 a b B r) (k:Far2 b c B r):Far2 a c B r:=⟨Nat.le_trans h.size k.size,fun i hi hb hr=>(k.block i (Nat.lt_of_lt_of_le hi h.size) hb hr).trans (h.block i hi hb hr)⟩
theorem Far2.weak {a b:World} {B:Nat} (h:Far2 a b B none) (r:Option Nat):Far2 a b B r:=⟨h.size,fun i hi hb _=>h.block i hi hb (by simp)⟩
theorem Far2.back {a b c:World} {B:Nat} {r r':Option Nat} (h:Far2 a b B r) (k:Far2 b c B r') (hr:∀ g,r'=some g -> r=some g \/ a.heap.size <= g):Far2 a c B r :=
 ⟨Nat.le_trans h.size k.size,fun i hi hb hi2=>(k.block i (Nat.lt_of_lt_of_le hi h.size) hb (fun e=>by
  rcases hr i e.symm with q | q
  . exact hi2 q.symm
  . omega)).trans (h.block i hi hb hi2)⟩
theorem Far2.lie {w w':World} {B:Nat} {r:Option Nat} {a:Option Addr} {n k:Nat} {f:Nat -> Nat -> Value} (h:Lie w a n k f) (q:Far2 w w' B r) (hb:∀ x,a=some x -> B < x.block /\ some x.block ≠ r):Lie w' a n k f :=
 ⟨fun hp=>by
  obtain ⟨b,off,rfl,hl,hc⟩:=h.at_ hp;have h1:=hb _ rfl;exact ⟨b,off,rfl,Nat.lt_of_lt_of_le hl q.size,fun i hi j hj=>(World.cell?_of_block (w:=w) (a:=⟨b,off + i * k + j,none⟩) (q.block b hl h1.1 h1.2)).trans (hc i hi j hj)⟩⟩
theorem Far2.ints {w w':World} {B:Nat} {r:Option Nat} {a:Option Addr} {n c:Nat} {l:List Int} (h:Ints w a n c l) (q:Far2 w w' B r) (hb:∀ x,a=some x -> B < x.block /\ some x.block ≠ r):Ints w' a n c l:=⟨Far2.lie h.lie q hb,h.size,h.cap,h.rng⟩
structure Tl (wr:World) (base B:Nat) (e:TypeId) (K k:Nat) (v:Value) (f:Nat -> Nat -> Value) (P:Nat -> World -> Prop):Prop where
 own:wr.ownsRow base e K v k (cellsL k K f)
 ok:∀ i,i < k -> ∀ w'',Far2 wr w'' B v.ownBlock -> P i w''
theorem Tl.start (wr:World) (base B:Nat) (e:TypeId) (K:Nat) (f:Nat -> Nat -> Value) (P:Nat -> World -> Prop):Tl wr base B e K 0 (.slice none 0 0) f P:=⟨by
 have h0:cellsL 0 K f=[]:=by simp [cellsL]
 rw [h0];exact World.ownsRow_nil _ _ _ _,fun i hi=>by omega⟩
theorem Tl.kept {w w':World} {base B:Nat} {e:TypeId} {K k:Nat} {v:Value} {f:Nat -> Nat -> Value} {P:Nat -> World -> Prop} (h:Tl w base B e K k v f P) (q:Kept w w' none):Tl w' base B e K k v f P :=
 ⟨own_keptR' h.own q (fun g _=>by simp),fun i hi w'' r=>h.ok i hi w'' ((Far2.kept q _ _).tr r)⟩
theorem Tl.shape {w:World} {base B:Nat} {e:TypeId} {K k:Nat} {v:Value} {f:Nat -> Nat -> Value} {P:Nat -> World -> Prop} (h:Tl w base B e K k v f P) (hK:0 < K):∃ a c,v=.slice a k c:=by
 obtain ⟨a,c,e,_⟩:=lie_own hK h.own;exact ⟨a,c,e⟩
theorem Tl.step {wr W2:World} {base B:Nat} {t e:TypeId} {K k:Nat} {v:Value} {f:Nat -> Nat -> Value} {P:Nat -> World -> Prop} (T:Tl wr base B e K k v f P) {inf:TypeInfo} {z:Value} {bytes:Nat} (ht:Tryz.prog.underlying t=some (.slice e)) (hi:Tryz.prog.info? e=some inf) (hz:inf.zero=some z) (hsize:inf.size=K) (hby:inf.bytes=bytes) (hzs:z.cells.size=K) (hK:0 < K) (hbb:bytes <= 1000) (hk:k <= 1000) (hbase:base <= wr.heap.size) (hB:B < base)
 (h2:Kept wr W2 none) {cs:Array Value} {g:Nat -> Value} (hg:∀ j,j < K -> cs[j]? = some (g j)) (h1:∀ j,(g j).oneCell'=true) {Pk:World -> Prop} (hP:∀ w'',Far2 W2 w'' B v.ownBlock -> Pk w'') :
 ∃ a' c' W5,(Builtin.append_ #[t,t] t #[v,.slice (some ⟨W2.heap.size,0,none⟩) 1 1]).run Tryz.prog (W2.alloc (.cells cs e))=.ok (.slice a' (k + 1:Nat) c') W5 /\
  (∀ j0,Tl (W5.setCell ⟨B,j0,none⟩ (.slice a' (k + 1:Nat) c')) base B e K (k + 1) (.slice a' (k + 1:Nat) c') (fun i j=>if i=k then g j else f i j) (fun i w=>if i=k then Pk w else P i w)) /\
  Kept W2 W5 v.ownBlock /\ (∀ r,(Value.slice a' (k + 1:Nat) c').ownBlock=some r -> v.ownBlock=some r \/ W2.heap.size <= r):=by
 have hk4:Kept W2 (W2.alloc (.cells cs e)) none:=Kept.alloc _ _ _ _ _;have own4:(W2.alloc (.cells cs e)).ownsRow base e K v k (cellsL k K f):=own_keptR' (own_keptR' T.own h2 (fun g _=>by simp)) hk4 (fun g _=>by simp)
 have hc:∀ j,j < K -> (W2.alloc (.cells cs e)).cell? ⟨W2.heap.size,0 + j,none⟩=some (g j):=fun j hj=>by
  rw [Nat.zero_add];exact alloc_at2 _ _ _ rfl (hg j hj)
 have hz4:(W2.alloc (.cells cs e)).heap.size=W2.heap.size + 1:=by simp
 have hs2:=h2.size;obtain ⟨v',W5,hr,g1,g2,g3⟩:=grow_run (t:=t) (ty:=t) (c:=1) ht hi hz hsize hby hzs hK hbb own4 hc h1 hk (by omega);obtain ⟨a',c',rfl,_⟩:=lie_own hK g1;rw [hz4] at g3;have hk5:Kept (W2.alloc (.cells cs e)) W5 v.ownBlock:=g2;have hk25:Kept W2 W5 v.ownBlock:=⟨hk5.os.trans hk4.os,hk5.tape.trans hk4.tape,hk5.output.trans hk4.output,Nat.le_trans hk4.size hk5.size,fun i hi hne=>(hk5.block i (Nat.lt_of_lt_of_le hi hk4.size) hne).trans (hk4.block i hi (by simp))⟩
 have hob:∀ r,(Value.slice a' (k + 1:Nat) c').ownBlock=some r -> v.ownBlock=some r \/ W2.heap.size <= r:=fun r e=>by
  rcases g3 with q | q
  . exact .inl (q.symm.trans e)
  . rw [q] at e;injection e with e;exact .inr (by omega)
 refine ⟨a',c',W5,hr,fun j0=>⟨own_keptR' g1 (kept_set _ _ _ _) (fun g hg e=>by have:=(own_lt g1 g hg).1;injection e with e;omega),fun i hi w'' q=>?_⟩,hk25,hob⟩;have hq:Far2 W2 w'' B v.ownBlock:=(Far2.row hk25 B).back ((Far2.box (kept_set W5 B j0 _) (Nat.le_refl _) _).tr q) hob;by_cases e:i=k
 . show if i=k then Pk w'' else P i w''
   rw [if_pos e];exact hP w'' hq
 . show if i=k then Pk w'' else P i w''
   rw [if_neg e];exact T.ok i (by omega) w'' ((Far2.kept h2 _ _).tr hq)
theorem Tl.congr {w:World} {base B:Nat} {e:TypeId} {K k:Nat} {v:Value} {f f':Nat -> Nat -> Value} {P P':Nat -> World -> Prop} (h:Tl w base B e K k v f P) (hf:∀ i,i < k -> ∀ j,f i j=f' i j) (hp:∀ i,i < k -> ∀ w'',P i w'' -> P' i w'') (hK:0 < K):Tl w base B e K k v f' P':=by
 refine ⟨?_,fun i hi w'' q=>hp i hi w'' (h.ok i hi w'' q)⟩
 have e:cellsL k K f=cellsL k K f':=by
  unfold cellsL;refine List.map_congr_left fun q hq=>?_
  have h1:q / K < k:=by rw [Nat.div_lt_iff_lt_mul hK];exact List.mem_range.1 hq
  exact hf _ h1 _
 rw [<- e];exact h.own
theorem Tl.done {w w':World} {base B:Nat} {e:TypeId} {K k c:Nat} {a:Option Addr} {f:Nat -> Nat -> Value} {P:Nat -> World -> Prop} (h:Tl w base B e K k (.slice a k c) f P) (q:Far2 w w' B none) (hK:0 < K) (hB:B < base):Lie w' a k K f /\ Cap a k c /\ ∀ i,i < k -> P i w':=by
 obtain ⟨a',c',e,h1,h2,h3⟩:=lie_own hK h.own;injection e with e1 e2 e3;subst e1 e3;exact ⟨Far2.lie h1 q (fun x hx=>⟨by have:=(h3 x hx).1;omega,by simp⟩),h2,fun i hi=>h.ok i hi w' (q.weak _)⟩
abbrev zN:Array Value:=#[.slice none 0 0,.slice none 0 0,.slice none 0 0,.int .i64 0,.int .i64 0,.int .i64 0]
structure Tn (w W:World) (s c:Array Value):Prop where
 kept:Kept w W none
 sb:W.rowIs w.heap.size 26 6 (fS s)
 rb:W.rowIs (w.heap.size + 1) 26 6 (fS zN)
 tb:W.rowIs (w.heap.size + 1 + 1) 26 6 (fS c)
theorem Tn.call {w W W':World} {s c:Array Value} (h:Tn w W s c) (k:Kept W W' none):Tn w W' s c:=⟨h.kept.tr k,row_kept h.sb k (by simp),row_kept h.rb k (by simp),row_kept h.tb k (by simp)⟩
theorem Tn.grow {w W W':World} {s c:Array Value} {r:Option Nat} (h:Tn w W s c) (k:Kept W W' r) (hr:∀ g,r=some g -> w.heap.size + 1 + 1 < g):Tn w W' s c :=
 ⟨kept_row h.kept k (fun g e=>by have:=hr g e;omega),row_kept h.sb k (fun e=>by have:=hr _ e.symm;omega),row_kept h.rb k (fun e=>by have:=hr _ e.symm;omega),row_kept h.tb k (fun e=>by have:=hr _ e.symm;omega)⟩
theorem Tn.put {w W:World} {s c:Array Value} (h:Tn w W s c) (j:Nat) (v:Value) (hj:j < c.size):Tn w (W.setCell ⟨w.heap.size + 1 + 1,j,none⟩ v) s (c.setIfInBounds j v) :=
 ⟨kept_new h.kept (by omega) j v,h.sb.setOther (by show _ ≠ w.heap.size + 1 + 1;omega) v,h.rb.setOther (by show _ ≠ w.heap.size + 1 + 1;omega) v,(h.tb.set j v).congr (fun i _=>fS_set c j v hj i)⟩
theorem nrow (w:World) (c:Array Value) (hc:c.size=6):(w.alloc (.cells c 26)).rowIs w.heap.size 26 6 (fS c):=by
 have:=World.rowIs_alloc w c 26 (fS c) (fun i hi=>by unfold fS;rw [Array.getElem?_eq_getElem hi];rfl);rw [hc] at this;exact this
theorem tn_start (w:World) (s c:Array Value) (hs:s.size=6) (hc:c.size=6):Tn w (((w.alloc (.cells s 26)).alloc (.cells zN 26)).alloc (.cells c 26)) s c:=by
 have k1:Kept w (w.alloc (.cells s 26)) none:=Kept.alloc _ _ _ (0,0) _;have k2:Kept (w.alloc (.cells s 26)) ((w.alloc (.cells s 26)).alloc (.cells zN 26)) none:=Kept.alloc _ _ _ (0,0) _;have k3:Kept ((w.alloc (.cells s 26)).alloc (.cells zN 26)) (((w.alloc (.cells s 26)).alloc (.cells zN 26)).alloc (.cells c 26)) none:=Kept.alloc _ _ _ (0,0) _;have r1:=nrow w s hs;have r2:=nrow (w.alloc (.cells s 26)) zN rfl;have r3:=nrow ((w.alloc (.cells s 26)).alloc (.cells zN 26)) c hc;rw [show (w.alloc (.cells s 26)).heap.size=w.heap.size + 1 by simp] at r2;rw [show ((w.alloc (.cells s 26)).alloc (.cells zN 26)).heap.size=w.heap.size + 1 + 1 by simp] at r3;exact ⟨(k1.tr k2).tr k3,row_kept (row_kept r1 k2 (by simp)) k3 (by simp),row_kept r2 k3 (by simp),r3⟩
theorem set6Z (v0 v1 v2 v3 v4 v5:Value):((((((zN.setIfInBounds 0 v0).setIfInBounds 1 v1).setIfInBounds 2 v2).setIfInBounds 3 v3).setIfInBounds 4 v4).setIfInBounds 5 v5)=#[v0,v1,v2,v3,v4,v5]:=by simp only [zN,List.setIfInBounds_toArray,List.set_cons_zero,List.set_cons_succ]
theorem row6Z {w0 wx:World} {R:Nat} (h:wx.rowIs R 26 6 (fS zN)) (hk:Kept w0 wx none) (hR:w0.heap.size <= R) {B:Nat} (hRB:R <= B) (v0 v1 v2 v3 v4 v5:Value):let WF:=((((((wx.setCell ⟨R,0,none⟩ v0).setCell ⟨R,1,none⟩ v1).setCell ⟨R,2,none⟩ v2).setCell ⟨R,3,none⟩ v3).setCell ⟨R,4,none⟩ v4).setCell ⟨R,5,none⟩ v5);Kept w0 WF none /\ Far2 wx WF B none /\ WF.cell? ⟨R,0,none⟩=some v0 /\ WF.cell? ⟨R,1,none⟩=some v1 /\ WF.cell? ⟨R,2,none⟩=some v2 /\ WF.cell? ⟨R,3,none⟩=some v3 /\ WF.cell? ⟨R,4,none⟩=some v4 /\ WF.cell? ⟨R,5,none⟩=some v5:=by
 intro WF;have e:=((((((((((((h.set 0 v0).congr (fun i _=>fS_set _ 0 v0 (by simp [zN]) i)).set 1 v1).congr (fun i _=>fS_set _ 1 v1 (by simp [zN]) i)).set 2 v2).congr (fun i _=>fS_set _ 2 v2 (by simp [zN]) i)).set 3 v3).congr (fun i _=>fS_set _ 3 v3 (by simp [zN]) i)).set 4 v4).congr (fun i _=>fS_set _ 4 v4 (by simp [zN]) i)).set 5 v5).congr (fun i _=>fS_set _ 5 v5 (by simp [zN]) i));rw [set6Z] at e;exact ⟨kept_new (kept_new (kept_new (kept_new (kept_new (kept_new hk hR 0 v0) hR 1 v1) hR 2 v2) hR 3 v3) hR 4 v4) hR 5 v5,(((((Far2.box (kept_set _ _ 0 v0) hRB none).tr (Far2.box (kept_set _ _ 1 v1) hRB none)).tr (Far2.box (kept_set _ _ 2 v2) hRB none)).tr (Far2.box (kept_set _ _ 3 v3) hRB none)).tr (Far2.box (kept_set _ _ 4 v4) hRB none)).tr (Far2.box (kept_set _ _ 5 v5) hRB none),e.cell (i:=0) (by omega),e.cell (i:=1) (by omega),e.cell (i:=2) (by omega),e.cell (i:=3) (by omega),e.cell (i:=4) (by omega),e.cell (i:=5) (by omega)⟩
end Go.Proofs.YtakilpnbjihibaaGreatDoor
