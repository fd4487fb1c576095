import Derived.Test.YtakilpnbjihibaaGreatDoorP21
import Derived.Test.YtakilpnbjihibaaGreatDoorP22
import Derived.Test.YtakilpnbjihibaaGreatDoorP23
namespace Go.Proofs.YtakilpnbjihibaaGreatDoor
set_option linter.unusedVariables false
set_option linter.unusedSimpArgs false
set_option maxHeartbeats 4000000
set_option maxRecDepth 100000
open Go.RowKit Go.Lib Go.Deep
def NG (s:Rd) (most n k:Nat) (sp:List Int) (s':Rd):Prop:=∀ l0 T,l0.length <= most -> (∀ y ∈ l0,tickP y) -> s=(sml l0.length ++ (smlI l0 ++ T),false) -> n=l0.length /\ sp=l0.take k /\ s'=(smlI (l0.drop k) ++ T,false)
theorem NG.start {s s':Rd} {most n:Nat} (hm:most <= 1099511627776) (e:dnM most s=(n,s')):NG s most n 0 [] s':=by
 intro l0 T h1 h2 hs;rw [hs,dn_fwd (by omega) h1] at e;injection e with a1 a2;exact ⟨a1.symm,rfl,a2.symm⟩
theorem NG.step {s s' s2:Rd} {most n k y:Nat} {sp:List Int} (h:NG s most n k sp s') (hk:k < n) (e:dnM 1048576 s'=(y,s2)):NG s most n (k + 1) (sp ++ [(y:Int)]) s2:=by
 intro row T hl ht' hs;obtain ⟨h2,h3,h4⟩:=h row T hl ht' hs;have hkp:k < row.length:=by omega
 have ht:=ht' _ (List.getElem_mem hkp);unfold tickP at ht;have ed:row.drop k=row[k] :: row.drop (k + 1):=List.drop_eq_getElem_cons hkp;have e':smlI (row[k] :: row.drop (k + 1))=sml (row[k]).toNat ++ smlI (row.drop (k + 1)):=by unfold smlI;rw [List.flatMap_cons]
 rw [h4,ed,e',List.append_assoc,dn_fwd (by omega) (by omega)] at e;injection e with a1 a2;refine ⟨h2,?_,a2.symm⟩;rw [List.take_succ_eq_append_getElem hkp,<- h3,<- a1];have hy:((row[k].toNat:Nat):Int)=row[k]:=by omega
 rw [hy]
theorem NG.out {s s':Rd} {most n k:Nat} {sp:List Int} (h:NG s most n k sp s') (hk:¬ k < n \/ s'.2=true):∀ l0 T,l0.length <= most -> (∀ y ∈ l0,tickP y) -> s=(sml l0.length ++ (smlI l0 ++ T),false) -> sp=l0 /\ s'=(T,false):=by
 intro l0 T hl ht hs;obtain ⟨h2,h3,h4⟩:=h l0 T hl ht hs;rcases hk with q | q
 . have e1:l0.take k=l0:=List.take_of_length_le (by omega);have e2:l0.drop k=[]:=List.drop_eq_nil_of_le (by omega);rw [e1] at h3;rw [e2] at h4;exact ⟨h3,h4⟩
 . rw [h4] at q
   cases q
structure NumP (w:World) (H b most:Nat) (s:Rd) (v:Value) (l:List Int) (w':World) (s':Rd):Prop where
 own:OwI w' w.heap.size v l
 len:l.length <= most
 rd:Drd w' H b s'
 kept:Kept w w' (some b)
 typ:∀ y ∈ l,tickP y
 fwd:∀ l0 T,l0.length <= most -> (∀ y ∈ l0,tickP y) -> s=(sml l0.length ++ (smlI l0 ++ T),false) -> l=l0 /\ s'=(T,false)
def NumR (w:World) (H b most:Nat) (s:Rd) (e:Ending) (w':World):Prop:=∃ v l s',e=.returned v /\ NumP w H b most s v l w' s'
theorem rnumbers_any {w:World} {H b:Nat} {s:Rd} (h:Drd w H b s) (hH:H <= w.heap.size) (most:Nat) (hm:most <= 1000):Calls Tryz.prog 28 #[.pointer (some ⟨b,0,none⟩),.int .i64 (most:Int)] w fun e w'=>NumR w H b most s e w':=by
 have HD:=Hid.mk' h;have hbl:=h.lt;obtain ⟨⟨n,s1⟩,hu⟩:∃ u,dnM most s=u:=⟨_,rfl⟩
 have hn8:n <= most:=by have:=dnM_le most s;rw [hu] at this;exact this
 have HU:=Hid.mk' hu;have HG0:=Hid.mk' (NG.start (by omega) hu);clear h hu;go_enter Tryz.func28,Tryz.ntmps28;go_wp2_with (go_at_call 26;refine (rnum_at HD.out most (by rfl) (by omega) HU.out).mono ?_;rintro e w1 ⟨rfl,hD1,hk1⟩);go_loopw [5,7] (fun lv iv wr=>∃ (i:Nat) (l:List Int) (s':Rd) (la:Option Addr) (lc:Nat),l.length=i /\ i <= n /\ iv=.int .i64 i /\ lv=.slice la i lc /\ OwI wr w.heap.size (.slice la i lc) l /\ Drd wr H b s' /\ Kept w wr (some b) /\ (∀ p ∈ l,tickP p) /\ NG s most n i l s') (fun _ iv _=>n - (intOf iv).toNat)
 case atStart=>exact ⟨0,[],s1,none,0,rfl,Nat.zero_le _,rfl,rfl,OwI.nil _ _,hD1,hk1,by simp,HG0.out⟩
 case round =>
  obtain ⟨i,l,⟨L',bd⟩,la,lc,hil,hin,rfl,rfl,hPl,hDr,hK,hty,hG⟩:=hrel;clear hD1 hk1;have HPl:=Hid.mk' hPl;have HDr:=Hid.mk' hDr;have HK:=Hid.mk' hK;have HTy:=Hid.mk' hty;have HG:=Hid.mk' hG;have HIL:=Hid.mk' hil;have hc1:=hDr.c1;have hzw:=hK.size;clear hPl hDr hK hty hG hil;by_cases hlt:i < n
  case neg =>
   have hii:¬ (i:Int) < (n:Int):=by omega
   go_wp2;go_ret;exact ⟨_,l,_,rfl,HPl.out,by have:=HIL.out;omega,HDr.out,HK.out,HTy.out,NG.out HG.out (.inl (by omega))⟩
  case pos =>
   have hii:(i:Int) < (n:Int):=by omega
   cases bd with
   | true =>
    go_wp2;go_ret;exact ⟨_,l,_,rfl,HPl.out,by have:=HIL.out;omega,HDr.out,HK.out,HTy.out,NG.out HG.out (.inr rfl)⟩
   | false =>
    obtain ⟨⟨yv,t5⟩,hu5⟩:∃ u,dnM 1048576 (L',false)=u:=⟨_,rfl⟩
    have hyv:yv <= 1048576:=by have:=dnM_le 1048576 (L',false);rw [hu5] at this;exact this
    have HU5:=Hid.mk' hu5;clear hu5
    go_wp2_with (first
     | (have hgo:=HR;clear hgo;at_builtin;refine wpList_app (by rfl) _ _ _ (by rfl) (by rfl) (by rfl) HR.out ?_)
     | (go_at_call 26;refine (rnum_at HDr.out 1048576 (by rfl) (by omega) HU5.out).mono ?_;rintro e x0 ⟨rfl,hd0,hk0⟩;have hz0:=hk0.size;have hob:∀ g,(Value.slice la i lc).ownBlock=some g -> w.heap.size <= g:=(fun g e=>(HPl.out.lt g e).1);have O6:=Hid.mk' (HPl.out.keptR hk0 (fun g e ec=>by have:=hob g e;injection ec with ec;omega));obtain ⟨v7,w7,hr7,hO7,hk7,hv7⟩:=O6.out.grow (yv:Int) (by have:=HIL.out;omega) (by omega);obtain ⟨a5,c5,hv5,_,_⟩:=lie_own (by omega) hO7;have hln:(l ++ [(yv:Int)]).length=i + 1:=(by rw [List.length_append,HIL.out];rfl);rw [hln] at hv5;subst hv5;have HR:=Hid.mk' hr7;have OO7:=Hid.mk' hO7;have D7:Hid (Drd w7 H b t5):=hd0.kept hk7 (fun g e=>by have:=hob g e;omega);have K7:Hid (Kept w w7 (some b)):=kept_two (kept_two HK.out hk0 (fun g e=>.inl e)) hk7 (fun g e=>.inr (hob g e));clear hr7 hO7 hk7 hv7 hln))
    go_roundw
    case rel=>exact ⟨i + 1,l ++ [(yv:Int)],t5,a5,c5,by rw [List.length_append,HIL.out];rfl,by omega,by go_num,rfl,OO7.out,D7.out,K7.out,fun y hy=>by rcases List.mem_append.1 hy with q | q;(exact HTy.out y q);(simp at q;subst q;unfold tickP;omega),HG.out.step hlt HU5.out⟩
    case measure=>simp [intOf];omega
structure DNok (N:Nt):Prop where
 sn:N.sites.length <= 12
 st:∀ S ∈ N.sites,siteB S=true /\ Rok S
 un:N.subs.length <= 6
 su:∀ U ∈ N.subs,U.sites.length <= 12 /\ (∀ x ∈ U.sites,tickP x) /\ 0 <= U.critical /\ U.critical <= 12
 cy:tickP N.low /\ tickP N.high /\ tickP N.step
 wn:N.weds.length <= 8
 we:∀ D ∈ N.weds,(0 <= D.a /\ D.a <= 6) /\ (0 <= D.b /\ D.b <= 6) /\ tickP D.votes /\ D.offsets.length <= 8 /\ ∀ x ∈ D.offsets,tickP x
def nen (S:St):List Nat:=sml (writeL S).length ++ writeL S
def nt3 (N:Nt) (T:List Nat):List Nat:=T
def nt2 (N:Nt) (T:List Nat):List Nat:=sml N.low.toNat ++ (sml N.high.toNat ++ (sml N.step.toNat ++ (sml N.weds.length ++ (N.weds.flatMap (fun D=>smlI (weI D)) ++ nt3 N T))))
def nt1 (N:Nt) (T:List Nat):List Nat:=sml N.subs.length ++ (N.subs.flatMap (fun U=>smlI (suI U)) ++ nt2 N T)
theorem netL_tl (N:Nt) (T:List Nat):netL N ++ T=sml N.sites.length ++ (N.sites.flatMap nen ++ nt1 N T):=by
 have e1:(fun S=>smlI [((writeL S).length:Int)] ++ writeL S)=nen:=by funext S;simp [nen,smlI]
 have e2:smlI [N.low,N.high,N.step,(N.weds.length:Int)]=sml N.low.toNat ++ (sml N.high.toNat ++ (sml N.step.toNat ++ sml N.weds.length)):=by simp [smlI]
 unfold netL nwI nuI nsI nt1 nt2 nt3;rw [e1,e2,List.take_length,List.take_length,List.take_length];have e3:smlI [(N.sites.length:Int)]=sml N.sites.length:=by simp [smlI]
 have e4:smlI [(N.subs.length:Int)]=sml N.subs.length:=by simp [smlI]
 rw [e3,e4];simp only [List.append_assoc]
def NLG {α:Type} (src:Nt -> List α) (enc:α -> List Nat) (tl:Nt -> List Nat -> List Nat) (s:Rd) (i:Nat) (l:List α) (s':Rd):Prop:=∀ S T,DNok S -> s=(netL S ++ T,false) -> i <= (src S).length /\ l=(src S).take i /\ s'=(((src S).drop i).flatMap enc ++ tl S T,false)
def NSG (s:Rd) (P:Nt -> List Nat -> Prop):Prop:=∀ S T,DNok S -> s=(netL S ++ T,false) -> P S T
theorem NLG.step {α:Type} {src:Nt -> List α} {enc:α -> List Nat} {tl:Nt -> List Nat -> List Nat} {s s' s'':Rd} {i:Nat} {l:List α} {y:α} (h:NLG src enc tl s i l s') (hn:NSG s (fun S _=>i < (src S).length)) (hf:∀ S T x T',DNok S -> s=(netL S ++ T,false) -> x ∈ src S -> s'=(enc x ++ T',false) -> y=x /\ s''=(T',false)):NLG src enc tl s (i + 1) (l ++ [y]) s'':=by
 intro S T hS hs;obtain ⟨h1,h2,h3⟩:=h S T hS hs;have hi:=hn S T hS hs;have hm:(src S)[i] ∈ src S:=List.getElem_mem hi;have ed:(src S).drop i=(src S)[i] :: (src S).drop (i + 1):=List.drop_eq_getElem_cons hi;rw [ed,List.flatMap_cons,List.append_assoc] at h3;obtain ⟨g1,g2⟩:=hf S T _ _ hS hs hm h3;refine ⟨by omega,?_,g2⟩;rw [List.take_succ_eq_append_getElem hi,<- h2,g1]
theorem NLG.out {α:Type} {src:Nt -> List α} {enc:α -> List Nat} {tl:Nt -> List Nat -> List Nat} {s s':Rd} {i:Nat} {l:List α} (h:NLG src enc tl s i l s') {n:Nat} (hn:NSG s (fun S _=>n=(src S).length)) (hi:i=n \/ s'.2=true):NSG s (fun S T=>l=src S /\ s'=(tl S T,false)):=by
 intro S T hS hs;obtain ⟨h1,h2,h3⟩:=h S T hS hs;have h4:n=(src S).length:=hn S T hS hs
 have hin:i=(src S).length:=by
  rcases hi with q | q
  . omega
  . rw [h3] at q;cases q
 refine ⟨by rw [h2,hin,List.take_length],?_⟩;rw [h3,hin,List.drop_length];simp
theorem si_fwd {s' s1:Rd} {M z:Nat} (hM:M < 18446744073709551616) (e1:dnM M s'=(z,s1)) {S:St} {T:List Nat} (hS:(writeL S).length <= M) (h:s'=(nen S ++ T,false)):z=(writeL S).length /\ s1=(writeL S ++ T,false):=by
 rw [h,nen,List.append_assoc,dn_fwd hM hS] at e1;injection e1 with a1 a2;exact ⟨a1.symm,a2.symm⟩
theorem su_fwd {s' s1 s2:Rd} {l:List Int} {c:Nat} (f1:∀ l0 T,l0.length <= 12 -> (∀ y ∈ l0,tickP y) -> s'=(sml l0.length ++ (smlI l0 ++ T),false) -> l=l0 /\ s1=(T,false)) (e2:dnM 12 s1=(c,s2)) {U:Sb} {T:List Nat} (hU:U.sites.length <= 12 /\ (∀ x ∈ U.sites,tickP x) /\ 0 <= U.critical /\ U.critical <= 12) (h:s'=(smlI (suI U) ++ T,false)):(⟨l,(c:Int)⟩:Sb)=U /\ s2=(T,false):=by
 have e:smlI (suI U) ++ T=sml U.sites.length ++ (smlI U.sites ++ (sml U.critical.toNat ++ T)):=by
  unfold suI;rw [smlI_append,smlI_append];simp [smlI]
 obtain ⟨g1,g2⟩:=f1 U.sites _ hU.1 hU.2.1 (h.trans (by rw [e]));rw [g2,dn_fwd (by omega) (by omega)] at e2;injection e2 with a1 a2;refine ⟨?_,a2.symm⟩
 cases U
 simp only at *;subst g1
 congr 1
 omega
theorem we_fwd {s' s1 s2 s3 s4:Rd} {a b v:Nat} {l:List Int} (e1:dnM 6 s'=(a,s1)) (e2:dnM 6 s1=(b,s2)) (e3:dnM 1048576 s2=(v,s3)) (f4:∀ l0 T,l0.length <= 8 -> (∀ y ∈ l0,tickP y) -> s3=(sml l0.length ++ (smlI l0 ++ T),false) -> l=l0 /\ s4=(T,false)) {D:Wd} {T:List Nat} (hD:(0 <= D.a /\ D.a <= 6) /\ (0 <= D.b /\ D.b <= 6) /\ tickP D.votes /\ D.offsets.length <= 8 /\ ∀ x ∈ D.offsets,tickP x) (h:s'=(smlI (weI D) ++ T,false)):(⟨(a:Int),(b:Int),(v:Int),l⟩:Wd)=D /\ s4=(T,false):=by
 have e:smlI (weI D) ++ T=sml D.a.toNat ++ (sml D.b.toNat ++ (sml D.votes.toNat ++ (sml D.offsets.length ++ (smlI D.offsets ++ T)))):=by
  unfold weI;rw [smlI_append];simp [smlI]
 obtain ⟨p1,p2,p3,p4,p5⟩:=hD;have p3':=p3;unfold tickP at p3';rw [h,e,dn_fwd (by omega) (by omega)] at e1;injection e1 with a1 b1;rw [<- b1,dn_fwd (by omega) (by omega)] at e2;injection e2 with a2 b2;rw [<- b2,dn_fwd (by omega) (by omega)] at e3;injection e3 with a3 b3;obtain ⟨g1,g2⟩:=f4 D.offsets T p4 p5 b3.symm;refine ⟨?_,g2⟩
 cases D
 simp only at *;subst g1
 congr 1 <;> omega
theorem rwrite6_any {Y:Na} {N:Nt} {w:World} (h:NetAt w Y N) (hF:NFew N):Calls Tryz.prog 7 #[netV Y N] w fun e w'=>∃ a' c',e=.returned (.tuple #[.slice a' (nwriteL N).length c',.int .i64 (netE N)]) /\ Mine w' w.heap.size a' (nwriteL N).length c' (nwriteL N) /\ Kept w w' none:=by
 have hk:Kept w (w.alloc (.cells (cn9 Y N) 26)) none:=Kept.alloc _ _ _ _ _;have hb:=nbx_alloc h 26;obtain ⟨W0,hW0⟩:∃ W0,w.alloc (.cells (cn9 Y N) 26)=W0:=⟨_,rfl⟩
 rw [hW0] at hk hb;have HK:=Hid.mk' hk;have HB:=Hid.mk' hb;have n0_:∀ w',Kept W0 w' none -> w'.cell? ⟨w.heap.size,0,none⟩=some (.slice Y.s N.sites.length Y.sc):=fun w' q=>(HB.out.kept q).c0
 have n1_:∀ w',Kept W0 w' none -> w'.cell? ⟨w.heap.size,1,none⟩=some (.slice Y.u N.subs.length Y.uc):=fun w' q=>(HB.out.kept q).c1
 have n2_:∀ w',Kept W0 w' none -> w'.cell? ⟨w.heap.size,2,none⟩=some (.slice Y.d N.weds.length Y.dc):=fun w' q=>(HB.out.kept q).c2
 have n3_:∀ w',Kept W0 w' none -> w'.cell? ⟨w.heap.size,3,none⟩=some (.int .i64 N.low):=fun w' q=>(HB.out.kept q).c3
 have n4_:∀ w',Kept W0 w' none -> w'.cell? ⟨w.heap.size,4,none⟩=some (.int .i64 N.high):=fun w' q=>(HB.out.kept q).c4
 have n5_:∀ w',Kept W0 w' none -> w'.cell? ⟨w.heap.size,5,none⟩=some (.int .i64 N.step):=fun w' q=>(HB.out.kept q).c5
 have hK0:=Kept.refl W0 none;clear h hk hb
 cases hs:netB N with
 | false =>
  have hce:=netE_no hs;have hL:nwriteL N=[]:=by unfold nwriteL;rw [if_neg (by rw [hs];decide)]
  rw [hL,hce];clear hL;go_enter Tryz.func7,Tryz.ntmps7;go_wp2_with (first | rw [hW0] | (go_at_call 16;have hx:=rcheck6_any HB.out.net hF;rw [hce] at hx;refine hx.mono ?_;rintro e w2 ⟨rfl,hk2⟩;clear hx));go_ret2;exact ⟨none,0,rfl,Mine.empty _ _,HK.out.tr hk2⟩
 | true =>
  have hce:=netE_yes hs;have hL:=nwriteL_yes hs;have HPo:=Hid.mk' (npos_may hs);have hlen2:(nwriteL N).length=(netL N).length + 4:=by rw [hL,List.length_append,sum4_len]
  rw [hlen2,hL,hce];clear hL hlen2;go_enter Tryz.func7,Tryz.ntmps7
  go_wp2_with (first
   | rw [hW0]
   | (go_at_call 17;refine (rsummed_any w.heap.size M3.out (by have:=HK.out.size;have:=hk2.size;have:=hk3.size;omega) (netL_lt N) (by omega)).mono ?_;rintro e w5 ⟨a5,c5,rfl,hm5,hg5⟩)
   | (go_at_call 18;refine (rinside6_any (HB.out.net.kept hk2) HPo.out).mono ?_;rintro e w3 ⟨a3,c3,rfl,hm3,hk3,hlen⟩;have M3:=Hid.mk' (hm3.lower (Nat.le_trans HK.out.size hk2.size));clear hm3)
   | (go_at_call 16;have hx:=rcheck6_any HB.out.net hF;rw [hce] at hx;refine hx.mono ?_;rintro e w2 ⟨rfl,hk2⟩;clear hx))
  go_ret2;exact ⟨a5,c5,rfl,hm5,((HK.out.tr hk2).tr hk3).newRow hg5 (fun i e=>(M3.out.lt i e).1)⟩
theorem rok_rdS {P:List Nat} (hP:∀ x ∈ P,x < 256) (h:siteB (rdS P)=true):Rok (rdS P):=by
 unfold rdS at h ⊢;split
 . rename_i hr;exact rok_read hP hr
 . rename_i hr;rw [if_neg hr,zero_no] at h
   cases h
theorem nread_parts {L:List Nat} (hL:∀ x ∈ L,x < 256) (h:nreadB L=true):netL (readN L)=L.take (L.length - 4) /\ DNok (readN L):=by
 obtain ⟨hw,hb⟩:=nwrite_read hL h;have hP:=npos_may hb
 have hlen:L.length - 4=(netL (readN L)).length:=by
  have:=congrArg List.length hw;rw [nwriteL_yes hb,List.length_append,sum4_len] at this;omega
 have e1:netL (readN L)=L.take (L.length - 4):=by
  rw [hlen];have hw2:=hw;rw [nwriteL_yes hb] at hw2;generalize netL (readN L)=M at *;rw [<- hw2,List.take_left' rfl]
 refine ⟨e1,?_⟩;have hcy:=hP.cy;have eN:(readN L).sites=(rawM (L.take (L.length - 4),false)).1.1.map rdS:=by unfold readN;rw [netM_raw];rfl
 unfold nreadB at h;simp only [Bool.and_eq_true,decide_eq_true_eq] at h;obtain ⟨h4,h1,h2,h3⟩:=h;unfold doneB at h2;simp only [Bool.and_eq_true,decide_eq_true_eq,Bool.not_eq_true'] at h2;have hLt:∀ y ∈ L.take (L.length - 4),y < 256:=fun y hy=>hL y (List.mem_of_mem_take hy)
 have e2:(netM (L.take (L.length - 4),false)).2=(rawM (L.take (L.length - 4),false)).2:=by rw [netM_raw]
 rw [e2] at h2;have hbw:=rawC.bwd (L.take (L.length - 4)) hLt h2.1;rw [h2.2,List.append_nil] at hbw;refine ⟨hP.ns.2,fun S hS=>?_,hP.nu.2,fun U hU=>?_,by unfold tickP;omega,hP.nw,fun D hD=>?_⟩
 . obtain ⟨i,hi,rfl⟩:=List.getElem_of_mem hS;have hs:=hP.st i hi;have e:(readN L).sites.getD i s0=(readN L).sites[i]:=by simp [hi]
   rw [e] at hs;refine ⟨hs,?_⟩;have hm:(readN L).sites[i] ∈ (rawM (L.take (L.length - 4),false)).1.1.map rdS:=by rw [<- eN];exact List.getElem_mem hi
   obtain ⟨P,hPm,hPe⟩:=List.mem_map.1 hm;rw [<- hPe] at hs ⊢;refine rok_rdS (fun x hx=>hLt x ?_) hs;rw [hbw.1];unfold encR;exact List.mem_append.2 (.inl (List.mem_append.2 (.inr (List.mem_flatMap.2 ⟨P,hPm,List.mem_append.2 (.inr hx)⟩))))
 . obtain ⟨i,hi,rfl⟩:=List.getElem_of_mem hU;obtain ⟨a1,a2,a3,a4⟩:=hP.su i hi;have e:(readN L).subs.getD i u0=(readN L).subs[i]:=by simp [hi]
   rw [e] at a1 a2 a3 a4;exact ⟨a1,fun x hx=>by have:=a2 x hx;unfold tickP;omega,by omega,by omega⟩
 . obtain ⟨i,hi,rfl⟩:=List.getElem_of_mem hD;obtain ⟨a1,a2,a3,a4,a5⟩:=hP.we i hi;have e:(readN L).weds.getD i d0=(readN L).weds[i]:=by simp [hi]
   rw [e] at a1 a2 a3 a4 a5;exact ⟨by omega,by omega,by unfold tickP;omega,a4,fun x hx=>by have:=a5 x hx;unfold tickP;omega⟩
theorem site_in {N:Nt} {S:St} (h:S ∈ N.sites):(writeL S).length <= (netL N).length:=by
 have e:=netL_tl N [];rw [List.append_nil] at e;rw [e]
 have h1:(nen S).length <= (N.sites.flatMap nen).length:=by
  obtain ⟨l1,l2,hl⟩:=List.append_of_mem h;rw [hl];simp only [List.flatMap_append,List.flatMap_cons,List.length_append];omega
 have h2:(nen S).length=(sml (writeL S).length).length + (writeL S).length:=by unfold nen;rw [List.length_append]
 simp only [List.length_append];omega
theorem sround {L:List Nat} {m n i mN z:Nat} {l:List St} {L' L1:List Nat} {bd:Bool} (hL:∀ x ∈ L,x < 256) (hm:L.length - 4=m) (hn:m <= n) (hn2:n <= 20000) (hG:NLG Nt.sites nen nt1 (L.take m,false) i l (L',false)) (hN:NSG (L.take m,false) (fun N _=>mN=N.sites.length)) (hi:i < mN) (hu:dnM n (L',false)=(z,(L1,bd))) (h:nreadB L=true):∃ S T',siteB S=true /\ Rok S /\ z=(writeL S).length /\ L1=writeL S ++ T' /\ bd=false:=by
 obtain ⟨h1,h2⟩:=nread_parts hL h;rw [hm] at h1;have hs:((L.take m,false):Rd)=(netL (readN L) ++ [],false):=by rw [h1,List.append_nil]
 obtain ⟨g1,g2,g3⟩:=hG (readN L) [] h2 hs;have hlt:i < (readN L).sites.length:=by have:=hN (readN L) [] h2 hs;omega
 have hmem:(readN L).sites[i] ∈ (readN L).sites:=List.getElem_mem hlt;have ed:(readN L).sites.drop i=(readN L).sites[i] :: (readN L).sites.drop (i + 1):=List.drop_eq_getElem_cons hlt;rw [ed,List.flatMap_cons,List.append_assoc] at g3;have hin:=site_in hmem;have hlm:(netL (readN L)).length <= m:=by rw [h1,List.length_take];omega
 obtain ⟨a1,a2⟩:=si_fwd (by omega) hu (S:=(readN L).sites[i]) (by omega) g3;injection a2 with a2 a3;exact ⟨_,_,(h2.st _ hmem).1,(h2.st _ hmem).2,a1,a2,a3⟩
theorem sround_long {L:List Nat} {m n i mN z:Nat} {l:List St} {L' L1:List Nat} {bd:Bool} (hL:∀ x ∈ L,x < 256) (hm:L.length - 4=m) (hn:m <= n) (hn2:n <= 20000) (hG:NLG Nt.sites nen nt1 (L.take m,false) i l (L',false)) (hN:NSG (L.take m,false) (fun N _=>mN=N.sites.length)) (hi:i < mN) (hu:dnM n (L',false)=(z,(L1,bd))) (hz:L1.length < z):nreadB L=false:=by
 cases h:nreadB L with
 | false=>rfl
 | true =>
  obtain ⟨S,T',_,_,h1,h2,_⟩:=sround hL hm hn hn2 hG hN hi hu h;rw [h2,List.length_append] at hz;omega
theorem sround_none {L:List Nat} {m n i mN z:Nat} {l:List St} {L' L1:List Nat} {bd:Bool} (hL:∀ x ∈ L,x < 256) (hm:L.length - 4=m) (hn:m <= n) (hn2:n <= 20000) (hG:NLG Nt.sites nen nt1 (L.take m,false) i l (L',false)) (hN:NSG (L.take m,false) (fun N _=>mN=N.sites.length)) (hi:i < mN) (hu:dnM n (L',false)=(z,(L1,bd))) (hr:readB (L1.take z)=false):nreadB L=false:=by
 cases h:nreadB L with
 | false=>rfl
 | true =>
  obtain ⟨S,T',hs,hk,h1,h2,_⟩:=sround hL hm hn hn2 hG hN hi hu h;rw [h2,h1,List.take_left' rfl,(read_write hk hs).1] at hr
  cases hr
theorem sround_next {L:List Nat} {m n i mN z:Nat} {l:List St} {L' L1:List Nat} {bd:Bool} (hm:L.length - 4=m) (hn:m <= n) (hn2:n <= 20000) (hG:NLG Nt.sites nen nt1 (L.take m,false) i l (L',false)) (hN:NSG (L.take m,false) (fun N _=>mN=N.sites.length)) (hi:i < mN) (hu:dnM n (L',false)=(z,(L1,bd))):NLG Nt.sites nen nt1 (L.take m,false) (i + 1) (l ++ [readS (L1.take z)]) (L1.drop z,bd):=by
 refine hG.step (fun S T hS hs=>by have:=hN S T hS hs;show i < _;omega) (fun N T x T' hN' hs hx hh=>?_);have hin:=site_in hx
 have hlm:(netL N).length <= m:=by
  injection hs with hs _;have:=congrArg List.length hs;rw [List.length_append,List.length_take] at this;omega
 obtain ⟨a1,a2⟩:=si_fwd (by omega) hu (S:=x) (by omega) hh;injection a2 with a2 a3;obtain ⟨b1,b2⟩:=hN'.st x hx;rw [a2,a1,List.take_left' rfl,List.drop_left' rfl,(read_write b2 b1).2,a3];exact ⟨rfl,rfl⟩
theorem few_read {S:St} (hs:siteB S=true) (hr:Rok S):Few S:=by
 have hSp:=span_may hs;have hO:=hSp.base.sh.ok;refine ⟨by have:=hO.ng;omega,by have:=hO.na;have:=hO.ng;omega,by have:=hO.nb;have:=hO.ng;omega,by have:=hO.np;omega,by have:=hO.ne;omega,by have:=hO.nl;omega,fun i hi=>?_,fun i hi=>?_⟩
 . have h1:=hSp.base.sh.row i (by have:=hO.nb;omega);have:=hO.ng;omega
 . have h1:=hr.pl _ (getD_mem (d:=q0) hi);unfold tickP at h1;omega
end Go.Proofs.YtakilpnbjihibaaGreatDoor
