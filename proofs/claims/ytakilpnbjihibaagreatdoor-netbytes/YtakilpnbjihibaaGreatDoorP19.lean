import Derived.Test.YtakilpnbjihibaaGreatDoorP7
namespace Go.Proofs.YtakilpnbjihibaaGreatDoor
set_option linter.unusedVariables false
set_option linter.unusedSimpArgs false
set_option maxHeartbeats 4000000
set_option maxRecDepth 100000
open Go.RowKit Go.Lib Go.Deep
def OwL {α:Type} (e:TypeId) (K:Nat) (f:α -> Nat -> Value) (d:α) (w:World) (base:Nat) (v:Value) (l:List α):Prop:=w.ownsRow base e K v l.length (cellsL l.length K (fun i j=>f (l.getD i d) j))
theorem OwL.nil {α:Type} (e:TypeId) (K:Nat) (f:α -> Nat -> Value) (d:α) (w:World) (base:Nat):OwL e K f d w base (.slice none 0 0) []:=by
 unfold OwL;have h0:cellsL ([]:List α).length K (fun i j=>f (([]:List α).getD i d) j)=[]:=by simp [cellsL]
 rw [h0];exact World.ownsRow_nil _ _ _ _
theorem OwL.stay {α:Type} {e:TypeId} {K:Nat} {f:α -> Nat -> Value} {d:α} {w w':World} {base b0:Nat} {v:Value} {l:List α} (h:OwL e K f d w base v l) (q:Stay b0 w w') (hb:b0 <= base):OwL e K f d w' base v l:=own_stay h ⟨q.size,fun i h1 h2=>q.block i (Nat.le_trans hb h1) h2⟩
theorem OwL.lt {α:Type} {e:TypeId} {K:Nat} {f:α -> Nat -> Value} {d:α} {w:World} {base:Nat} {v:Value} {l:List α} (h:OwL e K f d w base v l):∀ g,v.ownBlock=some g -> base <= g /\ g < w.heap.size:=own_lt h
theorem OwL.keptR {α:Type} {e:TypeId} {K:Nat} {f:α -> Nat -> Value} {d:α} {w w':World} {base:Nat} {v:Value} {l:List α} {r:Option Nat} (h:OwL e K f d w base v l) (q:Kept w w' r) (hr:∀ g,r=some g -> g < base \/ w.heap.size <= g):OwL e K f d w' base v l:=own_keptR' h q (fun g hg ec=>by
 have h1:=own_lt h g hg;rcases hr g ec.symm with q | q <;> omega)
theorem OwL.lie {α:Type} {e:TypeId} {K:Nat} {f:α -> Nat -> Value} {d:α} {w:World} {base:Nat} {v:Value} {l:List α} (h:OwL e K f d w base v l) (hK:0 < K):∃ a c,v=.slice a l.length c /\ Lie w a l.length K (fun i j=>f (l.getD i d) j) /\ Cap a l.length c /\ ∀ b,a=some b -> base <= b.block /\ b.block < w.heap.size:=by
 obtain ⟨a,c,e1,h1,h2,h3⟩:=lie_own hK h;exact ⟨a,c,e1,h1,h2,h3⟩
theorem getD_snocL {α:Type} (l:List α) (x d:α) (i:Nat):(l ++ [x]).getD i d=if i=l.length then x else l.getD i d:=by
 by_cases h:i=l.length
 . subst h;simp
 . rw [if_neg h];by_cases h2:i < l.length
   . simp [h2,List.getElem?_append_left]
   . rw [List.getD_eq_getElem?_getD,List.getD_eq_getElem?_getD,List.getElem?_eq_none (by simp;omega),List.getElem?_eq_none (by omega)]
theorem OwL.grow {α:Type} {e t:TypeId} {K:Nat} {f:α -> Nat -> Value} {d:α} {w:World} {base:Nat} {v:Value} {l:List α} (h:OwL e K f d w base v l) (x:α) {cs:Array Value} (hcs:∀ j,j < K -> cs[j]? = some (f x j)) {inf:TypeInfo} {z:Value} {bytes:Nat} (ht:Tryz.prog.underlying t=some (.slice e)) (hi:Tryz.prog.info? e=some inf) (hz:inf.zero=some z) (hsize:inf.size=K) (hby:inf.bytes=bytes) (hzs:z.cells.size=K) (hK:0 < K) (hbb:bytes <= 1000) (h1:∀ j,(f x j).oneCell'=true) (hn:l.length <= 40) (hb:base <= w.heap.size) :
 ∃ a' c' w',(Builtin.append_ #[t,t] t #[v,.slice (some ⟨w.heap.size,0,none⟩) 1 1]).run Tryz.prog (w.alloc (.cells cs e))=.ok (.slice a' (l.length + 1) c') w' /\ OwL e K f d w' base (.slice a' (l.length + 1) c') (l ++ [x]) /\ Kept w w' v.ownBlock:=by
 have hk:Kept w (w.alloc (.cells cs e)) none:=Kept.alloc _ _ _ _ _;have hz4:(w.alloc (.cells cs e)).heap.size=w.heap.size + 1:=by simp
 have hc:∀ j,j < K -> (w.alloc (.cells cs e)).cell? ⟨w.heap.size,0 + j,none⟩=some (f x j):=fun j hj=>by
  rw [Nat.zero_add];exact alloc_at2 _ _ _ rfl (hcs j hj)
 have own4:(w.alloc (.cells cs e)).ownsRow base e K v l.length (cellsL l.length K (fun i j=>f (l.getD i d) j)):=own_keptR' h hk (fun g _=>by simp);obtain ⟨v',w',hr,g1,g2,g3⟩:=grow_run (t:=t) (ty:=t) (c:=1) ht hi hz hsize hby hzs hK hbb own4 hc h1 (by omega) (by omega);obtain ⟨a',c',rfl,_⟩:=lie_own hK g1;refine ⟨a',c',w',hr,?_,?_⟩
 . unfold OwL;rw [List.length_append]
   have he:cellsL (l.length + 1) K (fun i j=>if i=l.length then f x j else f (l.getD i d) j)=cellsL (l.length + [x].length) K (fun i j=>f ((l ++ [x]).getD i d) j):=by
    show cellsL (l.length + 1) K _=cellsL (l.length + 1) K _
    unfold cellsL;refine List.map_congr_left fun q _=>?_
    show (if q / K=l.length then f x (q % K) else f (l.getD (q / K) d) (q % K))=f ((l ++ [x]).getD (q / K) d) (q % K)
    rw [getD_snocL];split <;> rfl
   rw [<- he];exact g1
 . have h2:Kept (w.alloc (.cells cs e)) w' v.ownBlock:=g2;exact ⟨h2.os.trans hk.os,h2.tape.trans hk.tape,h2.output.trans hk.output,Nat.le_trans hk.size h2.size,fun i hi hne=>(h2.block i (Nat.lt_of_lt_of_le hi hk.size) hne).trans (hk.block i hi (by simp))⟩
structure DSok (S:St):Prop where
 id:0 <= S.id /\ S.id <= 65535
 gn:S.groups.length <= 16
 gr:∀ g ∈ S.groups,g.kind <= 2 /\ tickP g.min /\ tickP g.yellow
 an:S.apart.length=S.groups.length
 ap:∀ x ∈ S.apart,x <= 65536
 bn:S.between.length=S.groups.length
 bt:∀ l ∈ S.between,l.length=S.groups.length /\ ∀ x ∈ l,tickP x
 pn:S.phases.length <= 8
 ph:∀ p ∈ S.phases,p.groups <= 65536 /\ tickP p.min /\ tickP p.max /\ tickP p.gap
 en:S.eyes.length <= 24
 ey:∀ e ∈ S.eyes,(0 <= e.phase /\ e.phase <= 8) /\ tickP e.on /\ tickP e.off /\ (0 <= e.turns /\ e.turns <= 64)
 own:tickP S.watch /\ tickP S.feed /\ tickP S.heal /\ tickP S.low /\ tickP S.high
 pl:DPok S.plans
def tl6 (S:St) (T:List Nat):List Nat:=smlI (plansI S.plans) ++ T
def tl5 (S:St) (T:List Nat):List Nat:=sml S.watch.toNat ++ (sml S.feed.toNat ++ (sml S.heal.toNat ++ (sml S.low.toNat ++ (sml S.high.toNat ++ tl6 S T))))
def tl4 (S:St) (T:List Nat):List Nat:=sml S.eyes.length ++ (S.eyes.flatMap (fun e=>smlI (eyI e)) ++ tl5 S T)
def tl3 (S:St) (T:List Nat):List Nat:=sml S.phases.length ++ (S.phases.flatMap (fun p=>smlI (phI p)) ++ tl4 S T)
def tl2 (S:St) (T:List Nat):List Nat:=S.between.flatMap smlI ++ tl3 S T
def tl1 (S:St) (T:List Nat):List Nat:=S.apart.flatMap sml ++ tl2 S T
def tl0 (S:St) (T:List Nat):List Nat:=sml S.groups.length ++ (S.groups.flatMap (fun g=>smlI (grI g)) ++ tl1 S T)
theorem siteL_tl (S:St) (T:List Nat):siteL S ++ T=sml S.id.toNat ++ tl0 S T:=by
 rw [siteL_eq];unfold tl0 tl1 tl2 tl3 tl4 tl5 tl6;simp only [List.append_assoc];rfl
def LG {α:Type} (src:St -> List α) (enc:α -> List Nat) (tl:St -> List Nat -> List Nat) (s:Rd) (i:Nat) (l:List α) (s':Rd):Prop:=∀ S T,DSok S -> s=(siteL S ++ T,false) -> i <= (src S).length /\ l=(src S).take i /\ s'=(((src S).drop i).flatMap enc ++ tl S T,false)
def SG (s:Rd) (P:St -> List Nat -> Prop):Prop:=∀ S T,DSok S -> s=(siteL S ++ T,false) -> P S T
theorem LG.step {α:Type} {src:St -> List α} {enc:α -> List Nat} {tl:St -> List Nat -> List Nat} {s s' s'':Rd} {i:Nat} {l:List α} {y:α} (h:LG src enc tl s i l s') (hn:SG s (fun S _=>i < (src S).length)) (hf:∀ S T x T',DSok S -> s=(siteL S ++ T,false) -> x ∈ src S -> s'=(enc x ++ T',false) -> y=x /\ s''=(T',false)):LG src enc tl s (i + 1) (l ++ [y]) s'':=by
 intro S T hS hs;obtain ⟨h1,h2,h3⟩:=h S T hS hs;have hi:=hn S T hS hs;have hm:(src S)[i] ∈ src S:=List.getElem_mem hi;have ed:(src S).drop i=(src S)[i] :: (src S).drop (i + 1):=List.drop_eq_getElem_cons hi;rw [ed,List.flatMap_cons,List.append_assoc] at h3;obtain ⟨g1,g2⟩:=hf S T _ _ hS hs hm h3;refine ⟨by omega,?_,g2⟩;rw [List.take_succ_eq_append_getElem hi,<- h2,g1]
theorem LG.out {α:Type} {src:St -> List α} {enc:α -> List Nat} {tl:St -> List Nat -> List Nat} {s s':Rd} {i:Nat} {l:List α} (h:LG src enc tl s i l s') {n:Nat} (hn:SG s (fun S _=>n=(src S).length)) (hi:i=n \/ s'.2=true):SG s (fun S T=>l=src S /\ s'=(tl S T,false)):=by
 intro S T hS hs;obtain ⟨h1,h2,h3⟩:=h S T hS hs;have h4:n=(src S).length:=hn S T hS hs
 have hin:i=(src S).length:=by
  rcases hi with q | q
  . omega
  . rw [h3] at q;cases q
 refine ⟨by rw [h2,hin,List.take_length],?_⟩;rw [h3,hin,List.drop_length];simp
theorem gr_fwd {s' s1 s2 s3:Rd} {k m y:Nat} (e1:dnM 2 s'=(k,s1)) (e2:dnM 1048576 s1=(m,s2)) (e3:dnM 1048576 s2=(y,s3)) {g:Gr} {T:List Nat} (hg:g.kind <= 2 /\ tickP g.min /\ tickP g.yellow) (h:s'=(smlI (grI g) ++ T,false)):(⟨k,(m:Int),(y:Int)⟩:Gr)=g /\ s3=(T,false):=by
 obtain ⟨p1,p2,p3⟩:=hg;unfold tickP at p2 p3;have e:smlI (grI g) ++ T=sml g.kind ++ (sml g.min.toNat ++ (sml g.yellow.toNat ++ T)):=by simp [smlI,grI]
 rw [h,e,dn_fwd (by omega) (by omega)] at e1;injection e1 with a1 a2;rw [<- a2,dn_fwd (by omega) (by omega)] at e2;injection e2 with b1 b2;rw [<- b2,dn_fwd (by omega) (by omega)] at e3;injection e3 with c1 c2;obtain ⟨gk,gm,gy⟩:=g;dsimp only at *;refine ⟨?_,c2.symm⟩
 congr 1 <;> omega
theorem ap_fwd {s' s1:Rd} {k:Nat} (e1:dnM 65536 s'=(k,s1)) {x:Nat} {T:List Nat} (hx:x <= 65536) (h:s'=(sml x ++ T,false)):k=x /\ s1=(T,false):=by
 rw [h,dn_fwd (by omega) hx] at e1;injection e1 with a1 a2;exact ⟨a1.symm,a2.symm⟩
theorem ey_fwd {s' s1 s2 s3 s4:Rd} {p a b t:Nat} (e1:dnM 8 s'=(p,s1)) (e2:dnM 1048576 s1=(a,s2)) (e3:dnM 1048576 s2=(b,s3)) (e4:dnM 64 s3=(t,s4)) {g:Ey} {T:List Nat} (hg:(0 <= g.phase /\ g.phase <= 8) /\ tickP g.on /\ tickP g.off /\ (0 <= g.turns /\ g.turns <= 64)) (h:s'=(smlI (eyI g) ++ T,false)):(⟨(p:Int),(a:Int),(b:Int),(t:Int)⟩:Ey)=g /\ s4=(T,false):=by
 obtain ⟨p1,p2,p3,p4⟩:=hg;unfold tickP at p2 p3;have e:smlI (eyI g) ++ T=sml g.phase.toNat ++ (sml g.on.toNat ++ (sml g.off.toNat ++ (sml g.turns.toNat ++ T))):=by simp [smlI,eyI]
 rw [h,e,dn_fwd (by omega) (by omega)] at e1;injection e1 with a1 a2;rw [<- a2,dn_fwd (by omega) (by omega)] at e2;injection e2 with b1 b2;rw [<- b2,dn_fwd (by omega) (by omega)] at e3;injection e3 with c1 c2;rw [<- c2,dn_fwd (by omega) (by omega)] at e4;injection e4 with d1 d2;obtain ⟨gp,gn,gf,gt⟩:=g;dsimp only at *;refine ⟨?_,d2.symm⟩
 congr 1 <;> omega
theorem ph_fwd {s' s1 s2 s3 s4 s5:Rd} {g m x y u:Nat} (e1:dnM 65536 s'=(g,s1)) (e2:dnM 1048576 s1=(m,s2)) (e3:dnM 1048576 s2=(x,s3)) (e4:dnM 1048576 s3=(y,s4)) (e5:dnM 1 s4=(u,s5)) {p:Ph} {T:List Nat} (hg:p.groups <= 65536 /\ tickP p.min /\ tickP p.max /\ tickP p.gap) (h:s'=(smlI (phI p) ++ T,false)):(⟨g,(m:Int),(x:Int),(y:Int),((u:Int) == 1)⟩:Ph)=p /\ s5=(T,false):=by
 obtain ⟨p1,p2,p3,p4⟩:=hg;unfold tickP at p2 p3 p4
 have e:smlI (phI p) ++ T=sml p.groups ++ (sml p.min.toNat ++ (sml p.max.toNat ++ (sml p.gap.toNat ++ (sml (if p.always=true then 1 else 0) ++ T)))):=by
  cases h:p.always <;> simp [smlI,phI,h]
 rw [h,e,dn_fwd (by omega) (by omega)] at e1;injection e1 with a1 a2;rw [<- a2,dn_fwd (by omega) (by omega)] at e2;injection e2 with b1 b2;rw [<- b2,dn_fwd (by omega) (by omega)] at e3;injection e3 with c1 c2;rw [<- c2,dn_fwd (by omega) (by omega)] at e4;injection e4 with d1 d2;rw [<- d2,dn_fwd (by omega) (by split <;> omega)] at e5;injection e5 with f1 f2;obtain ⟨pg,pm,px,py,pa⟩:=p;dsimp only at *;refine ⟨?_,f2.symm⟩;have h1:((u:Int) == 1)=pa:=by cases pa <;> simp at f1 <;> subst f1 <;> decide
 rw [h1]
 congr 1 <;> omega
structure PlsP (w:World) (H b:Nat) (s:Rd) (v:Value) (w':World) (l:List Pl) (s':Rd):Prop where
 pl:PlS w' w.heap.size v l
 rd:Drd w' H b s'
 kept:Kept w w' (some b)
 many:l.length <= 8
 typ:∀ p ∈ l,tickP p.cycle /\ tickP p.offset
 fwd:∀ x T,DPok x -> s=(smlI (plansI x) ++ T,false) -> l=x /\ s'=(T,false)
def PlsR (w:World) (H b:Nat) (s:Rd) (e:Ending) (w':World):Prop:=∃ v l s',e=.returned v /\ PlsP w H b s v w' l s'
theorem rplans_any {w:World} {H b:Nat} {s:Rd} (h:Drd w H b s) (hH:H <= w.heap.size):Calls Tryz.prog 78 #[.pointer (some ⟨b,0,none⟩)] w fun e w'=>PlsR w H b s e w':=by
 have HD:=Hid.mk' h;have hbl:=h.lt;obtain ⟨⟨n,s1⟩,hu⟩:∃ u,dnM 8 s=u:=⟨_,rfl⟩
 have hn8:n <= 8:=by have:=dnM_le 8 s;rw [hu] at this;exact this
 have HU:=Hid.mk' hu;have HG0:=Hid.mk' (DG.start hu);clear h hu;go_enter Tryz.func78,Tryz.ntmps78;go_wp2_with (go_at_call 26;refine (rnum_at HD.out 8 (by rfl) (by omega) HU.out).mono ?_;rintro e w1 ⟨rfl,hD1,hk1⟩);go_loopw [3,5] (fun lv iv wr=>∃ (i:Nat) (l:List Pl) (s':Rd) (la:Option Addr) (lc:Nat),l.length=i /\ i <= n /\ iv=.int .i64 i /\ lv=.slice la i lc /\ PlS wr w.heap.size (.slice la i lc) l /\ Drd wr H b s' /\ Kept w wr (some b) /\ (∀ p ∈ l,tickP p.cycle /\ tickP p.offset) /\ DG s n i l s') (fun _ iv _=>n - (intOf iv).toNat)
 case atStart=>exact ⟨0,[],s1,none,0,rfl,Nat.zero_le _,rfl,rfl,PlS.nil _ _,hD1,hk1,by simp,HG0.out⟩
 case round =>
  obtain ⟨i,l,⟨L',bd⟩,la,lc,hil,hin,rfl,rfl,hPl,hDr,hK,hty,hG⟩:=hrel;clear hD1 hk1;have HPl:=Hid.mk' hPl;have HDr:=Hid.mk' hDr;have HK:=Hid.mk' hK;have HTy:=Hid.mk' hty;have HG:=Hid.mk' hG;have HIL:=Hid.mk' hil;have hc1:=hDr.c1;clear hPl hDr hK hty hG hil;by_cases hlt:i < n
  case neg =>
   have hii:¬ (i:Int) < (n:Int):=by omega
   go_wp2;go_ret;exact ⟨_,l,_,rfl,HPl.out,HDr.out,HK.out,by have:=HIL.out;omega,HTy.out,DG.out HG.out (.inl (by omega))⟩
  case pos =>
   have hii:(i:Int) < (n:Int):=by omega
   cases bd with
   | true =>
    go_wp2;go_ret;exact ⟨_,l,_,rfl,HPl.out,HDr.out,HK.out,by have:=HIL.out;omega,HTy.out,DG.out HG.out (.inr rfl)⟩
   | false =>
    obtain ⟨⟨cv,t1⟩,hu1⟩:∃ u,dnM 1048576 (L',false)=u:=⟨_,rfl⟩
    obtain ⟨⟨ov,t2⟩,hu2⟩:∃ u,dnM 1048576 t1=u:=⟨_,rfl⟩
    obtain ⟨⟨mv,t3⟩,hu3⟩:∃ u,dnM 8 t2=u:=⟨_,rfl⟩
    have hcv:cv <= 1048576:=by have:=dnM_le 1048576 (L',false);rw [hu1] at this;exact this
    have hov:ov <= 1048576:=by have:=dnM_le 1048576 t1;rw [hu2] at this;exact this
    have hmv:mv <= 8:=by have:=dnM_le 8 t2;rw [hu3] at this;exact this
    have HU1:=Hid.mk' hu1;have HU2:=Hid.mk' hu2;have HU3:=Hid.mk' hu3;have HG2:=Hid.mk' (DG.step HG.out hlt hu1 hu2 hu3);have hbw:b < w.heap.size:=by omega
    clear hu1 hu2 hu3
    go_wp2_with (first
     | (go_at_call 26;refine (rnum_at D2.out 8 (by rfl) (by omega) HU3.out).mono ?_;rintro e w4 ⟨rfl,hD4,hk4⟩)
     | (go_at_call 26;refine (rnum_at D1.out 1048576 (by rfl) (by omega) HU2.out).mono ?_;rintro e w3 ⟨rfl,hD3,hk3⟩;have B3:=Hid.mk' (B2.out.kept hk3 (by intro e;injection e with e;omega));have y1:=B3.out.c1;have g1:=B3.out.f1;have D2:Hid (Drd (w3.setCell ⟨w2.heap.size,1,none⟩ (.int .i64 (ov:Int))) H b t2):=hD3.kept (dkept_set w3 w2.heap.size 1 _) (fun i e=>by injection e with e;omega))
     | (go_at_call 26;refine (rnum_at HDr.out 1048576 (by rfl) (by omega) HU1.out).mono ?_;rintro e w2 ⟨rfl,hD2,hk2⟩;have hz2:=hk2.size;have hzw:=HK.out.size;have B2:=Hid.mk' (bx3_alloc w2 (.int .i64 (cv:Int)) (.int .i64 0) (.slice none 0 0) 79);have D1:Hid (Drd (w2.alloc (.cells #[.int .i64 (cv:Int),.int .i64 0,.slice none 0 0] 79)) H b t1):=hD2.kept (Kept.alloc w2 _ _ _ none) (fun i e=>by cases e)))
    have hz3:=hk3.size;have hz4:=hk4.size;have hbz:(w2.alloc (.cells #[.int .i64 (cv:Int),.int .i64 0,.slice none 0 0] 79)).heap.size=w2.heap.size + 1:=by simp
    have hbs:(w3.setCell ⟨w2.heap.size,1,none⟩ (.int .i64 (ov:Int))).heap.size=w3.heap.size:=by simp [World.setCell]
    rw [hbz] at hz3;rw [hbs] at hz4;have B4:Hid (Bx3 w4 w2.heap.size (.int .i64 (cv:Int)) (.int .i64 (ov:Int)) (.slice none 0 0)):=(B3.out.s1 _).kept hk4 (by intro e;injection e with e;omega);have hka:Kept w2 w3 (some b):=kept_two ((Kept.alloc w2 _ _ _ (some b))) hk3 (fun g e=>.inl e);have hkb:Kept w2 w4 (some b):=kept_two (kept_two hka (dkept_set w3 w2.heap.size 1 (.int .i64 (ov:Int))) (fun g e=>by injection e with e;exact .inr (by omega))) hk4 (fun g e=>.inl e);have K4:Hid (Kept w w4 (some b)):=kept_two (kept_two HK.out hk2 (fun g e=>.inl e)) hkb (fun g e=>.inl e);have ST4:Hid (Stay w.heap.size wr w4):=(((Stay.refl _ _).step hk2 (fun g e=>by injection e with e;exact .inl (by omega))).step hkb (fun g e=>by injection e with e;exact .inl (by omega)));have D4:=Hid.mk' hD4;obtain ⟨G,hG⟩:∃ G,G=w2.heap.size:=⟨_,rfl⟩
    rw [<- hG] at B4 ⊢;have hGw:wr.heap.size <= G:=by omega
    have hG4:G < w4.heap.size:=by omega
    clear hG hD2 hD3 hD4 hk2 hk3 hk4 hka hkb B2 B3 D1 D2 y1 g1 hbz hbs;obtain ⟨wo,hwo⟩:∃ wo,wo=wr:=⟨_,rfl⟩
    subst hwo;go_loopw [8] (fun iv wr=>∃ (k:Nat) (sp:List Int) (s4:Rd) (a2:Option Addr) (c2:Nat),sp.length=k /\ k <= mv /\ iv=.int .i64 k /\ Bx3 wr G (.int .i64 (cv:Int)) (.int .i64 (ov:Int)) (.slice a2 k c2) /\ OwI wr (G + 1) (.slice a2 k c2) sp /\ Drd wr H b s4 /\ Kept w wr (some b) /\ Stay w.heap.size wo wr /\ G < wr.heap.size /\ (∀ y ∈ sp,tickP y) /\ DG2 s i cv ov mv k sp s4) (fun iv _=>mv - (intOf iv).toNat)
    case atStart=>exact ⟨0,[],t3,none,0,rfl,Nat.zero_le _,rfl,B4.out,OwI.nil _ _,D4.out,K4.out,ST4.out,hG4,by simp,HG2.out⟩
    case round =>
     obtain ⟨k,sp,⟨L4,bd4⟩,a2,c2,hkl,hkm,rfl,hB,hO,hDr4,hK4,hSt,hGz,hsp,hGG⟩:=hrel;clear B4 D4 K4 ST4 hG4;have HB:=Hid.mk' hB;have HO:=Hid.mk' hO;have HD4:=Hid.mk' hDr4;have HK4:=Hid.mk' hK4;have HST:=Hid.mk' hSt;have HSP:=Hid.mk' hsp;have HGG:=Hid.mk' hGG;have HKL:=Hid.mk' hkl;have hc4:=hDr4.c1;have hb0:=hB.c0;have hb1:=hB.c1;have hb2:=hB.c2;clear hB hO hDr4 hK4 hSt hsp hGG hkl hc1;by_cases hgo:k < mv /\ bd4=false
     . obtain ⟨hk5,rfl⟩:=hgo;obtain ⟨⟨yv,t5⟩,hu5⟩:∃ u,dnM 1048576 (L4,false)=u:=⟨_,rfl⟩
       have hyv:yv <= 1048576:=by have:=dnM_le 1048576 (L4,false);rw [hu5] at this;exact this
       have HU5:=Hid.mk' hu5;have HDd:Hid (Drd wr.drew H b (L4,false)):=HD4.out.kept (Kept.drew wr none) (fun g e=>by cases e);have hki:(k:Int) < (mv:Int):=by omega
       have hb2d:wr.drew.cell? ⟨G,2,none⟩=some (.slice a2 k c2):=(HB.out.kept (Kept.drew wr none) (by simp)).c2;have hzw4:=HK4.out.size;clear hu5;go_wp2;refine wp_region_held_drew (S:=fun _=>True) (by kernel_rfl) trivial (fun _=>?_);refine htI 0 ?_ rfl (by kernel_rfl) id ?_ trivial <| htI 2 ?_ rfl (by kernel_rfl) id ?_ trivial ?_
       all_goals try (intro w h;(try simp only [st3] at h ⊢);go_simp <;> with_reducible rfl)
       (try simp only [st3]);refine wpAnyH_ready (rs:=[1,3]) (by kernel_rfl) (by simp) ?_;refine AllReadyH.cons rfl (fun K hK=>?b1) (AllReadyH.cons rfl (fun K hK=>?b3) AllReadyH.nil)
       case b1 =>
        go_simp;refine hK.out _ _ trivial (fun _=>?_);clear hK K;refine rdy 3 (by kernel_rfl) rfl (fun K hK=>?_);go_simp;go_wp2_with (go_at_call 26;refine (rnum_at HDd.out 1048576 (by rfl) (by omega) HU5.out).mono ?_;rintro e w6 ⟨rfl,hD6,hk6⟩);refine hK.out _ _ trivial (fun _=>?_);clear hK K;have B6:=Hid.mk' ((HB.out.kept (Kept.drew wr none) (by simp)).kept hk6 (by intro e;injection e with e;omega));have O6:=Hid.mk' ((HO.out.kept (Kept.drew wr none)).keptR hk6 (fun g e ec=>by have:=(HO.out.lt g e).1;injection ec with ec;omega));have hz6:wr.heap.size <= w6.heap.size:=hk6.size;obtain ⟨v7,w7,hr7,hO7,hk7,hv7⟩:=O6.out.grow (yv:Int) (by have:=HKL.out;omega) (by omega);obtain ⟨a5,c5,hv5,_,_⟩:=lie_own (by omega) hO7;have hln:(sp ++ [(yv:Int)]).length=k + 1:=by rw [List.length_append,HKL.out];rfl
        rw [hln] at hv5;subst hv5;have HR:=Hid.mk' hr7;have hne7:(Value.slice a2 k c2).ownBlock ≠ some G:=fun e=>by have:=(HO.out.lt G e).1;omega
        have B7:=Hid.mk' (B6.out.kept hk7 hne7);have D7:Hid (Drd w7 H b t5):=hD6.kept hk7 (fun g e=>by have:=(HO.out.lt g e).1;omega);have K7:Hid (Kept w w7 (some b)):=kept_two (kept_two (kept_two HK4.out (Kept.drew wr (some b)) (fun g e=>.inl e)) hk6 (fun g e=>.inl e)) hk7 (fun g e=>by have:=(HO.out.lt g e).1;exact .inr (by omega));have ST7:Hid (Stay w.heap.size wo w7):=((HST.out.step (Kept.drew wr none) (fun g e=>by cases e)).step hk6 (fun g e=>by injection e with e;exact .inl (by omega))).step hk7 (fun g e=>by have:=(HO.out.lt g e).1;exact .inr (by omega));have OO7:=Hid.mk' hO7;have b62:=B6.out.c2;have b6a:(w6.alloc (.cells #[.int .i64 (yv:Int)] 3)).cell? ⟨G,2,none⟩=some (.slice a2 k c2):=(B6.out.kept (Kept.alloc w6 _ _ _ none) (by simp)).c2;have b72:=B7.out.c2;have f72:=B7.out.f2;have hz7:=hk7.size;clear hr7 hO7 hk7 hv7 hk6 hD6 hln hne7;refine rdy 4 (by kernel_rfl) rfl (fun K hK=>?_);go_simp;refine hK.out _ _ trivial (fun _=>?_);clear hK K;refine rdy 5 (by kernel_rfl) rfl (fun K hK=>?_);rw [if_pos (by rfl)];refine wp_app _ _ _ (by rfl) (by rfl) (by rfl) HR.out ?_;try simp only [Act.put,st3]
        refine hK.out _ _ trivial (fun _=>?_);clear hK K;refine htI 6 ?_ rfl (by kernel_rfl) id ?_ trivial ?_
        all_goals try (intro w h;(try simp only [st3] at h ⊢);go_simp <;> with_reducible rfl)
        (try simp only [st3]);refine rdy 7 (by kernel_rfl) rfl (fun K hK=>?_);go_simp;refine hK.out _ _ trivial (fun _=>?_);clear hK K;refine wpAnyH_done (by kernel_rfl) ?_ _;clear b62 b6a b72 f72 B6 O6 HR;go_wp2;go_roundw
        case rel=>exact ⟨k + 1,sp ++ [(yv:Int)],t5,a5,c5,by rw [List.length_append,HKL.out];rfl,by omega,by go_num,B7.out.s2 _,OO7.out.keptR (dkept_set w7 G 2 _) (fun g e ec=>by have:=(OO7.out.lt g e).1;injection ec with ec;omega),D7.out.kept (dkept_set w7 G 2 _) (fun g e=>by injection e with e;omega),kept_two K7.out (dkept_set w7 G 2 _) (fun g e=>by injection e with e;exact .inr (by omega)),ST7.out.step (dkept_set w7 G 2 _) (fun g e=>by injection e with e;exact .inr (by omega)),by simp [World.setCell];omega,fun y hy=>by rcases List.mem_append.1 hy with q | q;(exact HSP.out y q);(simp at q;subst q;unfold tickP;omega),HGG.out.step hk5 HU5.out⟩
        case measure=>simp [intOf];omega
       case b3 =>
        go_simp;go_wp2_with (go_at_call 26;refine (rnum_at HDd.out 1048576 (by rfl) (by omega) HU5.out).mono ?_;rintro e w6 ⟨rfl,hD6,hk6⟩);refine hK.out _ _ trivial (fun _=>?_);clear hK K;have B6:=Hid.mk' ((HB.out.kept (Kept.drew wr none) (by simp)).kept hk6 (by intro e;injection e with e;omega));have O6:=Hid.mk' ((HO.out.kept (Kept.drew wr none)).keptR hk6 (fun g e ec=>by have:=(HO.out.lt g e).1;injection ec with ec;omega));have hz6:wr.heap.size <= w6.heap.size:=hk6.size;obtain ⟨v7,w7,hr7,hO7,hk7,hv7⟩:=O6.out.grow (yv:Int) (by have:=HKL.out;omega) (by omega);obtain ⟨a5,c5,hv5,_,_⟩:=lie_own (by omega) hO7;have hln:(sp ++ [(yv:Int)]).length=k + 1:=by rw [List.length_append,HKL.out];rfl
        rw [hln] at hv5;subst hv5;have HR:=Hid.mk' hr7;have hne7:(Value.slice a2 k c2).ownBlock ≠ some G:=fun e=>by have:=(HO.out.lt G e).1;omega
        have B7:=Hid.mk' (B6.out.kept hk7 hne7);have D7:Hid (Drd w7 H b t5):=hD6.kept hk7 (fun g e=>by have:=(HO.out.lt g e).1;omega);have K7:Hid (Kept w w7 (some b)):=kept_two (kept_two (kept_two HK4.out (Kept.drew wr (some b)) (fun g e=>.inl e)) hk6 (fun g e=>.inl e)) hk7 (fun g e=>by have:=(HO.out.lt g e).1;exact .inr (by omega));have ST7:Hid (Stay w.heap.size wo w7):=((HST.out.step (Kept.drew wr none) (fun g e=>by cases e)).step hk6 (fun g e=>by injection e with e;exact .inl (by omega))).step hk7 (fun g e=>by have:=(HO.out.lt g e).1;exact .inr (by omega));have OO7:=Hid.mk' hO7;have b62:=B6.out.c2;have b6a:(w6.alloc (.cells #[.int .i64 (yv:Int)] 3)).cell? ⟨G,2,none⟩=some (.slice a2 k c2):=(B6.out.kept (Kept.alloc w6 _ _ _ none) (by simp)).c2;have b72:=B7.out.c2;have f72:=B7.out.f2;have hz7:=hk7.size;clear hr7 hO7 hk7 hv7 hk6 hD6 hln hne7;refine wpAnyH_ready (rs:=[1,4]) (by kernel_rfl) (by simp) ?_;refine AllReadyH.cons rfl (fun K hK=>?d1) (AllReadyH.cons rfl (fun K hK=>?d4) AllReadyH.nil)
        case d1 =>
         go_simp;refine hK.out _ _ trivial (fun _=>?_);clear hK K;refine rdy 4 (by kernel_rfl) rfl (fun K hK=>?_);go_simp;refine hK.out _ _ trivial (fun _=>?_);clear hK K;refine rdy 5 (by kernel_rfl) rfl (fun K hK=>?_);rw [if_pos (by rfl)];refine wp_app _ _ _ (by rfl) (by rfl) (by rfl) HR.out ?_;try simp only [Act.put,st3]
         refine hK.out _ _ trivial (fun _=>?_);clear hK K;refine htI 6 ?_ rfl (by kernel_rfl) id ?_ trivial ?_
         all_goals try (intro w h;(try simp only [st3] at h ⊢);go_simp <;> with_reducible rfl)
         (try simp only [st3]);refine rdy 7 (by kernel_rfl) rfl (fun K hK=>?_);go_simp;refine hK.out _ _ trivial (fun _=>?_);clear hK K;refine wpAnyH_done (by kernel_rfl) ?_ _;clear b62 b6a b72 f72 B6 O6 HR;go_wp2;go_roundw
         case rel=>exact ⟨k + 1,sp ++ [(yv:Int)],t5,a5,c5,by rw [List.length_append,HKL.out];rfl,by omega,by go_num,B7.out.s2 _,OO7.out.keptR (dkept_set w7 G 2 _) (fun g e ec=>by have:=(OO7.out.lt g e).1;injection ec with ec;omega),D7.out.kept (dkept_set w7 G 2 _) (fun g e=>by injection e with e;omega),kept_two K7.out (dkept_set w7 G 2 _) (fun g e=>by injection e with e;exact .inr (by omega)),ST7.out.step (dkept_set w7 G 2 _) (fun g e=>by injection e with e;exact .inr (by omega)),by simp [World.setCell];omega,fun y hy=>by rcases List.mem_append.1 hy with q | q;(exact HSP.out y q);(simp at q;subst q;unfold tickP;omega),HGG.out.step hk5 HU5.out⟩
         case measure=>simp [intOf];omega
        case d4 =>
         go_simp;refine hK.out _ _ trivial (fun _=>?_);clear hK K;refine rdy 1 (by kernel_rfl) rfl (fun K hK=>?_);go_simp;refine hK.out _ _ trivial (fun _=>?_);clear hK K;refine rdy 5 (by kernel_rfl) rfl (fun K hK=>?_);rw [if_pos (by rfl)];refine wp_app _ _ _ (by rfl) (by rfl) (by rfl) HR.out ?_;try simp only [Act.put,st3]
         refine hK.out _ _ trivial (fun _=>?_);clear hK K;refine htI 6 ?_ rfl (by kernel_rfl) id ?_ trivial ?_
         all_goals try (intro w h;(try simp only [st3] at h ⊢);go_simp <;> with_reducible rfl)
         (try simp only [st3]);refine rdy 7 (by kernel_rfl) rfl (fun K hK=>?_);go_simp;refine hK.out _ _ trivial (fun _=>?_);clear hK K;refine wpAnyH_done (by kernel_rfl) ?_ _;clear b62 b6a b72 f72 B6 O6 HR;go_wp2;go_roundw
         case rel=>exact ⟨k + 1,sp ++ [(yv:Int)],t5,a5,c5,by rw [List.length_append,HKL.out];rfl,by omega,by go_num,B7.out.s2 _,OO7.out.keptR (dkept_set w7 G 2 _) (fun g e ec=>by have:=(OO7.out.lt g e).1;injection ec with ec;omega),D7.out.kept (dkept_set w7 G 2 _) (fun g e=>by injection e with e;omega),kept_two K7.out (dkept_set w7 G 2 _) (fun g e=>by injection e with e;exact .inr (by omega)),ST7.out.step (dkept_set w7 G 2 _) (fun g e=>by injection e with e;exact .inr (by omega)),by simp [World.setCell];omega,fun y hy=>by rcases List.mem_append.1 hy with q | q;(exact HSP.out y q);(simp at q;subst q;unfold tickP;omega),HGG.out.step hk5 HU5.out⟩
         case measure=>simp [intOf];omega
     . have hex:(¬ k < mv) \/ (k < mv /\ bd4=true):=by
        cases bd4 <;> simp at hgo ⊢ <;> omega
       have hkm2:k=mv \/ ((L4,bd4):Rd).2=true:=by
        rcases hex with q | q
        . exact .inl (by omega)
        . exact .inr q.2
       have hP2:=HPl.out.stay HST.out;obtain ⟨a3,c3,e3,hI3,hb3⟩:=HO.out.ints (fun x hx=>by have:=HSP.out x hx;unfold tickP at this;omega);injection e3 with e4 e5 e6;subst e4 e6;clear e5;have hzw4:=HK4.out.size;have hvl:=HPl.out.lt;obtain ⟨v5,W5,hr5,hP5,hk5⟩:=PlS.grow (p:=⟨(cv:Int),(ov:Int),sp⟩) hP2 hI3 (fun bb e=>⟨fun ec=>by have h1:=(hb3 bb e).1;have h2:=(hvl _ ec).2;omega,(hb3 bb e).2,by have h1:=(hb3 bb e).1;omega⟩) (by have:=HIL.out;omega) (by omega);obtain ⟨a6,c6,hv6⟩:=hP5.shape;have hln:(l ++ [(⟨(cv:Int),(ov:Int),sp⟩:Pl)]).length=i + 1:=by rw [List.length_append,HIL.out];rfl
       rw [hln] at hv6;subst hv6
       have hr6:(Builtin.append_ #[47,47] 47 #[.slice la i lc,.slice (some ⟨wr.heap.size,0,none⟩) 1 1]).run Tryz.prog (wr.alloc (.cells #[.int .i64 (cv:Int),.int .i64 (ov:Int),.slice a2 k c2] 79))=.ok (.slice a6 (i + 1) c6) W5:=by
        have:=hr5;simp only [plB,HKL.out] at this;exact this
       have HR:=Hid.mk' hr6;have HP5:=Hid.mk' hP5;have K5:Hid (Kept w W5 (some b)):=kept_two HK4.out hk5 (fun g e=>.inr (hvl g e).1);have D5:Hid (Drd W5 H b (L4,bd4)):=HD4.out.kept hk5 (fun g e=>by have:=(hvl g e).1;omega);have G5:=Hid.mk' (HGG.out.out HG.out hkm2)
       have TY5:Hid (∀ p ∈ l ++ [(⟨(cv:Int),(ov:Int),sp⟩:Pl)],tickP p.cycle /\ tickP p.offset):=fun p hp=>by
        rcases List.mem_append.1 hp with q | q
        . exact HTy.out p q
        . simp at q;subst q;unfold tickP;dsimp only;omega
       clear hr5 hr6 hP5 hk5 hI3 hb3 hP2 hvl hkm2 hgo;rcases hex with hex | ⟨hex,rfl⟩
       . have hki:¬ (k:Int) < (mv:Int):=by omega
         go_wp2_with (at_builtin;refine wpList_app (by rfl) _ _ _ (by rfl) (by rfl) (by rfl) HR.out ?_);go_roundw
         case rel=>exact ⟨i + 1,_,(L4,bd4),a6,c6,by rw [List.length_append,HIL.out];rfl,by omega,by go_num,rfl,HP5.out,D5.out,K5.out,TY5.out,G5.out⟩
         case measure=>simp [intOf];omega
       . have hki:(k:Int) < (mv:Int):=by omega
         go_wp2_with (at_builtin;refine wpList_app (by rfl) _ _ _ (by rfl) (by rfl) (by rfl) HR.out ?_);go_roundw
         case rel=>exact ⟨i + 1,_,(L4,true),a6,c6,by rw [List.length_append,HIL.out];rfl,by omega,by go_num,rfl,HP5.out,D5.out,K5.out,TY5.out,G5.out⟩
         case measure=>simp [intOf];omega
abbrev zD:Array Value:=zS
structure Dst (w wr:World) (H b R G:Nat) (s':Rd) (c:Array Value):Prop where
 kept:Kept w wr (some b)
 rd:Drd wr H b s'
 rb:wr.rowIs R 49 12 (fS zD)
 gb:wr.rowIs G 49 12 (fS c)
 hR:w.heap.size <= R
 RG:R < G
 Gz:G < wr.heap.size
 hH:H <= w.heap.size
theorem Dst.num {w wr w':World} {H b R G:Nat} {s' s2:Rd} {c:Array Value} (h:Dst w wr H b R G s' c) (k:Kept wr w' (some b)) (hd:Drd w' H b s2):Dst w w' H b R G s2 c:=by
 have h1:=h.rd.lt;have h2:=h.hH;have h3:=h.hR;have h4:=h.RG;exact ⟨kept_two h.kept k (fun g e=>.inl e),hd,row_kept h.rb k (fun e=>by injection e with e;omega),row_kept h.gb k (fun e=>by injection e with e;omega),h.hR,h.RG,Nat.lt_of_lt_of_le h.Gz k.size,h.hH⟩
theorem Dst.row {w wr w':World} {H b R G:Nat} {s':Rd} {c:Array Value} {r:Option Nat} (h:Dst w wr H b R G s' c) (k:Kept wr w' r) (hr:∀ g,r=some g -> G < g):Dst w w' H b R G s' c:=by
 have h2:=h.hH;have h3:=h.hR;have h4:=h.RG;exact ⟨kept_two h.kept k (fun g e=>by have:=hr g e;exact .inr (by omega)),h.rd.kept k (fun g e=>by have:=hr g e;omega),row_kept h.rb k (fun e=>by have:=hr R e.symm;omega),row_kept h.gb k (fun e=>by have:=hr G e.symm;omega),h.hR,h.RG,Nat.lt_of_lt_of_le h.Gz k.size,h.hH⟩
theorem Dst.put {w wr:World} {H b R G:Nat} {s':Rd} {c:Array Value} (h:Dst w wr H b R G s' c) (j:Nat) (v:Value) (hj:j < c.size):Dst w (wr.setCell ⟨G,j,none⟩ v) H b R G s' (c.setIfInBounds j v):=by
 have h2:=h.hH;have h3:=h.hR;have h4:=h.RG;exact ⟨kept_two h.kept (dkept_set wr G j v) (fun g e=>by injection e with e;exact .inr (by omega)),h.rd.kept (dkept_set wr G j v) (fun g e=>by injection e with e;omega),h.rb.setOther (by show R ≠ G;omega) v,(h.gb.set j v).congr (fun i _=>fS_set c j v hj i),h.hR,h.RG,by simpa [World.setCell] using h.Gz,h.hH⟩
theorem Dst.box {w wr w':World} {H b R G:Nat} {s':Rd} {c:Array Value} (h:Dst w wr H b R G s' c) {g j:Nat} (hg:G < g) (v:Value):Dst w (wr.setCell ⟨g,j,none⟩ v) H b R G s' c:=h.row (dkept_set wr g j v) (fun x e=>by injection e with e;omega)
theorem Stay.trans {base:Nat} {a b c:World} (h:Stay base a b) (k:Stay base b c):Stay base a c:=⟨Nat.le_trans h.size k.size,fun i h1 h2=>(k.block i h1 (Nat.lt_of_lt_of_le h2 h.size)).trans (h.block i h1 h2)⟩
structure Dit (w wr X:World) (H b R G:Nat) (s':Rd) (c:Array Value):Prop where
 st:Dst w X H b R G s' c
 it:Stay (G + 1) wr X
theorem Dit.start {w wr:World} {H b R G:Nat} {s':Rd} {c:Array Value} (h:Dst w wr H b R G s' c):Dit w wr wr H b R G s' c:=⟨h,Stay.refl _ _⟩
theorem Dit.num {w wr X X':World} {H b R G:Nat} {s' s2:Rd} {c:Array Value} (h:Dit w wr X H b R G s' c) (k:Kept X X' (some b)) (hd:Drd X' H b s2):Dit w wr X' H b R G s2 c :=
 ⟨h.st.num k hd,h.it.step k (fun g e=>by injection e with e;have h1:=h.st.rd.lt;have h2:=h.st.hH;have h3:=h.st.hR;have h4:=h.st.RG;exact .inl (by omega))⟩
theorem Dit.new {w wr X X':World} {H b R G:Nat} {s':Rd} {c:Array Value} (h:Dit w wr X H b R G s' c) (k:Kept X X' none):Dit w wr X' H b R G s' c:=⟨h.st.row k (fun g e=>by cases e),h.it.step k (fun g e=>by cases e)⟩
theorem Dit.box {w wr X:World} {H b R G:Nat} {s':Rd} {c:Array Value} (h:Dit w wr X H b R G s' c) {g:Nat} (hg:wr.heap.size <= g) (hG:G < wr.heap.size) (j:Nat) (v:Value):Dit w wr (X.setCell ⟨g,j,none⟩ v) H b R G s' c:=⟨h.st.row (dkept_set X g j v) (fun x e=>by injection e with e;omega),h.it.step (dkept_set X g j v) (fun x e=>by injection e with e;exact .inr (by omega))⟩
theorem bxK_alloc (w:World) (c:Array Value) (t:TypeId):(w.alloc (.cells c t)).rowIs w.heap.size t c.size (fS c):=World.rowIs_alloc w c t _ (fun i hi=>by unfold fS;rw [Array.getElem?_eq_getElem hi];rfl)
theorem bxK_set {w:World} {B n:Nat} {t:TypeId} {c:Array Value} (h:w.rowIs B t n (fS c)) (j:Nat) (v:Value) (hj:j < c.size):(w.setCell ⟨B,j,none⟩ v).rowIs B t n (fS (c.setIfInBounds j v)):=(h.set j v).congr (fun i _=>fS_set c j v hj i)
def ExL (id:Nat) (P:Act -> World -> Prop):Exit -> Act -> World -> Prop
 | .exit j,a,w=>j=id /\ P a w
 | _,_,_=>False
theorem ExL.out {id:Nat} {P:Act -> World -> Prop} {e:Exit} {a:Act} {w:World} (h:ExL id P e a w):e=.exit id /\ P a w:=by
 cases e with
 | exit j=>obtain ⟨rfl,h2⟩:=h;exact ⟨rfl,h2⟩
 | _=>exact h.elim
structure Slots where
 (u1 u5 u6 u7 u8 u9 u10 u11 u12 u13 u14 u15 u16 u17 u18 u19 u20 u21 u22 u23 u24 u25 u26 u27 u28 u29 u30 u31 u32 u33 u34 u35 u36 u37 u38 u39 u40 u41 u42 u43 u44 u45 u46 u47 u48 u49 u50 u51 u52 u53 u54 u55 u56 u57 u58 u59 u60 u61 u62 u63 u64 u65 u66 u67 u68 u69 u70 u71 u72 u73 u74 u75 u76 u77 u78 u79 u80 u81 u82 u83 u84 u85 u86 u87 u88 u89 u90 u91 u92 u93 u94 u95 u96 u97 u98 u99 u100 u101 u102 u103 u104 u105 u106 u107 u108 u109 u110 u111 u112 u113 u114 u115 u116 u117 u118 u119 u120 u121 u122 u123 u124 u125 u126 u127 u128 u129 u130 u131 u132 u133 u134 u135 u136 u137 u138 u139 u140 u141 u142 u143 u144 u145 u146 u147 u148 u149 u150 u151 u152 u153 u154 u155 u156 u157 u158 u159 u160 u161 u162 u163 u164 u165 u166 u167 u168 u169 u170 u171 u172 u173 u174 u175 u176 u177 u178 u179 u180 u181 u182 u183 u184 u185:Value)
def Sl5 (v0 v2 v3 v4:Value) (a:Act):Prop:=∃ u:Slots,a = { tmps:=#[v0,u.u1,v2,v3,v4,u.u5,u.u6,u.u7,u.u8,u.u9,u.u10,u.u11,u.u12,u.u13,u.u14,u.u15,u.u16,u.u17,u.u18,u.u19,u.u20,u.u21,u.u22,u.u23,u.u24,u.u25,u.u26,u.u27,u.u28,u.u29,u.u30,u.u31,u.u32,u.u33,u.u34,u.u35,u.u36,u.u37,u.u38,u.u39,u.u40,u.u41,u.u42,u.u43,u.u44,u.u45,u.u46,u.u47,u.u48,u.u49,u.u50,u.u51,u.u52,u.u53,u.u54,u.u55,u.u56,u.u57,u.u58,u.u59,u.u60,u.u61,u.u62,u.u63,u.u64,u.u65,u.u66,u.u67,u.u68,u.u69,u.u70,u.u71,u.u72,u.u73,u.u74,u.u75,u.u76,u.u77,u.u78,u.u79,u.u80,u.u81,u.u82,u.u83,u.u84,u.u85,u.u86,u.u87,u.u88,u.u89,u.u90,u.u91,u.u92,u.u93,u.u94,u.u95,u.u96,u.u97,u.u98,u.u99,u.u100,u.u101,u.u102,u.u103,u.u104,u.u105,u.u106,u.u107,u.u108,u.u109,u.u110,u.u111,u.u112,u.u113,u.u114,u.u115,u.u116,u.u117,u.u118,u.u119,u.u120,u.u121,u.u122,u.u123,u.u124,u.u125,u.u126,u.u127,u.u128,u.u129,u.u130,u.u131,u.u132,u.u133,u.u134,u.u135,u.u136,u.u137,u.u138,u.u139,u.u140,u.u141,u.u142,u.u143,u.u144,u.u145,u.u146,u.u147,u.u148,u.u149,u.u150,u.u151,u.u152,u.u153,u.u154,u.u155,u.u156,u.u157,u.u158,u.u159,u.u160,u.u161,u.u162,u.u163,u.u164,u.u165,u.u166,u.u167,u.u168,u.u169,u.u170,u.u171,u.u172,u.u173,u.u174,u.u175,u.u176,u.u177,u.u178,u.u179,u.u180,u.u181,u.u182,u.u183,u.u184,u.u185],defers:=[] }
def LFin {α:Type} (w:World) (H b R G:Nat) (s:Rd) (A:Option Addr -> Nat -> Nat -> Array Value) (e:TypeId) (K:Nat) (f:α -> Nat -> Value) (d:α) (B:Nat) (w0:World) (typ:α -> Prop) (src:St -> List α) (tl:St -> List Nat -> List Nat) (wx:World):Prop :=
 ∃ (i:Nat) (l:List α) (s':Rd) (la:Option Addr) (lc:Nat),l.length=i /\ Dst w wx H b R G s' (A la i lc) /\ OwL e K f d wx B (.slice la i lc) l /\ Stay (G + 1) w0 wx /\ (∀ x ∈ l,typ x) /\ SG s (fun S T=>l=src S /\ s'=(tl S T,false))
structure GrS (wr:World) (base:Nat) (v:Value) (l:List (List Int)):Prop where
 ex:∃ r:Nat -> Option Addr × Nat,wr.ownsRow base 50 1 v l.length (cellsL l.length 1 (fun i _=>.slice (r i).1 (l.getD i []).length (r i).2)) /\ (∀ i,i < l.length -> Ints wr (r i).1 (l.getD i []).length (r i).2 (l.getD i [])) /\ (∀ i,i < l.length -> ∀ b,(r i).1=some b -> v.ownBlock ≠ some b.block /\ b.block < wr.heap.size /\ base <= b.block)
theorem GrS.nil (w:World) (base:Nat):GrS w base (.slice none 0 0) []:=⟨⟨fun _=>(none,0),World.ownsRow_nil _ _ _ _,fun i hi=>by simp at hi,fun i hi=>by simp at hi⟩⟩
theorem GrS.stay {w w':World} {base:Nat} {v:Value} {l:List (List Int)} (h:GrS w base v l) (q:Stay base w w'):GrS w' base v l:=by
 obtain ⟨r,h1,h2,h3⟩:=h.ex;exact ⟨⟨r,own_stay h1 q,fun i hi=>(h2 i hi).stay q (fun b e=>(h3 i hi b e).2.2),fun i hi b e=>⟨(h3 i hi b e).1,Nat.lt_of_lt_of_le (h3 i hi b e).2.1 q.size,(h3 i hi b e).2.2⟩⟩⟩
theorem GrS.lt {w:World} {base:Nat} {v:Value} {l:List (List Int)} (h:GrS w base v l):∀ g,v.ownBlock=some g -> base <= g /\ g < w.heap.size:=by
 obtain ⟨r,h1,_,_⟩:=h.ex;exact own_lt h1
theorem GrS.shape {w:World} {base:Nat} {v:Value} {l:List (List Int)} (h:GrS w base v l):∃ a c,v=.slice a l.length c:=by
 obtain ⟨r,h1,_,_⟩:=h.ex;obtain ⟨a,c,e,_⟩:=lie_own (by omega) h1;exact ⟨a,c,e⟩
theorem GrS.grid {w:World} {base:Nat} {v:Value} {l:List (List Int)} (h:GrS w base v l):∃ a c,v=.slice a l.length c /\ Grid w a l.length c l /\ ∀ b,a=some b -> base <= b.block:=by
 obtain ⟨r,h1,h2,_⟩:=h.ex;obtain ⟨a,c,e,hl,hc,hbl⟩:=lie_own (by omega) h1;exact ⟨a,c,e,⟨⟨r,hl,h2⟩,rfl,hc⟩,fun b eb=>(hbl b eb).1⟩
theorem getD_snocG (l:List (List Int)) (p:List Int) (i:Nat):(l ++ [p]).getD i []=if i=l.length then p else l.getD i []:=by
 by_cases h:i=l.length
 . subst h;simp
 . rw [if_neg h];by_cases h2:i < l.length
   . simp [h2,List.getElem?_append_left]
   . rw [List.getD_eq_getElem?_getD,List.getD_eq_getElem?_getD,List.getElem?_eq_none (by simp;omega),List.getElem?_eq_none (by omega)]
theorem GrS.grow {W:World} {base:Nat} {v:Value} {l:List (List Int)} {p:List Int} {a':Option Addr} {cap:Nat} (h:GrS W base v l) (hI:Ints W a' p.length cap p) (hb:∀ b,a'=some b -> v.ownBlock ≠ some b.block /\ b.block < W.heap.size /\ base <= b.block) (hk:l.length <= 40) (hbase:base <= W.heap.size) :
 ∃ v' W5,(Builtin.append_ #[44,44] 44 #[v,.slice (some ⟨W.heap.size,0,none⟩) 1 1]).run Tryz.prog (W.alloc (slB a' p.length cap))=.ok v' W5 /\ GrS W5 base v' (l ++ [p]) /\ Kept W W5 v.ownBlock:=by
 obtain ⟨r,ho,hi,hbb⟩:=h.ex;obtain ⟨i0,hi0,hz0,hz1,hz2⟩:=info_parts Tryz.infoSl;have k4:Kept W (W.alloc (slB a' p.length cap)) none:=Kept.alloc _ _ _ _ _;have z4:(W.alloc (slB a' p.length cap)).heap.size=W.heap.size + 1:=by simp
 have q0':∀ j,j < 1 -> (W.alloc (slB a' p.length cap)).cell? ⟨W.heap.size,0 + j,none⟩=some (.slice a' p.length cap):=fun j hj=>by
  have:j=0:=by omega
  subst this;exact alloc_at2 _ _ _ rfl rfl
 generalize W.alloc (slB a' p.length cap)=W4 at *;have own4:=own_keptR' ho k4 (fun g _=>by simp);obtain ⟨v',W5,hr,g1,g2,g3⟩:=grow_run (t:=44) (ty:=44) (c:=1) Tryz.uSls hi0 hz0 hz1 hz2 rfl (by omega) (by omega) (g:=fun _=>.slice a' p.length cap) own4 q0' (fun j=>rfl) (by omega) (by omega);have g2':Kept W4 W5 v.ownBlock:=g2;have hk45:Kept W W5 v.ownBlock:=⟨g2'.os.trans k4.os,g2'.tape.trans k4.tape,g2'.output.trans k4.output,Nat.le_trans k4.size g2'.size,fun i hi hne=>(g2'.block i (Nat.lt_of_lt_of_le hi k4.size) hne).trans (k4.block i hi (by simp))⟩
 have vfr:∀ g,v'.ownBlock=some g -> v.ownBlock=some g \/ W.heap.size <= g:=fun g hg=>by
  rcases g3 with e | e
  . exact .inl (e.symm.trans hg)
  . rw [e] at hg;injection hg with hg;exact .inr (by omega)
 refine ⟨v',W5,hr,⟨⟨fun i=>if i=l.length then (a',cap) else r i,?_,fun i hik=>?_,fun i hik b e=>?_⟩⟩,hk45⟩
 . rw [List.length_append]
   have he:cellsL (l.length + 1) 1 (fun i _=>if i=l.length then Value.slice a' p.length cap else .slice (r i).1 (l.getD i []).length (r i).2)=cellsL (l.length + [p].length) 1 (fun i _=>Value.slice ((if i=l.length then (a',cap) else r i):Option Addr × Nat).1 ((l ++ [p]).getD i []).length ((if i=l.length then (a',cap) else r i):Option Addr × Nat).2):=by
    show cellsL (l.length + 1) 1 _=cellsL (l.length + 1) 1 _
    unfold cellsL;refine List.map_congr_left fun q _=>?_
    show (if q / 1=l.length then Value.slice a' p.length cap else .slice (r (q / 1)).1 (l.getD (q / 1) []).length (r (q / 1)).2)=.slice ((if q / 1=l.length then (a',cap) else r (q / 1)):Option Addr × Nat).1 ((l ++ [p]).getD (q / 1) []).length ((if q / 1=l.length then (a',cap) else r (q / 1)):Option Addr × Nat).2
    rw [getD_snocG];by_cases e:q / 1=l.length
    . rw [if_pos e,if_pos e,if_pos e]
    . rw [if_neg e,if_neg e,if_neg e]
   rw [<- he];exact g1
 . rw [getD_snocG];by_cases e:i=l.length
   . rw [if_pos e];simp only [if_pos e];exact hI.keptS hk45 (fun b eb ec=>(hb b eb).1 ec.symm)
   . rw [if_neg e];simp only [if_neg e];have hil:i < l.length:=by rw [List.length_append] at hik;simp at hik;omega
     exact (hi i hil).keptS hk45 (fun b eb ec=>(hbb i hil b eb).1 ec.symm)
 . have hs5:=hk45.size;by_cases ei:i=l.length
   . simp only [if_pos ei] at e;obtain ⟨p1,p2,p3⟩:=hb b e;exact ⟨fun ec=>by rcases vfr _ ec with q | q;exact p1 q;omega,by omega,p3⟩
   . simp only [if_neg ei] at e;have hil:i < l.length:=by rw [List.length_append] at hik;simp at hik;omega
     obtain ⟨p1,p2,p3⟩:=hbb i hil b e;exact ⟨fun ec=>by rcases vfr _ ec with q | q;exact p1 q;omega,by omega,p3⟩
def LFinG (w:World) (H b R G:Nat) (s:Rd) (A:Option Addr -> Nat -> Nat -> Array Value) (B:Nat) (w0:World) (src:St -> List (List Int)) (tl:St -> List Nat -> List Nat) (wx:World):Prop :=
 ∃ (i:Nat) (l:List (List Int)) (s':Rd) (la:Option Addr) (lc:Nat),l.length=i /\ Dst w wx H b R G s' (A la i lc) /\ GrS wx B (.slice la i lc) l /\ Stay (G + 1) w0 wx /\ SG s (fun S T=>l=src S /\ s'=(tl S T,false))
def RG (s:Rd) (n i k:Nat) (sp:List Int) (s':Rd):Prop:=∀ S T,DSok S -> s=(siteL S ++ T,false) -> i < S.between.length /\ n=(S.between.getD i []).length /\ sp=(S.between.getD i []).take k /\ s'=(smlI ((S.between.getD i []).drop k) ++ ((S.between.drop (i + 1)).flatMap smlI ++ tl3 S T),false)
theorem RG.start {s s':Rd} {n i:Nat} {l:List (List Int)} (h:LG St.between smlI tl3 s i l s') (hn:SG s (fun S _=>n=S.between.length /\ n=S.groups.length)) (hi:i < n):RG s n i 0 [] s':=by
 intro S T hS hs;obtain ⟨h1,h2,h3⟩:=h S T hS hs;obtain ⟨h4,h5⟩:=hn S T hS hs;have hix:i < S.between.length:=by omega
 have e:S.between.getD i []=S.between[i]:=by simp [hix]
 have hb:=hS.bt _ (List.getElem_mem hix);refine ⟨hix,by rw [e];omega,rfl,?_⟩;rw [h3,e,List.drop_eq_getElem_cons hix,List.flatMap_cons,List.append_assoc];rfl
theorem RG.step {s s' s2:Rd} {n i k y:Nat} {sp:List Int} (h:RG s n i k sp s') (hk:k < n) (e:dnM 1048576 s'=(y,s2)):RG s n i (k + 1) (sp ++ [(y:Int)]) s2:=by
 intro S T hS hs;obtain ⟨h1,h2,h3,h4⟩:=h S T hS hs;have er:S.between.getD i []=S.between[i]:=by simp [h1]
 have hb:=hS.bt _ (List.getElem_mem h1);rw [er] at h2 h3 h4 ⊢;generalize S.between[i]=row at *;have hkp:k < row.length:=by omega
 have ht:=hb.2 _ (List.getElem_mem hkp);unfold tickP at ht;have ed:row.drop k=row[k] :: row.drop (k + 1):=List.drop_eq_getElem_cons hkp;have e':smlI (row[k] :: row.drop (k + 1))=sml (row[k]).toNat ++ smlI (row.drop (k + 1)):=by unfold smlI;rw [List.flatMap_cons]
 rw [h4,ed,e',List.append_assoc,dn_fwd (by omega) (by omega)] at e;injection e with a1 a2;refine ⟨h1,h2,?_,a2.symm⟩;rw [List.take_succ_eq_append_getElem hkp,<- h3,<- a1];have hy:((row[k].toNat:Nat):Int)=row[k]:=by omega
 rw [hy]
theorem RG.out {s s' s2:Rd} {n i:Nat} {l:List (List Int)} {sp:List Int} (h:RG s n i n sp s2) (h0:LG St.between smlI tl3 s i l s'):LG St.between smlI tl3 s (i + 1) (l ++ [sp]) s2:=by
 intro S T hS hs;obtain ⟨h1,h2,h3,h4⟩:=h S T hS hs;obtain ⟨g1,g2,g3⟩:=h0 S T hS hs;have er:S.between.getD i []=S.between[i]:=by simp [h1]
 rw [h2,List.take_length,er] at h3;rw [h2,List.drop_length] at h4;refine ⟨by omega,?_,?_⟩
 . rw [List.take_succ_eq_append_getElem h1,<- g2,h3]
 . rw [h4];simp [smlI]
structure Dre (w w0 wr:World) (H b R G:Nat) (s':Rd) (c:Array Value):Prop where
 kept:Kept w wr (some b)
 rd:Drd wr H b s'
 rb:wr.rowIs R 49 12 (fS c)
 st:Stay (G + 1) w0 wr
 hR:w.heap.size <= R
 RG:R < G
 hH:H <= w.heap.size
theorem Dre.start {w wr:World} {H b R G:Nat} {s':Rd} {c:Array Value} (h:Dst w wr H b R G s' c):Dre w wr wr H b R G s' zD:=⟨h.kept,h.rd,h.rb,Stay.refl _ _,h.hR,h.RG,h.hH⟩
theorem Dre.put {w w0 wr:World} {H b R G:Nat} {s':Rd} {c:Array Value} (h:Dre w w0 wr H b R G s' c) (j:Nat) (v:Value) (hj:j < c.size):Dre w w0 (wr.setCell ⟨R,j,none⟩ v) H b R G s' (c.setIfInBounds j v):=by
 have h2:=h.hH;have h3:=h.hR;have h4:=h.RG;exact ⟨kept_two h.kept (dkept_set wr R j v) (fun g e=>by injection e with e;exact .inr (by omega)),h.rd.kept (dkept_set wr R j v) (fun g e=>by injection e with e;omega),bxK_set h.rb j v hj,h.st.step (dkept_set wr R j v) (fun g e=>by injection e with e;exact .inl (by omega)),h.hR,h.RG,h.hH⟩
theorem setD12 (v0 v1 v2 v3 v4 v5 v6 v7 v8 v9 v10 v11:Value):((((((((((((zD.setIfInBounds 0 v0).setIfInBounds 1 v1).setIfInBounds 2 v2).setIfInBounds 3 v3).setIfInBounds 4 v4).setIfInBounds 5 v5).setIfInBounds 6 v6).setIfInBounds 7 v7).setIfInBounds 8 v8).setIfInBounds 9 v9).setIfInBounds 10 v10).setIfInBounds 11 v11)=#[v0,v1,v2,v3,v4,v5,v6,v7,v8,v9,v10,v11]:=by simp only [zD,List.setIfInBounds_toArray,List.set_cons_zero,List.set_cons_succ]
theorem Dre.all {w wx:World} {H b R G:Nat} {s':Rd} {c:Array Value} (h:Dst w wx H b R G s' c) (v0 v1 v2 v3 v4 v5 v6 v7 v8 v9 v10 v11:Value):Dre w wx ((((((((((((wx.setCell ⟨R,0,none⟩ v0).setCell ⟨R,1,none⟩ v1).setCell ⟨R,2,none⟩ v2).setCell ⟨R,3,none⟩ v3).setCell ⟨R,4,none⟩ v4).setCell ⟨R,5,none⟩ v5).setCell ⟨R,6,none⟩ v6).setCell ⟨R,7,none⟩ v7).setCell ⟨R,8,none⟩ v8).setCell ⟨R,9,none⟩ v9).setCell ⟨R,10,none⟩ v10).setCell ⟨R,11,none⟩ v11) H b R G s' #[v0,v1,v2,v3,v4,v5,v6,v7,v8,v9,v10,v11]:=by
 have e:=((((((((((((Dre.start h).put 0 v0 (by simp)).put 1 v1 (by simp)).put 2 v2 (by simp)).put 3 v3 (by simp)).put 4 v4 (by simp)).put 5 v5 (by simp)).put 6 v6 (by simp)).put 7 v7 (by simp)).put 8 v8 (by simp)).put 9 v9 (by simp)).put 10 v10 (by simp)).put 11 v11 (by simp);rw [setD12] at e;exact e
structure SiP (w:World) (H b:Nat) (s:Rd) (X:Sa) (S:St) (w':World) (s':Rd):Prop where
 sat:∀ w'',Stay w.heap.size w' w'' -> Sat w'' X S
 rd:Drd w' H b s'
 kept:Kept w w' (some b)
 fwd:∀ S0 T,DSok S0 -> s=(siteL S0 ++ T,false) -> S=S0 /\ s'=(T,false)
def SiR (w:World) (H b:Nat) (s:Rd) (e:Ending) (w':World):Prop:=∃ X S s',e=.returned (siteV X S) /\ SiP w H b s X S w' s'
theorem dsok_rok {S:St} (hR:Rok S) (hs:siteB S=true):DSok S:=by
 have hP:=pos_may hs;have hO:=hP.ok;have hs':=hs;unfold siteB at hs';simp only [Bool.and_eq_true,allB_iff] at hs';obtain ⟨⟨⟨⟨⟨⟨⟨⟨⟨hc,h1⟩,hg⟩,ha⟩,hb⟩,hp⟩,hv⟩,he⟩,hcy⟩,hpl⟩:=hs';unfold ownB timeB at h1;simp only [Bool.and_eq_true,inB_iff] at h1;have hng:=hO.ng;have hpw:2 ^ S.groups.length <= 65536:=Nat.pow_le_pow_right (n:=2) (j:=16) (by omega) (by omega);refine ⟨⟨by omega,by omega⟩,hR.gn,fun g hgm=>?_,hR.an,fun x hx=>?_,hR.bn,hR.bt,hR.pn,fun p hpm=>?_,hR.en,fun e hem=>?_,hR.own,hR.ln,hR.pl⟩
 . obtain ⟨i,hi,rfl⟩:=List.getElem_of_mem hgm;have h2:=hg i hi;have e:S.gr i=S.groups[i]:=by unfold St.gr;simp [hi]
   unfold groupB at h2;rw [e] at h2;simp only [Bool.and_eq_true,Bool.or_eq_true,decide_eq_true_eq] at h2;refine ⟨?_,(hR.gr _ hgm).2⟩;rcases h2.1.1 with q | q <;> omega
 . obtain ⟨i,hi,rfl⟩:=List.getElem_of_mem hx;have h3:=ha i (by have:=hO.na;omega);have e:S.ap i=S.apart[i]:=by unfold St.ap;simp [hi]
   unfold apartB at h3;rw [e] at h3;simp only [Bool.and_eq_true,decide_eq_true_eq] at h3;have:=h3.1.1;omega
 . obtain ⟨i,hi,rfl⟩:=List.getElem_of_mem hpm;have h5:=hp i hi;have e:S.ph i=S.phases[i]:=by unfold St.ph;simp [hi]
   unfold phaseB at h5;rw [e] at h5;simp only [Bool.and_eq_true,decide_eq_true_eq] at h5;have h6:=h5.1.1.1.1.1.1.2;exact ⟨by omega,(hR.ph _ hpm).2⟩
 . obtain ⟨i,hi,rfl⟩:=List.getElem_of_mem hem;have h7:=he i hi;have e:S.ey i=S.eyes[i]:=by unfold St.ey;simp [hi]
   have hnp:=hO.np;unfold eyeB at h7;rw [e] at h7;simp only [Bool.and_eq_true,inB_iff] at h7;have h8:=hR.ey _ hem;exact ⟨by omega,h8.2.1,h8.2.2.1,by omega⟩
end Go.Proofs.YtakilpnbjihibaaGreatDoor
