import Derived.Test.YtakilpnbjihibaaGreatDoorP13
import Derived.Test.YtakilpnbjihibaaGreatDoorP16
namespace Go.Proofs.YtakilpnbjihibaaGreatDoor
set_option linter.unusedVariables false
set_option linter.unusedSimpArgs false
set_option maxHeartbeats 16000000
set_option maxRecDepth 100000
section
open Go.RowKit Go.Lib Go.Deep Go.Maps
def suI (U:Sb):List Int:=[(U.sites.length:Int)] ++ U.sites ++ [U.critical]
def weI (D:Wd):List Int:=[D.a,D.b,D.votes,(D.offsets.length:Int)] ++ D.offsets
def nsI (N:Nt) (k:Nat):List Nat:=smlI [(N.sites.length:Int)] ++ (N.sites.take k).flatMap (fun S=>smlI [((writeL S).length:Int)] ++ writeL S)
def nuI (N:Nt) (k:Nat):List Nat:=nsI N N.sites.length ++ smlI [(N.subs.length:Int)] ++ (N.subs.take k).flatMap (fun U=>smlI (suI U))
def nwI (N:Nt) (k:Nat):List Nat:=nuI N N.subs.length ++ smlI [N.low,N.high,N.step,(N.weds.length:Int)] ++ (N.weds.take k).flatMap (fun D=>smlI (weI D))
def netL (N:Nt):List Nat:=nwI N N.weds.length
theorem nsI_succ {N:Nt} {k:Nat} (h:k < N.sites.length):nsI N (k + 1)=nsI N k ++ smlI [((writeL (N.sites.getD k s0)).length:Int)] ++ writeL (N.sites.getD k s0):=by
 unfold nsI;rw [take_snocA (d:=s0) h,List.flatMap_append,List.flatMap_singleton,<- List.append_assoc,<- List.append_assoc]
theorem nuI_succ {N:Nt} {k:Nat} (h:k < N.subs.length):nuI N (k + 1)=nuI N k ++ smlI [((N.subs.getD k u0).sites.length:Int)] ++ smlI (N.subs.getD k u0).sites ++ smlI [(N.subs.getD k u0).critical]:=by
 unfold nuI;rw [take_snocA (d:=u0) h,List.flatMap_append,List.flatMap_singleton,suI,smlI_append,smlI_append,<- List.append_assoc,<- List.append_assoc,<- List.append_assoc]
theorem nwI_succ {N:Nt} {k:Nat} (h:k < N.weds.length):nwI N (k + 1)=nwI N k ++ smlI [(N.weds.getD k d0).a,(N.weds.getD k d0).b,(N.weds.getD k d0).votes,((N.weds.getD k d0).offsets.length:Int)] ++ smlI (N.weds.getD k d0).offsets:=by
 unfold nwI;rw [take_snocA (d:=d0) h,List.flatMap_append,List.flatMap_singleton,weI,smlI_append,<- List.append_assoc,<- List.append_assoc]
theorem nsI_lt (N:Nt) (k:Nat):∀ x ∈ nsI N k,x < 256:=fun x hx=>by
 unfold nsI at hx;rcases List.mem_append.1 hx with hx | hx
 . exact smlI_lt _ x hx
 . obtain ⟨S,_,hx⟩:=List.mem_flatMap.1 hx;rcases List.mem_append.1 hx with hx | hx
   . exact smlI_lt _ x hx
   . exact writeL_lt S x hx
theorem netL_lt (N:Nt):∀ x ∈ netL N,x < 256:=fun x hx=>by
 unfold netL nwI nuI at hx;simp only [List.mem_append,List.mem_flatMap] at hx;rcases hx with ((((hx | hx) | ⟨U,_,hx⟩) | hx) | ⟨U,_,hx⟩)
 . exact nsI_lt N _ x hx
 . exact smlI_lt _ x hx
 . exact smlI_lt _ x hx
 . exact smlI_lt _ x hx
 . exact smlI_lt _ x hx
structure NPos (N:Nt):Prop where
 ns:1 <= N.sites.length /\ N.sites.length <= 12
 nu:1 <= N.subs.length /\ N.subs.length <= 6
 nw:N.weds.length <= 8
 st:∀ i,i < N.sites.length -> siteB (N.sites.getD i s0)=true
 su:∀ i,i < N.subs.length -> (N.subs.getD i u0).sites.length <= 12 /\ (∀ x ∈ (N.subs.getD i u0).sites,0 <= x /\ x <= 11) /\ 0 <= (N.subs.getD i u0).critical /\ (N.subs.getD i u0).critical <= 11
 cy:(1 <= N.low /\ N.low <= 1048576) /\ (1 <= N.high /\ N.high <= 1048576) /\ (1 <= N.step /\ N.step <= 1048576)
 we:∀ i,i < N.weds.length -> (0 <= (N.weds.getD i d0).a /\ (N.weds.getD i d0).a <= 5) /\ (0 <= (N.weds.getD i d0).b /\ (N.weds.getD i d0).b <= 5) /\ (1 <= (N.weds.getD i d0).votes /\ (N.weds.getD i d0).votes <= 1048576) /\ (N.weds.getD i d0).offsets.length <= 8 /\ ∀ x ∈ (N.weds.getD i d0).offsets,0 <= x /\ x <= 1048576
theorem off_next {w:World} {v v':Value} {B:Nat} (h:some B ≠ v.ownBlock) (hB:B < w.heap.size) (m:Moved w v v'):some B ≠ v'.ownBlock:=by
 rcases m with m | ⟨g,m,hg⟩
 . rw [m];exact h
 . rw [m];intro e;injection e with e;omega
theorem wapp {w0 wr w1:World} {a:Option Addr} {n c:Nat} {L:List Nat} {b:Option Addr} {m d:Nat} {l:List Int} (hk:Kept w0 wr none) (hM:Mine wr w0.heap.size a n c L) (hk1:Kept wr w1 none) (hI:Ints w1 b m d l) (hne:0 < m -> ∀ x,b=some x -> x.block < w0.heap.size \/ wr.heap.size <= x.block) (hpos:∀ x ∈ l,0 <= x) (hlen:n + 10 * m <= 1099511627776) :
 Calls Tryz.prog 34 #[.slice a n c,.slice b m d] w1 fun e w'=>∃ a' c',e=.returned (.slice a' (n + (smlI l).length) c') /\ Mine w' w0.heap.size a' (n + (smlI l).length) c' (L ++ smlI l) /\ Kept w0 w' none /\ Kept w1 w' (Value.slice a n c).ownBlock /\ Moved w1 (.slice a n c) (.slice a' (n + (smlI l).length) c'):=by
 have hs:=hk.size;have hs1:=hk1.size;exact (wsmall_any w0.heap.size (hM.kept hk1) (by omega) hI (fun hp x hx=>ne_own hM (hne hp x hx)) hpos hlen).mono fun e w' ⟨a',c',he,hm,hkk,hv⟩=>⟨a',c',he,hm,(hk.tr hk1).newRow hkk (fun i e=>(hM.lt i e).1),hkk,hv⟩
structure Lsb (w0 wr:World) (a:Option Addr) (n c:Nat) (P:List Nat) (bd:Nat):Prop where
 mine:Mine wr w0.heap.size a n c P
 size:n=P.length
 le:n <= bd
 kept:Kept w0 wr none
theorem Lsb.grow {w0 wr w':World} {a a':Option Addr} {n m c c':Nat} {P M Q:List Nat} {bd bd':Nat} (h:Lsb w0 wr a n c P bd) (hm:Mine w' w0.heap.size a' (n + m) c' (P ++ M)) (hk:Kept w0 w' none) (hM:M.length=m) (hQ:Q=P ++ M) (hb:bd + m <= bd'):Lsb w0 w' a' (n + m) c' Q bd':=by
 subst hQ;exact ⟨hm,by rw [List.length_append,h.size,hM],by have:=h.le;omega,hk⟩
theorem Lsb.at0 {w0 wr:World} {a:Option Addr} {n n' c:Nat} {P Q:List Nat} {bd bd':Nat} (h:Lsb w0 wr a n c P bd) (e:Q=P) (hn:n'=n) (hb:bd <= bd'):Lsb w0 wr a n' c Q bd':=by
 subst e hn;exact ⟨h.mine,h.size,by have:=h.le;omega,h.kept⟩
theorem netBytes_any {w:World} {Y:Na} {N:Nt} (h:NetAt w Y N) (hP:NPos N) (hT:Tabb w) (hTb:Table w):Calls Tryz.prog 15 #[netV Y N] w fun e w'=>∃ a' c',e=.returned (.slice a' (netL N).length c') /\ Mine w' w.heap.size a' (netL N).length c' (netL N) /\ Kept w w' none /\ (netL N).length <= 70000:=by
 obtain ⟨ys,ysc,yu,yuc,yd,ydc,X,r,t⟩:=Y;have hk:Kept w (w.alloc (.cells (cy9 ys ysc yu yuc yd ydc N) 26)) none:=Kept.alloc _ _ _ _ _;have HK0:=Hid.mk' hk;have HN:=Hid.mk' (h.kept hk);have HT:=Hid.mk' (hT.kept hk);have HTB:=Hid.mk' (hTb.kept hk);have HPO:=Hid.mk' hP;have hns:=hP.ns;have hnu:=hP.nu;have hnw:=hP.nw;have hcy:=hP.cy;have hs0:(w.alloc (.cells (cy9 ys ysc yu yuc yd ydc N) 26)).heap.size=w.heap.size + 1:=World.size_alloc _ _;have hcs:∀ j v,(cy9 ys ysc yu yuc yd ydc N)[j]? = some v -> ∀ w',Kept (w.alloc (.cells (cy9 ys ysc yu yuc yd ydc N) 26)) w' none -> w'.cell? ⟨w.heap.size,j,none⟩=some v:=fun j v hv w' q=>cell_kept0 (by simp only [World.cell?_alloc_mark];exact hv) q
 have HC:Hid (∀ w',Kept (w.alloc (.cells (cy9 ys ysc yu yuc yd ydc N) 26)) w' none -> w'.cell? ⟨w.heap.size,0,none⟩=some (.slice ys N.sites.length ysc) /\ w'.cell? ⟨w.heap.size,1,none⟩=some (.slice yu N.subs.length yuc) /\ w'.cell? ⟨w.heap.size,2,none⟩=some (.slice yd N.weds.length ydc) /\ w'.cell? ⟨w.heap.size,3,none⟩=some (.int .i64 N.low) /\ w'.cell? ⟨w.heap.size,4,none⟩=some (.int .i64 N.high) /\ w'.cell? ⟨w.heap.size,5,none⟩=some (.int .i64 N.step)):=fun w' q=>⟨hcs 0 _ rfl w' q,hcs 1 _ rfl w' q,hcs 2 _ rfl w' q,hcs 3 _ rfl w' q,hcs 4 _ rfl w' q,hcs 5 _ rfl w' q⟩
 have hI0:Ints ((w.alloc (.cells (cy9 ys ysc yu yuc yd ydc N) 26)).alloc (.cells #[.int .i64 ((N.sites.length:Int))] 3)) (some ⟨(w.alloc (.cells (cy9 ys ysc yu yuc yd ydc N) 26)).heap.size,0,none⟩) 1 1 ([(N.sites.length:Int)]:List Int):=ints_of (w.alloc (.cells (cy9 ys ysc yu yuc yd ydc N) 26)) ([(N.sites.length:Int)]:List Int) 3 (fun x hx=>(by
  simp only [List.mem_cons,List.mem_nil_iff,or_false] at hx;subst hx;omega)) (by simp)
 have hpI0:∀ x ∈ ([(N.sites.length:Int)]:List Int),0 <= x:=fun x hx=>by
  simp only [List.mem_cons,List.mem_nil_iff,or_false] at hx;subst hx;omega
 have hsI0:(smlI ([(N.sites.length:Int)]:List Int)).length <= 10:=smlI_le (m:=1) (fun x hx=>(hI0.rng x hx).2) (by simp);rw [World.size_alloc] at hI0;have HC0:=Hid.mk' (wapp (Kept.refl (w.alloc (.cells (cy9 ys ysc yu yuc yd ydc N) 26)) none) (Mine.empty _ _) (Kept.alloc _ _ _ _ _) hI0 (fun _ x hx=>.inr (by injection hx with hx;subst hx;exact Nat.le_of_eq hs0)) hpI0 (by omega));have HS0:=Hid.mk' hs0;clear h hT hTb hP hk hcs hI0 hpI0 hs0;go_enter Tryz.func15,Tryz.ntmps15;go_wp2_with (go_at_call 34;refine HC0.out.mono ?_;rintro e w1 ⟨a1,c1,rfl,hm1,hk1,_,_⟩;obtain ⟨n0,n1,n2,n3,n4,n5⟩:=HC.out _ hk1);generalize hW0:(w.alloc (.cells (cy9 ys ysc yu yuc yd ydc N) 26))=W0 at *;have HL:Hid (Lsb W0 w1 a1 (0 + (smlI [(N.sites.length:Int)]).length) c1 (nsI N 0) 10):=⟨by simpa [nsI] using hm1,by rw [Nat.zero_add];simp [nsI],by omega,hk1⟩;have hw0:W0.heap.size=w.heap.size + 1:=HS0.out;clear hW0 hm1 hk1 HC0 HS0 n0 n1 n2 n3 n4 n5;go_loopw [3,20] (fun s i wr=>∃ k:Nat,k <= N.sites.length /\ i=.int .i64 k /\ ∃ a1 n1 c1,s=.slice a1 n1 c1 /\ Lsb W0 wr a1 n1 c1 (nsI N k) (10 + 5560 * k)) (fun _ i _=>N.sites.length - (intOf i).toNat)
 case atStart=>exact ⟨0,Nat.zero_le _,rfl,_,_,_,rfl,HL.out.at0 rfl (by omega) (by omega)⟩
 case round =>
  clear HL;obtain ⟨k,hk,rfl,a1,n1,c1,rfl,hL⟩:=hrel;have hle:=hL.le;have hkw:=hL.kept;have HL:=Hid.mk' hL;clear hL;by_cases hlt:k < N.sites.length
  . obtain ⟨sb,so,es,_,hc⟩:=(HN.out.kept hkw).s1.at_ (by omega);dsimp only at es;subst es;have hXk:=(HN.out.kept hkw).s2 k hlt;have e0:=hc k hlt 0 (by omega);have e1:=hc k hlt 1 (by omega);have e2:=hc k hlt 2 (by omega);have e3:=hc k hlt 3 (by omega);have e4:=hc k hlt 4 (by omega);have e5:=hc k hlt 5 (by omega);have e6:=hc k hlt 6 (by omega);have e7:=hc k hlt 7 (by omega);have e8:=hc k hlt 8 (by omega);have e9:=hc k hlt 9 (by omega);have e10:=hc k hlt 10 (by omega);have e11:=hc k hlt 11 (by omega);have hsk:=HPO.out.st k hlt;have HST:=Hid.mk' (nsI_succ hlt);generalize N.sites.getD k s0=S at *;dsimp only at e0 e1 e2 e3 e4 e5 e6 e7 e8 e9 e10 e11 hXk;generalize X k=Xk at *;obtain ⟨xg,xgc,xa,xac,xb,xbc,xp,xpc,xe,xec,xl,xlc⟩:=Xk;dsimp only [stV,Nat.add_zero] at e0 e1 e2 e3 e4 e5 e6 e7 e8 e9 e10 e11
    have hwl:(writeL S).length <= 5544:=by
     have:=siteL_len hXk hsk;unfold writeL;rw [if_pos hsk,List.length_append,sum4_len];omega
    have hkA:Kept wr (wr.alloc (.cells (cx9 xg xgc xa xac xb xbc xp xpc xe xec xl xlc S) 49)) none:=Kept.alloc _ _ _ _ _;have HCW:=Hid.mk' (write_any (hXk.kept hkA) (HT.out.kept (hkw.tr hkA)) (HTB.out.kept (hkw.tr hkA)));have HKA:=Hid.mk' hkA;have hwz:(wr.alloc (.cells (cx9 xg xgc xa xac xb xbc xp xpc xe xec xl xlc S) 49)).heap.size=wr.heap.size + 1:=World.size_alloc _ _;have hwk:=hkw.size;clear hc hXk hkA
    have HI1:Hid (∀ W9:World,Ints (W9.alloc (.cells #[.int .i64 (((writeL S).length:Int))] 3)) (some ⟨W9.heap.size,0,none⟩) 1 1 ([((writeL S).length:Int)]:List Int)):=fun W9=>ints_of W9 ([((writeL S).length:Int)]:List Int) 3 (fun x hx=>(by
     simp only [List.mem_cons,List.mem_nil_iff,or_false] at hx;subst hx;omega)) (by simp)
    have hpI1:∀ x ∈ ([((writeL S).length:Int)]:List Int),0 <= x:=fun x hx=>by
     simp only [List.mem_cons,List.mem_nil_iff,or_false] at hx;subst hx;omega
    have hsI1:(smlI ([((writeL S).length:Int)]:List Int)).length <= 10:=smlI_le (m:=1) (fun x hx=>((HI1.out W0).rng x hx).2) (by simp)
    go_wp2_with (first
     | (have hgo:=hm4;clear hgo;at_builtin;refine wpList_joinA (by rfl) _ _ (by rfl) W0.heap.size (.slice a4 (n1 + (smlI ([((writeL S).length:Int)]:List Int)).length) c4) (n1 + (smlI ([((writeL S).length:Int)]:List Int)).length) _ (by rfl) hm4.own _ (writeL S).length _ (writeL S) (by rfl) ((hm3.kept (Kept.alloc _ _ _ _ _)).keptR hkk4 (fun i hi=>(fun e=>by have h1:=(hm3.lt i hi).1;have h2:=(HL.out.mine.lt i e.symm).2;omega)) |>.by (writeL_lt S)) (fun e=>(hm3.nil e).2) (by omega) (by have:=hk4.size;omega) ?_;intro a5 c5 w5 hm5 hg5 hat5)
     | (have hgo:=hm3;clear hgo;go_at_call 34;have hc9:=wapp HL.out.kept HL.out.mine ((HKA.out.tr hk3).tr (Kept.alloc _ _ _ _ _)) (HI1.out w3) (fun _ x hx=>.inr (by injection hx with hx;subst hx;have:=hk3.size;show wr.heap.size <= w3.heap.size;omega)) hpI1 (by omega);refine hc9.mono ?_;rintro e w4 ⟨a4,c4,rfl,hm4,hk4,hkk4,hmv4⟩)
     | (go_at_call 35;refine HCW.out.mono ?_;rintro e w3 ⟨a3,c3,rfl,hm3,hk3⟩))
    go_roundw
    case rel=>exact ⟨k + 1,by omega,by go_num,a5,_,c5,rfl,by rw [HST.out];exact hm5,by rw [HST.out,List.length_append,List.length_append,<- HL.out.size],by omega,hk4.newRow hg5 (fun i e=>(hm4.lt i e).1)⟩
    case measure=>simp [intOf];omega
  . have hkk:k=N.sites.length:=by omega
    subst hkk;obtain ⟨n0,n1',n2,n3,n4,n5⟩:=HC.out _ hkw;have hwk:=hkw.size
    have HI2:Hid (∀ W9:World,Ints (W9.alloc (.cells #[.int .i64 ((N.subs.length:Int))] 3)) (some ⟨W9.heap.size,0,none⟩) 1 1 ([(N.subs.length:Int)]:List Int)):=fun W9=>ints_of W9 ([(N.subs.length:Int)]:List Int) 3 (fun x hx=>(by
     simp only [List.mem_cons,List.mem_nil_iff,or_false] at hx;subst hx;omega)) (by simp)
    have hpI2:∀ x ∈ ([(N.subs.length:Int)]:List Int),0 <= x:=fun x hx=>by
     simp only [List.mem_cons,List.mem_nil_iff,or_false] at hx;subst hx;omega
    have hsI2:(smlI ([(N.subs.length:Int)]:List Int)).length <= 10:=smlI_le (m:=1) (fun x hx=>((HI2.out W0).rng x hx).2) (by simp);go_wp2_with (go_at_call 34;have hc9:=wapp HL.out.kept HL.out.mine (Kept.alloc _ _ _ _ _) (HI2.out wr) (fun _ x hx=>.inr (by injection hx with hx;subst hx;exact Nat.le_refl _)) hpI2 (by omega);refine hc9.mono ?_;rintro e w3 ⟨a3,c3,rfl,hm3,hk3,_,_⟩;clear n0 n1' n2 n3 n4 n5;obtain ⟨n0,n1',n2,n3,n4,n5⟩:=HC.out _ hk3);have HL2:Hid (Lsb W0 w3 a3 (n1 + (smlI ([(N.subs.length:Int)]:List Int)).length) c3 (nuI N 0) 66750):=HL.out.grow hm3 hk3 rfl (by simp [nuI]) (by omega);clear HL hm3 hk3 hle hkw n0 n1' n2 n3 n4 n5 hwk HI2 hpI2;have HL:=HL2;clear HL2;go_loopw [3,46] (fun s i wr=>∃ k:Nat,k <= N.subs.length /\ i=.int .i64 k /\ ∃ a1 n1 c1,s=.slice a1 n1 c1 /\ Lsb W0 wr a1 n1 c1 (nuI N k) (66750 + 150 * k)) (fun _ i _=>N.subs.length - (intOf i).toNat)
    case atStart=>exact ⟨0,Nat.zero_le _,rfl,_,_,_,rfl,HL.out.at0 rfl (by omega) (by omega)⟩
    case round =>
     clear HL hsI2;obtain ⟨k,hk,rfl,a1,n1,c1,rfl,hL⟩:=hrel;have hle:=hL.le;have hkw:=hL.kept;have HL:=Hid.mk' hL;clear hL;by_cases hlt:k < N.subs.length
     . obtain ⟨ub,uo,eu,_,hc⟩:=(HN.out.kept hkw).u1.at_ (by omega);dsimp only at eu;subst eu;have e0:wr.cell? ⟨ub,uo + k * 2,none⟩=some (.slice (r k).1 (N.subs.getD k u0).sites.length (r k).2):=hc k hlt 0 (by omega);have e1:wr.cell? ⟨ub,uo + k * 2 + 1,none⟩=some (.int .i64 (N.subs.getD k u0).critical):=hc k hlt 1 (by omega);have HI:=Hid.mk' (HN.out.u2 k hlt);obtain ⟨hu1,hu2,hu3,hu4⟩:=HPO.out.su k hlt;have HST:=Hid.mk' (nuI_succ hlt);dsimp only at HI;generalize N.subs.getD k u0=U at *;generalize r k=rp at *;obtain ⟨ra,rc⟩:=rp;dsimp only at *;have hkA:Kept wr (wr.alloc (.cells #[.slice ra U.sites.length rc,.int .i64 U.critical] 52)) none:=Kept.alloc _ _ _ _ _;have HKA:=Hid.mk' hkA;have hwz:(wr.alloc (.cells #[.slice ra U.sites.length rc,.int .i64 U.critical] 52)).heap.size=wr.heap.size + 1:=World.size_alloc _ _;have hb0:(wr.alloc (.cells #[.slice ra U.sites.length rc,.int .i64 U.critical] 52)).cell? ⟨wr.heap.size,0,none⟩=some (.slice ra U.sites.length rc):=by simp [World.cell?_alloc_mark]
       have hb1:(wr.alloc (.cells #[.slice ra U.sites.length rc,.int .i64 U.critical] 52)).cell? ⟨wr.heap.size,1,none⟩=some (.int .i64 U.critical):=by simp [World.cell?_alloc_mark]
       have HB0:=Hid.mk' hb0;have HB1:=Hid.mk' hb1;have HOFF:Hid (some wr.heap.size ≠ (Value.slice a1 n1 c1).ownBlock):=ne_own HL.out.mine (.inr (Nat.le_refl _));have hwk:=hkw.size;have hss:=smlI_le (m:=12) (fun x hx=>(HI.out.rng x hx).2) hu1;have HPS:Hid (∀ x ∈ U.sites,0 <= x):=fun x hx=>(hu2 x hx).1
       have HLT:Hid (0 < U.sites.length -> ∀ x,ra=some x -> x.block < W0.heap.size):=fun hp x hx=>HI.out.lt hp x hx
       clear hc hkA hb0 hb1 hu2
       have HI3:Hid (∀ W9:World,Ints (W9.alloc (.cells #[.int .i64 ((U.sites.length:Int))] 3)) (some ⟨W9.heap.size,0,none⟩) 1 1 ([(U.sites.length:Int)]:List Int)):=fun W9=>ints_of W9 ([(U.sites.length:Int)]:List Int) 3 (fun x hx=>(by
        simp only [List.mem_cons,List.mem_nil_iff,or_false] at hx;subst hx;omega)) (by simp)
       have hpI3:∀ x ∈ ([(U.sites.length:Int)]:List Int),0 <= x:=fun x hx=>by
        simp only [List.mem_cons,List.mem_nil_iff,or_false] at hx;subst hx;omega
       have hsI3:(smlI ([(U.sites.length:Int)]:List Int)).length <= 10:=smlI_le (m:=1) (fun x hx=>((HI3.out W0).rng x hx).2) (by simp)
       have HI4:Hid (∀ W9:World,Ints (W9.alloc (.cells #[.int .i64 (U.critical)] 3)) (some ⟨W9.heap.size,0,none⟩) 1 1 ([U.critical]:List Int)):=fun W9=>ints_of W9 ([U.critical]:List Int) 3 (fun x hx=>(by
        simp only [List.mem_cons,List.mem_nil_iff,or_false] at hx;subst hx;omega)) (by simp)
       have hpI4:∀ x ∈ ([U.critical]:List Int),0 <= x:=fun x hx=>by
        simp only [List.mem_cons,List.mem_nil_iff,or_false] at hx;subst hx;omega
       have hsI4:(smlI ([U.critical]:List Int)).length <= 10:=smlI_le (m:=1) (fun x hx=>((HI4.out W0).rng x hx).2) (by simp)
       go_wp2_with (first
        | (go_at_call 34;have hc9:=wapp hk4 hm4 (Kept.alloc _ _ _ _ _) (HI4.out w4) (fun _ x hx=>.inr (by injection hx with hx;subst hx;exact Nat.le_refl _)) hpI4 (by omega);refine hc9.mono ?_;rintro e w5 ⟨a5,c5,rfl,hm5,hk5,_,_⟩)
        | (go_at_call 34;have hc9:=wapp hk3 hm3 (Kept.refl _ _) (HI.out.kept hk3) (fun hp x hx=>.inl (HLT.out hp x hx)) HPS.out (by omega);refine hc9.mono ?_;rintro e w4 ⟨a4,c4,rfl,hm4,hk4,hkk4,hmv4⟩;have b1:=cell_keptR b1 hkk4 off3)
        | (go_at_call 34;have hc9:=wapp HL.out.kept HL.out.mine (HKA.out.tr (Kept.alloc _ _ _ _ _)) (HI3.out (wr.alloc (.cells #[.slice ra U.sites.length rc,.int .i64 U.critical] 52))) (fun _ x hx=>.inr (by injection hx with hx;subst hx;show wr.heap.size <= (wr.alloc (.cells #[.slice ra U.sites.length rc,.int .i64 U.critical] 52)).heap.size;omega)) hpI3 (by omega);rw [hwz] at hc9;refine hc9.mono ?_;rintro e w3 ⟨a3,c3,rfl,hm3,hk3,hkk3,hmv3⟩;have b0:=cell_keptR (cell_kept0 HB0.out (Kept.alloc _ _ _ _ _)) hkk3 HOFF.out;have b1:=cell_keptR (cell_kept0 HB1.out (Kept.alloc _ _ _ _ _)) hkk3 HOFF.out;have off3:=off_next HOFF.out (by rw [World.size_alloc];omega) hmv3))
       go_roundw
       case rel=>exact ⟨k + 1,by omega,by go_num,a5,_,c5,rfl,by rw [HST.out];exact hm5,by rw [HST.out,List.length_append,List.length_append,List.length_append,<- HL.out.size],by omega,hk5⟩
       case measure=>simp [intOf];omega
     . have hkk:k=N.subs.length:=by omega
       subst hkk;obtain ⟨n0,n1',n2,n3,n4,n5⟩:=HC.out _ hkw;have hwk:=hkw.size
       have HI5:Hid (∀ W9:World,Ints (W9.alloc (.cells #[.int .i64 (N.low),.int .i64 (N.high),.int .i64 (N.step),.int .i64 ((N.weds.length:Int))] 3)) (some ⟨W9.heap.size,0,none⟩) 4 4 ([N.low,N.high,N.step,(N.weds.length:Int)]:List Int)):=fun W9=>ints_of W9 ([N.low,N.high,N.step,(N.weds.length:Int)]:List Int) 3 (fun x hx=>(by
        simp only [List.mem_cons,List.mem_nil_iff,or_false] at hx;rcases hx with rfl | rfl | rfl | rfl <;> omega)) (by simp)
       have hpI5:∀ x ∈ ([N.low,N.high,N.step,(N.weds.length:Int)]:List Int),0 <= x:=fun x hx=>by
        simp only [List.mem_cons,List.mem_nil_iff,or_false] at hx;rcases hx with rfl | rfl | rfl | rfl <;> omega
       have hsI5:(smlI ([N.low,N.high,N.step,(N.weds.length:Int)]:List Int)).length <= 40:=smlI_le (m:=4) (fun x hx=>((HI5.out W0).rng x hx).2) (by simp);go_wp2_with (go_at_call 34;have hc9:=wapp HL.out.kept HL.out.mine (Kept.alloc _ _ _ _ _) (HI5.out wr) (fun _ x hx=>.inr (by injection hx with hx;subst hx;exact Nat.le_refl _)) hpI5 (by omega);refine hc9.mono ?_;rintro e w3 ⟨a3,c3,rfl,hm3,hk3,_,_⟩;clear n0 n1' n2 n3 n4 n5;obtain ⟨n0,n1',n2,n3,n4,n5⟩:=HC.out _ hk3);have HL2:Hid (Lsb W0 w3 a3 (n1 + (smlI ([N.low,N.high,N.step,(N.weds.length:Int)]:List Int)).length) c3 (nwI N 0) 67800):=HL.out.grow hm3 hk3 rfl (by simp [nwI]) (by omega);clear HL hm3 hk3 hle hkw n0 n1' n2 n3 n4 n5 hwk HI5 hpI5;have HL:=HL2;clear HL2;go_loopw [3,81] (fun s i wr=>∃ k:Nat,k <= N.weds.length /\ i=.int .i64 k /\ ∃ a1 n1 c1,s=.slice a1 n1 c1 /\ Lsb W0 wr a1 n1 c1 (nwI N k) (67800 + 120 * k)) (fun _ i _=>N.weds.length - (intOf i).toNat)
       case atStart=>exact ⟨0,Nat.zero_le _,rfl,_,_,_,rfl,HL.out.at0 rfl (by omega) (by omega)⟩
       case round =>
        clear HL hsI5;obtain ⟨k,hk,rfl,a1,n1,c1,rfl,hL⟩:=hrel;have hle:=hL.le;have hkw:=hL.kept;have HL:=Hid.mk' hL;clear hL;by_cases hlt:k < N.weds.length
        . obtain ⟨db,do_,ed,_,hc⟩:=(HN.out.kept hkw).d1.at_ (by omega);dsimp only at ed;subst ed;have e0:wr.cell? ⟨db,do_ + k * 4,none⟩=some (.int .i64 (N.weds.getD k d0).a):=hc k hlt 0 (by omega);have e1:wr.cell? ⟨db,do_ + k * 4 + 1,none⟩=some (.int .i64 (N.weds.getD k d0).b):=hc k hlt 1 (by omega);have e2:wr.cell? ⟨db,do_ + k * 4 + 2,none⟩=some (.int .i64 (N.weds.getD k d0).votes):=hc k hlt 2 (by omega);have e3:wr.cell? ⟨db,do_ + k * 4 + 3,none⟩=some (.slice (t k).1 (N.weds.getD k d0).offsets.length (t k).2):=hc k hlt 3 (by omega);have HI:=Hid.mk' (HN.out.d2 k hlt);obtain ⟨hd1,hd2,hd3,hd4,hd5⟩:=HPO.out.we k hlt;have HST:=Hid.mk' (nwI_succ hlt);dsimp only at HI;generalize N.weds.getD k d0=D at *;generalize t k=tp at *;obtain ⟨ta,tc⟩:=tp;dsimp only at *;have hkA:Kept wr (wr.alloc (.cells #[.int .i64 D.a,.int .i64 D.b,.int .i64 D.votes,.slice ta D.offsets.length tc] 54)) none:=Kept.alloc _ _ _ _ _;have HKA:=Hid.mk' hkA;have hwz:(wr.alloc (.cells #[.int .i64 D.a,.int .i64 D.b,.int .i64 D.votes,.slice ta D.offsets.length tc] 54)).heap.size=wr.heap.size + 1:=World.size_alloc _ _;have hb3:(wr.alloc (.cells #[.int .i64 D.a,.int .i64 D.b,.int .i64 D.votes,.slice ta D.offsets.length tc] 54)).cell? ⟨wr.heap.size,3,none⟩=some (.slice ta D.offsets.length tc):=by simp [World.cell?_alloc_mark]
          have HB3:=Hid.mk' hb3;have HOFF:Hid (some wr.heap.size ≠ (Value.slice a1 n1 c1).ownBlock):=ne_own HL.out.mine (.inr (Nat.le_refl _));have hwk:=hkw.size;have hss:=smlI_le (m:=8) (fun x hx=>(HI.out.rng x hx).2) hd4;have HPS:Hid (∀ x ∈ D.offsets,0 <= x):=fun x hx=>(hd5 x hx).1
          have HLT:Hid (0 < D.offsets.length -> ∀ x,ta=some x -> x.block < W0.heap.size):=fun hp x hx=>HI.out.lt hp x hx
          clear hc hkA hb3 hd5
          have HI6:Hid (∀ W9:World,Ints (W9.alloc (.cells #[.int .i64 (D.a),.int .i64 (D.b),.int .i64 (D.votes),.int .i64 ((D.offsets.length:Int))] 3)) (some ⟨W9.heap.size,0,none⟩) 4 4 ([D.a,D.b,D.votes,(D.offsets.length:Int)]:List Int)):=fun W9=>ints_of W9 ([D.a,D.b,D.votes,(D.offsets.length:Int)]:List Int) 3 (fun x hx=>(by
           simp only [List.mem_cons,List.mem_nil_iff,or_false] at hx;rcases hx with rfl | rfl | rfl | rfl <;> omega)) (by simp)
          have hpI6:∀ x ∈ ([D.a,D.b,D.votes,(D.offsets.length:Int)]:List Int),0 <= x:=fun x hx=>by
           simp only [List.mem_cons,List.mem_nil_iff,or_false] at hx;rcases hx with rfl | rfl | rfl | rfl <;> omega
          have hsI6:(smlI ([D.a,D.b,D.votes,(D.offsets.length:Int)]:List Int)).length <= 40:=smlI_le (m:=4) (fun x hx=>((HI6.out W0).rng x hx).2) (by simp)
          go_wp2_with (first
           | (go_at_call 34;have hc9:=wapp hk3 hm3 (Kept.refl _ _) (HI.out.kept hk3) (fun hp x hx=>.inl (HLT.out hp x hx)) HPS.out (by omega);refine hc9.mono ?_;rintro e w4 ⟨a4,c4,rfl,hm4,hk4,hkk4,hmv4⟩)
           | (go_at_call 34;have hc9:=wapp HL.out.kept HL.out.mine (HKA.out.tr (Kept.alloc _ _ _ _ _)) (HI6.out (wr.alloc (.cells #[.int .i64 D.a,.int .i64 D.b,.int .i64 D.votes,.slice ta D.offsets.length tc] 54))) (fun _ x hx=>.inr (by injection hx with hx;subst hx;show wr.heap.size <= (wr.alloc (.cells #[.int .i64 D.a,.int .i64 D.b,.int .i64 D.votes,.slice ta D.offsets.length tc] 54)).heap.size;omega)) hpI6 (by omega);rw [hwz] at hc9;refine hc9.mono ?_;rintro e w3 ⟨a3,c3,rfl,hm3,hk3,hkk3,hmv3⟩;have b3:=cell_keptR (cell_kept0 HB3.out (Kept.alloc _ _ _ _ _)) hkk3 HOFF.out))
          go_roundw
          case rel=>exact ⟨k + 1,by omega,by go_num,a4,_,c4,rfl,by rw [HST.out];exact hm4,by rw [HST.out,List.length_append,List.length_append,<- HL.out.size],by omega,hk4⟩
          case measure=>simp [intOf];omega
        . have hkk:k=N.weds.length:=by omega
          subst hkk;have HLs:=Hid.mk' HL.out.size;have HQ:Hid (n1=(netL N).length):=HL.out.size;go_wp2;go_ret;exact ⟨a1,c1,by rw [HQ.out];rfl,by rw [<- HQ.out];exact HL.out.mine.lower (by omega),HK0.out.tr hkw,by rw [<- HQ.out];omega⟩
def nwriteL (N:Nt):List Nat:=if netB N=true then netL N ++ sum4 (netL N) else []
theorem nwriteL_lt (N:Nt):∀ x ∈ nwriteL N,x < 256:=by
 unfold nwriteL;split
 . intro x hx;rcases List.mem_append.1 hx with hx | hx
   . exact netL_lt N x hx
   . exact sum4_lt _ x hx
 . simp
theorem netE_yes {N:Nt} (h:netB N=true):netE N=0:=by unfold netE;rw [if_pos h]
theorem netE_no {N:Nt} (h:netB N=false):netE N=60:=by unfold netE;rw [if_neg (by rw [h];decide)]
theorem nwrite_any {w:World} {Y:Na} {N:Nt} (h:NetAt w Y N) (hP:netB N=true -> NPos N) (hT:Tabb w) (hTb:Table w):Calls Tryz.prog 6 #[netV Y N] w fun e w'=>∃ a' c',e=.returned (.tuple #[.slice a' (nwriteL N).length c',.int .i64 (netE N)]) /\ Mine w' w.heap.size a' (nwriteL N).length c' (nwriteL N) /\ Kept w w' none:=by
 obtain ⟨ys,ysc,yu,yuc,yd,ydc,X,r,t⟩:=Y;have hk:Kept w (w.alloc (.cells (cy9 ys ysc yu yuc yd ydc N) 26)) none:=Kept.alloc _ _ _ _ _;have HK:=Hid.mk' hk;have HN:=Hid.mk' (h.kept hk);have HT:=Hid.mk' (hT.kept hk);have HTb:=Hid.mk' (hTb.kept hk);have hcs:∀ j v,(cy9 ys ysc yu yuc yd ydc N)[j]? = some v -> ∀ w',Kept (w.alloc (.cells (cy9 ys ysc yu yuc yd ydc N) 26)) w' none -> w'.cell? ⟨w.heap.size,j,none⟩=some v:=fun j v hv w' q=>cell_kept0 (by simp only [World.cell?_alloc_mark];exact hv) q
 have HC:Hid (∀ w',Kept (w.alloc (.cells (cy9 ys ysc yu yuc yd ydc N) 26)) w' none -> w'.cell? ⟨w.heap.size,0,none⟩=some (.slice ys N.sites.length ysc) /\ w'.cell? ⟨w.heap.size,1,none⟩=some (.slice yu N.subs.length yuc) /\ w'.cell? ⟨w.heap.size,2,none⟩=some (.slice yd N.weds.length ydc) /\ w'.cell? ⟨w.heap.size,3,none⟩=some (.int .i64 N.low) /\ w'.cell? ⟨w.heap.size,4,none⟩=some (.int .i64 N.high) /\ w'.cell? ⟨w.heap.size,5,none⟩=some (.int .i64 N.step)):=fun w' q=>⟨hcs 0 _ rfl w' q,hcs 1 _ rfl w' q,hcs 2 _ rfl w' q,hcs 3 _ rfl w' q,hcs 4 _ rfl w' q,hcs 5 _ rfl w' q⟩
 cases hs:netB N with
 | false =>
  have hce:=netE_no hs;have hL:nwriteL N=[]:=by unfold nwriteL;rw [if_neg (by rw [hs];decide)]
  rw [hL,hce];clear h hT hTb hk hL hcs hP;go_enter Tryz.func6,Tryz.ntmps6;go_wp2_with (go_at_call 13;refine (ncheck_any HN.out HT.out).mono ?_;rintro e w2 ⟨rfl,hk2⟩;rw [hce]);go_ret2;exact ⟨none,0,rfl,Mine.empty _ _,HK.out.tr hk2⟩
 | true =>
  have hce:=netE_yes hs;have hL:nwriteL N=netL N ++ sum4 (netL N):=by unfold nwriteL;rw [if_pos hs]
  have HPo:=Hid.mk' (hP hs);have hlen2:(nwriteL N).length=(netL N).length + 4:=by rw [hL,List.length_append,sum4_len]
  rw [hlen2,hL,hce];clear h hT hTb hk hL hlen2 hcs hP;go_enter Tryz.func6,Tryz.ntmps6
  go_wp2_with (first
   | (go_at_call 14;refine (withSum_any w.heap.size M3.out (by have:=HK.out.size;have:=hk2.size;have:=hk3.size;omega) (netL_lt N) (HTb.out.kept (hk2.tr hk3)) (by omega)).mono ?_;rintro e w5 ⟨a5,c5,rfl,hm5,hg5⟩)
   | (go_at_call 15;refine (netBytes_any (HN.out.kept hk2) HPo.out (HT.out.kept hk2) (HTb.out.kept hk2)).mono ?_;rintro e w3 ⟨a3,c3,rfl,hm3,hk3,hlen⟩;have M3:=Hid.mk' (hm3.lower (Nat.le_trans HK.out.size hk2.size));clear hm3)
   | (go_at_call 13;refine (ncheck_any HN.out HT.out).mono ?_;rintro e w2 ⟨rfl,hk2⟩;rw [hce];obtain ⟨n0,n1,n2,n3,n4,n5⟩:=HC.out _ hk2))
  go_ret2;exact ⟨a5,c5,rfl,hm5,((HK.out.tr hk2).tr hk3).newRow hg5 (fun i e=>(M3.out.lt i e).1)⟩
end
section
open Go.RowKit Go.Lib Go.Deep
def X0:Sa:=⟨none,0,none,0,none,0,none,0,none,0,none,0⟩
def S0:St:=⟨0,[],[],[],[],[],0,0,0,0,0,[]⟩
def readS (L:List Nat):St:=(siteM (L.take (L.length - 4),false)).1
def sumOk (L:List Nat):Bool:=decide (L.drop (L.length - 4)=sum4 (L.take (L.length - 4)))
def toldOk (L:List Nat):Bool:=doneB (siteM (L.take (L.length - 4),false)).2
def readB (L:List Nat):Bool:=decide (4 <= L.length) && (sumOk L && (toldOk L && siteB (readS L)))
theorem zrow (w:World):(w.alloc (.cells zS 49)).rowIs w.heap.size 49 12 (fS zS):=World.rowIs_alloc w zS 49 (fS zS) (fun i hi=>by unfold fS;rw [Array.getElem?_eq_getElem hi];rfl)
theorem zcells {wx:World} {B:Nat} (h:wx.rowIs B 49 12 (fS zS)):wx.cell? ⟨B,0,none⟩=some (.int .i64 0) /\ wx.cell? ⟨B,1,none⟩=some (.slice none 0 0) /\ wx.cell? ⟨B,2,none⟩=some (.slice none 0 0) /\ wx.cell? ⟨B,3,none⟩=some (.slice none 0 0) /\ wx.cell? ⟨B,4,none⟩=some (.slice none 0 0) /\ wx.cell? ⟨B,5,none⟩=some (.slice none 0 0) /\ wx.cell? ⟨B,6,none⟩=some (.int .i64 0) /\ wx.cell? ⟨B,7,none⟩=some (.int .i64 0) /\ wx.cell? ⟨B,8,none⟩=some (.int .i64 0) /\ wx.cell? ⟨B,9,none⟩=some (.int .i64 0) /\ wx.cell? ⟨B,10,none⟩=some (.int .i64 0) /\ wx.cell? ⟨B,11,none⟩=some (.slice none 0 0) /\ wx.frozen? ⟨B,0,none⟩=false /\ wx.frozen? ⟨B,1,none⟩=false /\ wx.frozen? ⟨B,2,none⟩=false /\ wx.frozen? ⟨B,3,none⟩=false /\ wx.frozen? ⟨B,4,none⟩=false /\ wx.frozen? ⟨B,5,none⟩=false /\ wx.frozen? ⟨B,6,none⟩=false /\ wx.frozen? ⟨B,7,none⟩=false /\ wx.frozen? ⟨B,8,none⟩=false /\ wx.frozen? ⟨B,9,none⟩=false /\ wx.frozen? ⟨B,10,none⟩=false /\ wx.frozen? ⟨B,11,none⟩=false :=
 ⟨h.cell (i:=0) (by omega),h.cell (i:=1) (by omega),h.cell (i:=2) (by omega),h.cell (i:=3) (by omega),h.cell (i:=4) (by omega),h.cell (i:=5) (by omega),h.cell (i:=6) (by omega),h.cell (i:=7) (by omega),h.cell (i:=8) (by omega),h.cell (i:=9) (by omega),h.cell (i:=10) (by omega),h.cell (i:=11) (by omega),h.frozen 0,h.frozen 1,h.frozen 2,h.frozen 3,h.frozen 4,h.frozen 5,h.frozen 6,h.frozen 7,h.frozen 8,h.frozen 9,h.frozen 10,h.frozen 11⟩
theorem wrapI (m:Nat) (h:m <= 9223372036854775807):IntKind.i64.wrap (m:Int)=m:=by
 simp [IntKind.wrap,IntKind.bits,IntKind.signed];omega
def ReadP (w:World) (L:List Nat) (e:Ending) (w':World):Prop:=Kept w w' none /\ ((readB L=true /\ ∃ X,e=.returned (.tuple #[siteV X (readS L),.int .i64 0]) /\ ∀ w'',Ltr (w.heap.size + 1) w' w'' -> Sat w'' X (readS L)) \/ (readB L=false /\ e=.returned (.tuple #[siteV X0 S0,.int .i64 8])))
theorem ahead_short {w:World} {a:Option Addr} {n c:Nat} (h4:n < 4):Calls Tryz.prog 19 #[.slice a n c] w fun e w'=>e=.returned (.tuple #[.slice none 0 0,.bool false]) /\ w'=w:=by
 go_enter Tryz.func19,Tryz.ntmps19;go_wp2;go_ret2;exact ⟨rfl,rfl⟩
theorem ahead_long {w:World} {blk off m c:Nat} {L:List Nat} (h:Come w (some ⟨blk,off,none⟩) (m + 4) c L) (hTb:Table w):Calls Tryz.prog 19 #[.slice (some ⟨blk,off,none⟩) (m + 4:Nat) c] w fun e w'=>e=.returned (.tuple #[.slice (some ⟨blk,off,none⟩) m c,.bool (decide (L.drop m=sum4 (L.take m)))]) /\ Kept w w' none:=by
 have hroom:=h.room;have hmax:=h.max;have bt:=h.by_.take m (by omega);have bs:=h.by_.drop m (by omega);rw [Nat.add_sub_cancel_left] at bs;have HT:=Hid.mk' bt;have HS:=Hid.mk' bs;have HTB:=Hid.mk' hTb;clear h bt bs hTb;generalize L.take m=T at *;generalize L.drop m=D at *;generalize hd1:decide (D=sum4 T)=d1 at *;have HD1:=Hid.mk' hd1;clear hd1;have hcne:¬ c=m:=by omega
 have hwr:IntKind.i64.wrap (m:Int)=m:=wrapI m (by omega);have hle0:(0:Int) <= (m:Int):=by omega
 have hlec:(m:Int) <= (c:Int):=by omega
 have hlec4:(m:Int) <= (m:Int) + 4:=by omega
 have hcne2:¬ m=c:=by omega
 have hclt:m < c:=by omega
 go_enter Tryz.func19,Tryz.ntmps19;go_wp2;refine wp_region_held_drew (S:=fun _=>True) (by kernel_rfl) trivial (fun _=>?_);refine htI 0 ?_ rfl (by kernel_rfl) id ?_ trivial <| htI 1 ?_ rfl (by kernel_rfl) id ?_ trivial <| htI 2 ?_ rfl (by kernel_rfl) id ?_ trivial <| htI 3 ?_ rfl (by kernel_rfl) id ?_ trivial <| htI 4 ?_ rfl (by kernel_rfl) id ?_ trivial <| htI 5 ?_ rfl (by kernel_rfl) id ?_ trivial <| htI 6 ?_ rfl (by kernel_rfl) id ?_ trivial <| htI 7 ?_ rfl (by kernel_rfl) id ?_ trivial <| htI 8 ?_ rfl (by kernel_rfl) id ?_ trivial <| htI 9 ?_ rfl (by kernel_rfl) id ?_ trivial ?_
 all_goals try (intro w h;(try simp only [st3] at h ⊢);go_simp <;> with_reducible rfl)
 (try simp only [st3]);refine rdy 10 (by kernel_rfl) rfl (fun K hK=>?_);go_simp;refine hK.out _ _ trivial (fun _=>?_);clear hK K;refine rdy 11 (by kernel_rfl) rfl (fun K hK=>?_);go_simp;refine hK.out _ _ trivial (fun _=>?_);clear hK K;refine wpAnyH_done (by kernel_rfl) ?_ _;have KZ:Hid (Kept w w.drew none):=Kept.drew _ _;clear hwr hle0 hlec hlec4 hcne hcne2 hclt
 go_wp2_with (first
  | (go_at_call 44;have hn:=equal_any (c:=c - m) (c':=4) B1.out B2.out;rw [HD1.out] at hn;refine hn.mono ?_;rintro e w2 ⟨rfl,hw2⟩;have hw2:=hw2.symm;subst hw2)
  | (go_at_call 33;refine (sumOf_any (By.kept HT.out KZ.out) (Table.kept HTB.out KZ.out)).mono ?_;rintro e w1 ⟨g1,rfl,hb2,hk1⟩;have B2:=Hid.mk' hb2;have B1:=Hid.mk' (By.kept HS.out (KZ.out.tr hk1));have KK:=Hid.mk' (KZ.out.tr hk1);clear hb2 hk1))
 go_ret2;exact ⟨rfl,KK.out⟩
theorem rd_short {w:World} {a:Option Addr} {n c:Nat} {L:List Nat} (h:Come w a n c L) (h4:n < 4):Calls Tryz.prog 75 #[.slice a n c] w (ReadP w L):=by
 have hB:readB L=false:=by unfold readB;rw [decide_eq_false (by have:=h.by_.size;omega)];rfl
 have hrow:=zrow w;have HB:=Hid.mk' hB;have HROW:=Hid.mk' hrow;clear h hB hrow;go_enter Tryz.func75,Tryz.ntmps75;go_wp2_with (go_at_call 19;refine (ahead_short h4).mono ?_;rintro e w1 ⟨rfl,hw1⟩;subst hw1);refine bodyPost_ret (v:=.tuple #[siteV X0 S0,.int .i64 8]) (by simp [results,Tryz.results75,go_sem,X0,S0]) rfl ?_;exact ⟨Kept.alloc _ _ _ (0,0) _,.inr ⟨HB.out,rfl⟩⟩
theorem rd_long {w:World} {a:Option Addr} {m c:Nat} {L:List Nat} (h:Come w a (m + 4) c L) (hT:Tabb w) (hTb:Table w):Calls Tryz.prog 75 #[.slice a (m + 4:Nat) c] w (ReadP w L):=by
 obtain ⟨blk,off,rfl,hblk,_⟩:=h.by_.at_ (by omega);have hL:=h.by_.size;have hE4:L.length - 4=m:=by omega
 have hroom:=h.room;have hmax:=h.max;have bt:=h.by_.take m (by omega);have hAH:=fun (v:World) (hv:Kept w v none)=>ahead_long (h.keptR hv (fun _ _ _=>by simp)) (hTb.kept hv)
 have HCT:Hid (Come w (some ⟨blk,off,none⟩) m c (L.take m)):=⟨bt,fun e=>(nomatch e),by omega,hmax⟩
 have hB:readB L=(decide (L.drop m=sum4 (L.take m)) && (doneB (siteM (L.take m,false)).2 && siteB (siteM (L.take m,false)).1)):=by
  unfold readB sumOk toldOk readS;rw [hE4,decide_eq_true (show 4 <= L.length by omega)];rfl
 have hS:readS L=(siteM (L.take m,false)).1:=by unfold readS;rw [hE4]
 have hrow:=zrow w;have HROW:=Hid.mk' hrow;have HTA:=Hid.mk' hT;unfold ReadP;rw [hB,hS];clear h hL hE4 bt hB hS hrow hTb hT;generalize L.take m=T at *;generalize L.drop m=D at *;have hsite:=fun (v:World) (hv:Come v (some ⟨blk,off,none⟩) m c T)=>site_rd (rdr_new hv 155 (.slice none 0 0)) (by simp)
 generalize siteM (T,false)=u at *;obtain ⟨S,s'⟩:=u;dsimp only at *;have HSITE:=Hid.mk' hsite;clear hsite;generalize hd1:decide (D=sum4 T)=d1 at *;clear hd1;have HAH:=Hid.mk' hAH;clear hAH;generalize hd2:doneB s'=d2 at *;have HD2:=Hid.mk' hd2;clear hd2;have HCE:Hid (checkE S=if siteB S=true then 0 else 50):=rfl;generalize hd3:siteB S=d3 at *;clear hd3;have KZ:Hid (Kept w (w.alloc (.cells zS 49)) none):=Kept.alloc w _ _ (0,0) _
 cases d1
 rotate_left
 cases d2
 rotate_left
 cases d3
 all_goals
  go_enter Tryz.func75,Tryz.ntmps75
  go_wp2_with (first
   | (go_at_call 64;have hn:=check_any SB.out.sat TA4.out;rw [HCE.out] at hn;refine hn.mono ?_;rintro e w5 ⟨rfl,hk5⟩;have SB5:=Hid.mk' (SB.out.kept hk5);have KK:=Hid.mk' (KK.out.tr hk5);have R:=Hid.mk' (row_kept R.out hk5 (by simp));clear r0 r1 r2 r3 r4 r5 r6 r7 r8 r9 r10 r11 y0 y1 y2 y3 y4 y5 y6 y7 y8 y9 y10 y11;obtain ⟨r0,r1,r2,r3,r4,r5,r6,r7,r8,r9,r10,r11,y0,y1,y2,y3,y4,y5,y6,y7,y8,y9,y10,y11⟩:=zcells R.out;have HS5:=Hid.mk' (fun w'' (q:Ltr (w.heap.size + 1) w5 w'')=>HS4.out w'' ((Ltr.of_none hk5).tr q));have b0:=SB5.out.c0;have b1:=SB5.out.c1;have b2:=SB5.out.c2;have b3:=SB5.out.c3;have b4:=SB5.out.c4;have b5:=SB5.out.c5;have b6:=SB5.out.c6;have b7:=SB5.out.c7;have b8:=SB5.out.c8;have b9:=SB5.out.c9;have b10:=SB5.out.c10;have b11:=SB5.out.c11)
   | (go_at_call 25;have hn:=done_any (R3.out.alloc (cs9 X S) 49);rw [HD2.out] at hn;refine hn.mono ?_;rintro e w4 ⟨rfl,rfl⟩;have KK:=Hid.mk' (KK.out.tr (Kept.alloc _ (cs9 X S) 49 (0,0) none));have R:=Hid.mk' (World.rowIs.alloc R.out (.cells (cs9 X S) 49));obtain ⟨r0,r1,r2,r3,r4,r5,r6,r7,r8,r9,r10,r11,y0,y1,y2,y3,y4,y5,y6,y7,y8,y9,y10,y11⟩:=zcells R.out;have SB:=Hid.mk' (sbox_alloc (HS3.out _ Ltr.rfl') 49);have TA4:=Hid.mk' (HTA.out.kept KK.out);have HS4:=Hid.mk' (fun w'' (q:Ltr (w.heap.size + 1) (w3.alloc (.cells (cs9 X S) 49)) w'')=>HS3.out w'' ((Ltr.of_none (Kept.alloc _ _ _ (0,0) _)).tr q)))
   | (go_at_call 97;refine (HSITE.out w2 SM.out).mono ?_;rintro e w3 ⟨X,rfl,hs3,hr3,hk3⟩;have KK:=Hid.mk' (KK.out.tr (kept_own (Kept.alloc w2 #[.slice (some ⟨blk,off,none⟩) m c,.bool false,.slice none 0 0] 155 (0,0) none) hk3));have R:=Hid.mk' (row_kept (World.rowIs.alloc R.out (.cells #[.slice (some ⟨blk,off,none⟩) m c,.bool false,.slice none 0 0] 155)) hk3 (fun e=>by have:=Option.some.inj e;have:=NE.out;omega));have R3:=Hid.mk' hr3;have HS3:=Hid.mk' (fun w'' (q:Ltr (w.heap.size + 1) w3 w'')=>hs3 w'' (q.up (by have:=NE.out;simp;omega)));clear hr3 hs3 hk3)
   | (have hgo:=R;clear hgo;go_at_call 20;refine readerOf_any.mono ?_;rintro e w2 ⟨rfl,hk2⟩;have KK:=Hid.mk' (KK.out.tr hk2);have R:=Hid.mk' (row_kept R.out hk2 (by simp));have NE:=Hid.mk' R.out.lt;have SM:=Hid.mk' (HCT.out.keptR KK.out (fun _ _ _=>by simp));clear r0 r1 r2 r3 r4 r5 r6 r7 r8 r9 r10 r11 y0 y1 y2 y3 y4 y5 y6 y7 y8 y9 y10 y11)
   | (go_at_call 19;refine (HAH.out _ KZ.out).mono ?_;rintro e w1 ⟨rfl,hk1⟩;have KK:=Hid.mk' (KZ.out.tr hk1);have R:=Hid.mk' (row_kept HROW.out hk1 (by simp));obtain ⟨r0,r1,r2,r3,r4,r5,r6,r7,r8,r9,r10,r11,y0,y1,y2,y3,y4,y5,y6,y7,y8,y9,y10,y11⟩:=zcells R.out))
 . obtain ⟨hkW,hlW,q0,q1,q2,q3,q4,q5,q6,q7,q8,q9,q10,q11⟩:=row12 (lo:=w.heap.size + 1) R.out KK.out (Nat.le_refl _) (Nat.lt_succ_self _) (.int .i64 0) (.slice none 0 0) (.slice none 0 0) (.slice none 0 0) (.slice none 0 0) (.slice none 0 0) (.int .i64 0) (.int .i64 0) (.int .i64 0) (.int .i64 0) (.int .i64 0) (.slice none 0 0) _ rfl;clear r0 r1 r2 r3 r4 r5 r6 r7 r8 r9 r10 r11 y0 y1 y2 y3 y4 y5 y6 y7 y8 y9 y10 y11;generalize ((((((((((((w5.setCell ⟨w.heap.size,0,none⟩ (.int .i64 0)).setCell ⟨w.heap.size,1,none⟩ (.slice none 0 0)).setCell ⟨w.heap.size,2,none⟩ (.slice none 0 0)).setCell ⟨w.heap.size,3,none⟩ (.slice none 0 0)).setCell ⟨w.heap.size,4,none⟩ (.slice none 0 0)).setCell ⟨w.heap.size,5,none⟩ (.slice none 0 0)).setCell ⟨w.heap.size,6,none⟩ (.int .i64 0)).setCell ⟨w.heap.size,7,none⟩ (.int .i64 0)).setCell ⟨w.heap.size,8,none⟩ (.int .i64 0)).setCell ⟨w.heap.size,9,none⟩ (.int .i64 0)).setCell ⟨w.heap.size,10,none⟩ (.int .i64 0)).setCell ⟨w.heap.size,11,none⟩ (.slice none 0 0))=W at *;refine bodyPost_ret (v:=.tuple #[siteV X0 S0,.int .i64 8]) (by simp [results,Tryz.results75,go_sem,X0,S0,q0,q1,q2,q3,q4,q5,q6,q7,q8,q9,q10,q11]) rfl ?_;exact ⟨hkW,.inr ⟨by simp,rfl⟩⟩
 . obtain ⟨hkW,hlW,q0,q1,q2,q3,q4,q5,q6,q7,q8,q9,q10,q11⟩:=row12 (lo:=w.heap.size + 1) R.out KK.out (Nat.le_refl _) (Nat.lt_succ_self _) (.int .i64 S.id) (.slice X.g S.groups.length X.gc) (.slice X.a S.apart.length X.ac) (.slice X.b S.between.length X.bc) (.slice X.p S.phases.length X.pc) (.slice X.e S.eyes.length X.ec) (.int .i64 S.watch) (.int .i64 S.feed) (.int .i64 S.heal) (.int .i64 S.low) (.int .i64 S.high) (.slice X.l S.plans.length X.lc) _ rfl;clear r0 r1 r2 r3 r4 r5 r6 r7 r8 r9 r10 r11 y0 y1 y2 y3 y4 y5 y6 y7 y8 y9 y10 y11;generalize ((((((((((((w5.setCell ⟨w.heap.size,0,none⟩ (.int .i64 S.id)).setCell ⟨w.heap.size,1,none⟩ (.slice X.g S.groups.length X.gc)).setCell ⟨w.heap.size,2,none⟩ (.slice X.a S.apart.length X.ac)).setCell ⟨w.heap.size,3,none⟩ (.slice X.b S.between.length X.bc)).setCell ⟨w.heap.size,4,none⟩ (.slice X.p S.phases.length X.pc)).setCell ⟨w.heap.size,5,none⟩ (.slice X.e S.eyes.length X.ec)).setCell ⟨w.heap.size,6,none⟩ (.int .i64 S.watch)).setCell ⟨w.heap.size,7,none⟩ (.int .i64 S.feed)).setCell ⟨w.heap.size,8,none⟩ (.int .i64 S.heal)).setCell ⟨w.heap.size,9,none⟩ (.int .i64 S.low)).setCell ⟨w.heap.size,10,none⟩ (.int .i64 S.high)).setCell ⟨w.heap.size,11,none⟩ (.slice X.l S.plans.length X.lc))=W at *;refine bodyPost_ret (v:=.tuple #[siteV X S,.int .i64 0]) (by simp [results,Tryz.results75,go_sem,X0,S0,q0,q1,q2,q3,q4,q5,q6,q7,q8,q9,q10,q11]) rfl ?_;exact ⟨hkW,.inl ⟨rfl,X,rfl,fun w'' q=>HS5.out w'' (hlW.tr q)⟩⟩
 . obtain ⟨hkW,hlW,q0,q1,q2,q3,q4,q5,q6,q7,q8,q9,q10,q11⟩:=row12 (lo:=w.heap.size + 1) R.out KK.out (Nat.le_refl _) (Nat.lt_succ_self _) (.int .i64 0) (.slice none 0 0) (.slice none 0 0) (.slice none 0 0) (.slice none 0 0) (.slice none 0 0) (.int .i64 0) (.int .i64 0) (.int .i64 0) (.int .i64 0) (.int .i64 0) (.slice none 0 0) _ rfl;clear r0 r1 r2 r3 r4 r5 r6 r7 r8 r9 r10 r11 y0 y1 y2 y3 y4 y5 y6 y7 y8 y9 y10 y11;generalize ((((((((((((w1.setCell ⟨w.heap.size,0,none⟩ (.int .i64 0)).setCell ⟨w.heap.size,1,none⟩ (.slice none 0 0)).setCell ⟨w.heap.size,2,none⟩ (.slice none 0 0)).setCell ⟨w.heap.size,3,none⟩ (.slice none 0 0)).setCell ⟨w.heap.size,4,none⟩ (.slice none 0 0)).setCell ⟨w.heap.size,5,none⟩ (.slice none 0 0)).setCell ⟨w.heap.size,6,none⟩ (.int .i64 0)).setCell ⟨w.heap.size,7,none⟩ (.int .i64 0)).setCell ⟨w.heap.size,8,none⟩ (.int .i64 0)).setCell ⟨w.heap.size,9,none⟩ (.int .i64 0)).setCell ⟨w.heap.size,10,none⟩ (.int .i64 0)).setCell ⟨w.heap.size,11,none⟩ (.slice none 0 0))=W at *;refine bodyPost_ret (v:=.tuple #[siteV X0 S0,.int .i64 8]) (by simp [results,Tryz.results75,go_sem,X0,S0,q0,q1,q2,q3,q4,q5,q6,q7,q8,q9,q10,q11]) rfl ?_;exact ⟨hkW,.inr ⟨by simp,rfl⟩⟩
 . obtain ⟨hkW,hlW,q0,q1,q2,q3,q4,q5,q6,q7,q8,q9,q10,q11⟩:=row12 (lo:=w.heap.size + 1) R.out KK.out (Nat.le_refl _) (Nat.lt_succ_self _) (.int .i64 0) (.slice none 0 0) (.slice none 0 0) (.slice none 0 0) (.slice none 0 0) (.slice none 0 0) (.int .i64 0) (.int .i64 0) (.int .i64 0) (.int .i64 0) (.int .i64 0) (.slice none 0 0) _ rfl;clear r0 r1 r2 r3 r4 r5 r6 r7 r8 r9 r10 r11 y0 y1 y2 y3 y4 y5 y6 y7 y8 y9 y10 y11;generalize (((((((((((((w3.alloc (.cells (cs9 X S) 49)).setCell ⟨w.heap.size,0,none⟩ (.int .i64 0)).setCell ⟨w.heap.size,1,none⟩ (.slice none 0 0)).setCell ⟨w.heap.size,2,none⟩ (.slice none 0 0)).setCell ⟨w.heap.size,3,none⟩ (.slice none 0 0)).setCell ⟨w.heap.size,4,none⟩ (.slice none 0 0)).setCell ⟨w.heap.size,5,none⟩ (.slice none 0 0)).setCell ⟨w.heap.size,6,none⟩ (.int .i64 0)).setCell ⟨w.heap.size,7,none⟩ (.int .i64 0)).setCell ⟨w.heap.size,8,none⟩ (.int .i64 0)).setCell ⟨w.heap.size,9,none⟩ (.int .i64 0)).setCell ⟨w.heap.size,10,none⟩ (.int .i64 0)).setCell ⟨w.heap.size,11,none⟩ (.slice none 0 0))=W at *;refine bodyPost_ret (v:=.tuple #[siteV X0 S0,.int .i64 8]) (by simp [results,Tryz.results75,go_sem,X0,S0,q0,q1,q2,q3,q4,q5,q6,q7,q8,q9,q10,q11]) rfl ?_;exact ⟨hkW,.inr ⟨by simp,rfl⟩⟩
theorem read_site {w:World} {a:Option Addr} {n c:Nat} {L:List Nat} (h:Come w a n c L) (hT:Tabb w) (hTb:Table w):Calls Tryz.prog 75 #[.slice a n c] w (ReadP w L):=by
 by_cases h4:n < 4
 . exact rd_short h h4
 . obtain ⟨m,rfl⟩:∃ m,n=m + 4:=⟨n - 4,by omega⟩
   exact rd_long h hT hTb
theorem writeL_yes {S:St} (hs:siteB S=true):writeL S=siteL S ++ sum4 (siteL S):=by unfold writeL;rw [if_pos hs]
theorem read_write {S:St} (hr:Rok S) (hs:siteB S=true):readB (writeL S)=true /\ readS (writeL S)=S:=by
 have hw:=writeL_yes hs;have hl:(writeL S).length - 4=(siteL S).length:=by rw [hw,List.length_append,sum4_len];omega
 have ht:(writeL S).take ((writeL S).length - 4)=siteL S:=by rw [hl,hw,List.take_left'];rfl
 have hd:(writeL S).drop ((writeL S).length - 4)=sum4 (siteL S):=by rw [hl,hw,List.drop_left'];rfl
 have hm:siteM (siteL S,false)=(S,([],false)):=by
  have:=siteC.fwd S [] hr
  rwa [List.append_nil] at this
 have h4:4 <= (writeL S).length:=by rw [hw,List.length_append,sum4_len];omega
 constructor
 . unfold readB sumOk toldOk readS;rw [ht,hd,hm,decide_eq_true h4,decide_eq_true rfl,hs];rfl
 . unfold readS;rw [ht,hm]
theorem write_read {L:List Nat} (hL:∀ x ∈ L,x < 256) (h:readB L=true):writeL (readS L)=L /\ siteB (readS L)=true:=by
 unfold readB at h;simp only [Bool.and_eq_true,decide_eq_true_eq] at h;obtain ⟨h4,h1,h2,h3⟩:=h;refine ⟨?_,h3⟩;rw [writeL_yes h3];unfold sumOk at h1;rw [decide_eq_true_eq] at h1;unfold toldOk doneB at h2;simp only [Bool.and_eq_true,decide_eq_true_eq,Bool.not_eq_true'] at h2;have hb:=siteC.bwd (L.take (L.length - 4)) (fun y hy=>hL y (List.mem_of_mem_take hy)) h2.1;rw [h2.2,List.append_nil] at hb;have e:siteL (readS L)=L.take (L.length - 4):=hb.1.symm;rw [e,<- h1,List.take_append_drop]
structure Rt (T:Array Value) (w:World) (H b:Nat) (s:Rd):Prop extends Rdr w H b s where
 tl:∀ j v,T[j]? = some v -> w.cell? ⟨b,j + 2,none⟩=some v
 fz:∀ j,w.frozen? ⟨b,j,none⟩=false
theorem Rt.blt {T:Array Value} {w:World} {H b:Nat} {s:Rd} (h:Rt T w H b s):b < w.heap.size:=by
 obtain ⟨a,n,c,h1,_,_⟩:=h.ex;exact block_lt h1
theorem Rt.kept {T:Array Value} {w w':World} {H b:Nat} {s:Rd} {r:Option Nat} (h:Rt T w H b s) (q:Kept w w' r) (hr:∀ i,r=some i -> H <= i):Rt T w' H b s:=by
 have hb:some b ≠ r:=fun e=>by have:=hr b e.symm;have:=h.lt;omega
 exact ⟨h.toRdr.kept q hr,fun j v hv=>cell_keptR (h.tl j v hv) q hb,fun j=>(frozen_block (q.block b h.blt hb)).trans (h.fz j)⟩
theorem Rt.bad {T:Array Value} {w:World} {H b:Nat} {s:Rd} (h:Rt T w H b s):Rt T (w.setCell ⟨b,1,none⟩ (.bool true)) H b (s.1,true) :=
 ⟨h.toRdr.bad,fun j v hv=>(World.cell?_setCell_other _ _ _ _ (by simp)).trans (h.tl j v hv),fun j=>(frozen_set _ _ _ _).trans (h.fz j)⟩
theorem Rt.set {T:Array Value} {w:World} {H b:Nat} {L L':List Nat} {bd:Bool} {a:Option Addr} {n c:Nat} (h:Rt T w H b (L,bd)) (hC:Come w a n c L') (hx:0 < n -> ∀ x,a=some x -> x.block < H /\ x.block ≠ b):Rt T (w.setCell ⟨b,0,none⟩ (.slice a n c)) H b (L',bd) :=
 ⟨h.toRdr.set hC hx,fun j v hv=>(World.cell?_setCell_other _ _ _ _ (by simp)).trans (h.tl j v hv),fun j=>(frozen_set _ _ _ _).trans (h.fz j)⟩
theorem Rt.setNew {T:Array Value} {w:World} {H b:Nat} {s:Rd} (h:Rt T w H b s) {g:Nat} (hg:H <= g) (j:Nat) (v:Value):Rt T (w.setCell ⟨g,j,none⟩ v) H b s:=h.kept (kept_set _ _ _ _) (fun i e=>by cases e;exact hg)
theorem Rt.drew {T:Array Value} {w:World} {H b:Nat} {s:Rd} (h:Rt T w H b s):Rt T w.drew H b s:=h.kept (Kept.drew _ none) (fun i e=>by cases e)
theorem Rt.alloc {T:Array Value} {w:World} {H b:Nat} {s:Rd} (h:Rt T w H b s) (c:Array Value) (t:TypeId):Rt T (w.alloc (.cells c t)) H b s:=h.kept (Kept.alloc _ _ _ (0,0) none) (fun i e=>by cases e)
theorem Rt.put {T:Array Value} {w:World} {H b:Nat} {s:Rd} (h:Rt T w H b s) (j:Nat) (hj:j < T.size) (v:Value):Rt (T.setIfInBounds j v) (w.setCell ⟨b,j + 2,none⟩ v) H b s:=by
 obtain ⟨a,n,c,h1,h2,h3⟩:=h.ex;obtain ⟨u,hu⟩:=h.c2;have ho:w.cell? ⟨b,j + 2,none⟩=some T[j]:=h.tl j _ (by simp [hj]);refine ⟨⟨⟨a,n,c,(World.cell?_setCell_other _ _ _ _ (by simp)).trans h1,h2.keptR (kept_set _ _ _ _) (fun hp x hx e=>(h3 hp x hx).2 (by injection e)),h3⟩,(World.cell?_setCell_other _ _ _ _ (by simp)).trans h.c1,(frozen_set _ _ _ _).trans h.f0,(frozen_set _ _ _ _).trans h.f1,?_,(frozen_set _ _ _ _).trans h.f2,h.lt⟩,fun i x hx=>?_,fun i=>(frozen_set _ _ _ _).trans (h.fz i)⟩
 . by_cases e:j=0
   . subst e;exact ⟨v,World.cell?_setCell_same' _ _ _ (by rw [hu];rfl)⟩
   . exact ⟨u,(World.cell?_setCell_other _ _ _ _ (by simp [e])).trans hu⟩
 . rw [Array.getElem?_setIfInBounds] at hx;by_cases e:j=i
   . subst e;rw [if_pos rfl] at hx;simp [hj] at hx;subst hx;exact World.cell?_setCell_same' _ _ _ (by rw [ho];rfl)
   . rw [if_neg e] at hx;exact (World.cell?_setCell_other _ _ _ _ (by simp [e])).trans (h.tl i x hx)
theorem upTo_t {T:Array Value} {w:World} {H b:Nat} {s:Rd} (h:Rt T w H b s) (most:Nat) (hm:most < 18446744073709551616):Calls Tryz.prog 74 #[.pointer (some ⟨b,0,none⟩),.int .u64 most] w fun e w'=>e=.returned (.int .u64 ((upM most s).1:Int)) /\ Rt T w' H b (upM most s).2 /\ Kept w w' (some b):=by
 have HR:=Hid.mk' h;obtain ⟨a,n,c,h1,h2,h3⟩:=h.ex;have c1:=h.c1;have f0:=h.f0;have f1:=h.f1;have HC:=Hid.mk' h2;have HX:=Hid.mk' h3;have hnN:=rdN_lt s.1;have hroom:=h2.room;have hcap:=h2.max;obtain ⟨L,bd⟩:=s;dsimp only at *;clear h h2 h3
 cases bd with
 | true =>
  have hE:upM most (L,true)=(0,(L,true)):=upM_no rfl;rw [hE];go_enter Tryz.func74,Tryz.ntmps74;go_wp2_with (go_at_call 96;refine (read_any HC.out.by_ HC.out.nil hroom hcap).mono ?_;rintro e w2 ⟨rfl,m,rfl⟩);go_ret;exact ⟨rfl,(HR.out.kept (Kept.drewN _ _ none) (fun i e=>by cases e)).bad,(Kept.drewN _ _ _).tr (kept_set _ _ _ _)⟩
 | false =>
  cases hok:okR L with
  | false =>
   have hE:upM most (L,false)=(0,(L,true)):=upM_no (by rw [hok];rfl);rw [hE];obtain ⟨d1,d2,d3⟩:=rd_none (L:=L) (by rw [hok];decide);go_enter Tryz.func74,Tryz.ntmps74;go_wp2_with (go_at_call 96;refine (read_any HC.out.by_ HC.out.nil hroom hcap).mono ?_;rintro e w2 ⟨rfl,m,rfl⟩;rw [d1,d2,d3]);go_ret;exact ⟨rfl,(HR.out.kept (Kept.drewN _ _ none) (fun i e=>by cases e)).bad,(Kept.drewN _ _ _).tr (kept_set _ _ _ _)⟩
  | true =>
   obtain ⟨d1,d2,d3⟩:=rd_some (L:=L) hok;have hro:=read_only L HC.out.by_.lt hok;have hsz:=HC.out.by_.size;have hkn:rdK L <= n:=by have:=hro.2.2.1;omega
   have hk1:=hro.2.1;have d3':((rdE L:Nat):Int)=0:=by rw [d3];rfl
   have HSZ:=Hid.mk' hsz;clear d1 d2 d3 hro hsz;by_cases hle:rdN L <= most
   . have hE:upM most (L,false)=(rdN L,(L.drop (rdK L),false)):=upM_yes (by rw [hok];simp [hle]);rw [hE];clear hE;obtain ⟨bb,off,rfl,hbb,_⟩:=HC.out.by_.at_ (by omega);generalize hK:rdK L=K at *;have HK:=Hid.mk' hK;clear hK;generalize hNN:rdN L=N at *;have HN:=Hid.mk' hNN;clear hNN;have hdrop:∀ m,Rt T (w.drewN m) H b (L,false):=fun m=>HR.out.kept (Kept.drewN _ _ none) (fun i e=>by cases e)
     have HD:=Hid.mk' hdrop;have hCm:∀ m,Come (w.drewN m) (some ⟨bb,off + K,none⟩) (n - K) (c - K) (L.drop K):=fun m=>⟨(HC.out.by_.drop K hkn).drewN m,fun e=>(nomatch e),by omega,by omega⟩
     have HCm:=Hid.mk' hCm
     have hXm:0 < n - K -> ∀ x,some (⟨bb,off + K,none⟩:Addr)=some x -> x.block < H /\ x.block ≠ b:=fun hp x hx=>by
      injection hx with hx;subst hx;exact HX.out (by omega) ⟨bb,off,none⟩ rfl
     have HXm:=Hid.mk' hXm;clear hdrop hCm hXm;by_cases hcK:K=c
     . have hnK:n=K:=by omega
       have hL0:L.drop K=[]:=by rw [List.drop_eq_nil_iff];have:=HSZ.out;omega
       subst hnK;subst hcK;rw [hL0];clear hL0 HCm HXm;go_enter Tryz.func74,Tryz.ntmps74;go_wp2_with (go_at_call 96;refine (read_any HC.out.by_ HC.out.nil hroom hcap).mono ?_;rintro e w2 ⟨rfl,m,rfl⟩;rw [HK.out,HN.out,d3'])
       all_goals
        go_ret;exact ⟨rfl,(HD.out _).set ⟨By.nil _ _,fun e=>(by first | rfl | cases e),Nat.le_refl _,by omega⟩ (fun hp=>absurd hp (by omega)),(Kept.drewN _ _ _).tr (kept_set _ _ _ _)⟩
     . have hcK2:¬ c=K:=fun e=>hcK e.symm
       have hcK3:K < c:=by omega
       go_enter Tryz.func74,Tryz.ntmps74;go_wp2_with (go_at_call 96;refine (read_any HC.out.by_ HC.out.nil hroom hcap).mono ?_;rintro e w2 ⟨rfl,m,rfl⟩;rw [HK.out,HN.out,d3']);go_ret;exact ⟨rfl,(HD.out _).set (HCm.out _) HXm.out,(Kept.drewN _ _ _).tr (kept_set _ _ _ _)⟩
   . have hE:upM most (L,false)=(0,(L,true)):=upM_no (by rw [hok];simp [hle]);rw [hE];have hgt:most < rdN L:=by omega
     go_enter Tryz.func74,Tryz.ntmps74;go_wp2_with (go_at_call 96;refine (read_any HC.out.by_ HC.out.nil hroom hcap).mono ?_;rintro e w2 ⟨rfl,m,rfl⟩;rw [d3']);go_ret;exact ⟨rfl,(HR.out.kept (Kept.drewN _ _ none) (fun i e=>by cases e)).bad,(Kept.drewN _ _ _).tr (kept_set _ _ _ _)⟩
theorem number_t {T:Array Value} {w:World} {H b:Nat} {s:Rd} (h:Rt T w H b s):Calls Tryz.prog 50 #[.pointer (some ⟨b,0,none⟩)] w fun e w'=>e=.returned (.int .i64 (numM s).1) /\ Rt T w' H b (numM s).2 /\ Kept w w' (some b):=by
 have HR:=Hid.mk' h
 have hle:(upM 1048576 s).1 <= 1048576:=by
  unfold upM;split
  . rename_i hc;simp only [Bool.and_eq_true,decide_eq_true_eq] at hc;exact hc.2.2
  . omega
 have HE:Hid ((numM s).1=((upM 1048576 s).1:Int) /\ (numM s).2=(upM 1048576 s).2):=⟨rfl,rfl⟩;have hU:=upTo_t h 1048576 (by omega);have HU:=Hid.mk' hU;clear h hU;generalize upM 1048576 s=u at *;go_enter Tryz.func50,Tryz.ntmps50;go_wp2_with (go_at_call 74;refine HU.out.mono ?_;rintro e w2 ⟨rfl,hr2,hk2⟩);go_ret;exact ⟨by rw [HE.out.1];rfl,by rw [HE.out.2];exact hr2,hk2⟩
theorem many_t {T:Array Value} {w:World} {H b:Nat} {s:Rd} (h:Rt T w H b s) (most:Nat) (hm:most <= 1000):Calls Tryz.prog 46 #[.pointer (some ⟨b,0,none⟩),.int .i64 most] w fun e w'=>e=.returned (.int .i64 ((upM most s).1:Int)) /\ Rt T w' H b (upM most s).2 /\ Kept w w' (some b):=by
 have hle:=upM_le most s;have hU:=upTo_t h most (by omega);have HU:=Hid.mk' hU;clear h hU;generalize upM most s=u at *;go_enter Tryz.func46,Tryz.ntmps46;go_wp2_with (go_at_call 74;refine HU.out.mono ?_;rintro e w2 ⟨rfl,hr2,hk2⟩);go_ret;exact ⟨rfl,hr2,hk2⟩
theorem list_int_t {T:Array Value} {w:World} {H b:Nat} {s:Rd} (h:Rt T w H b s) (hH:H <= w.heap.size) (n:Nat) (hn:n <= 24):Calls Tryz.prog 77 #[.int .i64 n,.func (.func 50) #[.pointer (some ⟨b,0,none⟩)] #[]] w fun e w'=>e=.returned (.slice (some ⟨w.heap.size,0,none⟩) n n) /\ Lie w' (some ⟨w.heap.size,0,none⟩) n 1 (fun i j=>.int .i64 ((listM numM n s).1.getD i 0)) /\ Rt T w' H b (listM numM n s).2 /\ Kept w w' (some b):=by
 obtain ⟨i0,hi0,hz0,hz1,hz2⟩:=info_parts (show (Tryz.prog.info? 3).map (fun i=>(i.zero,i.size,i.bytes))=some (some (.int .i64 0),1,8) from by kernel_rfl);have hmk:=run_make (P:=Tryz.prog) w 50 3 i0 _ (by kernel_rfl) hi0 hz0 .i64 .i64 n n (by omega) (Int.le_refl _) (by rw [hz2];omega) (by omega);rw [hz1,Int.toNat_natCast] at hmk;have hrow0:=madeRow w (Value.cells (.int .i64 0)) (n * 1) 3;have hr0:=h.kept (Kept.alloc w (madeCells (Value.cells (.int .i64 0)) (n * 1)) 3 (0,0) none) (fun i e=>by cases e);have hk0:Kept w (w.alloc (.cells (madeCells (Value.cells (.int .i64 0)) (n * 1)) 3)) (some b):=Kept.alloc _ _ _ _ _;have hbl:=h.lt;have hbs:some w.heap.size ≠ some b:=fun e=>by injection e;omega
 generalize hW0:w.alloc (.cells (madeCells (Value.cells (.int .i64 0)) (n * 1)) 3)=W0 at *;have HR0:=Hid.mk' hr0;have HRow0:=Hid.mk' hrow0;clear h hr0 hrow0 hW0;go_enter Tryz.func77,Tryz.ntmps77;go_wp2;clear hmk;go_loopw [11] (fun i wr=>∃ k:Nat,k <= n /\ i=.int .i64 k /\ (∃ f,wr.rowIs w.heap.size 3 (n * 1) f /\ ∀ i,i < k -> ∀ j,j < 1 -> f (i * 1 + j)=(fun i j=>.int .i64 ((listM numM k s).1.getD i 0)) i j) /\ Rt T wr H b (listM numM k s).2 /\ Kept w wr (some b)) (fun i _=>n - (intOf i).toNat)
 case atStart=>exact ⟨0,Nat.zero_le _,rfl,⟨_,HRow0.out,fun i hi=>by omega⟩,HR0.out,hk0⟩
 case round =>
  obtain ⟨k,hk,rfl,⟨f,hrow,hf⟩,hr,hkw⟩:=hrel;by_cases hlt:k < n
  . have hcall:=number_t hr;have hsn:=listM_snoc numM k s;have hlen:=listM_len numM k s;have HF:=Hid.mk' hf;have HROW:=Hid.mk' hrow;have HSN:=Hid.mk' hsn;have HLEN:=Hid.mk' hlen;have HCALL:=Hid.mk' hcall;clear hf hrow hsn hlen hcall hr;generalize hx:(numM (listM numM k s).2).1=x at *;clear hx;go_wp2_with (refine HCALL.out.mono ?_;rintro e w2 ⟨rfl,hr2,hk2⟩;have hrow2:=row_kept HROW.out hk2 hbs;have k0:=hrow2.cell (i:=k) (by have:=idx_lt (j:=0) hlt (show 0 < 1 by omega);omega);have z0:=hrow2.frozen (k));go_roundw
    case rel =>
     refine ⟨k + 1,by omega,by go_num,⟨_,(World.rowIs.set hrow2 (k) (.int .i64 x)),fun i hi j hj=>?_⟩,by rw [HSN.out];exact (hr2.setNew hH (k) _),(kept_new (hkw.tr hk2) (Nat.le_refl _) (k) _)⟩;rw [HSN.out];by_cases hik:i=k
     . subst hik;have:j=0:=by omega
       try dsimp only
       rw [getD_snoc_eq HLEN.out.symm];subst this;simp
     . have hne:=fun q=>idx_ne (q:=q) (show i < k by omega) hj
       try dsimp only
       rw [getD_snoc_lt (by rw [HLEN.out];omega)];have h0:=HF.out i (by omega) j hj
       try dsimp only at h0
       rw [<- h0];rw [if_neg (by have:=hne 0;omega)]
    case measure=>simp [intOf];omega
  . have hkk:k=n:=by omega
    subst hkk;have HL:=Hid.mk' (lie_row hrow hf);clear hf hrow;go_wp2;go_ret;exact ⟨rfl,HL.out,hr,hkw⟩
def pieceM (s:Rd):List Nat × Rd:=if (upM 18446744073709551615 s).1 <= (upM 18446744073709551615 s).2.1.length then ((upM 18446744073709551615 s).2.1.take (upM 18446744073709551615 s).1,((upM 18446744073709551615 s).2.1.drop (upM 18446744073709551615 s).1,(upM 18446744073709551615 s).2.2)) else ([],((upM 18446744073709551615 s).2.1,true))
theorem come_take {w:World} {a:Option Addr} {n c K:Nat} {L:List Nat} (h:Come w a n c L) (hK:K <= n):Come w a K c (L.take K):=⟨h.by_.take K hK,h.nil,by have:=h.room;omega,h.max⟩
theorem piece_t {T:Array Value} {w:World} {H b:Nat} {s:Rd} (h:Rt T w H b s):Calls Tryz.prog 76 #[.pointer (some ⟨b,0,none⟩)] w fun e w'=>∃ a n c,e=.returned (.slice a n c) /\ Come w' a n c (pieceM s).1 /\ Rt T w' H b (pieceM s).2 /\ Kept w w' (some b):=by
 have hU:=upTo_t h 18446744073709551615 (by omega);have HU:=Hid.mk' hU;have HE:Hid (pieceM s=if (upM 18446744073709551615 s).1 <= (upM 18446744073709551615 s).2.1.length then ((upM 18446744073709551615 s).2.1.take (upM 18446744073709551615 s).1,((upM 18446744073709551615 s).2.1.drop (upM 18446744073709551615 s).1,(upM 18446744073709551615 s).2.2)) else ([],((upM 18446744073709551615 s).2.1,true))):=rfl;have hle:=upM_le 18446744073709551615 s;clear hU h;generalize upM 18446744073709551615 s=u at *;obtain ⟨K,L,bd⟩:=u;dsimp only at *;go_enter Tryz.func76,Tryz.ntmps76;by_cases hKL:K <= L.length
 case neg =>
  rw [HE.out,if_neg hKL];clear HE;go_wp2_with (go_at_call 74;refine HU.out.mono ?_;rintro e w2 ⟨rfl,hr2,hk2⟩;obtain ⟨a,n,c,h1,h2,h3⟩:=hr2.ex;have f1:=hr2.f1;have c1:=hr2.c1;have hsz:=h2.by_.size;have hrm:=h2.room;have hmx:=h2.max;dsimp only at hsz;have R2:=Hid.mk' hr2;clear hr2 h2 h3)
  all_goals first
   | omega
   | skip
  go_ret;exact ⟨none,0,0,rfl,⟨By.nil _ _,fun _=>rfl,Nat.le_refl _,by omega⟩,R2.out.bad,hk2.tr (kept_set _ _ _ _)⟩
 case pos =>
  rw [HE.out,if_pos hKL];clear HE;go_wp2_with (go_at_call 74;refine HU.out.mono ?_;rintro e w2 ⟨rfl,hr2,hk2⟩;obtain ⟨a,n,c,h1,h2,h3⟩:=hr2.ex;have f0:=hr2.f0;have hsz:=h2.by_.size;have hrm:=h2.room;have hmx:=h2.max;dsimp only at hsz;have hKn:K <= n:=(by omega);have HH2:=Hid.mk' h2;have HH3:=Hid.mk' h3;have R2:=Hid.mk' hr2;clear hr2 h2 h3;obtain _ | ⟨bb,off,pth⟩:=a)
  . have hc0:=HH2.out.nil rfl;have hK0:K=0:=by omega
    have hn0:n=0:=by omega
    subst hK0 hn0 hc0;go_ret;exact ⟨none,0,0,rfl,(come_take HH2.out (Nat.le_refl _)).keptR (kept_set _ _ _ _) (fun hp=>absurd hp (by omega)),R2.out.set HH2.out HH3.out,hk2.tr (kept_set _ _ _ _)⟩
  . have hcK:c=K:=by assumption
    have hn0:n=K:=by omega
    have hd:L.drop K=[]:=by rw [List.drop_eq_nil_iff];omega
    subst hcK hn0;rw [hd,Nat.sub_self];go_ret;exact ⟨_,n,n,rfl,(come_take HH2.out (Nat.le_refl _)).keptR (kept_set _ _ _ _) (fun hp x hx e=>(HH3.out hp x hx).2 (by injection e)),R2.out.set ⟨By.nil _ _,fun e=>(nomatch e),Nat.le_refl _,by omega⟩ (fun hp=>absurd hp (by omega)),hk2.tr (kept_set _ _ _ _)⟩
  . have hcK:¬ c=K:=by assumption
    have hC:Come w2 (some ((⟨bb,off,pth⟩:Addr).add K)) (n - K) (c - K) (L.drop K):=by
     by_cases hn0:n=K
     . have hd:L.drop K=[]:=by rw [List.drop_eq_nil_iff];omega
       rw [hd,hn0,Nat.sub_self];exact ⟨By.nil _ _,fun e=>(nomatch e),by omega,by omega⟩
     . obtain ⟨b',off',e,_,_⟩:=HH2.out.by_.at_ (by omega);injection e with e;injection e with e1 e2 e3;subst e1 e2 e3;have hbd:=HH2.out.by_.drop K hKn;refine ⟨?_,fun e=>(nomatch e),by omega,by omega⟩;by_cases hK0:K=0
       . subst hK0;simpa [Addr.add] using hbd
       . simpa [Addr.add,hK0] using hbd
    go_ret
    exact ⟨_,K,c,rfl,(come_take HH2.out hKn).keptR (kept_set _ _ _ _) (fun hp x hx e=>(HH3.out (by omega) x hx).2 (by injection e)),R2.out.set hC (fun hp x hx=>by
     injection hx with hx;subst hx;have h9:=HH3.out (by omega) ⟨bb,off,pth⟩ rfl
     have h8:((⟨bb,off,pth⟩:Addr).add K).block=bb:=by
      unfold Addr.add;split <;> first | rfl | (split <;> rfl)
     rw [h8];exact h9),hk2.tr (kept_set _ _ _ _)⟩
end
end Go.Proofs.YtakilpnbjihibaaGreatDoor
