import Derived.Test.YtakilpnbjihibaaGreatDoorP9
import Derived.Deep.RegionHeld
import Derived.Test.YtakilpnbjihibaaGreatDoorP14
namespace Go.Proofs.YtakilpnbjihibaaGreatDoor
set_option linter.unusedVariables false
set_option linter.unusedSimpArgs false
set_option maxHeartbeats 20000000
set_option maxRecDepth 100000
open Go.RowKit Go.Lib Go.Deep
theorem rsame_ints {a a':Option Addr} {n c c':Nat} {l:List Int} {w:World} (h1:Ints w a n c l) (h2:Ints w a' n c' l):Calls Tryz.prog 30 #[.slice a n c,.slice a' n c'] w fun e w'=>e=.returned (.bool true) /\ Kept w w' none:=by
 have H1:=Hid.mk' h1;have H2:=Hid.mk' h2;have hn:n <= 9223372036854775807:=by have:=h1.cap.room;have:=h1.cap.max;omega
 clear h1 h2;go_enter Tryz.func30,Tryz.ntmps30;go_wp2;go_loopw [5] (fun i wr=>∃ k:Nat,k <= n /\ i=.int .i64 k /\ ∃ m,wr=w.drewN m) (fun i _=>n - (intOf i).toNat)
 case atStart=>exact ⟨0,Nat.zero_le _,rfl,0,rfl⟩
 case round =>
  obtain ⟨k,hk,rfl,m,rfl⟩:=hrel;by_cases hlt:k < n
  . obtain ⟨b,o,rfl,_,hc⟩:=H1.out.at_ (by omega);obtain ⟨b',o',rfl,_,hc'⟩:=H2.out.at_ (by omega);have hx:=hc k hlt;have hx':=hc' k hlt;obtain ⟨x,hxe⟩:∃ x,x=l.getD k 0:=⟨_,rfl⟩
    rw [<- hxe] at hx hx';have hne:(x != x)=false:=by simp
    clear hc hc' hxe;go_wp2;go_quiet (fail);go_wp2;go_roundw
    case rel=>exact ⟨k + 1,by omega,by go_num,_,rfl⟩
    case measure=>simp [intOf];omega
  . go_wp2;go_ret;exact ⟨rfl,Kept.drewN _ _ _⟩
theorem rsamePlan_yes {a a':Option Addr} {c c':Nat} {p:Pl} {w:World} (h1:Ints w a p.splits.length c p.splits) (h2:Ints w a' p.splits.length c' p.splits):Calls Tryz.prog 79 #[planV p a c,planV p a' c'] w fun e w'=>e=.returned (.bool true) /\ Kept w w' none:=by
 have k1:Kept w ((w.alloc (.cells #[.int .i64 p.cycle,.int .i64 p.offset,.slice a p.splits.length c] 79)).alloc (.cells #[.int .i64 p.cycle,.int .i64 p.offset,.slice a' p.splits.length c'] 79)) none:=(Kept.alloc _ _ _ _ _).tr (Kept.alloc _ _ _ _ _);have H1:=Hid.mk' (h1.kept k1);have H2:=Hid.mk' (h2.kept k1);have HK:=Hid.mk' k1;clear h1 h2 k1;go_enter Tryz.func79,Tryz.ntmps79;go_wp2_with (go_at_call 30;refine (rsame_ints H1.out H2.out).mono ?_;rintro e w2 ⟨rfl,hk2⟩);go_ret;exact ⟨rfl,HK.out.tr hk2⟩
theorem rsamePlans_yes {a a':Option Addr} {n c c':Nat} {l:List Pl} {w:World} (h1:Plans w a n c l) (h2:Plans w a' n c' l):Calls Tryz.prog 55 #[.slice a n c,.slice a' n c'] w fun e w'=>e=.returned (.bool true) /\ Kept w w' none:=by
 have H1:=Hid.mk' h1;have H2:=Hid.mk' h2;have hn:n <= 9223372036854775807:=by have:=h1.cap.room;have:=h1.cap.max;omega
 clear h1 h2;go_enter Tryz.func55,Tryz.ntmps55;go_wp2;go_loopw [5] (fun i wr=>∃ k:Nat,k <= n /\ i=.int .i64 k /\ Kept w wr none) (fun i _=>n - (intOf i).toNat)
 case atStart=>exact ⟨0,Nat.zero_le _,rfl,Kept.refl _ _⟩
 case round =>
  obtain ⟨k,hk,rfl,hkw⟩:=hrel;by_cases hlt:k < n
  . obtain ⟨b,o,r,rc,rfl,p0,p1,p2,hI⟩:=H1.out.at_ hlt;obtain ⟨b',o',r',rc',rfl,p0',p1',p2',hI'⟩:=H2.out.at_ hlt;generalize l.getD k q0=p at *;have g0:∀ w',Kept w w' none -> w'.cell? ⟨b,o + k * 3,none⟩=some (.int .i64 p.cycle):=fun w' q=>cell_kept0 p0 q
    have g1:∀ w',Kept w w' none -> w'.cell? ⟨b,o + k * 3 + 1,none⟩=some (.int .i64 p.offset):=fun w' q=>cell_kept0 p1 q
    have g2:∀ w',Kept w w' none -> w'.cell? ⟨b,o + k * 3 + 2,none⟩=some (.slice r p.splits.length rc):=fun w' q=>cell_kept0 p2 q
    have g3:∀ w',Kept w w' none -> w'.cell? ⟨b',o' + k * 3,none⟩=some (.int .i64 p.cycle):=fun w' q=>cell_kept0 p0' q
    have g4:∀ w',Kept w w' none -> w'.cell? ⟨b',o' + k * 3 + 1,none⟩=some (.int .i64 p.offset):=fun w' q=>cell_kept0 p1' q
    have g5:∀ w',Kept w w' none -> w'.cell? ⟨b',o' + k * 3 + 2,none⟩=some (.slice r' p.splits.length rc'):=fun w' q=>cell_kept0 p2' q
    have HI:=Hid.mk' hI;have HI':=Hid.mk' hI';clear hI hI' p0 p1 p2 p0' p1' p2';go_wp2;refine Code.wp_mono (Q:=Rg ?A1 w) ?cont1 ?reg1
    case reg1 =>
     repeat (rename_i hh;clear hh)
     refine wp_region_held_drew (S:=fun w'=>Kept w w' none) (by kernel_rfl) (Kept.tr hkw (Kept.drew _ _)) (fun kH=>?_);refine htI 0 ?_ rfl (by kernel_rfl) id ?_ kH <| htI 1 ?_ rfl (by kernel_rfl) id ?_ kH <| htI 2 ?_ rfl (by kernel_rfl) id ?_ kH <| htI 3 ?_ rfl (by kernel_rfl) id ?_ kH <| htI 4 ?_ rfl (by kernel_rfl) id ?_ kH <| htI 5 ?_ rfl (by kernel_rfl) id ?_ kH <| htI 6 ?_ rfl (by kernel_rfl) id ?_ kH <| htI 7 ?_ rfl (by kernel_rfl) id ?_ kH ?_
     all_goals try (intro w h;(try simp only [st3] at h ⊢);go_simp <;> with_reducible rfl)
     (try simp only [st3]);refine rdy 8 (by kernel_rfl) rfl (fun K hK=>?_);go_simp;go_wp2_with (go_at_call 79;refine (rsamePlan_yes (HI.out.kept kH) (HI'.out.kept kH)).mono ?_;rintro e wS ⟨rfl,hkS⟩;have hKS:Kept w wS none:=Kept.tr kH hkS);replace hK:=hK.out;refine hK _ _ hKS (fun kH=>?_);clear hK K;refine htI 9 ?_ rfl (by kernel_rfl) id ?_ kH ?_
     all_goals try (intro w h;(try simp only [st3] at h ⊢);go_simp <;> with_reducible rfl)
     (try simp only [st3]);refine wpAnyH_done (by kernel_rfl) ?_ _;refine And.intro ?_ kH;with_reducible rfl
    case cont1 =>
    intro e a' w' hq;obtain ⟨rfl,rfl,hkq⟩:=hq.out;go_wp2;go_roundw
    case rel=>exact ⟨k + 1,by omega,by go_num,hkq⟩
    case measure=>simp [intOf];omega
  . go_wp2;go_ret;exact ⟨rfl,hkw⟩
theorem rsame_site {X Y:Sa} {S:St} {w:World} (h1:Sat w X S) (h2:Sat w Y S):Calls Tryz.prog 29 #[siteV X S,siteV Y S] w fun e w'=>e=.returned (.bool true) /\ Kept w w' none:=by
 obtain ⟨xg,xgc,xa,xac,xb,xbc,xp,xpc,xe,xec,xl,xlc⟩:=X;obtain ⟨yg,ygc,ya,yac,yb,ybc,yp,ypc,ye,yec,yl,ylc⟩:=Y;have hg9:S.groups.length <= 9223372036854775807:=by have:=h1.gk.room;have:=h1.gk.max;omega
 have ha9:S.apart.length <= 9223372036854775807:=by have:=h1.ak.room;have:=h1.ak.max;omega
 have hb9:S.between.length <= 9223372036854775807:=by have:=h1.b.cap.room;have:=h1.b.cap.max;omega
 have hp9:S.phases.length <= 9223372036854775807:=by have:=h1.pk.room;have:=h1.pk.max;omega
 have he9:S.eyes.length <= 9223372036854775807:=by have:=h1.ek.room;have:=h1.ek.max;omega
 have k1:Kept w (w.alloc (.cells (cx9 xg xgc xa xac xb xbc xp xpc xe xec xl xlc S) 49)) none:=Kept.alloc _ _ _ _ _;have k2:Kept (w.alloc (.cells (cx9 xg xgc xa xac xb xbc xp xpc xe xec xl xlc S) 49)) ((w.alloc (.cells (cx9 xg xgc xa xac xb xbc xp xpc xe xec xl xlc S) 49)).alloc (.cells (cx9 yg ygc ya yac yb ybc yp ypc ye yec yl ylc S) 49)) none:=Kept.alloc _ _ _ _ _;have HX:=Hid.mk' ((sbox_alloc h1 49).kept k2);have hy:=sbox_alloc (h2.kept k1) 49;rw [show (w.alloc (.cells (cx9 xg xgc xa xac xb xbc xp xpc xe xec xl xlc S) 49)).heap.size=w.heap.size + 1 by simp] at hy;have HY:=Hid.mk' hy;have HK:=Hid.mk' (k1.tr k2);clear h1 h2 k1 k2 hy;go_enter Tryz.func29,Tryz.ntmps29;go_wp2;generalize hW:((w.alloc (.cells (cx9 xg xgc xa xac xb xbc xp xpc xe xec xl xlc S) 49)).alloc (.cells (cx9 yg ygc ya yac yb ybc yp ypc ye yec yl ylc S) 49))=W at *;clear hW;go_loopw [5] (fun i wr=>∃ k:Nat,k <= S.groups.length /\ i=.int .i64 k /\ Kept W wr none) (fun i _=>S.groups.length - (intOf i).toNat)
 case atStart=>exact ⟨0,Nat.zero_le _,rfl,Kept.refl _ _⟩
 case round =>
  obtain ⟨k,hk,rfl,hkw⟩:=hrel;by_cases hlt:k < S.groups.length
  . have c1:=(HX.out.kept hkw).c1;have d1:=(HY.out.kept hkw).c1;obtain ⟨b1,o1,e1,p0,p1,p2⟩:=(HX.out.kept hkw).sat.grAt hlt;obtain ⟨b2,o2,e2,r0,r1,r2⟩:=(HY.out.kept hkw).sat.grAt hlt;rw [e1] at c1;rw [e2] at d1;clear e1 e2;generalize (S.gr k).kind=v0 at *;generalize (S.gr k).min=v1 at *;generalize (S.gr k).yellow=v2 at *;go_wp2;go_quiet (fail);go_wp2;go_roundw
    case rel=>exact ⟨k + 1,by omega,by go_num,hkw.tr (Kept.drewN _ _ _)⟩
    case measure=>simp [intOf];omega
  . have c1:=(HX.out.kept hkw).c1;have e:k=S.groups.length:=by omega
    subst e;go_wp2;clear c1 hlt hk;go_loopw [6] (fun i wr=>∃ k:Nat,k <= S.apart.length /\ i=.int .i64 k /\ Kept W wr none) (fun i _=>S.apart.length - (intOf i).toNat)
    case atStart=>exact ⟨0,Nat.zero_le _,rfl,hkw⟩
    case round =>
     clear hkw;obtain ⟨k,hk,rfl,hkw⟩:=hrel;by_cases hlt:k < S.apart.length
     . have c2:=(HX.out.kept hkw).c2;have d2:=(HY.out.kept hkw).c2;obtain ⟨b1,o1,e1,hc1⟩:=(HX.out.kept hkw).sat.apAt (n:=S.apart.length) (by omega) (by omega);obtain ⟨b2,o2,e2,hc2⟩:=(HY.out.kept hkw).sat.apAt (n:=S.apart.length) (by omega) (by omega);have p0:=hc1 k hlt;have r0:=hc2 k hlt;clear hc1 hc2;rw [e1] at c2;rw [e2] at d2;clear e1 e2;generalize S.ap k=v0 at *;go_wp2;go_quiet (fail);go_wp2;go_roundw
       case rel=>exact ⟨k + 1,by omega,by go_num,hkw.tr (Kept.drewN _ _ _)⟩
       case measure=>simp [intOf];omega
     . have c2:=(HX.out.kept hkw).c2;have e:k=S.apart.length:=by omega
       subst e;go_wp2;clear c2 hlt hk;go_loopw [7] (fun i wr=>∃ k:Nat,k <= S.between.length /\ i=.int .i64 k /\ Kept W wr none) (fun i _=>S.between.length - (intOf i).toNat)
       case atStart=>exact ⟨0,Nat.zero_le _,rfl,hkw⟩
       case round =>
        clear hkw;obtain ⟨k,hk,rfl,hkw⟩:=hrel;by_cases hlt:k < S.between.length
        . have c3:=(HX.out.kept hkw).c3;have d3:=(HY.out.kept hkw).c3;obtain ⟨b1,o1,a1,n1,e1,p0,hI1⟩:=(HX.out.kept hkw).sat.b.at_ hlt;obtain ⟨b2,o2,a2,n2,e2,r0,hI2⟩:=(HY.out.kept hkw).sat.b.at_ hlt;have H1:=Hid.mk' hI1;have H2:=Hid.mk' hI2;clear hI1 hI2;rw [e1] at c3;rw [e2] at d3;clear e1 e2;generalize S.between.getD k []=row at *;have f1:∀ w',Kept wr w' none -> w'.cell? ⟨w.heap.size,3,none⟩=some (.slice (some ⟨b1,o1,none⟩) S.between.length xbc):=fun w' q=>cell_kept0 c3 q
          have f2:∀ w',Kept wr w' none -> w'.cell? ⟨w.heap.size + 1,3,none⟩=some (.slice (some ⟨b2,o2,none⟩) S.between.length ybc):=fun w' q=>cell_kept0 d3 q
          have f3:∀ w',Kept wr w' none -> w'.cell? ⟨b1,o1 + k,none⟩=some (.slice a1 row.length n1):=fun w' q=>cell_kept0 p0 q
          have f4:∀ w',Kept wr w' none -> w'.cell? ⟨b2,o2 + k,none⟩=some (.slice a2 row.length n2):=fun w' q=>cell_kept0 r0 q
          go_wp2;refine Code.wp_mono (Q:=Rg ?A11 wr) ?cont11 ?reg11
          case reg11 =>
           repeat (rename_i hh;clear hh)
           refine wp_region_held_drew (S:=fun w'=>Kept wr w' none) (by kernel_rfl) (Kept.tr (Kept.refl wr none) (Kept.drew _ _)) (fun kH=>?_);refine htI 0 ?_ rfl (by kernel_rfl) id ?_ kH <| htI 1 ?_ rfl (by kernel_rfl) id ?_ kH <| htI 2 ?_ rfl (by kernel_rfl) id ?_ kH <| htI 3 ?_ rfl (by kernel_rfl) id ?_ kH <| htI 4 ?_ rfl (by kernel_rfl) id ?_ kH <| htI 5 ?_ rfl (by kernel_rfl) id ?_ kH <| htI 6 ?_ rfl (by kernel_rfl) id ?_ kH <| htI 7 ?_ rfl (by kernel_rfl) id ?_ kH <| htI 8 ?_ rfl (by kernel_rfl) id ?_ kH <| htI 9 ?_ rfl (by kernel_rfl) id ?_ kH ?_
           all_goals try (intro w h;(try simp only [st3] at h ⊢);go_simp <;> with_reducible rfl)
           (try simp only [st3]);refine rdy 10 (by kernel_rfl) rfl (fun K hK=>?_);go_simp;go_wp2_with (go_at_call 30;refine (rsame_ints (H1.out.kept kH) (H2.out.kept kH)).mono ?_;rintro e wS ⟨rfl,hkS⟩;have hKS:Kept wr wS none:=Kept.tr kH hkS);replace hK:=hK.out;refine hK _ _ hKS (fun kH=>?_);clear hK K;refine htI 11 ?_ rfl (by kernel_rfl) id ?_ kH ?_
           all_goals try (intro w h;(try simp only [st3] at h ⊢);go_simp <;> with_reducible rfl)
           (try simp only [st3]);refine wpAnyH_done (by kernel_rfl) ?_ _;refine And.intro ?_ kH;with_reducible rfl
          case cont11 =>
          intro e a' w' hq;obtain ⟨rfl,rfl,hkq⟩:=hq.out;go_wp2;go_roundw
          case rel=>exact ⟨k + 1,by omega,by go_num,hkw.tr hkq⟩
          case measure=>simp [intOf];omega
        . have c3:=(HX.out.kept hkw).c3;have e:k=S.between.length:=by omega
          subst e;go_wp2;clear c3 hlt hk;go_loopw [8] (fun i wr=>∃ k:Nat,k <= S.phases.length /\ i=.int .i64 k /\ Kept W wr none) (fun i _=>S.phases.length - (intOf i).toNat)
          case atStart=>exact ⟨0,Nat.zero_le _,rfl,hkw⟩
          case round =>
           clear hkw;obtain ⟨k,hk,rfl,hkw⟩:=hrel;by_cases hlt:k < S.phases.length
           . have c4:=(HX.out.kept hkw).c4;have d4:=(HY.out.kept hkw).c4;obtain ⟨b1,o1,e1,p0,p1,p2,p3,p4⟩:=(HX.out.kept hkw).sat.phAt hlt;obtain ⟨b2,o2,e2,r0,r1,r2,r3,r4⟩:=(HY.out.kept hkw).sat.phAt hlt;rw [e1] at c4;rw [e2] at d4;clear e1 e2;generalize (S.ph k).groups=v0 at *;generalize (S.ph k).min=v1 at *;generalize (S.ph k).max=v2 at *;generalize (S.ph k).gap=v3 at *;generalize (S.ph k).always=v4 at *;go_wp2;go_quiet (fail);go_wp2;go_roundw
             case rel=>exact ⟨k + 1,by omega,by go_num,hkw.tr (Kept.drewN _ _ _)⟩
             case measure=>simp [intOf];omega
           . have c4:=(HX.out.kept hkw).c4;have e:k=S.phases.length:=by omega
             subst e;go_wp2;clear c4 hlt hk;go_loopw [9] (fun i wr=>∃ k:Nat,k <= S.eyes.length /\ i=.int .i64 k /\ Kept W wr none) (fun i _=>S.eyes.length - (intOf i).toNat)
             case atStart=>exact ⟨0,Nat.zero_le _,rfl,hkw⟩
             case round =>
              clear hkw;obtain ⟨k,hk,rfl,hkw⟩:=hrel;by_cases hlt:k < S.eyes.length
              . have c5:=(HX.out.kept hkw).c5;have d5:=(HY.out.kept hkw).c5;obtain ⟨b1,o1,e1,p0,p1,p2,p3⟩:=(HX.out.kept hkw).sat.eyAt hlt;obtain ⟨b2,o2,e2,r0,r1,r2,r3⟩:=(HY.out.kept hkw).sat.eyAt hlt;rw [e1] at c5;rw [e2] at d5;clear e1 e2;generalize (S.ey k).phase=v0 at *;generalize (S.ey k).on=v1 at *;generalize (S.ey k).off=v2 at *;generalize (S.ey k).turns=v3 at *;go_wp2;go_quiet (fail);go_wp2;go_roundw
                case rel=>exact ⟨k + 1,by omega,by go_num,hkw.tr (Kept.drewN _ _ _)⟩
                case measure=>simp [intOf];omega
              . have e:k=S.eyes.length:=by omega
                subst e;clear hlt hk;obtain ⟨c0,c1,c2,c3,c4,c5,c6,c7,c8,c9,c10,c11,_⟩:=HX.out.kept hkw;obtain ⟨d0,d1,d2,d3,d4,d5,d6,d7,d8,d9,d10,d11,_⟩:=HY.out.kept hkw;go_wp2_with (go_at_call 55;refine (rsamePlans_yes (HX.out.sat.kept hkw).l (HY.out.sat.kept hkw).l).mono ?_;rintro e w9 ⟨rfl,hk9⟩);go_ret;exact ⟨rfl,HK.out.tr (hkw.tr hk9)⟩
def RgN (A:Act) (W:World) (e:Exit) (a:Act) (w:World):Prop:=match e with
 | .normal=>a=A /\ Kept W w none
 | _=>False
theorem RgN.out {A:Act} {W w:World} {e:Exit} {a:Act} (h:RgN A W e a w):e=.normal /\ a=A /\ Kept W w none:=by
 cases e with
 | normal=>exact ⟨rfl,h.1,h.2⟩
 | _=>exact h.elim
theorem rsame_net {Y Z:Na} {N:Nt} {w:World} (h1:NetAt w Y N) (h2:NetAt w Z N):Calls Tryz.prog 10 #[netV Y N,netV Z N] w fun e w'=>e=.returned (.bool true) /\ Kept w w' none:=by
 have hk1:Kept w (w.alloc (.cells (cn9 Y N) 26)) none:=Kept.alloc _ _ _ _ _;have hk2:Kept (w.alloc (.cells (cn9 Y N) 26)) ((w.alloc (.cells (cn9 Y N) 26)).alloc (.cells (cn9 Z N) 26)) none:=Kept.alloc _ _ _ _ _;have HA:=Hid.mk' ((nbx_alloc h1 26).kept hk2);have hz:(w.alloc (.cells (cn9 Y N) 26)).heap.size=w.heap.size + 1:=by simp
 have HB:Hid (Nbx ((w.alloc (.cells (cn9 Y N) 26)).alloc (.cells (cn9 Z N) 26)) (w.heap.size + 1) Z N):=by
  have:=nbx_alloc (h2.kept hk1) 26;rw [hz] at this;exact this
 have HK:=Hid.mk' (hk1.tr hk2);have hs9:N.sites.length <= 9223372036854775807:=by have:=h1.sk.room;have:=h1.sk.max;omega
 have hu9:N.subs.length <= 9223372036854775807:=by have:=h1.uk.room;have:=h1.uk.max;omega
 have hd9:N.weds.length <= 9223372036854775807:=by have:=h1.dk.room;have:=h1.dk.max;omega
 clear h1 h2 hk1 hk2 hz;go_enter Tryz.func10,Tryz.ntmps10;go_wp2;generalize hW:((w.alloc (.cells (cn9 Y N) 26)).alloc (.cells (cn9 Z N) 26))=W at *;clear hW;go_loopw [5] (fun i wr=>∃ k:Nat,k <= N.sites.length /\ i=.int .i64 k /\ Kept W wr none) (fun i _=>N.sites.length - (intOf i).toNat)
 case atStart=>exact ⟨0,Nat.zero_le _,rfl,Kept.refl _ _⟩
 case round =>
  obtain ⟨k,hk,rfl,hkr⟩:=hrel;have c0:=(HA.out.kept hkr).c0;by_cases hlt:k < N.sites.length
  case pos =>
   obtain ⟨sb,so,es,_,_⟩:=HA.out.net.s1.at_ (by omega);obtain ⟨tb,to_,et,_,_⟩:=HB.out.net.s1.at_ (by omega);rw [es] at c0;have HES:=Hid.mk' es;have HET:=Hid.mk' et;have HCA:Hid (∀ w9,Kept W w9 none -> ∀ t,t < 12 -> w9.cell? ⟨sb,so + k * 12 + t,none⟩=some (stV (Y.X k) (N.sites.getD k s0) t)):=fun w9 q t ht=>(by obtain ⟨b',o',e',_,hc⟩:=(HA.out.kept q).net.s1.at_ (by omega);rw [HES.out] at e';injection e' with e';injection e' with e1 e2;subst e1 e2;exact hc k hlt t ht)
   have HCB:Hid (∀ w9,Kept W w9 none -> ∀ t,t < 12 -> w9.cell? ⟨tb,to_ + k * 12 + t,none⟩=some (stV (Z.X k) (N.sites.getD k s0) t)):=fun w9 q t ht=>(by obtain ⟨b',o',e',_,hc⟩:=(HB.out.kept q).net.s1.at_ (by omega);rw [HET.out] at e';injection e' with e';injection e' with e1 e2;subst e1 e2;exact hc k hlt t ht)
   have HSA:=Hid.mk' (HA.out.net.s2 k hlt);have HSB:=Hid.mk' (HB.out.net.s2 k hlt);have g0:∀ w',Kept W w' none -> w'.cell? ⟨w.heap.size,0,none⟩=some (.slice (some ⟨sb,so,none⟩) N.sites.length Y.sc):=fun w' q=>by rw [<- HES.out];exact (HA.out.kept q).c0
   have g1:∀ w',Kept W w' none -> w'.cell? ⟨w.heap.size + 1,0,none⟩=some (.slice (some ⟨tb,to_,none⟩) N.sites.length Z.sc):=fun w' q=>by rw [<- HET.out];exact (HB.out.kept q).c0
   clear es et;generalize Y.X k=XA at *;generalize Z.X k=XB at *;generalize N.sites.getD k s0=S at *;obtain ⟨xg,xgc,xa,xac,xb,xbc,xp,xpc,xe,xec,xl,xlc⟩:=XA;obtain ⟨yg,ygc,ya,yac,yb,ybc,yp,ypc,ye,yec,yl,ylc⟩:=XB;have e0:∀ w',Kept W w' none -> w'.cell? ⟨sb,so + k * 12,none⟩=some (.int .i64 S.id):=fun w' q=>HCA.out w' q 0 (by omega)
   have e1:∀ w',Kept W w' none -> w'.cell? ⟨sb,so + k * 12 + 1,none⟩=some (.slice xg S.groups.length xgc):=fun w' q=>HCA.out w' q 1 (by omega)
   have e2:∀ w',Kept W w' none -> w'.cell? ⟨sb,so + k * 12 + 2,none⟩=some (.slice xa S.apart.length xac):=fun w' q=>HCA.out w' q 2 (by omega)
   have e3:∀ w',Kept W w' none -> w'.cell? ⟨sb,so + k * 12 + 3,none⟩=some (.slice xb S.between.length xbc):=fun w' q=>HCA.out w' q 3 (by omega)
   have e4:∀ w',Kept W w' none -> w'.cell? ⟨sb,so + k * 12 + 4,none⟩=some (.slice xp S.phases.length xpc):=fun w' q=>HCA.out w' q 4 (by omega)
   have e5:∀ w',Kept W w' none -> w'.cell? ⟨sb,so + k * 12 + 5,none⟩=some (.slice xe S.eyes.length xec):=fun w' q=>HCA.out w' q 5 (by omega)
   have e6:∀ w',Kept W w' none -> w'.cell? ⟨sb,so + k * 12 + 6,none⟩=some (.int .i64 S.watch):=fun w' q=>HCA.out w' q 6 (by omega)
   have e7:∀ w',Kept W w' none -> w'.cell? ⟨sb,so + k * 12 + 7,none⟩=some (.int .i64 S.feed):=fun w' q=>HCA.out w' q 7 (by omega)
   have e8:∀ w',Kept W w' none -> w'.cell? ⟨sb,so + k * 12 + 8,none⟩=some (.int .i64 S.heal):=fun w' q=>HCA.out w' q 8 (by omega)
   have e9:∀ w',Kept W w' none -> w'.cell? ⟨sb,so + k * 12 + 9,none⟩=some (.int .i64 S.low):=fun w' q=>HCA.out w' q 9 (by omega)
   have e10:∀ w',Kept W w' none -> w'.cell? ⟨sb,so + k * 12 + 10,none⟩=some (.int .i64 S.high):=fun w' q=>HCA.out w' q 10 (by omega)
   have e11:∀ w',Kept W w' none -> w'.cell? ⟨sb,so + k * 12 + 11,none⟩=some (.slice xl S.plans.length xlc):=fun w' q=>HCA.out w' q 11 (by omega)
   have f0:∀ w',Kept W w' none -> w'.cell? ⟨tb,to_ + k * 12,none⟩=some (.int .i64 S.id):=fun w' q=>HCB.out w' q 0 (by omega)
   have f1:∀ w',Kept W w' none -> w'.cell? ⟨tb,to_ + k * 12 + 1,none⟩=some (.slice yg S.groups.length ygc):=fun w' q=>HCB.out w' q 1 (by omega)
   have f2:∀ w',Kept W w' none -> w'.cell? ⟨tb,to_ + k * 12 + 2,none⟩=some (.slice ya S.apart.length yac):=fun w' q=>HCB.out w' q 2 (by omega)
   have f3:∀ w',Kept W w' none -> w'.cell? ⟨tb,to_ + k * 12 + 3,none⟩=some (.slice yb S.between.length ybc):=fun w' q=>HCB.out w' q 3 (by omega)
   have f4:∀ w',Kept W w' none -> w'.cell? ⟨tb,to_ + k * 12 + 4,none⟩=some (.slice yp S.phases.length ypc):=fun w' q=>HCB.out w' q 4 (by omega)
   have f5:∀ w',Kept W w' none -> w'.cell? ⟨tb,to_ + k * 12 + 5,none⟩=some (.slice ye S.eyes.length yec):=fun w' q=>HCB.out w' q 5 (by omega)
   have f6:∀ w',Kept W w' none -> w'.cell? ⟨tb,to_ + k * 12 + 6,none⟩=some (.int .i64 S.watch):=fun w' q=>HCB.out w' q 6 (by omega)
   have f7:∀ w',Kept W w' none -> w'.cell? ⟨tb,to_ + k * 12 + 7,none⟩=some (.int .i64 S.feed):=fun w' q=>HCB.out w' q 7 (by omega)
   have f8:∀ w',Kept W w' none -> w'.cell? ⟨tb,to_ + k * 12 + 8,none⟩=some (.int .i64 S.heal):=fun w' q=>HCB.out w' q 8 (by omega)
   have f9:∀ w',Kept W w' none -> w'.cell? ⟨tb,to_ + k * 12 + 9,none⟩=some (.int .i64 S.low):=fun w' q=>HCB.out w' q 9 (by omega)
   have f10:∀ w',Kept W w' none -> w'.cell? ⟨tb,to_ + k * 12 + 10,none⟩=some (.int .i64 S.high):=fun w' q=>HCB.out w' q 10 (by omega)
   have f11:∀ w',Kept W w' none -> w'.cell? ⟨tb,to_ + k * 12 + 11,none⟩=some (.slice yl S.plans.length ylc):=fun w' q=>HCB.out w' q 11 (by omega)
   go_wp2;clear c0;refine Code.wp_mono (Q:=RgN ?A1 W) ?cont1 ?reg1
   case reg1 =>
    repeat (rename_i hh;clear hh)
    refine wp_region_held_drew (S:=fun w'=>Kept W w' none) (by kernel_rfl) (Kept.tr hkr (Kept.drew _ _)) (fun kH=>?_);refine htI 0 ?_ rfl (by kernel_rfl) id ?_ kH <| htI 1 ?_ rfl (by kernel_rfl) id ?_ kH <| htI 2 ?_ rfl (by kernel_rfl) id ?_ kH <| htI 3 ?_ rfl (by kernel_rfl) id ?_ kH <| htI 4 ?_ rfl (by kernel_rfl) id ?_ kH <| htI 5 ?_ rfl (by kernel_rfl) id ?_ kH <| htI 6 ?_ rfl (by kernel_rfl) id ?_ kH <| htI 7 ?_ rfl (by kernel_rfl) id ?_ kH <| htI 8 ?_ rfl (by kernel_rfl) id ?_ kH <| htI 9 ?_ rfl (by kernel_rfl) id ?_ kH ?_
    all_goals try (intro w h;(try simp only [st3] at h ⊢);go_simp <;> with_reducible rfl)
    (try simp only [st3]);refine rdy 10 (by kernel_rfl) rfl (fun K hK=>?_);go_simp;go_wp2_with (go_at_call 29;refine (rsame_site (HSA.out.kept kH) (HSB.out.kept kH)).mono ?_;rintro e wS ⟨rfl,hkS⟩;have hKS:=Kept.tr kH hkS);replace hK:=hK.out;refine hK _ _ hKS (fun kH=>?_);clear hK K;refine htI 11 ?_ rfl (by kernel_rfl) id ?_ kH ?_
    all_goals try (intro w h;(try simp only [st3] at h ⊢);go_simp <;> with_reducible rfl)
    (try simp only [st3]);refine wpAnyH_done (by kernel_rfl) ?_ _;refine And.intro ?_ kH;with_reducible rfl
   case cont1 =>
   intro e a' w' hq;obtain ⟨rfl,rfl,hkq⟩:=hq.out;go_wp2;go_roundw
   case rel=>exact ⟨k + 1,by omega,by go_num,hkq⟩
   case measure=>simp [intOf];omega
  have e:k=N.sites.length:=by omega
  subst e;go_wp2;clear c0;go_loopw [6] (fun i wr=>∃ k:Nat,k <= N.subs.length /\ i=.int .i64 k /\ Kept W wr none) (fun i _=>N.subs.length - (intOf i).toNat)
  case atStart=>exact ⟨0,Nat.zero_le _,rfl,hkr⟩
  case round =>
   clear hkr;obtain ⟨k,hk,rfl,hkr⟩:=hrel;have c1:=(HA.out.kept hkr).c1;by_cases hlt:k < N.subs.length
   case pos =>
    obtain ⟨sb,so,es,_,_⟩:=HA.out.net.u1.at_ (by omega);obtain ⟨tb,to_,et,_,_⟩:=HB.out.net.u1.at_ (by omega);rw [es] at c1;have HES:=Hid.mk' es;have HET:=Hid.mk' et;have HCA:Hid (∀ w9,Kept W w9 none -> ∀ t,t < 2 -> w9.cell? ⟨sb,so + k * 2 + t,none⟩=some (sbV (N.subs.getD k u0) (Y.r k).1 (Y.r k).2 t)):=fun w9 q t ht=>(by obtain ⟨b',o',e',_,hc⟩:=(HA.out.kept q).net.u1.at_ (by omega);rw [HES.out] at e';injection e' with e';injection e' with e1 e2;subst e1 e2;exact hc k hlt t ht)
    have HCB:Hid (∀ w9,Kept W w9 none -> ∀ t,t < 2 -> w9.cell? ⟨tb,to_ + k * 2 + t,none⟩=some (sbV (N.subs.getD k u0) (Z.r k).1 (Z.r k).2 t)):=fun w9 q t ht=>(by obtain ⟨b',o',e',_,hc⟩:=(HB.out.kept q).net.u1.at_ (by omega);rw [HET.out] at e';injection e' with e';injection e' with e1 e2;subst e1 e2;exact hc k hlt t ht)
    have HIA:=Hid.mk' (HA.out.net.u2 k hlt);have HIB:=Hid.mk' (HB.out.net.u2 k hlt);have g0:∀ w',Kept W w' none -> w'.cell? ⟨w.heap.size,1,none⟩=some (.slice (some ⟨sb,so,none⟩) N.subs.length Y.uc):=fun w' q=>by rw [<- HES.out];exact (HA.out.kept q).c1
    have g1:∀ w',Kept W w' none -> w'.cell? ⟨w.heap.size + 1,1,none⟩=some (.slice (some ⟨tb,to_,none⟩) N.subs.length Z.uc):=fun w' q=>by rw [<- HET.out];exact (HB.out.kept q).c1
    clear es et;generalize N.subs.getD k u0=U at *;generalize Y.r k=rk at *;generalize Z.r k=tk at *;obtain ⟨ra,rc⟩:=rk;obtain ⟨ta,tc⟩:=tk;dsimp only at HIA HIB;have e0:∀ w',Kept W w' none -> w'.cell? ⟨sb,so + k * 2,none⟩=some (.slice ra U.sites.length rc):=fun w' q=>HCA.out w' q 0 (by omega)
    have e1:∀ w',Kept W w' none -> w'.cell? ⟨sb,so + k * 2 + 1,none⟩=some (.int .i64 U.critical):=fun w' q=>HCA.out w' q 1 (by omega)
    have f0:∀ w',Kept W w' none -> w'.cell? ⟨tb,to_ + k * 2,none⟩=some (.slice ta U.sites.length tc):=fun w' q=>HCB.out w' q 0 (by omega)
    have f1:∀ w',Kept W w' none -> w'.cell? ⟨tb,to_ + k * 2 + 1,none⟩=some (.int .i64 U.critical):=fun w' q=>HCB.out w' q 1 (by omega)
    go_wp2;clear c1;refine Code.wp_mono (Q:=RgN ?A13 W) ?cont13 ?reg13
    case reg13 =>
     repeat (rename_i hh;clear hh)
     refine wp_region_held_drew (S:=fun w'=>Kept W w' none) (by kernel_rfl) (Kept.tr hkr (Kept.drew _ _)) (fun kH=>?_);refine htI 0 ?_ rfl (by kernel_rfl) id ?_ kH <| htI 1 ?_ rfl (by kernel_rfl) id ?_ kH <| htI 2 ?_ rfl (by kernel_rfl) id ?_ kH <| htI 3 ?_ rfl (by kernel_rfl) id ?_ kH <| htI 4 ?_ rfl (by kernel_rfl) id ?_ kH <| htI 5 ?_ rfl (by kernel_rfl) id ?_ kH <| htI 6 ?_ rfl (by kernel_rfl) id ?_ kH <| htI 7 ?_ rfl (by kernel_rfl) id ?_ kH <| htI 8 ?_ rfl (by kernel_rfl) id ?_ kH <| htI 9 ?_ rfl (by kernel_rfl) id ?_ kH <| htI 10 ?_ rfl (by kernel_rfl) id ?_ kH <| htI 11 ?_ rfl (by kernel_rfl) id ?_ kH <| htI 12 ?_ rfl (by kernel_rfl) id ?_ kH <| htI 13 ?_ rfl (by kernel_rfl) id ?_ kH <| htI 14 ?_ rfl (by kernel_rfl) id ?_ kH <| htI 15 ?_ rfl (by kernel_rfl) id ?_ kH <| htI 16 ?_ rfl (by kernel_rfl) id ?_ kH <| htI 17 ?_ rfl (by kernel_rfl) id ?_ kH <| htI 18 ?_ rfl (by kernel_rfl) id ?_ kH <| htI 19 ?_ rfl (by kernel_rfl) id ?_ kH <| htI 20 ?_ rfl (by kernel_rfl) id ?_ kH <| htI 21 ?_ rfl (by kernel_rfl) id ?_ kH <| htI 22 ?_ rfl (by kernel_rfl) id ?_ kH <| htI 23 ?_ rfl (by kernel_rfl) id ?_ kH <| htI 24 ?_ rfl (by kernel_rfl) id ?_ kH <| htI 25 ?_ rfl (by kernel_rfl) id ?_ kH ?_
     all_goals try (intro w h;(try simp only [st3] at h ⊢);go_simp <;> with_reducible rfl)
     (try simp only [st3]);refine rdy 26 (by kernel_rfl) rfl (fun K hK=>?_);go_simp;go_wp2_with (go_at_call 30;refine (rsame_ints (HIA.out.kept kH) (HIB.out.kept kH)).mono ?_;rintro e wS ⟨rfl,hkS⟩;have hKS:=Kept.tr kH hkS);replace hK:=hK.out;refine hK _ _ hKS (fun kH=>?_);clear hK K;refine htI 27 ?_ rfl (by kernel_rfl) id ?_ kH <| htI 28 ?_ rfl (by kernel_rfl) id ?_ kH ?_
     all_goals try (intro w h;(try simp only [st3] at h ⊢);go_simp <;> with_reducible rfl)
     (try simp only [st3]);refine wpAnyH_done (by kernel_rfl) ?_ _;refine And.intro ?_ kH;with_reducible rfl
    case cont13 =>
    intro e a' w' hq;obtain ⟨rfl,rfl,hkq⟩:=hq.out;go_wp2;go_roundw
    case rel=>exact ⟨k + 1,by omega,by go_num,hkq⟩
    case measure=>simp [intOf];omega
   have e:k=N.subs.length:=by omega
   subst e;go_wp2;clear c1;go_loopw [7] (fun i wr=>∃ k:Nat,k <= N.weds.length /\ i=.int .i64 k /\ Kept W wr none) (fun i _=>N.weds.length - (intOf i).toNat)
   case atStart=>exact ⟨0,Nat.zero_le _,rfl,hkr⟩
   case round =>
    clear hkr;obtain ⟨k,hk,rfl,hkr⟩:=hrel;have c2:=(HA.out.kept hkr).c2;by_cases hlt:k < N.weds.length
    case pos =>
     obtain ⟨sb,so,es,_,_⟩:=HA.out.net.d1.at_ (by omega);obtain ⟨tb,to_,et,_,_⟩:=HB.out.net.d1.at_ (by omega);rw [es] at c2;have HES:=Hid.mk' es;have HET:=Hid.mk' et;have HCA:Hid (∀ w9,Kept W w9 none -> ∀ t,t < 4 -> w9.cell? ⟨sb,so + k * 4 + t,none⟩=some (wdV (N.weds.getD k d0) (Y.t k).1 (Y.t k).2 t)):=fun w9 q t ht=>(by obtain ⟨b',o',e',_,hc⟩:=(HA.out.kept q).net.d1.at_ (by omega);rw [HES.out] at e';injection e' with e';injection e' with e1 e2;subst e1 e2;exact hc k hlt t ht)
     have HCB:Hid (∀ w9,Kept W w9 none -> ∀ t,t < 4 -> w9.cell? ⟨tb,to_ + k * 4 + t,none⟩=some (wdV (N.weds.getD k d0) (Z.t k).1 (Z.t k).2 t)):=fun w9 q t ht=>(by obtain ⟨b',o',e',_,hc⟩:=(HB.out.kept q).net.d1.at_ (by omega);rw [HET.out] at e';injection e' with e';injection e' with e1 e2;subst e1 e2;exact hc k hlt t ht)
     have HIA:=Hid.mk' (HA.out.net.d2 k hlt);have HIB:=Hid.mk' (HB.out.net.d2 k hlt);have g0:∀ w',Kept W w' none -> w'.cell? ⟨w.heap.size,2,none⟩=some (.slice (some ⟨sb,so,none⟩) N.weds.length Y.dc):=fun w' q=>by rw [<- HES.out];exact (HA.out.kept q).c2
     have g1:∀ w',Kept W w' none -> w'.cell? ⟨w.heap.size + 1,2,none⟩=some (.slice (some ⟨tb,to_,none⟩) N.weds.length Z.dc):=fun w' q=>by rw [<- HET.out];exact (HB.out.kept q).c2
     clear es et;generalize N.weds.getD k d0=D at *;generalize Y.t k=rk at *;generalize Z.t k=tk at *;obtain ⟨ra,rc⟩:=rk;obtain ⟨ta,tc⟩:=tk;dsimp only at HIA HIB;have e0:∀ w',Kept W w' none -> w'.cell? ⟨sb,so + k * 4,none⟩=some (.int .i64 D.a):=fun w' q=>HCA.out w' q 0 (by omega)
     have e1:∀ w',Kept W w' none -> w'.cell? ⟨sb,so + k * 4 + 1,none⟩=some (.int .i64 D.b):=fun w' q=>HCA.out w' q 1 (by omega)
     have e2:∀ w',Kept W w' none -> w'.cell? ⟨sb,so + k * 4 + 2,none⟩=some (.int .i64 D.votes):=fun w' q=>HCA.out w' q 2 (by omega)
     have e3:∀ w',Kept W w' none -> w'.cell? ⟨sb,so + k * 4 + 3,none⟩=some (.slice ra D.offsets.length rc):=fun w' q=>HCA.out w' q 3 (by omega)
     have f0:∀ w',Kept W w' none -> w'.cell? ⟨tb,to_ + k * 4,none⟩=some (.int .i64 D.a):=fun w' q=>HCB.out w' q 0 (by omega)
     have f1:∀ w',Kept W w' none -> w'.cell? ⟨tb,to_ + k * 4 + 1,none⟩=some (.int .i64 D.b):=fun w' q=>HCB.out w' q 1 (by omega)
     have f2:∀ w',Kept W w' none -> w'.cell? ⟨tb,to_ + k * 4 + 2,none⟩=some (.int .i64 D.votes):=fun w' q=>HCB.out w' q 2 (by omega)
     have f3:∀ w',Kept W w' none -> w'.cell? ⟨tb,to_ + k * 4 + 3,none⟩=some (.slice ta D.offsets.length tc):=fun w' q=>HCB.out w' q 3 (by omega)
     have hWr:=hkr.size;go_wp2;clear c2;refine wp_region_held_drew (S:=fun w'=>Kept W w' none) (by kernel_rfl) (Kept.tr hkr (Kept.drew _ _)) (fun kH=>?_);refine htI 0 ?_ rfl (by kernel_rfl) id ?_ kH <| htI 1 ?_ rfl (by kernel_rfl) id ?_ kH <| htI 2 ?_ rfl (by kernel_rfl) id ?_ kH <| htI 3 ?_ rfl (by kernel_rfl) id ?_ kH <| htI 4 ?_ rfl (by kernel_rfl) id ?_ kH <| htI 5 ?_ rfl (by kernel_rfl) id ?_ kH <| htI 6 ?_ rfl (by kernel_rfl) id ?_ kH <| htI 7 ?_ rfl (by kernel_rfl) id ?_ kH <| htI 8 ?_ rfl (by kernel_rfl) id ?_ kH <| htI 9 ?_ rfl (by kernel_rfl) id ?_ kH ?_
     all_goals try (intro w h;(try simp only [st3] at h ⊢);go_simp <;> with_reducible rfl)
     (try simp only [st3]);refine wpAnyH_ready (rs:=[10,11]) (by kernel_rfl) (by simp) ?_;refine AllReadyH.cons rfl (fun K hK=>?ga) (AllReadyH.cons rfl (fun K hK=>?gb) AllReadyH.nil)
     case ga =>
      go_simp;refine hK.out _ _ (by repeat (first | exact hkr | exact kH | refine Kept.tr ?_ (Kept.drew _ _) | refine Kept.tr ?_ (Kept.alloc _ _ _ (0,0) _) | refine kept_new ?_ (by simp [World.setCell];omega) _ _)) (fun kH=>?_);clear hK K;refine rdy 11 (by kernel_rfl) rfl (fun K hK=>?_);go_simp;refine hK.out _ _ (by repeat (first | exact hkr | exact kH | refine Kept.tr ?_ (Kept.drew _ _) | refine Kept.tr ?_ (Kept.alloc _ _ _ (0,0) _) | refine kept_new ?_ (by simp [World.setCell];omega) _ _)) (fun kH=>?_);clear hK K;refine rdy 12 (by kernel_rfl) rfl (fun K hK=>?_);go_simp;refine hK.out _ _ (by repeat (first | exact hkr | exact kH | refine Kept.tr ?_ (Kept.drew _ _) | refine Kept.tr ?_ (Kept.alloc _ _ _ (0,0) _) | refine kept_new ?_ (by simp [World.setCell];omega) _ _)) (fun kH=>?_);clear hK K;refine rdy 13 (by kernel_rfl) rfl (fun K hK=>?_);go_simp;refine hK.out _ _ (by repeat (first | exact hkr | exact kH | refine Kept.tr ?_ (Kept.drew _ _) | refine Kept.tr ?_ (Kept.alloc _ _ _ (0,0) _) | refine kept_new ?_ (by simp [World.setCell];omega) _ _)) (fun kH=>?_);clear hK K;refine wpAnyH_done (by kernel_rfl) ?_ _;have HH:=Hid.mk' kH;go_wp2_with (go_at_call 30;refine (rsame_ints (HIA.out.kept HH.out) (HIB.out.kept HH.out)).mono ?_;rintro e wS ⟨rfl,hkS⟩);go_roundw
      case rel=>exact ⟨k + 1,by omega,by go_num,HH.out.tr hkS⟩
      case measure=>simp [intOf];omega
     case gb =>
      go_simp;refine hK.out _ _ (by repeat (first | exact hkr | exact kH | refine Kept.tr ?_ (Kept.drew _ _) | refine Kept.tr ?_ (Kept.alloc _ _ _ (0,0) _) | refine kept_new ?_ (by simp [World.setCell];omega) _ _)) (fun kH=>?_);clear hK K;refine rdy 10 (by kernel_rfl) rfl (fun K hK=>?_);go_simp;refine hK.out _ _ (by repeat (first | exact hkr | exact kH | refine Kept.tr ?_ (Kept.drew _ _) | refine Kept.tr ?_ (Kept.alloc _ _ _ (0,0) _) | refine kept_new ?_ (by simp [World.setCell];omega) _ _)) (fun kH=>?_);clear hK K;refine rdy 12 (by kernel_rfl) rfl (fun K hK=>?_);go_simp;refine hK.out _ _ (by repeat (first | exact hkr | exact kH | refine Kept.tr ?_ (Kept.drew _ _) | refine Kept.tr ?_ (Kept.alloc _ _ _ (0,0) _) | refine kept_new ?_ (by simp [World.setCell];omega) _ _)) (fun kH=>?_);clear hK K;refine rdy 13 (by kernel_rfl) rfl (fun K hK=>?_);go_simp;refine hK.out _ _ (by repeat (first | exact hkr | exact kH | refine Kept.tr ?_ (Kept.drew _ _) | refine Kept.tr ?_ (Kept.alloc _ _ _ (0,0) _) | refine kept_new ?_ (by simp [World.setCell];omega) _ _)) (fun kH=>?_);clear hK K;refine wpAnyH_done (by kernel_rfl) ?_ _;have HH:=Hid.mk' kH;go_wp2_with (go_at_call 30;refine (rsame_ints (HIA.out.kept HH.out) (HIB.out.kept HH.out)).mono ?_;rintro e wS ⟨rfl,hkS⟩);go_roundw
      case rel=>exact ⟨k + 1,by omega,by go_num,HH.out.tr hkS⟩
      case measure=>simp [intOf];omega
    have e:k=N.weds.length:=by omega
    subst e;go_wp2;go_ret;exact ⟨rfl,HK.out.tr hkr⟩
end Go.Proofs.YtakilpnbjihibaaGreatDoor
