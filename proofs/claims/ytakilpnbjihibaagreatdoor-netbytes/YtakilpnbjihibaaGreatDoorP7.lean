import Derived.Test.YtakilpnbjihibaaGreatDoorP6
import Derived.Deep.RegionHeld
namespace Go.Proofs.YtakilpnbjihibaaGreatDoor
set_option linter.unusedVariables false
set_option linter.unusedSimpArgs false
set_option maxHeartbeats 4000000
set_option maxRecDepth 100000
open Go.RowKit Go.Lib Go.Deep
theorem may_yes (x i:Nat) (w:World) (hx:x < 256) (hi:i < 10) (h1:0 < x \/ i=0) (h2:x < 2 \/ i < 9) :
 Calls Tryz.prog 109 #[.int .u8 x,.int .i64 i] w fun e w'=>e=.returned (.bool true) /\ w'=w:=by
 by_cases c1:0 < x
 . by_cases c2:x < 2
   . go_enter Tryz.func109,Tryz.ntmps109;go_wp2;go_ret;exact ⟨rfl,rfl⟩
   . have c3:i < 9:=by omega
     go_enter Tryz.func109,Tryz.ntmps109;go_wp2;go_ret;refine ⟨show Ending.returned (.bool (decide ((x:Int) < 2) || decide ((i:Int) < 9)))=_ from ret_bool ?_,rfl⟩;simp;omega
 . have c2:x=0:=by omega
   have c3:i=0:=by omega
   subst c2 c3;go_enter Tryz.func109,Tryz.ntmps109;go_wp2;go_ret;exact ⟨rfl,rfl⟩
theorem may_no (x i:Nat) (w:World) (hx:x < 256) (hi:i < 10) (h:(x=0 /\ 0 < i) \/ (2 <= x /\ 9 <= i)) :
 Calls Tryz.prog 109 #[.int .u8 x,.int .i64 i] w fun e w'=>e=.returned (.bool false) /\ w'=w:=by
 rcases h with ⟨h1,h2⟩ | ⟨h1,h2⟩
 . subst h1;have hne:((i:Int) == 0)=false:=by simp;omega
   go_enter Tryz.func109,Tryz.ntmps109;go_wp2;go_ret;exact ⟨rfl,rfl⟩
 . go_enter Tryz.func109,Tryz.ntmps109;go_wp2;go_ret;refine ⟨show Ending.returned (.bool (decide ((x:Int) < 2) || decide ((i:Int) < 9)))=_ from ret_bool ?_,rfl⟩;simp;omega
theorem wrapU64 (n:Int):IntKind.u64.wrap n=n % 18446744073709551616:=by simp [IntKind.wrap,IntKind.bits,IntKind.signed]
theorem andn128:∀ x,x < 256 -> x &&& (255 - 128)=x % 128:=by decide +kernel
theorem byte_andn (x:Nat) (hx:x < 256):bits .andNot .u8 (x:Int) 128=((x % 128:Nat):Int):=by
 have h:=u8_andNot_nat x 128 hx (by omega);rw [andn128 x hx] at h;exact h
theorem read_or (v x k:Nat) (hv:v < 128 ^ k) (hx:x < 128) (hk:k <= 8 \/ (k=9 /\ x < 2)):bits .or .u64 (v:Int) (IntKind.u64.wrap ((x:Int) * 2 ^ (7 * k)))=((v + 128 ^ k * x:Nat):Int):=by
 rw [wrapU64];have hp:(2:Nat) ^ (7 * k)=128 ^ k:=by rw [Nat.pow_mul]
 have hm2:128 ^ k * x < 18446744073709551616:=by
  rcases hk with hk | ⟨rfl,hk⟩
  . have h7:128 ^ k <= 128 ^ 8:=Nat.pow_le_pow_right (by omega) (by omega);exact Nat.lt_of_le_of_lt (Nat.mul_le_mul h7 (show x <= 127 by omega)) (by decide)
  . exact Nat.lt_of_le_of_lt (Nat.mul_le_mul_left _ (show x <= 1 by omega)) (by decide)
 have hv2:v < 18446744073709551616:=by
  have h9:128 ^ k <= 128 ^ 9:=Nat.pow_le_pow_right (by omega) (by omega);exact Nat.lt_of_lt_of_le hv (Nat.le_trans h9 (by decide))
 have e:((x:Int) * 2 ^ (7 * k) % 18446744073709551616)=((128 ^ k * x:Nat):Int):=by
  have:((x:Int) * 2 ^ (7 * k))=((128 ^ k * x:Nat):Int):=by rw [<- hp];simp [Int.mul_comm]
  rw [this];omega
 rw [e,u64_or_nat v _ hv2 hm2,Nat.or_comm,nat_join (7 * k) (128 ^ k * x) v (by rw [hp];exact Nat.mul_mod_right _ _) (by rw [hp];exact hv),Nat.add_comm]
theorem rd_none {L:List Nat} (h:¬ okR L=true):rdN L=0 /\ rdK L=0 /\ rdE L=8:=by
 unfold rdN rdK rdE;rw [if_neg h,if_neg h,if_neg h];exact ⟨rfl,rfl,rfl⟩
theorem rd_some {L:List Nat} (h:okR L=true):rdN L=v7 (L.take (fe L + 1)) /\ rdK L=fe L + 1 /\ rdE L=0:=by
 unfold rdN rdK rdE;rw [if_pos h,if_pos h,if_pos h];exact ⟨rfl,rfl,rfl⟩
theorem read_empty {a:Option Addr} (c:Nat) (w:World) (ha:a=none -> c=0) (hc:c <= 9223372036854775807) :
 Calls Tryz.prog 96 #[.slice a 0 c] w fun e w'=>e=.returned (.tuple #[.int .u64 0,.int .i64 0,.int .i64 8]) /\ ∃ m,w'=w.drewN m:=by
 cases a with
 | none =>
  have:=ha rfl;subst this;go_enter Tryz.func96,Tryz.ntmps96;go_wp2;go_loopw [14] (fun i wr=>i=.int .i64 0 /\ ∃ m,wr=w.drewN m) (fun _ _=>0)
  case atStart=>exact ⟨rfl,0,rfl⟩
  case round =>
   obtain ⟨rfl,m,rfl⟩:=hrel;go_wp2;go_ret3;exact ⟨rfl,_,rfl⟩
 | some x =>
  obtain ⟨b,off,p⟩:=x;go_enter Tryz.func96,Tryz.ntmps96;go_wp2;go_loopw [14] (fun i wr=>i=.int .i64 0 /\ ∃ m,wr=w.drewN m) (fun _ _=>0)
  case atStart=>exact ⟨rfl,0,rfl⟩
  case round =>
   obtain ⟨rfl,m,rfl⟩:=hrel;go_wp2;go_ret3;exact ⟨rfl,_,rfl⟩
theorem read_short {b off len c:Nat} {L:List Nat} {w:World} (hB:By w (some ⟨b,off,none⟩) len L) (hp:0 < len) (hc:len <= c) (hc2:c <= 9223372036854775807) (hlen:len <= 10) :
 Calls Tryz.prog 96 #[.slice (some ⟨b,off,none⟩) len c] w fun e w'=>e=.returned (.tuple #[.int .u64 ((rdN L:Nat):Int),.int .i64 ((rdK L:Nat):Int),.int .i64 ((rdE L:Nat):Int)]) /\ ∃ m,w'=w.drewN m:=by
 obtain ⟨b',off',e,hb,hcell⟩:=hB.at_ hp;injection e with e;injection e with e1 e2;subst e1 e2;have HL:Hid (L.length=len):=hB.size;have HG:Hid (∀ i,L.getD i 0 < 256):=hB.getD;have HC:Hid (∀ i,i < len -> w.cell? ⟨b,off + i,none⟩=some (.int .u8 ((L.getD i 0:Nat):Int))):=hcell;have hl2:=hB.max;clear hB hcell;obtain ⟨q,hq⟩:∃ q:Nat,q=len:=⟨_,rfl⟩
 have HQ:Hid (q=min len 10):=by show _=_;omega
 go_enter Tryz.func96,Tryz.ntmps96;go_wp2;go_loopw [5,14] (fun n i wr=>∃ k:Nat,∃ v:Int,k <= q /\ n=.int .u64 v /\ (k <= 9 -> v=((v7 (L.take k):Nat):Int)) /\ i=.int .i64 k /\ (∀ j,j < k -> 128 <= L.getD j 0) /\ ∃ m,wr=w.drewN m) (fun _ i _=>q - (intOf i).toNat)
 case atStart=>exact ⟨0,0,Nat.zero_le _,rfl,fun _=>by simp [v7],rfl,fun j hj=>absurd hj (by omega),0,rfl⟩
 case round =>
  obtain ⟨k,v,hk,rfl,hv,rfl,hge,m,rfl⟩:=hrel;have HGE:Hid (∀ j,j < k -> 128 <= L.getD j 0):=hge;clear hge;by_cases hlt:k < q
  . have hkl:k < len:=by omega
    have hcell:=HC.out k hkl;have hx:=HG.out k;have hv':=hv (by omega);subst hv';clear hv;have hand:=byte_andn (L.getD k 0) hx;obtain ⟨V,hV⟩:∃ V:Int,V=bits .or .u64 ((v7 (L.take k):Nat):Int) (IntKind.u64.wrap (((L.getD k 0 % 128:Nat):Int) * 2 ^ (7 * k))):=⟨_,rfl⟩
    have HV:Hid (k <= 8 \/ (k=9 /\ L.getD k 0 % 128 < 2) -> V=((v7 (L.take (k + 1)):Nat):Int)):=by
     intro h;rw [hV,read_or _ _ k (v7_take_lt L k (by rw [HL.out];omega)) (by omega) h,<- v7_take L k (by rw [HL.out];exact hkl)]
    have hV':=hV.symm;clear hV;obtain ⟨y,hy⟩:∃ y,y=L.getD k 0 % 128:=⟨_,rfl⟩
    rw [<- hy] at hand hV' HV;obtain ⟨x,hxe⟩:∃ x,x=L.getD k 0:=⟨_,rfl⟩
    rw [<- hxe] at hcell hx hand hy;have HY:Hid (y=x % 128):=hy;have hy2:y < 128:=by omega
    clear hy;have HXE:Hid (x=L.getD k 0):=hxe;clear hxe;generalize v7 (L.take k)=v0 at hV' ⊢;by_cases hx2:x < 128
    . have HF:Hid (fe L=k):=fe_eq L k HGE.out (by rw [<- HXE.out];exact hx2);by_cases hok:(0 < x \/ k=0) /\ (x < 2 \/ k < 9)
      . obtain ⟨g1,g2⟩:=hok
        have HO:Hid (okR L=true):=by
         show _
         rw [okR_iff,HF.out,<- HXE.out,HL.out];exact ⟨hkl,by omega,g1,g2⟩
        go_wp2_with (go_at_call 109;refine (may_yes x k _ hx (by omega) g1 g2).mono ?_;rintro e w3 ⟨rfl,rfl⟩);go_ret3;obtain ⟨r1,r2,r3⟩:=rd_some HO.out;rw [r1,r2,r3,HF.out,<- HV.out (by have:=HY.out;omega)];exact ⟨by simp,_,rfl⟩
      . have g:(x=0 /\ 0 < k) \/ (2 <= x /\ 9 <= k):=by omega
        have HO:Hid (¬ okR L=true):=by
         show _
         rw [okR_iff,HF.out,<- HXE.out,HL.out];rintro ⟨_,_,g1,g2⟩;exact hok ⟨g1,g2⟩
        go_wp2_with (go_at_call 109;refine (may_no x k _ hx (by omega) g).mono ?_;rintro e w3 ⟨rfl,rfl⟩);go_ret3;obtain ⟨r1,r2,r3⟩:=rd_none HO.out;rw [r1,r2,r3];exact ⟨rfl,_,rfl⟩
    . go_wp2;go_roundw
      case rel =>
       refine ⟨k + 1,V,by omega,rfl,fun h9=>HV.out (by omega),by go_num,fun j hj=>?_,_,rfl⟩;by_cases hjk:j < k
       . exact HGE.out j hjk
       . have:j=k:=by omega
         subst this;rw [<- HXE.out];omega
      case measure=>simp [intOf];omega
  . have HO:Hid (¬ okR L=true):=by
     show _
     rw [okR_iff];have h1:=fe_low L k HGE.out;have h2:=HL.out;have h3:=HQ.out;rintro ⟨a1,a2,_,_⟩;omega
    go_wp2;go_ret3;obtain ⟨r1,r2,r3⟩:=rd_none HO.out;rw [r1,r2,r3];exact ⟨rfl,_,rfl⟩
theorem read_long {b off len c:Nat} {L:List Nat} {w:World} (hB:By w (some ⟨b,off,none⟩) len L) (hp:0 < len) (hc:len <= c) (hc2:c <= 9223372036854775807) (hlen:10 < len) :
 Calls Tryz.prog 96 #[.slice (some ⟨b,off,none⟩) len c] w fun e w'=>e=.returned (.tuple #[.int .u64 ((rdN L:Nat):Int),.int .i64 ((rdK L:Nat):Int),.int .i64 ((rdE L:Nat):Int)]) /\ ∃ m,w'=w.drewN m:=by
 obtain ⟨b',off',e,hb,hcell⟩:=hB.at_ hp;injection e with e;injection e with e1 e2;subst e1 e2;have HL:Hid (L.length=len):=hB.size;have HG:Hid (∀ i,L.getD i 0 < 256):=hB.getD;have HC:Hid (∀ i,i < len -> w.cell? ⟨b,off + i,none⟩=some (.int .u8 ((L.getD i 0:Nat):Int))):=hcell;have hl2:=hB.max;clear hB hcell;obtain ⟨q,hq⟩:∃ q:Nat,q=10:=⟨_,rfl⟩
 have HQ:Hid (q=min len 10):=by show _=_;omega
 go_enter Tryz.func96,Tryz.ntmps96;go_wp2;go_loopw [5,14] (fun n i wr=>∃ k:Nat,∃ v:Int,k <= q /\ n=.int .u64 v /\ (k <= 9 -> v=((v7 (L.take k):Nat):Int)) /\ i=.int .i64 k /\ (∀ j,j < k -> 128 <= L.getD j 0) /\ ∃ m,wr=w.drewN m) (fun _ i _=>q - (intOf i).toNat)
 case atStart=>exact ⟨0,0,Nat.zero_le _,rfl,fun _=>by simp [v7],rfl,fun j hj=>absurd hj (by omega),0,rfl⟩
 case round =>
  obtain ⟨k,v,hk,rfl,hv,rfl,hge,m,rfl⟩:=hrel;have HGE:Hid (∀ j,j < k -> 128 <= L.getD j 0):=hge;clear hge;by_cases hlt:k < q
  . have hkl:k < len:=by omega
    have hcell:=HC.out k hkl;have hx:=HG.out k;have hv':=hv (by omega);subst hv';clear hv;have hand:=byte_andn (L.getD k 0) hx;obtain ⟨V,hV⟩:∃ V:Int,V=bits .or .u64 ((v7 (L.take k):Nat):Int) (IntKind.u64.wrap (((L.getD k 0 % 128:Nat):Int) * 2 ^ (7 * k))):=⟨_,rfl⟩
    have HV:Hid (k <= 8 \/ (k=9 /\ L.getD k 0 % 128 < 2) -> V=((v7 (L.take (k + 1)):Nat):Int)):=by
     intro h;rw [hV,read_or _ _ k (v7_take_lt L k (by rw [HL.out];omega)) (by omega) h,<- v7_take L k (by rw [HL.out];exact hkl)]
    have hV':=hV.symm;clear hV;obtain ⟨y,hy⟩:∃ y,y=L.getD k 0 % 128:=⟨_,rfl⟩
    rw [<- hy] at hand hV' HV;obtain ⟨x,hxe⟩:∃ x,x=L.getD k 0:=⟨_,rfl⟩
    rw [<- hxe] at hcell hx hand hy;have HY:Hid (y=x % 128):=hy;have hy2:y < 128:=by omega
    clear hy;have HXE:Hid (x=L.getD k 0):=hxe;clear hxe;generalize v7 (L.take k)=v0 at hV' ⊢;by_cases hx2:x < 128
    . have HF:Hid (fe L=k):=fe_eq L k HGE.out (by rw [<- HXE.out];exact hx2);by_cases hok:(0 < x \/ k=0) /\ (x < 2 \/ k < 9)
      . obtain ⟨g1,g2⟩:=hok
        have HO:Hid (okR L=true):=by
         show _
         rw [okR_iff,HF.out,<- HXE.out,HL.out];exact ⟨hkl,by omega,g1,g2⟩
        go_wp2_with (go_at_call 109;refine (may_yes x k _ hx (by omega) g1 g2).mono ?_;rintro e w3 ⟨rfl,rfl⟩);go_ret3;obtain ⟨r1,r2,r3⟩:=rd_some HO.out;rw [r1,r2,r3,HF.out,<- HV.out (by have:=HY.out;omega)];exact ⟨by simp,_,rfl⟩
      . have g:(x=0 /\ 0 < k) \/ (2 <= x /\ 9 <= k):=by omega
        have HO:Hid (¬ okR L=true):=by
         show _
         rw [okR_iff,HF.out,<- HXE.out,HL.out];rintro ⟨_,_,g1,g2⟩;exact hok ⟨g1,g2⟩
        go_wp2_with (go_at_call 109;refine (may_no x k _ hx (by omega) g).mono ?_;rintro e w3 ⟨rfl,rfl⟩);go_ret3;obtain ⟨r1,r2,r3⟩:=rd_none HO.out;rw [r1,r2,r3];exact ⟨rfl,_,rfl⟩
    . go_wp2;go_roundw
      case rel =>
       refine ⟨k + 1,V,by omega,rfl,fun h9=>HV.out (by omega),by go_num,fun j hj=>?_,_,rfl⟩;by_cases hjk:j < k
       . exact HGE.out j hjk
       . have:j=k:=by omega
         subst this;rw [<- HXE.out];omega
      case measure=>simp [intOf];omega
  . have HO:Hid (¬ okR L=true):=by
     show _
     rw [okR_iff];have h1:=fe_low L k HGE.out;have h2:=HL.out;have h3:=HQ.out;rintro ⟨a1,a2,_,_⟩;omega
    go_wp2;go_ret3;obtain ⟨r1,r2,r3⟩:=rd_none HO.out;rw [r1,r2,r3];exact ⟨rfl,_,rfl⟩
theorem read_any {a:Option Addr} {len c:Nat} {L:List Nat} {w:World} (hB:By w a len L) (ha:a=none -> c=0) (hc:len <= c) (hc2:c <= 9223372036854775807) :
 Calls Tryz.prog 96 #[.slice a len c] w fun e w'=>e=.returned (.tuple #[.int .u64 ((rdN L:Nat):Int),.int .i64 ((rdK L:Nat):Int),.int .i64 ((rdE L:Nat):Int)]) /\ ∃ m,w'=w.drewN m:=by
 by_cases h:0 < len
 . obtain ⟨b,off,rfl,_,_⟩:=hB.at_ h;by_cases h10:len <= 10
   . exact read_short hB h hc hc2 h10
   . exact read_long hB h hc hc2 (by omega)
 . have e0:len=0:=by omega
   subst e0;have e1:L=[]:=List.length_eq_zero_iff.1 hB.size;subst e1;exact read_empty c w ha hc2
theorem by_one (w:World) (x:Nat) (h:x < 256):By (w.alloc (.cells #[.int .u8 (x:Int)] 5)) (some ⟨w.heap.size,0,none⟩) 1 [x] :=
 By.alloc w [x] 5 (0,0) #[.int .u8 (x:Int)] (fun i hi=>by
  have:i=0:=by simpa using hi
  subst this;rfl) (by simp) (fun y hy=>by simp at hy;omega)
theorem mine_nil (w:World) (base:Nat):Mine w base none 0 0 []:=⟨World.ownsRow_nil _ _ _ _,fun _=>⟨rfl,rfl⟩,Nat.le_refl _,by omega⟩
theorem leb_snoc:∀ k n,leb (k + 1) n=leb k n ++ [n / 256 ^ k % 256]
 | 0,n=>by simp [leb]
 | k + 1,n=>by
  rw [leb,leb_snoc k (n / 256),leb,List.cons_append,Nat.div_div_eq_div_mul,Nat.pow_succ,Nat.mul_comm 256]
def putOkB (n:Nat) (width:Int):Bool:=decide (1 <= width) && decide (width <= 8) && decide (n / 256 ^ width.toNat=0)
abbrev putOk (n:Nat) (width:Int):Prop:=putOkB n width=true
theorem putOk_iff (n:Nat) (width:Int):putOk n width ↔ 1 <= width /\ width <= 8 /\ n / 256 ^ width.toNat=0:=by
 unfold putOk putOkB;simp [and_assoc]
def putL (n:Nat) (width:Int):List Nat:=if putOk n width then leb width.toNat n else []
def putE (n:Nat) (width:Int):Int:=if putOk n width then 0 else 2
theorem rput_no_width (n width:Int) (w:World) (h:width < 1 \/ 8 < width) :
 Calls Tryz.prog 40 #[.int .u64 n,.int .i64 width] w fun e w'=>e=.returned (.tuple #[.slice none 0 0,.int .i64 2]) /\ w'=w:=by
 rcases h with h | h
 . go_enter Tryz.func40,Tryz.ntmps40;go_wp2_with fail;go_ret2;exact ⟨rfl,rfl⟩
 . go_enter Tryz.func40,Tryz.ntmps40;go_wp2_with fail;go_ret2;exact ⟨rfl,rfl⟩
theorem rput_main (n q:Nat) (w:World) (hn:n < 18446744073709551616) (h1:1 <= q) (h2:q <= 8) :
 Calls Tryz.prog 40 #[.int .u64 n,.int .i64 q] w fun e w'=>∃ a k c,e=.returned (.tuple #[.slice a k c,.int .i64 (putE n q)]) /\ By w' a k (putL n q) /\ Kept w w' none:=by
 have HP:Hid (putOk n (q:Int) ↔ n / 256 ^ q=0):=by
  show _ ↔ _
  rw [putOk_iff];simp;omega
 go_enter Tryz.func40,Tryz.ntmps40;go_wp2;go_loopw [0,6,7] (fun nv ov iv wr=>∃ k cur:Nat,∃ a c,k <= q /\ nv=.int .u64 cur /\ cur=n / 256 ^ k /\ ov=.slice a k c /\ iv=.int .i64 k /\ Mine wr w.heap.size a k c (leb k n) /\ Kept w wr none /\ cur < 18446744073709551616) (fun _ _ iv _=>q - (intOf iv).toNat)
 case atStart=>exact ⟨0,n,none,0,Nat.zero_le _,rfl,by simp,rfl,rfl,mine_nil _ _,Kept.refl _ _,hn⟩
 case round =>
  obtain ⟨k,cur,a,c,hk,rfl,hcur,rfl,rfl,hm,hkept,hc⟩:=hrel;by_cases hlt:k < q
  . have HS:Hid (leb (k + 1) n=leb k n ++ [cur % 256]):=by show _=_;rw [leb_snoc,<- hcur]
    have HD:Hid (cur / 256=n / 256 ^ (k + 1)):=by show _=_;rw [hcur,Nat.div_div_eq_div_mul,Nat.pow_succ]
    clear hcur;have hb:=by_one wr (cur % 256) (by omega);have he:(((cur % 256:Nat):Int))=(cur:Int) % 256:=by omega
    rw [he] at hb;have HB:Hid (By (wr.alloc (.cells #[.int .u8 ((cur:Int) % 256)] 5)) (some ⟨wr.heap.size,0,none⟩) 1 [cur % 256]):=hb;have HM:Hid (Mine wr w.heap.size a k c (leb k n)):=hm;have hsz:=hkept.size;clear hb he hm;go_wp2_with (at_builtin;refine wpList_join (by rfl) _ _ (by rfl) w.heap.size (.slice a k c) k (leb k n) (by rfl) (HM.out.own.alloc _) (some ⟨wr.heap.size,0,none⟩) 1 1 [cur % 256] (by rfl) HB.out (fun e=>(nomatch e)) (by omega) (by simp;omega) ?_;intro a2 c2 w2 hm2 hg2);go_roundw
    case rel=>exact ⟨k + 1,cur / 256,a2,c2,by omega,by go_num,HD.out,rfl,by go_num,by rw [HS.out];exact hm2,(hkept.tr (Kept.alloc _ _ _ _ _)).newRow hg2 HM.out.new,by omega⟩
    case measure=>simp [intOf];omega
  . have hkq:k=q:=by omega
    subst hkq;have HM:Hid (Mine wr w.heap.size a k c (leb k n)):=hm;have HC:Hid (cur=n / 256 ^ k):=hcur;clear hm hcur;by_cases hz:0 < cur
    . have ho:¬ putOk n (k:Int):=by rw [HP.out,<- HC.out];omega
      go_wp2;go_ret2;unfold putE putL;rw [if_neg ho,if_neg ho];exact ⟨none,0,0,rfl,By.nil _ _,hkept⟩
    . have ho:putOk n (k:Int):=by rw [HP.out,<- HC.out];omega
      go_wp2;go_ret2;unfold putE putL;rw [if_pos ho,if_pos ho];exact ⟨a,k,c,rfl,by simpa using HM.out.by (leb_lt _ _),hkept⟩
theorem rput_all (n:Nat) (width:Int) (w:World) (hn:n < 18446744073709551616) :
 Calls Tryz.prog 40 #[.int .u64 n,.int .i64 width] w fun e w'=>∃ a k c,e=.returned (.tuple #[.slice a k c,.int .i64 (putE n width)]) /\ By w' a k (putL n width) /\ Kept w w' none:=by
 by_cases hw:width < 1 \/ 8 < width
 . have ho:¬ putOk n width:=fun h=>by obtain ⟨h1,h2,_⟩:=(putOk_iff _ _).1 h;omega
   unfold putE putL;rw [if_neg ho,if_neg ho];refine (rput_no_width n width w hw).mono ?_;rintro e w ⟨rfl,rfl⟩;exact ⟨none,0,0,rfl,By.nil _ _,Kept.refl _ _⟩
 . obtain ⟨q,rfl⟩:∃ q:Nat,width=(q:Int):=⟨width.toNat,by omega⟩
   exact rput_main n q w hn (by omega) (by omega)
theorem rsmall_any (n:Nat) (w:World) (hn:n < 18446744073709551616) :
 Calls Tryz.prog 72 #[.int .u64 n] w fun e w'=>∃ a k c,e=.returned (.slice a k c) /\ By w' a k (sml n) /\ Kept w w' none:=by
 have hl10:=sml_len10 n hn;go_enter Tryz.func72,Tryz.ntmps72;go_wp2;go_loopw [0,3] (fun nv lv wr=>∃ (cur k:Nat) (a:Option Addr) (c:Nat) (pre:List Nat),nv=.int .u64 cur /\ lv=.slice a k c /\ pre ++ sml cur=sml n /\ cur < 18446744073709551616 /\ Mine wr w.heap.size a k c pre /\ Kept w wr none) (fun nv _ _=>(intOf nv).toNat)
 case atStart=>exact ⟨n,0,none,0,[],rfl,rfl,rfl,hn,mine_nil _ _,Kept.refl _ _⟩
 case round =>
  obtain ⟨cur,k,a,c,pre,rfl,rfl,he,hc,hm,hkept⟩:=hrel
  have hpl:k + (sml cur).length=(sml n).length:=by
   have:=hm.own.1;rw [<- he];simp at this ⊢;omega
  have hp:=sml_pos cur;have hk10:k + 1 <= 10:=by omega
  have HM:Hid (Mine wr w.heap.size a k c pre):=hm;have hsz:=hkept.size;clear hm;by_cases hlt:128 <= cur
  . have HE:Hid (pre ++ sml cur=sml n):=he;have hb:=by_one wr (cur % 128 + 128) (by omega);have hee:(((cur % 128 + 128:Nat):Int))=(cur:Int) % 128 + 128:=by omega
    rw [hee] at hb;have HB:Hid (By (wr.alloc (.cells #[.int .u8 ((cur:Int) % 128 + 128)] 5)) (some ⟨wr.heap.size,0,none⟩) 1 [cur % 128 + 128]):=hb;clear he hpl hb hee;go_wp2_with (at_builtin;refine wpList_join (by rfl) _ _ (by rfl) w.heap.size (.slice a k c) k pre (by rfl) (HM.out.own.alloc _) (some ⟨wr.heap.size,0,none⟩) 1 1 [cur % 128 + 128] (by rfl) HB.out (fun e=>(nomatch e)) (by omega) (by simp;omega) ?_;intro a2 c2 w2 hm2 hg2);go_roundw
    case rel=>exact ⟨cur / 128,k + 1,a2,c2,pre ++ [cur % 128 + 128],by go_num,rfl,by rw [List.append_assoc,List.singleton_append,<- sml_hi hlt];exact HE.out,by omega,hm2,(hkept.tr (Kept.alloc _ _ _ _ _)).newRow hg2 HM.out.new⟩
    case measure=>simp [intOf];omega
  . rw [sml_lo (by omega)] at he;have HE:Hid (pre ++ [cur]=sml n):=he;have HB:Hid (By (wr.alloc (.cells #[.int .u8 (cur:Int)] 5)) (some ⟨wr.heap.size,0,none⟩) 1 [cur]):=by_one wr cur (by omega);clear he hpl;go_wp2_with (at_builtin;refine wpList_join (by rfl) _ _ (by rfl) w.heap.size (.slice a k c) k pre (by rfl) (HM.out.own.alloc _) (some ⟨wr.heap.size,0,none⟩) 1 1 [cur] (by rfl) HB.out (fun e=>(nomatch e)) (by omega) (by simp;omega) ?_;intro a2 c2 w2 hm2 hg2);go_ret;rw [HE.out] at hm2;exact ⟨a2,k + 1,c2,rfl,hm2.by (sml_lt n),(hkept.tr (Kept.alloc _ _ _ _ _)).newRow hg2 HM.out.new⟩
theorem v7_drop (L:List Nat) (i:Nat) (h:i < L.length):v7 (L.drop i)=L.getD i 0 % 128 + 128 * v7 (L.drop (i + 1)):=by
 rw [List.drop_eq_getElem_cons h,v7];simp [h]
theorem v7_drop_le:∀ (L:List Nat) (i:Nat),v7 (L.drop i) <= v7 L
 | [],i=>by simp
 | x :: L,0=>by simp
 | x :: L,i + 1=>by
  have:=v7_drop_le L i;rw [List.drop_succ_cons,v7];omega
theorem rread_any {a:Option Addr} {len c:Nat} {L:List Nat} {w:World} (hB:By w a len L) :
 Calls Tryz.prog 53 #[.slice a len c] w fun e w'=>e=.returned (.tuple #[.int .u64 ((rdN L:Nat):Int),.int .i64 ((rdK L:Nat):Int),.int .i64 ((rdE L:Nat):Int)]) /\ ∃ m,w'=w.drewN m:=by
 have HL:Hid (L.length=len):=hB.size;have HG:Hid (∀ i,L.getD i 0 < 256):=hB.getD;have HA:Hid (0 < len -> ∃ b off,a=some ⟨b,off,none⟩ /\ b < w.heap.size /\ ∀ i,i < len -> w.cell? ⟨b,off + i,none⟩=some (.int .u8 ((L.getD i 0:Nat):Int))):=hB.at_;have hl2:=hB.max;clear hB;go_enter Tryz.func53,Tryz.ntmps53;go_wp2;go_loopw [5] (fun kv wr=>∃ k:Nat,k <= len /\ k <= 10 /\ kv=.int .i64 k /\ (∀ j,j < k -> 128 <= L.getD j 0) /\ ∃ m,wr=w.drewN m) (fun kv _=>10 - (intOf kv).toNat)
 case atStart=>exact ⟨0,Nat.zero_le _,by omega,rfl,fun j hj=>absurd hj (by omega),0,rfl⟩
 case round =>
  obtain ⟨k,hk,hk10,rfl,hge,m,rfl⟩:=hrel;have HGE:Hid (∀ j,j < k -> 128 <= L.getD j 0):=hge;clear hge;by_cases c1:k < len
  . obtain ⟨b,off,rfl,hb,hc⟩:=HA.out (by omega);have HC:Hid (∀ i,i < len -> w.cell? ⟨b,off + i,none⟩=some (.int .u8 ((L.getD i 0:Nat):Int))):=hc;clear hc;by_cases c2:k < 10
    . have hcell:=HC.out k c1;have hx:=HG.out k;obtain ⟨x,hxe⟩:∃ x,x=L.getD k 0:=⟨_,rfl⟩
      rw [<- hxe] at hcell hx;have HXE:Hid (x=L.getD k 0):=hxe;clear hxe;by_cases c3:128 <= x
      . have d3:decide ((128:Int) <= (x:Int))=true:=decide_eq_true (by omega);go_wp2;go_roundw
        case rel =>
         refine ⟨k + 1,by omega,by omega,by go_num,fun j hj=>?_,_,rfl⟩;by_cases hjk:j < k
         . exact HGE.out j hjk
         . have:j=k:=by omega
           subst this;rw [<- HXE.out];exact c3
        case measure=>simp [intOf];omega
      . have HF:Hid (fe L=k):=fe_eq L k HGE.out (by rw [<- HXE.out];omega);have d3:decide ((128:Int) <= (x:Int))=false:=decide_eq_false (by omega);by_cases k9:k=9
        . subst k9;have d9:((9:Int) == 9)=true:=by decide
          by_cases x1:1 < x
          . have d1:decide ((1:Int) < (x:Int))=true:=decide_eq_true (by omega)
            have HO:Hid (¬ okR L=true):=by
             show ¬ _
             rw [okR_iff,HF.out,<- HXE.out,HL.out];rintro ⟨_,_,g1,g2⟩;omega
            go_wp2;go_ret3;obtain ⟨r1,r2,r3⟩:=rd_none HO.out;rw [r1,r2,r3];exact ⟨rfl,_,rfl⟩
          . have d1:decide ((1:Int) < (x:Int))=false:=decide_eq_false (by omega);by_cases x0:x=0
            . subst x0
              have HO:Hid (¬ okR L=true):=by
               show ¬ _
               rw [okR_iff,HF.out,<- HXE.out,HL.out];rintro ⟨_,_,g1,g2⟩;omega
              go_wp2;go_ret3;obtain ⟨r1,r2,r3⟩:=rd_none HO.out;rw [r1,r2,r3];exact ⟨rfl,_,rfl⟩
            . have x01:x=1:=by omega
              subst x01
              have HO:Hid (okR L=true):=by
               show _=_
               rw [okR_iff,HF.out,<- HXE.out,HL.out];exact ⟨c1,by omega,by omega,by omega⟩
              obtain ⟨r1,r2,r3⟩:=rd_some HO.out;have hlt64:=rdN_lt L;rw [r1] at hlt64;rw [HF.out] at r1 r2 hlt64;have HR1:Hid (rdN L=v7 (L.take (9 + 1))):=r1;have HR2:Hid (rdK L=9 + 1):=r2;have HR3:Hid (rdE L=0):=r3;have HXl:Hid ((L.take (9 + 1)).length=9 + 1):=by have:=HL.out;show _=_;simp;omega
              have HXg:Hid (∀ j,j < 9 + 1 -> (L.take (9 + 1)).getD j 0=L.getD j 0):=fun j hj=>by simp [List.getElem?_take,hj]
              have HX64:Hid (v7 (L.take (9 + 1)) < 18446744073709551616):=hlt64;clear r1 r2 r3 hlt64;go_wp2;go_loopw [6,7] (fun n i wr=>∃ j:Nat,j <= 9 + 1 /\ n=.int .u64 ((v7 ((L.take (9 + 1)).drop j):Nat):Int) /\ i=.int .i64 ((j:Int) - 1) /\ ∃ m,wr=w.drewN m) (fun _ i _=>(intOf i + 1).toNat)
              case atStart=>exact ⟨9 + 1,Nat.le_refl _,by rw [List.drop_of_length_le (by rw [HXl.out];exact Nat.le_refl _)];rfl,by go_num,m,rfl⟩
              case round =>
               obtain ⟨q,hq,rfl,rfl,m2,rfl⟩:=hrel;by_cases hlt:0 < q
               . obtain ⟨j,rfl⟩:∃ j,q=j + 1:=⟨q - 1,by omega⟩
                 have hcj:=HC.out j (by omega);have hy:=HG.out j;have hd:=v7_drop (L.take (9 + 1)) j (by rw [HXl.out];omega);have hn:=Nat.lt_of_le_of_lt (v7_drop_le (L.take (9 + 1)) j) HX64.out;rw [HXg.out j (by omega)] at hd;have HD:Hid (v7 ((L.take (9 + 1)).drop j)=L.getD j 0 % 128 + 128 * v7 ((L.take (9 + 1)).drop (j + 1))):=hd;rw [hd] at hn;clear hd;generalize L.getD j 0=y at *;generalize v7 ((L.take (9 + 1)).drop (j + 1))=v at *;have hj:((j + 1:Nat):Int) - 1=(j:Int):=by omega
                 rw [hj];go_wp2;go_roundw
                 case rel=>exact ⟨j,by omega,by rw [HD.out];go_num,by go_num,_,rfl⟩
                 case measure=>simp [intOf]
               . have hq0:q=0:=by omega
                 subst hq0;rw [List.drop_zero];go_wp2;go_ret3;rw [HR1.out,HR2.out,HR3.out];exact ⟨by simp,_,rfl⟩
        . have d9:((k:Int) == 9)=false:=by simp;omega
          by_cases k0:k=0
          . subst k0;rw [Nat.add_zero] at hcell
            have HO:Hid (okR L=true):=by
             show _=_
             rw [okR_iff,HF.out,<- HXE.out,HL.out];exact ⟨c1,by omega,by omega,by omega⟩
            obtain ⟨r1,r2,r3⟩:=rd_some HO.out;have hlt64:=rdN_lt L;rw [r1] at hlt64;rw [HF.out] at r1 r2 hlt64;have HR1:Hid (rdN L=v7 (L.take (0 + 1))):=r1;have HR2:Hid (rdK L=0 + 1):=r2;have HR3:Hid (rdE L=0):=r3;have HXl:Hid ((L.take (0 + 1)).length=0 + 1):=by have:=HL.out;show _=_;simp;omega
            have HXg:Hid (∀ j,j < 0 + 1 -> (L.take (0 + 1)).getD j 0=L.getD j 0):=fun j hj=>by simp [List.getElem?_take,hj]
            have HX64:Hid (v7 (L.take (0 + 1)) < 18446744073709551616):=hlt64;clear r1 r2 r3 hlt64;go_wp2;go_loopw [6,7] (fun n i wr=>∃ j:Nat,j <= 0 + 1 /\ n=.int .u64 ((v7 ((L.take (0 + 1)).drop j):Nat):Int) /\ i=.int .i64 ((j:Int) - 1) /\ ∃ m,wr=w.drewN m) (fun _ i _=>(intOf i + 1).toNat)
            case atStart=>exact ⟨0 + 1,Nat.le_refl _,by rw [List.drop_of_length_le (by rw [HXl.out];exact Nat.le_refl _)];rfl,by go_num,m,rfl⟩
            case round =>
             obtain ⟨q,hq,rfl,rfl,m2,rfl⟩:=hrel;by_cases hlt:0 < q
             . obtain ⟨j,rfl⟩:∃ j,q=j + 1:=⟨q - 1,by omega⟩
               have hcj:=HC.out j (by omega);have hy:=HG.out j;have hd:=v7_drop (L.take (0 + 1)) j (by rw [HXl.out];omega);have hn:=Nat.lt_of_le_of_lt (v7_drop_le (L.take (0 + 1)) j) HX64.out;rw [HXg.out j (by omega)] at hd;have HD:Hid (v7 ((L.take (0 + 1)).drop j)=L.getD j 0 % 128 + 128 * v7 ((L.take (0 + 1)).drop (j + 1))):=hd;rw [hd] at hn;clear hd;generalize L.getD j 0=y at *;generalize v7 ((L.take (0 + 1)).drop (j + 1))=v at *;have hj:((j + 1:Nat):Int) - 1=(j:Int):=by omega
               rw [hj];go_wp2;go_roundw
               case rel=>exact ⟨j,by omega,by rw [HD.out];go_num,by go_num,_,rfl⟩
               case measure=>simp [intOf]
             . have hq0:q=0:=by omega
               subst hq0;rw [List.drop_zero];go_wp2;go_ret3;rw [HR1.out,HR2.out,HR3.out];exact ⟨by simp,_,rfl⟩
          . have dk:decide ((0:Int) < (k:Int))=true:=decide_eq_true (by omega);by_cases x0:x=0
            . subst x0
              have HO:Hid (¬ okR L=true):=by
               show ¬ _
               rw [okR_iff,HF.out,<- HXE.out,HL.out];rintro ⟨_,_,g1,g2⟩;omega
              go_wp2;go_ret3;obtain ⟨r1,r2,r3⟩:=rd_none HO.out;rw [r1,r2,r3];exact ⟨rfl,_,rfl⟩
            . have dx:((x:Int) == 0)=false:=by simp;omega
              have HO:Hid (okR L=true):=by
               show _=_
               rw [okR_iff,HF.out,<- HXE.out,HL.out];exact ⟨c1,by omega,by omega,by omega⟩
              obtain ⟨r1,r2,r3⟩:=rd_some HO.out;have hlt64:=rdN_lt L;rw [r1] at hlt64;rw [HF.out] at r1 r2 hlt64;have HR1:Hid (rdN L=v7 (L.take (k + 1))):=r1;have HR2:Hid (rdK L=k + 1):=r2;have HR3:Hid (rdE L=0):=r3;have HXl:Hid ((L.take (k + 1)).length=k + 1):=by have:=HL.out;show _=_;simp;omega
              have HXg:Hid (∀ j,j < k + 1 -> (L.take (k + 1)).getD j 0=L.getD j 0):=fun j hj=>by simp [List.getElem?_take,hj]
              have HX64:Hid (v7 (L.take (k + 1)) < 18446744073709551616):=hlt64;clear r1 r2 r3 hlt64;go_wp2;go_loopw [6,7] (fun n i wr=>∃ j:Nat,j <= k + 1 /\ n=.int .u64 ((v7 ((L.take (k + 1)).drop j):Nat):Int) /\ i=.int .i64 ((j:Int) - 1) /\ ∃ m,wr=w.drewN m) (fun _ i _=>(intOf i + 1).toNat)
              case atStart=>exact ⟨k + 1,Nat.le_refl _,by rw [List.drop_of_length_le (by rw [HXl.out];exact Nat.le_refl _)];rfl,by go_num,m,rfl⟩
              case round =>
               obtain ⟨q,hq,rfl,rfl,m2,rfl⟩:=hrel;by_cases hlt:0 < q
               . obtain ⟨j,rfl⟩:∃ j,q=j + 1:=⟨q - 1,by omega⟩
                 have hcj:=HC.out j (by omega);have hy:=HG.out j;have hd:=v7_drop (L.take (k + 1)) j (by rw [HXl.out];omega);have hn:=Nat.lt_of_le_of_lt (v7_drop_le (L.take (k + 1)) j) HX64.out;rw [HXg.out j (by omega)] at hd;have HD:Hid (v7 ((L.take (k + 1)).drop j)=L.getD j 0 % 128 + 128 * v7 ((L.take (k + 1)).drop (j + 1))):=hd;rw [hd] at hn;clear hd;generalize L.getD j 0=y at *;generalize v7 ((L.take (k + 1)).drop (j + 1))=v at *;have hj:((j + 1:Nat):Int) - 1=(j:Int):=by omega
                 rw [hj];go_wp2;go_roundw
                 case rel=>exact ⟨j,by omega,by rw [HD.out];go_num,by go_num,_,rfl⟩
                 case measure=>simp [intOf]
               . have hq0:q=0:=by omega
                 subst hq0;rw [List.drop_zero];go_wp2;go_ret3;rw [HR1.out,HR2.out,HR3.out];exact ⟨by simp,_,rfl⟩
    . have HO:Hid (¬ okR L=true):=by
       show ¬ _
       rw [okR_iff];have h1:=fe_low L k HGE.out;rintro ⟨_,a2,_,_⟩;omega
      go_wp2;go_ret3;obtain ⟨r1,r2,r3⟩:=rd_none HO.out;rw [r1,r2,r3];exact ⟨rfl,_,rfl⟩
  . have HO:Hid (¬ okR L=true):=by
     show ¬ _
     rw [okR_iff];have h1:=fe_low L k HGE.out;have h2:=HL.out;rintro ⟨a1,_,_,_⟩;omega
    go_wp2;go_ret3;obtain ⟨r1,r2,r3⟩:=rd_none HO.out;rw [r1,r2,r3];exact ⟨rfl,_,rfl⟩
def dnM (most:Nat) (s:Rd):Nat × Rd:=if (okR s.1 && decide (rdN s.1 <= most))=true then (rdN s.1,(s.1.drop (rdK s.1),s.2)) else (0,(s.1,true))
theorem dnM_le (most:Nat) (s:Rd):(dnM most s).1 <= most:=by
 unfold dnM;split
 . rename_i h;simp only [Bool.and_eq_true,decide_eq_true_eq] at h;exact h.2
 . omega
theorem dnM_no {most:Nat} {s:Rd} (h:(okR s.1 && decide (rdN s.1 <= most))=false):dnM most s=(0,(s.1,true)):=by unfold dnM;rw [if_neg (by rw [h];decide)]
theorem dnM_yes {most:Nat} {s:Rd} (h:(okR s.1 && decide (rdN s.1 <= most))=true):dnM most s=(rdN s.1,(s.1.drop (rdK s.1),s.2)):=by unfold dnM;rw [if_pos h]
structure Drd (w:World) (H b:Nat) (s:Rd):Prop where
 ex:∃ a n c,w.cell? ⟨b,0,none⟩=some (.slice a n c) /\ Come w a n c s.1 /\ (0 < n -> ∀ x,a=some x -> x.block < H /\ x.block ≠ b)
 c1:w.cell? ⟨b,1,none⟩=some (.bool s.2)
 f0:w.frozen? ⟨b,0,none⟩=false
 f1:w.frozen? ⟨b,1,none⟩=false
 lt:b < H
theorem dfrozen_block {w w':World} {b j:Nat} (h:w'.heap[b]? = w.heap[b]?):w'.frozen? ⟨b,j,none⟩=w.frozen? ⟨b,j,none⟩:=by
 unfold World.frozen?;simp only [h]
theorem Come.dkeptR {w w':World} {r:Option Nat} {a:Option Addr} {n c:Nat} {L:List Nat} (h:Come w a n c L) (q:Kept w w' r) (hr:0 < n -> ∀ x,a=some x -> some x.block ≠ r):Come w' a n c L:=by
 refine ⟨?_,h.nil,h.room,h.max⟩;obtain ⟨h1,h2,h3,h4⟩:=h.by_;refine ⟨h1,h2,h3,fun hp=>?_⟩;obtain ⟨b,off,rfl,hb,hc⟩:=h4 hp;exact ⟨b,off,rfl,Nat.lt_of_lt_of_le hb q.size,fun i hi=>(World.cell?_of_block (w:=w) (a:=⟨b,off + i,none⟩) (q.block b hb (hr hp _ rfl))).trans (hc i hi)⟩
theorem Drd.kept {w w':World} {H b:Nat} {s:Rd} {r:Option Nat} (h:Drd w H b s) (q:Kept w w' r) (hr:∀ i,r=some i -> H <= i):Drd w' H b s:=by
 have hb:some b ≠ r:=fun e=>by have:=hr b e.symm;have:=h.lt;omega
 obtain ⟨a,n,c,h1,h2,h3⟩:=h.ex;have hbl:=block_lt h1;exact ⟨⟨a,n,c,cell_keptR h1 q hb,h2.dkeptR q (fun hp x hx e=>by have:=hr _ e.symm;have:=(h3 hp x hx).1;omega),h3⟩,cell_keptR h.c1 q hb,(dfrozen_block (q.block b hbl hb)).trans h.f0,(dfrozen_block (q.block b hbl hb)).trans h.f1,h.lt⟩
theorem dkept_set (w:World) (b j:Nat) (v:Value):Kept w (w.setCell ⟨b,j,none⟩ v) (some b) :=
 ⟨rfl,rfl,rfl,by simp [World.setCell],fun k hk hr=>by
  simp only [World.setCell];rw [Array.getElem?_modify,if_neg (fun e=>hr (by rw [e]))]⟩
theorem dfrozen_set (w:World) (p a:Addr) (v:Value):(w.setCell p v).frozen? a=w.frozen? a:=World.frozen?_setCell _ _ _ _
theorem Drd.bad {w:World} {H b:Nat} {s:Rd} (h:Drd w H b s):Drd (w.setCell ⟨b,1,none⟩ (.bool true)) H b (s.1,true):=by
 obtain ⟨a,n,c,h1,h2,h3⟩:=h.ex;exact ⟨⟨a,n,c,(World.cell?_setCell_other _ _ _ _ (by simp)).trans h1,h2.dkeptR (dkept_set _ _ _ _) (fun hp x hx e=>(h3 hp x hx).2 (by injection e)),h3⟩,World.cell?_setCell_same' _ _ _ (by rw [h.c1];rfl),(dfrozen_set _ _ _ _).trans h.f0,(dfrozen_set _ _ _ _).trans h.f1,h.lt⟩
theorem By.ddrop {w:World} {b off n:Nat} {L:List Nat} (h:By w (some ⟨b,off,none⟩) n L) (k:Nat) (hk:k <= n):By w (some ⟨b,off + k,none⟩) (n - k) (L.drop k):=by
 obtain ⟨h1,h2,h3,h4⟩:=h;refine ⟨by simp;omega,by omega,fun x hx=>h3 x (List.mem_of_mem_drop hx),fun hp=>?_⟩;obtain ⟨b',off',e,hb,hc⟩:=h4 (by omega);injection e with e;injection e with e1 e2;subst e1 e2;refine ⟨b,off + k,rfl,hb,fun i hi=>?_⟩;rw [Nat.add_assoc,hc (k + i) (by omega)];simp
theorem Drd.set {w:World} {H b:Nat} {L L':List Nat} {bd:Bool} {a:Option Addr} {n c:Nat} (h:Drd w H b (L,bd)) (hC:Come w a n c L') (hx:0 < n -> ∀ x,a=some x -> x.block < H /\ x.block ≠ b):Drd (w.setCell ⟨b,0,none⟩ (.slice a n c)) H b (L',bd):=by
 obtain ⟨a0,n0,c0,h1,_,_⟩:=h.ex;exact ⟨⟨a,n,c,World.cell?_setCell_same' _ _ _ (by rw [h1];rfl),hC.dkeptR (dkept_set _ _ _ _) (fun hp x hxx e=>(hx hp x hxx).2 (by injection e)),hx⟩,(World.cell?_setCell_other _ _ _ _ (by simp)).trans h.c1,(dfrozen_set _ _ _ _).trans h.f0,(dfrozen_set _ _ _ _).trans h.f1,h.lt⟩
theorem rnum_any {w:World} {H b:Nat} {s:Rd} (h:Drd w H b s) (most:Nat) (hm:most <= 1099511627776):Calls Tryz.prog 26 #[.pointer (some ⟨b,0,none⟩),.int .i64 (most:Int)] w fun e w'=>e=.returned (.int .i64 ((dnM most s).1:Int)) /\ Drd w' H b (dnM most s).2 /\ Kept w w' (some b):=by
 have HR:=Hid.mk' h;obtain ⟨a,n,c,h1,h2,h3⟩:=h.ex;have c1:=h.c1;have f0:=h.f0;have f1:=h.f1;have HC:=Hid.mk' h2;have HX:=Hid.mk' h3;have hnN:=rdN_lt s.1;have hroom:=h2.room;have hcap:=h2.max;have hwm:IntKind.u64.wrap (most:Int)=(most:Int):=by rw [IntKind.wrap_u64];omega
 obtain ⟨L,bd⟩:=s;dsimp only at *;clear h h2 h3
 cases hok:okR L with
 | false =>
  have hE:dnM most (L,bd)=(0,(L,true)):=dnM_no (by rw [hok];rfl);rw [hE];obtain ⟨d1,d2,d3⟩:=rd_none (L:=L) (by rw [hok];decide);go_enter Tryz.func26,Tryz.ntmps26;go_wp2_with (go_at_call 53;refine (rread_any HC.out.by_).mono ?_;rintro e w2 ⟨rfl,m,rfl⟩;rw [d1,d2,d3]);go_ret;exact ⟨rfl,(HR.out.kept (Kept.drewN _ _ none) (fun i e=>by cases e)).bad,(Kept.drewN _ _ _).tr (dkept_set _ _ _ _)⟩
 | true =>
  obtain ⟨d1,d2,d3⟩:=rd_some (L:=L) hok;have hro:=read_only L HC.out.by_.lt hok;have hsz:=HC.out.by_.size;have hkn:rdK L <= n:=by have:=hro.2.2.1;omega
  have hk1:=hro.2.1;have d3':((rdE L:Nat):Int)=0:=by rw [d3];rfl
  have HSZ:=Hid.mk' hsz;clear d1 d2 d3 hro hsz;by_cases hle:rdN L <= most
  . have hE:dnM most (L,bd)=(rdN L,(L.drop (rdK L),bd)):=dnM_yes (by rw [hok];simp [hle]);rw [hE];clear hE;obtain ⟨bb,off,rfl,hbb,_⟩:=HC.out.by_.at_ (by omega);generalize hK:rdK L=K at *;have HK:=Hid.mk' hK;clear hK;generalize hNN:rdN L=N at *;have HN:=Hid.mk' hNN;clear hNN;have hdrop:∀ m,Drd (w.drewN m) H b (L,bd):=fun m=>HR.out.kept (Kept.drewN _ _ none) (fun i e=>by cases e)
    have HD:=Hid.mk' hdrop;have hCm:∀ m,Come (w.drewN m) (some ⟨bb,off + K,none⟩) (n - K) (c - K) (L.drop K):=fun m=>⟨(HC.out.by_.ddrop K hkn).drewN m,fun e=>(nomatch e),by omega,by omega⟩
    have HCm:=Hid.mk' hCm
    have hXm:0 < n - K -> ∀ x,some (⟨bb,off + K,none⟩:Addr)=some x -> x.block < H /\ x.block ≠ b:=fun hp x hx=>by
     injection hx with hx;subst hx;exact HX.out (by omega) ⟨bb,off,none⟩ rfl
    have HXm:=Hid.mk' hXm;have hwn:IntKind.i64.wrap (N:Int)=(N:Int):=by simp [IntKind.wrap,IntKind.bits,IntKind.signed];omega
    clear hdrop hCm hXm;by_cases hcK:K=c
    . have hnK:n=K:=by omega
      have hL0:L.drop K=[]:=by rw [List.drop_eq_nil_iff];have:=HSZ.out;omega
      subst hnK;subst hcK;rw [hL0];clear hL0 HCm HXm;go_enter Tryz.func26,Tryz.ntmps26;go_wp2_with (go_at_call 53;refine (rread_any HC.out.by_).mono ?_;rintro e w2 ⟨rfl,m,rfl⟩;rw [HK.out,HN.out,d3'])
      all_goals
       go_ret;exact ⟨rfl,(HD.out _).set ⟨By.nil _ _,fun e=>(by first | rfl | cases e),Nat.le_refl _,by omega⟩ (fun hp=>absurd hp (by omega)),(Kept.drewN _ _ _).tr (dkept_set _ _ _ _)⟩
    . have hcK2:¬ c=K:=fun e=>hcK e.symm
      have hcK3:K < c:=by omega
      go_enter Tryz.func26,Tryz.ntmps26;go_wp2_with (go_at_call 53;refine (rread_any HC.out.by_).mono ?_;rintro e w2 ⟨rfl,m,rfl⟩;rw [HK.out,HN.out,d3']);go_ret;exact ⟨rfl,(HD.out _).set (HCm.out _) HXm.out,(Kept.drewN _ _ _).tr (dkept_set _ _ _ _)⟩
  . have hE:dnM most (L,bd)=(0,(L,true)):=dnM_no (by rw [hok];simp [hle]);rw [hE];have hgt:most < rdN L:=by omega
    go_enter Tryz.func26,Tryz.ntmps26;go_wp2_with (go_at_call 53;refine (rread_any HC.out.by_).mono ?_;rintro e w2 ⟨rfl,m,rfl⟩;rw [d3']);go_ret;exact ⟨rfl,(HR.out.kept (Kept.drewN _ _ none) (fun i e=>by cases e)).bad,(Kept.drewN _ _ _).tr (dkept_set _ _ _ _)⟩
structure Stay (base:Nat) (w w':World):Prop where
 size:w.heap.size <= w'.heap.size
 block:∀ i,base <= i -> i < w.heap.size -> w'.heap[i]? = w.heap[i]?
theorem Stay.refl (base:Nat) (w:World):Stay base w w:=⟨Nat.le_refl _,fun _ _ _=>rfl⟩
theorem Stay.step {base:Nat} {a w w':World} {r:Option Nat} (h:Stay base a w) (k:Kept w w' r) (hr:∀ g,r=some g -> g < base \/ a.heap.size <= g):Stay base a w' :=
 ⟨Nat.le_trans h.size k.size,fun i hb hi=>(k.block i (Nat.lt_of_lt_of_le hi h.size) (fun e=>by rcases hr i e.symm with q | q <;> omega)).trans (h.block i hb hi)⟩
theorem own_stay {w w':World} {base n k:Nat} {e:TypeId} {v:Value} {xs:List Value} (h:w.ownsRow base e k v n xs) (q:Stay base w w'):w'.ownsRow base e k v n xs:=by
 refine ⟨h.1,?_⟩;rcases id h.2 with ⟨rfl,h0⟩ | ⟨b,cap,cur,rfl,hb,hh,h4⟩
 . exact .inl ⟨rfl,h0⟩
 . exact .inr ⟨b,cap,cur,rfl,hb,(q.block b hb (Array.getElem?_eq_some_iff.1 hh).1).trans hh,h4⟩
theorem Ints.stay {w w':World} {base:Nat} {a:Option Addr} {n c:Nat} {l:List Int} (h:Ints w a n c l) (q:Stay base w w') (hb:∀ b,a=some b -> base <= b.block):Ints w' a n c l :=
 ⟨⟨fun hp=>by
   obtain ⟨b,off,rfl,hl,hc⟩:=h.lie.at_ hp;exact ⟨b,off,rfl,Nat.lt_of_lt_of_le hl q.size,fun i hi j hj=>(World.cell?_of_block (w:=w) (a:=⟨b,off + i * 1 + j,none⟩) (q.block b (hb _ rfl) hl)).trans (hc i hi j hj)⟩⟩,h.size,h.cap,h.rng⟩
structure PlS (wr:World) (base:Nat) (v:Value) (l:List Pl):Prop where
 ex:∃ r:Nat -> Option Addr × Nat,wr.ownsRow base 79 3 v l.length (cellsL l.length 3 (fun i j=>plV (l.getD i q0) (r i).1 (r i).2 j)) /\ (∀ i,i < l.length -> Ints wr (r i).1 (l.getD i q0).splits.length (r i).2 (l.getD i q0).splits) /\ (∀ i,i < l.length -> ∀ b,(r i).1=some b -> v.ownBlock ≠ some b.block /\ b.block < wr.heap.size /\ base <= b.block)
theorem PlS.nil (w:World) (base:Nat):PlS w base (.slice none 0 0) []:=⟨⟨fun _=>(none,0),World.ownsRow_nil _ _ _ _,fun i hi=>by simp at hi,fun i hi=>by simp at hi⟩⟩
theorem PlS.stay {w w':World} {base:Nat} {v:Value} {l:List Pl} (h:PlS w base v l) (q:Stay base w w'):PlS w' base v l:=by
 obtain ⟨r,h1,h2,h3⟩:=h.ex;exact ⟨⟨r,own_stay h1 q,fun i hi=>(h2 i hi).stay q (fun b e=>(h3 i hi b e).2.2),fun i hi b e=>⟨(h3 i hi b e).1,Nat.lt_of_lt_of_le (h3 i hi b e).2.1 q.size,(h3 i hi b e).2.2⟩⟩⟩
theorem PlS.lt {w:World} {base:Nat} {v:Value} {l:List Pl} (h:PlS w base v l):∀ g,v.ownBlock=some g -> base <= g /\ g < w.heap.size:=by
 obtain ⟨r,h1,_,_⟩:=h.ex;exact own_lt h1
theorem PlS.shape {w:World} {base:Nat} {v:Value} {l:List Pl} (h:PlS w base v l):∃ a c,v=.slice a l.length c:=by
 obtain ⟨r,h1,_,_⟩:=h.ex;obtain ⟨a,c,e,_⟩:=lie_own (by omega) h1;exact ⟨a,c,e⟩
theorem PlS.plans {w:World} {base:Nat} {v:Value} {l:List Pl} (h:PlS w base v l) (hr:∀ p ∈ l,i64B p.cycle /\ i64B p.offset):∃ a c,v=.slice a l.length c /\ Plans w a l.length c l:=by
 obtain ⟨r,h1,h2,_⟩:=h.ex;obtain ⟨a,c,e,hl,hc,_⟩:=lie_own (by omega) h1;exact ⟨a,c,e,⟨⟨r,hl,h2⟩,rfl,hc,hr⟩⟩
theorem getD_snocP (l:List Pl) (p:Pl) (i:Nat):(l ++ [p]).getD i q0=if i=l.length then p else l.getD i q0:=by
 by_cases h:i=l.length
 . subst h;simp
 . rw [if_neg h];by_cases h2:i < l.length
   . simp [h2,List.getElem?_append_left]
   . rw [List.getD_eq_getElem?_getD,List.getD_eq_getElem?_getD,List.getElem?_eq_none (by simp;omega),List.getElem?_eq_none (by omega)]
theorem PlS.grow {W:World} {base:Nat} {v:Value} {l:List Pl} {p:Pl} {a':Option Addr} {cap:Nat} (h:PlS W base v l) (hI:Ints W a' p.splits.length cap p.splits) (hb:∀ b,a'=some b -> v.ownBlock ≠ some b.block /\ b.block < W.heap.size /\ base <= b.block) (hk:l.length <= 40) (hbase:base <= W.heap.size) :
 ∃ v' W5,(Builtin.append_ #[47,47] 47 #[v,.slice (some ⟨W.heap.size,0,none⟩) 1 1]).run Tryz.prog (W.alloc (plB p a' cap))=.ok v' W5 /\ PlS W5 base v' (l ++ [p]) /\ Kept W W5 v.ownBlock:=by
 obtain ⟨r,ho,hi,hbb⟩:=h.ex;obtain ⟨i0,hi0,hz0,hz1,hz2⟩:=info_parts Tryz.infoPl;have k4:Kept W (W.alloc (plB p a' cap)) none:=Kept.alloc _ _ _ _ _;have z4:(W.alloc (plB p a' cap)).heap.size=W.heap.size + 1:=by simp
 have q0':∀ j,j < 3 -> (W.alloc (plB p a' cap)).cell? ⟨W.heap.size,0 + j,none⟩=some (plV p a' cap j):=fun j hj=>by
  have:j=0 \/ j=1 \/ j=2:=by omega
  rw [Nat.zero_add];refine alloc_at2 _ _ _ rfl ?_;rcases this with rfl | rfl | rfl <;> rfl
 generalize W.alloc (plB p a' cap)=W4 at *;have own4:=own_keptR' ho k4 (fun g _=>by simp);obtain ⟨v',W5,hr,g1,g2,g3⟩:=grow_run (t:=47) (ty:=47) (c:=1) Tryz.uPls hi0 hz0 hz1 hz2 rfl (by omega) (by omega) own4 q0' (fun j=>by unfold plV;split <;> rfl) (by omega) (by omega);have g2':Kept W4 W5 v.ownBlock:=g2;have hk45:Kept W W5 v.ownBlock:=⟨g2'.os.trans k4.os,g2'.tape.trans k4.tape,g2'.output.trans k4.output,Nat.le_trans k4.size g2'.size,fun i hi hne=>(g2'.block i (Nat.lt_of_lt_of_le hi k4.size) hne).trans (k4.block i hi (by simp))⟩
 have vfr:∀ g,v'.ownBlock=some g -> v.ownBlock=some g \/ W.heap.size <= g:=fun g hg=>by
  rcases g3 with e | e
  . exact .inl (e.symm.trans hg)
  . rw [e] at hg;injection hg with hg;exact .inr (by omega)
 refine ⟨v',W5,hr,⟨⟨fun i=>if i=l.length then (a',cap) else r i,?_,fun i hik=>?_,fun i hik b e=>?_⟩⟩,hk45⟩
 . rw [List.length_append]
   have he:cellsL (l.length + 1) 3 (fun i j=>if i=l.length then plV p a' cap j else plV (l.getD i q0) (r i).1 (r i).2 j)=cellsL (l.length + [p].length) 3 (fun i j=>plV ((l ++ [p]).getD i q0) ((if i=l.length then (a',cap) else r i):Option Addr × Nat).1 ((if i=l.length then (a',cap) else r i):Option Addr × Nat).2 j):=by
    show cellsL (l.length + 1) 3 _=cellsL (l.length + 1) 3 _
    unfold cellsL;refine List.map_congr_left fun q _=>?_
    show (if q / 3=l.length then plV p a' cap (q % 3) else plV (l.getD (q / 3) q0) (r (q / 3)).1 (r (q / 3)).2 (q % 3))=plV ((l ++ [p]).getD (q / 3) q0) ((if q / 3=l.length then (a',cap) else r (q / 3)):Option Addr × Nat).1 ((if q / 3=l.length then (a',cap) else r (q / 3)):Option Addr × Nat).2 (q % 3)
    rw [getD_snocP];by_cases e:q / 3=l.length
    . rw [if_pos e,if_pos e,if_pos e]
    . rw [if_neg e,if_neg e,if_neg e]
   rw [<- he];exact g1
 . rw [getD_snocP];by_cases e:i=l.length
   . rw [if_pos e];simp only [if_pos e];exact hI.keptS hk45 (fun b eb ec=>(hb b eb).1 ec.symm)
   . rw [if_neg e];simp only [if_neg e];have hil:i < l.length:=by rw [List.length_append] at hik;simp at hik;omega
     exact (hi i hil).keptS hk45 (fun b eb ec=>(hbb i hil b eb).1 ec.symm)
 . have hs5:=hk45.size;by_cases ei:i=l.length
   . simp only [if_pos ei] at e;obtain ⟨p1,p2,p3⟩:=hb b e;exact ⟨fun ec=>by rcases vfr _ ec with q | q;exact p1 q;omega,by omega,p3⟩
   . simp only [if_neg ei] at e;have hil:i < l.length:=by rw [List.length_append] at hik;simp at hik;omega
     obtain ⟨p1,p2,p3⟩:=hbb i hil b e;exact ⟨fun ec=>by rcases vfr _ ec with q | q;exact p1 q;omega,by omega,p3⟩
theorem dn_fwd {most n:Nat} (hm:most < 18446744073709551616) (hn:n <= most) (T:List Nat):dnM most (sml n ++ T,false)=(n,(T,false)):=by
 have h:=(upC hm).fwd n T hn;unfold upM at h;unfold dnM;split at h
 . rename_i hc;simp only [Bool.not_false,Bool.true_and] at hc;rw [if_pos hc];exact h
 . injection h with h1 h2;injection h2 with h3 h4
   cases h4
theorem kept_two {a w w':World} {r r':Option Nat} (h:Kept a w r) (k:Kept w w' r') (hr:∀ g,r'=some g -> r=some g \/ a.heap.size <= g):Kept a w' r :=
 ⟨k.os.trans h.os,k.tape.trans h.tape,k.output.trans h.output,Nat.le_trans h.size k.size,fun i hi hne=>(k.block i (Nat.lt_of_lt_of_le hi h.size) (fun e=>by
  rcases hr i e.symm with q | q
  . exact hne q.symm
  . omega)).trans (h.block i hi hne)⟩
theorem Lie.ltrA {lo:Nat} {w w':World} {a:Option Addr} {n k:Nat} {f:Nat -> Nat -> Value} (h:Lie w a n k f) (q:Ltr lo w w') (hl:∀ b,a=some b -> lo <= b.block):Lie w' a n k f :=
 ⟨fun hp=>by
  obtain ⟨b,off,rfl,hb,hc⟩:=h.at_ hp;exact ⟨b,off,rfl,Nat.lt_of_lt_of_le hb q.size,fun i hi j hj=>q.cell (hc i hi j hj) (hl _ rfl)⟩⟩
theorem Ints.ltrA {lo:Nat} {w w':World} {a:Option Addr} {n c:Nat} {l:List Int} (h:Ints w a n c l) (q:Ltr lo w w') (hl:∀ b,a=some b -> lo <= b.block):Ints w' a n c l:=⟨h.lie.ltrA q hl,h.size,h.cap,h.rng⟩
def TwP (w:World) (l:List Pl) (n:Nat) (e:Ending) (w':World):Prop:=∃ a' c',e=.returned (.slice a' n c') /\ (∀ w'',Ltr w.heap.size w' w'' -> Plans w'' a' n c' l) /\ Kept w w' none
theorem Tp.start (w:World) (l:List Pl):Tp w l w 0 (.slice none 0 0):=⟨⟨fun _=>(none,0),World.ownsRow_nil _ _ _ _,fun i hi=>by omega,fun i hi=>by omega⟩,Kept.refl _ _⟩
theorem Tp.done {w wr:World} {l:List Pl} {n:Nat} {v:Value} (h:Tp w l wr n v) (hl:l.length=n) (hr:∀ p ∈ l,i64B p.cycle /\ i64B p.offset):TwP w l n (.returned v) wr:=by
 obtain ⟨⟨r,ho,hi,hb⟩,hk⟩:=h;obtain ⟨a',cap,rfl,h1,h2,h3⟩:=lie_own (by omega) ho;exact ⟨a',cap,rfl,fun w'' q=>⟨⟨r,h1.ltrA q (fun b e=>(h3 b e).1),fun i hin=>(hi i hin).ltrA q (fun b e=>(hb i hin b e).2.2)⟩,hl,h2,hr⟩,hk⟩
theorem twinPlans_any {w:World} {a:Option Addr} {n c:Nat} {l:List Pl} (hP:Plans w a n c l) (hn:n <= 40) (hs:∀ i,i < n -> (l.getD i q0).splits.length <= 40):Calls Tryz.prog 31 #[.slice a n c] w fun e w'=>TwP w l n e w':=by
 have HP:=Hid.mk' hP;have HS:=Hid.mk' hs;have HLN:=Hid.mk' hP.size;have HRG:=Hid.mk' hP.rng;clear hP hs;go_enter Tryz.func31,Tryz.ntmps31;go_wp2;go_loopw [3,4] (fun v i wr=>∃ k:Nat,k <= n /\ i=.int .i64 k /\ Hid (Tp w l wr k v)) (fun _ i _=>n - (intOf i).toNat)
 case atStart=>exact ⟨0,Nat.zero_le _,rfl,Tp.start w l⟩
 case round =>
  obtain ⟨k,hk,rfl,HT⟩:=hrel;by_cases hlt:k < n
  case neg =>
   have e:k=n:=by omega
   subst e;go_wp2;go_ret;exact HT.out.done HLN.out HRG.out
  obtain ⟨b,off,ar,cr,ea,p0,p1,p2,hI⟩:=(HP.out.kept HT.out.kept).at_ hlt;subst ea;have hm:=HS.out k hlt;have hbl:=block_lt p0;obtain ⟨i0,hi0,hz0,hz1,hz2⟩:=info_parts Tryz.infoIn;obtain ⟨a',cap,W2,hrun,h1,h2,h3,h4⟩:=twin_run (w:=wr.alloc (plB (l.getD k q0) ar cr)) (ty:=50) Tryz.uIns hi0 hz0 hz1 hz2 rfl (by omega) (by omega) (hI.kept (Kept.alloc wr _ _ _ _)).lie hI.cap (by omega) (fun i j=>rfl);have hJ:Ints W2 a' (l.getD k q0).splits.length cap (l.getD k q0).splits:=⟨h1,rfl,h2,hI.rng⟩;obtain ⟨v',W5,hrun2,hT5⟩:=HT.out.step (by omega) h4 hJ (fun b e=>(h3 b e).1) (fun b e=>(h3 b e).2);have HT5:=Hid.mk' hT5;have HR1:=Hid.mk' hrun;have HR2:=Hid.mk' hrun2;have hk4:=h4;have z2:wr.heap.size + 1 <= W2.heap.size:=by have:=h4.size;simpa using this
  have q0':W2.cell? ⟨wr.heap.size,0,none⟩=some (.int .i64 (l.getD k q0).cycle):=cell_kept0 (by simp [World.cell?_alloc_mark]) h4;have q1':W2.cell? ⟨wr.heap.size,1,none⟩=some (.int .i64 (l.getD k q0).offset):=cell_kept0 (by simp [World.cell?_alloc_mark]) h4;have q2':W2.cell? ⟨wr.heap.size,2,none⟩=some (.slice ar (l.getD k q0).splits.length cr):=cell_kept0 (by simp [World.cell?_alloc_mark]) h4;have qf:W2.frozen? ⟨wr.heap.size,2,none⟩=false:=(frozen_block (h4.block _ (by simp) (by simp))).trans (by go_simp);clear hI h1 h2 h3 h4 hJ hT5 hrun hrun2 hk4;generalize l.getD k q0=p at *
  go_wp2_with (first
   | (have hgo:=hdone;clear hgo;at_builtin;refine wpList_app (by rfl) _ _ _ (by rfl) (by rfl) (by rfl) HR2.out ?_)
   | (at_builtin;refine wpList_app (by rfl) _ _ _ (by rfl) (by rfl) (by rfl) HR1.out ?_;have hdone:=trivial))
  go_roundw
  case rel=>exact ⟨k + 1,by omega,by go_num,HT5⟩
  case measure=>simp [intOf];omega
theorem Tryz.infoGr:(Tryz.prog.info? 108).map (fun i=>(i.zero,i.size,i.bytes))=some (some (.agg #[.int .u8 0,.int .i64 0,.int .i64 0]),3,24):=by kernel_rfl
theorem Tryz.infoU3:(Tryz.prog.info? 91).map (fun i=>(i.zero,i.size,i.bytes))=some (some (.int .u32 0),1,4):=by kernel_rfl
theorem Tryz.infoPh:(Tryz.prog.info? 110).map (fun i=>(i.zero,i.size,i.bytes))=some (some (.agg #[.int .u32 0,.int .i64 0,.int .i64 0,.int .i64 0,.bool false]),5,40):=by kernel_rfl
theorem Tryz.infoEy:(Tryz.prog.info? 112).map (fun i=>(i.zero,i.size,i.bytes))=some (some (.agg #[.int .i64 0,.int .i64 0,.int .i64 0,.int .i64 0]),4,32):=by kernel_rfl
theorem Tryz.infoSl:(Tryz.prog.info? 50).map (fun i=>(i.zero,i.size,i.bytes))=some (some (.slice none 0 0),1,24):=by kernel_rfl
theorem Tryz.uGrs:Tryz.prog.underlying 42=some (.slice 108):=by kernel_rfl
theorem Tryz.uU3s:Tryz.prog.underlying 43=some (.slice 91):=by kernel_rfl
theorem Tryz.uPhs:Tryz.prog.underlying 45=some (.slice 110):=by kernel_rfl
theorem Tryz.uEys:Tryz.prog.underlying 46=some (.slice 112):=by kernel_rfl
theorem Tryz.uSls:Tryz.prog.underlying 44=some (.slice 50):=by kernel_rfl
structure Tst (w W:World) (s c:Array Value):Prop where
 kept:Kept w W none
 sb:W.rowIs w.heap.size 49 12 (fS s)
 rb:W.rowIs (w.heap.size + 1) 49 12 (fS zS)
 tb:W.rowIs (w.heap.size + 1 + 1) 49 12 (fS c)
theorem Tst.call {w W W':World} {s c:Array Value} (h:Tst w W s c) (k:Kept W W' none):Tst w W' s c:=⟨h.kept.tr k,row_kept h.sb k (by simp),row_kept h.rb k (by simp),row_kept h.tb k (by simp)⟩
theorem Tst.drew {w W:World} {s c:Array Value} (h:Tst w W s c):Tst w W.drew s c:=h.call (Kept.drew _ _)
theorem kept_row {w W W':World} {r:Option Nat} (h:Kept w W none) (k:Kept W W' r) (hr:∀ g,r=some g -> w.heap.size <= g):Kept w W' none :=
 ⟨k.os.trans h.os,k.tape.trans h.tape,k.output.trans h.output,Nat.le_trans h.size k.size,fun b hb _=>(k.block b (Nat.lt_of_lt_of_le hb h.size) (fun e=>by have:=hr b e.symm;omega)).trans (h.block b hb (by simp))⟩
theorem Tst.grow {w W W':World} {s c:Array Value} {r:Option Nat} (h:Tst w W s c) (k:Kept W W' r) (hr:∀ g,r=some g -> w.heap.size + 1 + 1 < g):Tst w W' s c :=
 ⟨kept_row h.kept k (fun g e=>by have:=hr g e;omega),row_kept h.sb k (fun e=>by have:=hr _ e.symm;omega),row_kept h.rb k (fun e=>by have:=hr _ e.symm;omega),row_kept h.tb k (fun e=>by have:=hr _ e.symm;omega)⟩
theorem Tst.put {w W:World} {s c:Array Value} (h:Tst w W s c) (j:Nat) (v:Value) (hj:j < c.size):Tst w (W.setCell ⟨w.heap.size + 1 + 1,j,none⟩ v) s (c.setIfInBounds j v) :=
 ⟨kept_new h.kept (by omega) j v,h.sb.setOther (by show _ ≠ w.heap.size + 1 + 1;omega) v,h.rb.setOther (by show _ ≠ w.heap.size + 1 + 1;omega) v,(h.tb.set j v).congr (fun i _=>fS_set c j v hj i)⟩
structure Nl (w W:World) (a:Option Addr) (n k:Nat) (f:Nat -> Nat -> Value):Prop where
 lie:Lie W a n k f
 new:∀ b,a=some b -> w.heap.size + 1 + 1 < b.block /\ b.block < W.heap.size
theorem Nl.kept {w W W':World} {r:Option Nat} {a:Option Addr} {n k:Nat} {f:Nat -> Nat -> Value} (h:Nl w W a n k f) (q:Kept W W' r) (hr:∀ g,r=some g -> g=w.heap.size + 1 + 1 \/ ∀ b,a=some b -> b.block ≠ g):Nl w W' a n k f :=
 ⟨⟨fun hp=>by
   obtain ⟨b,off,rfl,hb,hc⟩:=h.lie.at_ hp;refine ⟨b,off,rfl,Nat.lt_of_lt_of_le hb q.size,fun i hi j hj=>cell_keptR (hc i hi j hj) q (fun e=>?_)⟩;rcases hr b e.symm with h1 | h1
   . have:=(h.new _ rfl).1;simp only at this;omega
   . exact h1 _ rfl rfl⟩,fun b e=>⟨(h.new b e).1,Nat.lt_of_lt_of_le (h.new b e).2 q.size⟩⟩
theorem Nl.kept0 {w W W':World} {a:Option Addr} {n k:Nat} {f:Nat -> Nat -> Value} (h:Nl w W a n k f) (q:Kept W W' none):Nl w W' a n k f:=h.kept q (fun g e=>nomatch e)
theorem Nl.put {w W:World} {a:Option Addr} {n k:Nat} {f:Nat -> Nat -> Value} (h:Nl w W a n k f) (j:Nat) (v:Value):Nl w (W.setCell ⟨w.heap.size + 1 + 1,j,none⟩ v) a n k f:=h.kept (kept_set _ _ _ _) (fun g e=>.inl (by injection e with e;exact e.symm))
theorem wp_app {o:Oper} {act:Act} {K:Act -> World -> Prop} {Q:Exit -> Act -> World -> Prop} {w w':World} {v u v':Value} (s x:Operand) (t:TypeId) (ho:o.op=.call { callee:=.builtin .append,args:=#[s,x],argTypes:=#[t,t] }) (hs:act.eval s=v) (hx:act.eval x=u)
 (hr:(Builtin.append_ #[t,t] o.type #[v,u]).run Tryz.prog w=.ok v' w') (h:K (act.put o.dst v') w'):o.wp Tryz.prog act w K Q:=by
 unfold Oper.wp execOp;simp only [ho,resolve,invoke,builtin,Sem.run_bind,Sem.run_pure,Result.andThen_ok,List.map_toArray,List.map_cons,List.map_nil,hs,hx,hr];exact h
def Rw (A:Act) (W:World) (e:Exit) (a:Act) (w:World):Prop:=match e with
 | .normal=>a=A /\ w=W
 | _=>False
theorem Rw.out {A:Act} {W w:World} {e:Exit} {a:Act} (h:Rw A W e a w):e=.normal /\ a=A /\ w=W:=by
 cases e with
 | normal=>exact ⟨rfl,h.1,h.2⟩
 | _=>exact h.elim
structure Tg (w W:World) (l:List (List Int)) (k:Nat) (v:Value):Prop where
 ex:∃ r:Nat -> Option Addr × Nat,W.ownsRow (w.heap.size + 1 + 1 + 1) 50 1 v k (cellsL k 1 (fun i _=>.slice (r i).1 (l.getD i []).length (r i).2)) /\ (∀ i,i < k -> Ints W (r i).1 (l.getD i []).length (r i).2 (l.getD i [])) /\ (∀ i,i < k -> ∀ b,(r i).1=some b -> v.ownBlock ≠ some b.block /\ b.block < W.heap.size /\ w.heap.size + 1 + 1 < b.block)
theorem Tg.start (w W:World) (l:List (List Int)):Tg w W l 0 (.slice none 0 0):=⟨⟨fun _=>(none,0),World.ownsRow_nil _ _ _ _,fun i hi=>by omega,fun i hi=>by omega⟩⟩
theorem Tg.kept {w W W':World} {l:List (List Int)} {k:Nat} {v:Value} {r:Option Nat} (h:Tg w W l k v) (q:Kept W W' r) (hr:∀ g,r=some g -> g=w.heap.size + 1 + 1):Tg w W' l k v:=by
 obtain ⟨rr,h1,h2,h3⟩:=h;refine ⟨rr,own_keptR' h1 q (fun g hg e=>?_),fun i hi=>(h2 i hi).keptS q (fun b e ec=>?_),fun i hi b e=>⟨(h3 i hi b e).1,Nat.lt_of_lt_of_le (h3 i hi b e).2.1 q.size,(h3 i hi b e).2.2⟩⟩
 . have:=(own_lt h1 g hg).1;have:=hr g e.symm;omega
 . have:=(h3 i hi b e).2.2;have:=hr _ ec.symm;omega
theorem Tg.kept0 {w W W':World} {l:List (List Int)} {k:Nat} {v:Value} (h:Tg w W l k v) (q:Kept W W' none):Tg w W' l k v:=h.kept q (fun g e=>nomatch e)
theorem Tg.put {w W:World} {l:List (List Int)} {k:Nat} {v:Value} (h:Tg w W l k v) (j:Nat) (u:Value):Tg w (W.setCell ⟨w.heap.size + 1 + 1,j,none⟩ u) l k v:=h.kept (kept_set _ _ _ _) (fun g e=>by injection e with e;exact e.symm)
theorem Tg.done {w W W':World} {l:List (List Int)} {n c:Nat} {a:Option Addr} (h:Tg w W l n (.slice a n c)) (hl:l.length=n) (q:Ltr (w.heap.size + 1 + 1 + 1) W W'):Grid W' a n c l:=by
 obtain ⟨r,ho,hi,hb⟩:=h;obtain ⟨a',cap,e,h1,h2,h3⟩:=lie_own (by omega) ho;injection e with e1 e2 e3;subst e1 e3;exact ⟨⟨r,h1.ltrA q (fun b e=>(h3 b e).1),fun i hin=>(hi i hin).ltrA q (fun b e=>by have:=(hb i hin b e).2.2;omega)⟩,hl,h2⟩
theorem Nl.ltr {w W W':World} {a:Option Addr} {n k:Nat} {f:Nat -> Nat -> Value} (h:Nl w W a n k f) (q:Ltr (w.heap.size + 1 + 1 + 1) W W'):Lie W' a n k f:=h.lie.ltrA q (fun b e=>by have:=(h.new b e).1;omega)
theorem Tg.shape {w W:World} {l:List (List Int)} {n:Nat} {v:Value} (h:Tg w W l n v):∃ a c,v=.slice a n c:=by
 obtain ⟨r,ho,hi,_⟩:=h;obtain ⟨a',cap,rfl,h1,h2,_⟩:=lie_own (by omega) ho;exact ⟨a',cap,rfl⟩
abbrev slB (a:Option Addr) (m c:Nat):Obj:=.cells #[.slice a m c] 50
theorem Tg.step {w W W2:World} {l:List (List Int)} {k:Nat} {v:Value} {a':Option Addr} {cap:Nat} (h:Tg w W l k v) (hk:k <= 40) (hw:w.heap.size + 1 + 1 < W.heap.size)
 (h2:Kept W W2 none) (hI:Ints W2 a' (l.getD k []).length cap (l.getD k [])) (hf:∀ b,a'=some b -> W.heap.size <= b.block /\ b.block < W2.heap.size) :
 ∃ v' W5,(Builtin.append_ #[44,44] 44 #[v,.slice (some ⟨W2.heap.size,0,none⟩) 1 1]).run Tryz.prog (W2.alloc (slB a' (l.getD k []).length cap))=.ok v' W5 /\ Tg w W5 l (k + 1) v' /\ Kept (W2.alloc (slB a' (l.getD k []).length cap)) W5 v.ownBlock /\ (v'.ownBlock=v.ownBlock \/ v'.ownBlock=some (W2.heap.size + 1)):=by
 obtain ⟨r,ho,hi,hb⟩:=h.ex;obtain ⟨i0,hi0,hz0,hz1,hz2⟩:=info_parts Tryz.infoSl;generalize hp:l.getD k []=p at *;have k4:Kept W2 (W2.alloc (slB a' p.length cap)) none:=Kept.alloc _ _ _ _ _;have z4:(W2.alloc (slB a' p.length cap)).heap.size=W2.heap.size + 1:=by simp
 have s2:=h2.size
 have q0':∀ j,j < 1 -> (W2.alloc (slB a' p.length cap)).cell? ⟨W2.heap.size,0 + j,none⟩=some (.slice a' p.length cap):=fun j hj=>by
  have:j=0:=by omega
  subst this;exact alloc_at2 _ _ _ rfl rfl
 generalize (W2.alloc (slB a' p.length cap))=W4 at *;have hol:=own_lt ho;have own4:=own_keptR' (own_keptR' ho h2 (fun g _=>by simp)) k4 (fun g _=>by simp);obtain ⟨v',W5,hr,g1,g2,g3⟩:=grow_run (t:=44) (ty:=44) (c:=1) Tryz.uSls hi0 hz0 hz1 hz2 rfl (by omega) (by omega) own4 q0' (fun j=>rfl) (by omega) (by omega)
 have vfr:∀ g,v'.ownBlock=some g -> v.ownBlock=some g \/ g=W4.heap.size:=fun g hg=>by
  rcases g3 with e | e
  . exact .inl (e.symm.trans hg)
  . rw [e] at hg;injection hg with hg;exact .inr hg.symm
 refine ⟨v',W5,hr,⟨fun i=>if i=k then (a',cap) else r i,?_,fun i hik=>?_,fun i hik b e=>?_⟩,g2,by rw [<- z4];exact g3⟩
 . have he:cellsL (k + 1) 1 (fun i j=>if i=k then .slice a' p.length cap else .slice (r i).1 (l.getD i []).length (r i).2)=cellsL (k + 1) 1 (fun i _=>.slice ((if i=k then (a',cap) else r i):Option Addr × Nat).1 (l.getD i []).length ((if i=k then (a',cap) else r i):Option Addr × Nat).2):=by
    unfold cellsL;refine List.map_congr_left fun q _=>?_
    show (if q / 1=k then Value.slice a' p.length cap else .slice (r (q / 1)).1 (l.getD (q / 1) []).length (r (q / 1)).2)=.slice ((if q / 1=k then (a',cap) else r (q / 1)):Option Addr × Nat).1 (l.getD (q / 1) []).length ((if q / 1=k then (a',cap) else r (q / 1)):Option Addr × Nat).2
    by_cases e:q / 1=k
    . rw [if_pos e,if_pos e,e,hp]
    . rw [if_neg e,if_neg e]
   rw [<- he];exact g1
 . show Ints W5 ((if i=k then (a',cap) else r i):Option Addr × Nat).1 (l.getD i []).length ((if i=k then (a',cap) else r i):Option Addr × Nat).2 (l.getD i [])
   by_cases e:i=k
   . rw [if_pos e,e,hp];refine (hI.kept k4).keptS g2 (fun b eb ec=>?_);have:=(hf b eb).1;have h7:=(hol _ ec.symm).2;omega
   . rw [if_neg e];refine (((hi i (by omega)).kept h2).kept k4).keptS g2 (fun b eb ec=>?_);exact (hb i (by omega) b eb).1 ec.symm
 . have s5:=g2.size;change ((if i=k then (a',cap) else r i):Option Addr × Nat).1=some b at e;by_cases ek:i=k
   . rw [if_pos ek] at e;have h6:=hf b e;refine ⟨fun ec=>?_,by omega,by omega⟩;rcases vfr _ ec with h7 | h7
     . have:=(hol _ h7).2;omega
     . omega
   . rw [if_neg ek] at e;have h6:=hb i (by omega) b e;refine ⟨fun ec=>?_,by omega,h6.2.2⟩;rcases vfr _ ec with h7 | h7
     . exact h6.1 h7
     . omega
structure Bx3 (w:World) (b:Nat) (v0 v1 v2:Value):Prop where
 c0:w.cell? ⟨b,0,none⟩=some v0
 c1:w.cell? ⟨b,1,none⟩=some v1
 c2:w.cell? ⟨b,2,none⟩=some v2
 f0:w.frozen? ⟨b,0,none⟩=false
 f1:w.frozen? ⟨b,1,none⟩=false
 f2:w.frozen? ⟨b,2,none⟩=false
theorem bx3_alloc (w:World) (v0 v1 v2:Value) (t:TypeId):Bx3 (w.alloc (.cells #[v0,v1,v2] t)) w.heap.size v0 v1 v2:=by
 have h:=heap_alloc_new w (.cells #[v0,v1,v2] t);exact ⟨World.cell?_alloc_mark ..,World.cell?_alloc_mark ..,World.cell?_alloc_mark ..,by simp only [World.frozen?,h];rfl,by simp only [World.frozen?,h];rfl,by simp only [World.frozen?,h];rfl⟩
theorem Bx3.kept {w w':World} {b:Nat} {v0 v1 v2:Value} {r:Option Nat} (h:Bx3 w b v0 v1 v2) (k:Kept w w' r) (hr:r ≠ some b):Bx3 w' b v0 v1 v2:=by
 have hb:=block_lt h.c0;have hk:=k.block b hb (fun e=>hr e.symm);exact ⟨(World.cell?_of_block (w:=w) (a:=⟨b,0,none⟩) hk).trans h.c0,(World.cell?_of_block (w:=w) (a:=⟨b,1,none⟩) hk).trans h.c1,(World.cell?_of_block (w:=w) (a:=⟨b,2,none⟩) hk).trans h.c2,(dfrozen_block hk).trans h.f0,(dfrozen_block hk).trans h.f1,(dfrozen_block hk).trans h.f2⟩
theorem Bx3.s1 {w:World} {b:Nat} {v0 v1 v2:Value} (h:Bx3 w b v0 v1 v2) (u:Value):Bx3 (w.setCell ⟨b,1,none⟩ u) b v0 u v2 :=
 ⟨(World.cell?_setCell_other _ _ _ _ (by simp)).trans h.c0,World.cell?_setCell_same' _ _ _ (by rw [h.c1];rfl),(World.cell?_setCell_other _ _ _ _ (by simp)).trans h.c2,(dfrozen_set _ _ _ _).trans h.f0,(dfrozen_set _ _ _ _).trans h.f1,(dfrozen_set _ _ _ _).trans h.f2⟩
theorem Bx3.s2 {w:World} {b:Nat} {v0 v1 v2:Value} (h:Bx3 w b v0 v1 v2) (u:Value):Bx3 (w.setCell ⟨b,2,none⟩ u) b v0 v1 u :=
 ⟨(World.cell?_setCell_other _ _ _ _ (by simp)).trans h.c0,(World.cell?_setCell_other _ _ _ _ (by simp)).trans h.c1,World.cell?_setCell_same' _ _ _ (by rw [h.c2];rfl),(dfrozen_set _ _ _ _).trans h.f0,(dfrozen_set _ _ _ _).trans h.f1,(dfrozen_set _ _ _ _).trans h.f2⟩
theorem rnum_at {w:World} {H b:Nat} {s s':Rd} {n:Nat} {M:Int} (h:Drd w H b s) (most:Nat) (hM:M=(most:Int)) (hm:most <= 1099511627776) (he:dnM most s=(n,s')):Calls Tryz.prog 26 #[.pointer (some ⟨b,0,none⟩),.int .i64 M] w fun e w'=>e=.returned (.int .i64 (n:Int)) /\ Drd w' H b s' /\ Kept w w' (some b):=by
 subst hM;have:=rnum_any h most hm;rw [he] at this;exact this
def DPok (x:List Pl):Prop:=x.length <= 8 /\ ∀ p ∈ x,tickP p.cycle /\ tickP p.offset /\ p.splits.length <= 8 /\ ∀ y ∈ p.splits,tickP y
def DG (s:Rd) (n i:Nat) (l:List Pl) (s':Rd):Prop:=∀ x T,DPok x -> s=(smlI (plansI x) ++ T,false) -> n=x.length /\ l=x.take i /\ s'=((x.drop i).flatMap (fun p=>smlI (plI p)) ++ T,false)
def DG2 (s:Rd) (i cv ov mv k:Nat) (sp:List Int) (s':Rd):Prop:=∀ x T,DPok x -> s=(smlI (plansI x) ++ T,false) -> i < x.length /\ (cv:Int)=(x.getD i q0).cycle /\ (ov:Int)=(x.getD i q0).offset /\ mv=(x.getD i q0).splits.length /\ sp=(x.getD i q0).splits.take k /\ s'=(smlI ((x.getD i q0).splits.drop k) ++ ((x.drop (i + 1)).flatMap (fun p=>smlI (plI p)) ++ T),false)
theorem getD_memP {x:List Pl} {i:Nat} (h:i < x.length):x.getD i q0 ∈ x:=by
 have:x.getD i q0=x[i]:=by simp [h]
 rw [this];exact List.getElem_mem h
theorem drop_consP {x:List Pl} {i:Nat} (h:i < x.length):x.drop i=x.getD i q0 :: x.drop (i + 1):=by
 rw [List.drop_eq_getElem_cons h];simp [h]
theorem DG.start {s s1:Rd} {n:Nat} (he:dnM 8 s=(n,s1)):DG s n 0 [] s1:=by
 intro x T hx hs
 have e:smlI (plansI x) ++ T=sml x.length ++ (x.flatMap (fun p=>smlI (plI p)) ++ T):=by
  unfold plansI;simp [smlI,List.flatMap_assoc]
 rw [hs,e,dn_fwd (by omega) hx.1] at he;injection he with h1 h2;exact ⟨h1.symm,rfl,by rw [<- h2];simp⟩
theorem DG.step {s s' s1 s2 s3:Rd} {n i cv ov mv:Nat} {l:List Pl} (h:DG s n i l s') (hi:i < n) (e1:dnM 1048576 s'=(cv,s1)) (e2:dnM 1048576 s1=(ov,s2)) (e3:dnM 8 s2=(mv,s3)):DG2 s i cv ov mv 0 [] s3:=by
 intro x T hx hs;obtain ⟨h1,h2,h3⟩:=h x T hx hs;have hix:i < x.length:=by omega
 obtain ⟨p1,p2,p3,p4⟩:=hx.2 _ (getD_memP hix);unfold tickP at p1 p2
 have e:(x.drop i).flatMap (fun p=>smlI (plI p)) ++ T=sml (x.getD i q0).cycle.toNat ++ (sml (x.getD i q0).offset.toNat ++ (sml (x.getD i q0).splits.length ++ (smlI (x.getD i q0).splits ++ ((x.drop (i + 1)).flatMap (fun p=>smlI (plI p)) ++ T)))):=by
  rw [drop_consP hix,List.flatMap_cons];unfold plI;simp [smlI]
 rw [e] at h3;rw [h3,dn_fwd (by omega) (by omega)] at e1;injection e1 with a1 a2;rw [<- a2,dn_fwd (by omega) (by omega)] at e2;injection e2 with b1 b2;rw [<- b2,dn_fwd (by omega) (by omega)] at e3;injection e3 with c1 c2;refine ⟨hix,by omega,by omega,c1.symm,rfl,?_⟩;rw [<- c2];simp
theorem DG2.step {s s4 s5:Rd} {i cv ov mv k y:Nat} {sp:List Int} (h:DG2 s i cv ov mv k sp s4) (hk:k < mv) (e:dnM 1048576 s4=(y,s5)):DG2 s i cv ov mv (k + 1) (sp ++ [(y:Int)]) s5:=by
 intro x T hx hs;obtain ⟨h1,h2,h3,h4,h5,h6⟩:=h x T hx hs;obtain ⟨p1,p2,p3,p4⟩:=hx.2 _ (getD_memP h1);generalize (x.getD i q0)=p at *;have hkp:k < p.splits.length:=by omega
 have hmem:p.splits[k] ∈ p.splits:=List.getElem_mem hkp;have ht:=p4 _ hmem;unfold tickP at ht;have ed:p.splits.drop k=p.splits[k] :: p.splits.drop (k + 1):=List.drop_eq_getElem_cons hkp;rw [h6,ed] at e;have e':smlI (p.splits[k] :: p.splits.drop (k + 1))=sml (p.splits[k]).toNat ++ smlI (p.splits.drop (k + 1)):=by unfold smlI;rw [List.flatMap_cons]
 rw [e',List.append_assoc,dn_fwd (by omega) (by omega)] at e;injection e with a1 a2;refine ⟨h1,h2,h3,h4,?_,a2.symm⟩;rw [List.take_succ_eq_append_getElem hkp,<- h5,<- a1];have hy:((p.splits[k].toNat:Nat):Int)=p.splits[k]:=by omega
 rw [hy]
theorem DG2.out {s s4:Rd} {n i cv ov mv k:Nat} {l:List Pl} {s':Rd} {sp:List Int} (h:DG2 s i cv ov mv k sp s4) (h0:DG s n i l s') (hk:k=mv \/ s4.2=true):DG s n (i + 1) (l ++ [⟨(cv:Int),(ov:Int),sp⟩]) s4:=by
 intro x T hx hs;obtain ⟨h1,h2,h3,h4,h5,h6⟩:=h x T hx hs;obtain ⟨g1,g2,g3⟩:=h0 x T hx hs
 have hkm:k=mv:=by
  rcases hk with q | q
  . exact q
  . rw [h6] at q;cases q
 refine ⟨g1,?_,?_⟩
 . have e:x.take (i + 1)=x.take i ++ [x.getD i q0]:=by
    rw [List.take_succ_eq_append_getElem h1];simp [h1]
   rw [e,<- g2,h2,h3,h5,hkm,h4,List.take_length]
 . rw [h6,hkm,h4,List.drop_length];simp [smlI]
theorem DG.out {s s':Rd} {n i:Nat} {l:List Pl} (h:DG s n i l s') (hi:i=n \/ s'.2=true):∀ x T,DPok x -> s=(smlI (plansI x) ++ T,false) -> l=x /\ s'=(T,false):=by
 intro x T hx hs;obtain ⟨h1,h2,h3⟩:=h x T hx hs
 have hin:i=x.length:=by
  rcases hi with q | q
  . omega
  . rw [h3] at q;cases q
 refine ⟨by rw [h2,hin,List.take_length],?_⟩;rw [h3,hin,List.drop_length];simp
end Go.Proofs.YtakilpnbjihibaaGreatDoor
